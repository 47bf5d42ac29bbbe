/- Words, as functions of plain data. -/
import Derived.BigQuiet
import Derived.ChangeOld
import Derived.Deep.AppendLies
import Derived.Deep.DeepCutAuto
import Derived.Deep.DeepHandedRow
import Derived.Deep.QuietTactic
import Derived.Deep.RegionHeld3
import Derived.Deep.RegionHeldLaw
import Derived.Deep.RegionWith
import Derived.Deep.Slices
import Derived.Laws.AppendOwnNone
import Derived.Laws.Bits64b
import Derived.Laws.BitsLemmas
import Derived.Laws.CopyOwn
import Derived.Laws.IdiomStrings
import Derived.Laws.Slices
import Derived.Lib.LaidTab
import Derived.Lib.OthersKept
import Derived.Lib.SliceRun
import Derived.Lib.SmallJoins
import Derived.LoopIn
import Derived.LoopN
import Derived.LoopNIn
import Derived.Maps.AppendAt
import Derived.OpenShut
import Derived.OwnWalkIn
import Derived.ProofKit
import Derived.ScopeJumps
import Derived.SizedLaws
import Derived.TacticsInMore
import Derived.WalkKit
import Derived.WalkLawsBesides
import Derived.WalkMore
import Derived.WalkSpells
import Derived.Shelf.Unicode.DecodeAny
import Derived.Lib.TrimU
import Derived.Lib.RuneCountTail
import Derived.Shelf.Unicode.DecodeLastEight
import Derived.Test.YtipioeecgcljoaaDoorRows
import Derived.Test.YtipioeecgcljoaaDoorChecked
namespace Go.Proofs.YtipioeecgcljoaaDoor
set_option linter.unusedVariables false
set_option linter.unusedSimpArgs false
set_option maxRecDepth 100000
open Go.RowKit

theorem Below.after {w w1 w2 : World} (h1 : Below w.heap.size w w1) (h2 : Below w1.heap.size w1 w2) : Below w.heap.size w w2 :=
  h1.trans (h2.mono h1.size)
theorem Below.push {w0 w : World} (h : Below w0.heap.size w0 w) (o : Obj) : Below w0.heap.size w0 (w.alloc o) := h.alloc h.size o
/-- A letter, a digit: of a rune's number. -/
def letR (r : Nat) : Bool := (decide (97 ≤ r) && decide (r ≤ 122)) || (decide (945 ≤ r) && decide (r ≤ 969))
def digR (r : Nat) : Bool := decide (48 ≤ r) && decide (r ≤ 57)
/-- Is what is from place p on, behind n runes, the rest of a name? -/
def nameN (s : ByteArray) : Nat → Nat → Nat → Bool
  | 0, _, _ => false
  | f + 1, p, n => if p < s.size then (if letR (Utf8.decode s p).1 || (decide (n ≠ 0) && digR (Utf8.decode s p).1) then nameN s f (p + (Utf8.decode s p).2) (n + 1) else false) else decide (1 ≤ n ∧ n ≤ 6)
def nameB (s : ByteArray) : Bool := nameN s (s.size + 1) 0 0
theorem rest_size (s : ByteArray) (p : Nat) : (s.extract p s.size).size = s.size - p := Lib.tail_size s p
theorem rest_rest (s : ByteArray) (p k : Nat) : (s.extract p s.size).extract k (s.extract p s.size).size = s.extract (p + k) s.size := by
  apply ByteArray.ext
  rw [rest_size]
  simp only [ByteArray.data_extract]
  rw [Array.extract_extract]
  congr 1
  omega
theorem rest_all (s : ByteArray) : s.extract 0 s.size = s := by
  simp
theorem decode_rest (s : ByteArray) (p : Nat) (h : p < s.size) : Lib.decodeGo (s.extract p s.size) = Utf8.decode s p := by
  have h1 : (s.extract p s.size).size ≠ 0 := by rw [rest_size]; omega
  rw [Lib.decodeGo, if_neg h1, Lib.tail_decode, Nat.add_zero]
theorem decode_le (s : ByteArray) (p : Nat) (h : p < s.size) : p + (Utf8.decode s p).2 ≤ s.size := by
  have h1 := Lib.decodeGo_le_size (s.extract p s.size)
  rw [decode_rest s p h, rest_size] at h1
  omega
theorem decode_lo (s : ByteArray) (p : Nat) : 1 ≤ (Utf8.decode s p).2 := Lib.width_pos s p
theorem decode_hi (s : ByteArray) (p : Nat) : (Utf8.decode s p).1 ≤ 1114111 := Lib.rune_le s p
end Go.Proofs.YtipioeecgcljoaaDoor
