/- Carried: C01. -/
import Derived.BigQuiet
import Derived.ChangeOld
import Derived.Deep.AppendLies
import Derived.Deep.DeepCutAuto
import Derived.Deep.DeepHandedRow
import Derived.Deep.QuietTactic
import Derived.Deep.RegionHeld3
import Derived.Deep.RegionHeldLaw
import Derived.Deep.RegionWith
import Derived.Deep.Slices
import Derived.Deep.Strs
import Derived.Laws.AppendOwnNone
import Derived.Laws.Bits64b
import Derived.Laws.BitsLemmas
import Derived.Laws.BytesString
import Derived.Laws.CopyOwn
import Derived.Laws.Cover4
import Derived.Laws.IdiomStrings
import Derived.Laws.Slices
import Derived.Laws.StructEq
import Derived.Lib.MapLaws
import Derived.Lib.OthersKept
import Derived.Lib.RuneCountTail
import Derived.Lib.SliceRun
import Derived.Lib.SmallJoins
import Derived.Lib.SpaceUEq
import Derived.Lib.SplitLaws
import Derived.Lib.TrimU
import Derived.LoopIn
import Derived.LoopN
import Derived.LoopNIn
import Derived.Maps.AppendAt
import Derived.OpenShut
import Derived.OwnWalkIn
import Derived.ProofKit
import Derived.RangeFuncBound
import Derived.RangeFuncBox
import Derived.RangeFuncCalls
import Derived.RangeFuncLeaves
import Derived.RangeFuncNested
import Derived.ScopeJumps
import Derived.Shelf.Abstract
import Derived.Shelf.LaysM
import Derived.Shelf.RegionOpen
import Derived.Shelf.Slices.Turned
import Derived.Shelf.Small.Wraps
import Derived.SizedLaws
import Derived.TacticsInMore
import Derived.WalkKit
import Derived.WalkLawsBesides
import Derived.WalkMore
import Derived.WalkSpells
import Derived.Test.YtjfkhfahpjdidaaRows
import Derived.Test.YtjfkhfahpjdidaaChecked
namespace Go.Proofs.Ytjfkhfahpjdidaa
set_option linter.unusedVariables false
set_option linter.unusedSimpArgs false
set_option maxRecDepth 100000

/-- More numbers than fit into what may be handed in. -/
def big : Nat := 17592186044416
theorem big_max : big ≤ maxLen := by decide
def prd (d : List Int) : Int := d.foldl (fun a x => a * x) 1
def inr (d : List Int) : Bool := d.all (fun x => decide (1 ≤ x) && decide (x ≤ 8))
def okd (d : List Int) : Bool := decide (1 ≤ d.length) && decide (d.length ≤ 3) && inr d && decide (prd d ≤ 64)
def dig (x : Int) : UInt8 := UInt8.ofNat (48 + x.toNat)
def txt (d : List Int) : ByteArray := ⟨(d.map dig).toArray⟩
def erf (d : List Int) : Int := if okd d then 0 else 1
def spT (d : List Int) : ByteArray := if okd d then txt d else ⟨#[]⟩
theorem prd_snoc (l : List Int) (x : Int) : prd (l ++ [x]) = prd l * x := by simp [prd]
theorem inr_snoc (l : List Int) (x : Int) : inr (l ++ [x]) = (inr l && (decide (1 ≤ x) && decide (x ≤ 8))) := by simp [inr]
theorem txt_snoc (l : List Int) (x : Int) : txt (l ++ [x]) = txt l ++ ⟨#[dig x]⟩ := by
  have h := ByteArray.mk_append_mk (l.map dig) [dig x]
  simp only [txt, List.map_append, List.map_cons, List.map_nil]
  exact h.symm
theorem take_snoc (d : List Int) (k : Nat) (h : k < d.length) : d.take (k + 1) = d.take k ++ [d[k]] := by
  rw [List.take_succ_eq_append_getElem h]
theorem inr_mem {d : List Int} (h : inr d = true) {x : Int} (hx : x ∈ d) : 1 ≤ x ∧ x ≤ 8 := by
  simp only [inr, List.all_eq_true, Bool.and_eq_true, decide_eq_true_eq] at h
  exact h x hx
theorem inr_take {d : List Int} (h : inr d = true) (k : Nat) : inr (d.take k) = true := by
  simp only [inr, List.all_eq_true, Bool.and_eq_true, decide_eq_true_eq] at h ⊢
  exact fun x hx => h x (List.mem_of_mem_take hx)
theorem inr_bad {d : List Int} (k : Nat) (h : k < d.length) (hb : ¬ (1 ≤ d[k] ∧ d[k] ≤ 8)) : inr d = false := by
  cases hi : inr d with
  | false => rfl
  | true => exact absurd (inr_mem hi (List.getElem_mem h)) hb
theorem prd_lo {l : List Int} (h : inr l = true) : 1 ≤ prd l := by
  have key : ∀ (l : List Int) (a : Int), 1 ≤ a → (∀ x ∈ l, 1 ≤ x) → 1 ≤ l.foldl (fun a x => a * x) a := by
    intro l
    induction l with
    | nil => intro a ha _; exact ha
    | cons x l ih =>
      intro a ha hx
      refine ih (a * x) ?_ fun y hy => hx y (List.mem_cons_of_mem _ hy)
      have := hx x (List.mem_cons_self ..)
      have := Int.mul_le_mul ha this (by omega) (by omega)
      omega
  exact key l 1 (by omega) fun x hx => (inr_mem h hx).1
theorem prd_hi {l : List Int} (h : inr l = true) (k : Nat) (hk : l.length ≤ k) : prd l ≤ 8 ^ k := by
  have key : ∀ (l : List Int) (a : Int) (k : Nat), 1 ≤ a → (∀ x ∈ l, 1 ≤ x ∧ x ≤ 8) → l.length ≤ k → l.foldl (fun a x => a * x) a ≤ a * 8 ^ k := by
    intro l
    induction l with
    | nil =>
      intro a k ha _ _
      have h8 : (1 : Int) ≤ 8 ^ k := by
        have : (0 : Int) < 8 ^ k := Int.pow_pos (by omega)
        omega
      have ha0 : (0 : Int) ≤ a := by omega
      have := Int.mul_le_mul_of_nonneg_left h8 ha0
      simpa using this
    | cons x l ih =>
      intro a k ha hx hl
      obtain ⟨k, rfl⟩ : ∃ j, k = j + 1 := ⟨k - 1, by simp at hl; omega⟩
      have hx0 := hx x (List.mem_cons_self ..)
      have h1 : 1 ≤ a * x := by
        have := Int.mul_le_mul ha hx0.1 (by omega) (by omega)
        omega
      refine Int.le_trans (ih (a * x) k h1 (fun y hy => hx y (List.mem_cons_of_mem _ hy)) (by simp at hl; omega)) ?_
      rw [Int.pow_succ, ← Int.mul_assoc, Int.mul_right_comm a (8 ^ k) 8]
      refine Int.mul_le_mul_of_nonneg_right ?_ (Int.le_of_lt (Int.pow_pos (by omega)))
      exact Int.mul_le_mul_of_nonneg_left hx0.2 (by omega)
  have := key l 1 k (by omega) (fun x hx => inr_mem h hx) hk
  rw [Int.one_mul] at this
  exact this
theorem okd_parts {d : List Int} (h : okd d = true) : 1 ≤ d.length ∧ d.length ≤ 3 ∧ inr d = true ∧ prd d ≤ 64 := by
  simp only [okd, Bool.and_eq_true, decide_eq_true_eq] at h
  exact ⟨h.1.1.1, h.1.1.2, h.1.2, h.2⟩
theorem okd_mk {d : List Int} (h1 : 1 ≤ d.length) (h2 : d.length ≤ 3) (h3 : inr d = true) (h4 : prd d ≤ 64) : okd d = true := by
  simp [okd, h1, h2, h3, h4]
theorem okd_len {d : List Int} (h : d.length < 1 ∨ 3 < d.length) : okd d = false := by
  cases hi : okd d with
  | false => rfl
  | true => obtain ⟨a, b, _⟩ := okd_parts hi; omega
theorem okd_inr {d : List Int} (h : inr d = false) : okd d = false := by simp [okd, h]
theorem okd_prd {d : List Int} (h : 64 < prd d) : okd d = false := by
  have : ¬ prd d ≤ 64 := by omega
  simp [okd, this]
theorem erf_ok {d : List Int} (h : okd d = true) : erf d = 0 := by simp [erf, h]
theorem erf_bad {d : List Int} (h : okd d = false) : erf d = 1 := by simp [erf, h]
theorem spT_ok {d : List Int} (h : okd d = true) : spT d = txt d := by simp [spT, h]
theorem spT_bad {d : List Int} (h : okd d = false) : spT d = ⟨#[]⟩ := by simp [spT, h]
theorem enc_dig (x : Int) (h1 : 1 ≤ x) (h2 : x ≤ 8) : Utf8.encode (48 + x) = ⟨#[dig x]⟩ := by
  have : x = 1 ∨ x = 2 ∨ x = 3 ∨ x = 4 ∨ x = 5 ∨ x = 6 ∨ x = 7 ∨ x = 8 := by omega
  rcases this with rfl | rfl | rfl | rfl | rfl | rfl | rfl | rfl <;> decide +kernel
theorem size_txt (d : List Int) : (txt d).size = d.length := by simp [txt, ByteArray.size]
end Go.Proofs.Ytjfkhfahpjdidaa
