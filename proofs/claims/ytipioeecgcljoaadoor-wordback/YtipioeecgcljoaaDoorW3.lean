/- A line's words, as functions of plain data; what a slice holds, cell by cell. -/
import Derived.Test.YtipioeecgcljoaaDoorW2
namespace Go.Proofs.YtipioeecgcljoaaDoor
set_option linter.unusedVariables false
set_option linter.unusedSimpArgs false
set_option maxRecDepth 100000
open Go.RowKit

/-- What a slice of n elements holds, cell by cell. -/
def Holds (w : World) (v : Value) (n : Nat) (xs : List Value) : Prop :=
  ∃ a c, v = .slice a n c ∧ ∀ j u, xs[j]? = some u → ∃ b off, a = some ⟨b, off, none⟩ ∧ w.cell? ⟨b, off + j, none⟩ = some u
theorem Holds.later {w w' : World} {v : Value} {n : Nat} {xs : List Value} (h : Holds w v n xs) (hb : Below w.heap.size w w') : Holds w' v n xs := by
  obtain ⟨a, c, rfl, hc⟩ := h
  refine ⟨a, c, rfl, fun j u hu => ?_⟩
  obtain ⟨b, off, ha, hx⟩ := hc j u hu
  exact ⟨b, off, ha, cell_later hb hx⟩
theorem Holds.drew {w : World} {v : Value} {n : Nat} {xs : List Value} (h : Holds w v n xs) : Holds w.drew v n xs := h
theorem ownsR_later {B : Nat} {e : TypeId} {k : Nat} {v : Value} {n : Nat} {xs : List Value} {w w' : World} (h : w.ownsRow B e k v n xs) (hb : Below w.heap.size w w') : w'.ownsRow B e k v n xs := by
  refine ⟨h.1, ?_⟩
  rcases h.2 with h0 | ⟨g, cap, cur, rfl, h1, hh, h2⟩
  · exact Or.inl h0
  · exact Or.inr ⟨g, cap, cur, rfl, h1, (hb.block g (Array.getElem?_eq_some_iff.1 hh).1).trans hh, h2⟩
theorem addr_addW (b off j : Nat) : (⟨b, off, none⟩ : Addr).add j = ⟨b, off + j, none⟩ := by
  by_cases h0 : j = 0
  · subst h0; simp [Addr.add]
  · simp [Addr.add, h0]
theorem Holds.own {B : Nat} {e : TypeId} {k : Nat} {v : Value} {n : Nat} {xs : List Value} {w : World} (h : w.ownsRow B e k v n xs) : Holds w v n xs := by
  rcases h.2 with ⟨rfl, rfl⟩ | ⟨g, cap, cur, rfl, _⟩
  · have hx : xs = [] := List.eq_nil_of_length_eq_zero (by simpa using h.1)
    subst hx
    exact ⟨none, 0, rfl, fun j u hu => by simp at hu⟩
  · refine ⟨_, _, rfl, fun j u hu => ⟨g, 0, rfl, ?_⟩⟩
    have := h.cells (g := g) rfl j u hu
    rw [addr_addW] at this
    exact this
theorem Holds.nil (w : World) : Holds w (.slice none 0 0) 0 [] := ⟨none, 0, rfl, fun j u hu => by simp at hu⟩
/-- A word: its text, its place. -/
abbrev Tok := ByteArray × Nat
def cellsT : List Tok → List Value
  | [] => []
  | t :: r => .string t.1 :: .int .i64 t.2 :: cellsT r
theorem cellsT_snoc (l : List Tok) (t : Tok) : cellsT (l ++ [t]) = cellsT l ++ [.string t.1, .int .i64 t.2] := by
  induction l with
  | nil => rfl
  | cons a r ih => simp [cellsT, ih]
theorem cellsT_len (l : List Tok) : (cellsT l).length = l.length * 2 := by
  induction l with
  | nil => rfl
  | cons a r ih => simp [cellsT, ih]; omega
theorem cellsT_0 : ∀ (l : List Tok) (i : Nat) (h : i < l.length), (cellsT l)[i * 2]? = some (.string l[i].1)
  | t :: r, 0, _ => rfl
  | t :: r, i + 1, h => by
    rw [show (i + 1) * 2 = i * 2 + 1 + 1 from by omega]
    simpa [cellsT] using cellsT_0 r i (by simpa using h)
theorem cellsT_1 : ∀ (l : List Tok) (i : Nat) (h : i < l.length), (cellsT l)[i * 2 + 1]? = some (.int .i64 l[i].2)
  | t :: r, 0, _ => rfl
  | t :: r, i + 1, h => by
    rw [show (i + 1) * 2 + 1 = i * 2 + 1 + 1 + 1 from by omega]
    simpa [cellsT] using cellsT_1 r i (by simpa using h)
/-- Is this rune bad in a line? -/
def badR (r k : Nat) : Bool := (decide (r = 65533) && decide (k ≤ 1)) || (!letR r && !digR r && decide (r ≠ 45) && decide (r ≠ 61) && decide (r ≠ 32) && decide (r ≠ 9))
/-- The first bad place from p on. -/
def badN (s : ByteArray) : Nat → Nat → Option Nat
  | 0, _ => none
  | f + 1, p => if p < s.size then (if badR (Utf8.decode s p).1 (Utf8.decode s p).2 then some p else badN s f (p + (Utf8.decode s p).2)) else none
def badW (s : ByteArray) : Option Nat := badN s (s.size + 1) 0
/-- The byte at a place; behind the end: a blank. -/
def byteE (s : ByteArray) (i : Nat) : Nat := if h : i < s.size then (s[i]'h).toNat else 32
def endB (s : ByteArray) (i : Nat) : Bool := decide (byteE s i = 32) || decide (byteE s i = 9) || decide (byteE s i = 61)
def endT (s : ByteArray) (i : Nat) (st : Option Nat × List Tok) : List Tok := match st.1 with
  | some f => st.2 ++ [(s.extract f i, f)]
  | none => st.2
def tokStep (s : ByteArray) (i : Nat) (st : Option Nat × List Tok) : Option Nat × List Tok :=
  if endB s i then (none, if byteE s i = 61 then endT s i st ++ [(⟨#[61]⟩, i)] else endT s i st)
  else (match st.1 with | some f => some f | none => some i, st.2)
def tokSt (s : ByteArray) : Nat → Option Nat × List Tok
  | 0 => (none, [])
  | k + 1 => tokStep s k (tokSt s k)
/-- A line's words. -/
def toksW (s : ByteArray) : List Tok := (tokSt s (s.size + 1)).2
theorem tokSt_lt (s : ByteArray) : ∀ k f, (tokSt s k).1 = some f → f < k
  | 0, f, h => by simp [tokSt] at h
  | k + 1, f, h => by
    rw [tokSt, tokStep] at h
    split at h
    · simp at h
    · cases e : (tokSt s k).1 with
      | none => rw [e] at h; simp at h; omega
      | some g => rw [e] at h; simp at h; have := tokSt_lt s k g e; omega
theorem tokSt_len (s : ByteArray) : ∀ k, (tokSt s k).2.length ≤ 2 * k
  | 0 => by simp [tokSt]
  | k + 1 => by
    have ih := tokSt_len s k
    rw [tokSt, tokStep]
    have h1 : (endT s k (tokSt s k)).length ≤ (tokSt s k).2.length + 1 := by
      rw [endT]; split <;> simp
    split
    · split
      · simp only [List.length_append, List.length_cons, List.length_nil]; omega
      · simp only; omega
    · simp only; omega
def fromV : Option Nat → Value
  | some f => .int .i64 f
  | none => .int .i64 (-1)
theorem byteE_lt {s : ByteArray} {i : Nat} (h : i < s.size) : byteE s i = (s[i]'h).toNat := by rw [byteE, dif_pos h]
theorem byteE_end (s : ByteArray) : byteE s s.size = 32 := by rw [byteE, dif_neg (Nat.lt_irrefl _)]
theorem step_end {s : ByteArray} {i : Nat} {st : Option Nat × List Tok} (h : byteE s i = 32 ∨ byteE s i = 9) : tokStep s i st = (none, endT s i st) := by
  rw [tokStep, if_pos (by rw [endB]; rcases h with h | h <;> simp [h]), if_neg (by omega)]
theorem step_eq {s : ByteArray} {i : Nat} {st : Option Nat × List Tok} (h : byteE s i = 61) : tokStep s i st = (none, endT s i st ++ [(⟨#[61]⟩, i)]) := by
  rw [tokStep, if_pos (by rw [endB]; simp [h]), if_pos h]
theorem step_in {s : ByteArray} {i : Nat} {st : Option Nat × List Tok} (h : ¬ byteE s i = 32) (h2 : ¬ byteE s i = 9) (h3 : ¬ byteE s i = 61) : tokStep s i st = (match st.1 with | some f => some f | none => some i, st.2) := by
  rw [tokStep, if_neg (by rw [endB]; simp [h, h2, h3])]
theorem infoK' : (Tryd.prog.info? 53).map (fun i => (i.zero, i.size, i.bytes)) = some (some (.agg #[.string ⟨#[]⟩, .int .i64 0]), 2, 24) := by kernel_rfl
theorem infoK : ∃ i, Tryd.prog.info? 53 = some i ∧ i.zero = some (.agg #[.string ⟨#[]⟩, .int .i64 0]) ∧ i.size = 2 ∧ i.bytes = 24 := by
  have h := infoK'
  cases e : Tryd.prog.info? 53 with
  | none => rw [e] at h; simp at h
  | some i => rw [e] at h; simp at h; exact ⟨i, rfl, h⟩
theorem infoS' : (Tryd.prog.info? 9).map (fun i => (i.zero, i.size, i.bytes)) = some (some (.string ⟨#[]⟩), 1, 16) := by kernel_rfl
theorem infoS : ∃ i, Tryd.prog.info? 9 = some i ∧ i.zero = some (.string ⟨#[]⟩) ∧ i.size = 1 ∧ i.bytes = 16 := by
  have h := infoS'
  cases e : Tryd.prog.info? 9 with
  | none => rw [e] at h; simp at h
  | some i => rw [e] at h; simp at h; exact ⟨i, rfl, h⟩
end Go.Proofs.YtipioeecgcljoaaDoor
