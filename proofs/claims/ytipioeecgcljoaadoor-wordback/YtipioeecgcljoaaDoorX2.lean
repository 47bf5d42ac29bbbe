/- Contract: package word's Number. -/
import Derived.Test.YtipioeecgcljoaaDoorX1
namespace Go.Proofs.YtipioeecgcljoaaDoor
set_option linter.unusedVariables false
set_option linter.unusedSimpArgs false
set_option maxRecDepth 100000
open Go.RowKit

/- What is cut off ahead of a number's digits. -/
theorem trim_neg {s : ByteArray} (h : 0 < s.size) (h45 : (s[0]'h).toNat = 45) : Lib.hasPrefix s.data.toList [45] = true ∧ (⟨(Lib.trimPrefix s.data.toList [45]).toArray⟩ : ByteArray) = s.extract 1 s.size := by
  have e : Lib.hasPrefix s.data.toList [45] = true := by
    obtain ⟨⟨l⟩⟩ := s
    cases l with
    | nil => simp [ByteArray.size] at h
    | cons c r =>
      have h1 : c.toNat = 45 := by simpa [ByteArray.getElem_eq_getElem_data] using h45
      have h2 : c = 45 := UInt8.toNat_inj.1 h1
      simp [Lib.hasPrefix, h2]
  refine ⟨e, ?_⟩
  apply ByteArray.ext
  have h2 := Lib.extract_data s 1 s.size
  apply Array.toList_inj.1
  rw [h2, Lib.trimPrefix, if_pos e]
  simp only [List.length_cons, List.length_nil, List.drop_one, Nat.zero_add]
  rw [List.take_of_length_le]
  rw [List.length_tail, len_list]
  exact Nat.le_refl _
theorem trim_plain {s : ByteArray} (h : s.size = 0 ∨ ∃ h : 0 < s.size, ¬ (s[0]'h).toNat = 45) : Lib.hasPrefix s.data.toList [45] = false ∧ (⟨(Lib.trimPrefix s.data.toList [45]).toArray⟩ : ByteArray) = s := by
  have e : Lib.hasPrefix s.data.toList [45] = false := by
    obtain ⟨⟨l⟩⟩ := s
    cases l with
    | nil => rfl
    | cons c r =>
      rcases h with h | ⟨h, h45⟩
      · simp [ByteArray.size] at h
      · have h1 : ¬ c.toNat = 45 := by simpa [ByteArray.getElem_eq_getElem_data] using h45
        have h2 : ¬ (45 : UInt8) = c := fun e => h1 (by rw [← e]; rfl)
        show (decide ((45 : UInt8) = c) && _) = false
        rw [decide_eq_false h2]
        rfl
  refine ⟨e, ?_⟩
  rw [Lib.trimPrefix, e]
  simp
/-- The digits, as a text; is there a sign ahead? -/
def digB (s : ByteArray) : ByteArray := if h : 0 < s.size then (if (s[0]'h).toNat = 45 then s.extract 1 s.size else s) else s
def negB (s : ByteArray) : Bool := if h : 0 < s.size then decide ((s[0]'h).toNat = 45) else false
theorem trim_all (s : ByteArray) : (⟨(Lib.trimPrefix s.data.toList [45]).toArray⟩ : ByteArray) = digB s ∧ Lib.hasPrefix s.data.toList [45] = negB s := by
  by_cases h : 0 < s.size
  · by_cases h45 : (s[0]'h).toNat = 45
    · have := trim_neg h h45
      rw [digB, negB, dif_pos h, dif_pos h, if_pos h45, decide_eq_true h45]
      exact ⟨this.2, this.1⟩
    · have := trim_plain (Or.inr ⟨h, h45⟩)
      rw [digB, negB, dif_pos h, dif_pos h, if_neg h45, decide_eq_false h45]
      exact ⟨this.2, this.1⟩
  · have := trim_plain (s := s) (Or.inl (by omega))
    rw [digB, negB, dif_neg h, dif_neg h]
    exact ⟨this.2, this.1⟩
theorem digB_numD (s : ByteArray) : (digB s).data.toList = numD s.data.toList := by
  by_cases h : 0 < s.size
  · by_cases h45 : (s[0]'h).toNat = 45
    · rw [digB, dif_pos h, if_pos h45, numD_neg h h45]
    · rw [digB, dif_pos h, if_neg h45, numD_plain h h45]
  · rw [digB, dif_neg h]
    obtain ⟨⟨l⟩⟩ := s
    cases l with
    | nil => rfl
    | cons c r => simp [ByteArray.size] at h
theorem digB_len (s : ByteArray) : (digB s).size = s.size - (if negB s then 1 else 0) := by
  by_cases h : 0 < s.size
  · by_cases h45 : (s[0]'h).toNat = 45
    · rw [digB, negB, dif_pos h, dif_pos h, if_pos h45, decide_eq_true h45, ByteArray.size_extract]; simp
    · rw [digB, negB, dif_pos h, dif_pos h, if_neg h45, decide_eq_false h45]; simp
  · rw [digB, negB, dif_neg h, dif_neg h]; simp
theorem negB_lt {s : ByteArray} (h : negB s = true) : 0 < s.size := by
  rw [negB] at h
  split at h
  · assumption
  · cases h
/- What stands in the way of a number. -/
theorem digV_mono (l : List UInt8) : ∀ (d k : Nat), k + d ≤ l.length → digV (l.take k) ≤ digV (l.take (k + d))
  | 0, k, _ => Nat.le_refl _
  | d + 1, k, h => by
    have h1 := digV_mono l d k (by omega)
    have h2 := digV_take l (k + d) (by omega)
    rw [← Nat.add_assoc, h2]
    omega
theorem digV_all (l : List UInt8) (k : Nat) (h : k ≤ l.length) : digV (l.take k) ≤ digV l := by
  have := digV_mono l (l.length - k) k (by omega)
  rw [show k + (l.length - k) = l.length by omega, List.take_length] at this
  exact this
theorem digV_pow (l : List UInt8) (h0 : ∀ h : 0 < l.length, 49 ≤ (l[0]).toNat) : ∀ k, k < l.length → 10 ^ k ≤ digV (l.take (k + 1))
  | 0, h => by
    rw [digV_take l 0 h]
    have := h0 h
    omega
  | k + 1, h => by
    have ih := digV_pow l h0 k (by omega)
    rw [digV_take l (k + 1) h, Nat.pow_succ]
    omega
theorem numP_not_rune {s : ByteArray} {i : Nat} (hi : i < (digB s).size) (h : ¬ (48 ≤ ((digB s)[i]'hi).toNat ∧ ((digB s)[i]'hi).toNat ≤ 57)) : ¬ numP s.data.toList := by
  intro hp
  have h1 := hp.2.2.2.1 ((digB s)[i]'hi) (by
    rw [← digB_numD, ← get_list (digB s) i hi (by rw [len_list]; exact hi)]
    exact List.getElem_mem _)
  exact h h1
theorem numP_not_zero {s : ByteArray} (h0 : 0 < (digB s).size) (h48 : ((digB s)[0]'h0).toNat = 48) (h : 1 < (digB s).size ∨ negB s = true) : ¬ numP s.data.toList := by
  intro hp
  refine hp.2.2.1 ⟨?_, ?_⟩
  · rw [← digB_numD, List.getD_eq_getElem?_getD, List.getElem?_eq_getElem (by rw [len_list]; exact h0), Option.getD_some, get_list (digB s) 0 h0]
    exact h48
  · intro e
    have h1 : s.size = 1 := by rw [← len_list, e]; rfl
    have h2 := digB_len s
    rcases h with h | h
    · split at h2 <;> omega
    · rw [h] at h2; simp at h2; omega
theorem numP_not_many {s : ByteArray} {k : Nat} (h : k ≤ (digB s).size) (hv : 1073741824 < digV ((digB s).data.toList.take k)) : ¬ numP s.data.toList := by
  intro hp
  have h1 := hp.2.2.2.2
  rw [← digB_numD] at h1
  have := digV_all (digB s).data.toList k (by rw [len_list]; exact h)
  omega
theorem numP_not_none {s : ByteArray} (h : (digB s).size = 0) : ¬ numP s.data.toList := by
  intro hp
  have h1 := hp.1
  rw [← digB_numD, len_list] at h1
  omega
theorem only_48 {b s : ByteArray} (h1 : 0 < b.size) (g3 : b.size = 1) (g1 : (b[0]'h1).toNat = 48) (g6 : b = s) : s.data.toList = [48] := by
  subst g6
  obtain ⟨⟨l⟩⟩ := b
  match l, h1, g3, g1 with
  | [c], h1, _, g1 =>
    have : c.toNat = 48 := by simpa [ByteArray.getElem_eq_getElem_data] using g1
    have : c = 48 := UInt8.toNat_inj.1 this
    rw [this]
  | [], h1, g3, _ => simp [ByteArray.size] at g3
  | a :: b :: r, h1, g3, _ => simp [ByteArray.size] at g3
/-- All went well. -/
theorem num_well {s : ByteArray} (h1 : 0 < (digB s).size) (h2 : ∀ j (hj : j < (digB s).size), 48 ≤ ((digB s)[j]'hj).toNat ∧ ((digB s)[j]'hj).toNat ≤ 57) (h3 : ((digB s)[0]'h1).toNat = 48 → (digB s).size = 1 ∧ negB s = false) (h4 : digV (digB s).data.toList ≤ 1073741824) :
    numK s.data.toList = true ∧ numV s.data.toList = if negB s then -(digV (digB s).data.toList : Int) else digV (digB s).data.toList := by
  have hl : (numD s.data.toList).length = (digB s).size := by rw [← digB_numD, len_list]
  have hp : numP s.data.toList := by
    refine ⟨by omega, ?_, ?_, ?_, by rw [← digB_numD]; exact h4⟩
    · rw [hl]
      apply Nat.le_of_not_lt
      intro hlt
      have h5 := digV_pow (digB s).data.toList (fun h => by
        rw [get_list (digB s) 0 h1]
        have := (h2 0 h1).1
        by_cases e : ((digB s)[0]'h1).toNat = 48
        · have := (h3 e).1; omega
        · omega) 10 (by rw [len_list]; exact hlt)
      have h6 := digV_all (digB s).data.toList (10 + 1) (by rw [len_list]; omega)
      omega
    · rintro ⟨g1, g2⟩
      apply g2
      rw [← digB_numD, List.getD_eq_getElem?_getD, List.getElem?_eq_getElem (by rw [len_list]; exact h1), Option.getD_some, get_list (digB s) 0 h1] at g1
      obtain ⟨g3, g4⟩ := h3 g1
      have g5 := digB_len s
      rw [g4] at g5
      have g6 : digB s = s := by
        rw [digB]
        split
        · rename_i hz
          rw [if_neg]
          intro g7
          rw [negB, dif_pos hz, decide_eq_true g7] at g4
          cases g4
        · rfl
      exact only_48 h1 g3 g1 g6
    · intro c hc
      rw [← digB_numD] at hc
      obtain ⟨j, hj, rfl⟩ := List.getElem_of_mem hc
      rw [get_list (digB s) j (by rw [len_list] at hj; exact hj)]
      exact h2 j _
  obtain ⟨e1, e2⟩ := num_yes hp
  refine ⟨e2, ?_⟩
  rw [e1, hl, digB_numD, len_list]
  have h5 := digB_len s
  cases hn : negB s with
  | true =>
    have h6 := negB_lt hn
    rw [hn, if_pos rfl] at h5
    rw [if_pos (by omega)]
    rfl
  | false =>
    rw [hn, if_neg (by decide)] at h5
    rw [if_neg (by omega)]
    rfl
end Go.Proofs.YtipioeecgcljoaaDoor
