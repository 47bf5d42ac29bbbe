/- Carried: C06. -/
import Derived.Test.YtjfkhfahpjdidaaC04
namespace Go.Proofs.Ytjfkhfahpjdidaa
set_option linter.unusedVariables false
set_option linter.unusedSimpArgs false
set_option maxRecDepth 100000

/-- Where the turned one's number q comes from (m rows, n columns). -/
def tinv (m n q : Nat) : Nat := (q % m) * n + q / m
theorem tinv_lt {m n q : Nat} (h : q < m * n) : tinv m n q < m * n := by
  have hm : 0 < m := by
    rcases Nat.eq_zero_or_pos m with e | e
    · subst e; simp at h
    · exact e
  have h1 : q % m < m := Nat.mod_lt _ hm
  have h2 : q / m < n := Nat.div_lt_of_lt_mul h
  have h3 : (q % m + 1) * n ≤ m * n := Nat.mul_le_mul_right n h1
  rw [Nat.add_mul, Nat.one_mul] at h3
  unfold tinv
  omega
theorem tinv_back {m n q : Nat} (h : q < m * n) : tinv n m (tinv m n q) = q := by
  have hm : 0 < m := by
    rcases Nat.eq_zero_or_pos m with e | e
    · subst e; simp at h
    · exact e
  have h2 : q / m < n := Nat.div_lt_of_lt_mul h
  have e1 : tinv m n q % n = q / m := by
    unfold tinv
    rw [Nat.add_comm, Nat.add_mul_mod_self_right]
    exact Nat.mod_eq_of_lt h2
  have e2 : tinv m n q / n = q % m := by
    unfold tinv
    rw [Nat.add_comm, Nat.add_mul_div_right _ _ (by omega), Nat.div_eq_of_lt h2, Nat.zero_add]
  show (tinv m n q % n) * m + tinv m n q / n = q
  rw [e1, e2, Nat.mul_comm]
  exact Nat.div_add_mod q m
/-- Turned as far as j numbers. -/
def trn (m n : Nat) (l : List Int) (j : Nat) : List Int := (List.range (m * n)).map fun q => if tinv m n q < j then l.getD (tinv m n q) 0 else 0
def tns (m n : Nat) (l : List Int) : List Int := (List.range (m * n)).map fun q => l.getD (tinv m n q) 0
theorem trn_length (m n : Nat) (l : List Int) (j : Nat) : (trn m n l j).length = m * n := by simp [trn]
theorem tns_length (m n : Nat) (l : List Int) : (tns m n l).length = m * n := by simp [tns]
theorem trn_zero (m n : Nat) (l : List Int) : trn m n l 0 = List.replicate (m * n) 0 := by
  apply List.ext_getElem
  · simp [trn]
  · intro i h1 h2
    simp [trn]
theorem trn_all (m n : Nat) (l : List Int) : trn m n l (m * n) = tns m n l := by
  apply List.ext_getElem
  · simp [trn, tns]
  · intro i h1 h2
    have : i < m * n := by simpa [trn] using h1
    simp [trn, tns, tinv_lt this]
theorem trn_set (m n : Nat) (l : List Int) (j : Nat) (hj : j < m * n) : (trn m n l j).set (tinv n m j) (l.getD j 0) = trn m n l (j + 1) := by
  apply List.ext_getElem
  · simp [trn]
  · intro i h1 h2
    have hi : i < m * n := by simpa [trn] using h2
    have hb := tinv_back hi
    have hj' : j < n * m := by rw [Nat.mul_comm]; exact hj
    have hc := tinv_back hj'
    simp only [List.getElem_set, trn, List.getElem_map, List.getElem_range]
    by_cases e : tinv n m j = i
    · rw [if_pos e]
      have e2 : tinv m n i = j := by rw [← e, hc]
      rw [e2, if_pos (by omega)]
    · rw [if_neg e]
      have e2 : tinv m n i ≠ j := fun h => e (by rw [← h, hb])
      by_cases h3 : tinv m n i < j
      · rw [if_pos h3, if_pos (by omega)]
      · rw [if_neg h3, if_neg (by omega)]
/-- Two dims. -/
theorem two_of {d : List Int} (h : d.length = 2) : ∃ x y, d = [x, y] := by
  match d, h with
  | [x, y], _ => exact ⟨x, y, rfl⟩
theorem okd2 {x y : Int} (h : okd [x, y] = true) : 1 ≤ x ∧ x ≤ 8 ∧ 1 ≤ y ∧ y ≤ 8 := by
  obtain ⟨_, _, hin, _⟩ := okd_parts h
  obtain ⟨a, b⟩ := inr_mem hin (x := x) (by simp)
  obtain ⟨c, d⟩ := inr_mem hin (x := y) (by simp)
  exact ⟨a, b, c, d⟩
theorem okd2_mk {x y : Int} (h : 1 ≤ x ∧ x ≤ 8 ∧ 1 ≤ y ∧ y ≤ 8) : okd [x, y] = true := by
  obtain ⟨a, b, c, d⟩ := h
  refine okd_mk (by simp) (by simp) (by simp [inr, a, b, c, d]) ?_
  have : x * y ≤ 8 * 8 := Int.mul_le_mul b d (by omega) (by omega)
  simp [prd]
  omega
theorem whr2 (m n i : Nat) : whr [(m : Int), (n : Int)] i = [((i / n : Nat) : Int), ((i % n : Nat) : Int)] := by
  simp [whr, whE, whR, stE, prd, List.range_succ]
theorem cross_at (m n i : Nat) (hm : m ≤ 8) (hn : n ≤ 8) (hi : i < m * n) : aok [(n : Int), (m : Int)] [((i % n : Nat) : Int), ((i / n : Nat) : Int)] = true ∧ atV [(n : Int), (m : Int)] [((i % n : Nat) : Int), ((i / n : Nat) : Int)] = (tinv n m i : Nat) := by
  have hn0 : 0 < n := by
    rcases Nat.eq_zero_or_pos n with e | e
    · subst e; simp at hi
    · exact e
  have hm0 : 0 < m := by
    rcases Nat.eq_zero_or_pos m with e | e
    · subst e; simp at hi
    · exact e
  have h1 : i % n < n := Nat.mod_lt _ hn0
  have h2 : i / n < m := Nat.div_lt_of_lt_mul (by rw [Nat.mul_comm]; exact hi)
  constructor
  · rw [aok, okd2_mk (by omega)]
    simp only [Bool.true_and, pok, List.length_cons, List.length_nil, decide_true, List.all_eq_true]
    intro k hk
    have hk2 : k = 0 ∨ k = 1 := by have := List.mem_range.1 hk; omega
    rcases hk2 with rfl | rfl
    · simp only [pin, List.getD_cons_zero, Bool.and_eq_true, decide_eq_true_eq]; omega
    · simp only [pin, List.getD_cons_succ, List.getD_cons_zero, Bool.and_eq_true, decide_eq_true_eq]
      exact ⟨Int.natCast_nonneg _, Int.ofNat_lt.2 h2⟩
  · simp [atV, atN, tinv]
end Go.Proofs.Ytjfkhfahpjdidaa
