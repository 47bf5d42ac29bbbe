/- What follows of graphs (pure). -/
import Derived.Test.YtjfkhfahpjdidaaS1
namespace Go.Proofs.Ytjfkhfahpjdidaa
set_option linter.unusedVariables false
set_option linter.unusedSimpArgs false
set_option maxRecDepth 100000
open Go.RowKit

theorem nodesN_at {L : List Nod} : ∀ {n : Nat}, nodesN L n = true → ∀ i (h : i < L.length), i < n → nodeB L i L[i] = true
  | n + 1, h, i, hi, hn => by
    rw [nodesN, Bool.and_eq_true] at h
    by_cases e : i = n
    · subst e
      have := h.2
      rw [List.getElem?_eq_getElem hi] at this
      exact this
    · exact nodesN_at h.1 i hi (by omega)
theorem nodesB_at {L : List Nod} (h : nodesB L = true) (i : Nat) (hi : i < L.length) : nodeB L i L[i] = true := by
  rw [nodesB, Bool.and_eq_true] at h
  exact nodesN_at h.2 i hi hi
theorem nodeB_args {L : List Nod} {i : Nat} {t : Nod} (h : nodeB L i t = true) : argsB t.args i = true := by
  rw [nodeB, Bool.and_eq_true] at h
  exact h.1
theorem nodeB_leaf {L : List Nod} {i : Nat} {t : Nod} (h : nodeB L i t = true) (hk : t.kind = 1 ∨ t.kind = 2) : t.args = [] := by
  rw [nodeB, Bool.and_eq_true, Bool.and_eq_true] at h
  have h1 := h.2.1
  rw [may, Bool.and_eq_true, dimsAt_len] at h1
  have h2 := (frm_parts1 h1.1).2.1
  rw [show many t.kind.toNat = 0 from by rcases hk with e | e <;> rw [e] <;> decide] at h2
  exact List.eq_nil_of_length_eq_zero h2
theorem mem_lvN {L : List Nod} {k : Int} : ∀ {n : Nat} {y : Int}, y ∈ lvN L k n → ∃ m, ∃ h : m < L.length, m < n ∧ y = (m : Int) ∧ L[m].kind = k
  | 0, y, h => by simp [lvN] at h
  | n + 1, y, h => by
    rw [lvN, List.mem_append] at h
    rcases h with h | h
    · obtain ⟨m, h1, h2, h3⟩ := mem_lvN h
      exact ⟨m, h1, by omega, h3⟩
    · by_cases hn : n < L.length
      · rw [List.getElem?_eq_getElem hn] at h
        simp only at h
        split at h
        · rename_i e
          simp at h
          exact ⟨n, hn, by omega, h, e⟩
        · simp at h
      · rw [List.getElem?_eq_none (by omega)] at h
        simp at h
theorem mem_levs {L : List Nod} {y : Int} (h : y ∈ levs L) : ∃ m, ∃ h : m < L.length, y = (m : Int) ∧ (L[m].kind = 1 ∨ L[m].kind = 2) := by
  rw [levs, List.mem_append] at h
  rcases h with h | h <;> obtain ⟨m, h1, _, h2, h3⟩ := mem_lvN h
  · exact ⟨m, h1, h2, Or.inl h3⟩
  · exact ⟨m, h1, h2, Or.inr h3⟩
theorem mem_useN {L : List Nod} {i : Int} : ∀ {n : Nat} {y : Int}, y ∈ useN L i n → ∃ m, ∃ h : m < L.length, m < n ∧ y = (m : Int) ∧ i ∈ L[m].args
  | 0, y, h => by simp [useN] at h
  | n + 1, y, h => by
    rw [useN, List.mem_append] at h
    rcases h with h | h
    · obtain ⟨m, h1, h2, h3⟩ := mem_useN h
      exact ⟨m, h1, by omega, h3⟩
    · by_cases hn : n < L.length
      · rw [List.getElem?_eq_getElem hn] at h
        simp only at h
        split at h
        · rename_i e
          simp at h
          exact ⟨n, hn, by omega, h, of_decide_eq_true e⟩
        · simp at h
      · rw [List.getElem?_eq_none (by omega)] at h
        simp at h
theorem argsB_lt {A : List Int} {n : Nat} (h : argsB A n = true) {x : Int} (hx : x ∈ A) : 0 ≤ x ∧ x < n := by
  rw [argsB, List.all_eq_true] at h
  have := h x hx
  rw [Bool.and_eq_true, decide_eq_true_eq, decide_eq_true_eq] at this
  omega
/-- What is made of one stands behind it. -/
theorem uses_behind {L : List Nod} (h : nodesB L = true) {i y : Int} (hy : y ∈ useR L i) : i < y := by
  rw [useR] at hy
  split at hy
  · obtain ⟨m, h1, _, rfl, h3⟩ := mem_useN hy
    have := argsB_lt (nodeB_args (nodesB_at h m h1)) h3
    omega
  · simp at hy
theorem dimsAt_take {L : List Nod} {k : Nat} {A : List Int} (h : ∀ x ∈ A, 0 ≤ x ∧ x < (k : Int)) : dimsAt (L.take k) A = dimsAt L A := by
  rw [dimsAt, dimsAt]
  refine List.map_congr_left fun x hx => ?_
  have := h x hx
  rw [List.getElem?_take, if_pos (by omega)]
theorem nodeB_take {L : List Nod} {k i : Nat} {t : Nod} (hi : i ≤ k) : nodeB (L.take k) i t = nodeB L i t := by
  cases e : argsB t.args i with
  | false => rw [nodeB, nodeB, e, Bool.false_and, Bool.false_and]
  | true =>
    rw [nodeB, nodeB, dimsAt_take fun x hx => by have := argsB_lt e hx; omega]
theorem nodesN_take {L : List Nod} {k : Nat} : ∀ {n : Nat}, n ≤ k → nodesN L n = true → nodesN (L.take k) n = true
  | 0, _, _ => rfl
  | n + 1, hn, h => by
    rw [nodesN, Bool.and_eq_true] at h ⊢
    refine ⟨nodesN_take (by omega) h.1, ?_⟩
    have h2 := h.2
    rw [List.getElem?_take, if_pos (by omega)]
    cases e : L[n]? with
    | none => rfl
    | some t =>
      rw [e] at h2
      simp only at h2 ⊢
      rw [nodeB_take (by omega)]
      exact h2
theorem nodesN_le {L : List Nod} : ∀ {n m : Nat}, m ≤ n → nodesN L n = true → nodesN L m = true
  | 0, m, hm, h => by rw [show m = 0 from by omega]; rfl
  | n + 1, m, hm, h => by
    by_cases e : m = n + 1
    · rw [e]; exact h
    · rw [nodesN, Bool.and_eq_true] at h
      exact nodesN_le (by omega) h.1
theorem nodesB_take {L : List Nod} (h : nodesB L = true) (k : Nat) (hk : k ≤ L.length) : nodesB (L.take k) = true := by
  rw [nodesB, Bool.and_eq_true, decide_eq_true_eq] at h ⊢
  rw [List.length_take, Nat.min_eq_left hk]
  exact ⟨by omega, nodesN_take (Nat.le_refl _) (nodesN_le hk h.2)⟩
theorem grp_nodes {L : List Nod} (h : grpB L = true) : nodesB L = true := by
  simp only [grpB, Bool.and_eq_true] at h
  exact h.1.1.2
theorem small_take {L : List Nod} (h : Small L) (k : Nat) : Small (L.take k) := by
  have hl : (L.take k).length ≤ L.length := by rw [List.length_take]; omega
  refine ⟨Nat.le_trans hl h.n, fun i hi => ?_, fun i hi => ?_, fun i hi => ?_⟩ <;> rw [List.getElem_take]
  · exact h.a i (by omega)
  · exact h.d i (by omega)
  · exact h.s i (by omega)
theorem light_small {T : List (List Nod)} {N : List Int} {D : List (List Int)} (h : Light T N D) (i : Nat) (hi : i < T.length) : Small T[i] := by
  refine ⟨by have := h.t i hi; omega, fun k hk => ?_, fun k hk => ?_, fun k hk => ?_⟩ <;> (have := h.te i hi k hk; rw [nodW] at this; omega)
theorem useE_ok {L : List Nod} (h : nodesB L = true) (k : Nat) (hk : k < L.length) : useE L k = 0 := by
  rw [useE, if_pos h, if_pos (by simp; omega)]
end Go.Proofs.Ytjfkhfahpjdidaa
