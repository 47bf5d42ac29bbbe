/- A node's dims may be dims. -/
import Derived.Test.YtjfkhfahpjdidaaS2
namespace Go.Proofs.Ytjfkhfahpjdidaa
set_option linter.unusedVariables false
set_option linter.unusedSimpArgs false
set_option maxRecDepth 100000
open Go.RowKit

theorem okd_pair {x y : Int} (hx : 1 ≤ x ∧ x ≤ 8) (hy : 1 ≤ y ∧ y ≤ 8) : okd [x, y] = true := by
  refine okd_mk (by simp) (by simp) (by simp [inr]; omega) ?_
  rw [show prd [x, y] = x * y from by simp [prd]]
  have h1 : x * y ≤ 8 * y := Int.mul_le_mul_of_nonneg_right hx.2 (by omega)
  omega
theorem okd_at2 {a : List Int} (h : okd a = true) (hl : a.length = 2) (i : Nat) (hi : i < 2) : 1 ≤ a.getD i 0 ∧ a.getD i 0 ≤ 8 := by
  have h3 := (okd_parts h).2.2.1
  rw [List.getD_eq_getElem?_getD, List.getElem?_eq_getElem (by omega)]
  exact inr_mem h3 (List.getElem_mem _)
theorem okd_inD {k n : Int} {d : List Int} {P : List (List Int)} (hm : may k n d P = true) (hi : inf k.toNat n d (P.getD 0 []) (P.getD 1 []) = true) : okd (inD k.toNat n d (P.getD 0 []) (P.getD 1 [])) = true := by
  rw [may, Bool.and_eq_true] at hm
  obtain ⟨hf, hall⟩ := hm
  obtain ⟨hk, hc, hd, hn⟩ := frm_parts1 hf
  rw [List.all_eq_true] at hall
  have h0 : 1 ≤ P.length → okd (P.getD 0 []) = true := fun h => by
    rw [List.getD_eq_getElem?_getD, List.getElem?_eq_getElem (by omega)]
    exact hall _ (List.getElem_mem _)
  have h1 : 2 ≤ P.length → okd (P.getD 1 []) = true := fun h => by
    rw [List.getD_eq_getElem?_getD, List.getElem?_eq_getElem (by omega)]
    exact hall _ (List.getElem_mem _)
  generalize P.getD 0 [] = a at hi h0 ⊢
  generalize P.getD 1 [] = b at hi h1 ⊢
  have hk' : k = 1 ∨ k = 2 ∨ k = 3 ∨ k = 4 ∨ k = 5 ∨ k = 6 ∨ k = 7 ∨ k = 8 ∨ k = 9 ∨ k = 10 ∨ k = 11 ∨ k = 12 ∨ k = 13 ∨ k = 14 ∨ k = 15 ∨ k = 16 ∨ k = 17 := by omega
  rcases hk' with rfl | rfl | rfl | rfl | rfl | rfl | rfl | rfl | rfl | rfl | rfl | rfl | rfl | rfl | rfl | rfl | rfl
  · exact hd
  · exact hd
  · exact hd
  · exact h0 (by rw [hc]; decide)
  · exact h0 (by rw [hc]; decide)
  · exact h0 (by rw [hc]; decide)
  · exact h0 (by rw [hc]; decide)
  · exact h0 (by rw [hc]; decide)
  · have e := of_decide_eq_true (p := a.length = 2 ∧ b.length = 2 ∧ a.getD 1 0 = b.getD 0 0) hi
    exact okd_pair (okd_at2 (h0 (by rw [hc]; decide)) e.1 0 (by omega)) (okd_at2 (h1 (by rw [hc]; decide)) e.2.1 1 (by omega))
  · have e := of_decide_eq_true (p := a.length = 2) hi
    have ha := h0 (by rw [hc]; decide)
    exact okd_pair (okd_at2 ha e 1 (by omega)) (okd_at2 ha e 0 (by omega))
  · exact hd
  · exact hd
  · exact hd
  · exact h0 (by rw [hc]; decide)
  · have e := of_decide_eq_true (p := lastD a % n = 0) hi
    have ha := h0 (by rw [hc]; decide)
    have hn' := of_decide_eq_true (p := 1 ≤ n ∧ n ≤ 8) hn
    obtain ⟨m, hm⟩ : ∃ m : Nat, n = m := ⟨n.toNat, by omega⟩
    subst hm
    obtain ⟨_, _, _, h, _⟩ := few_mul (t := zT a) (n := m) (tok_zT ha) (by omega) e
    exact h
  · exact h0 (by rw [hc]; decide)
  · exact h0 (by rw [hc]; decide)
theorem nodeB_okd {L : List Nod} {i : Nat} {t : Nod} (h : nodeB L i t = true) : okd t.dims = true := by
  simp only [nodeB, Bool.and_eq_true, decide_eq_true_eq] at h
  obtain ⟨_, hm, hi, hd⟩ := h
  rw [hd]
  exact okd_inD hm hi
end Go.Proofs.Ytjfkhfahpjdidaa
