/- Contract: the page's Infer, of whatever may be. -/
import Derived.Test.YtheddpjaihhbdacGreatB3
namespace Go.Proofs.YtheddpjaihhbdacGreat
set_option linter.unusedVariables false
set_option linter.unusedSimpArgs false
set_option maxRecDepth 100000
open Go.RowKit

theorem row_two {w : World} {B : Nat} {v : Value} {a b : List Int} {xs : List Value} (h : Row w B v [a, b] xs) :
    ∃ P c x0 x1, v = .slice (some ⟨P, 0, none⟩) 2 c ∧ 2 ≤ c ∧ w.cell? ⟨P, 0, none⟩ = some x0 ∧ w.cell? ⟨P, 1, none⟩ = some x1 ∧ Ints w x0 a ∧ Ints w x1 b := by
  rcases h.own.2 with ⟨_, h0⟩ | ⟨g, cap, cur, rfl, h1, hh, h2, h3, h4, h5⟩
  · simp at h0
  · obtain ⟨x, hx, he⟩ := h.elt 0 (by simp)
    obtain ⟨y, hy, hf⟩ := h.elt 1 (by simp)
    exact ⟨g, cap, x, y, rfl, h2, by rw [h.own.cellAt 0 (by simp)]; exact hx, by rw [h.own.cellAt 1 (by simp)]; exact hy, he.1, hf.1⟩
theorem row_one {w : World} {B : Nat} {v : Value} {a : List Int} {xs : List Value} (h : Row w B v [a] xs) :
    ∃ P c x0, v = .slice (some ⟨P, 0, none⟩) 1 c ∧ 1 ≤ c ∧ w.cell? ⟨P, 0, none⟩ = some x0 ∧ Ints w x0 a := by
  rcases h.own.2 with ⟨_, h0⟩ | ⟨g, cap, cur, rfl, h1, hh, h2, h3, h4, h5⟩
  · simp at h0
  · obtain ⟨x, hx, he⟩ := h.elt 0 (by simp)
    exact ⟨g, cap, x, rfl, h2, by rw [h.own.cellAt 0 (by simp)]; exact hx, he.1⟩
theorem one_of {α : Type} {L : List α} (h : L.length = 1) : ∃ a, L = [a] := by
  match L, h with
  | [a], _ => exact ⟨a, rfl⟩
theorem pair_of {α : Type} {L : List α} (h : L.length = 2) : ∃ a b, L = [a, b] := by
  match L, h with
  | [a, b], _ => exact ⟨a, b, rfl⟩
theorem infer_to {vd v : Value} {d : List Int} {L : List (List Int)} {xs : List Value} {B : Nat} {w : World} (k n : Int) (hm : may k n d L = true) (hd : Ints w vd d) (hl : Row w B v L xs) (ok : Bool) (hx : inf k.toNat n d (L.getD 0 []) (L.getD 1 []) = ok) :
    Calls Tryz.prog 22 #[.int .i64 k, .int .i64 n, vd, v] w fun e w' => ∃ x z, e = .returned (.tuple #[x, .bool ok]) ∧ Own w' w.heap.size x z ∧ (ok = true → z = inD k.toNat n d (L.getD 0 []) (L.getD 1 [])) ∧ Below w.heap.size w w' := by
  simp only [may, Bool.and_eq_true] at hm
  obtain ⟨hf, hall⟩ := hm
  obtain ⟨hk, hc, hdk, hnk⟩ := frm_parts1 hf
  have hk' : k = 1 ∨ k = 2 ∨ k = 3 ∨ k = 4 ∨ k = 5 ∨ k = 6 ∨ k = 7 ∨ k = 8 ∨ k = 9 ∨ k = 10 ∨ k = 11 ∨ k = 12 ∨ k = 13 ∨ k = 14 ∨ k = 15 ∨ k = 16 ∨ k = 17 := by omega
  rcases hk' with rfl | rfl | rfl | rfl | rfl | rfl | rfl | rfl | rfl | rfl | rfl | rfl | rfl | rfl | rfl | rfl | rfl
  · subst hx
    refine (infer_k1 n hd).mono ?_
    rintro e w' ⟨x, rfl, ho, hb⟩
    exact ⟨x, _, rfl, ho, fun _ => rfl, hb⟩
  · subst hx
    refine (infer_k2 n hd).mono ?_
    rintro e w' ⟨x, rfl, ho, hb⟩
    exact ⟨x, _, rfl, ho, fun _ => rfl, hb⟩
  · subst hx
    refine (infer_k3 n hd).mono ?_
    rintro e w' ⟨x, rfl, ho, hb⟩
    exact ⟨x, _, rfl, ho, fun _ => rfl, hb⟩
  · obtain ⟨a, b, rfl⟩ := pair_of (show L.length = 2 from hc)
    obtain ⟨P, c, x0, x1, rfl, h2, c0, c1, i0, i1⟩ := row_two hl
    refine (infer_k4 n h2 i0 i1 c0 c1 ok hx).mono ?_
    rintro e w' ⟨x, rfl, ho, hb⟩
    exact ⟨x, _, rfl, ho, fun _ => rfl, hb⟩
  · obtain ⟨a, b, rfl⟩ := pair_of (show L.length = 2 from hc)
    obtain ⟨P, c, x0, x1, rfl, h2, c0, c1, i0, i1⟩ := row_two hl
    refine (infer_k5 n h2 i0 i1 c0 c1 ok hx).mono ?_
    rintro e w' ⟨x, rfl, ho, hb⟩
    exact ⟨x, _, rfl, ho, fun _ => rfl, hb⟩
  · obtain ⟨a, b, rfl⟩ := pair_of (show L.length = 2 from hc)
    obtain ⟨P, c, x0, x1, rfl, h2, c0, c1, i0, i1⟩ := row_two hl
    refine (infer_k6 n h2 i0 i1 c0 c1 ok hx).mono ?_
    rintro e w' ⟨x, rfl, ho, hb⟩
    exact ⟨x, _, rfl, ho, fun _ => rfl, hb⟩
  · subst hx
    obtain ⟨a, rfl⟩ := one_of (show L.length = 1 from hc)
    obtain ⟨P, c, x0, rfl, h2, c0, i0⟩ := row_one hl
    refine (infer_k7 n h2 i0 c0).mono ?_
    rintro e w' ⟨x, rfl, ho, hb⟩
    exact ⟨x, _, rfl, ho, fun _ => rfl, hb⟩
  · subst hx
    obtain ⟨a, rfl⟩ := one_of (show L.length = 1 from hc)
    obtain ⟨P, c, x0, rfl, h2, c0, i0⟩ := row_one hl
    refine (infer_k8 n h2 i0 c0).mono ?_
    rintro e w' ⟨x, rfl, ho, hb⟩
    exact ⟨x, _, rfl, ho, fun _ => rfl, hb⟩
  · obtain ⟨a, b, rfl⟩ := pair_of (show L.length = 2 from hc)
    obtain ⟨P, c, x0, x1, rfl, h2, c0, c1, i0, i1⟩ := row_two hl
    by_cases h : a.length = 2 ∧ b.length = 2 ∧ a.getD 1 0 = b.getD 0 0
    · have ho : ok = true := by rw [← hx]; exact decide_eq_true h
      subst ho
      obtain ⟨p, q, rfl⟩ := two_of h.1
      obtain ⟨q', r, rfl⟩ := two_of h.2.1
      have e : q = q' := h.2.2
      subst e
      refine (infer_k9_ok n h2 i0 i1 c0 c1).mono ?_
      rintro e w' ⟨x, rfl, ho, hb⟩
      exact ⟨x, _, rfl, ho, fun _ => rfl, hb⟩
    · have ho : ok = false := by rw [← hx]; exact decide_eq_false h
      subst ho
      refine (infer_k9_four n h2 i0 i1 c0 c1 h).mono ?_
      rintro e w' ⟨x, rfl, ho, hb⟩
      exact ⟨x, _, rfl, ho, (fun h => by cases h), hb⟩
  · obtain ⟨a, rfl⟩ := one_of (show L.length = 1 from hc)
    obtain ⟨P, c, x0, rfl, h2, c0, i0⟩ := row_one hl
    by_cases h : a.length = 2
    · have ho : ok = true := by rw [← hx]; exact decide_eq_true h
      subst ho
      obtain ⟨p, q, rfl⟩ := two_of h
      refine (infer_k10_ok n h2 i0 c0).mono ?_
      rintro e w' ⟨x, rfl, ho, hb⟩
      exact ⟨x, _, rfl, ho, fun _ => rfl, hb⟩
    · have ho : ok = false := by rw [← hx]; exact decide_eq_false h
      subst ho
      refine (infer_k10_four n h2 i0 c0 h).mono ?_
      rintro e w' ⟨x, rfl, ho, hb⟩
      exact ⟨x, _, rfl, ho, (fun h => by cases h), hb⟩
  · obtain ⟨a, rfl⟩ := one_of (show L.length = 1 from hc)
    obtain ⟨P, c, x0, rfl, h2, c0, i0⟩ := row_one hl
    refine (infer_k11 n ok h2 hd i0 c0 (by simpa using hall) hdk hx).mono ?_
    rintro e w' ⟨x, rfl, ho, hb⟩
    exact ⟨x, _, rfl, ho, fun _ => rfl, hb⟩
  · obtain ⟨a, rfl⟩ := one_of (show L.length = 1 from hc)
    obtain ⟨P, c, x0, rfl, h2, c0, i0⟩ := row_one hl
    refine (infer_k12 n ok h2 hd i0 c0 hx).mono ?_
    rintro e w' ⟨x, rfl, ho, hb⟩
    exact ⟨x, _, rfl, ho, fun _ => rfl, hb⟩
  · obtain ⟨a, rfl⟩ := one_of (show L.length = 1 from hc)
    obtain ⟨P, c, x0, rfl, h2, c0, i0⟩ := row_one hl
    refine (infer_k13 n ok h2 hd i0 c0 hx).mono ?_
    rintro e w' ⟨x, rfl, ho, hb⟩
    exact ⟨x, _, rfl, ho, fun _ => rfl, hb⟩
  · subst hx
    obtain ⟨a, rfl⟩ := one_of (show L.length = 1 from hc)
    obtain ⟨P, c, x0, rfl, h2, c0, i0⟩ := row_one hl
    refine (infer_k14 n h2 i0 c0).mono ?_
    rintro e w' ⟨x, rfl, ho, hb⟩
    exact ⟨x, _, rfl, ho, fun _ => rfl, hb⟩
  · obtain ⟨a, rfl⟩ := one_of (show L.length = 1 from hc)
    obtain ⟨P, c, x0, rfl, h2, c0, i0⟩ := row_one hl
    have hn : 1 ≤ n ∧ n ≤ 8 := by simpa [nok] using hnk
    obtain ⟨m, rfl⟩ : ∃ m : Nat, n = m := ⟨n.toNat, by omega⟩
    have ha : okd a = true := by simpa using hall
    by_cases h : lastD a % (m : Int) = 0
    · have ho : ok = true := by rw [← hx]; exact decide_eq_true h
      subst ho
      refine (infer_k15_ok (b0 := x0) (d1 := a) m h2 i0 ha (by omega) (by omega) c0 h).mono ?_
      rintro e w' ⟨x, rfl, ho, hb⟩
      exact ⟨x, _, rfl, ho, fun _ => rfl, hb⟩
    · have ho : ok = false := by rw [← hx]; exact decide_eq_false h
      subst ho
      refine (infer_k15_four (b0 := x0) (d1 := a) m h2 i0 ha (by omega) (by omega) c0 h).mono ?_
      rintro e w' ⟨x, rfl, ho, hb⟩
      exact ⟨x, _, rfl, ho, (fun h => by cases h), hb⟩
  · obtain ⟨a, b, rfl⟩ := pair_of (show L.length = 2 from hc)
    obtain ⟨P, c, x0, x1, rfl, h2, c0, c1, i0, i1⟩ := row_two hl
    refine (infer_k16 n h2 i0 i1 c0 c1 ok hx).mono ?_
    rintro e w' ⟨x, rfl, ho, hb⟩
    exact ⟨x, _, rfl, ho, fun _ => rfl, hb⟩
  · obtain ⟨a, b, rfl⟩ := pair_of (show L.length = 2 from hc)
    obtain ⟨P, c, x0, x1, rfl, h2, c0, c1, i0, i1⟩ := row_two hl
    have hn : 1 ≤ n ∧ n ≤ 8 := by simpa [nok] using hnk
    obtain ⟨m, rfl⟩ : ∃ m : Nat, n = m := ⟨n.toNat, by omega⟩
    have ha : okd a = true := by simp at hall; exact hall.1
    by_cases h : lastD a % (m : Int) = 0
    · have hq : (lesD a (m : Int) == b) = ok := by
        rw [← hx, Bool.eq_iff_iff]
        simp [inf, h]
      refine (infer_k17_ok m h2 i0 ha (by omega) (by omega) c0 i1 c1 ok hq h).mono ?_
      rintro e w' ⟨x, rfl, ho, hb⟩
      exact ⟨x, _, rfl, ho, fun _ => rfl, hb⟩
    · have ho : ok = false := by rw [← hx]; exact decide_eq_false fun x => h x.1
      subst ho
      refine (infer_k17_four m h2 i0 ha (by omega) (by omega) c0 i1 c1 h).mono ?_
      rintro e w' ⟨x, rfl, ho, hb⟩
      exact ⟨x, _, rfl, ho, (fun h => by cases h), hb⟩
end Go.Proofs.YtheddpjaihhbdacGreat
