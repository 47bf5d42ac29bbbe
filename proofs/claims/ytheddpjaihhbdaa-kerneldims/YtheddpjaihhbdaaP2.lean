/- What a node's value is: its dims are those that are told ahead of it, and it may be. -/
import Derived.Test.YtheddpjaihhbdaaA6P
namespace Go.Proofs.Ytheddpjaihhbdaa
set_option linter.unusedVariables false
set_option linter.unusedSimpArgs false
set_option maxRecDepth 100000
open Go.RowKit

theorem tok_mk {d l : List Int} (h : okd d = true) (hl : (l.length : Int) = prd d) : tok (d, l) = true := by
  simp only [tok, h, Bool.true_and, decide_eq_true_eq]
  exact hl
theorem tok_each {op : Int → Int → Int} {s t : Ten} (h : fitE s t = 0) : tok (eachR op s t) = true := by
  obtain ⟨hs, ht, hd⟩ := fit_zero h
  have h1 := tok_len hs
  have h2 := tok_len ht
  rw [each_ok_eq h]
  refine tok_mk (tok_okd hs) ?_
  rw [← hd] at h2
  rw [List.length_zipWith]
  omega
theorem prd_pos {d : List Int} (h : okd d = true) : 1 ≤ prd d := prd_lo (okd_parts h).2.2.1
theorem prdXY (x y : Int) : prd [x, y] = x * y := by simp [prd]
/-- What the layers below tell, where they tell no error, may be. -/
theorem tok_vR {k : Nat} {n : Int} {d : List Int} {s t : Ten} (h3 : 4 ≤ k) (h17 : k ≤ 17) (h : vE k n d s t = 0) : tok (vR k n d s t) = true := by
  have hk : k = 4 ∨ k = 5 ∨ k = 6 ∨ k = 7 ∨ k = 8 ∨ k = 9 ∨ k = 10 ∨ k = 11 ∨ k = 12 ∨ k = 13 ∨ k = 14 ∨ k = 15 ∨ k = 16 ∨ k = 17 := by omega
  clear h3 h17
  rcases hk with rfl | rfl | rfl | rfl | rfl | rfl | rfl | rfl | rfl | rfl | rfl | rfl | rfl | rfl
  · exact tok_each h
  · exact tok_each h
  · exact tok_each h
  · exact tok_each h
  · have h1 : tkE s = 0 := h
    have hs : tok s = true := by
      cases e : tok s with
      | true => rfl
      | false => simp [tkE, e] at h1
    show tok (sclR n s) = true
    rw [sclR, if_pos hs]
    refine tok_mk (tok_okd hs) ?_
    rw [List.length_map]
    exact tok_len hs
  · have h1 : muE s t = 0 := h
    have hst : tok s = true ∧ tok t = true := by
      by_cases e : tok s = true ∧ tok t = true
      · exact e
      · rw [muE, if_neg e] at h1; cases h1
    have hd : s.1.length = 2 ∧ t.1.length = 2 ∧ s.1.getD 1 0 = t.1.getD 0 0 := by
      by_cases e : s.1.length = 2 ∧ t.1.length = 2 ∧ s.1.getD 1 0 = t.1.getD 0 0
      · exact e
      · rw [muE, if_pos hst, if_neg e] at h1; cases h1
    obtain ⟨s1, s2⟩ := s
    obtain ⟨t1, t2⟩ := t
    obtain ⟨p, q, rfl⟩ := nat2 hst.1 hd.1
    obtain ⟨q', r, rfl⟩ := nat2 hst.2 hd.2.1
    have e : (q : Int) = q' := hd.2.2
    obtain rfl : q = q' := by omega
    show tok (muR _ _) = true
    rw [muR_ok hst.1 hst.2]
    have o1 := okd2 (tok_okd hst.1)
    have o2 := okd2 (tok_okd hst.2)
    refine tok_mk (okd2_mk ⟨o1.1, o1.2.1, o2.2.2.1, o2.2.2.2⟩) ?_
    rw [mxl_length, prdXY]
    exact Int.natCast_mul p r
  · have h1 : trE s = 0 := h
    have hs : tok s = true := by
      cases e : tok s with
      | true => rfl
      | false => simp [trE, e] at h1
    have hd : s.1.length = 2 := by
      by_cases e : s.1.length = 2
      · exact e
      · simp [trE, hs, e] at h1
    obtain ⟨s1, s2⟩ := s
    obtain ⟨p, q, rfl⟩ := nat2 hs hd
    show tok (trR _) = true
    rw [trR, h1, if_pos rfl]
    have o1 := okd2 (tok_okd hs)
    refine tok_mk (okd2_mk ⟨o1.2.2.1, o1.2.2.2, o1.1, o1.2.1⟩) ?_
    rw [tns_length]; show _ = prd [(q : Int), (p : Int)]; rw [prdXY]
    show (((p : Int).toNat * (q : Int).toNat : Nat) : Int) = (q : Int) * (p : Int)
    rw [Int.toNat_natCast, Int.toNat_natCast, Int.natCast_mul, Int.mul_comm]
  · have h1 : shE s d = 0 := h
    have hs : okd d = true ∧ tok s = true := by
      cases e : okd d with
      | false => simp [shE, e] at h1
      | true =>
        cases e2 : tok s with
        | false => simp [shE, e2] at h1
        | true => exact ⟨rfl, rfl⟩
    have hl : (s.2.length : Int) = prd d := by
      by_cases e : (s.2.length : Int) = prd d
      · exact e
      · simp [shE, hs.1, hs.2, e] at h1
    show tok (shR s d) = true
    rw [shR, h1, if_pos rfl]
    exact tok_mk hs.1 hl
  · have h1 : wiE s d = 0 := h
    have hd : okd d = true := by
      cases e : okd d with
      | true => rfl
      | false =>
        cases e2 : tok s with
        | false => simp [wiE, e2] at h1
        | true => simp [wiE, wdr, e2, e] at h1
    show tok (wiR s d) = true
    rw [wiR, h1, if_pos rfl]
    refine tok_mk hd ?_
    rw [laid_length]
    have := prd_pos hd
    omega
  · have h1 : suE s d = 0 := h
    have hd : okd d = true := by
      cases e : okd d with
      | true => rfl
      | false =>
        cases e2 : tok s with
        | false => simp [suE, e2] at h1
        | true => simp [suE, wdr, e2, e] at h1
    show tok (suR s d) = true
    rw [suR, h1, if_pos rfl]
    refine tok_mk hd ?_
    rw [sums_length]
    have := prd_pos hd
    omega
  · have h1 : tkE s = 0 := h
    exact tok_each (show fitE s s = 0 by
      cases e : tok s with
      | true => simp [fitE, e]
      | false => simp [tkE, e] at h1)
  · have h1 : fwE s n = 0 := h
    obtain ⟨hs, hn1, hn8⟩ : tok s = true ∧ 1 ≤ n ∧ n ≤ 8 := by
      by_cases e : tok s = true ∧ 1 ≤ n ∧ n ≤ 8
      · exact e
      · rw [fwE, if_neg e] at h1; cases h1
    obtain ⟨c, rfl⟩ : ∃ c : Nat, n = c := ⟨n.toNat, by omega⟩
    obtain ⟨m, hm1, hm, hok, hpm⟩ := few_mul (n := c) hs (by omega) (by
      by_cases e : lastD s.1 % (c : Int) = 0
      · exact e
      · rw [fwE, if_pos ⟨hs, hn1, hn8⟩, if_neg e] at h1; cases h1)
    show tok (mxR s c) = true
    rw [mxR, h1, if_pos rfl]
    refine tok_mk hok ?_
    rw [mxM, maxs_length, Int.toNat_natCast, hm, Nat.mul_div_cancel m (show 0 < c by omega)]
    have := prd_pos hok
    omega
  · exact tok_each h
  · have h1 : pkE s t n = 0 := h
    have hf : fwE s n = 0 := by
      rw [pkE] at h1
      split at h1
      · cases h1
      · split at h1
        · rename_i e; exact e.1
        · cases h1
    have hs : tok s = true := by
      by_cases e : tok s = true ∧ 1 ≤ n ∧ n ≤ 8
      · exact e.1
      · rw [fwE, if_neg e] at hf; cases hf
    show tok (pkR s t n) = true
    rw [pkR, h1, if_pos rfl]
    refine tok_mk (tok_okd hs) ?_
    rw [picks_length]
    exact tok_len hs
/-- The dims of a value are those that are told ahead of it; it may be. -/
theorem do_dims {k n : Int} {d : List Int} {L : List Ten} (h4 : 4 ≤ k) (h : doE k n d L = 0) :
    diE k n d (L.map Prod.fst) = 0 ∧ diR k n d (L.map Prod.fst) = (doR k n d L).1 ∧ tok (doR k n d L) = true := by
  have hm : may k n d (L.map Prod.fst) = true := by
    by_cases e : may k n d (L.map Prod.fst) = true
    · exact e
    · rw [(do_no (Or.inl e)).1] at h; cases h
  have ha : L.all tok = true := by
    by_cases e : L.all tok = true
    · exact e
    · rw [(do_no (Or.inr (Or.inr e))).1] at h; cases h
  obtain ⟨e1, e2, e3, hc⟩ := do_yes hm (by omega) ha
  obtain ⟨f1, f2⟩ := di_yes hm
  have hi : inf k.toNat n d ((L.map Prod.fst).getD 0 []) ((L.map Prod.fst).getD 1 []) = true := by
    cases e : inf k.toNat n d ((L.map Prod.fst).getD 0 []) ((L.map Prod.fst).getD 1 []) with
    | true => rfl
    | false => rw [e1, e] at h; simp at h
  rw [hi] at e1 e2 e3 f1 f2
  simp only [if_true] at e1 e2 e3 f1 f2
  simp only [may, Bool.and_eq_true, List.length_map] at hm
  obtain ⟨hk, _, hd, hn⟩ := frm_partsM hm.1
  refine ⟨f1, ?_, by rw [e2]; exact tok_vR (by omega) (by omega) e3⟩
  have hz0 : (L.getD 0 no).1 = (L.map Prod.fst).getD 0 [] := by cases L <;> rfl
  have hz1 : (L.getD 1 no).1 = (L.map Prod.fst).getD 1 [] := by
    match L with
    | [] => rfl
    | [a] => rfl
    | a :: b :: c => rfl
  have hs : many k.toNat = 0 ∨ tok (L.getD 0 no) = true := by
    match L, hc, ha with
    | [], hc, _ => exact Or.inl hc.symm
    | a :: c, hc, ha =>
      refine Or.inr ?_
      simp at ha
      exact ha.1
  have ht : many k.toNat ≤ 1 ∨ tok (L.getD 1 no) = true := by
    match L, hc, ha with
    | [], hc, _ => exact Or.inl (by simp at hc; omega)
    | [a], hc, _ => exact Or.inl (by simp at hc; omega)
    | a :: b :: c, hc, ha =>
      refine Or.inr ?_
      simp at ha
      exact ha.2.1
  have h2 := (vE_inf (k := k.toNat) (by omega) (by omega) hd hn hs ht).2
  rw [hz0, hz1, hi, if_pos rfl] at h2
  rw [f2, e2, h2]
end Go.Proofs.Ytheddpjaihhbdaa
