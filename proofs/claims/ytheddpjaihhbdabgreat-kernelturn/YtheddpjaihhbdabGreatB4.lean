/- Contract: the page's Do, of all kinds. -/
import Derived.Test.YtheddpjaihhbdabGreatB1
namespace Go.Proofs.YtheddpjaihhbdabGreat
set_option linter.unusedVariables false
set_option linter.unusedSimpArgs false
set_option maxRecDepth 100000
open Go.RowKit

theorem cell_at1 {w w' : World} {b o : Nat} {x : Value} (hb : Below w.heap.size w w') (h : w.cell? ⟨b, o, none⟩ = some x) : w'.cell? ⟨b, o, none⟩ = some x := cell_later hb h
theorem cell_lt1 {w : World} {b o : Nat} {x : Value} (h : w.cell? ⟨b, o, none⟩ = some x) : b < w.heap.size := World.block_lt_of_cell? _ _ h
theorem tk_zero {s : Ten} (h : tkE s = 0) : tok s = true := by
  cases e : tok s with
  | true => rfl
  | false => simp [tkE, e] at h
theorem zip_self (op : Int → Int → Int) (l : List Int) : List.zipWith op l l = l.map fun y => op y y := by
  induction l with
  | nil => rfl
  | cons x l ih => simp [ih]
theorem r_k3 {vd : Value} {d : List Int} {w : World} {n : Int} (hd : Ints w vd d) (u : Ten) (hx : vE 3 n d no no = 0) (hu : vR 3 n d no no = u) :
    Calls Tryz.prog 44 #[vd, .int .i64 n] w fun e w' => ∃ x0 x1, e = .returned (.agg #[x0, x1]) ∧ OwnT w' w.heap.size x0 x1 u ∧ Below w.heap.size w w' := by
  subst hu
  have hok : okd d = true := by
    cases e : okd d with
    | true => rfl
    | false => rw [show vE 3 n d no no = erf d from rfl, erf_bad e] at hx; cases hx
  simp only [vR, hok, if_true]
  exact rfill_own n hd hok
theorem r_k4 {a0 a1 b0 b1 : Value} {s t : Ten} {d : List Int} {w : World} {n : Int} (ha : Tens w a0 a1 s) (ht : Tens w b0 b1 t) (u : Ten) (hx : vE 4 n d s t = 0) (hu : vR 4 n d s t = u) :
    Calls Tryz.prog 45 #[.agg #[a0, a1], .agg #[b0, b1], .int .i64 0] w fun e w' => ∃ x0 x1, e = .returned (.agg #[x0, x1]) ∧ OwnT w' w.heap.size x0 x1 u ∧ Below w.heap.size w w' := by
  subst hu
  exact reachA ha ht hx
theorem r_k5 {a0 a1 b0 b1 : Value} {s t : Ten} {d : List Int} {w : World} {n : Int} (ha : Tens w a0 a1 s) (ht : Tens w b0 b1 t) (u : Ten) (hx : vE 5 n d s t = 0) (hu : vR 5 n d s t = u) :
    Calls Tryz.prog 45 #[.agg #[a0, a1], .agg #[b0, b1], .int .i64 1] w fun e w' => ∃ x0 x1, e = .returned (.agg #[x0, x1]) ∧ OwnT w' w.heap.size x0 x1 u ∧ Below w.heap.size w w' := by
  subst hu
  exact reachS ha ht hx
theorem r_k6 {a0 a1 b0 b1 : Value} {s t : Ten} {d : List Int} {w : World} {n : Int} (ha : Tens w a0 a1 s) (ht : Tens w b0 b1 t) (u : Ten) (hx : vE 6 n d s t = 0) (hu : vR 6 n d s t = u) :
    Calls Tryz.prog 45 #[.agg #[a0, a1], .agg #[b0, b1], .int .i64 2] w fun e w' => ∃ x0 x1, e = .returned (.agg #[x0, x1]) ∧ OwnT w' w.heap.size x0 x1 u ∧ Below w.heap.size w w' := by
  subst hu
  exact reachM ha ht hx
theorem r_k7 {a0 a1 vd : Value} {s : Ten} {d : List Int} {w : World} {n : Int} (ha : Tens w a0 a1 s) (hd : Ints w vd d) (u : Ten) (hx : vE 7 n d s no = 0) (hu : vR 7 n d s no = u) :
    Calls Tryz.prog 46 #[.agg #[a0, a1], .int .i64 (-1)] w fun e w' => ∃ x0 x1, e = .returned (.agg #[x0, x1]) ∧ OwnT w' w.heap.size x0 x1 u ∧ Below w.heap.size w w' := by
  subst hu
  obtain ⟨ht, _, _⟩ := fit_zero (show fitE s s = 0 from hx)
  obtain ⟨h1, h2⟩ := tok_pos ht
  have e : vR 7 n d s no = (s.1, s.2.map (fun y => wrap64 (y * -1))) := by
    have hx' : fitE s s = 0 := hx
    rw [show vR 7 n d s no = eachR opN s s from rfl, eachR, if_pos hx', zip_self]
    congr 2
    funext y
    simp only [opN]
    congr 1
    omega
  rw [e]
  exact rscale_any (-1) ha h1 h2
theorem r_k8 {a0 a1 vd : Value} {s : Ten} {d : List Int} {w : World} {n : Int} (ha : Tens w a0 a1 s) (hd : Ints w vd d) (u : Ten) (hx : vE 8 n d s no = 0) (hu : vR 8 n d s no = u) :
    Calls Tryz.prog 46 #[.agg #[a0, a1], .int .i64 n] w fun e w' => ∃ x0 x1, e = .returned (.agg #[x0, x1]) ∧ OwnT w' w.heap.size x0 x1 u ∧ Below w.heap.size w w' := by
  subst hu
  have ht := tk_zero (show tkE s = 0 from hx)
  obtain ⟨h1, h2⟩ := tok_pos ht
  have e : vR 8 n d s no = (s.1, s.2.map (fun y => wrap64 (y * n))) := by
    rw [show vR 8 n d s no = sclR n s from rfl, sclR, if_pos ht]
    congr 2
    funext y
    rw [Int.mul_comm]
  rw [e]
  exact rscale_any n ha h1 h2
theorem r_k9 {a0 a1 b0 b1 : Value} {s t : Ten} {d : List Int} {w : World} {n : Int} (ha : Tens w a0 a1 s) (ht : Tens w b0 b1 t) (u : Ten) (hx : vE 9 n d s t = 0) (hu : vR 9 n d s t = u) :
    Calls Tryz.prog 47 #[.agg #[a0, a1], .agg #[b0, b1]] w fun e w' => ∃ x0 x1, e = .returned (.agg #[x0, x1]) ∧ OwnT w' w.heap.size x0 x1 u ∧ Below w.heap.size w w' := by
  subst hu
  have hx' : muE s t = 0 := hx
  have h1 : tok s = true ∧ tok t = true := by
    by_cases h : tok s = true ∧ tok t = true
    · exact h
    · rw [muE, if_neg h] at hx'; cases hx'
  have h2 : s.1.length = 2 ∧ t.1.length = 2 ∧ s.1.getD 1 0 = t.1.getD 0 0 := by
    by_cases h : s.1.length = 2 ∧ t.1.length = 2 ∧ s.1.getD 1 0 = t.1.getD 0 0
    · exact h
    · rw [muE, if_pos h1, if_neg h] at hx'; cases hx'
  obtain ⟨s1, s2⟩ := s
  obtain ⟨t1, t2⟩ := t
  obtain ⟨g1, g2⟩ := h1
  obtain ⟨p, q, rfl⟩ := nat2 g1 h2.1
  obtain ⟨q', r, rfl⟩ := nat2 g2 h2.2.1
  have e : (q : Int) = q' := h2.2.2
  obtain rfl : q = q' := by omega
  rw [show vR 9 n d ([(p : Int), (q : Int)], s2) ([(q : Int), (r : Int)], t2) = muR ([(p : Int), (q : Int)], s2) ([(q : Int), (r : Int)], t2) from rfl, muR_ok g1 g2]
  exact rmat_ok ha ht g1 g2
theorem r_k10 {a0 a1 vd : Value} {s : Ten} {d : List Int} {w : World} {n : Int} (ha : Tens w a0 a1 s) (hd : Ints w vd d) (u : Ten) (hx : vE 10 n d s no = 0) (hu : vR 10 n d s no = u) :
    Calls Tryz.prog 48 #[.agg #[a0, a1]] w fun e w' => ∃ x0 x1, e = .returned (.agg #[x0, x1]) ∧ OwnT w' w.heap.size x0 x1 u ∧ Below w.heap.size w w' := by
  subst hu
  exact rturn_to _ ha hx rfl
theorem r_k12 {a0 a1 vd : Value} {s : Ten} {d : List Int} {w : World} {n : Int} (ha : Tens w a0 a1 s) (hd : Ints w vd d) (u : Ten) (hx : vE 12 n d s no = 0) (hu : vR 12 n d s no = u) :
    Calls Tryz.prog 49 #[.agg #[a0, a1], vd] w fun e w' => ∃ x0 x1, e = .returned (.agg #[x0, x1]) ∧ OwnT w' w.heap.size x0 x1 u ∧ Below w.heap.size w w' := by
  subst hu
  exact rwide_ok ha hd hx
theorem r_k13 {a0 a1 vd : Value} {s : Ten} {d : List Int} {w : World} {n : Int} (ha : Tens w a0 a1 s) (hd : Ints w vd d) (u : Ten) (hx : vE 13 n d s no = 0) (hu : vR 13 n d s no = u) :
    Calls Tryz.prog 50 #[.agg #[a0, a1], vd] w fun e w' => ∃ x0 x1, e = .returned (.agg #[x0, x1]) ∧ OwnT w' w.heap.size x0 x1 u ∧ Below w.heap.size w w' := by
  subst hu
  exact rsum_ok ha hd hx
theorem r_k14 {a0 a1 : Value} {s : Ten} {d : List Int} {w : World} {n : Int} (ha : Tens w a0 a1 s) (u : Ten) (hx : vE 14 n d s no = 0) (hu : vR 14 n d s no = u) :
    Calls Tryz.prog 51 #[.agg #[a0, a1], .agg #[a0, a1]] w fun e w' => ∃ x0 x1, e = .returned (.agg #[x0, x1]) ∧ OwnT w' w.heap.size x0 x1 u ∧ Below w.heap.size w w' := by
  subst hu
  have ht := tk_zero (show tkE s = 0 from hx)
  obtain ⟨h1, h2⟩ := tok_pos ht
  have e : vR 14 n d s no = (s.1, List.zipWith opG s.2 s.2) := by
    rw [show vR 14 n d s no = eachR opG s s from rfl, eachR, if_pos (by rw [fit_self]; exact hx)]
  rw [e]
  exact rgate_ok ha ha rfl h1 h2
theorem r_k16 {a0 a1 b0 b1 : Value} {s t : Ten} {d : List Int} {w : World} {n : Int} (ha : Tens w a0 a1 s) (ht : Tens w b0 b1 t) (u : Ten) (hx : vE 16 n d s t = 0) (hu : vR 16 n d s t = u) :
    Calls Tryz.prog 51 #[.agg #[a0, a1], .agg #[b0, b1]] w fun e w' => ∃ x0 x1, e = .returned (.agg #[x0, x1]) ∧ OwnT w' w.heap.size x0 x1 u ∧ Below w.heap.size w w' := by
  subst hu
  have hx' : fitE s t = 0 := hx
  obtain ⟨g1, g2, g3⟩ := fit_zero hx'
  obtain ⟨h1, h2⟩ := tok_pos g2
  have hl : s.2.length = t.2.length := by have e1 := tok_len g1; have e2 := tok_len g2; rw [g3] at e1; omega
  have e : vR 16 n d s t = (t.1, List.zipWith opG s.2 t.2) := by
    rw [show vR 16 n d s t = eachR opG s t from rfl, eachR, if_pos hx', g3]
  rw [e]
  exact rgate_ok ha ht hl h1 h2
theorem r_k15 {a0 a1 vd : Value} {s : Ten} {d : List Int} {w : World} {n : Int} (ha : Tens w a0 a1 s) (hd : Ints w vd d) (u : Ten) (hx : vE 15 n d s no = 0) (hu : vR 15 n d s no = u) :
    Calls Tryz.prog 52 #[.agg #[a0, a1], .int .i64 n] w fun e w' => ∃ x0 x1, e = .returned (.agg #[x0, x1]) ∧ OwnT w' w.heap.size x0 x1 u ∧ Below w.heap.size w w' := by
  subst hu
  have hx' : fwE s n = 0 := hx
  obtain ⟨g, h1, h8, hd2⟩ := fwE_zero hx'
  obtain ⟨k, rfl⟩ : ∃ k : Nat, n = k := ⟨n.toNat, by omega⟩
  obtain ⟨m, hm1, hm, hok, hpm⟩ := few_mul g (by omega) hd2
  have e : vR 15 (k : Int) d s no = (lesD s.1 k, maxs k m s.2) := by
    rw [show vR 15 (k : Int) d s no = mxR s k from rfl, mxR, if_pos hx', mxM, Int.toNat_natCast, hm, Nat.mul_div_cancel _ (by omega)]
  rw [e]
  exact rmax_ok k m (m * k) ha g (by omega) (by omega) hm1 hm rfl hok hpm
theorem r_k17 {a0 a1 b0 b1 : Value} {s t : Ten} {d : List Int} {w : World} {n : Int} (ha : Tens w a0 a1 s) (ht : Tens w b0 b1 t) (u : Ten) (hx : vE 17 n d s t = 0) (hu : vR 17 n d s t = u) :
    Calls Tryz.prog 53 #[.agg #[a0, a1], .agg #[b0, b1], .int .i64 n] w fun e w' => ∃ x0 x1, e = .returned (.agg #[x0, x1]) ∧ OwnT w' w.heap.size x0 x1 u ∧ Below w.heap.size w w' := by
  subst hu
  have hx' : pkE s t n = 0 := hx
  have hf : fwE s n = 0 ∧ tok t = true ∧ t.1 = lesD s.1 n := by
    unfold pkE at hx'
    split at hx'
    · cases hx'
    · rename_i hn
      split at hx'
      · rename_i hp
        refine ⟨hp.1, ?_, hp.2⟩
        cases e : tok t with
        | true => rfl
        | false => exact absurd (Or.inr e) hn
      · cases hx'
  obtain ⟨hf1, g2, g3⟩ := hf
  obtain ⟨g, h1, h8, hd2⟩ := fwE_zero hf1
  obtain ⟨k, rfl⟩ : ∃ k : Nat, n = k := ⟨n.toNat, by omega⟩
  obtain ⟨m, hm1, hm, hok, hpm⟩ := few_mul g (by omega) hd2
  have htl : t.2.length = m := by have := tok_len g2; rw [g3] at this; omega
  have e : vR 17 (k : Int) d s t = (s.1, picks k s.2 t.2) := by
    rw [show vR 17 (k : Int) d s t = pkR s t k from rfl, pkR, if_pos hx', Int.toNat_natCast]
  rw [e]
  exact rpick_ok k m (m * k) ha ht g (by omega) (by omega) hm1 hm rfl htl
theorem cp_own {w3 w2 : World} {B : Nat} {y0 y1 : Value} {d : List Int} {s u : Ten} {n : Int} (hu : vR 11 n d s no = u) (hx : vE 11 n d s no = 0) (h3 : Own w3 B y0 d) (h4 : Own w2 w3.heap.size y1 s.2) (hb : Below w3.heap.size w3 w2) (hs : B ≤ w3.heap.size) : OwnT w2 B y0 y1 u := by
  have e : vR 11 n d s no = (d, s.2) := by
    have hx' : shE s d = 0 := hx
    rw [show vR 11 n d s no = shR s d from rfl, shR, if_pos hx']
  rw [← hu, e]
  refine ⟨h3.later hb, h4.mono hs, fun k hk e2 => ?_⟩
  have h5 := h3.lt k hk
  have h6 := h4.frm k e2
  omega
set_option maxHeartbeats 4000000 in
theorem rdo_k3 {vd vl : Value} {d : List Int} {w : World} (n : Int) (hd : Ints w vd d) (hx : vE 3 n d no no = 0) :
    Calls Tryz.prog 24 #[.int .i64 3, .int .i64 n, vd, vl] w fun e w' => ∃ x0 x1, e = .returned (.agg #[x0, x1]) ∧ OwnT w' w.heap.size x0 x1 (vR 3 n d no no) ∧ Below w.heap.size w w' := by
  obtain ⟨da, dn, dc, rfl⟩ := hd.shape3
  obtain ⟨U, hU⟩ : ∃ U, U = w.alloc (.cells #[.slice none 0 0, .slice none 0 0] 34) := ⟨_, rfl⟩
  have hb : Below w.heap.size w U := by rw [hU]; exact (Below.refl _ _).alloc (Nat.le_refl _) _
  have HB : Hid (Below w.heap.size w U) := hb
  have HD : Hid (Ints U (.slice da dn dc) d) := hd.later hb
  have HBX : Hid (Box U w.heap.size (.slice none 0 0) (.slice none 0 0)) := by show Box _ _ _ _; rw [hU]; exact Box.new w _ _
  have hsU : w.heap.size + 1 ≤ U.heap.size := by rw [hU]; simp
  obtain ⟨u, hu⟩ : ∃ u, vR 3 n d no no = u := ⟨_, rfl⟩
  rw [hu]
  have HX : Hid (vE 3 n d no no = 0) := hx
  have HU : Hid (vR 3 n d no no = u) := hu
  clear hx hu hd hb
  go_enter Tryz.func24, Tryz.ntmps24
  go_upto_region 1 with fail
  rw [← hU]
  clear hU
  go_wp2_with fail
  refine (r_k3 HD.out u HX.out HU.out).mono ?_
  rintro e w2 ⟨x0, x1, rfl, ho, hb2⟩
  have HBU : Hid (Below U.heap.size U w2) := hb2
  obtain ⟨xa, xn, xc, rfl⟩ := ho.dims.ints.shape3
  obtain ⟨ya, yn, yc, rfl⟩ := ho.data.ints.shape3
  have hbx := HBX.out.later HBU.out
  have l0 := hbx.c0
  have l1 := hbx.c1
  have m0 := hbx.f 0
  have m1 := hbx.f 1
  have HBS : Hid (Box _ _ _ _) := hbx.set (.slice xa xn xc) (.slice ya yn yc)
  have HO : Hid (OwnT w2 (w.heap.size + 1) (.slice xa xn xc) (.slice ya yn yc) u) := ho.mono hsU
  have HBW : Hid (Below w.heap.size w w2) := Below.after HB.out HBU.out
  clear hbx ho hb2
  go_wp2
  have hr0 := HBS.out.c0
  have hr1 := HBS.out.c1
  refine bodyPost_ret (v := .agg #[.slice xa xn xc, .slice ya yn yc]) (by simp [results, Tryz.results24, go_sem, hr0, hr1]) rfl ⟨_, _, rfl, ?_, ?_⟩
  · exact (HO.out.set2 _ _ (by omega)).mono (by omega)
  · exact (HBW.out.setCell (by simp) _).setCell (by simp) _
set_option maxHeartbeats 4000000 in
theorem rdo_k4 {vd a0 a1 b0 b1 : Value} {d : List Int} {s t : Ten} {w : World} {P off c : Nat} (n : Int) (hc : 2 ≤ c) (ha : Tens w a0 a1 s) (ht : Tens w b0 b1 t) (p0 : w.cell? ⟨P, off, none⟩ = some a0) (p1 : w.cell? ⟨P, off + 1, none⟩ = some a1) (p2 : w.cell? ⟨P, off + 2, none⟩ = some b0) (p3 : w.cell? ⟨P, off + 3, none⟩ = some b1) (hd : Ints w vd d) (hx : vE 4 n d s t = 0) :
    Calls Tryz.prog 24 #[.int .i64 4, .int .i64 n, vd, .slice (some ⟨P, off, none⟩) 2 c] w fun e w' => ∃ x0 x1, e = .returned (.agg #[x0, x1]) ∧ OwnT w' w.heap.size x0 x1 (vR 4 n d s t) ∧ Below w.heap.size w w' := by
  obtain ⟨da, dn, dc, rfl⟩ := hd.shape3
  obtain ⟨aa, an, ac, rfl⟩ := ha.1.shape3
  obtain ⟨ba, bn, bc, rfl⟩ := ha.2.shape3
  have hne : ¬ w.heap.size = P := by have := cell_lt1 p0; omega
  have hne2 : ¬ P = w.heap.size := fun h => hne h.symm
  obtain ⟨ea, en, ec, rfl⟩ := ht.1.shape3
  obtain ⟨fa, fn, fc, rfl⟩ := ht.2.shape3
  obtain ⟨U, hU⟩ : ∃ U, U = w.alloc (.cells #[.slice none 0 0, .slice none 0 0] 34) := ⟨_, rfl⟩
  have hb : Below w.heap.size w U := by rw [hU]; exact (Below.refl _ _).alloc (Nat.le_refl _) _
  have HB : Hid (Below w.heap.size w U) := hb
  have HD : Hid (Ints U (.slice da dn dc) d) := hd.later hb
  have HBX : Hid (Box U w.heap.size (.slice none 0 0) (.slice none 0 0)) := by show Box _ _ _ _; rw [hU]; exact Box.new w _ _
  have hsU : w.heap.size + 1 ≤ U.heap.size := by rw [hU]; simp
  have HA : Hid (Tens U (.slice aa an ac) (.slice ba bn bc) s) := ha.later hb
  replace p0 := cell_at1 hb p0
  replace p1 := cell_at1 hb p1
  have HT : Hid (Tens U (.slice ea en ec) (.slice fa fn fc) t) := ht.later hb
  replace p2 := cell_at1 hb p2
  replace p3 := cell_at1 hb p3
  obtain ⟨u, hu⟩ : ∃ u, vR 4 n d s t = u := ⟨_, rfl⟩
  rw [hu]
  have HX : Hid (vE 4 n d s t = 0) := hx
  have HU : Hid (vR 4 n d s t = u) := hu
  clear hx hu hd hb ha ht
  go_enter Tryz.func24, Tryz.ntmps24
  go_upto_region 1 with fail
  rw [← hU]
  clear hU
  go_wp2_with fail
  go_region_held3 (fun w' => w'.cell? ⟨P, off, none⟩ = some (.slice aa an ac) ∧ w'.cell? ⟨P, off + 1, none⟩ = some (.slice ba bn bc) ∧ w'.cell? ⟨P, off + 2, none⟩ = some (.slice ea en ec) ∧ w'.cell? ⟨P, off + 3, none⟩ = some (.slice fa fn fc)) (go_keep) (first | (go_at_call 45; refine (r_k4 ?_ ?_ u HX.out HU.out).mono ?_; exact HA.out.later (Below.refl _ _).drew; exact HT.out.later (Below.refl _ _).drew; rintro r w2 ⟨x0, x1, rfl, ho, hb2⟩; have HBU : Hid (Below U.heap.size U w2) := Below.after (Below.refl _ _).drew hb2; obtain ⟨xa, xn, xc, rfl⟩ := ho.dims.ints.shape3; obtain ⟨ya, yn, yc, rfl⟩ := ho.data.ints.shape3; have hbx := HBX.out.later HBU.out; have l0 := hbx.c0; have l1 := hbx.c1; have m0 := hbx.f 0; have m1 := hbx.f 1; have HBS : Hid (Box _ _ _ _) := hbx.set (.slice xa xn xc) (.slice ya yn yc); have HO : Hid (OwnT w2 (w.heap.size + 1) (.slice xa xn xc) (.slice ya yn yc) u) := ho.mono hsU; have HBW : Hid (Below w.heap.size w w2) := Below.after HB.out HBU.out; have a_0 := cell_at1 HBU.out p0; have a_1 := cell_at1 HBU.out p1; have a_2 := cell_at1 HBU.out p2; have a_3 := cell_at1 HBU.out p3; clear hbx ho hb2))
  clear a_0 a_1 p0 p1 a_2 a_3 p2 p3
  go_wp2
  have hr0 := HBS.out.c0
  have hr1 := HBS.out.c1
  refine bodyPost_ret (v := .agg #[.slice xa xn xc, .slice ya yn yc]) (by simp [results, Tryz.results24, go_sem, hr0, hr1]) rfl ⟨_, _, rfl, ?_, ?_⟩
  · exact (HO.out.set2 _ _ (by omega)).mono (by omega)
  · exact (HBW.out.setCell (by simp) _).setCell (by simp) _
set_option maxHeartbeats 4000000 in
theorem rdo_k5 {vd a0 a1 b0 b1 : Value} {d : List Int} {s t : Ten} {w : World} {P off c : Nat} (n : Int) (hc : 2 ≤ c) (ha : Tens w a0 a1 s) (ht : Tens w b0 b1 t) (p0 : w.cell? ⟨P, off, none⟩ = some a0) (p1 : w.cell? ⟨P, off + 1, none⟩ = some a1) (p2 : w.cell? ⟨P, off + 2, none⟩ = some b0) (p3 : w.cell? ⟨P, off + 3, none⟩ = some b1) (hd : Ints w vd d) (hx : vE 5 n d s t = 0) :
    Calls Tryz.prog 24 #[.int .i64 5, .int .i64 n, vd, .slice (some ⟨P, off, none⟩) 2 c] w fun e w' => ∃ x0 x1, e = .returned (.agg #[x0, x1]) ∧ OwnT w' w.heap.size x0 x1 (vR 5 n d s t) ∧ Below w.heap.size w w' := by
  obtain ⟨da, dn, dc, rfl⟩ := hd.shape3
  obtain ⟨aa, an, ac, rfl⟩ := ha.1.shape3
  obtain ⟨ba, bn, bc, rfl⟩ := ha.2.shape3
  have hne : ¬ w.heap.size = P := by have := cell_lt1 p0; omega
  have hne2 : ¬ P = w.heap.size := fun h => hne h.symm
  obtain ⟨ea, en, ec, rfl⟩ := ht.1.shape3
  obtain ⟨fa, fn, fc, rfl⟩ := ht.2.shape3
  obtain ⟨U, hU⟩ : ∃ U, U = w.alloc (.cells #[.slice none 0 0, .slice none 0 0] 34) := ⟨_, rfl⟩
  have hb : Below w.heap.size w U := by rw [hU]; exact (Below.refl _ _).alloc (Nat.le_refl _) _
  have HB : Hid (Below w.heap.size w U) := hb
  have HD : Hid (Ints U (.slice da dn dc) d) := hd.later hb
  have HBX : Hid (Box U w.heap.size (.slice none 0 0) (.slice none 0 0)) := by show Box _ _ _ _; rw [hU]; exact Box.new w _ _
  have hsU : w.heap.size + 1 ≤ U.heap.size := by rw [hU]; simp
  have HA : Hid (Tens U (.slice aa an ac) (.slice ba bn bc) s) := ha.later hb
  replace p0 := cell_at1 hb p0
  replace p1 := cell_at1 hb p1
  have HT : Hid (Tens U (.slice ea en ec) (.slice fa fn fc) t) := ht.later hb
  replace p2 := cell_at1 hb p2
  replace p3 := cell_at1 hb p3
  obtain ⟨u, hu⟩ : ∃ u, vR 5 n d s t = u := ⟨_, rfl⟩
  rw [hu]
  have HX : Hid (vE 5 n d s t = 0) := hx
  have HU : Hid (vR 5 n d s t = u) := hu
  clear hx hu hd hb ha ht
  go_enter Tryz.func24, Tryz.ntmps24
  go_upto_region 1 with fail
  rw [← hU]
  clear hU
  go_wp2_with fail
  go_region_held3 (fun w' => w'.cell? ⟨P, off, none⟩ = some (.slice aa an ac) ∧ w'.cell? ⟨P, off + 1, none⟩ = some (.slice ba bn bc) ∧ w'.cell? ⟨P, off + 2, none⟩ = some (.slice ea en ec) ∧ w'.cell? ⟨P, off + 3, none⟩ = some (.slice fa fn fc)) (go_keep) (first | (go_at_call 45; refine (r_k5 ?_ ?_ u HX.out HU.out).mono ?_; exact HA.out.later (Below.refl _ _).drew; exact HT.out.later (Below.refl _ _).drew; rintro r w2 ⟨x0, x1, rfl, ho, hb2⟩; have HBU : Hid (Below U.heap.size U w2) := Below.after (Below.refl _ _).drew hb2; obtain ⟨xa, xn, xc, rfl⟩ := ho.dims.ints.shape3; obtain ⟨ya, yn, yc, rfl⟩ := ho.data.ints.shape3; have hbx := HBX.out.later HBU.out; have l0 := hbx.c0; have l1 := hbx.c1; have m0 := hbx.f 0; have m1 := hbx.f 1; have HBS : Hid (Box _ _ _ _) := hbx.set (.slice xa xn xc) (.slice ya yn yc); have HO : Hid (OwnT w2 (w.heap.size + 1) (.slice xa xn xc) (.slice ya yn yc) u) := ho.mono hsU; have HBW : Hid (Below w.heap.size w w2) := Below.after HB.out HBU.out; have a_0 := cell_at1 HBU.out p0; have a_1 := cell_at1 HBU.out p1; have a_2 := cell_at1 HBU.out p2; have a_3 := cell_at1 HBU.out p3; clear hbx ho hb2))
  clear a_0 a_1 p0 p1 a_2 a_3 p2 p3
  go_wp2
  have hr0 := HBS.out.c0
  have hr1 := HBS.out.c1
  refine bodyPost_ret (v := .agg #[.slice xa xn xc, .slice ya yn yc]) (by simp [results, Tryz.results24, go_sem, hr0, hr1]) rfl ⟨_, _, rfl, ?_, ?_⟩
  · exact (HO.out.set2 _ _ (by omega)).mono (by omega)
  · exact (HBW.out.setCell (by simp) _).setCell (by simp) _
set_option maxHeartbeats 4000000 in
theorem rdo_k6 {vd a0 a1 b0 b1 : Value} {d : List Int} {s t : Ten} {w : World} {P off c : Nat} (n : Int) (hc : 2 ≤ c) (ha : Tens w a0 a1 s) (ht : Tens w b0 b1 t) (p0 : w.cell? ⟨P, off, none⟩ = some a0) (p1 : w.cell? ⟨P, off + 1, none⟩ = some a1) (p2 : w.cell? ⟨P, off + 2, none⟩ = some b0) (p3 : w.cell? ⟨P, off + 3, none⟩ = some b1) (hd : Ints w vd d) (hx : vE 6 n d s t = 0) :
    Calls Tryz.prog 24 #[.int .i64 6, .int .i64 n, vd, .slice (some ⟨P, off, none⟩) 2 c] w fun e w' => ∃ x0 x1, e = .returned (.agg #[x0, x1]) ∧ OwnT w' w.heap.size x0 x1 (vR 6 n d s t) ∧ Below w.heap.size w w' := by
  obtain ⟨da, dn, dc, rfl⟩ := hd.shape3
  obtain ⟨aa, an, ac, rfl⟩ := ha.1.shape3
  obtain ⟨ba, bn, bc, rfl⟩ := ha.2.shape3
  have hne : ¬ w.heap.size = P := by have := cell_lt1 p0; omega
  have hne2 : ¬ P = w.heap.size := fun h => hne h.symm
  obtain ⟨ea, en, ec, rfl⟩ := ht.1.shape3
  obtain ⟨fa, fn, fc, rfl⟩ := ht.2.shape3
  obtain ⟨U, hU⟩ : ∃ U, U = w.alloc (.cells #[.slice none 0 0, .slice none 0 0] 34) := ⟨_, rfl⟩
  have hb : Below w.heap.size w U := by rw [hU]; exact (Below.refl _ _).alloc (Nat.le_refl _) _
  have HB : Hid (Below w.heap.size w U) := hb
  have HD : Hid (Ints U (.slice da dn dc) d) := hd.later hb
  have HBX : Hid (Box U w.heap.size (.slice none 0 0) (.slice none 0 0)) := by show Box _ _ _ _; rw [hU]; exact Box.new w _ _
  have hsU : w.heap.size + 1 ≤ U.heap.size := by rw [hU]; simp
  have HA : Hid (Tens U (.slice aa an ac) (.slice ba bn bc) s) := ha.later hb
  replace p0 := cell_at1 hb p0
  replace p1 := cell_at1 hb p1
  have HT : Hid (Tens U (.slice ea en ec) (.slice fa fn fc) t) := ht.later hb
  replace p2 := cell_at1 hb p2
  replace p3 := cell_at1 hb p3
  obtain ⟨u, hu⟩ : ∃ u, vR 6 n d s t = u := ⟨_, rfl⟩
  rw [hu]
  have HX : Hid (vE 6 n d s t = 0) := hx
  have HU : Hid (vR 6 n d s t = u) := hu
  clear hx hu hd hb ha ht
  go_enter Tryz.func24, Tryz.ntmps24
  go_upto_region 1 with fail
  rw [← hU]
  clear hU
  go_wp2_with fail
  go_region_held3 (fun w' => w'.cell? ⟨P, off, none⟩ = some (.slice aa an ac) ∧ w'.cell? ⟨P, off + 1, none⟩ = some (.slice ba bn bc) ∧ w'.cell? ⟨P, off + 2, none⟩ = some (.slice ea en ec) ∧ w'.cell? ⟨P, off + 3, none⟩ = some (.slice fa fn fc)) (go_keep) (first | (go_at_call 45; refine (r_k6 ?_ ?_ u HX.out HU.out).mono ?_; exact HA.out.later (Below.refl _ _).drew; exact HT.out.later (Below.refl _ _).drew; rintro r w2 ⟨x0, x1, rfl, ho, hb2⟩; have HBU : Hid (Below U.heap.size U w2) := Below.after (Below.refl _ _).drew hb2; obtain ⟨xa, xn, xc, rfl⟩ := ho.dims.ints.shape3; obtain ⟨ya, yn, yc, rfl⟩ := ho.data.ints.shape3; have hbx := HBX.out.later HBU.out; have l0 := hbx.c0; have l1 := hbx.c1; have m0 := hbx.f 0; have m1 := hbx.f 1; have HBS : Hid (Box _ _ _ _) := hbx.set (.slice xa xn xc) (.slice ya yn yc); have HO : Hid (OwnT w2 (w.heap.size + 1) (.slice xa xn xc) (.slice ya yn yc) u) := ho.mono hsU; have HBW : Hid (Below w.heap.size w w2) := Below.after HB.out HBU.out; have a_0 := cell_at1 HBU.out p0; have a_1 := cell_at1 HBU.out p1; have a_2 := cell_at1 HBU.out p2; have a_3 := cell_at1 HBU.out p3; clear hbx ho hb2))
  clear a_0 a_1 p0 p1 a_2 a_3 p2 p3
  go_wp2
  have hr0 := HBS.out.c0
  have hr1 := HBS.out.c1
  refine bodyPost_ret (v := .agg #[.slice xa xn xc, .slice ya yn yc]) (by simp [results, Tryz.results24, go_sem, hr0, hr1]) rfl ⟨_, _, rfl, ?_, ?_⟩
  · exact (HO.out.set2 _ _ (by omega)).mono (by omega)
  · exact (HBW.out.setCell (by simp) _).setCell (by simp) _
set_option maxHeartbeats 4000000 in
theorem rdo_k7 {vd a0 a1 : Value} {d : List Int} {s : Ten} {w : World} {P off c : Nat} (n : Int) (hc : 1 ≤ c) (ha : Tens w a0 a1 s) (p0 : w.cell? ⟨P, off, none⟩ = some a0) (p1 : w.cell? ⟨P, off + 1, none⟩ = some a1) (hd : Ints w vd d) (hx : vE 7 n d s no = 0) :
    Calls Tryz.prog 24 #[.int .i64 7, .int .i64 n, vd, .slice (some ⟨P, off, none⟩) 1 c] w fun e w' => ∃ x0 x1, e = .returned (.agg #[x0, x1]) ∧ OwnT w' w.heap.size x0 x1 (vR 7 n d s no) ∧ Below w.heap.size w w' := by
  obtain ⟨da, dn, dc, rfl⟩ := hd.shape3
  obtain ⟨aa, an, ac, rfl⟩ := ha.1.shape3
  obtain ⟨ba, bn, bc, rfl⟩ := ha.2.shape3
  have hne : ¬ w.heap.size = P := by have := cell_lt1 p0; omega
  have hne2 : ¬ P = w.heap.size := fun h => hne h.symm
  obtain ⟨U, hU⟩ : ∃ U, U = w.alloc (.cells #[.slice none 0 0, .slice none 0 0] 34) := ⟨_, rfl⟩
  have hb : Below w.heap.size w U := by rw [hU]; exact (Below.refl _ _).alloc (Nat.le_refl _) _
  have HB : Hid (Below w.heap.size w U) := hb
  have HD : Hid (Ints U (.slice da dn dc) d) := hd.later hb
  have HBX : Hid (Box U w.heap.size (.slice none 0 0) (.slice none 0 0)) := by show Box _ _ _ _; rw [hU]; exact Box.new w _ _
  have hsU : w.heap.size + 1 ≤ U.heap.size := by rw [hU]; simp
  have HA : Hid (Tens U (.slice aa an ac) (.slice ba bn bc) s) := ha.later hb
  replace p0 := cell_at1 hb p0
  replace p1 := cell_at1 hb p1
  obtain ⟨u, hu⟩ : ∃ u, vR 7 n d s no = u := ⟨_, rfl⟩
  rw [hu]
  have HX : Hid (vE 7 n d s no = 0) := hx
  have HU : Hid (vR 7 n d s no = u) := hu
  clear hx hu hd hb ha
  go_enter Tryz.func24, Tryz.ntmps24
  go_upto_region 1 with fail
  rw [← hU]
  clear hU
  go_wp2_with fail
  refine (r_k7 HA.out HD.out u HX.out HU.out).mono ?_
  rintro e w2 ⟨x0, x1, rfl, ho, hb2⟩
  have HBU : Hid (Below U.heap.size U w2) := hb2
  obtain ⟨xa, xn, xc, rfl⟩ := ho.dims.ints.shape3
  obtain ⟨ya, yn, yc, rfl⟩ := ho.data.ints.shape3
  have hbx := HBX.out.later HBU.out
  have l0 := hbx.c0
  have l1 := hbx.c1
  have m0 := hbx.f 0
  have m1 := hbx.f 1
  have HBS : Hid (Box _ _ _ _) := hbx.set (.slice xa xn xc) (.slice ya yn yc)
  have HO : Hid (OwnT w2 (w.heap.size + 1) (.slice xa xn xc) (.slice ya yn yc) u) := ho.mono hsU
  have HBW : Hid (Below w.heap.size w w2) := Below.after HB.out HBU.out
  clear hbx ho hb2
  go_wp2
  have hr0 := HBS.out.c0
  have hr1 := HBS.out.c1
  refine bodyPost_ret (v := .agg #[.slice xa xn xc, .slice ya yn yc]) (by simp [results, Tryz.results24, go_sem, hr0, hr1]) rfl ⟨_, _, rfl, ?_, ?_⟩
  · exact (HO.out.set2 _ _ (by omega)).mono (by omega)
  · exact (HBW.out.setCell (by simp) _).setCell (by simp) _
set_option maxHeartbeats 4000000 in
theorem rdo_k8 {vd a0 a1 : Value} {d : List Int} {s : Ten} {w : World} {P off c : Nat} (n : Int) (hc : 1 ≤ c) (ha : Tens w a0 a1 s) (p0 : w.cell? ⟨P, off, none⟩ = some a0) (p1 : w.cell? ⟨P, off + 1, none⟩ = some a1) (hd : Ints w vd d) (hx : vE 8 n d s no = 0) :
    Calls Tryz.prog 24 #[.int .i64 8, .int .i64 n, vd, .slice (some ⟨P, off, none⟩) 1 c] w fun e w' => ∃ x0 x1, e = .returned (.agg #[x0, x1]) ∧ OwnT w' w.heap.size x0 x1 (vR 8 n d s no) ∧ Below w.heap.size w w' := by
  obtain ⟨da, dn, dc, rfl⟩ := hd.shape3
  obtain ⟨aa, an, ac, rfl⟩ := ha.1.shape3
  obtain ⟨ba, bn, bc, rfl⟩ := ha.2.shape3
  have hne : ¬ w.heap.size = P := by have := cell_lt1 p0; omega
  have hne2 : ¬ P = w.heap.size := fun h => hne h.symm
  obtain ⟨U, hU⟩ : ∃ U, U = w.alloc (.cells #[.slice none 0 0, .slice none 0 0] 34) := ⟨_, rfl⟩
  have hb : Below w.heap.size w U := by rw [hU]; exact (Below.refl _ _).alloc (Nat.le_refl _) _
  have HB : Hid (Below w.heap.size w U) := hb
  have HD : Hid (Ints U (.slice da dn dc) d) := hd.later hb
  have HBX : Hid (Box U w.heap.size (.slice none 0 0) (.slice none 0 0)) := by show Box _ _ _ _; rw [hU]; exact Box.new w _ _
  have hsU : w.heap.size + 1 ≤ U.heap.size := by rw [hU]; simp
  have HA : Hid (Tens U (.slice aa an ac) (.slice ba bn bc) s) := ha.later hb
  replace p0 := cell_at1 hb p0
  replace p1 := cell_at1 hb p1
  obtain ⟨u, hu⟩ : ∃ u, vR 8 n d s no = u := ⟨_, rfl⟩
  rw [hu]
  have HX : Hid (vE 8 n d s no = 0) := hx
  have HU : Hid (vR 8 n d s no = u) := hu
  clear hx hu hd hb ha
  go_enter Tryz.func24, Tryz.ntmps24
  go_upto_region 1 with fail
  rw [← hU]
  clear hU
  go_wp2_with fail
  refine (r_k8 HA.out HD.out u HX.out HU.out).mono ?_
  rintro e w2 ⟨x0, x1, rfl, ho, hb2⟩
  have HBU : Hid (Below U.heap.size U w2) := hb2
  obtain ⟨xa, xn, xc, rfl⟩ := ho.dims.ints.shape3
  obtain ⟨ya, yn, yc, rfl⟩ := ho.data.ints.shape3
  have hbx := HBX.out.later HBU.out
  have l0 := hbx.c0
  have l1 := hbx.c1
  have m0 := hbx.f 0
  have m1 := hbx.f 1
  have HBS : Hid (Box _ _ _ _) := hbx.set (.slice xa xn xc) (.slice ya yn yc)
  have HO : Hid (OwnT w2 (w.heap.size + 1) (.slice xa xn xc) (.slice ya yn yc) u) := ho.mono hsU
  have HBW : Hid (Below w.heap.size w w2) := Below.after HB.out HBU.out
  clear hbx ho hb2
  go_wp2
  have hr0 := HBS.out.c0
  have hr1 := HBS.out.c1
  refine bodyPost_ret (v := .agg #[.slice xa xn xc, .slice ya yn yc]) (by simp [results, Tryz.results24, go_sem, hr0, hr1]) rfl ⟨_, _, rfl, ?_, ?_⟩
  · exact (HO.out.set2 _ _ (by omega)).mono (by omega)
  · exact (HBW.out.setCell (by simp) _).setCell (by simp) _
set_option maxHeartbeats 4000000 in
theorem rdo_k9 {vd a0 a1 b0 b1 : Value} {d : List Int} {s t : Ten} {w : World} {P off c : Nat} (n : Int) (hc : 2 ≤ c) (ha : Tens w a0 a1 s) (ht : Tens w b0 b1 t) (p0 : w.cell? ⟨P, off, none⟩ = some a0) (p1 : w.cell? ⟨P, off + 1, none⟩ = some a1) (p2 : w.cell? ⟨P, off + 2, none⟩ = some b0) (p3 : w.cell? ⟨P, off + 3, none⟩ = some b1) (hd : Ints w vd d) (hx : vE 9 n d s t = 0) :
    Calls Tryz.prog 24 #[.int .i64 9, .int .i64 n, vd, .slice (some ⟨P, off, none⟩) 2 c] w fun e w' => ∃ x0 x1, e = .returned (.agg #[x0, x1]) ∧ OwnT w' w.heap.size x0 x1 (vR 9 n d s t) ∧ Below w.heap.size w w' := by
  obtain ⟨da, dn, dc, rfl⟩ := hd.shape3
  obtain ⟨aa, an, ac, rfl⟩ := ha.1.shape3
  obtain ⟨ba, bn, bc, rfl⟩ := ha.2.shape3
  have hne : ¬ w.heap.size = P := by have := cell_lt1 p0; omega
  have hne2 : ¬ P = w.heap.size := fun h => hne h.symm
  obtain ⟨ea, en, ec, rfl⟩ := ht.1.shape3
  obtain ⟨fa, fn, fc, rfl⟩ := ht.2.shape3
  obtain ⟨U, hU⟩ : ∃ U, U = w.alloc (.cells #[.slice none 0 0, .slice none 0 0] 34) := ⟨_, rfl⟩
  have hb : Below w.heap.size w U := by rw [hU]; exact (Below.refl _ _).alloc (Nat.le_refl _) _
  have HB : Hid (Below w.heap.size w U) := hb
  have HD : Hid (Ints U (.slice da dn dc) d) := hd.later hb
  have HBX : Hid (Box U w.heap.size (.slice none 0 0) (.slice none 0 0)) := by show Box _ _ _ _; rw [hU]; exact Box.new w _ _
  have hsU : w.heap.size + 1 ≤ U.heap.size := by rw [hU]; simp
  have HA : Hid (Tens U (.slice aa an ac) (.slice ba bn bc) s) := ha.later hb
  replace p0 := cell_at1 hb p0
  replace p1 := cell_at1 hb p1
  have HT : Hid (Tens U (.slice ea en ec) (.slice fa fn fc) t) := ht.later hb
  replace p2 := cell_at1 hb p2
  replace p3 := cell_at1 hb p3
  obtain ⟨u, hu⟩ : ∃ u, vR 9 n d s t = u := ⟨_, rfl⟩
  rw [hu]
  have HX : Hid (vE 9 n d s t = 0) := hx
  have HU : Hid (vR 9 n d s t = u) := hu
  clear hx hu hd hb ha ht
  go_enter Tryz.func24, Tryz.ntmps24
  go_upto_region 1 with fail
  rw [← hU]
  clear hU
  go_wp2_with fail
  go_region_held3 (fun w' => w'.cell? ⟨P, off, none⟩ = some (.slice aa an ac) ∧ w'.cell? ⟨P, off + 1, none⟩ = some (.slice ba bn bc) ∧ w'.cell? ⟨P, off + 2, none⟩ = some (.slice ea en ec) ∧ w'.cell? ⟨P, off + 3, none⟩ = some (.slice fa fn fc)) (go_keep) (first | (go_at_call 47; refine (r_k9 ?_ ?_ u HX.out HU.out).mono ?_; exact HA.out.later (Below.refl _ _).drew; exact HT.out.later (Below.refl _ _).drew; rintro r w2 ⟨x0, x1, rfl, ho, hb2⟩; have HBU : Hid (Below U.heap.size U w2) := Below.after (Below.refl _ _).drew hb2; obtain ⟨xa, xn, xc, rfl⟩ := ho.dims.ints.shape3; obtain ⟨ya, yn, yc, rfl⟩ := ho.data.ints.shape3; have hbx := HBX.out.later HBU.out; have l0 := hbx.c0; have l1 := hbx.c1; have m0 := hbx.f 0; have m1 := hbx.f 1; have HBS : Hid (Box _ _ _ _) := hbx.set (.slice xa xn xc) (.slice ya yn yc); have HO : Hid (OwnT w2 (w.heap.size + 1) (.slice xa xn xc) (.slice ya yn yc) u) := ho.mono hsU; have HBW : Hid (Below w.heap.size w w2) := Below.after HB.out HBU.out; have a_0 := cell_at1 HBU.out p0; have a_1 := cell_at1 HBU.out p1; have a_2 := cell_at1 HBU.out p2; have a_3 := cell_at1 HBU.out p3; clear hbx ho hb2))
  clear a_0 a_1 p0 p1 a_2 a_3 p2 p3
  go_wp2
  have hr0 := HBS.out.c0
  have hr1 := HBS.out.c1
  refine bodyPost_ret (v := .agg #[.slice xa xn xc, .slice ya yn yc]) (by simp [results, Tryz.results24, go_sem, hr0, hr1]) rfl ⟨_, _, rfl, ?_, ?_⟩
  · exact (HO.out.set2 _ _ (by omega)).mono (by omega)
  · exact (HBW.out.setCell (by simp) _).setCell (by simp) _
set_option maxHeartbeats 4000000 in
theorem rdo_k10 {vd a0 a1 : Value} {d : List Int} {s : Ten} {w : World} {P off c : Nat} (n : Int) (hc : 1 ≤ c) (ha : Tens w a0 a1 s) (p0 : w.cell? ⟨P, off, none⟩ = some a0) (p1 : w.cell? ⟨P, off + 1, none⟩ = some a1) (hd : Ints w vd d) (hx : vE 10 n d s no = 0) :
    Calls Tryz.prog 24 #[.int .i64 10, .int .i64 n, vd, .slice (some ⟨P, off, none⟩) 1 c] w fun e w' => ∃ x0 x1, e = .returned (.agg #[x0, x1]) ∧ OwnT w' w.heap.size x0 x1 (vR 10 n d s no) ∧ Below w.heap.size w w' := by
  obtain ⟨da, dn, dc, rfl⟩ := hd.shape3
  obtain ⟨aa, an, ac, rfl⟩ := ha.1.shape3
  obtain ⟨ba, bn, bc, rfl⟩ := ha.2.shape3
  have hne : ¬ w.heap.size = P := by have := cell_lt1 p0; omega
  have hne2 : ¬ P = w.heap.size := fun h => hne h.symm
  obtain ⟨U, hU⟩ : ∃ U, U = w.alloc (.cells #[.slice none 0 0, .slice none 0 0] 34) := ⟨_, rfl⟩
  have hb : Below w.heap.size w U := by rw [hU]; exact (Below.refl _ _).alloc (Nat.le_refl _) _
  have HB : Hid (Below w.heap.size w U) := hb
  have HD : Hid (Ints U (.slice da dn dc) d) := hd.later hb
  have HBX : Hid (Box U w.heap.size (.slice none 0 0) (.slice none 0 0)) := by show Box _ _ _ _; rw [hU]; exact Box.new w _ _
  have hsU : w.heap.size + 1 ≤ U.heap.size := by rw [hU]; simp
  have HA : Hid (Tens U (.slice aa an ac) (.slice ba bn bc) s) := ha.later hb
  replace p0 := cell_at1 hb p0
  replace p1 := cell_at1 hb p1
  obtain ⟨u, hu⟩ : ∃ u, vR 10 n d s no = u := ⟨_, rfl⟩
  rw [hu]
  have HX : Hid (vE 10 n d s no = 0) := hx
  have HU : Hid (vR 10 n d s no = u) := hu
  clear hx hu hd hb ha
  go_enter Tryz.func24, Tryz.ntmps24
  go_upto_region 1 with fail
  rw [← hU]
  clear hU
  go_wp2_with fail
  refine (r_k10 HA.out HD.out u HX.out HU.out).mono ?_
  rintro e w2 ⟨x0, x1, rfl, ho, hb2⟩
  have HBU : Hid (Below U.heap.size U w2) := hb2
  obtain ⟨xa, xn, xc, rfl⟩ := ho.dims.ints.shape3
  obtain ⟨ya, yn, yc, rfl⟩ := ho.data.ints.shape3
  have hbx := HBX.out.later HBU.out
  have l0 := hbx.c0
  have l1 := hbx.c1
  have m0 := hbx.f 0
  have m1 := hbx.f 1
  have HBS : Hid (Box _ _ _ _) := hbx.set (.slice xa xn xc) (.slice ya yn yc)
  have HO : Hid (OwnT w2 (w.heap.size + 1) (.slice xa xn xc) (.slice ya yn yc) u) := ho.mono hsU
  have HBW : Hid (Below w.heap.size w w2) := Below.after HB.out HBU.out
  clear hbx ho hb2
  go_wp2
  have hr0 := HBS.out.c0
  have hr1 := HBS.out.c1
  refine bodyPost_ret (v := .agg #[.slice xa xn xc, .slice ya yn yc]) (by simp [results, Tryz.results24, go_sem, hr0, hr1]) rfl ⟨_, _, rfl, ?_, ?_⟩
  · exact (HO.out.set2 _ _ (by omega)).mono (by omega)
  · exact (HBW.out.setCell (by simp) _).setCell (by simp) _
set_option maxHeartbeats 4000000 in
theorem rdo_k11 {vd a0 a1 : Value} {d : List Int} {s : Ten} {w : World} {P off c : Nat} (n : Int) (hc : 1 ≤ c) (ha : Tens w a0 a1 s) (p0 : w.cell? ⟨P, off, none⟩ = some a0) (p1 : w.cell? ⟨P, off + 1, none⟩ = some a1) (hd : Ints w vd d) (hx : vE 11 n d s no = 0) :
    Calls Tryz.prog 24 #[.int .i64 11, .int .i64 n, vd, .slice (some ⟨P, off, none⟩) 1 c] w fun e w' => ∃ x0 x1, e = .returned (.agg #[x0, x1]) ∧ OwnT w' w.heap.size x0 x1 (vR 11 n d s no) ∧ Below w.heap.size w w' := by
  obtain ⟨da, dn, dc, rfl⟩ := hd.shape3
  obtain ⟨aa, an, ac, rfl⟩ := ha.1.shape3
  obtain ⟨ba, bn, bc, rfl⟩ := ha.2.shape3
  have hne : ¬ w.heap.size = P := by have := cell_lt1 p0; omega
  have hne2 : ¬ P = w.heap.size := fun h => hne h.symm
  obtain ⟨U, hU⟩ : ∃ U, U = w.alloc (.cells #[.slice none 0 0, .slice none 0 0] 34) := ⟨_, rfl⟩
  have hb : Below w.heap.size w U := by rw [hU]; exact (Below.refl _ _).alloc (Nat.le_refl _) _
  have HB : Hid (Below w.heap.size w U) := hb
  have HD : Hid (Ints U (.slice da dn dc) d) := hd.later hb
  have HBX : Hid (Box U w.heap.size (.slice none 0 0) (.slice none 0 0)) := by show Box _ _ _ _; rw [hU]; exact Box.new w _ _
  have hsU : w.heap.size + 1 ≤ U.heap.size := by rw [hU]; simp
  have HA : Hid (Tens U (.slice aa an ac) (.slice ba bn bc) s) := ha.later hb
  replace p0 := cell_at1 hb p0
  replace p1 := cell_at1 hb p1
  obtain ⟨u, hu⟩ : ∃ u, vR 11 n d s no = u := ⟨_, rfl⟩
  rw [hu]
  have HX : Hid (vE 11 n d s no = 0) := hx
  have HU : Hid (vR 11 n d s no = u) := hu
  clear hx hu hd hb ha
  go_enter Tryz.func24, Tryz.ntmps24
  go_upto_region 1 with fail
  rw [← hU]
  clear hU
  go_wp2_with fail
  go_region_held3 (fun w' => w'.cell? ⟨P, off + 1, none⟩ = some (.slice ba bn bc)) (go_keep)
    (first
      | (go_at_call_of 17 (Value.slice da dn dc); refine (copy_Own (d := d) ?_).mono ?_; exact HD.out.later (Below.refl _ _).drew; rintro r w3 ⟨y0, rfl, ho3, hb3⟩; have HB3 : Hid (Below U.heap.size U w3) := Below.after (Below.refl _ _).drew hb3; have HO3 : Hid (Own w3 U.heap.size y0 d) := ho3; have a_0 := cell_at1 HB3.out p1; clear ho3 hb3)
      | (go_at_call_of 17 (Value.slice ba bn bc); refine (copy_Own (d := s.2) ?_).mono ?_; exact HA.out.2.later HB3.out; rintro r w2 ⟨y1, rfl, ho4, hb4⟩; have HBU : Hid (Below U.heap.size U w2) := Below.after HB3.out hb4; have ho : OwnT w2 U.heap.size y0 y1 u := cp_own HU.out HX.out HO3.out ho4 hb4 HB3.out.size; obtain ⟨xa, xn, xc, rfl⟩ := ho.dims.ints.shape3; obtain ⟨ya, yn, yc, rfl⟩ := ho.data.ints.shape3; have hbx := HBX.out.later HBU.out; have l0 := hbx.c0; have l1 := hbx.c1; have m0 := hbx.f 0; have m1 := hbx.f 1; have HBS : Hid (Box _ _ _ _) := hbx.set (.slice xa xn xc) (.slice ya yn yc); have HO : Hid (OwnT w2 (w.heap.size + 1) (.slice xa xn xc) (.slice ya yn yc) u) := ho.mono hsU; have HBW : Hid (Below w.heap.size w w2) := Below.after HB.out HBU.out; have b_0 := cell_at1 HBU.out p1; clear hbx ho ho4 hb4))
  clear a_0 b_0 p0 p1
  go_wp2
  have hr0 := HBS.out.c0
  have hr1 := HBS.out.c1
  refine bodyPost_ret (v := .agg #[.slice xa xn xc, .slice ya yn yc]) (by simp [results, Tryz.results24, go_sem, hr0, hr1]) rfl ⟨_, _, rfl, ?_, ?_⟩
  · exact (HO.out.set2 _ _ (by omega)).mono (by omega)
  · exact (HBW.out.setCell (by simp) _).setCell (by simp) _
set_option maxHeartbeats 4000000 in
theorem rdo_k12 {vd a0 a1 : Value} {d : List Int} {s : Ten} {w : World} {P off c : Nat} (n : Int) (hc : 1 ≤ c) (ha : Tens w a0 a1 s) (p0 : w.cell? ⟨P, off, none⟩ = some a0) (p1 : w.cell? ⟨P, off + 1, none⟩ = some a1) (hd : Ints w vd d) (hx : vE 12 n d s no = 0) :
    Calls Tryz.prog 24 #[.int .i64 12, .int .i64 n, vd, .slice (some ⟨P, off, none⟩) 1 c] w fun e w' => ∃ x0 x1, e = .returned (.agg #[x0, x1]) ∧ OwnT w' w.heap.size x0 x1 (vR 12 n d s no) ∧ Below w.heap.size w w' := by
  obtain ⟨da, dn, dc, rfl⟩ := hd.shape3
  obtain ⟨aa, an, ac, rfl⟩ := ha.1.shape3
  obtain ⟨ba, bn, bc, rfl⟩ := ha.2.shape3
  have hne : ¬ w.heap.size = P := by have := cell_lt1 p0; omega
  have hne2 : ¬ P = w.heap.size := fun h => hne h.symm
  obtain ⟨U, hU⟩ : ∃ U, U = w.alloc (.cells #[.slice none 0 0, .slice none 0 0] 34) := ⟨_, rfl⟩
  have hb : Below w.heap.size w U := by rw [hU]; exact (Below.refl _ _).alloc (Nat.le_refl _) _
  have HB : Hid (Below w.heap.size w U) := hb
  have HD : Hid (Ints U (.slice da dn dc) d) := hd.later hb
  have HBX : Hid (Box U w.heap.size (.slice none 0 0) (.slice none 0 0)) := by show Box _ _ _ _; rw [hU]; exact Box.new w _ _
  have hsU : w.heap.size + 1 ≤ U.heap.size := by rw [hU]; simp
  have HA : Hid (Tens U (.slice aa an ac) (.slice ba bn bc) s) := ha.later hb
  replace p0 := cell_at1 hb p0
  replace p1 := cell_at1 hb p1
  obtain ⟨u, hu⟩ : ∃ u, vR 12 n d s no = u := ⟨_, rfl⟩
  rw [hu]
  have HX : Hid (vE 12 n d s no = 0) := hx
  have HU : Hid (vR 12 n d s no = u) := hu
  clear hx hu hd hb ha
  go_enter Tryz.func24, Tryz.ntmps24
  go_upto_region 1 with fail
  rw [← hU]
  clear hU
  go_wp2_with fail
  refine (r_k12 HA.out HD.out u HX.out HU.out).mono ?_
  rintro e w2 ⟨x0, x1, rfl, ho, hb2⟩
  have HBU : Hid (Below U.heap.size U w2) := hb2
  obtain ⟨xa, xn, xc, rfl⟩ := ho.dims.ints.shape3
  obtain ⟨ya, yn, yc, rfl⟩ := ho.data.ints.shape3
  have hbx := HBX.out.later HBU.out
  have l0 := hbx.c0
  have l1 := hbx.c1
  have m0 := hbx.f 0
  have m1 := hbx.f 1
  have HBS : Hid (Box _ _ _ _) := hbx.set (.slice xa xn xc) (.slice ya yn yc)
  have HO : Hid (OwnT w2 (w.heap.size + 1) (.slice xa xn xc) (.slice ya yn yc) u) := ho.mono hsU
  have HBW : Hid (Below w.heap.size w w2) := Below.after HB.out HBU.out
  clear hbx ho hb2
  go_wp2
  have hr0 := HBS.out.c0
  have hr1 := HBS.out.c1
  refine bodyPost_ret (v := .agg #[.slice xa xn xc, .slice ya yn yc]) (by simp [results, Tryz.results24, go_sem, hr0, hr1]) rfl ⟨_, _, rfl, ?_, ?_⟩
  · exact (HO.out.set2 _ _ (by omega)).mono (by omega)
  · exact (HBW.out.setCell (by simp) _).setCell (by simp) _
set_option maxHeartbeats 4000000 in
theorem rdo_k13 {vd a0 a1 : Value} {d : List Int} {s : Ten} {w : World} {P off c : Nat} (n : Int) (hc : 1 ≤ c) (ha : Tens w a0 a1 s) (p0 : w.cell? ⟨P, off, none⟩ = some a0) (p1 : w.cell? ⟨P, off + 1, none⟩ = some a1) (hd : Ints w vd d) (hx : vE 13 n d s no = 0) :
    Calls Tryz.prog 24 #[.int .i64 13, .int .i64 n, vd, .slice (some ⟨P, off, none⟩) 1 c] w fun e w' => ∃ x0 x1, e = .returned (.agg #[x0, x1]) ∧ OwnT w' w.heap.size x0 x1 (vR 13 n d s no) ∧ Below w.heap.size w w' := by
  obtain ⟨da, dn, dc, rfl⟩ := hd.shape3
  obtain ⟨aa, an, ac, rfl⟩ := ha.1.shape3
  obtain ⟨ba, bn, bc, rfl⟩ := ha.2.shape3
  have hne : ¬ w.heap.size = P := by have := cell_lt1 p0; omega
  have hne2 : ¬ P = w.heap.size := fun h => hne h.symm
  obtain ⟨U, hU⟩ : ∃ U, U = w.alloc (.cells #[.slice none 0 0, .slice none 0 0] 34) := ⟨_, rfl⟩
  have hb : Below w.heap.size w U := by rw [hU]; exact (Below.refl _ _).alloc (Nat.le_refl _) _
  have HB : Hid (Below w.heap.size w U) := hb
  have HD : Hid (Ints U (.slice da dn dc) d) := hd.later hb
  have HBX : Hid (Box U w.heap.size (.slice none 0 0) (.slice none 0 0)) := by show Box _ _ _ _; rw [hU]; exact Box.new w _ _
  have hsU : w.heap.size + 1 ≤ U.heap.size := by rw [hU]; simp
  have HA : Hid (Tens U (.slice aa an ac) (.slice ba bn bc) s) := ha.later hb
  replace p0 := cell_at1 hb p0
  replace p1 := cell_at1 hb p1
  obtain ⟨u, hu⟩ : ∃ u, vR 13 n d s no = u := ⟨_, rfl⟩
  rw [hu]
  have HX : Hid (vE 13 n d s no = 0) := hx
  have HU : Hid (vR 13 n d s no = u) := hu
  clear hx hu hd hb ha
  go_enter Tryz.func24, Tryz.ntmps24
  go_upto_region 1 with fail
  rw [← hU]
  clear hU
  go_wp2_with fail
  refine (r_k13 HA.out HD.out u HX.out HU.out).mono ?_
  rintro e w2 ⟨x0, x1, rfl, ho, hb2⟩
  have HBU : Hid (Below U.heap.size U w2) := hb2
  obtain ⟨xa, xn, xc, rfl⟩ := ho.dims.ints.shape3
  obtain ⟨ya, yn, yc, rfl⟩ := ho.data.ints.shape3
  have hbx := HBX.out.later HBU.out
  have l0 := hbx.c0
  have l1 := hbx.c1
  have m0 := hbx.f 0
  have m1 := hbx.f 1
  have HBS : Hid (Box _ _ _ _) := hbx.set (.slice xa xn xc) (.slice ya yn yc)
  have HO : Hid (OwnT w2 (w.heap.size + 1) (.slice xa xn xc) (.slice ya yn yc) u) := ho.mono hsU
  have HBW : Hid (Below w.heap.size w w2) := Below.after HB.out HBU.out
  clear hbx ho hb2
  go_wp2
  have hr0 := HBS.out.c0
  have hr1 := HBS.out.c1
  refine bodyPost_ret (v := .agg #[.slice xa xn xc, .slice ya yn yc]) (by simp [results, Tryz.results24, go_sem, hr0, hr1]) rfl ⟨_, _, rfl, ?_, ?_⟩
  · exact (HO.out.set2 _ _ (by omega)).mono (by omega)
  · exact (HBW.out.setCell (by simp) _).setCell (by simp) _
set_option maxHeartbeats 4000000 in
theorem rdo_k14 {vd a0 a1 : Value} {d : List Int} {s : Ten} {w : World} {P off c : Nat} (n : Int) (hc : 1 ≤ c) (ha : Tens w a0 a1 s) (p0 : w.cell? ⟨P, off, none⟩ = some a0) (p1 : w.cell? ⟨P, off + 1, none⟩ = some a1) (hd : Ints w vd d) (hx : vE 14 n d s no = 0) :
    Calls Tryz.prog 24 #[.int .i64 14, .int .i64 n, vd, .slice (some ⟨P, off, none⟩) 1 c] w fun e w' => ∃ x0 x1, e = .returned (.agg #[x0, x1]) ∧ OwnT w' w.heap.size x0 x1 (vR 14 n d s no) ∧ Below w.heap.size w w' := by
  obtain ⟨da, dn, dc, rfl⟩ := hd.shape3
  obtain ⟨aa, an, ac, rfl⟩ := ha.1.shape3
  obtain ⟨ba, bn, bc, rfl⟩ := ha.2.shape3
  have hne : ¬ w.heap.size = P := by have := cell_lt1 p0; omega
  have hne2 : ¬ P = w.heap.size := fun h => hne h.symm
  obtain ⟨U, hU⟩ : ∃ U, U = w.alloc (.cells #[.slice none 0 0, .slice none 0 0] 34) := ⟨_, rfl⟩
  have hb : Below w.heap.size w U := by rw [hU]; exact (Below.refl _ _).alloc (Nat.le_refl _) _
  have HB : Hid (Below w.heap.size w U) := hb
  have HD : Hid (Ints U (.slice da dn dc) d) := hd.later hb
  have HBX : Hid (Box U w.heap.size (.slice none 0 0) (.slice none 0 0)) := by show Box _ _ _ _; rw [hU]; exact Box.new w _ _
  have hsU : w.heap.size + 1 ≤ U.heap.size := by rw [hU]; simp
  have HA : Hid (Tens U (.slice aa an ac) (.slice ba bn bc) s) := ha.later hb
  replace p0 := cell_at1 hb p0
  replace p1 := cell_at1 hb p1
  obtain ⟨u, hu⟩ : ∃ u, vR 14 n d s no = u := ⟨_, rfl⟩
  rw [hu]
  have HX : Hid (vE 14 n d s no = 0) := hx
  have HU : Hid (vR 14 n d s no = u) := hu
  clear hx hu hd hb ha
  go_enter Tryz.func24, Tryz.ntmps24
  go_upto_region 1 with fail
  rw [← hU]
  clear hU
  go_wp2_with fail
  go_region_held3 (fun w' => w'.cell? ⟨P, off, none⟩ = some (.slice aa an ac) ∧ w'.cell? ⟨P, off + 1, none⟩ = some (.slice ba bn bc)) (go_keep) (first | (go_at_call 51; refine (r_k14 ?_ u HX.out HU.out).mono ?_; exact HA.out.later (Below.refl _ _).drew; rintro r w2 ⟨x0, x1, rfl, ho, hb2⟩; have HBU : Hid (Below U.heap.size U w2) := Below.after (Below.refl _ _).drew hb2; obtain ⟨xa, xn, xc, rfl⟩ := ho.dims.ints.shape3; obtain ⟨ya, yn, yc, rfl⟩ := ho.data.ints.shape3; have hbx := HBX.out.later HBU.out; have l0 := hbx.c0; have l1 := hbx.c1; have m0 := hbx.f 0; have m1 := hbx.f 1; have HBS : Hid (Box _ _ _ _) := hbx.set (.slice xa xn xc) (.slice ya yn yc); have HO : Hid (OwnT w2 (w.heap.size + 1) (.slice xa xn xc) (.slice ya yn yc) u) := ho.mono hsU; have HBW : Hid (Below w.heap.size w w2) := Below.after HB.out HBU.out; have a_0 := cell_at1 HBU.out p0; have a_1 := cell_at1 HBU.out p1; clear hbx ho hb2))
  clear a_0 a_1 p0 p1
  go_wp2
  have hr0 := HBS.out.c0
  have hr1 := HBS.out.c1
  refine bodyPost_ret (v := .agg #[.slice xa xn xc, .slice ya yn yc]) (by simp [results, Tryz.results24, go_sem, hr0, hr1]) rfl ⟨_, _, rfl, ?_, ?_⟩
  · exact (HO.out.set2 _ _ (by omega)).mono (by omega)
  · exact (HBW.out.setCell (by simp) _).setCell (by simp) _
set_option maxHeartbeats 4000000 in
theorem rdo_k15 {vd a0 a1 : Value} {d : List Int} {s : Ten} {w : World} {P off c : Nat} (n : Int) (hc : 1 ≤ c) (ha : Tens w a0 a1 s) (p0 : w.cell? ⟨P, off, none⟩ = some a0) (p1 : w.cell? ⟨P, off + 1, none⟩ = some a1) (hd : Ints w vd d) (hx : vE 15 n d s no = 0) :
    Calls Tryz.prog 24 #[.int .i64 15, .int .i64 n, vd, .slice (some ⟨P, off, none⟩) 1 c] w fun e w' => ∃ x0 x1, e = .returned (.agg #[x0, x1]) ∧ OwnT w' w.heap.size x0 x1 (vR 15 n d s no) ∧ Below w.heap.size w w' := by
  obtain ⟨da, dn, dc, rfl⟩ := hd.shape3
  obtain ⟨aa, an, ac, rfl⟩ := ha.1.shape3
  obtain ⟨ba, bn, bc, rfl⟩ := ha.2.shape3
  have hne : ¬ w.heap.size = P := by have := cell_lt1 p0; omega
  have hne2 : ¬ P = w.heap.size := fun h => hne h.symm
  obtain ⟨U, hU⟩ : ∃ U, U = w.alloc (.cells #[.slice none 0 0, .slice none 0 0] 34) := ⟨_, rfl⟩
  have hb : Below w.heap.size w U := by rw [hU]; exact (Below.refl _ _).alloc (Nat.le_refl _) _
  have HB : Hid (Below w.heap.size w U) := hb
  have HD : Hid (Ints U (.slice da dn dc) d) := hd.later hb
  have HBX : Hid (Box U w.heap.size (.slice none 0 0) (.slice none 0 0)) := by show Box _ _ _ _; rw [hU]; exact Box.new w _ _
  have hsU : w.heap.size + 1 ≤ U.heap.size := by rw [hU]; simp
  have HA : Hid (Tens U (.slice aa an ac) (.slice ba bn bc) s) := ha.later hb
  replace p0 := cell_at1 hb p0
  replace p1 := cell_at1 hb p1
  obtain ⟨u, hu⟩ : ∃ u, vR 15 n d s no = u := ⟨_, rfl⟩
  rw [hu]
  have HX : Hid (vE 15 n d s no = 0) := hx
  have HU : Hid (vR 15 n d s no = u) := hu
  clear hx hu hd hb ha
  go_enter Tryz.func24, Tryz.ntmps24
  go_upto_region 1 with fail
  rw [← hU]
  clear hU
  go_wp2_with fail
  refine (r_k15 HA.out HD.out u HX.out HU.out).mono ?_
  rintro e w2 ⟨x0, x1, rfl, ho, hb2⟩
  have HBU : Hid (Below U.heap.size U w2) := hb2
  obtain ⟨xa, xn, xc, rfl⟩ := ho.dims.ints.shape3
  obtain ⟨ya, yn, yc, rfl⟩ := ho.data.ints.shape3
  have hbx := HBX.out.later HBU.out
  have l0 := hbx.c0
  have l1 := hbx.c1
  have m0 := hbx.f 0
  have m1 := hbx.f 1
  have HBS : Hid (Box _ _ _ _) := hbx.set (.slice xa xn xc) (.slice ya yn yc)
  have HO : Hid (OwnT w2 (w.heap.size + 1) (.slice xa xn xc) (.slice ya yn yc) u) := ho.mono hsU
  have HBW : Hid (Below w.heap.size w w2) := Below.after HB.out HBU.out
  clear hbx ho hb2
  go_wp2
  have hr0 := HBS.out.c0
  have hr1 := HBS.out.c1
  refine bodyPost_ret (v := .agg #[.slice xa xn xc, .slice ya yn yc]) (by simp [results, Tryz.results24, go_sem, hr0, hr1]) rfl ⟨_, _, rfl, ?_, ?_⟩
  · exact (HO.out.set2 _ _ (by omega)).mono (by omega)
  · exact (HBW.out.setCell (by simp) _).setCell (by simp) _
set_option maxHeartbeats 4000000 in
theorem rdo_k16 {vd a0 a1 b0 b1 : Value} {d : List Int} {s t : Ten} {w : World} {P off c : Nat} (n : Int) (hc : 2 ≤ c) (ha : Tens w a0 a1 s) (ht : Tens w b0 b1 t) (p0 : w.cell? ⟨P, off, none⟩ = some a0) (p1 : w.cell? ⟨P, off + 1, none⟩ = some a1) (p2 : w.cell? ⟨P, off + 2, none⟩ = some b0) (p3 : w.cell? ⟨P, off + 3, none⟩ = some b1) (hd : Ints w vd d) (hx : vE 16 n d s t = 0) :
    Calls Tryz.prog 24 #[.int .i64 16, .int .i64 n, vd, .slice (some ⟨P, off, none⟩) 2 c] w fun e w' => ∃ x0 x1, e = .returned (.agg #[x0, x1]) ∧ OwnT w' w.heap.size x0 x1 (vR 16 n d s t) ∧ Below w.heap.size w w' := by
  obtain ⟨da, dn, dc, rfl⟩ := hd.shape3
  obtain ⟨aa, an, ac, rfl⟩ := ha.1.shape3
  obtain ⟨ba, bn, bc, rfl⟩ := ha.2.shape3
  have hne : ¬ w.heap.size = P := by have := cell_lt1 p0; omega
  have hne2 : ¬ P = w.heap.size := fun h => hne h.symm
  obtain ⟨ea, en, ec, rfl⟩ := ht.1.shape3
  obtain ⟨fa, fn, fc, rfl⟩ := ht.2.shape3
  obtain ⟨U, hU⟩ : ∃ U, U = w.alloc (.cells #[.slice none 0 0, .slice none 0 0] 34) := ⟨_, rfl⟩
  have hb : Below w.heap.size w U := by rw [hU]; exact (Below.refl _ _).alloc (Nat.le_refl _) _
  have HB : Hid (Below w.heap.size w U) := hb
  have HD : Hid (Ints U (.slice da dn dc) d) := hd.later hb
  have HBX : Hid (Box U w.heap.size (.slice none 0 0) (.slice none 0 0)) := by show Box _ _ _ _; rw [hU]; exact Box.new w _ _
  have hsU : w.heap.size + 1 ≤ U.heap.size := by rw [hU]; simp
  have HA : Hid (Tens U (.slice aa an ac) (.slice ba bn bc) s) := ha.later hb
  replace p0 := cell_at1 hb p0
  replace p1 := cell_at1 hb p1
  have HT : Hid (Tens U (.slice ea en ec) (.slice fa fn fc) t) := ht.later hb
  replace p2 := cell_at1 hb p2
  replace p3 := cell_at1 hb p3
  obtain ⟨u, hu⟩ : ∃ u, vR 16 n d s t = u := ⟨_, rfl⟩
  rw [hu]
  have HX : Hid (vE 16 n d s t = 0) := hx
  have HU : Hid (vR 16 n d s t = u) := hu
  clear hx hu hd hb ha ht
  go_enter Tryz.func24, Tryz.ntmps24
  go_upto_region 1 with fail
  rw [← hU]
  clear hU
  go_wp2_with fail
  go_region_held3 (fun w' => w'.cell? ⟨P, off, none⟩ = some (.slice aa an ac) ∧ w'.cell? ⟨P, off + 1, none⟩ = some (.slice ba bn bc) ∧ w'.cell? ⟨P, off + 2, none⟩ = some (.slice ea en ec) ∧ w'.cell? ⟨P, off + 3, none⟩ = some (.slice fa fn fc)) (go_keep) (first | (go_at_call 51; refine (r_k16 ?_ ?_ u HX.out HU.out).mono ?_; exact HA.out.later (Below.refl _ _).drew; exact HT.out.later (Below.refl _ _).drew; rintro r w2 ⟨x0, x1, rfl, ho, hb2⟩; have HBU : Hid (Below U.heap.size U w2) := Below.after (Below.refl _ _).drew hb2; obtain ⟨xa, xn, xc, rfl⟩ := ho.dims.ints.shape3; obtain ⟨ya, yn, yc, rfl⟩ := ho.data.ints.shape3; have hbx := HBX.out.later HBU.out; have l0 := hbx.c0; have l1 := hbx.c1; have m0 := hbx.f 0; have m1 := hbx.f 1; have HBS : Hid (Box _ _ _ _) := hbx.set (.slice xa xn xc) (.slice ya yn yc); have HO : Hid (OwnT w2 (w.heap.size + 1) (.slice xa xn xc) (.slice ya yn yc) u) := ho.mono hsU; have HBW : Hid (Below w.heap.size w w2) := Below.after HB.out HBU.out; have a_0 := cell_at1 HBU.out p0; have a_1 := cell_at1 HBU.out p1; have a_2 := cell_at1 HBU.out p2; have a_3 := cell_at1 HBU.out p3; clear hbx ho hb2))
  clear a_0 a_1 p0 p1 a_2 a_3 p2 p3
  go_wp2
  have hr0 := HBS.out.c0
  have hr1 := HBS.out.c1
  refine bodyPost_ret (v := .agg #[.slice xa xn xc, .slice ya yn yc]) (by simp [results, Tryz.results24, go_sem, hr0, hr1]) rfl ⟨_, _, rfl, ?_, ?_⟩
  · exact (HO.out.set2 _ _ (by omega)).mono (by omega)
  · exact (HBW.out.setCell (by simp) _).setCell (by simp) _
set_option maxHeartbeats 4000000 in
theorem rdo_k17 {vd a0 a1 b0 b1 : Value} {d : List Int} {s t : Ten} {w : World} {P off c : Nat} (n : Int) (hc : 2 ≤ c) (ha : Tens w a0 a1 s) (ht : Tens w b0 b1 t) (p0 : w.cell? ⟨P, off, none⟩ = some a0) (p1 : w.cell? ⟨P, off + 1, none⟩ = some a1) (p2 : w.cell? ⟨P, off + 2, none⟩ = some b0) (p3 : w.cell? ⟨P, off + 3, none⟩ = some b1) (hd : Ints w vd d) (hx : vE 17 n d s t = 0) :
    Calls Tryz.prog 24 #[.int .i64 17, .int .i64 n, vd, .slice (some ⟨P, off, none⟩) 2 c] w fun e w' => ∃ x0 x1, e = .returned (.agg #[x0, x1]) ∧ OwnT w' w.heap.size x0 x1 (vR 17 n d s t) ∧ Below w.heap.size w w' := by
  obtain ⟨da, dn, dc, rfl⟩ := hd.shape3
  obtain ⟨aa, an, ac, rfl⟩ := ha.1.shape3
  obtain ⟨ba, bn, bc, rfl⟩ := ha.2.shape3
  have hne : ¬ w.heap.size = P := by have := cell_lt1 p0; omega
  have hne2 : ¬ P = w.heap.size := fun h => hne h.symm
  obtain ⟨ea, en, ec, rfl⟩ := ht.1.shape3
  obtain ⟨fa, fn, fc, rfl⟩ := ht.2.shape3
  obtain ⟨U, hU⟩ : ∃ U, U = w.alloc (.cells #[.slice none 0 0, .slice none 0 0] 34) := ⟨_, rfl⟩
  have hb : Below w.heap.size w U := by rw [hU]; exact (Below.refl _ _).alloc (Nat.le_refl _) _
  have HB : Hid (Below w.heap.size w U) := hb
  have HD : Hid (Ints U (.slice da dn dc) d) := hd.later hb
  have HBX : Hid (Box U w.heap.size (.slice none 0 0) (.slice none 0 0)) := by show Box _ _ _ _; rw [hU]; exact Box.new w _ _
  have hsU : w.heap.size + 1 ≤ U.heap.size := by rw [hU]; simp
  have HA : Hid (Tens U (.slice aa an ac) (.slice ba bn bc) s) := ha.later hb
  replace p0 := cell_at1 hb p0
  replace p1 := cell_at1 hb p1
  have HT : Hid (Tens U (.slice ea en ec) (.slice fa fn fc) t) := ht.later hb
  replace p2 := cell_at1 hb p2
  replace p3 := cell_at1 hb p3
  obtain ⟨u, hu⟩ : ∃ u, vR 17 n d s t = u := ⟨_, rfl⟩
  rw [hu]
  have HX : Hid (vE 17 n d s t = 0) := hx
  have HU : Hid (vR 17 n d s t = u) := hu
  clear hx hu hd hb ha ht
  go_enter Tryz.func24, Tryz.ntmps24
  go_upto_region 1 with fail
  rw [← hU]
  clear hU
  go_wp2_with fail
  go_region_held3 (fun w' => w'.cell? ⟨P, off, none⟩ = some (.slice aa an ac) ∧ w'.cell? ⟨P, off + 1, none⟩ = some (.slice ba bn bc) ∧ w'.cell? ⟨P, off + 2, none⟩ = some (.slice ea en ec) ∧ w'.cell? ⟨P, off + 3, none⟩ = some (.slice fa fn fc)) (go_keep) (first | (go_at_call 53; refine (r_k17 ?_ ?_ u HX.out HU.out).mono ?_; exact HA.out.later (Below.refl _ _).drew; exact HT.out.later (Below.refl _ _).drew; rintro r w2 ⟨x0, x1, rfl, ho, hb2⟩; have HBU : Hid (Below U.heap.size U w2) := Below.after (Below.refl _ _).drew hb2; obtain ⟨xa, xn, xc, rfl⟩ := ho.dims.ints.shape3; obtain ⟨ya, yn, yc, rfl⟩ := ho.data.ints.shape3; have hbx := HBX.out.later HBU.out; have l0 := hbx.c0; have l1 := hbx.c1; have m0 := hbx.f 0; have m1 := hbx.f 1; have HBS : Hid (Box _ _ _ _) := hbx.set (.slice xa xn xc) (.slice ya yn yc); have HO : Hid (OwnT w2 (w.heap.size + 1) (.slice xa xn xc) (.slice ya yn yc) u) := ho.mono hsU; have HBW : Hid (Below w.heap.size w w2) := Below.after HB.out HBU.out; have a_0 := cell_at1 HBU.out p0; have a_1 := cell_at1 HBU.out p1; have a_2 := cell_at1 HBU.out p2; have a_3 := cell_at1 HBU.out p3; clear hbx ho hb2))
  clear a_0 a_1 p0 p1 a_2 a_3 p2 p3
  go_wp2
  have hr0 := HBS.out.c0
  have hr1 := HBS.out.c1
  refine bodyPost_ret (v := .agg #[.slice xa xn xc, .slice ya yn yc]) (by simp [results, Tryz.results24, go_sem, hr0, hr1]) rfl ⟨_, _, rfl, ?_, ?_⟩
  · exact (HO.out.set2 _ _ (by omega)).mono (by omega)
  · exact (HBW.out.setCell (by simp) _).setCell (by simp) _
end Go.Proofs.YtheddpjaihhbdabGreat
