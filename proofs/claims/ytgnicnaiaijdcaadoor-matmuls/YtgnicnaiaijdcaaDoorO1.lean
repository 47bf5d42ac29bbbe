/- MatOnes: its loop. -/
import Derived.Test.YtgnicnaiaijdcaaDoorZ5
namespace Go.Proofs.YtgnicnaiaijdcaaDoor
set_option linter.unusedVariables false
set_option linter.unusedSimpArgs false
open Go.RowKit

/-- What a law holds of its argument. -/
structure EnvM (B : Nat) (f0 f1 : Value) (T : List Ten) (L : List Int) (w : World) : Prop where
  b0 : w.cell? ⟨B, 0, none⟩ = some f0
  b1 : w.cell? ⟨B, 1, none⟩ = some f1
  hT : TensL w f0 T
  hL : Ints w f1 L
  hg : w.cell? ⟨2, 1, none⟩ = some (.int .u8 1)
theorem EnvM.later {B : Nat} {f0 f1 : Value} {T : List Ten} {L : List Int} {w w' : World} (hb : Below w.heap.size w w') (h : EnvM B f0 f1 T L w) : EnvM B f0 f1 T L w' :=
  ⟨cell_later hb h.b0, cell_later hb h.b1, h.hT.later hb, h.hL.later hb, cell_later hb h.hg⟩

theorem on_nat (p : Nat) (h1 : 1 ≤ p) (h8 : p ≤ 8) : onE p = 0 ∧ onR p = ([(p : Int), (p : Int)], onl p) := by
  have he : onE p = 0 := by rw [onE, if_pos (by omega)]
  refine ⟨he, ?_⟩
  rw [onR, he, if_pos rfl, Int.toNat_natCast]
/-- What MatOnes asks of a matrix. -/
theorem ones_law {p q : Nat} {l : List Int} {t uL uR : Ten} (ht : t = ([(p : Int), (q : Int)], l)) (hx : tok t = true) (hr : Rg t.2) (hL : onR p = uL) (hR : onR q = uR) :
    onE p = 0 ∧ onE q = 0 ∧ (muE uL t = 0 ∧ muR uL t = t) ∧ (muE t uR = 0 ∧ muR t uR = t) := by
  subst ht
  obtain ⟨hp1, hp8, hq1, hq8, hl⟩ := tok2 hx
  obtain ⟨e1, e2⟩ := on_nat p hp1 hp8
  obtain ⟨e3, e4⟩ := on_nat q hq1 hq8
  rw [← hL, e2, ← hR, e4]
  have t1 := tok2_mk (l := onl p) hp1 hp8 hp1 hp8 (onl_length p)
  have t2 := tok2_mk (l := onl q) hq1 hq8 hq1 hq8 (onl_length q)
  refine ⟨e1, e3, ⟨muE_ok t1 hx, ?_⟩, ⟨muE_ok hx t2, ?_⟩⟩
  · rw [muR_ok t1 hx, one_left p q l hl hr]
  · rw [muR_ok hx t2, one_right p q l hl hr]
theorem pows_law {p : Nat} {l : List Int} {t uL : Ten} (ht : t = ([(p : Int), (p : Int)], l)) (hx : tok t = true) (hr : Rg t.2) (hL : onR p = uL) :
    (poE t 1 = 0 ∧ poR t 1 = t) ∧ (poE t 0 = 0 ∧ poR t 0 = uL) := by
  subst ht
  obtain ⟨hp1, hp8, hq1, hq8, hl⟩ := tok2 hx
  obtain ⟨e1, e2⟩ := on_nat p hp1 hp8
  have h1 := poE_ok (n := 1) hx (by decide)
  have h2 := poR_ok (n := 1) hx (by decide)
  have h3 := poE_ok (n := 0) hx (by decide)
  have h4 := poR_ok (n := 0) hx (by decide)
  rw [mpw_one p l hl hr] at h2
  rw [← hL, e2]
  exact ⟨⟨h1, h2⟩, ⟨h3, h4⟩⟩

structure FrO (B i : Nat) (a : Act) : Prop where
  d : a.defers = []
  s : a.tmps.size = 136
  f1 : a.tmps.getD 1 undef = .pointer (some ⟨B, 0, none⟩)
  f3 : a.tmps.getD 3 undef = .int .i64 i

set_option maxRecDepth 1000000 in
set_option maxHeartbeats 16000000 in
theorem oloop {B c0 : Nat} {f : Option Addr} {f1 : Value} {T : List Ten} {L : List Int} {W : World} {Q : Exit → Act → World → Prop}
    (hcT : T.length ≤ c0) (hT0 : T.length ≤ 17592186044416) (HRT : Hid (∀ t ∈ T, Rg t.2))
    (HE : Hid (EnvM B (.slice f T.length c0) f1 T L W))
    (hexit : ∀ a' w' i, FrO B i a' → Below W.heap.size W w' → Q (.exit 0) a' w')
    (a : Act) (w : World) (ha : FrO B 0 a) (hb : Below W.heap.size W w) :
    Code.wp Tryd.prog (.loop (((Tryd.f5.body.map loopsIn).getD []).getD 0 .skip)) Q a w := by
  refine wp_loop (fun a' w' => (∃ i : Nat, i ≤ 6 ∧ FrO B i a') ∧ Below W.heap.size W w') (fun a' _ => 6 - slotNat a' 3) ⟨⟨0, by omega, ha⟩, hb⟩ ?_
  clear ha hb
  clear a w
  intro a w ⟨⟨i, hi6, hf⟩, hb⟩
  obtain ⟨G, hg, e⟩ := act136 a hf.d hf.s
  obtain ⟨hz1, hz2, g1, g3⟩ := hf
  rw [hg] at g1 g3 
  clear hz1 hz2
  subst e
  clear hg
  rw [g1, g3]
  have HEX : Hid (∀ a' w' i, FrO B i a' → Below W.heap.size W w' → Q (.exit 0) a' w') := hexit
  have HBW : Hid (Below W.heap.size W w) := hb
  have HEW : Hid (EnvM B (.slice f T.length c0) f1 T L w) := HE.out.later hb
  have hbx := HEW.out.b0
  clear hexit hb g1 g3
  conv => arg 2; whnf
  by_cases hlt : i < T.length
  · by_cases hlt6 : i < 6
    · obtain ⟨tb, tof, xa, xc, ya, yc, ea, hr1, hr2, HTT⟩ := HEW.out.hT.row i hlt
      subst ea
      have HRG : Hid (Rg T[i].2) := HRT.out T[i] (List.getElem_mem hlt)
      obtain ⟨t, ht⟩ : ∃ t, T[i] = t := ⟨_, rfl⟩
      rw [ht] at hr1 hr2 HTT HRG
      obtain ⟨xn, hxn⟩ : ∃ n, t.1.length = n := ⟨_, rfl⟩
      obtain ⟨yn, hyn⟩ : ∃ n, t.2.length = n := ⟨_, rfl⟩
      rw [hxn] at hr1 HTT
      rw [hyn] at hr2 HTT
      have HXN : Hid (t.1.length = xn ∧ t.2.length = yn) := ⟨hxn, hyn⟩
      clear ht hxn hyn
      have hv : Below w.heap.size w (w.alloc (.cells #[.slice xa xn xc, .slice ya yn yc] 28)) := Below.push (Below.refl _ _) _
      have HL1 : Hid (Live (w.alloc (.cells #[.slice xa xn xc, .slice ya yn yc] 28)) [(w.heap.size, .slice xa xn xc, .slice ya yn yc, t)]) := ⟨⟨Box.new _ _ _, HTT.out.later hv⟩, trivial⟩
      have HV : Hid (Below w.heap.size w (w.alloc (.cells #[.slice xa xn xc, .slice ya yn yc] 28))) := hv
      clear hv
      cases hk : tok t with
      | false =>
        have HTK : Hid (tok t = false) := hk
        clear hk
        go_wp2_with fail
        refine (rtensor_to false HL1.out.1.ten HTK.out).mono ?_
        rintro e w2 ⟨rfl, hb2⟩
        have HB2 : Hid (Below W.heap.size W w2) := Below.after HBW.out (Below.after HV.out hb2)
        clear hb2 hr1 hr2 hbx
        go_wp2
        refine ⟨⟨⟨i + 1, by omega, rfl, rfl, rfl, ?_⟩, HB2.out⟩, ?_⟩
        · show Value.int .i64 _ = _
          go_num
        · show 6 - (intOf (Value.int .i64 _)).toNat < 6 - (intOf (Value.int .i64 _)).toNat
          simp [intOf]
          omega
      | true =>
        have HTK : Hid (tok t = true) := hk
        clear hk
        by_cases h2 : xn = 2
        · subst h2
          obtain ⟨p, q, hd⟩ := nat2 (l := t.2) HTK.out HXN.out.1
          obtain ⟨uL, hL⟩ : ∃ u, onR p = u := ⟨_, rfl⟩
          obtain ⟨uR, hR⟩ : ∃ u, onR q = u := ⟨_, rfl⟩
          have HTE : Hid (t = ([(p : Int), (q : Int)], t.2)) := by
            show _ = _
            rw [← hd]
          have HUL : Hid (onR p = uL) := hL
          have HUR : Hid (onR q = uR) := hR
          have HON : Hid (onE p = 0 ∧ onE q = 0 ∧ (muE uL t = 0 ∧ muR uL t = t) ∧ (muE t uR = 0 ∧ muR t uR = t)) := ones_law HTE.out HTK.out HRG.out hL hR
          obtain ⟨db, dof, dc, ab, ao, ac, M⟩ := Tens.mat (p := p) (q := q) (l := t.2) (by rw [← hd]; exact HTT.out) HXN.out.2 (by have := (tok_pos HTK.out).1; have := HXN.out.2; omega)
          have m0 := M.e0
          have m1 := M.e1
          have hdc := M.hdc
          simp only [Value.slice.injEq] at m0 m1
          obtain ⟨rfl, _, rfl⟩ := m0
          obtain ⟨rfl, _, rfl⟩ := m1
          have HDW : Hid (w.cell? ⟨db, dof, none⟩ = some (.int .i64 p) ∧ w.cell? ⟨db, dof + 1, none⟩ = some (.int .i64 q)) := ⟨M.c0, M.c1⟩
          clear M hd hL hR
          go_wp2_with fail
          refine (rtensor_to true HL1.out.1.ten HTK.out).mono ?_
          rintro e w2 ⟨rfl, hb2⟩
          have HL2 : Hid (Live w2 _) := HL1.out.later hb2
          have HB1W : Hid (Below w.heap.size w w2) := Below.after HV.out hb2
          have HB2 : Hid (Below w2.heap.size w2 w2) := Below.refl _ _
          have HG2 : Hid (w2.cell? ⟨2, 1, none⟩ = some (.int .u8 1)) := (HEW.out.later HB1W.out).hg
          have HDC : Hid (w2.cell? ⟨db, dof, none⟩ = some (.int .i64 p) ∧ w2.cell? ⟨db, dof + 1, none⟩ = some (.int .i64 q)) := ⟨cell_later HB1W.out HDW.out.1, cell_later HB1W.out HDW.out.2⟩
          clear hb2 hr1 hr2 hbx HL1 HV HDW
          have c0 := HL2.out.1.box.c0
          have c1 := HL2.out.1.box.c1
          have d0 := HDC.out.1
          go_wp2_with fail
          refine (one_to p 0 uL HON.out.1 HUL.out).mono ?_
          rintro e v1 ⟨x, y, rfl, ho, hb⟩
          obtain ⟨xa1, xn1, xc1, rfl⟩ := ho.dims.ints.shape3
          obtain ⟨ya1, yn1, yc1, rfl⟩ := ho.data.ints.shape3
          have HL1 : Hid (Live (v1.alloc (.cells #[.slice xa1 xn1 xc1, .slice ya1 yn1 yc1] 28)) _) := (HL2.out.later hb).push ho.tens
          have HB1 : Hid (Below w2.heap.size w2 (v1.alloc (.cells #[.slice xa1 xn1 xc1, .slice ya1 yn1 yc1] 28))) := Below.push (Below.after HB2.out hb) _
          clear ho hb c0 c1 d0  
          have c0 := HL1.out.2.1.box.c0
          have c1 := HL1.out.2.1.box.c1
          have d0 := cell_later HB1.out HDC.out.2
          go_wp2_with fail
          refine (one_to q 0 uR HON.out.2.1 HUR.out).mono ?_
          rintro e v2 ⟨x, y, rfl, ho, hb⟩
          obtain ⟨xa2, xn2, xc2, rfl⟩ := ho.dims.ints.shape3
          obtain ⟨ya2, yn2, yc2, rfl⟩ := ho.data.ints.shape3
          have HL2 : Hid (Live (v2.alloc (.cells #[.slice xa2 xn2 xc2, .slice ya2 yn2 yc2] 28)) _) := (HL1.out.later hb).push ho.tens
          have HB2 : Hid (Below w2.heap.size w2 (v2.alloc (.cells #[.slice xa2 xn2 xc2, .slice ya2 yn2 yc2] 28))) := Below.push (Below.after HB1.out hb) _
          clear ho hb c0 c1 d0 HL1 HB1
          have c0 := HL2.out.2.1.box.c0
          have c1 := HL2.out.2.1.box.c1
          have c2 := HL2.out.2.2.1.box.c0
          have c3 := HL2.out.2.2.1.box.c1
          go_wp2_with fail
          refine (mul_to 0 t HL2.out.2.1.ten HL2.out.2.2.1.ten HON.out.2.2.1.1 HON.out.2.2.1.2).mono ?_
          rintro e v3 ⟨x, y, rfl, ho, hb⟩
          obtain ⟨xa3, xn3, xc3, rfl⟩ := ho.dims.ints.shape3
          obtain ⟨ya3, yn3, yc3, rfl⟩ := ho.data.ints.shape3
          have HL3 : Hid (Live (v3.alloc (.cells #[.slice xa3 xn3 xc3, .slice ya3 yn3 yc3] 28)) _) := (HL2.out.later hb).push ho.tens
          have HB3 : Hid (Below w2.heap.size w2 (v3.alloc (.cells #[.slice xa3 xn3 xc3, .slice ya3 yn3 yc3] 28))) := Below.push (Below.after HB2.out hb) _
          clear ho hb c0 c1 c2 c3  HL2 HB2
          have c0 := HL3.out.2.2.2.1.box.c0
          have c1 := HL3.out.2.2.2.1.box.c1
          have c2 := HL3.out.2.1.box.c0
          have c3 := HL3.out.2.1.box.c1
          go_wp2_with fail
          refine (mul_to 0 t HL3.out.2.2.2.1.ten HL3.out.2.1.ten HON.out.2.2.2.1 HON.out.2.2.2.2).mono ?_
          rintro e v4 ⟨x, y, rfl, ho, hb⟩
          obtain ⟨xa4, xn4, xc4, rfl⟩ := ho.dims.ints.shape3
          obtain ⟨ya4, yn4, yc4, rfl⟩ := ho.data.ints.shape3
          have HL4 : Hid (Live (v4.alloc (.cells #[.slice xa4 xn4 xc4, .slice ya4 yn4 yc4] 28)) _) := (HL3.out.later hb).push ho.tens
          have HB4 : Hid (Below w2.heap.size w2 (v4.alloc (.cells #[.slice xa4 xn4 xc4, .slice ya4 yn4 yc4] 28))) := Below.push (Below.after HB3.out hb) _
          clear ho hb c0 c1 c2 c3  HL3 HB3
          have c0 := HL4.out.2.1.box.c0
          have c1 := HL4.out.2.1.box.c1
          have c2 := HL4.out.2.2.2.2.1.box.c0
          have c3 := HL4.out.2.2.2.2.1.box.c1
          go_wp2_with (go_at_call 11; refine (num_any _ _).mono ?_; rintro e w' ⟨rfl, rfl⟩)
          refine (eqt_to HL4.out.2.1.ten HL4.out.2.2.2.2.1.ten (rfl)).mono ?_
          rintro e v5 ⟨rfl, hb⟩
          have HL5 : Hid (Live v5 _) := HL4.out.later hb
          have HB5 : Hid (Below w2.heap.size w2 v5) := Below.after HB4.out hb
          clear hb c0 c1 c2 c3 HL4 HB4
          have c0 := HL5.out.1.box.c0
          have c1 := HL5.out.1.box.c1
          have c2 := HL5.out.2.2.2.2.1.box.c0
          have c3 := HL5.out.2.2.2.2.1.box.c1
          go_wp2_with fail
          refine (eqt_to HL5.out.1.ten HL5.out.2.2.2.2.1.ten (rfl)).mono ?_
          rintro e v6 ⟨rfl, hb⟩
          have HL6 : Hid (Live v6 _) := HL5.out.later hb
          have HB6 : Hid (Below w2.heap.size w2 v6) := Below.after HB5.out hb
          clear hb c0 c1 c2 c3 HL5 HB5
          have c0 := HL6.out.2.2.2.2.1.box.c0
          have d0 := cell_later HB6.out HDC.out.1
          have d1 := cell_later HB6.out HDC.out.2
          go_wp2_with fail
          go_quiet (fail)
          have HLq : Hid (Live (v6.drewN nq) _) := HL6.out.later (Below.drewN (Below.refl _ _) _)
          have HBq : Hid (Below w2.heap.size w2 (v6.drewN nq)) := Below.drewN HB6.out _
          clear c0 d0 d1 HL6 HB6
          generalize v6.drewN nq = Vq at HLq HBq ⊢
          by_cases hpq : p = q
          · subst hpq
            have HPW : Hid ((poE t 1 = 0 ∧ poR t 1 = t) ∧ (poE t 0 = 0 ∧ poR t 0 = uL)) := pows_law HTE.out HTK.out HRG.out HUL.out
            have c0 := HLq.out.2.2.2.2.1.box.c0
            have c1 := HLq.out.2.2.2.2.1.box.c1
            go_wp2_with fail
            refine (pow_to 1 0 t (cell_later HBq.out HG2.out) HLq.out.2.2.2.2.1.ten HPW.out.1.1 HPW.out.1.2).mono ?_
            rintro e vq1 ⟨x, y, rfl, ho, hb⟩
            obtain ⟨xaq1, xnq1, xcq1, rfl⟩ := ho.dims.ints.shape3
            obtain ⟨yaq1, ynq1, ycq1, rfl⟩ := ho.data.ints.shape3
            have HLq1 : Hid (Live (vq1.alloc (.cells #[.slice xaq1 xnq1 xcq1, .slice yaq1 ynq1 ycq1] 28)) _) := (HLq.out.later hb).push ho.tens
            have HBq1 : Hid (Below w2.heap.size w2 (vq1.alloc (.cells #[.slice xaq1 xnq1 xcq1, .slice yaq1 ynq1 ycq1] 28))) := Below.push (Below.after HBq.out hb) _
            clear ho hb c0 c1   
            have c0 := HLq1.out.2.2.2.2.2.1.box.c0
            have c1 := HLq1.out.2.2.2.2.2.1.box.c1
            go_wp2_with fail
            refine (pow_to 0 0 uL (cell_later HBq1.out HG2.out) HLq1.out.2.2.2.2.2.1.ten HPW.out.2.1 HPW.out.2.2).mono ?_
            rintro e vq2 ⟨x, y, rfl, ho, hb⟩
            obtain ⟨xaq2, xnq2, xcq2, rfl⟩ := ho.dims.ints.shape3
            obtain ⟨yaq2, ynq2, ycq2, rfl⟩ := ho.data.ints.shape3
            have HLq2 : Hid (Live (vq2.alloc (.cells #[.slice xaq2 xnq2 xcq2, .slice yaq2 ynq2 ycq2] 28)) _) := (HLq1.out.later hb).push ho.tens
            have HBq2 : Hid (Below w2.heap.size w2 (vq2.alloc (.cells #[.slice xaq2 xnq2 xcq2, .slice yaq2 ynq2 ycq2] 28))) := Below.push (Below.after HBq1.out hb) _
            clear ho hb c0 c1  HLq1 HBq1
            have c0 := HLq2.out.2.1.box.c0
            have c1 := HLq2.out.2.1.box.c1
            have c2 := HLq2.out.2.2.2.2.2.2.1.box.c0
            have c3 := HLq2.out.2.2.2.2.2.2.1.box.c1
            go_wp2_with (go_at_call 11; refine (num_any _ _).mono ?_; rintro e w' ⟨rfl, rfl⟩)
            refine (eqt_to HLq2.out.2.1.ten HLq2.out.2.2.2.2.2.2.1.ten (rfl)).mono ?_
            rintro e vq3 ⟨rfl, hb⟩
            have HLq3 : Hid (Live vq3 _) := HLq2.out.later hb
            have HBq3 : Hid (Below w2.heap.size w2 vq3) := Below.after HBq2.out hb
            clear hb c0 c1 c2 c3 HLq2 HBq2
            have c0 := HLq3.out.1.box.c0
            have c1 := HLq3.out.1.box.c1
            have c2 := HLq3.out.2.2.2.2.2.1.box.c0
            have c3 := HLq3.out.2.2.2.2.2.1.box.c1
            go_wp2_with fail
            refine (eqt_to HLq3.out.1.ten HLq3.out.2.2.2.2.2.1.ten (rfl)).mono ?_
            rintro e vq4 ⟨rfl, hb⟩
            have HLq4 : Hid (Live vq4 _) := HLq3.out.later hb
            have HBq4 : Hid (Below w2.heap.size w2 vq4) := Below.after HBq3.out hb
            clear hb c0 c1 c2 c3 HLq3 HBq3
            have HBZ : Hid (Below W.heap.size W vq4) := Below.after HBW.out (Below.after HB1W.out HBq4.out)
            go_wp2
            refine ⟨⟨⟨i + 1, by omega, rfl, rfl, rfl, ?_⟩, HBZ.out⟩, ?_⟩
            · show Value.int .i64 _ = _
              go_num
            · show 6 - (intOf (Value.int .i64 _)).toNat < 6 - (intOf (Value.int .i64 _)).toNat
              simp [intOf]
              omega
          · have hpq2 : ((p : Int) == (q : Int)) = false := by simp; omega
            have HBZ : Hid (Below W.heap.size W Vq) := Below.after HBW.out (Below.after HB1W.out HBq.out)
            go_wp2
            refine ⟨⟨⟨i + 1, by omega, rfl, rfl, rfl, ?_⟩, HBZ.out⟩, ?_⟩
            · show Value.int .i64 _ = _
              go_num
            · show 6 - (intOf (Value.int .i64 _)).toNat < 6 - (intOf (Value.int .i64 _)).toNat
              simp [intOf]
              omega
        · have hne : ((xn : Int) != 2) = true := by simp; omega
          go_wp2_with fail
          refine (rtensor_to true HL1.out.1.ten HTK.out).mono ?_
          rintro e w2 ⟨rfl, hb2⟩
          have HB2 : Hid (Below W.heap.size W w2) := Below.after HBW.out (Below.after HV.out hb2)
          have c0 := (HL1.out.later hb2).1.box.c0
          clear hb2 hr1 hr2 hbx
          go_wp2
          refine ⟨⟨⟨i + 1, by omega, rfl, rfl, rfl, ?_⟩, HB2.out⟩, ?_⟩
          · show Value.int .i64 _ = _
            go_num
          · show 6 - (intOf (Value.int .i64 _)).toNat < 6 - (intOf (Value.int .i64 _)).toNat
            simp [intOf]
            omega
    · go_wp2
      exact HEX.out _ _ i ⟨rfl, rfl, rfl, rfl⟩ HBW.out
  · go_wp2
    exact HEX.out _ _ i ⟨rfl, rfl, rfl, rfl⟩ HBW.out
end Go.Proofs.YtgnicnaiaijdcaaDoor
