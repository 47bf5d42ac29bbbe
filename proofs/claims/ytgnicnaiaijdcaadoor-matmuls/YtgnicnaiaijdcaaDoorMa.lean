/- MatMuls: its loop over pairs. -/
import Derived.Test.YtgnicnaiaijdcaaDoorMt
namespace Go.Proofs.YtgnicnaiaijdcaaDoor
set_option linter.unusedVariables false
set_option linter.unusedSimpArgs false
open Go.RowKit

theorem muE_bad1 {s t : Ten} (h : tok s = false) : muE s t = 1 ∧ muR s t = ([], []) := by
  have e : muE s t = 1 := by simp [muE, h]
  exact ⟨e, by rw [muR, e]; rfl⟩
theorem muE_bad2 {s t : Ten} (h : tok t = false) : muE s t = 1 ∧ muR s t = ([], []) := by
  have e : muE s t = 1 := by simp [muE, h]
  exact ⟨e, by rw [muR, e]; rfl⟩
theorem muE_four {s t : Ten} (hs : tok s = true) (ht : tok t = true) (h : ¬ (s.1.length = 2 ∧ t.1.length = 2 ∧ s.1.getD 1 0 = t.1.getD 0 0)) : muE s t = 4 ∧ muR s t = ([], []) := by
  have e : muE s t = 4 := by rw [muE, if_pos ⟨hs, ht⟩, if_neg h]
  exact ⟨e, by rw [muR, e]; rfl⟩
theorem ten_eta {t : Ten} {d : List Int} (h : t.1 = d) : t = (d, t.2) := by rw [← h]

set_option maxRecDepth 1000000 in
set_option maxHeartbeats 16000000 in
theorem mloop2 {B i c0 : Nat} {f : Option Addr} {f1 : Value} {T : List Ten} {L : List Int} {W : World} {Q : Exit → Act → World → Prop}
    (hi : i < T.length) (hcT : T.length ≤ c0) (hT0 : T.length ≤ 17592186044416)
    (HE : Hid (EnvM B (.slice f T.length c0) f1 T L W))
    (hexit : ∀ a' w' k, FrE B i k a' → Below W.heap.size W w' → Q (.exit 2) a' w')
    (a : Act) (w : World) (ha : FrE B i 0 a) (hb : Below W.heap.size W w) :
    Code.wp Tryd.prog (.loop (((Tryd.f3.body.map loopsIn).getD []).getD 1 .skip)) Q a w := by
  refine wp_loop (fun a' w' => (∃ k : Nat, k ≤ T.length ∧ k ≤ 6 ∧ FrE B i k a') ∧ Below W.heap.size W w') (fun a' _ => 6 - slotNat a' 4) ⟨⟨0, by omega, by omega, ha⟩, hb⟩ ?_
  clear ha hb
  clear a w
  intro a w ⟨⟨k, hk, hk6, hf⟩, hb⟩
  obtain ⟨G, hg, e⟩ := act235 a hf.d hf.s
  obtain ⟨hz1, hz2, g1, g3, g4⟩ := hf
  rw [hg] at g1 g3 g4
  clear hz1 hz2
  subst e
  clear hg
  rw [g1, g3, g4]
  clear g1 g3 g4
  have HEX : Hid (∀ a' w' k, FrE B i k a' → Below W.heap.size W w' → Q (.exit 2) a' w') := hexit
  have HB : Hid (Below W.heap.size W w) := hb
  have HEW : Hid (EnvM B (.slice f T.length c0) f1 T L w) := HE.out.later hb
  clear hexit hb
  have hbx := HEW.out.b0
  conv => arg 2; whnf
  by_cases hlt : k < T.length
  · by_cases hlt6 : k < 6
    · obtain ⟨tb, tof, xa, xc, ya, yc, ea, hi1, hi2, HTI⟩ := HEW.out.hT.row i hi
      subst ea
      obtain ⟨tb', tof', ua, uc, va, vc, ea, hk1, hk2, HTK⟩ := HEW.out.hT.row k hlt
      cases ea
      obtain ⟨s, hs⟩ : ∃ s, T[i] = s := ⟨_, rfl⟩
      obtain ⟨t, ht⟩ : ∃ t, T[k] = t := ⟨_, rfl⟩
      rw [hs] at hi1 hi2 HTI
      rw [ht] at hk1 hk2 HTK
      clear hs ht
      obtain ⟨e0, he0⟩ : ∃ e, muE s t = e := ⟨_, rfl⟩
      obtain ⟨u, hu⟩ : ∃ u, muR s t = u := ⟨_, rfl⟩
      have HME : Hid (muE s t = e0 ∧ muR s t = u) := ⟨he0, hu⟩
      clear he0 hu
      go_upto_region 9 with fail
      refine ereg9 (s := s) (t := t) hi hlt hcT hT0 hbx hi1 hi2 hk1 hk2 HTI HTK ?_ _ ⟨rfl, rfl, rfl, rfl, rfl⟩
      intro a1 w0 Ba Bb p0 p1 q0 q1 hf1 h5 h6 hl0 hb0
      obtain ⟨G1, hg1, e1⟩ := act235 a1 hf1.d hf1.s
      obtain ⟨hz1, hz2, g1, g3, g4⟩ := hf1
      rw [hg1] at g1 g3 g4 h5 h6
      clear hz1 hz2
      subst e1
      clear hg1
      rw [g1, g3, g4, h5, h6]
      clear g1 g3 g4 h5 h6
      have HB0 : Hid (Below w.heap.size w w0) := hb0
      have HI0 : Hid (w0.cell? ⟨B, 0, none⟩ = some (.slice (some ⟨tb, tof, none⟩) T.length c0) ∧ w0.cell? ⟨tb, tof + i * 2, none⟩ = some (.slice xa s.1.length xc) ∧ w0.cell? ⟨tb, tof + i * 2 + 1, none⟩ = some (.slice ya s.2.length yc) ∧ w0.cell? ⟨tb, tof + k * 2, none⟩ = some (.slice ua t.1.length uc) ∧ w0.cell? ⟨tb, tof + k * 2 + 1, none⟩ = some (.slice va t.2.length vc)) := ⟨cell_later hb0 hbx, cell_later hb0 hi1, cell_later hb0 hi2, cell_later hb0 hk1, cell_later hb0 hk2⟩
      have HTI0 : Hid (Tens w0 (.slice xa s.1.length xc) (.slice ya s.2.length yc) s) := HTI.out.later hb0
      have HTK0 : Hid (Tens w0 (.slice ua t.1.length uc) (.slice va t.2.length vc) t) := HTK.out.later hb0
      obtain ⟨pa, pc, ep⟩ := hl0.1.ten.1.shape
      obtain ⟨qa, qc, eq⟩ := hl0.2.1.ten.1.shape
      obtain ⟨pb, pm, pd, rfl⟩ := hl0.1.ten.2.shape3
      obtain ⟨qb, qm, qd, rfl⟩ := hl0.2.1.ten.2.shape3
      simp only at ep eq
      obtain ⟨pn, hpn⟩ : ∃ n, s.1.length = n := ⟨_, rfl⟩
      obtain ⟨qn, hqn⟩ : ∃ n, t.1.length = n := ⟨_, rfl⟩
      rw [hpn] at ep HI0 HTI0
      rw [hqn] at eq HI0 HTK0
      subst ep eq
      have HPN : Hid (s.1.length = pn ∧ t.1.length = qn) := ⟨hpn, hqn⟩
      have HL0 : Hid (Live w0 _) := hl0
      clear hl0 hb0 hbx hi1 hi2 hk1 hk2 HTI HTK HEW hpn hqn
      have c1 := HL0.out.1.box.c0
      have c2 := HL0.out.1.box.c1
      have c3 := HL0.out.2.1.box.c0
      have c4 := HL0.out.2.1.box.c1
      go_wp2_with fail
      refine (mul_to e0 u HL0.out.1.ten HL0.out.2.1.ten HME.out.1 HME.out.2).mono ?_
      rintro e w1 ⟨x, y, rfl, ho, hb1⟩
      obtain ⟨xa1, xn1, xc1, rfl⟩ := ho.dims.ints.shape3
      obtain ⟨ya1, yn1, yc1, rfl⟩ := ho.data.ints.shape3
      have HW1 : Hid (Wr (w1.alloc (.cells #[.slice xa1 xn1 xc1, .slice ya1 yn1 yc1] 28)) w0.heap.size (.slice xa1 xn1 xc1) ∧ Wr (w1.alloc (.cells #[.slice xa1 xn1 xc1, .slice ya1 yn1 yc1] 28)) w0.heap.size (.slice ya1 yn1 yc1)) := ⟨ho.dims.wr.alloc _, ho.data.wr.alloc _⟩
      have HL1 : Hid (Live (w1.alloc (.cells #[.slice xa1 xn1 xc1, .slice ya1 yn1 yc1] 28)) _) := (HL0.out.later hb1).push ho.tens
      have HB1 : Hid (Below w0.heap.size w0 (w1.alloc (.cells #[.slice xa1 xn1 xc1, .slice ya1 yn1 yc1] 28))) := Below.push hb1 _
      clear ho hb1 c1 c2 c3 c4
      go_upto_region 13 with fail
      have HV4 : Hid (Live ((w1.alloc (.cells #[.slice xa1 xn1 xc1, .slice ya1 yn1 yc1] 28)).alloc (.cells #[.slice none 0 0, .slice none 0 0] 28)) [((w1.heap.size + 1), .slice none 0 0, .slice none 0 0, ([], []))]) := by
        have h := Live.push (w := (w1.alloc (.cells #[.slice xa1 xn1 xc1, .slice ya1 yn1 yc1] 28))) (L := []) (t := ([], [])) trivial ⟨Ints.nil _, Ints.nil _⟩
        simp only [World.size_alloc] at h
        exact h
      have HVB : Hid (Below (w1.alloc (.cells #[.slice xa1 xn1 xc1, .slice ya1 yn1 yc1] 28)).heap.size (w1.alloc (.cells #[.slice xa1 xn1 xc1, .slice ya1 yn1 yc1] 28)) ((w1.alloc (.cells #[.slice xa1 xn1 xc1, .slice ya1 yn1 yc1] 28)).alloc (.cells #[.slice none 0 0, .slice none 0 0] 28))) := Below.push (Below.refl _ _) _
      have c1 := (HL1.out.later HVB.out).2.1.box.c0
      have c2 := (HL1.out.later HVB.out).2.1.box.c1
      rename_i K1 hK1 K0 hK0
      have HM : Hid (∀ a' w', FrT B i k Ba Bb w1.heap.size (w1.heap.size + 1) e0 e0 a' → (∃ r0 r1, Live w' [((w1.heap.size + 1), r0, r1, u)]) → Below (w1.alloc (.cells #[.slice xa1 xn1 xc1, .slice ya1 yn1 yc1] 28)).heap.size (w1.alloc (.cells #[.slice xa1 xn1 xc1, .slice ya1 yn1 yc1] 28)) w' → K1 a' w') := by
        intro a6 w6 hf6 ⟨r0, r1, hl6⟩ hb6
        apply hK1
        clear hK1 hK0 K0 c1 c2 HV4 HVB
        have HL6 : Hid (Live w6 _) := HL1.out.later hb6
        have HB6 : Hid (Below w0.heap.size w0 w6) := Below.after HB1.out hb6
        have HW6 : Hid (Wr w6 w0.heap.size (.slice xa1 xn1 xc1) ∧ Wr w6 w0.heap.size (.slice ya1 yn1 yc1)) := ⟨HW1.out.1.later hb6, HW1.out.2.later hb6⟩
        have HP6 : Hid (Live w6 _) := hl6
        clear hl6 hb6 HL1 HB1 HW1
        have hf6' := hf6
        obtain ⟨G6, hg6, e6⟩ := act235 a6 hf6'.d hf6'.s
        obtain ⟨hz1, hz2, g1, g3, g4, g5, g6, g7, g8, g9, g10⟩ := hf6'
        rw [hg6] at g1 g3 g4 g5 g6 g7 g8 g9 g10
        clear hz1 hz2
        subst e6
        clear hg6
        rw [g1, g3, g4, g5, g6, g7, g8, g9, g10]
        clear g1 g3 g4 g5 g6 g7 g8 g9 g10
        go_upto_region 17 with fail
        refine mreg17 (s := s) (t := t) (u := u) (lT := T.length) (e0 := e0) hi hlt hcT hT0 ⟨cell_later HB6.out HI0.out.1, cell_later HB6.out HI0.out.2.1, cell_later HB6.out HI0.out.2.2.1, cell_later HB6.out HI0.out.2.2.2.1, cell_later HB6.out HI0.out.2.2.2.2⟩ (HTI0.out.later HB6.out) (HTK0.out.later HB6.out) ⟨HL6.out.1, HP6.out.1, HL6.out.2.1, HL6.out.2.2.1, trivial⟩ ?_ _ ⟨rfl, rfl, rfl, rfl, rfl, rfl, rfl, rfl, rfl, rfl, rfl⟩
        clear hf6
        intro a7 w7 hf7 h7 h124 hb7
        obtain ⟨G7, hg7, e7⟩ := act235 a7 hf7.d hf7.s
        obtain ⟨hz1, hz2, g1, g3, g4⟩ := hf7
        rw [hg7] at g1 g3 g4 h7 h124
        clear hz1 hz2
        subst e7
        clear hg7
        rw [g1, g3, g4, h7, h124]
        clear g1 g3 g4 h7 h124
        have c1 := (HL6.out.later hb7).1.box.c0
        have c2 := (HL6.out.later hb7).1.box.c1
        have HS7 : Hid (w0.heap.size ≤ w7.heap.size) := Nat.le_trans HB6.out.size hb7.size
        have HU7 : Hid (Wr w7 w0.heap.size (.slice xa1 xn1 xc1) ∧ Wr w7 w0.heap.size (.slice ya1 yn1 yc1)) := ⟨HW6.out.1.later hb7, HW6.out.2.later hb7⟩
        have HB07 : Hid (Below w0.heap.size w0 w7) := Below.after HB6.out hb7
        clear hb7 HP6 HL6 HW6 HB6
        go_wp2_with fail
        refine (spoil_wr HU7.out.1 HU7.out.2 HS7.out).mono ?_
        rintro e w8 ⟨rfl, hb8, _⟩
        have HBZ : Hid (Below W.heap.size W w8) := Below.after HB.out (Below.after HB0.out (HB07.out.trans hb8))
        clear hb8 HB07 HS7 HU7 c1 c2
        go_wp2
        refine ⟨⟨⟨k + 1, by omega, by omega, rfl, rfl, rfl, rfl, ?_⟩, HBZ.out⟩, ?_⟩
        · show Value.int .i64 _ = _
          go_num
        · show 6 - (intOf (Value.int .i64 _)).toNat < 6 - (intOf (Value.int .i64 _)).toNat
          simp [intOf]
          omega
      clear hK1
      cases hs : tok s with
      | false =>
        have HF : Hid (e0 = 1 ∧ u = ([], [])) := by
          show _ ∧ _
          rw [← HME.out.1, ← HME.out.2]
          exact muE_bad1 hs
        have HS : Hid (tok s = false) := hs
        clear hs
        go_wp2_with fail
        refine (rtensor_to false (HL1.out.later HVB.out).2.1.ten HS.out).mono ?_
        rintro e w5 ⟨rfl, hb5⟩
        have HV5 : Hid (Live w5 _) := HV4.out.later hb5
        have HB5 : Hid (Below (w1.alloc (.cells #[.slice xa1 xn1 xc1, .slice ya1 yn1 yc1] 28)).heap.size (w1.alloc (.cells #[.slice xa1 xn1 xc1, .slice ya1 yn1 yc1] 28)) w5) := Below.after HVB.out hb5
        clear hb5
        go_wp2
        refine HM.out _ _ ⟨rfl, rfl, rfl, rfl, rfl, rfl, rfl, rfl, rfl, by rw [HF.out.1]; rfl, rfl⟩ ⟨.slice none 0 0, .slice none 0 0, ?_⟩ HB5.out
        rw [HF.out.2]
        exact HV5.out
      | true =>
        have HS : Hid (tok s = true) := hs
        go_wp2_with fail
        refine (rtensor_to true (HL1.out.later HVB.out).2.1.ten HS.out).mono ?_
        rintro e w5 ⟨rfl, hb5⟩
        have HV5 : Hid (Live w5 _) := HV4.out.later hb5
        have HB5 : Hid (Below (w1.alloc (.cells #[.slice xa1 xn1 xc1, .slice ya1 yn1 yc1] 28)).heap.size (w1.alloc (.cells #[.slice xa1 xn1 xc1, .slice ya1 yn1 yc1] 28)) w5) := Below.after HVB.out hb5
        have c1 := (HL1.out.later HB5.out).2.2.1.box.c0
        have c2 := (HL1.out.later HB5.out).2.2.1.box.c1
        clear hb5 HVB HV4
        cases ht : tok t with
        | false =>
          have HF : Hid (e0 = 1 ∧ u = ([], [])) := by
            show _ ∧ _
            rw [← HME.out.1, ← HME.out.2]
            exact muE_bad2 ht
          have HT : Hid (tok t = false) := ht
          clear hs ht
          go_wp2_with fail
          refine (rtensor_to false (HL1.out.later HB5.out).2.2.1.ten HT.out).mono ?_
          rintro e w6 ⟨rfl, hb6⟩
          have HV6 : Hid (Live w6 _) := HV5.out.later hb6
          have HB6 : Hid (Below (w1.alloc (.cells #[.slice xa1 xn1 xc1, .slice ya1 yn1 yc1] 28)).heap.size (w1.alloc (.cells #[.slice xa1 xn1 xc1, .slice ya1 yn1 yc1] 28)) w6) := Below.after HB5.out hb6
          clear hb6
          go_wp2
          refine HM.out _ _ ⟨rfl, rfl, rfl, rfl, rfl, rfl, rfl, rfl, rfl, by rw [HF.out.1]; rfl, rfl⟩ ⟨.slice none 0 0, .slice none 0 0, ?_⟩ HB6.out
          rw [HF.out.2]
          exact HV6.out
        | true =>
          have HT : Hid (tok t = true) := ht
          go_wp2_with fail
          refine (rtensor_to true (HL1.out.later HB5.out).2.2.1.ten HT.out).mono ?_
          rintro e w6 ⟨rfl, hb6⟩
          have HV6 : Hid (Live w6 _) := HV5.out.later hb6
          have HB6 : Hid (Below (w1.alloc (.cells #[.slice xa1 xn1 xc1, .slice ya1 yn1 yc1] 28)).heap.size (w1.alloc (.cells #[.slice xa1 xn1 xc1, .slice ya1 yn1 yc1] 28)) w6) := Below.after HB5.out hb6
          clear hb6 HB5 HV5 c1 c2
          have c1 := (HL1.out.later HB6.out).2.1.box.c0
          have c2 := (HL1.out.later HB6.out).2.2.1.box.c0
          by_cases h2 : pn = 2
          · subst h2
            by_cases h3 : qn = 2
            · subst h3
              obtain ⟨p, q, hd⟩ := nat2 (l := s.2) hs HPN.out.1
              obtain ⟨q', r, he⟩ := nat2 (l := t.2) ht HPN.out.2
              have HD : Hid (s = ([(p : Int), (q : Int)], s.2) ∧ t = ([(q' : Int), (r : Int)], t.2)) := ⟨ten_eta hd, ten_eta he⟩
              have ta := (HL1.out.later HB6.out).2.1.ten
              have tb' := (HL1.out.later HB6.out).2.2.1.ten
              rw [HD.out.1] at ta hs
              rw [HD.out.2] at tb' ht
              have HTA : Hid (Tens w6 _ _ ([(p : Int), (q : Int)], s.2)) := ta
              have HTB : Hid (Tens w6 _ _ ([(q' : Int), (r : Int)], t.2)) := tb'
              have hlp := (tok2 hs).2.2.2.2
              have hlq := (tok2 ht).2.2.2.2
              obtain ⟨db, dof, dc, ab, ao, ac, MA⟩ := ta.mat hlp (Nat.mul_pos (tok2 hs).1 (tok2 hs).2.2.1)
              obtain ⟨eb, eof, ec, bb, bo, bc, MB⟩ := tb'.mat hlq (Nat.mul_pos (tok2 ht).1 (tok2 ht).2.2.1)
              have m0 := MA.e0
              have m1 := MB.e0
              have hdc := MA.hdc
              have hec := MB.hdc
              simp only [Value.slice.injEq] at m0 m1
              obtain ⟨rfl, _, rfl⟩ := m0
              obtain ⟨rfl, _, rfl⟩ := m1
              have d1 := MA.c1
              have d2 := MB.c0
              have HSK : Hid (tok ([(p : Int), (q : Int)], s.2) = true ∧ tok ([(q' : Int), (r : Int)], t.2) = true) := ⟨hs, ht⟩
              clear MA MB ta tb' hlp hlq hs ht hd he
              by_cases h4 : q = q'
              · subst h4
                have HF : Hid (e0 = 0 ∧ u = ([(p : Int), (r : Int)], mxl p q r s.2 t.2)) := by
                  show _ ∧ _
                  rw [← HME.out.1, ← HME.out.2, HD.out.1, HD.out.2]
                  exact ⟨muE_ok HSK.out.1 HSK.out.2, muR_ok HSK.out.1 HSK.out.2⟩
                have k0 := (HL1.out.later HB6.out).2.1.box.c1
                have k1 := (HL1.out.later HB6.out).2.2.1.box.c1
                go_wp2_with fail
                go_quiet (fail)
                go_wp2_with fail
                refine (rmat_ok (HTA.out.later (Below.drewN (Below.refl _ _) _)) (HTB.out.later (Below.drewN (Below.refl _ _) _)) HSK.out.1 HSK.out.2).mono ?_
                rintro e w7 ⟨x, y, rfl, ho, hb7⟩
                obtain ⟨ra, rn, rc, rfl⟩ := ho.dims.ints.shape3
                obtain ⟨sa, sn, sc, rfl⟩ := ho.data.ints.shape3
                have hb67 : Below w6.heap.size w6 w7 := Below.after (Below.drewN (Below.refl _ _) _) hb7
                have hz := (HV6.out.later hb67).1.box
                have z0 := hz.c0
                have z1 := hz.c1
                have z2 := hz.f 0
                have z3 := hz.f 1
                have hlt7 := HV6.out.1.box.lt
                have HB7 : Hid (Below (w1.alloc (.cells #[.slice xa1 xn1 xc1, .slice ya1 yn1 yc1] 28)).heap.size (w1.alloc (.cells #[.slice xa1 xn1 xc1, .slice ya1 yn1 yc1] 28)) _) := ((Below.after HB6.out hb67).setCell (p := ⟨(w1.heap.size + 1), 0, none⟩) (by simp) (.slice ra rn rc)).setCell (p := ⟨(w1.heap.size + 1), 1, none⟩) (by simp) (.slice sa sn sc)
                have HZ7 : Hid (Live _ [((w1.heap.size + 1), .slice ra rn rc, .slice sa sn sc, ([(p : Int), (r : Int)], mxl p q r s.2 t.2))]) := ⟨⟨hz.set (.slice ra rn rc) (.slice sa sn sc), (ho.set2 (p := (w1.heap.size + 1)) (.slice ra rn rc) (.slice sa sn sc) (by simp; omega)).tens⟩, trivial⟩
                clear ho hb7 hb67 hz c1 c2 d1 d2 k0 k1
                go_wp2
                refine HM.out _ _ ⟨rfl, rfl, rfl, rfl, rfl, rfl, rfl, rfl, rfl, by rw [HF.out.1]; rfl, rfl⟩ ⟨.slice ra rn rc, .slice sa sn sc, ?_⟩ HB7.out
                rw [HF.out.2]
                exact HZ7.out
              · have HF : Hid (e0 = 4 ∧ u = ([], [])) := by
                  show _ ∧ _
                  rw [← HME.out.1, ← HME.out.2, HD.out.1, HD.out.2]
                  exact muE_four HSK.out.1 HSK.out.2 (by simp; omega)
                have g1 : ((q : Int) == (q' : Int)) = false := by simp; omega
                have g2 : decide ((q : Int) = (q' : Int)) = false := by simp; omega
                go_wp2_with fail
                go_quiet (fail)
                go_wp2
                refine HM.out _ _ ⟨rfl, rfl, rfl, rfl, rfl, rfl, rfl, rfl, rfl, by rw [HF.out.1]; rfl, rfl⟩ ⟨.slice none 0 0, .slice none 0 0, ?_⟩ (Below.drewN HB6.out _)
                rw [HF.out.2]
                exact HV6.out.later (Below.drewN (Below.refl _ _) _)
            · have HF : Hid (e0 = 4 ∧ u = ([], [])) := by
                show _ ∧ _
                rw [← HME.out.1, ← HME.out.2]
                exact muE_four hs ht (by have := HPN.out; omega)
              have g1 : ((qn : Int) == 2) = false := by simp; omega
              have g2 : decide ((qn : Int) = 2) = false := by simp; omega
              clear hs ht
              go_wp2_with fail
              go_quiet (fail)
              go_wp2
              refine HM.out _ _ ⟨rfl, rfl, rfl, rfl, rfl, rfl, rfl, rfl, rfl, by rw [HF.out.1]; rfl, rfl⟩ ⟨.slice none 0 0, .slice none 0 0, ?_⟩ (Below.drewN HB6.out _)
              rw [HF.out.2]
              exact HV6.out.later (Below.drewN (Below.refl _ _) _)
          · have HF : Hid (e0 = 4 ∧ u = ([], [])) := by
              show _ ∧ _
              rw [← HME.out.1, ← HME.out.2]
              exact muE_four hs ht (by have := HPN.out; omega)
            have g1 : ((pn : Int) == 2) = false := by simp; omega
            have g2 : decide ((pn : Int) = 2) = false := by simp; omega
            clear hs ht
            go_wp2_with fail
            go_quiet (fail)
            go_wp2
            refine HM.out _ _ ⟨rfl, rfl, rfl, rfl, rfl, rfl, rfl, rfl, rfl, by rw [HF.out.1]; rfl, rfl⟩ ⟨.slice none 0 0, .slice none 0 0, ?_⟩ (Below.drewN HB6.out _)
            rw [HF.out.2]
            exact HV6.out.later (Below.drewN (Below.refl _ _) _)
    · go_wp2
      exact HEX.out _ _ k ⟨rfl, rfl, rfl, rfl, rfl⟩ HB.out
  · go_wp2
    exact HEX.out _ _ k ⟨rfl, rfl, rfl, rfl, rfl⟩ HB.out
end Go.Proofs.YtgnicnaiaijdcaaDoor
