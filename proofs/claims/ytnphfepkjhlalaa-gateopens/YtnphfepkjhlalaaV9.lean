/- GateOpens: its loop over other tensors. -/
import Derived.Test.YtnphfepkjhlalaaV8
namespace Go.Proofs.Ytnphfepkjhlalaa
set_option linter.unusedVariables false
set_option linter.unusedSimpArgs false
open Go.RowKit

structure FrO3 (B i Ba ob oo lO cO k : Nat) (may : Bool) (a : Act) : Prop where
  d : a.defers = []
  s : a.tmps.size = 240
  f1 : a.tmps.getD 1 undef = .pointer (some ⟨B, 0, none⟩)
  f3 : a.tmps.getD 3 undef = .int .i64 i
  f4 : a.tmps.getD 4 undef = .pointer (some ⟨Ba, 0, none⟩)
  f5 : a.tmps.getD 5 undef = .bool may
  f10 : a.tmps.getD 10 undef = .slice (some ⟨ob, oo, none⟩) lO cO
  f16 : a.tmps.getD 16 undef = .int .i64 k
structure FrO3e (B i Ba ob oo lO cO k : Nat) (may : Bool) (Bb Bs Bz : Nat) (e0 bad : Int) (a : Act) : Prop where
  d : a.defers = []
  s : a.tmps.size = 240
  f1 : a.tmps.getD 1 undef = .pointer (some ⟨B, 0, none⟩)
  f3 : a.tmps.getD 3 undef = .int .i64 i
  f4 : a.tmps.getD 4 undef = .pointer (some ⟨Ba, 0, none⟩)
  f5 : a.tmps.getD 5 undef = .bool may
  f10 : a.tmps.getD 10 undef = .slice (some ⟨ob, oo, none⟩) lO cO
  f16 : a.tmps.getD 16 undef = .int .i64 k
  f17 : a.tmps.getD 17 undef = .pointer (some ⟨Bb, 0, none⟩)
  f18 : a.tmps.getD 18 undef = .pointer (some ⟨Bs, 0, none⟩)
  f19 : a.tmps.getD 19 undef = .int .i64 e0
  f20 : a.tmps.getD 20 undef = .int .i64 bad
  f21 : a.tmps.getD 21 undef = .pointer (some ⟨Bz, 0, none⟩)
theorem fit_bad {s t : Ten} (h : tok s = false ∨ tok t = false) : fitE s t = 1 ∧ eachR opG s t = ([], []) := by
  have e : fitE s t = 1 := by
    rcases h with h | h <;> simp [fitE, h]
  exact ⟨e, each_bad_eq e (by decide)⟩
theorem fit_four {s t : Ten} (h1 : tok s = true) (h2 : tok t = true) (h : (s.1 == t.1) = false) : fitE s t = 4 ∧ eachR opG s t = ([], []) := by
  have e : fitE s t = 4 := by simp [fitE, h1, h2, h]
  exact ⟨e, each_bad_eq e (by decide)⟩
theorem fit_yes {s t : Ten} (h1 : tok s = true) (h2 : tok t = true) (h : (s.1 == t.1) = true) : fitE s t = 0 ∧ eachR opG s t = (t.1, List.zipWith opG s.2 t.2) := by
  have e : fitE s t = 0 := by simp [fitE, h1, h2, h]
  have e2 : s.1 = t.1 := by simpa using h
  exact ⟨e, by rw [each_ok_eq e, e2]⟩
set_option maxRecDepth 1000000 in
set_option maxHeartbeats 16000000 in
theorem oloop3 {B i Ba ob oo lO cO : Nat} {may : Bool} {a0 a1 : Value} {s : Ten} {Lo : List Ten} {W : World} {Q : Exit → Act → World → Prop}
    (hcO : lO ≤ cO) (hlO : lO ≤ 1000) (HLO : Hid (Lo.length = lO)) (HMY : Hid (tok s = may))
    (HA : Hid (TB W Ba a0 a1 s)) (HO : Hid (TensL W (.slice (some ⟨ob, oo, none⟩) Lo.length cO) Lo))
    (hexit : ∀ a' w' k, FrO3 B i Ba ob oo lO cO k may a' → Below W.heap.size W w' → Q (.exit 4) a' w')
    (a : Act) (w : World) (ha : FrO3 B i Ba ob oo lO cO 0 may a) (hb : Below W.heap.size W w) :
    Code.wp Try.prog (.loop (((Try.f3.body.map loopsIn).getD []).getD 2 .skip)) Q a w := by
  refine wp_loop (fun a' w' => (∃ k : Nat, k ≤ 14 ∧ FrO3 B i Ba ob oo lO cO k may a') ∧ Below W.heap.size W w') (fun a' _ => 14 - slotNat a' 16) ⟨⟨0, by omega, ha⟩, hb⟩ ?_
  clear ha hb
  clear a w
  intro a w ⟨⟨k, hk14, hf⟩, hb⟩
  obtain ⟨G, hg, e⟩ := act240 a hf.d hf.s
  obtain ⟨hz1, hz2, g1, g3, g4, g5, g10, g16⟩ := hf
  rw [hg] at g1 g3 g4 g5 g10 g16 
  clear hz1 hz2
  subst e
  clear hg
  rw [g1, g3, g4, g5, g10, g16]
  clear g1 g3 g4 g5 g10 g16
  have HEX : Hid (∀ a' w' k, FrO3 B i Ba ob oo lO cO k may a' → Below W.heap.size W w' → Q (.exit 4) a' w') := hexit
  have HB : Hid (Below W.heap.size W w) := hb
  have HTA : Hid (TB w Ba a0 a1 s) := HA.out.later hb
  have HOW : Hid (TensL w (.slice (some ⟨ob, oo, none⟩) Lo.length cO) Lo) := HO.out.later hb
  clear hexit hb
  obtain ⟨aa, an, ac, rfl⟩ := HTA.out.ten.1.shape3
  obtain ⟨ab, am, ad, rfl⟩ := HTA.out.ten.2.shape3
  conv => arg 2; whnf
  by_cases hlt : k < lO
  · by_cases hlt14 : k < 14
    · obtain ⟨tb, tof, ta, tc, ua, uc, ea, hr1, hr2, HTT⟩ := HOW.out.row k (by rw [HLO.out]; exact hlt)
      cases ea
      obtain ⟨t, ht⟩ : ∃ t, Lo[k]'(by rw [HLO.out]; exact hlt) = t := ⟨_, rfl⟩
      rw [ht] at hr1 hr2 HTT
      obtain ⟨tn, htn⟩ : ∃ n, t.1.length = n := ⟨_, rfl⟩
      obtain ⟨un, hun⟩ : ∃ n, t.2.length = n := ⟨_, rfl⟩
      rw [htn] at hr1 HTT
      rw [hun] at hr2 HTT
      have HKW : Hid (Tens w (.slice ta tn tc) (.slice ua un uc) t ∧ w.cell? ⟨ob, oo + k * 2, none⟩ = some (.slice ta tn tc) ∧ w.cell? ⟨ob, oo + k * 2 + 1, none⟩ = some (.slice ua un uc)) := ⟨HTT.out, hr1, hr2⟩
      have hg14 : decide ((k : Int) < 14) = true := by simp; omega
      clear ht htn hun HTT
      go_wp2_with fail
      refine (copyT_any HKW.out.1).mono ?_
      rintro e w1 ⟨p0, p1, rfl, ho, hb1⟩
      obtain ⟨pa, pn, pc, rfl⟩ := ho.dims.ints.shape3
      obtain ⟨qa, qn, qc, rfl⟩ := ho.data.ints.shape3
      have HL1 : Hid (Live (w1.alloc (.cells #[.slice pa pn pc, .slice qa qn qc] 28)) [(w1.heap.size, .slice pa pn pc, .slice qa qn qc, t), (Ba, .slice aa an ac, .slice ab am ad, s)]) := Live.push (L := [(Ba, .slice aa an ac, .slice ab am ad, s)]) ⟨HTA.out.later hb1, trivial⟩ ho.tens
      have HB1 : Hid (Below w.heap.size w (w1.alloc (.cells #[.slice pa pn pc, .slice qa qn qc] 28))) := Below.push hb1 _
      clear ho hb1 hr1 hr2
      obtain ⟨e0, he0⟩ : ∃ e, fitE s t = e := ⟨_, rfl⟩
      obtain ⟨u, hu⟩ : ∃ u, eachR opG s t = u := ⟨_, rfl⟩
      have HPK : Hid (fitE s t = e0 ∧ eachR opG s t = u) := ⟨he0, hu⟩
      clear he0 hu
      have c0 := HL1.out.1.box.c0
      have c1 := HL1.out.1.box.c1
      have c2 := HL1.out.2.1.box.c0
      have c3 := HL1.out.2.1.box.c1
      go_wp2_with fail
      refine (step_to e0 u HL1.out.2.1.ten HL1.out.1.ten HPK.out.1 HPK.out.2).mono ?_
      rintro e w2 ⟨x0, x1, rfl, ho, hb2⟩
      obtain ⟨xa, xn, xc, rfl⟩ := ho.dims.ints.shape3
      obtain ⟨ya, yn, yc, rfl⟩ := ho.data.ints.shape3
      have HL2 : Hid (Live (w2.alloc (.cells #[.slice xa xn xc, .slice ya yn yc] 28)) [(w2.heap.size, .slice xa xn xc, .slice ya yn yc, u), (w1.heap.size, .slice pa pn pc, .slice qa qn qc, t), (Ba, .slice aa an ac, .slice ab am ad, s)]) := Live.push (L := [(w1.heap.size, .slice pa pn pc, .slice qa qn qc, t), (Ba, .slice aa an ac, .slice ab am ad, s)]) (HL1.out.later hb2) ho.tens
      have HB2 : Hid (Below w.heap.size w (w2.alloc (.cells #[.slice xa xn xc, .slice ya yn yc] 28))) := Below.push (Below.after HB1.out hb2) _
      have HVB : Hid (Below (w2.alloc (.cells #[.slice xa xn xc, .slice ya yn yc] 28)).heap.size (w2.alloc (.cells #[.slice xa xn xc, .slice ya yn yc] 28)) ((w2.alloc (.cells #[.slice xa xn xc, .slice ya yn yc] 28)).alloc (.cells #[.slice none 0 0, .slice none 0 0] 28))) := Below.push (Below.refl _ _) _
      have HV4 : Hid (Live ((w2.alloc (.cells #[.slice xa xn xc, .slice ya yn yc] 28)).alloc (.cells #[.slice none 0 0, .slice none 0 0] 28)) [((w2.heap.size + 1), .slice none 0 0, .slice none 0 0, ([], []))]) := by
        have h := Live.push (w := (w2.alloc (.cells #[.slice xa xn xc, .slice ya yn yc] 28))) (L := []) (t := ([], [])) trivial ⟨Ints.nil _, Ints.nil _⟩
        simp only [World.size_alloc] at h
        exact h
      clear ho hb2 c0 c1 c2 c3 HL1 HB1
      go_upto_region 36 with fail
      rename_i K1 hK1 K0 hK0
      have HM : Hid (∀ a' w', FrO3e B i Ba ob oo lO cO k may w1.heap.size w2.heap.size (w2.heap.size + 1) e0 e0 a' → (∃ r0 r1, Live w' [((w2.heap.size + 1), r0, r1, u)]) → Below (w2.alloc (.cells #[.slice xa xn xc, .slice ya yn yc] 28)).heap.size (w2.alloc (.cells #[.slice xa xn xc, .slice ya yn yc] 28)) w' → K1 a' w') := by
        intro a6 w6 hf6 ⟨r0, r1, hl6⟩ hb6
        apply hK1
        clear hK1 hK0 K0 HV4 HVB
        have HL6 : Hid (Live w6 _) := HL2.out.later hb6
        have HB6 : Hid (Below w.heap.size w w6) := Below.after HB2.out hb6
        have HP6 : Hid (Live w6 _) := hl6
        clear hl6 hb6 HL2 HB2
        obtain ⟨G6, hg6, e6⟩ := act240 a6 hf6.d hf6.s
        obtain ⟨hz1, hz2, g1, g3, g4, g5, g10, g16, g17, g18, g19, g20, g21⟩ := hf6
        rw [hg6] at g1 g3 g4 g5 g10 g16 g17 g18 g19 g20 g21 
        clear hz1 hz2
        subst e6
        clear hg6
        rw [g1, g3, g4, g5, g10, g16, g17, g18, g19, g20, g21]
        clear g1 g3 g4 g5 g10 g16 g17 g18 g19 g20 g21
        have u1 := HL6.out.1.box.c0
        have u2 := HL6.out.1.box.c1
        have u3 := HP6.out.1.box.c0
        have u4 := HP6.out.1.box.c1
        go_wp2_with (go_at_call 11; refine (num_any _ _).mono ?_; rintro e w' ⟨rfl, rfl⟩)
        refine (eqt_to HL6.out.1.ten HP6.out.1.ten rfl).mono ?_
        rintro e w8 ⟨rfl, hb8⟩
        have HL8 : Hid (Live w8 _) := HL6.out.later hb8
        have HB8 : Hid (Below w.heap.size w w8) := Below.after HB6.out hb8
        have HK8 : Hid (Tens w8 (.slice ta tn tc) (.slice ua un uc) t ∧ w8.cell? ⟨ob, oo + k * 2, none⟩ = some (.slice ta tn tc) ∧ w8.cell? ⟨ob, oo + k * 2 + 1, none⟩ = some (.slice ua un uc)) := ⟨HKW.out.1.later HB8.out, cell_later HB8.out HKW.out.2.1, cell_later HB8.out HKW.out.2.2⟩
        clear hb8 u1 u2 u3 u4 HL6 HB6 HP6
        go_wp2
        refine oloop4 (W := w8) (s := s) (t := t) hlt hcO hlO HMY HL8.out.2.2.1 HL8.out.2.1 HK8 ?_ _ _ ⟨rfl, rfl, rfl, rfl, rfl, rfl, rfl, rfl, rfl, rfl⟩ (Below.refl _ _)
        intro a9 w9 n9 hf9 hb9
        obtain ⟨G9, hg9, e9⟩ := act240 a9 hf9.d hf9.s
        obtain ⟨hz1, hz2, g1, g3, g4, g5, g10, g16, g17, g22⟩ := hf9
        rw [hg9] at g1 g3 g4 g5 g10 g16 g17 g22 
        clear hz1 hz2
        subst e9
        clear hg9
        rw [g1, g3, g4, g5, g10, g16, g17, g22]
        clear g1 g3 g4 g5 g10 g16 g17 g22
        have HBZ : Hid (Below W.heap.size W w9) := Below.after HB.out (Below.after HB8.out hb9)
        clear hb9
        go_wp2
        refine ⟨⟨⟨k + 1, by omega, rfl, rfl, rfl, rfl, rfl, rfl, rfl, ?_⟩, HBZ.out⟩, ?_⟩
        · show Value.int .i64 _ = _
          go_num
        · show 14 - (intOf (Value.int .i64 _)).toNat < 14 - (intOf (Value.int .i64 _)).toNat
          simp [intOf]
          omega
      clear hK1
      cases hs : may with
      | false =>
        subst hs
        have HF : Hid (e0 = 1 ∧ u = ([], [])) := by
          show _ ∧ _
          rw [← HPK.out.1, ← HPK.out.2]
          exact fit_bad (Or.inl HMY.out)
        go_wp2
        refine HM.out _ _ ⟨rfl, rfl, rfl, rfl, rfl, rfl, rfl, rfl, rfl, rfl, rfl, by rw [HF.out.1]; rfl, rfl⟩ ⟨.slice none 0 0, .slice none 0 0, ?_⟩ HVB.out
        rw [HF.out.2]
        exact HV4.out
      | true =>
        subst hs
        have c2 := (HL2.out.later HVB.out).2.1.box.c0
        have c3 := (HL2.out.later HVB.out).2.1.box.c1
        cases ht : tok t with
        | false =>
          have HF : Hid (e0 = 1 ∧ u = ([], [])) := by
            show _ ∧ _
            rw [← HPK.out.1, ← HPK.out.2]
            exact fit_bad (Or.inr ht)
          have HS : Hid (tok t = false) := ht
          clear ht
          go_wp2_with fail
          refine (rtensor_to false (HL2.out.later HVB.out).2.1.ten HS.out).mono ?_
          rintro e w5 ⟨rfl, hb5⟩
          have HV5 : Hid (Live w5 _) := HV4.out.later hb5
          have HB5 : Hid (Below (w2.alloc (.cells #[.slice xa xn xc, .slice ya yn yc] 28)).heap.size (w2.alloc (.cells #[.slice xa xn xc, .slice ya yn yc] 28)) w5) := Below.after HVB.out hb5
          clear hb5
          go_wp2
          refine HM.out _ _ ⟨rfl, rfl, rfl, rfl, rfl, rfl, rfl, rfl, rfl, rfl, rfl, by rw [HF.out.1]; rfl, rfl⟩ ⟨.slice none 0 0, .slice none 0 0, ?_⟩ HB5.out
          rw [HF.out.2]
          exact HV5.out
        | true =>
          have HS : Hid (tok t = true) := ht
          clear ht
          go_wp2_with fail
          refine (rtensor_to true (HL2.out.later HVB.out).2.1.ten HS.out).mono ?_
          rintro e w5 ⟨rfl, hb5⟩
          have HV5 : Hid (Live w5 _) := HV4.out.later hb5
          have HL5 : Hid (Live w5 _) := (HL2.out.later HVB.out).later hb5
          have HB5 : Hid (Below (w2.alloc (.cells #[.slice xa xn xc, .slice ya yn yc] 28)).heap.size (w2.alloc (.cells #[.slice xa xn xc, .slice ya yn yc] 28)) w5) := Below.after HVB.out hb5
          clear hb5 c2 c3 HV4 HVB
          have c0 := HL5.out.2.2.1.box.c0
          have c2 := HL5.out.2.1.box.c0
          obtain ⟨q, hq⟩ : ∃ q, (s.1 == t.1) = q := ⟨_, rfl⟩
          have HQ : Hid ((s.1 == t.1) = q) := hq
          clear hq
          go_wp2_with fail
          refine (eqn_to q HL5.out.2.2.1.ten.1 HL5.out.2.1.ten.1 HQ.out).mono ?_
          rintro e w7 ⟨rfl, m7, e7⟩
          have HB57 : Hid (Below w5.heap.size w5 w7) := by show Below _ _ _; rw [e7]; exact Below.drewN (Below.refl _ _) _
          have HV7 : Hid (Live w7 _) := HV5.out.later HB57.out
          have HL7 : Hid (Live w7 _) := HL5.out.later HB57.out
          have HB7 : Hid (Below (w2.alloc (.cells #[.slice xa xn xc, .slice ya yn yc] 28)).heap.size (w2.alloc (.cells #[.slice xa xn xc, .slice ya yn yc] 28)) w7) := Below.after HB5.out HB57.out
          clear e7 c0 c2 HB57 HV5 HL5 HB5
          cases q with
          | false =>
            have HF : Hid (e0 = 4 ∧ u = ([], [])) := by
              show _ ∧ _
              rw [← HPK.out.1, ← HPK.out.2]
              exact fit_four HMY.out HS.out HQ.out
            go_wp2
            refine HM.out _ _ ⟨rfl, rfl, rfl, rfl, rfl, rfl, rfl, rfl, rfl, rfl, rfl, by rw [HF.out.1]; rfl, rfl⟩ ⟨.slice none 0 0, .slice none 0 0, ?_⟩ HB7.out
            rw [HF.out.2]
            exact HV7.out
          | true =>
            have HF : Hid (e0 = 0 ∧ u = (t.1, List.zipWith opG s.2 t.2)) := by
              show _ ∧ _
              rw [← HPK.out.1, ← HPK.out.2]
              exact fit_yes HMY.out HS.out HQ.out
            have HLN : Hid (s.2.length = t.2.length ∧ 1 ≤ t.2.length ∧ t.2.length ≤ 64) := by
              have h := fit_lens (HPK.out.1.trans HF.out.1)
              exact ⟨h.1.symm, by omega, by omega⟩
            have c0 := HL7.out.2.2.1.box.c0
            have c1 := HL7.out.2.2.1.box.c1
            have c2 := HL7.out.2.1.box.c0
            have c3 := HL7.out.2.1.box.c1
            go_wp2_with fail
            refine (rgate_ok HL7.out.2.2.1.ten HL7.out.2.1.ten HLN.out.1 HLN.out.2.1 HLN.out.2.2).mono ?_
            rintro e w8 ⟨z0, z1, rfl, ho, hb8⟩
            obtain ⟨za, zn, zc, rfl⟩ := ho.dims.ints.shape3
            obtain ⟨ra, rn, rc, rfl⟩ := ho.data.ints.shape3
            have hbx := (HV7.out.later hb8).1.box
            have l0 := hbx.c0
            have l1 := hbx.c1
            have m0 := hbx.f 0
            have m1 := hbx.f 1
            have hs7 : (w2.heap.size + 1) < w7.heap.size := HV7.out.1.box.lt
            have HBS : Hid (Box _ _ _ _) := hbx.set (.slice za zn zc) (.slice ra rn rc)
            have HTS : Hid (Tens _ _ _ _) := (ho.set2 (.slice za zn zc) (.slice ra rn rc) hs7).tens
            have HB8 : Hid (Below (w2.alloc (.cells #[.slice xa xn xc, .slice ya yn yc] 28)).heap.size (w2.alloc (.cells #[.slice xa xn xc, .slice ya yn yc] 28)) w8) := Below.after HB7.out hb8
            clear hbx ho hb8 c0 c1 c2 c3
            go_wp2
            refine HM.out _ _ ⟨rfl, rfl, rfl, rfl, rfl, rfl, rfl, rfl, rfl, rfl, rfl, by rw [HF.out.1]; rfl, rfl⟩ ⟨.slice za zn zc, .slice ra rn rc, ?_⟩ ((HB8.out.setCell (by simp) _).setCell (by simp) _)
            rw [HF.out.2]
            exact ⟨⟨HBS.out, HTS.out⟩, trivial⟩
    · have hg14 : decide ((k : Int) < 14) = false := by simp; omega
      go_wp2
      exact HEX.out _ _ k ⟨rfl, rfl, rfl, rfl, rfl, rfl, rfl, rfl⟩ HB.out
  · go_wp2
    exact HEX.out _ _ k ⟨rfl, rfl, rfl, rfl, rfl, rfl, rfl, rfl⟩ HB.out
end Go.Proofs.Ytnphfepkjhlalaa
