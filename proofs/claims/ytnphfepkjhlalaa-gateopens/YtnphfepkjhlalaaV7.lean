/- GateOpens: its loop over n, of what is picked. -/
import Derived.Test.YtnphfepkjhlalaaV6
namespace Go.Proofs.Ytnphfepkjhlalaa
set_option linter.unusedVariables false
set_option linter.unusedSimpArgs false
open Go.RowKit

theorem fwE_bad {s : Ten} {n : Int} (h : tok s = false ∨ ¬ (1 ≤ n ∧ n ≤ 8)) : fwE s n = 1 := by
  rw [fwE, if_neg]
  rintro ⟨h1, h2⟩
  rcases h with h | h
  · rw [h] at h1; cases h1
  · exact h h2
theorem pkE_one {s t : Ten} {n : Int} (h : fwE s n = 1 ∨ tok t = false) : pkE s t n = 1 ∧ pkR s t n = ([], []) := by
  have e : pkE s t n = 1 := by rw [pkE, if_pos h]
  exact ⟨e, by rw [pkR, e]; rfl⟩
theorem pkE_four {s t : Ten} {n : Int} (h1 : fwE s n ≠ 1) (ht : tok t = true) (h2 : ¬ (fwE s n = 0 ∧ t.1 = lesD s.1 n)) : pkE s t n = 4 ∧ pkR s t n = ([], []) := by
  have e : pkE s t n = 4 := by rw [pkE, if_neg (by simp [h1, ht]), if_neg h2]
  exact ⟨e, by rw [pkR, e]; rfl⟩
theorem pkE_ok {s t : Ten} {n : Nat} (h1 : fwE s n = 0) (ht : tok t = true) (h2 : t.1 = lesD s.1 n) : pkE s t n = 0 ∧ pkR s t n = (s.1, picks n s.2 t.2) := by
  have e : pkE s t n = 0 := by rw [pkE, if_neg (by simp [h1, ht]), if_pos ⟨h1, h2⟩]
  exact ⟨e, by rw [pkR, e, if_pos rfl, Int.toNat_natCast]⟩
theorem fwE_yes {s : Ten} {n : Int} (hs : tok s = true) (h1 : 1 ≤ n) (h8 : n ≤ 8) (hd : lastD s.1 % n = 0) : fwE s n = 0 := by
  rw [fwE, if_pos ⟨hs, h1, h8⟩, if_pos hd]
theorem fwE_no {s : Ten} {n : Int} (hs : tok s = true) (h1 : 1 ≤ n) (h8 : n ≤ 8) (hd : ¬ lastD s.1 % n = 0) : fwE s n = 4 := by
  rw [fwE, if_pos ⟨hs, h1, h8⟩, if_neg hd]
set_option maxRecDepth 1000000 in
set_option maxHeartbeats 16000000 in
theorem oloop4 {B i Ba ob oo lO cO k Bb : Nat} {may : Bool} {a0 a1 b0 b1 xk yk : Value} {s t : Ten} {W : World} {Q : Exit → Act → World → Prop}
    (hk : k < lO) (hcO : lO ≤ cO) (hlO : lO ≤ 1000) (HMY : Hid (tok s = may))
    (HA : Hid (TB W Ba a0 a1 s)) (HT : Hid (TB W Bb b0 b1 t)) (HK : Hid (Tens W xk yk t ∧ W.cell? ⟨ob, oo + k * 2, none⟩ = some xk ∧ W.cell? ⟨ob, oo + k * 2 + 1, none⟩ = some yk))
    (hexit : ∀ a' w' n, FrO4 B i Ba ob oo lO cO k Bb may n a' → Below W.heap.size W w' → Q (.exit 6) a' w')
    (a : Act) (w : World) (ha : FrO4 B i Ba ob oo lO cO k Bb may 0 a) (hb : Below W.heap.size W w) :
    Code.wp Try.prog (.loop (((Try.f3.body.map loopsIn).getD []).getD 3 .skip)) Q a w := by
  refine wp_loop (fun a' w' => (∃ n : Nat, n ≤ 9 ∧ FrO4 B i Ba ob oo lO cO k Bb may n a') ∧ Below W.heap.size W w') (fun a' _ => 9 - slotNat a' 22) ⟨⟨0, by omega, ha⟩, hb⟩ ?_
  clear ha hb
  clear a w
  intro a w ⟨⟨n, hn9, hf⟩, hb⟩
  obtain ⟨G, hg, e⟩ := act240 a hf.d hf.s
  obtain ⟨hz1, hz2, g1, g3, g4, g5, g10, g16, g17, g22⟩ := hf
  rw [hg] at g1 g3 g4 g5 g10 g16 g17 g22 
  clear hz1 hz2
  subst e
  clear hg
  rw [g1, g3, g4, g5, g10, g16, g17, g22]
  clear g1 g3 g4 g5 g10 g16 g17 g22
  have HEX : Hid (∀ a' w' n, FrO4 B i Ba ob oo lO cO k Bb may n a' → Below W.heap.size W w' → Q (.exit 6) a' w') := hexit
  have HB : Hid (Below W.heap.size W w) := hb
  have HL0 : Hid (Live w [(Ba, a0, a1, s), (Bb, b0, b1, t)]) := ⟨HA.out.later hb, HT.out.later hb, trivial⟩
  have HK0 : Hid (Tens w xk yk t ∧ w.cell? ⟨ob, oo + k * 2, none⟩ = some xk ∧ w.cell? ⟨ob, oo + k * 2 + 1, none⟩ = some yk) := ⟨HK.out.1.later hb, cell_later hb HK.out.2.1, cell_later hb HK.out.2.2⟩
  clear hexit hb HA HT HK
  obtain ⟨aa, an, ac, rfl⟩ := HL0.out.1.ten.1.shape3
  obtain ⟨ab, am, ad, rfl⟩ := HL0.out.1.ten.2.shape3
  obtain ⟨ba, bn, bc, rfl⟩ := HL0.out.2.1.ten.1.shape3
  obtain ⟨bb, bm, bd, rfl⟩ := HL0.out.2.1.ten.2.shape3
  conv => arg 2; whnf
  by_cases hlt : n ≤ 8
  · obtain ⟨e0, he0⟩ : ∃ e, pkE s t n = e := ⟨_, rfl⟩
    obtain ⟨u, hu⟩ : ∃ u, pkR s t n = u := ⟨_, rfl⟩
    have HPK : Hid (pkE s t n = e0 ∧ pkR s t n = u) := ⟨he0, hu⟩
    clear he0 hu
    have c0 := HL0.out.1.box.c0
    have c1 := HL0.out.1.box.c1
    have c2 := HL0.out.2.1.box.c0
    have c3 := HL0.out.2.1.box.c1
    go_wp2_with fail
    refine (pick_to (n : Int) e0 u HL0.out.1.ten HL0.out.2.1.ten HPK.out.1 HPK.out.2).mono ?_
    rintro e w1 ⟨x0, x1, rfl, ho, hb1⟩
    obtain ⟨xa, xn, xc, rfl⟩ := ho.dims.ints.shape3
    obtain ⟨ya, yn, yc, rfl⟩ := ho.data.ints.shape3
    have HL1 : Hid (Live (w1.alloc (.cells #[.slice xa xn xc, .slice ya yn yc] 28)) [(w1.heap.size, .slice xa xn xc, .slice ya yn yc, u), (Ba, .slice aa an ac, .slice ab am ad, s), (Bb, .slice ba bn bc, .slice bb bm bd, t)]) := Live.push (L := [(Ba, .slice aa an ac, .slice ab am ad, s), (Bb, .slice ba bn bc, .slice bb bm bd, t)]) (HL0.out.later hb1) ho.tens
    have HB1 : Hid (Below w.heap.size w (w1.alloc (.cells #[.slice xa xn xc, .slice ya yn yc] 28))) := Below.push hb1 _
    have HOY : Hid (OwnT (w1.alloc (.cells #[.slice xa xn xc, .slice ya yn yc] 28)) w.heap.size (.slice xa xn xc) (.slice ya yn yc) u) := ho.later (Below.push (Below.refl _ _) _)
    have HVB : Hid (Below (w1.alloc (.cells #[.slice xa xn xc, .slice ya yn yc] 28)).heap.size (w1.alloc (.cells #[.slice xa xn xc, .slice ya yn yc] 28)) ((w1.alloc (.cells #[.slice xa xn xc, .slice ya yn yc] 28)).alloc (.cells #[.slice none 0 0, .slice none 0 0] 28))) := Below.push (Below.refl _ _) _
    have HV4 : Hid (Live ((w1.alloc (.cells #[.slice xa xn xc, .slice ya yn yc] 28)).alloc (.cells #[.slice none 0 0, .slice none 0 0] 28)) [((w1.heap.size + 1), .slice none 0 0, .slice none 0 0, ([], []))]) := by
      have h := Live.push (w := (w1.alloc (.cells #[.slice xa xn xc, .slice ya yn yc] 28))) (L := []) (t := ([], [])) trivial ⟨Ints.nil _, Ints.nil _⟩
      simp only [World.size_alloc] at h
      exact h
    clear ho hb1 c0 c1 c2 c3
    go_upto_region 48 with fail
    rename_i K1 hK1 K0 hK0
    have HM : Hid (∀ a' w', FrO4e B i Ba ob oo lO cO k Bb may n w1.heap.size (w1.heap.size + 1) e0 e0 a' → (∃ r0 r1, Live w' [((w1.heap.size + 1), r0, r1, u)]) → Below (w1.alloc (.cells #[.slice xa xn xc, .slice ya yn yc] 28)).heap.size (w1.alloc (.cells #[.slice xa xn xc, .slice ya yn yc] 28)) w' → K1 a' w') := by
      intro a6 w6 hf6 ⟨r0, r1, hl6⟩ hb6
      apply hK1
      clear hK1 hK0 K0 HV4 HVB
      have HL6 : Hid (Live w6 _) := HL1.out.later hb6
      have HB6 : Hid (Below w.heap.size w w6) := Below.after HB1.out hb6
      have HP6 : Hid (Live w6 _) := hl6
      have HO6 : Hid (OwnT w6 w.heap.size (.slice xa xn xc) (.slice ya yn yc) u) := HOY.out.later hb6
      have HK6 : Hid (Tens w6 xk yk t ∧ w6.cell? ⟨ob, oo + k * 2, none⟩ = some xk ∧ w6.cell? ⟨ob, oo + k * 2 + 1, none⟩ = some yk) := ⟨HK0.out.1.later HB6.out, cell_later HB6.out HK0.out.2.1, cell_later HB6.out HK0.out.2.2⟩
      clear hl6 hb6 HL1 HB1 HOY HK0
      obtain ⟨G6, hg6, e6⟩ := act240 a6 hf6.d hf6.s
      obtain ⟨hz1, hz2, g1, g3, g4, g5, g10, g16, g17, g22, g23, g24, g25, g26⟩ := hf6
      rw [hg6] at g1 g3 g4 g5 g10 g16 g17 g22 g23 g24 g25 g26 
      clear hz1 hz2
      subst e6
      clear hg6
      rw [g1, g3, g4, g5, g10, g16, g17, g22, g23, g24, g25, g26]
      clear g1 g3 g4 g5 g10 g16 g17 g22 g23 g24 g25 g26
      go_upto_region 53 with fail
      refine oreg53 (t := t) (u := u) hk hcO hlO HL6.out.1 HP6.out.1 HL6.out.2.2.1 HK6.out.1 HK6.out.2.1 HK6.out.2.2 ?_ _ ⟨rfl, rfl, rfl, rfl, rfl, rfl, rfl, rfl, rfl, rfl, rfl, rfl, rfl, rfl⟩
      intro a7 w7 hf7 h228 hb7
      obtain ⟨G7, hg7, e7⟩ := act240 a7 hf7.d hf7.s
      obtain ⟨hz1, hz2, g1, g3, g4, g5, g10, g16, g17, g22, g23, g24, g25, g26⟩ := hf7
      rw [hg7] at g1 g3 g4 g5 g10 g16 g17 g22 g23 h228
      clear hz1 hz2 g24 g25 g26
      subst e7
      clear hg7
      rw [g1, g3, g4, g5, g10, g16, g17, g22, g23, h228]
      clear g1 g3 g4 g5 g10 g16 g17 g22 g23 h228
      have HL7 : Hid (Live w7 _) := HL6.out.later hb7
      have HB7 : Hid (Below w.heap.size w w7) := Below.after HB6.out hb7
      have HO7 : Hid (OwnT w7 w.heap.size (.slice xa xn xc) (.slice ya yn yc) u) := HO6.out.later hb7
      clear hb7 HL6 HB6 HO6 HP6
      have u1 := HL7.out.1.box.c0
      have u2 := HL7.out.1.box.c1
      go_wp2_with fail
      refine (spoil_any HO7.out HB7.out.size).mono ?_
      rintro e w8 ⟨rfl, hb8⟩
      have HBZ : Hid (Below W.heap.size W w8) := Below.after HB.out (HB7.out.trans hb8)
      clear hb8 u1 u2
      go_wp2
      refine ⟨⟨⟨n + 1, by omega, rfl, rfl, rfl, rfl, rfl, rfl, rfl, rfl, rfl, ?_⟩, HBZ.out⟩, ?_⟩
      · show Value.int .i64 _ = _
        go_num
      · show 9 - (intOf (Value.int .i64 _)).toNat < 9 - (intOf (Value.int .i64 _)).toNat
        simp [intOf]
        omega
    clear hK1
    cases hs : may with
    | false =>
      subst hs
      have HF : Hid (e0 = 1 ∧ u = ([], [])) := by
        show _ ∧ _
        rw [← HPK.out.1, ← HPK.out.2]
        exact pkE_one (Or.inl (fwE_bad (Or.inl HMY.out)))
      go_wp2
      refine HM.out _ _ ⟨rfl, rfl, rfl, rfl, rfl, rfl, rfl, rfl, rfl, rfl, rfl, rfl, by rw [HF.out.1]; rfl, rfl⟩ ⟨.slice none 0 0, .slice none 0 0, ?_⟩ HVB.out
      rw [HF.out.2]
      exact HV4.out
    | true =>
      subst hs
      have c2 := (HL1.out.later HVB.out).2.2.1.box.c0
      have c3 := (HL1.out.later HVB.out).2.2.1.box.c1
      cases ht : tok t with
      | false =>
        have HF : Hid (e0 = 1 ∧ u = ([], [])) := by
          show _ ∧ _
          rw [← HPK.out.1, ← HPK.out.2]
          exact pkE_one (Or.inr ht)
        have HS : Hid (tok t = false) := ht
        clear ht
        go_wp2_with fail
        refine (rtensor_to false (HL1.out.later HVB.out).2.2.1.ten HS.out).mono ?_
        rintro e w5 ⟨rfl, hb5⟩
        have HV5 : Hid (Live w5 _) := HV4.out.later hb5
        have HB5 : Hid (Below (w1.alloc (.cells #[.slice xa xn xc, .slice ya yn yc] 28)).heap.size (w1.alloc (.cells #[.slice xa xn xc, .slice ya yn yc] 28)) w5) := Below.after HVB.out hb5
        clear hb5
        go_wp2
        refine HM.out _ _ ⟨rfl, rfl, rfl, rfl, rfl, rfl, rfl, rfl, rfl, rfl, rfl, rfl, by rw [HF.out.1]; rfl, rfl⟩ ⟨.slice none 0 0, .slice none 0 0, ?_⟩ HB5.out
        rw [HF.out.2]
        exact HV5.out
      | true =>
        have HS : Hid (tok t = true) := ht
        clear ht
        go_wp2_with fail
        refine (rtensor_to true (HL1.out.later HVB.out).2.2.1.ten HS.out).mono ?_
        rintro e w5 ⟨rfl, hb5⟩
        have HV5 : Hid (Live w5 _) := HV4.out.later hb5
        have HL5 : Hid (Live w5 _) := (HL1.out.later HVB.out).later hb5
        have HB5 : Hid (Below (w1.alloc (.cells #[.slice xa xn xc, .slice ya yn yc] 28)).heap.size (w1.alloc (.cells #[.slice xa xn xc, .slice ya yn yc] 28)) w5) := Below.after HVB.out hb5
        clear hb5 c2 c3 HV4 HVB
        by_cases hn0 : n = 0
        · subst hn0
          have HF : Hid (e0 = 1 ∧ u = ([], [])) := by
            show _ ∧ _
            rw [← HPK.out.1, ← HPK.out.2]
            exact pkE_one (Or.inl (fwE_bad (Or.inr (by simp))))
          go_wp2_with fail
          refine (between_f _ 1 8 _ (by simp)).mono ?_
          rintro e w5' ⟨rfl, rfl⟩
          go_wp2
          refine HM.out _ _ ⟨rfl, rfl, rfl, rfl, rfl, rfl, rfl, rfl, rfl, rfl, rfl, rfl, by rw [HF.out.1]; rfl, rfl⟩ ⟨.slice none 0 0, .slice none 0 0, ?_⟩ HB5.out
          rw [HF.out.2]
          exact HV5.out
        · have hn1 : 1 ≤ n := by omega
          go_wp2_with fail
          refine (between_t (n : Int) 1 8 _ (by omega) (by omega)).mono ?_
          rintro e w5' ⟨rfl, rfl⟩
          have c0 := HL5.out.2.1.box.c0
          have c2 := HL5.out.2.2.1.box.c0
          have HP : Hid (Below w5.heap.size w5 (w5.alloc (.cells #[.slice aa an ac, .slice ba bn bc] 23))) := Below.push (Below.refl _ _) _
          by_cases hd : lastD s.1 % n = 0
          · have HFW : Hid (fwE s n = 0) := fwE_yes HMY.out (by omega) (by omega) hd
            obtain ⟨q, hq⟩ : ∃ q, (lesD s.1 n == t.1) = q := ⟨_, rfl⟩
            have HQ : Hid ((lesD s.1 n == t.1) = q) := hq
            have HD : Hid (lastD s.1 % n = 0) := hd
            clear hq hd
            go_wp2_with fail
            refine (infer_ok (P := w5.heap.size) n q (HL5.out.2.1.ten.later HP.out) (HL5.out.2.2.1.ten.later HP.out) HMY.out hn1 hlt HD.out HQ.out (by simp) (by simp)).mono ?_
            rintro e w7 ⟨da, dn, dc, rfl, hdn, hb7⟩
            have HB57 : Hid (Below w5.heap.size w5 w7) := Below.after HP.out hb7
            have HV7 : Hid (Live w7 _) := HV5.out.later HB57.out
            have HL7 : Hid (Live w7 _) := HL5.out.later HB57.out
            have HB7 : Hid (Below (w1.alloc (.cells #[.slice xa xn xc, .slice ya yn yc] 28)).heap.size (w1.alloc (.cells #[.slice xa xn xc, .slice ya yn yc] 28)) w7) := Below.after HB5.out HB57.out
            clear hb7 c0 c2 HP HB57 HV5 HL5 HB5
            cases q with
            | false =>
              have HF : Hid (e0 = 4 ∧ u = ([], [])) := by
                show _ ∧ _
                rw [← HPK.out.1, ← HPK.out.2]
                refine pkE_four (by rw [HFW.out]; decide) HS.out ?_
                rintro ⟨_, h⟩
                have := HQ.out
                rw [h] at this
                simp at this
              go_wp2
              refine HM.out _ _ ⟨rfl, rfl, rfl, rfl, rfl, rfl, rfl, rfl, rfl, rfl, rfl, rfl, by rw [HF.out.1]; rfl, rfl⟩ ⟨.slice none 0 0, .slice none 0 0, ?_⟩ HB7.out
              rw [HF.out.2]
              exact HV7.out
            | true =>
              have HTD : Hid (t.1 = lesD s.1 n) := by show _ = _; have := HQ.out; simp at this; exact this.symm
              have HF : Hid (e0 = 0 ∧ u = (s.1, picks n s.2 t.2)) := by
                show _ ∧ _
                rw [← HPK.out.1, ← HPK.out.2]
                exact pkE_ok HFW.out HS.out HTD.out
              obtain ⟨m, hm1, hm, hok, hpm⟩ := few_mul HMY.out hn1 HD.out
              have HM2 : Hid (s.2.length = m * n ∧ t.2.length = m) := by
                refine ⟨hm, ?_⟩
                have h1 := tok_len HS.out
                rw [HTD.out] at h1
                omega
              clear hok hpm hm
              have c0 := HL7.out.2.1.box.c0
              have c1 := HL7.out.2.1.box.c1
              have c2 := HL7.out.2.2.1.box.c0
              have c3 := HL7.out.2.2.1.box.c1
              go_wp2_with fail
              refine (rpick_ok n m (m * n) HL7.out.2.1.ten HL7.out.2.2.1.ten HMY.out hn1 hlt hm1 HM2.out.1 rfl HM2.out.2).mono ?_
              rintro e w8 ⟨z0, z1, rfl, ho, hb8⟩
              obtain ⟨za, zn, zc, rfl⟩ := ho.dims.ints.shape3
              obtain ⟨ra, rn, rc, rfl⟩ := ho.data.ints.shape3
              have hbx := (HV7.out.later hb8).1.box
              have l0 := hbx.c0
              have l1 := hbx.c1
              have m0 := hbx.f 0
              have m1 := hbx.f 1
              have hs7 : (w1.heap.size + 1) < w7.heap.size := HV7.out.1.box.lt
              have HBS : Hid (Box _ _ _ _) := hbx.set (.slice za zn zc) (.slice ra rn rc)
              have HTS : Hid (Tens _ _ _ _) := (ho.set2 (.slice za zn zc) (.slice ra rn rc) hs7).tens
              have HB8 : Hid (Below (w1.alloc (.cells #[.slice xa xn xc, .slice ya yn yc] 28)).heap.size (w1.alloc (.cells #[.slice xa xn xc, .slice ya yn yc] 28)) w8) := Below.after HB7.out hb8
              clear hbx ho hb8 c0 c1 c2 c3
              go_wp2
              refine HM.out _ _ ⟨rfl, rfl, rfl, rfl, rfl, rfl, rfl, rfl, rfl, rfl, rfl, rfl, by rw [HF.out.1]; rfl, rfl⟩ ⟨.slice za zn zc, .slice ra rn rc, ?_⟩ ((HB8.out.setCell (by simp) _).setCell (by simp) _)
              rw [HF.out.2]
              exact ⟨⟨HBS.out, HTS.out⟩, trivial⟩
          · have HFW : Hid (fwE s n = 4) := fwE_no HMY.out (by omega) (by omega) hd
            have HF : Hid (e0 = 4 ∧ u = ([], [])) := by
              show _ ∧ _
              rw [← HPK.out.1, ← HPK.out.2]
              refine pkE_four (by rw [HFW.out]; decide) HS.out ?_
              rintro ⟨h, _⟩
              rw [HFW.out] at h
              simp at h
            have HD : Hid (¬ lastD s.1 % n = 0) := hd
            clear hd
            go_wp2_with fail
            refine (infer_four (P := w5.heap.size) n (HL5.out.2.1.ten.later HP.out) (HL5.out.2.2.1.ten.later HP.out) HMY.out hn1 hlt HD.out (by simp) (by simp)).mono ?_
            rintro e w7 ⟨rfl, hb7⟩
            have HB57 : Hid (Below w5.heap.size w5 w7) := Below.after HP.out hb7
            have HV7 : Hid (Live w7 _) := HV5.out.later HB57.out
            have HB7 : Hid (Below (w1.alloc (.cells #[.slice xa xn xc, .slice ya yn yc] 28)).heap.size (w1.alloc (.cells #[.slice xa xn xc, .slice ya yn yc] 28)) w7) := Below.after HB5.out HB57.out
            clear hb7 c0 c2
            go_wp2
            refine HM.out _ _ ⟨rfl, rfl, rfl, rfl, rfl, rfl, rfl, rfl, rfl, rfl, rfl, rfl, by rw [HF.out.1]; rfl, rfl⟩ ⟨.slice none 0 0, .slice none 0 0, ?_⟩ HB7.out
            rw [HF.out.2]
            exact HV7.out
  · go_wp2
    exact HEX.out _ _ n ⟨rfl, rfl, rfl, rfl, rfl, rfl, rfl, rfl, rfl, rfl⟩ HB.out
end Go.Proofs.Ytnphfepkjhlalaa
