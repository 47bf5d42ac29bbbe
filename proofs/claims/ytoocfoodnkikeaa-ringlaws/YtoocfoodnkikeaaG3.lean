/- RingLaws: its round. -/
import Derived.Test.YtoocfoodnkikeaaG2
namespace Go.Proofs.Ytoocfoodnkikeaa
set_option linter.unusedVariables false
set_option linter.unusedSimpArgs false
open Go.RowKit

set_option maxRecDepth 1000000 in
set_option maxHeartbeats 16000000 in
theorem gloop {B c0 : Nat} {f : Option Addr} {T : List Ten} {W : World} {Q : Exit → Act → World → Prop}
    (hcT : T.length ≤ c0) (hT0 : T.length ≤ 17592186044416) (HRT : Hid (∀ t ∈ T, Rg t.2))
    (HE : Hid (W.cell? ⟨B, 0, none⟩ = some (.slice f T.length c0) ∧ TensL W (.slice f T.length c0) T))
    (hexit : ∀ a' w' i, FrL B i a' → Below W.heap.size W w' → Q (.exit 0) a' w')
    (a : Act) (w : World) (ha : FrL B 0 a) (hb : Below W.heap.size W w) :
    Code.wp Try.prog (.loop (((Try.f5.body.map loopsIn).getD []).getD 0 .skip)) Q a w := by
  refine wp_loop (fun a' w' => (∃ i : Nat, i ≤ 6 ∧ FrL B i a') ∧ Below W.heap.size W w') (fun a' _ => 6 - slotNat a' 3) ⟨⟨0, by omega, ha⟩, hb⟩ ?_
  clear ha hb
  clear a w
  intro a w ⟨⟨i, hi6, hf⟩, hb⟩
  obtain ⟨G, hg, e⟩ := act251 a hf.d hf.s
  obtain ⟨hz1, hz2, g1, g3⟩ := hf
  rw [hg] at g1 g3
  clear hz1 hz2
  subst e
  clear hg
  rw [g1, g3]
  have HEX : Hid (∀ a' w' i, FrL B i a' → Below W.heap.size W w' → Q (.exit 0) a' w') := hexit
  have HBW : Hid (Below W.heap.size W w) := hb
  have HTW : Hid (TensL w (.slice f T.length c0) T) := HE.out.2.later hb
  have hbx := cell_later hb HE.out.1
  clear hexit hb g1 g3
  conv => arg 2; whnf
  by_cases hlt : i + 2 < T.length
  · by_cases hlt6 : i < 6
    · obtain ⟨tb, tof, xa, xc, ya, yc, ea, hi1, hi2, HTI⟩ := HTW.out.row i (by omega)
      subst ea
      obtain ⟨tb', tof', ua, uc, va, vc, ea, hj1, hj2, HTJ⟩ := HTW.out.row (i + 1) (by omega)
      cases ea
      obtain ⟨tb', tof', qa, qc, ra, rc, ea, hk1, hk2, HTK⟩ := HTW.out.row (i + 2) (by omega)
      cases ea
      go_upto_region 6 with fail
      refine lreg6 (s := T[i]) (t := T[i + 1]) (u := T[i + 2]) hlt hlt6 hcT hT0 ⟨hbx, hi1, hi2, hj1, hj2, hk1, hk2⟩ HTI HTJ HTK ?_ _ ⟨rfl, rfl, rfl, rfl⟩
      intro a1 w1 Ba Bb Bd hf1 h4 h5 h6 n1 n2 n3 o1 o2 hl1 hb1
      obtain ⟨G1, hg1, e1⟩ := act251 a1 hf1.d hf1.s
      obtain ⟨hz1, hz2, g1, g3⟩ := hf1
      rw [hg1] at g1 g3 h4 h5 h6
      clear hz1 hz2
      subst e1
      clear hg1
      rw [g1, g3, h4, h5, h6]
      clear g1 g3 h4 h5 h6
      have HL1 : Hid (Live w1 _) := hl1
      have HB1 : Hid (Below w.heap.size w w1) := hb1
      have c1 := hl1.1.box.c0
      have c2 := hl1.1.box.c1
      clear hl1 hb1 hi1 hi2 hj1 hj2 hk1 hk2 hbx
      cases ht : tok T[i] with
      | false =>
        have HT : Hid (tok T[i] = false) := ht
        clear ht
        go_wp2_with fail
        refine (rtensor_to false HL1.out.1.ten HT.out).mono ?_
        rintro e w2 ⟨rfl, hb2⟩
        have HB2 : Hid (Below W.heap.size W w2) := Below.after HBW.out (Below.after HB1.out hb2)
        clear hb2
        go_wp2
        refine ⟨⟨⟨i + 1, by omega, rfl, rfl, rfl, ?_⟩, HB2.out⟩, ?_⟩
        · show Value.int .i64 _ = _
          go_num
        · show 6 - (intOf (Value.int .i64 _)).toNat < 6 - (intOf (Value.int .i64 _)).toNat
          simp [intOf]
          omega
      | true =>
        have HT : Hid (tok T[i] = true) := ht
        have HP : Hid (1 ≤ T[i].2.length ∧ T[i].2.length ≤ 64) := tok_pos ht
        clear ht
        go_wp2_with fail
        refine (rtensor_to true HL1.out.1.ten HT.out).mono ?_
        rintro e w2 ⟨rfl, hb2⟩
        have HL2 : Hid (Live w2 _) := HL1.out.later hb2
        have HB2 : Hid (Below w.heap.size w w2) := Below.after HB1.out hb2
        clear hb2 HL1 HB1 c1 c2
        go_upto_region 8 with fail
        refine lreg8 (W := w) HP HTI HB2 HL2 n1 n2 n3 o1 o2 ?_ _ ⟨rfl, rfl, rfl, rfl⟩ rfl rfl rfl
        intro a3 w0 b0 b1 d0 d1 b d hf3 h4 h5 h6 hlb hld hl3 hb3
        obtain ⟨G3, hg3, e3⟩ := act251 a3 hf3.d hf3.s
        obtain ⟨hz1, hz2, g1, g3⟩ := hf3
        rw [hg3] at g1 g3 h4 h5 h6
        clear hz1 hz2
        subst e3
        clear hg3
        rw [g1, g3, h4, h5, h6]
        clear g1 g3 h4 h5 h6
        have HOK : Hid (Okn T[i].1 T[i].2.length) := okn_of HT.out
        have HRG : Hid (Rg T[i].2) := HRT.out T[i] (List.getElem_mem (by omega))
        have HL0 : Hid (Live w0 [(Ba, _, _, (T[i].1, T[i].2)), (Bb, b0, b1, (T[i].1, b)), (Bd, d0, d1, (T[i].1, d))]) := hl3
        have HW0 : Hid (Below W.heap.size W w0) := Below.after HBW.out hb3
        have HB0 : Hid (Below w0.heap.size w0 w0) := Below.refl _ _
        have HB : Hid (b.length = T[i].2.length) := hlb
        have HD : Hid (d.length = T[i].2.length) := hld
        clear hlb hld hl3 hb3 HL2 HB2 HTI HTJ HTK HTW HT HP
        generalize T[i].1 = D at HOK HL0
        generalize hA : T[i].2 = A at HOK HL0 HRG HB HD
        generalize hn : A.length = n at HOK HB HD
        have HA : Hid (A.length = n) := hn
        clear hn hA
        have c0 := HL0.out.1.box.c0
        have c1 := HL0.out.1.box.c1
        have c2 := HL0.out.2.1.box.c0
        have c3 := HL0.out.2.1.box.c1
        go_wp2_with fail
        refine (add_l HOK.out HL0.out.1.ten HL0.out.2.1.ten (by simp [HA.out, HB.out, HD.out]) (by simp [HA.out, HB.out, HD.out])).mono ?_
        rintro e v1 ⟨x, y, rfl, ho, hb⟩
        obtain ⟨xa1, xn1, xc1, rfl⟩ := ho.dims.ints.shape3
        obtain ⟨ya1, yn1, yc1, rfl⟩ := ho.data.ints.shape3
        have HL1 : Hid (Live (v1.alloc (.cells #[.slice xa1 xn1 xc1, .slice ya1 yn1 yc1] 28)) _) := (HL0.out.later hb).push ho.tens
        have HB1 : Hid (Below w0.heap.size w0 (v1.alloc (.cells #[.slice xa1 xn1 xc1, .slice ya1 yn1 yc1] 28))) := Below.push (Below.after HB0.out hb) _
        clear ho hb c0 c1 c2 c3  
        have c0 := HL1.out.2.2.1.box.c0
        have c1 := HL1.out.2.2.1.box.c1
        have c2 := HL1.out.2.1.box.c0
        have c3 := HL1.out.2.1.box.c1
        go_wp2_with fail
        refine (add_l HOK.out HL1.out.2.2.1.ten HL1.out.2.1.ten (by simp [HA.out, HB.out, HD.out]) (by simp [HA.out, HB.out, HD.out])).mono ?_
        rintro e v2 ⟨x, y, rfl, ho, hb⟩
        obtain ⟨xa2, xn2, xc2, rfl⟩ := ho.dims.ints.shape3
        obtain ⟨ya2, yn2, yc2, rfl⟩ := ho.data.ints.shape3
        have HL2 : Hid (Live (v2.alloc (.cells #[.slice xa2 xn2 xc2, .slice ya2 yn2 yc2] 28)) _) := (HL1.out.later hb).push ho.tens
        have HB2 : Hid (Below w0.heap.size w0 (v2.alloc (.cells #[.slice xa2 xn2 xc2, .slice ya2 yn2 yc2] 28))) := Below.push (Below.after HB1.out hb) _
        clear ho hb c0 c1 c2 c3 HL1 HB1
        have c0 := HL2.out.2.1.box.c0
        have c1 := HL2.out.2.1.box.c1
        have c2 := HL2.out.2.2.2.2.1.box.c0
        have c3 := HL2.out.2.2.2.2.1.box.c1
        go_wp2_with fail
        refine (add_l HOK.out HL2.out.2.1.ten HL2.out.2.2.2.2.1.ten (by simp [HA.out, HB.out, HD.out]) (by simp [HA.out, HB.out, HD.out])).mono ?_
        rintro e v3 ⟨x, y, rfl, ho, hb⟩
        obtain ⟨xa3, xn3, xc3, rfl⟩ := ho.dims.ints.shape3
        obtain ⟨ya3, yn3, yc3, rfl⟩ := ho.data.ints.shape3
        have HL3 : Hid (Live (v3.alloc (.cells #[.slice xa3 xn3 xc3, .slice ya3 yn3 yc3] 28)) _) := (HL2.out.later hb).push ho.tens
        have HB3 : Hid (Below w0.heap.size w0 (v3.alloc (.cells #[.slice xa3 xn3 xc3, .slice ya3 yn3 yc3] 28))) := Below.push (Below.after HB2.out hb) _
        clear ho hb c0 c1 c2 c3 HL2 HB2
        have c0 := HL3.out.2.2.2.2.1.box.c0
        have c1 := HL3.out.2.2.2.2.1.box.c1
        have c2 := HL3.out.2.2.2.2.2.1.box.c0
        have c3 := HL3.out.2.2.2.2.2.1.box.c1
        go_wp2_with fail
        refine (add_l HOK.out HL3.out.2.2.2.2.1.ten HL3.out.2.2.2.2.2.1.ten (by simp [HA.out, HB.out, HD.out]) (by simp [HA.out, HB.out, HD.out])).mono ?_
        rintro e v4 ⟨x, y, rfl, ho, hb⟩
        obtain ⟨xa4, xn4, xc4, rfl⟩ := ho.dims.ints.shape3
        obtain ⟨ya4, yn4, yc4, rfl⟩ := ho.data.ints.shape3
        have HL4 : Hid (Live (v4.alloc (.cells #[.slice xa4 xn4 xc4, .slice ya4 yn4 yc4] 28)) _) := (HL3.out.later hb).push ho.tens
        have HB4 : Hid (Below w0.heap.size w0 (v4.alloc (.cells #[.slice xa4 xn4 xc4, .slice ya4 yn4 yc4] 28))) := Below.push (Below.after HB3.out hb) _
        clear ho hb c0 c1 c2 c3 HL3 HB3
        have c0 := HL4.out.2.2.2.2.1.box.c0
        have c1 := HL4.out.2.2.2.2.1.box.c1
        have c2 := HL4.out.1.box.c0
        have c3 := HL4.out.1.box.c1
        go_wp2_with fail
        refine (add_l HOK.out HL4.out.2.2.2.2.1.ten HL4.out.1.ten (by simp [HA.out, HB.out, HD.out]) (by simp [HA.out, HB.out, HD.out])).mono ?_
        rintro e v5 ⟨x, y, rfl, ho, hb⟩
        obtain ⟨xa5, xn5, xc5, rfl⟩ := ho.dims.ints.shape3
        obtain ⟨ya5, yn5, yc5, rfl⟩ := ho.data.ints.shape3
        have HL5 : Hid (Live (v5.alloc (.cells #[.slice xa5 xn5 xc5, .slice ya5 yn5 yc5] 28)) _) := (HL4.out.later hb).push ho.tens
        have HB5 : Hid (Below w0.heap.size w0 (v5.alloc (.cells #[.slice xa5 xn5 xc5, .slice ya5 yn5 yc5] 28))) := Below.push (Below.after HB4.out hb) _
        clear ho hb c0 c1 c2 c3 HL4 HB4
        have c0 := HL5.out.2.2.2.2.2.1.box.c0
        have c1 := HL5.out.2.2.2.2.2.1.box.c1
        have c2 := HL5.out.2.1.box.c0
        have c3 := HL5.out.2.1.box.c1
        go_wp2_with fail
        refine (mul_l HOK.out HL5.out.2.2.2.2.2.1.ten HL5.out.2.1.ten (by simp [HA.out, HB.out, HD.out]) (by simp [HA.out, HB.out, HD.out])).mono ?_
        rintro e v6 ⟨x, y, rfl, ho, hb⟩
        obtain ⟨xa6, xn6, xc6, rfl⟩ := ho.dims.ints.shape3
        obtain ⟨ya6, yn6, yc6, rfl⟩ := ho.data.ints.shape3
        have HL6 : Hid (Live (v6.alloc (.cells #[.slice xa6 xn6 xc6, .slice ya6 yn6 yc6] 28)) _) := (HL5.out.later hb).push ho.tens
        have HB6 : Hid (Below w0.heap.size w0 (v6.alloc (.cells #[.slice xa6 xn6 xc6, .slice ya6 yn6 yc6] 28))) := Below.push (Below.after HB5.out hb) _
        clear ho hb c0 c1 c2 c3 HL5 HB5
        have c0 := HL6.out.2.2.2.2.2.2.1.box.c0
        have c1 := HL6.out.2.2.2.2.2.2.1.box.c1
        have c2 := HL6.out.2.2.2.2.2.2.2.1.box.c0
        have c3 := HL6.out.2.2.2.2.2.2.2.1.box.c1
        go_wp2_with fail
        refine (mul_l HOK.out HL6.out.2.2.2.2.2.2.1.ten HL6.out.2.2.2.2.2.2.2.1.ten (by simp [HA.out, HB.out, HD.out]) (by simp [HA.out, HB.out, HD.out])).mono ?_
        rintro e v7 ⟨x, y, rfl, ho, hb⟩
        obtain ⟨xa7, xn7, xc7, rfl⟩ := ho.dims.ints.shape3
        obtain ⟨ya7, yn7, yc7, rfl⟩ := ho.data.ints.shape3
        have HL7 : Hid (Live (v7.alloc (.cells #[.slice xa7 xn7 xc7, .slice ya7 yn7 yc7] 28)) _) := (HL6.out.later hb).push ho.tens
        have HB7 : Hid (Below w0.heap.size w0 (v7.alloc (.cells #[.slice xa7 xn7 xc7, .slice ya7 yn7 yc7] 28))) := Below.push (Below.after HB6.out hb) _
        clear ho hb c0 c1 c2 c3 HL6 HB6
        have c0 := HL7.out.2.2.2.2.2.2.2.1.box.c0
        have c1 := HL7.out.2.2.2.2.2.2.2.1.box.c1
        have c2 := HL7.out.2.2.2.2.2.2.2.2.2.1.box.c0
        have c3 := HL7.out.2.2.2.2.2.2.2.2.2.1.box.c1
        go_wp2_with fail
        refine (mul_l HOK.out HL7.out.2.2.2.2.2.2.2.1.ten HL7.out.2.2.2.2.2.2.2.2.2.1.ten (by simp [HA.out, HB.out, HD.out]) (by simp [HA.out, HB.out, HD.out])).mono ?_
        rintro e v8 ⟨x, y, rfl, ho, hb⟩
        obtain ⟨xa8, xn8, xc8, rfl⟩ := ho.dims.ints.shape3
        obtain ⟨ya8, yn8, yc8, rfl⟩ := ho.data.ints.shape3
        have HL8 : Hid (Live (v8.alloc (.cells #[.slice xa8 xn8 xc8, .slice ya8 yn8 yc8] 28)) _) := (HL7.out.later hb).push ho.tens
        have HB8 : Hid (Below w0.heap.size w0 (v8.alloc (.cells #[.slice xa8 xn8 xc8, .slice ya8 yn8 yc8] 28))) := Below.push (Below.after HB7.out hb) _
        clear ho hb c0 c1 c2 c3 HL7 HB7
        have c0 := HL8.out.2.1.box.c0
        have c1 := HL8.out.2.1.box.c1
        have c2 := HL8.out.1.box.c0
        have c3 := HL8.out.1.box.c1
        go_wp2_with fail
        refine (add_l HOK.out HL8.out.2.1.ten HL8.out.1.ten (by simp [HA.out, HB.out, HD.out]) (by simp [HA.out, HB.out, HD.out])).mono ?_
        rintro e v9 ⟨x, y, rfl, ho, hb⟩
        obtain ⟨xa9, xn9, xc9, rfl⟩ := ho.dims.ints.shape3
        obtain ⟨ya9, yn9, yc9, rfl⟩ := ho.data.ints.shape3
        have HL9 : Hid (Live (v9.alloc (.cells #[.slice xa9 xn9 xc9, .slice ya9 yn9 yc9] 28)) _) := (HL8.out.later hb).push ho.tens
        have HB9 : Hid (Below w0.heap.size w0 (v9.alloc (.cells #[.slice xa9 xn9 xc9, .slice ya9 yn9 yc9] 28))) := Below.push (Below.after HB8.out hb) _
        clear ho hb c0 c1 c2 c3 HL8 HB8
        have c0 := HL9.out.2.2.2.2.2.2.2.2.1.box.c0
        have c1 := HL9.out.2.2.2.2.2.2.2.2.1.box.c1
        have c2 := HL9.out.2.2.2.2.2.2.2.2.2.2.1.box.c0
        have c3 := HL9.out.2.2.2.2.2.2.2.2.2.2.1.box.c1
        go_wp2_with fail
        refine (sub_l HOK.out HL9.out.2.2.2.2.2.2.2.2.1.ten HL9.out.2.2.2.2.2.2.2.2.2.2.1.ten (by simp [HA.out, HB.out, HD.out]) (by simp [HA.out, HB.out, HD.out])).mono ?_
        rintro e v10 ⟨x, y, rfl, ho, hb⟩
        obtain ⟨xa10, xn10, xc10, rfl⟩ := ho.dims.ints.shape3
        obtain ⟨ya10, yn10, yc10, rfl⟩ := ho.data.ints.shape3
        have HL10 : Hid (Live (v10.alloc (.cells #[.slice xa10 xn10 xc10, .slice ya10 yn10 yc10] 28)) _) := (HL9.out.later hb).push ho.tens
        have HB10 : Hid (Below w0.heap.size w0 (v10.alloc (.cells #[.slice xa10 xn10 xc10, .slice ya10 yn10 yc10] 28))) := Below.push (Below.after HB9.out hb) _
        clear ho hb c0 c1 c2 c3 HL9 HB9
        have c0 := HL10.out.2.2.2.2.2.2.2.2.2.2.1.box.c0
        have c1 := HL10.out.2.2.2.2.2.2.2.2.2.2.1.box.c1
        go_wp2_with fail
        refine (neg_l HOK.out HL10.out.2.2.2.2.2.2.2.2.2.2.1.ten (by simp [HA.out, HB.out, HD.out])).mono ?_
        rintro e v11 ⟨x, y, rfl, ho, hb⟩
        obtain ⟨xa11, xn11, xc11, rfl⟩ := ho.dims.ints.shape3
        obtain ⟨ya11, yn11, yc11, rfl⟩ := ho.data.ints.shape3
        have HL11 : Hid (Live (v11.alloc (.cells #[.slice xa11 xn11 xc11, .slice ya11 yn11 yc11] 28)) _) := (HL10.out.later hb).push ho.tens
        have HB11 : Hid (Below w0.heap.size w0 (v11.alloc (.cells #[.slice xa11 xn11 xc11, .slice ya11 yn11 yc11] 28))) := Below.push (Below.after HB10.out hb) _
        clear ho hb c0 c1 HL10 HB10
        have c0 := HL11.out.2.2.2.2.2.2.2.2.2.2.2.1.box.c0
        have c1 := HL11.out.2.2.2.2.2.2.2.2.2.2.2.1.box.c1
        go_wp2_with fail
        refine (scale_l (-1) HOK.out HL11.out.2.2.2.2.2.2.2.2.2.2.2.1.ten (by simp [HA.out, HB.out, HD.out])).mono ?_
        rintro e v12 ⟨x, y, rfl, ho, hb⟩
        obtain ⟨xa12, xn12, xc12, rfl⟩ := ho.dims.ints.shape3
        obtain ⟨ya12, yn12, yc12, rfl⟩ := ho.data.ints.shape3
        have HL12 : Hid (Live (v12.alloc (.cells #[.slice xa12 xn12 xc12, .slice ya12 yn12 yc12] 28)) _) := (HL11.out.later hb).push ho.tens
        have HB12 : Hid (Below w0.heap.size w0 (v12.alloc (.cells #[.slice xa12 xn12 xc12, .slice ya12 yn12 yc12] 28))) := Below.push (Below.after HB11.out hb) _
        clear ho hb c0 c1 HL11 HB11
        have c0 := HL12.out.2.2.2.2.2.2.2.2.2.2.2.2.1.box.c0
        have c1 := HL12.out.2.2.2.2.2.2.2.2.2.2.2.2.1.box.c1
        have c2 := HL12.out.2.2.2.2.2.2.2.2.1.box.c0
        have c3 := HL12.out.2.2.2.2.2.2.2.2.1.box.c1
        go_wp2_with fail
        refine (dot_l (wrap64 (ttl (List.zipWith opM A b) + ttl (List.zipWith opM d A))) HOK.out HL12.out.2.2.2.2.2.2.2.2.2.2.2.2.1.ten HL12.out.2.2.2.2.2.2.2.2.1.ten (by simp [HA.out, HB.out, HD.out]) (by simp [HA.out, HB.out, HD.out]) (dot_law A b d (by rw [HB.out, HA.out]) (by rw [HD.out, HA.out]))).mono ?_
        rintro e v13 ⟨rfl, hb⟩
        have HL13 : Hid (Live v13 _) := HL12.out.later hb
        have HB13 : Hid (Below w0.heap.size w0 v13) := Below.after HB12.out hb
        clear hb c0 c1 c2 c3 HL12 HB12
        have c0 := HL13.out.2.2.2.2.2.2.2.2.2.2.2.2.1.box.c0
        have c1 := HL13.out.2.2.2.2.2.2.2.2.2.2.2.2.1.box.c1
        have c2 := HL13.out.2.2.2.2.2.2.2.2.2.2.2.2.2.1.box.c0
        have c3 := HL13.out.2.2.2.2.2.2.2.2.2.2.2.2.2.1.box.c1
        go_wp2_with fail
        refine (dot_l (ttl (List.zipWith opM A b)) HOK.out HL13.out.2.2.2.2.2.2.2.2.2.2.2.2.1.ten HL13.out.2.2.2.2.2.2.2.2.2.2.2.2.2.1.ten (by simp [HA.out, HB.out, HD.out]) (by simp [HA.out, HB.out, HD.out]) rfl).mono ?_
        rintro e v14 ⟨rfl, hb⟩
        have HL14 : Hid (Live v14 _) := HL13.out.later hb
        have HB14 : Hid (Below w0.heap.size w0 v14) := Below.after HB13.out hb
        clear hb c0 c1 c2 c3 HL13 HB13
        have c0 := HL14.out.2.2.2.2.2.2.2.2.2.2.2.2.2.2.1.box.c0
        have c1 := HL14.out.2.2.2.2.2.2.2.2.2.2.2.2.2.2.1.box.c1
        have c2 := HL14.out.2.2.2.2.2.2.2.2.2.2.2.2.1.box.c0
        have c3 := HL14.out.2.2.2.2.2.2.2.2.2.2.2.2.1.box.c1
        go_wp2_with fail
        refine (dot_l (ttl (List.zipWith opM d A)) HOK.out HL14.out.2.2.2.2.2.2.2.2.2.2.2.2.2.2.1.ten HL14.out.2.2.2.2.2.2.2.2.2.2.2.2.1.ten (by simp [HA.out, HB.out, HD.out]) (by simp [HA.out, HB.out, HD.out]) rfl).mono ?_
        rintro e v15 ⟨rfl, hb⟩
        have HL15 : Hid (Live v15 _) := HL14.out.later hb
        have HB15 : Hid (Below w0.heap.size w0 v15) := Below.after HB14.out hb
        clear hb c0 c1 c2 c3 HL14 HB14
        have c0 := HL15.out.2.2.2.2.2.2.2.2.2.2.2.1.box.c0
        have c1 := HL15.out.2.2.2.2.2.2.2.2.2.2.2.1.box.c1
        have c2 := HL15.out.2.2.2.2.2.2.2.2.2.2.1.box.c0
        have c3 := HL15.out.2.2.2.2.2.2.2.2.2.2.1.box.c1
        go_wp2_with (go_at_call 17; refine (num_any _ _).mono ?_; rintro e w' ⟨rfl, rfl⟩)
        refine (eqt_to HL15.out.2.2.2.2.2.2.2.2.2.2.2.1.ten HL15.out.2.2.2.2.2.2.2.2.2.2.1.ten (by rw [zA_comm A b])).mono ?_
        rintro e v16 ⟨rfl, hb⟩
        have HL16 : Hid (Live v16 _) := HL15.out.later hb
        have HB16 : Hid (Below w0.heap.size w0 v16) := Below.after HB15.out hb
        clear hb c0 c1 c2 c3 HL15 HB15
        have c0 := HL16.out.2.2.2.2.2.2.2.2.2.1.box.c0
        have c1 := HL16.out.2.2.2.2.2.2.2.2.2.1.box.c1
        have c2 := HL16.out.2.2.2.2.2.2.2.1.box.c0
        have c3 := HL16.out.2.2.2.2.2.2.2.1.box.c1
        go_wp2_with fail
        refine (eqt_to HL16.out.2.2.2.2.2.2.2.2.2.1.ten HL16.out.2.2.2.2.2.2.2.1.ten (by rw [zA_assoc A b d])).mono ?_
        rintro e v17 ⟨rfl, hb⟩
        have HL17 : Hid (Live v17 _) := HL16.out.later hb
        have HB17 : Hid (Below w0.heap.size w0 v17) := Below.after HB16.out hb
        clear hb c0 c1 c2 c3 HL16 HB16
        have c0 := HL17.out.2.2.2.2.2.2.1.box.c0
        have c1 := HL17.out.2.2.2.2.2.2.1.box.c1
        have c2 := HL17.out.2.2.2.1.box.c0
        have c3 := HL17.out.2.2.2.1.box.c1
        go_wp2_with fail
        refine (eqt_to HL17.out.2.2.2.2.2.2.1.ten HL17.out.2.2.2.1.ten (by rw [zM_over A b d])).mono ?_
        rintro e v18 ⟨rfl, hb⟩
        have HL18 : Hid (Live v18 _) := HL17.out.later hb
        have HB18 : Hid (Below w0.heap.size w0 v18) := Below.after HB17.out hb
        clear hb c0 c1 c2 c3 HL17 HB17
        have c0 := HL18.out.2.2.1.box.c0
        have c1 := HL18.out.2.2.1.box.c1
        have c2 := HL18.out.2.2.2.2.2.2.2.2.2.2.2.2.1.box.c0
        have c3 := HL18.out.2.2.2.2.2.2.2.2.2.2.2.2.1.box.c1
        go_wp2_with fail
        refine (eqt_to HL18.out.2.2.1.ten HL18.out.2.2.2.2.2.2.2.2.2.2.2.2.1.ten (by rw [zS_back A b HRG.out (by rw [HB.out, HA.out])])).mono ?_
        rintro e v19 ⟨rfl, hb⟩
        have HL19 : Hid (Live v19 _) := HL18.out.later hb
        have HB19 : Hid (Below w0.heap.size w0 v19) := Below.after HB18.out hb
        clear hb c0 c1 c2 c3 HL18 HB18
        have c0 := HL19.out.2.1.box.c0
        have c1 := HL19.out.2.1.box.c1
        have c2 := HL19.out.1.box.c0
        have c3 := HL19.out.1.box.c1
        go_wp2_with fail
        refine (eqt_to HL19.out.2.1.ten HL19.out.1.ten (by rw [zN_scale A])).mono ?_
        rintro e v20 ⟨rfl, hb⟩
        have HL20 : Hid (Live v20 _) := HL19.out.later hb
        have HB20 : Hid (Below w0.heap.size w0 v20) := Below.after HB19.out hb
        clear hb c0 c1 c2 c3 HL19 HB19
        have HZ : Hid (Below W.heap.size W v20) := Below.after HW0.out HB20.out
        clear HL20 HB20
        go_wp2
        refine ⟨⟨⟨i + 1, by omega, rfl, rfl, rfl, ?_⟩, HZ.out⟩, ?_⟩
        · show Value.int .i64 _ = _
          go_num
        · show 6 - (intOf (Value.int .i64 _)).toNat < 6 - (intOf (Value.int .i64 _)).toNat
          simp [intOf]
          omega
    · go_wp2
      exact HEX.out _ _ i ⟨rfl, rfl, rfl, rfl⟩ HBW.out
  · go_wp2
    exact HEX.out _ _ i ⟨rfl, rfl, rfl, rfl⟩ HBW.out
end Go.Proofs.Ytoocfoodnkikeaa
