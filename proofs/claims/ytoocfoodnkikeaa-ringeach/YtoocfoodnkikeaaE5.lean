/- RingEach: its inner loop. -/
import Derived.Test.YtoocfoodnkikeaaE4
namespace Go.Proofs.Ytoocfoodnkikeaa
set_option linter.unusedVariables false
set_option linter.unusedSimpArgs false
open Go.RowKit

structure EnvE (B : Nat) (f0 : Value) (T : List Ten) (w : World) : Prop where
  b0 : w.cell? ⟨B, 0, none⟩ = some f0
  hT : TensL w f0 T
theorem EnvE.later {B : Nat} {f0 : Value} {T : List Ten} {w w' : World} (h : EnvE B f0 T w) (hb : Below w.heap.size w w') : EnvE B f0 T w' :=
  ⟨cell_later hb h.b0, h.hT.later hb⟩
theorem sub_fit {a0 a1 b0 b1 : Value} {s t : Ten} {w : World} (ha : Tens w a0 a1 s) (hb' : Tens w b0 b1 t) :
    Calls Try.prog 10 #[.agg #[a0, a1], .agg #[b0, b1]] w fun e w' => ∃ x0 x1, e = .returned (.tuple #[.agg #[x0, x1], .int .i64 (fitE s t)]) ∧ OwnT w' w.heap.size x0 x1 (eachR opS s t) ∧ Below w.heap.size w w' := sub_any ha hb'

set_option maxRecDepth 1000000 in
set_option maxHeartbeats 8000000 in
theorem eloop2 {B i c0 : Nat} {f : Option Addr} {T : List Ten} {W : World} {Q : Exit → Act → World → Prop}
    (hi : i < T.length) (hcT : T.length ≤ c0) (hT0 : T.length ≤ 17592186044416)
    (HE : Hid (EnvE B (.slice f T.length c0) T W))
    (hexit : ∀ a' w' k, FrE B i k a' → Below W.heap.size W w' → Q (.exit 2) a' w')
    (a : Act) (w : World) (ha : FrE B i 0 a) (hb : Below W.heap.size W w) :
    Code.wp Try.prog (.loop (((Try.f3.body.map loopsIn).getD []).getD 1 .skip)) Q a w := by
  refine wp_loop (fun a' w' => (∃ k : Nat, k ≤ T.length ∧ k ≤ 6 ∧ FrE B i k a') ∧ Below W.heap.size W w') (fun a' _ => 6 - slotNat a' 4) ⟨⟨0, by omega, by omega, ha⟩, hb⟩ ?_
  clear ha hb
  clear a w
  intro a w ⟨⟨k, hk, hk6, hf⟩, hb⟩
  obtain ⟨G, hg, e⟩ := act190 a hf.d hf.s
  obtain ⟨hz1, hz2, g1, g3, g4⟩ := hf
  rw [hg] at g1 g3 g4
  clear hz1 hz2
  subst e
  clear hg
  rw [g1, g3, g4]
  have HEX : Hid (∀ a' w' k, FrE B i k a' → Below W.heap.size W w' → Q (.exit 2) a' w') := hexit
  have HB : Hid (Below W.heap.size W w) := hb
  have HEW : Hid (EnvE B (.slice f T.length c0) T w) := HE.out.later hb
  clear hexit hb g1 g3 g4
  have hbx := HEW.out.b0
  conv => arg 2; whnf
  by_cases hlt : k < T.length
  · by_cases hlt6 : k < 6
    · obtain ⟨tb, tof, xa, xc, ya, yc, ea, hi1, hi2, HTI⟩ := HEW.out.hT.row i hi
      subst ea
      obtain ⟨tb', tof', ua, uc, va, vc, ea, hk1, hk2, HTK⟩ := HEW.out.hT.row k hlt
      cases ea
      go_upto_region 9 with fail
      refine ereg9 (s := T[i]) (t := T[k]) hi hlt hcT hT0 hbx hi1 hi2 hk1 hk2 HTI HTK ?_ _ ⟨rfl, rfl, rfl, rfl, rfl⟩
      intro a1 w0 Ba Bb p0 p1 q0 q1 hf1 h5 h6 hl0 hb0
      obtain ⟨G1, hg1, e1⟩ := act190 a1 hf1.d hf1.s
      obtain ⟨hz1, hz2, g1, g3, g4⟩ := hf1
      rw [hg1] at g1 g3 g4 h5 h6
      clear hz1 hz2
      subst e1
      clear hg1
      rw [g1, g3, g4, h5, h6]
      clear g1 g3 g4 h5 h6
      have HL0 : Hid (Live w0 _) := hl0
      have HB0 : Hid (Below w.heap.size w w0) := hb0
      have HI0 : Hid (w0.cell? ⟨B, 0, none⟩ = some (.slice (some ⟨tb, tof, none⟩) T.length c0) ∧ w0.cell? ⟨tb, tof + i * 2, none⟩ = some (.slice xa T[i].1.length xc) ∧ w0.cell? ⟨tb, tof + i * 2 + 1, none⟩ = some (.slice ya T[i].2.length yc) ∧ w0.cell? ⟨tb, tof + k * 2, none⟩ = some (.slice ua T[k].1.length uc) ∧ w0.cell? ⟨tb, tof + k * 2 + 1, none⟩ = some (.slice va T[k].2.length vc)) := ⟨cell_later hb0 hbx, cell_later hb0 hi1, cell_later hb0 hi2, cell_later hb0 hk1, cell_later hb0 hk2⟩
      have HTI0 : Hid (Tens w0 (.slice xa T[i].1.length xc) (.slice ya T[i].2.length yc) T[i]) := HTI.out.later hb0
      have HTK0 : Hid (Tens w0 (.slice ua T[k].1.length uc) (.slice va T[k].2.length vc) T[k]) := HTK.out.later hb0
      clear hl0 hb0 hbx hi1 hi2 hk1 hk2 HTI HTK HEW
      have c1 := HL0.out.1.box.c0
      have c2 := HL0.out.1.box.c1
      have c3 := HL0.out.2.1.box.c0
      have c4 := HL0.out.2.1.box.c1
      go_wp2_with fail
      refine (add_any HL0.out.1.ten HL0.out.2.1.ten).mono ?_
      rintro e w1 ⟨x, y, rfl, ho, hb1⟩
      obtain ⟨xa1, xn1, xc1, rfl⟩ := ho.dims.ints.shape3
      obtain ⟨ya1, yn1, yc1, rfl⟩ := ho.data.ints.shape3
      have HW1 : Hid (Wr (w1.alloc (.cells #[.slice xa1 xn1 xc1, .slice ya1 yn1 yc1] 28)) w0.heap.size (.slice xa1 xn1 xc1) ∧ Wr (w1.alloc (.cells #[.slice xa1 xn1 xc1, .slice ya1 yn1 yc1] 28)) w0.heap.size (.slice ya1 yn1 yc1)) := ⟨ho.dims.wr.alloc _, ho.data.wr.alloc _⟩
      have HL1 : Hid (Live (w1.alloc (.cells #[.slice xa1 xn1 xc1, .slice ya1 yn1 yc1] 28)) _) := (HL0.out.later hb1).push ho.tens
      have HB1 : Hid (Below w0.heap.size w0 (w1.alloc (.cells #[.slice xa1 xn1 xc1, .slice ya1 yn1 yc1] 28))) := Below.push hb1 _
      have c1 := HL1.out.2.1.box.c0
      have c2 := HL1.out.2.1.box.c1
      have c3 := HL1.out.2.2.1.box.c0
      have c4 := HL1.out.2.2.1.box.c1
      clear ho hb1
      go_wp2_with fail
      refine (sub_any HL1.out.2.1.ten HL1.out.2.2.1.ten).mono ?_
      rintro e w2 ⟨x, y, rfl, ho, hb2⟩
      obtain ⟨xa2, xn2, xc2, rfl⟩ := ho.dims.ints.shape3
      obtain ⟨ya2, yn2, yc2, rfl⟩ := ho.data.ints.shape3
      have hp2 := Below.push hb2 (.cells #[.slice xa2 xn2 xc2, .slice ya2 yn2 yc2] 28)
      have HW2 : Hid (Wr (w2.alloc (.cells #[.slice xa2 xn2 xc2, .slice ya2 yn2 yc2] 28)) w0.heap.size (.slice xa1 xn1 xc1) ∧ Wr (w2.alloc (.cells #[.slice xa2 xn2 xc2, .slice ya2 yn2 yc2] 28)) w0.heap.size (.slice ya1 yn1 yc1)) := ⟨HW1.out.1.later hp2, HW1.out.2.later hp2⟩
      have HL2 : Hid (Live (w2.alloc (.cells #[.slice xa2 xn2 xc2, .slice ya2 yn2 yc2] 28)) _) := (HL1.out.later hb2).push ho.tens
      have HB2 : Hid (Below w0.heap.size w0 (w2.alloc (.cells #[.slice xa2 xn2 xc2, .slice ya2 yn2 yc2] 28))) := Below.after HB1.out hp2
      have c1 := HL2.out.2.2.1.box.c0
      have c2 := HL2.out.2.2.1.box.c1
      have c3 := HL2.out.2.2.2.1.box.c0
      have c4 := HL2.out.2.2.2.1.box.c1
      clear ho hb2 hp2 HL1 HB1 HW1
      go_wp2_with fail
      refine (mul_any HL2.out.2.2.1.ten HL2.out.2.2.2.1.ten).mono ?_
      rintro e w3 ⟨x, y, rfl, ho, hb3⟩
      obtain ⟨xa3, xn3, xc3, rfl⟩ := ho.dims.ints.shape3
      obtain ⟨ya3, yn3, yc3, rfl⟩ := ho.data.ints.shape3
      have hp3 := Below.push hb3 (.cells #[.slice xa3 xn3 xc3, .slice ya3 yn3 yc3] 28)
      have hsz := HB2.out.size
      have HX3 : Hid ((Value.slice xa1 xn1 xc1).ownBlock ≠ some w3.heap.size ∧ (Value.slice ya1 yn1 yc1).ownBlock ≠ some w3.heap.size) := ⟨fun e => absurd ((HW2.out.1.later hb3).lt _ e) (Nat.lt_irrefl _), fun e => absurd ((HW2.out.2.later hb3).lt _ e) (Nat.lt_irrefl _)⟩
      have HW3 : Hid ((Wr (w3.alloc (.cells #[.slice xa3 xn3 xc3, .slice ya3 yn3 yc3] 28)) w0.heap.size (.slice xa1 xn1 xc1) ∧ Wr (w3.alloc (.cells #[.slice xa3 xn3 xc3, .slice ya3 yn3 yc3] 28)) w0.heap.size (.slice ya1 yn1 yc1)) ∧ Wr (w3.alloc (.cells #[.slice xa3 xn3 xc3, .slice ya3 yn3 yc3] 28)) w0.heap.size (.slice xa3 xn3 xc3) ∧ Wr (w3.alloc (.cells #[.slice xa3 xn3 xc3, .slice ya3 yn3 yc3] 28)) w0.heap.size (.slice ya3 yn3 yc3)) := ⟨⟨HW2.out.1.later hp3, HW2.out.2.later hp3⟩, (ho.dims.wr.mono hsz).alloc _, (ho.data.wr.mono hsz).alloc _⟩
      have HL3 : Hid (Live (w3.alloc (.cells #[.slice xa3 xn3 xc3, .slice ya3 yn3 yc3] 28)) _) := (HL2.out.later hb3).push ho.tens
      have HB3 : Hid (Below w0.heap.size w0 (w3.alloc (.cells #[.slice xa3 xn3 xc3, .slice ya3 yn3 yc3] 28))) := Below.after HB2.out hp3
      have c1 := HL3.out.2.2.2.1.box.c0
      have c2 := HL3.out.2.2.2.1.box.c1
      have c3 := HL3.out.2.2.2.2.1.box.c0
      have c4 := HL3.out.2.2.2.2.1.box.c1
      clear ho hb3 hp3 hsz HL2 HB2 HW2
      go_wp2_with fail
      refine (dot_any HL3.out.2.2.2.1.ten HL3.out.2.2.2.2.1.ten).mono ?_
      rintro e w4 ⟨rfl, hb4⟩
      have HW4 : Hid ((Wr w4 w0.heap.size (.slice xa1 xn1 xc1) ∧ Wr w4 w0.heap.size (.slice ya1 yn1 yc1)) ∧ Wr w4 w0.heap.size (.slice xa3 xn3 xc3) ∧ Wr w4 w0.heap.size (.slice ya3 yn3 yc3)) := ⟨⟨HW3.out.1.1.later hb4, HW3.out.1.2.later hb4⟩, HW3.out.2.1.later hb4, HW3.out.2.2.later hb4⟩
      have HL4 : Hid (Live w4 _) := HL3.out.later hb4
      have HB4 : Hid (Below w0.heap.size w0 w4) := Below.after HB3.out hb4
      clear hb4 HL3 HB3 HW3 c1 c2 c3 c4
      go_upto_region 16 with fail
      have HV4 : Hid (Live (((w4.alloc (.cells #[.slice none 0 0, .slice none 0 0] 28)).alloc (.cells #[.slice none 0 0, .slice none 0 0] 28)).alloc (.cells #[.slice none 0 0, .slice none 0 0] 28)) [(w4.heap.size + 1 + 1, .slice none 0 0, .slice none 0 0, ([], [])), (w4.heap.size + 1, .slice none 0 0, .slice none 0 0, ([], [])), (w4.heap.size, .slice none 0 0, .slice none 0 0, ([], []))]) := by
        have h := ((Live.push (w := w4) (L := []) (t := ([], [])) trivial ⟨Ints.nil _, Ints.nil _⟩).push (t := ([], [])) ⟨Ints.nil _, Ints.nil _⟩).push (t := ([], [])) ⟨Ints.nil _, Ints.nil _⟩
        simp only [World.size_alloc] at h
        exact h
      have HVB : Hid (Below w4.heap.size w4 (((w4.alloc (.cells #[.slice none 0 0, .slice none 0 0] 28)).alloc (.cells #[.slice none 0 0, .slice none 0 0] 28)).alloc (.cells #[.slice none 0 0, .slice none 0 0] 28))) := Below.push (Below.push (Below.push (Below.refl _ _) _) _) _
      have c1 := (HL4.out.later HVB.out).2.2.2.1.box.c0
      have c2 := (HL4.out.later HVB.out).2.2.2.1.box.c1
      rename_i K1 hK1 K0 hK0
      have HM : Hid (∀ a' w', FrT B i k Ba Bb w1.heap.size w2.heap.size w3.heap.size w4.heap.size (w4.heap.size + 1) (w4.heap.size + 1 + 1) (fitE T[i] T[k]) (dotV T[i] T[k]) (fitE T[i] T[k]) (dotV T[i] T[k]) a' → (∃ r0 r1 r2 r3 r4 r5, Live w' [(w4.heap.size, r0, r1, eachR opA T[i] T[k]), (w4.heap.size + 1, r2, r3, eachR opS T[i] T[k]), (w4.heap.size + 1 + 1, r4, r5, eachR opM T[i] T[k])]) → Below w4.heap.size w4 w' → K1 a' w') := by
        intro a6 w6 hf6 ⟨r0, r1, r2, r3, r4, r5, hl6⟩ hb6
        apply hK1
        clear hK1 hK0 K0 c1 c2 HV4 HVB
        have HL6 : Hid (Live w6 _) := HL4.out.later hb6
        have HB6 : Hid (Below w0.heap.size w0 w6) := Below.after HB4.out hb6
        have HW6 : Hid ((Wr w6 w0.heap.size (.slice xa1 xn1 xc1) ∧ Wr w6 w0.heap.size (.slice ya1 yn1 yc1)) ∧ Wr w6 w0.heap.size (.slice xa3 xn3 xc3) ∧ Wr w6 w0.heap.size (.slice ya3 yn3 yc3)) := ⟨⟨HW4.out.1.1.later hb6, HW4.out.1.2.later hb6⟩, HW4.out.2.1.later hb6, HW4.out.2.2.later hb6⟩
        have HP6 : Hid (Live w6 _) := hl6
        clear hl6 hb6 HL4 HB4 HW4
        have hf6' := hf6
        obtain ⟨G6, hg6, e6⟩ := act190 a6 hf6'.d hf6'.s
        obtain ⟨hz1, hz2, g1, g3, g4, g5, g6, g7, g8, g9, g10, g11, g12, g13, g14, g15, g16, g17, g18, g19⟩ := hf6'
        rw [hg6] at g1 g3 g4 g5 g6 g7 g8 g9 g10 g11 g12 g13 g14 g15 g16 g17 g18 g19
        clear hz1 hz2
        subst e6
        clear hg6
        rw [g1, g3, g4, g5, g6, g7, g8, g9, g10, g11, g12, g13, g14, g15, g16, g17, g18, g19]
        clear g1 g3 g4 g5 g6 g7 g8 g9 g10 g11 g12 g13 g14 g15 g16 g17 g18 g19
        go_upto_region 22 with fail
        refine ereg22 (s := T[i]) (t := T[k]) (lT := T.length) (bad := fitE T[i] T[k]) (dot := dotV T[i] T[k]) hi hlt hcT hT0 ⟨cell_later HB6.out HI0.out.1, cell_later HB6.out HI0.out.2.1, cell_later HB6.out HI0.out.2.2.1, cell_later HB6.out HI0.out.2.2.2.1, cell_later HB6.out HI0.out.2.2.2.2⟩ (HTI0.out.later HB6.out) (HTK0.out.later HB6.out) ⟨HL6.out.2.2.1, HL6.out.2.1, HL6.out.1, HL6.out.2.2.2.1, HL6.out.2.2.2.2.1, HP6.out.1, HP6.out.2.1, HP6.out.2.2.1, trivial⟩ ?_ _ ⟨rfl, rfl, rfl, rfl, rfl, rfl, rfl, rfl, rfl, rfl, rfl, rfl, rfl, rfl, rfl, rfl, rfl, rfl, rfl, rfl⟩
        clear hf6
        intro a7 w7 hf7 h5 h6 h7 h11 h166 hb7
        obtain ⟨G7, hg7, e7⟩ := act190 a7 hf7.d hf7.s
        obtain ⟨hz1, hz2, g1, g3, g4⟩ := hf7
        rw [hg7] at g1 g3 g4 h5 h6 h7 h11 h166
        clear hz1 hz2
        subst e7
        clear hg7
        rw [g1, g3, g4, h5, h6, h7, h11, h166]
        clear g1 g3 g4 h5 h6 h7 h11 h166
        have HB7 : Hid (Below w6.heap.size w6 w7) := hb7
        have c1 := (HL6.out.later hb7).2.2.1.box.c0
        have c2 := (HL6.out.later hb7).2.2.1.box.c1
        have HS7 : Hid (w0.heap.size ≤ w7.heap.size) := Nat.le_trans HB6.out.size hb7.size
        have HU7 : Hid ((Wr w7 w0.heap.size (.slice xa1 xn1 xc1) ∧ Wr w7 w0.heap.size (.slice ya1 yn1 yc1)) ∧ Wr w7 w0.heap.size (.slice xa3 xn3 xc3) ∧ Wr w7 w0.heap.size (.slice ya3 yn3 yc3)) := ⟨⟨HW6.out.1.1.later hb7, HW6.out.1.2.later hb7⟩, HW6.out.2.1.later hb7, HW6.out.2.2.later hb7⟩
        have hbm := (HL6.out.later hb7).1.box
        have HBM : Hid (Box w7 w3.heap.size (.slice xa3 xn3 xc3) (.slice ya3 yn3 yc3)) := hbm
        have HB07 : Hid (Below w0.heap.size w0 w7) := Below.after HB6.out hb7
        clear hb7 HP6 HL6 HW6 HB6 HB7 hbm
        go_wp2_with fail
        refine (spoil_wk HU7.out.1.1 HU7.out.1.2 HS7.out).mono ?_
        rintro e w8 ⟨rfl, hb8, hu8, hk8⟩
        have HB08 : Hid (Below w0.heap.size w0 w8) := HB07.out.trans hb8
        have hbm : Box w8 w3.heap.size (.slice xa3 xn3 xc3) (.slice ya3 yn3 yc3) := (hk8 _ HBM.out.lt HX3.out.1 HX3.out.2).trans HBM.out
        have HU8 : Hid (Wr w8 w0.heap.size (.slice xa3 xn3 xc3) ∧ Wr w8 w0.heap.size (.slice ya3 yn3 yc3)) := ⟨hu8 _ HU7.out.2.1, hu8 _ HU7.out.2.2⟩
        have HS8 : Hid (w0.heap.size ≤ w8.heap.size) := HB08.out.size
        have c1 := hbm.c0
        have c2 := hbm.c1
        clear hb8 hu8 hk8 HBM HU7 HB07 HS7 hbm
        go_wp2_with fail
        refine (spoil_wk HU8.out.1 HU8.out.2 HS8.out).mono ?_
        rintro e w9 ⟨rfl, hb9, _, _⟩
        have HB09 : Hid (Below w0.heap.size w0 w9) := HB08.out.trans hb9
        clear hb9 HB08 HU8 HS8 c1 c2
        go_upto_region 26 with fail
        refine ereg26 (s := T[i]) (t := T[k]) (lT := T.length) hi hlt hcT hT0 ⟨cell_later HB09.out HI0.out.1, cell_later HB09.out HI0.out.2.1, cell_later HB09.out HI0.out.2.2.1, cell_later HB09.out HI0.out.2.2.2.1, cell_later HB09.out HI0.out.2.2.2.2⟩ (HTI0.out.later HB09.out) (HTK0.out.later HB09.out) (HL0.out.later HB09.out) ?_ _ ⟨rfl, rfl, rfl, rfl, rfl⟩ rfl rfl
        intro a10 w10 hf10 h188 hb10
        obtain ⟨G10, hg10, e10⟩ := act190 a10 hf10.d hf10.s
        obtain ⟨hz1, hz2, g1, g3, g4⟩ := hf10
        rw [hg10] at g1 g3 g4 h188
        clear hz1 hz2
        subst e10
        clear hg10
        rw [g1, g3, g4, h188]
        clear g1 g3 g4 h188
        have HBZ : Hid (Below W.heap.size W w10) := Below.after HB.out (Below.after HB0.out (Below.after HB09.out hb10))
        clear hb10 HB09
        go_wp2
        refine ⟨⟨⟨k + 1, by omega, by omega, rfl, rfl, rfl, rfl, ?_⟩, HBZ.out⟩, ?_⟩
        · show Value.int .i64 _ = _
          go_num
        · show 6 - (intOf (Value.int .i64 _)).toNat < 6 - (intOf (Value.int .i64 _)).toNat
          simp [intOf]
          omega
      clear hK1
      cases hs : tok T[i] with
      | false =>
        have HF : Hid (fitE T[i] T[k] = 1) := by show _ = _; simp [fitE, hs]
        have HD : Hid (dotV T[i] T[k] = 0) := by show _ = _; simp [dotV, HF.out]
        have HS : Hid (tok T[i] = false) := hs
        clear hs
        go_wp2_with fail
        refine (rtensor_to false (HL4.out.later HVB.out).2.2.2.1.ten HS.out).mono ?_
        rintro e w5 ⟨rfl, hb5⟩
        have HV5 : Hid (Live w5 _) := HV4.out.later hb5
        have HB5 : Hid (Below w4.heap.size w4 w5) := Below.after HVB.out hb5
        clear hb5
        go_wp2
        refine HM.out _ _ ⟨rfl, rfl, rfl, rfl, rfl, rfl, rfl, rfl, rfl, rfl, rfl, rfl, rfl, rfl, rfl, by rw [HF.out]; rfl, by rw [HD.out]; rfl, rfl, rfl, rfl⟩ ⟨.slice none 0 0, .slice none 0 0, .slice none 0 0, .slice none 0 0, .slice none 0 0, .slice none 0 0, ?_⟩ HB5.out
        rw [each_bad_eq HF.out (by decide), each_bad_eq HF.out (by decide), each_bad_eq HF.out (by decide)]
        exact ⟨HV5.out.2.2.1, HV5.out.2.1, HV5.out.1, trivial⟩
      | true =>
        have HS : Hid (tok T[i] = true) := hs
        go_wp2_with fail
        refine (rtensor_to true (HL4.out.later HVB.out).2.2.2.1.ten HS.out).mono ?_
        rintro e w5 ⟨rfl, hb5⟩
        have HV5 : Hid (Live w5 _) := HV4.out.later hb5
        have HB5 : Hid (Below w4.heap.size w4 w5) := Below.after HVB.out hb5
        have c1 := (HL4.out.later HB5.out).2.2.2.2.1.box.c0
        have c2 := (HL4.out.later HB5.out).2.2.2.2.1.box.c1
        clear hb5 HVB HV4
        cases ht : tok T[k] with
        | false =>
          have HF : Hid (fitE T[i] T[k] = 1) := by show _ = _; simp [fitE, hs, ht]
          have HD : Hid (dotV T[i] T[k] = 0) := by show _ = _; simp [dotV, HF.out]
          have HT : Hid (tok T[k] = false) := ht
          clear hs ht
          go_wp2_with fail
          refine (rtensor_to false (HL4.out.later HB5.out).2.2.2.2.1.ten HT.out).mono ?_
          rintro e w6 ⟨rfl, hb6⟩
          have HV6 : Hid (Live w6 _) := HV5.out.later hb6
          have HB6 : Hid (Below w4.heap.size w4 w6) := Below.after HB5.out hb6
          clear hb6
          go_wp2
          refine HM.out _ _ ⟨rfl, rfl, rfl, rfl, rfl, rfl, rfl, rfl, rfl, rfl, rfl, rfl, rfl, rfl, rfl, by rw [HF.out]; rfl, by rw [HD.out]; rfl, rfl, rfl, rfl⟩ ⟨.slice none 0 0, .slice none 0 0, .slice none 0 0, .slice none 0 0, .slice none 0 0, .slice none 0 0, ?_⟩ HB6.out
          rw [each_bad_eq HF.out (by decide), each_bad_eq HF.out (by decide), each_bad_eq HF.out (by decide)]
          exact ⟨HV6.out.2.2.1, HV6.out.2.1, HV6.out.1, trivial⟩
        | true =>
          have HT : Hid (tok T[k] = true) := ht
          go_wp2_with fail
          refine (rtensor_to true (HL4.out.later HB5.out).2.2.2.2.1.ten HT.out).mono ?_
          rintro e w6 ⟨rfl, hb6⟩
          have HV6 : Hid (Live w6 _) := HV5.out.later hb6
          have HB6 : Hid (Below w4.heap.size w4 w6) := Below.after HB5.out hb6
          have c1 := (HL4.out.later HB6.out).2.2.2.1.box.c0
          have c2 := (HL4.out.later HB6.out).2.2.2.2.1.box.c0
          clear hb6 HB5 HV5
          by_cases hd : T[i].1 = T[k].1
          · have HF : Hid (fitE T[i] T[k] = 0) := by show _ = _; simp [fitE, hs, ht, hd]
            have HD : Hid (dotV T[i] T[k] = ttl (List.zipWith opM T[i].2 T[k].2)) := by show _ = _; simp [dotV, HF.out]
            have HDD : Hid (T[i].1 = T[k].1) := hd
            clear hs ht hd
            go_wp2_with fail
            refine (eqn_bl (HL4.out.later HB6.out).2.2.2.1.ten.1 (HL4.out.later HB6.out).2.2.2.2.1.ten.1 HDD.out).mono ?_
            rintro e w7 ⟨rfl, hb7⟩
            have HV7 : Hid (Live w7 _) := HV6.out.later hb7
            have HB7 : Hid (Below w4.heap.size w4 w7) := Below.after HB6.out hb7
            clear hb7 HB6 HV6 c1 c2
            have l1 := HL4.out.2.2.2.1.box.lt
            have l2 := HL4.out.2.2.2.2.1.box.lt
            go_upto_region 20 with fail
            refine ereg20 (s := T[i]) (t := T[k]) HF ⟨(HL4.out.later HB7.out).2.2.2.1, (HL4.out.later HB7.out).2.2.2.2.1, trivial⟩ HV7.out.2.2.1.box HV7.out.2.1.box HV7.out.1.box (by omega) (by omega) (by omega) (by omega) (by omega) (by omega) (by omega) (by omega) (by omega) (by omega) (by omega) ?_ _ ⟨rfl, rfl, rfl, rfl, rfl, rfl, rfl, rfl, rfl, rfl, rfl, rfl, rfl, rfl, rfl, rfl, rfl, rfl, rfl, rfl⟩
            intro a8 w8 r0 r1 r2 r3 r4 r5 hf8 hl8 hb8
            obtain ⟨G8, hg8, e8⟩ := act190 a8 hf8.d hf8.s
            obtain ⟨hz1, hz2, g1, g3, g4, g5, g6, g7, g8, g9, g10, g11, g12, g13, g14, g15, g16, g17, g18, g19⟩ := hf8
            rw [hg8] at g1 g3 g4 g5 g6 g7 g8 g9 g10 g11 g12 g13 g14 g15 g16 g17 g18 g19
            clear hz1 hz2
            subst e8
            clear hg8
            rw [g1, g3, g4, g5, g6, g7, g8, g9, g10, g11, g12, g13, g14, g15, g16, g17, g18, g19]
            clear g1 g3 g4 g5 g6 g7 g8 g9 g10 g11 g12 g13 g14 g15 g16 g17 g18 g19
            have HL8 : Hid (Live w8 _) := hl8
            have HB8 : Hid (Below w4.heap.size w4 w8) := HB7.out.trans hb8
            have c1 := hl8.2.2.1.box.c0
            have c2 := hl8.2.2.1.box.c1
            clear hl8 hb8 HB7 HV7
            go_wp2_with fail
            refine (rtotal_any HL8.out.2.2.1.ten).mono ?_
            rintro e w9 ⟨rfl, hb9⟩
            have HL9 : Hid (Live w9 _) := HL8.out.later hb9
            have HB9 : Hid (Below w4.heap.size w4 w9) := Below.after HB8.out hb9
            clear hb9 HL8 HB8 c1 c2
            go_wp2
            refine HM.out _ _ ⟨rfl, rfl, rfl, rfl, rfl, rfl, rfl, rfl, rfl, rfl, rfl, rfl, rfl, rfl, rfl, by rw [HF.out]; rfl, by rw [HD.out, each_ok_eq HF.out]; rfl, rfl, rfl, rfl⟩ ⟨_, _, _, _, _, _, HL9.out⟩ HB9.out
          · have HF : Hid (fitE T[i] T[k] = 4) := by show _ = _; simp [fitE, hs, ht, hd]
            have HD : Hid (dotV T[i] T[k] = 0) := by show _ = _; simp [dotV, HF.out]
            have HDD : Hid ((T[i].1 == T[k].1) = false) := by show _ = _; simp [hd]
            clear hs ht hd
            go_wp2_with fail
            refine (eqn_to false (HL4.out.later HB6.out).2.2.2.1.ten.1 (HL4.out.later HB6.out).2.2.2.2.1.ten.1 HDD.out).mono ?_
            rintro e w7 ⟨rfl, n7, rfl⟩
            have HV7 : Hid (Live (w6.drewN n7) _) := HV6.out.later (drew_below n7)
            have HB7 : Hid (Below w4.heap.size w4 (w6.drewN n7)) := Below.after HB6.out (drew_below n7)
            clear HB6 HV6 c1 c2
            go_wp2
            refine HM.out _ _ ⟨rfl, rfl, rfl, rfl, rfl, rfl, rfl, rfl, rfl, rfl, rfl, rfl, rfl, rfl, rfl, by rw [HF.out]; rfl, by rw [HD.out]; rfl, rfl, rfl, rfl⟩ ⟨.slice none 0 0, .slice none 0 0, .slice none 0 0, .slice none 0 0, .slice none 0 0, .slice none 0 0, ?_⟩ HB7.out
            rw [each_bad_eq HF.out (by decide), each_bad_eq HF.out (by decide), each_bad_eq HF.out (by decide)]
            exact ⟨HV7.out.2.2.1, HV7.out.2.1, HV7.out.1, trivial⟩
    · go_wp2
      exact HEX.out _ _ k ⟨rfl, rfl, rfl, rfl, rfl⟩ HB.out
  · go_wp2
    exact HEX.out _ _ k ⟨rfl, rfl, rfl, rfl, rfl⟩ HB.out
end Go.Proofs.Ytoocfoodnkikeaa
