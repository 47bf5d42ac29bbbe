/- ShapePlaces: a round over dims that may be. -/
import Derived.Test.YthkmcjniibohkaaL2T
import Derived.Test.YthkmcjniibohkaaL4T
import Derived.Test.YthkmcjniibohkaaL5T
import Derived.Deep.DeepCutAuto
import Derived.Deep.RegionHeld3
namespace Go.Proofs.Ythkmcjniibohkaa
set_option linter.unusedVariables false
set_option linter.unusedSimpArgs false
open Go.RowKit
set_option maxRecDepth 1000000 in
set_option maxHeartbeats 8000000 in
theorem roundT {B g gcap q c0 c1 c3 b off xc : Nat} {f3 : Value} {a1 xa : Option Addr} {D P : List (List Int)} {T : List (List Int × List Int)} {N : List Int} {w : World} {Q : Exit → Act → World → Prop} {G : Nat → Value}
    (hD : D.length ≤ 17592186044416) (hcD : D.length ≤ c0) (hP : P.length ≤ 17592186044416) (hcP : P.length ≤ c1) (hN : N.length ≤ 17592186043904) (hgc : 6 + N.length ≤ gcap) (hlt : q < D.length) (hlt6 : q < 6)
    (HE : Hid (Env B g (.slice (some ⟨b, off, none⟩) D.length c0) (.slice a1 P.length c1) f3 D P T (six ++ N) w)) (hcx : w.cell? ⟨b, off + q, none⟩ = some (.slice xa D[q].length xc)) (HIX : Hid (Ints w (.slice xa D[q].length xc) D[q])) (HO : Hid (okd D[q] = true))
    (HEND : Hid (∀ a' w', Fr0 B g gcap (6 + N.length) (q + 1) a' → Below w.heap.size w w' → Q .normal a' w'))
    (a : Act) (ha : Fr0 B g gcap (6 + N.length) q a) :
    Code.wp Try.prog (((Try.f3.body.map loopsIn).getD []).getD 0 .skip) Q a w := by
  obtain ⟨G, hg, e⟩ := act371 a ha.d ha.s
  obtain ⟨hz1, hz2, g1, g3, g4⟩ := ha
  rw [hg] at g1 g3 g4
  clear hz1 hz2
  subst e
  clear hg
  rw [g1, g3, g4]
  clear g1 g3 g4
  conv => arg 2; whnf
  have hbx0 := HE.out.b0
  obtain ⟨hl1, hl2, hin, hp⟩ := okd_parts HO.out
  have hp1 := prd_lo hin
  obtain ⟨m, hm⟩ : ∃ m : Nat, prd D[q] = m := ⟨(prd D[q]).toNat, by omega⟩
  have HM : Hid (prd D[q] = m) := hm
  have hm1 : 1 ≤ m := by omega
  have hm2 : m ≤ 64 := by omega
  clear hin hp hp1 hm
  go_wp2_with fail
  refine (copy_any HIX.out).mono ?_
  rintro e w2 ⟨v2, rfl, hi2, _, hb2⟩
  have ho2 := hi2.old hl1
  obtain ⟨da, dc, rfl⟩ := hi2.shape
  have HO2 : Hid (∀ k, (Value.slice da D[q].length dc).ownBlock = some k → k < w2.heap.size) := ho2
  have HO1 : Hid (∀ k, (Value.slice xa D[q].length xc).ownBlock = some k → k < w.heap.size) := HIX.out.old hl1
  have hB1 := World.block_lt_of_cell? _ _ hbx0
  have hb1 := World.block_lt_of_cell? _ _ hcx
  simp only at hB1 hb1
  have HB1 : Hid (B < w.heap.size) := hB1
  have Hb1 : Hid (b < w.heap.size) := hb1
  clear ho2 hB1 hb1
  have HV2 : Hid (Ints w2 (.slice da D[q].length dc) D[q]) := hi2
  have HX2 : Hid (Ints w2 (.slice xa D[q].length xc) D[q]) := HIX.out.later hb2
  have HE2 : Hid (Env B g (.slice (some ⟨b, off, none⟩) D.length c0) (.slice a1 P.length c1) f3 D P T (six ++ N) w2) := HE.out.later hb2
  have HBL2 : Hid (Below w.heap.size w w2) := hb2
  have hbx2 := HE2.out.b0
  have hcx2 := cell_later hb2 hcx
  clear hb2 hi2 hbx0 hcx
  go_wp2_with fail
  refine (rdims_to true HX2.out HO.out).mono ?_
  rintro e w' ⟨rfl, rfl⟩
  go_wp2_with fail
  refine (cells_ok HV2.out HO.out).mono ?_
  rw [HM.out]
  rintro e w3 ⟨rfl, hb3⟩
  go_wp2_with fail
  refine (steps_ok (HV2.out.later hb3) HO.out).mono ?_
  rintro e w4 ⟨rfl, hk4, hb4⟩
  have hb34 := Below.after hb3 hb4
  have HV4 : Hid (Ints w4 (.slice da D[q].length dc) D[q]) := HV2.out.later hb34
  have HX4 : Hid (Ints w4 (.slice xa D[q].length xc) D[q]) := HX2.out.later hb34
  have HE4 : Hid (Env B g (.slice (some ⟨b, off, none⟩) D.length c0) (.slice a1 P.length c1) f3 D P T (six ++ N) w4) := HE2.out.later hb34
  have HBL4 : Hid (Below w.heap.size w w4) := Below.after HBL2.out hb34
  have HS4 : Hid (Blk w4 w3.heap.size (stp D[q])) := hk4
  have hz34 : w2.heap.size ≤ w3.heap.size := hb3.size
  have hz02 := HBL2.out.size
  have hbx4 := HE4.out.b0
  have hcx4 := cell_later hb34 hcx2
  clear hb3 hb4 hk4 hb34 HV2 HX2 HE2 HBL2 hbx2 hcx2
  go_upto_region 14 with fail
  refine wp_cut (fun a' w' => Fr B g gcap (6 + N.length) q (.slice da D[q].length dc) (.slice (some ⟨w3.heap.size, 0, none⟩) D[q].length D[q].length) true 0 m a' ∧ a'.tmps.getD 7 undef = .int .i64 m ∧ a'.tmps.getD 8 undef = .int .i64 0 ∧ a'.tmps.getD 10 undef = .int .i64 0 ∧ (∃ B', a'.tmps.getD 13 undef = .slice (some ⟨B', 0, none⟩) D[q].length D[q].length ∧ Blk w' B' (stp D[q])) ∧ Below w4.heap.size w4 w') ?_ ?_
  · intro a5 w5 ⟨hf5, h7, h8, h10, ⟨B5, h13, hk5⟩, hb5⟩
    obtain ⟨G5, hg5, e5⟩ := act371 a5 hf5.d hf5.s
    obtain ⟨hz1, hz2, g1, g3, g4, g5, g6, g9, g11, g12⟩ := hf5
    rw [hg5] at g1 g3 g4 g5 g6 g9 g11 g12 h7 h8 h10 h13
    clear hz1 hz2
    subst e5
    clear hg5
    rw [g1, g3, g4, g5, g6, g9, g11, g12, h7, h8, h10, h13]
    clear g1 g3 g4 g5 g6 g9 g11 g12 h7 h8 h10 h13
    have HV5 : Hid (Ints w5 (.slice da D[q].length dc) D[q]) := HV4.out.later hb5
    have HE5 : Hid (Env B g (.slice (some ⟨b, off, none⟩) D.length c0) (.slice a1 P.length c1) f3 D P T (six ++ N) w5) := HE4.out.later hb5
    have HX5 : Hid (Ints w5 (.slice xa D[q].length xc) D[q]) := HX4.out.later hb5
    have HBL5 : Hid (Below w.heap.size w w5) := Below.after HBL4.out hb5
    have HS5 : Hid (Blk w5 w3.heap.size (stp D[q])) := HS4.out.later hb5 HS4.out.lt
    have HL5 : Hid (Ints w5 (.slice (some ⟨w3.heap.size, 0, none⟩) D[q].length D[q].length) (stp D[q])) := HS5.out.ints _ _ (stp_length _).symm (Nat.le_refl _) (by unfold big; omega)
    have HK5 : Hid (Ints w5 (.slice (some ⟨B5, 0, none⟩) D[q].length D[q].length) (stp D[q])) := hk5.ints _ _ (stp_length _).symm (Nat.le_refl _) (by unfold big; omega)
    have hcx5 := cell_later hb5 hcx4
    clear hb5 hk5 HV4 HE4 HX4 HBL4 HS4 hbx4 hcx4
    go_wp2_with fail
    refine (check_any HV5.out).mono ?_
    rw [erf_ok HO.out]
    rintro e w' ⟨rfl, rfl⟩
    go_wp2_with (go_at_call 14; refine (num_any _ _).mono ?_; rintro e w' ⟨rfl, rfl⟩)
    refine (eqn_to true HL5.out HK5.out (by simp)).mono ?_
    rintro e w6 ⟨rfl, n6, rfl⟩
    go_wp2
    refine loop2T (c3 := 0) (W := w5.drewN n6) (vl := .slice (some ⟨w3.heap.size, 0, none⟩) D[q].length D[q].length) (d := D[q]) hD hcD hP hcP hN hgc (HE5.out.later (drew_below _)) (HV5.out.drewN _) HO HM hm1 hm2 ?_ _ _ ⟨rfl, rfl, rfl, rfl, rfl, rfl, rfl, rfl, rfl, rfl⟩ rfl (Below.refl _ _)
    intro a7 w7 hf7 hb7
    obtain ⟨G7, hg7, e7⟩ := act371 a7 hf7.d hf7.s
    obtain ⟨hz1, hz2, g1, g3, g4, g5, g6, g9, g11, g12⟩ := hf7
    rw [hg7] at g1 g3 g4 g5 g6 g9 g11 g12
    clear hz1 hz2
    subst e7
    clear hg7
    rw [g1, g3, g4, g5, g6, g9, g11, g12]
    clear g1 g3 g4 g5 g6 g9 g11 g12
    go_wp2
    refine loop4T (c3 := 0) (W := w5.drewN n6) (vl := .slice (some ⟨w3.heap.size, 0, none⟩) D[q].length D[q].length) (d := D[q]) hD hcD hP hcP hN hgc (HE5.out.later (drew_below _)) (HV5.out.drewN _) HO HM hm1 hm2 ?_ _ _ ⟨rfl, rfl, rfl, rfl, rfl, rfl, rfl, rfl, rfl, rfl⟩ rfl hb7
    clear hb7
    intro a8 w8 hf8 hb8
    obtain ⟨G8, hg8, e8⟩ := act371 a8 hf8.d hf8.s
    obtain ⟨hz1, hz2, g1, g3, g4, g5, g6, g9, g11, g12⟩ := hf8
    rw [hg8] at g1 g3 g4 g5 g6 g9 g11 g12
    clear hz1 hz2
    subst e8
    clear hg8
    rw [g1, g3, g4, g5, g6, g9, g11, g12]
    clear g1 g3 g4 g5 g6 g9 g11 g12
    go_wp2
    refine loop5T (c3 := 0) (W := w5.drewN n6) (vl := .slice (some ⟨w3.heap.size, 0, none⟩) D[q].length D[q].length) (d := D[q]) hD hcD hP hcP hN hgc (HE5.out.later (drew_below _)) (HV5.out.drewN _) HO HM hm1 hm2 ?_ _ _ ⟨rfl, rfl, rfl, rfl, rfl, rfl, rfl, rfl, rfl, rfl⟩ rfl hb8
    clear hb8
    intro a9 w9 hf9 hb9
    obtain ⟨G9, hg9, e9⟩ := act371 a9 hf9.d hf9.s
    obtain ⟨hz1, hz2, g1, g3, g4, g5, g6, g9, g11, g12⟩ := hf9
    rw [hg9] at g1 g3 g4 g5 g6 g9 g11 g12
    clear hz1 hz2
    subst e9
    clear hg9
    rw [g1, g3, g4, g5, g6, g9, g11, g12]
    clear g1 g3 g4 g5 g6 g9 g11 g12
    have hb59 : Below w5.heap.size w5 w9 := Below.after (drew_below n6) hb9
    have HE9 : Hid (Env B g (.slice (some ⟨b, off, none⟩) D.length c0) (.slice a1 P.length c1) f3 D P T (six ++ N) w9) := HE5.out.later hb59
    have HV9 : Hid (Ints w9 (.slice da D[q].length dc) D[q]) := HV5.out.later hb59
    have HX9 : Hid (Ints w9 (.slice xa D[q].length xc) D[q]) := HX5.out.later hb59
    have HS9 : Hid (Blk w9 w3.heap.size (stp D[q])) := HS5.out.later hb59 HS5.out.lt
    have HBL9 : Hid (Below w.heap.size w w9) := Below.after HBL5.out hb59
    have hbx9 := HE9.out.b0
    have hcx9 := cell_later hb59 hcx5
    have HBX9 : Hid (w9.cell? ⟨B, 0, none⟩ = some (.slice (some ⟨b, off, none⟩) D.length c0)) := hbx9
    have HCX9 : Hid (w9.cell? ⟨b, off + q, none⟩ = some (.slice xa D[q].length xc)) := hcx9
    clear hb59 hb9 hcx5
    go_wp2_with fail
    refine (eqn_to true HV9.out HX9.out (by simp)).mono ?_
    rintro e w10 ⟨rfl, n10, rfl⟩
    go_wp2_with fail
    refine (numbers_blk (B := w3.heap.size) (HS9.out.drewN n10) (stp_length _).symm hl2).mono ?_
    rintro e w11 ⟨rfl, hbut⟩
    have HBL11 : Hid (Below w.heap.size w w11) := hbut.below (Below.drewN HBL9.out n10) (by omega)
    have HV11 : Hid (Ints w11 (.slice da D[q].length dc) D[q]) := Ints.but hbut (HV9.out.drewN n10) (fun k hk => by have := HO2.out k hk; omega)
    have HX11 : Hid (Ints w11 (.slice xa D[q].length xc) D[q]) := Ints.but hbut (HX9.out.drewN n10) (fun k hk => by have := HO1.out k hk; omega)
    have hbx11 : w11.cell? ⟨B, 0, none⟩ = some (.slice (some ⟨b, off, none⟩) D.length c0) := (hbut.cell (by have := HB1.out; simp; omega)).trans HBX9.out
    have hcx11 : w11.cell? ⟨b, off + q, none⟩ = some (.slice xa D[q].length xc) := (hbut.cell (by have := Hb1.out; simp; omega)).trans HCX9.out
    clear hbut hbx9 hcx9
    go_wp2_with fail
    refine (eqn_to true HV11.out HX11.out (by simp)).mono ?_
    rintro e w12 ⟨rfl, n12, rfl⟩
    go_wp2
    refine HEND.out _ _ ⟨rfl, rfl, rfl, rfl, ?_⟩ (Below.drewN HBL11.out n12)
    show Value.int .i64 _ = _
    go_num
  · intro J K' hJ hK'
    have HJ : Hid _ := hJ
    have HK' : Hid _ := hK'
    clear hJ hK'
    go_region_held3 (fun w' => w'.cell? ⟨B, 0, none⟩ = some (.slice (some ⟨b, off, none⟩) D.length c0) ∧ w'.cell? ⟨b, off + q, none⟩ = some (.slice xa D[q].length xc)) (refine ⟨?_, ?_⟩ <;> first | assumption | exact hbx4 | exact hcx4)
      (first
        | (go_at_call 12; refine (rcells_at HX4.out HO.out ?_).mono ?_; exact (by first | exact HQ.out | exact (Below.refl _ _).drew); rw [HM.out]; rintro e w' ⟨rfl, rfl⟩)
        | (go_at_call 13; refine (rsteps_at HX4.out HO.out (Below.refl _ _).drew).mono ?_; rintro e w' ⟨B', rfl, hk, hq⟩; have hbx5 := cell_later hq hbx4; have hcx5 := cell_later hq hcx4; have HQ : Hid (Below w4.heap.size w4 w') := hq; have HK : Hid (Blk w' B' (stp D[q])) := hk; clear hq hk))
    all_goals
      refine HK'.out _ _ (Met.intro (HJ.out _ _ ⟨⟨rfl, rfl, rfl, rfl, rfl, rfl, rfl, rfl, rfl, rfl⟩, rfl, rfl, rfl, ⟨_, rfl, HK.out⟩, HQ.out⟩))
end Go.Proofs.Ythkmcjniibohkaa
