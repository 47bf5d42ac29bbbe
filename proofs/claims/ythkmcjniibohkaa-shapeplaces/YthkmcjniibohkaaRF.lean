/- ShapePlaces: a round over dims that may not be. -/
import Derived.Test.YthkmcjniibohkaaL2F
import Derived.Test.YthkmcjniibohkaaL4F
import Derived.Test.YthkmcjniibohkaaL5F
import Derived.Deep.DeepCutAuto
namespace Go.Proofs.Ythkmcjniibohkaa
set_option linter.unusedVariables false
set_option linter.unusedSimpArgs false
open Go.RowKit
set_option maxRecDepth 1000000 in
set_option maxHeartbeats 8000000 in
theorem roundF {B g gcap q c0 c1 c3 b off xc : Nat} {f3 : Value} {a1 xa : Option Addr} {D P : List (List Int)} {T : List (List Int × List Int)} {N : List Int} {w : World} {Q : Exit → Act → World → Prop} {G : Nat → Value}
    (hD : D.length ≤ 17592186044416) (hcD : D.length ≤ c0) (hP : P.length ≤ 17592186044416) (hcP : P.length ≤ c1) (hN : N.length ≤ 17592186043904) (hgc : 6 + N.length ≤ gcap) (hlt : q < D.length) (hlt6 : q < 6)
    (HE : Hid (Env B g (.slice (some ⟨b, off, none⟩) D.length c0) (.slice a1 P.length c1) f3 D P T (six ++ N) w)) (hcx : w.cell? ⟨b, off + q, none⟩ = some (.slice xa D[q].length xc)) (HIX : Hid (Ints w (.slice xa D[q].length xc) D[q])) (HO : Hid (okd D[q] = false))
    (HEND : Hid (∀ a' w', Fr0 B g gcap (6 + N.length) (q + 1) a' → Below w.heap.size w w' → Q .normal a' w'))
    (a : Act) (ha : Fr0 B g gcap (6 + N.length) q a) :
    Code.wp Try.prog (((Try.f3.body.map loopsIn).getD []).getD 0 .skip) Q a w := by
  obtain ⟨G, hg, e⟩ := act371 a ha.d ha.s
  obtain ⟨hz1, hz2, g1, g3, g4⟩ := ha
  rw [hg] at g1 g3 g4
  clear hz1 hz2
  subst e
  clear hg
  rw [g1, g3, g4]
  clear g1 g3 g4
  conv => arg 2; whnf
  have hbx0 := HE.out.b0
  go_wp2_with fail
  refine (copy_any HIX.out).mono ?_
  rintro e w2 ⟨v2, rfl, hi2, _, hb2⟩
  obtain ⟨da, dc, rfl⟩ := hi2.shape
  have HV2 : Hid (Ints w2 (.slice da D[q].length dc) D[q]) := hi2
  have HX2 : Hid (Ints w2 (.slice xa D[q].length xc) D[q]) := HIX.out.later hb2
  have HE2 : Hid (Env B g (.slice (some ⟨b, off, none⟩) D.length c0) (.slice a1 P.length c1) f3 D P T (six ++ N) w2) := HE.out.later hb2
  have HBL2 : Hid (Below w.heap.size w w2) := hb2
  have hbx2 := HE2.out.b0
  have hcx2 := cell_later hb2 hcx
  have HCX2 : Hid (w2.cell? ⟨b, off + q, none⟩ = some (.slice xa D[q].length xc)) := hcx2
  clear hb2 hi2 hbx0 hcx
  go_wp2_with fail
  refine (rdims_to false HX2.out HO.out).mono ?_
  rintro e w' ⟨rfl, rfl⟩
  go_wp2_with fail
  refine (cells_bad HV2.out HO.out).mono ?_
  rintro e w' ⟨rfl, rfl⟩
  go_wp2_with fail
  refine (steps_bad HV2.out HO.out).mono ?_
  rintro e w' ⟨rfl, rfl⟩
  go_wp2_with fail
  refine (check_any HV2.out).mono ?_
  rw [erf_bad HO.out]
  rintro e w' ⟨rfl, rfl⟩
  go_wp2_with (go_at_call 14; refine (num_any _ _).mono ?_; rintro e w' ⟨rfl, rfl⟩)
  refine (eqn_to true (Ints.nil _) (Ints.nil _) (by simp)).mono ?_
  rintro e w6 ⟨rfl, n6, rfl⟩
  go_wp2
  refine loop2F (c0 := 0) (c3 := 0) (W := w2.drewN n6) (vl := .slice none 0 0) (d := D[q]) hP hcP (HE2.out.later (drew_below _)) (HV2.out.drewN _) HO ?_ _ _ ⟨rfl, rfl, rfl, rfl, rfl, rfl, rfl, rfl, rfl, rfl⟩ rfl (Below.refl _ _)
  intro a7 w7 hf7 hb7
  obtain ⟨G7, hg7, e7⟩ := act371 a7 hf7.d hf7.s
  obtain ⟨hz1, hz2, g1, g3, g4, g5, g6, g9, g11, g12⟩ := hf7
  rw [hg7] at g1 g3 g4 g5 g6 g9 g11 g12
  clear hz1 hz2
  subst e7
  clear hg7
  rw [g1, g3, g4, g5, g6, g9, g11, g12]
  clear g1 g3 g4 g5 g6 g9 g11 g12
  go_wp2
  refine loop4F (c3 := 0) (W := w2.drewN n6) (vl := .slice none 0 0) (d := D[q]) hD hcD hP hcP hN hgc (HE2.out.later (drew_below _)) (HV2.out.drewN _) HO ?_ _ _ ⟨rfl, rfl, rfl, rfl, rfl, rfl, rfl, rfl, rfl, rfl⟩ rfl hb7
  clear hb7
  intro a8 w8 hf8 hb8
  obtain ⟨G8, hg8, e8⟩ := act371 a8 hf8.d hf8.s
  obtain ⟨hz1, hz2, g1, g3, g4, g5, g6, g9, g11, g12⟩ := hf8
  rw [hg8] at g1 g3 g4 g5 g6 g9 g11 g12
  clear hz1 hz2
  subst e8
  clear hg8
  rw [g1, g3, g4, g5, g6, g9, g11, g12]
  clear g1 g3 g4 g5 g6 g9 g11 g12
  go_wp2
  refine loop5F (c3 := 0) (W := w2.drewN n6) (vl := .slice none 0 0) (d := D[q]) hD hcD hP hcP hN hgc (HE2.out.later (drew_below _)) (HV2.out.drewN _) HO ?_ _ _ ⟨rfl, rfl, rfl, rfl, rfl, rfl, rfl, rfl, rfl, rfl⟩ rfl hb8
  clear hb8
  intro a9 w9 hf9 hb9
  obtain ⟨G9, hg9, e9⟩ := act371 a9 hf9.d hf9.s
  obtain ⟨hz1, hz2, g1, g3, g4, g5, g6, g9, g11, g12⟩ := hf9
  rw [hg9] at g1 g3 g4 g5 g6 g9 g11 g12
  clear hz1 hz2
  subst e9
  clear hg9
  rw [g1, g3, g4, g5, g6, g9, g11, g12]
  clear g1 g3 g4 g5 g6 g9 g11 g12
  have hb59 : Below w2.heap.size w2 w9 := Below.after (drew_below n6) hb9
  have HE9 : Hid (Env B g (.slice (some ⟨b, off, none⟩) D.length c0) (.slice a1 P.length c1) f3 D P T (six ++ N) w9) := HE2.out.later hb59
  have HV9 : Hid (Ints w9 (.slice da D[q].length dc) D[q]) := HV2.out.later hb59
  have HX9 : Hid (Ints w9 (.slice xa D[q].length xc) D[q]) := HX2.out.later hb59
  have HBL9 : Hid (Below w.heap.size w w9) := Below.after HBL2.out hb59
  have hbx9 := HE9.out.b0
  have hcx9 := cell_later hb59 HCX2.out
  clear hb59 hb9 hbx2 hcx2
  go_wp2_with fail
  refine (eqn_to true HV9.out HX9.out (by simp)).mono ?_
  rintro e w10 ⟨rfl, n10, rfl⟩
  go_wp2_with fail
  refine numbers_nil.mono ?_
  rintro e w11 ⟨rfl, rfl⟩
  go_wp2_with fail
  refine (eqn_to true (HV9.out.drewN n10) (HX9.out.drewN n10) (by simp)).mono ?_
  rintro e w12 ⟨rfl, n12, rfl⟩
  go_wp2
  refine HEND.out _ _ ⟨rfl, rfl, rfl, rfl, ?_⟩ (by first | exact Below.drewN HBL9.out _ | exact Below.drewN (Below.drewN HBL9.out _) _)
  show Value.int .i64 _ = _
  go_num
end Go.Proofs.Ythkmcjniibohkaa
