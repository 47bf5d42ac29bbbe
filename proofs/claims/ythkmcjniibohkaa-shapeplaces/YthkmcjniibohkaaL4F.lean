/- ShapePlaces, dims that may not be: its loop over numbers. -/
import Derived.Test.YthkmcjniibohkaaAct
namespace Go.Proofs.Ythkmcjniibohkaa
set_option linter.unusedVariables false
set_option linter.unusedSimpArgs false
open Go.RowKit

set_option maxRecDepth 1000000 in
set_option maxHeartbeats 4000000 in
theorem loop4F {B g gcap q c0 c1 c3 : Nat} {f3 vd vl : Value} {a0 a1 : Option Addr} {D P : List (List Int)} {T : List (List Int × List Int)} {N d : List Int} {W : World} {Q : Exit → Act → World → Prop}
    (hD : D.length ≤ 17592186044416) (hcD : D.length ≤ c0) (hP : P.length ≤ 17592186044416) (hcP : P.length ≤ c1) (hN : N.length ≤ 17592186043904) (hgc : 6 + N.length ≤ gcap)
    (HE : Hid (Env B g (.slice a0 D.length c0) (.slice a1 P.length c1) f3 D P T (six ++ N) W)) (HV : Hid (Ints W vd d)) (HO : Hid (okd d = false))
    (hexit : ∀ a' w', Fr B g gcap (6 + N.length) q vd vl false 1 0 a' → Below W.heap.size W w' → Q (.exit 6) a' w')
    (a : Act) (w : World) (ha : Fr B g gcap (6 + N.length) q vd vl false 1 0 a) (hs : a.tmps.getD 21 undef = .int .i64 0) (hb : Below W.heap.size W w) :
    Code.wp Try.prog (.loop (((Try.f3.body.map loopsIn).getD []).getD 3 .skip)) Q a w := by
  refine wp_loop (fun a' w' => Fr B g gcap (6 + N.length) q vd vl false 1 0 a' ∧ (∃ k : Nat, k ≤ 6 + N.length ∧ k ≤ 12 ∧ a'.tmps.getD 21 undef = .int .i64 k) ∧ Below W.heap.size W w') (fun a' _ => 12 - slotNat a' 21) ⟨ha, ⟨0, by omega, by omega, hs⟩, hb⟩ ?_
  clear hs ha hb
  clear a w
  intro a w ⟨hf, ⟨k, hk, hk6, hs⟩, hb⟩
  obtain ⟨G, hg, e⟩ := act371 a hf.d hf.s
  obtain ⟨hz1, hz2, g1, g3, g4, g5, g6, g9, g11, g12⟩ := hf
  rw [hg] at g1 g3 g4 g5 g6 g9 g11 g12 hs
  clear hz1 hz2
  subst e
  clear hg
  rw [g1, g3, g4, g5, g6, g9, g11, g12, hs]
  have HEX : Hid (∀ a' w', Fr B g gcap (6 + N.length) q vd vl false 1 0 a' → Below W.heap.size W w' → Q (.exit 6) a' w') := hexit
  have HB : Hid (Below W.heap.size W w) := hb
  have HEW := HE.out.later hb
  clear hexit hb g1 g3 g4 g5 g6 g9 g11 g12 hs
  conv => arg 2; whnf
  by_cases hlt : k < 6 + N.length
  · by_cases hlt6 : k < 12
    · have hns := HEW.ns k (by simp [six]; omega)
      generalize (six ++ N)[k]'(by simp [six]; omega) = x at hns
      have HV1 : Hid (Ints w vd d) := HV.out.later HB.out
      have HW : Hid (wok d x = false) := by show _ = _; simp [wok, HO.out]
      clear HEW
      go_wp2_with fail
      refine (where_bad _ HV1.out HW.out).mono ?_
      rintro e w2 ⟨rfl, hb2⟩
      replace hns := cell_later hb2 hns
      have HV2 : Hid (Ints w2 vd d) := HV1.out.later hb2
      have HB2 : Hid (Below W.heap.size W w2) := Below.after HB.out hb2
      clear hb2 HV1
      go_wp2_with fail
      refine (fill_bad _ HV2.out HO.out).mono ?_
      rintro e w3 ⟨rfl, hb3⟩
      have HB3 : Hid (Below W.heap.size W w3) := Below.after HB2.out hb3
      have hbb : Below w3.heap.size w3 ((w3.alloc (.cells #[.slice none 0 0, .slice none 0 0] 44)).alloc (.cells #[.slice none 0 0, .slice none 0 0] 44)) := ((Below.refl _ _).alloc (Nat.le_refl _) _).alloc (by simp) _
      have HBB : Hid (Below W.heap.size W ((w3.alloc (.cells #[.slice none 0 0, .slice none 0 0] 44)).alloc (.cells #[.slice none 0 0, .slice none 0 0] 44))) := Below.after HB3.out hbb
      clear hb3 HV2 hbb
      go_wp2_with (go_at_call 14; refine (num_any _ _).mono ?_; rintro e w' ⟨rfl, rfl⟩)
      refine (eqn_any (Ints.nil _) (Ints.nil _)).mono ?_
      rw [beq_self_eq_true]
      rintro e w4 ⟨rfl, nn, rfl⟩
      go_wp2_with (go_at_call 14; refine (num_any _ _).mono ?_; rintro e w' ⟨rfl, rfl⟩)
      refine (eqt_true (Ints.nil _) (Ints.nil _) (Ints.nil _) (Ints.nil _)).mono ?_
      rintro e w5 ⟨rfl, hb5⟩
      have HB5 : Hid (Below W.heap.size W w5) := Below.after (Below.drewN HBB.out nn) hb5
      clear hb5
      go_wp2
      refine ⟨⟨⟨rfl, rfl, rfl, rfl, rfl, rfl, rfl, rfl, rfl, rfl⟩, ⟨k + 1, by omega, by omega, ?_⟩, HB5.out⟩, ?_⟩
      · show Value.int .i64 _ = _
        go_num
      · show 12 - (intOf (Value.int .i64 _)).toNat < 12 - (intOf (Value.int .i64 _)).toNat
        simp [intOf]
        omega
    · go_wp2
      exact HEX.out _ _ ⟨rfl, rfl, rfl, rfl, rfl, rfl, rfl, rfl, rfl, rfl⟩ HB.out
  · go_wp2
    exact HEX.out _ _ ⟨rfl, rfl, rfl, rfl, rfl, rfl, rfl, rfl, rfl, rfl⟩ HB.out

end Go.Proofs.Ythkmcjniibohkaa
