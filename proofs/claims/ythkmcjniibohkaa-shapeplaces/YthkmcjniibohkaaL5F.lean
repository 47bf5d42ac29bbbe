/- ShapePlaces, dims that may not be: its loop over other dims. -/
import Derived.Test.YthkmcjniibohkaaAct
namespace Go.Proofs.Ythkmcjniibohkaa
set_option linter.unusedVariables false
set_option linter.unusedSimpArgs false
open Go.RowKit

set_option maxRecDepth 1000000 in
set_option maxHeartbeats 4000000 in
theorem loop5F {B g gcap q c0 c1 c3 : Nat} {f3 vd vl : Value} {a0 a1 : Option Addr} {D P : List (List Int)} {T : List (List Int × List Int)} {N d : List Int} {W : World} {Q : Exit → Act → World → Prop}
    (hD : D.length ≤ 17592186044416) (hcD : D.length ≤ c0) (hP : P.length ≤ 17592186044416) (hcP : P.length ≤ c1) (hN : N.length ≤ 17592186043904) (hgc : 6 + N.length ≤ gcap)
    (HE : Hid (Env B g (.slice a0 D.length c0) (.slice a1 P.length c1) f3 D P T (six ++ N) W)) (HV : Hid (Ints W vd d)) (HO : Hid (okd d = false))
    (hexit : ∀ a' w', Fr B g gcap (6 + N.length) q vd vl false 1 0 a' → Below W.heap.size W w' → Q (.exit 8) a' w')
    (a : Act) (w : World) (ha : Fr B g gcap (6 + N.length) q vd vl false 1 0 a) (hs : a.tmps.getD 29 undef = .int .i64 0) (hb : Below W.heap.size W w) :
    Code.wp Try.prog (.loop (((Try.f3.body.map loopsIn).getD []).getD 4 .skip)) Q a w := by
  refine wp_loop (fun a' w' => Fr B g gcap (6 + N.length) q vd vl false 1 0 a' ∧ (∃ k : Nat, k ≤ D.length ∧ k ≤ 6 ∧ a'.tmps.getD 29 undef = .int .i64 k) ∧ Below W.heap.size W w') (fun a' _ => 6 - slotNat a' 29) ⟨ha, ⟨0, by omega, by omega, hs⟩, hb⟩ ?_
  clear hs ha hb
  clear a w
  intro a w ⟨hf, ⟨k, hk, hk6, hs⟩, hb⟩
  obtain ⟨G, hg, e⟩ := act371 a hf.d hf.s
  obtain ⟨hz1, hz2, g1, g3, g4, g5, g6, g9, g11, g12⟩ := hf
  rw [hg] at g1 g3 g4 g5 g6 g9 g11 g12 hs
  clear hz1 hz2
  subst e
  clear hg
  rw [g1, g3, g4, g5, g6, g9, g11, g12, hs]
  have HEX : Hid (∀ a' w', Fr B g gcap (6 + N.length) q vd vl false 1 0 a' → Below W.heap.size W w' → Q (.exit 8) a' w') := hexit
  have HB : Hid (Below W.heap.size W w) := hb
  have HEW := HE.out.later hb
  clear hexit hb g1 g3 g4 g5 g6 g9 g11 g12 hs
  conv => arg 2; whnf
  by_cases hlt : k < D.length
  · by_cases hlt6 : k < 6
    · have hb0 := HEW.b0
      obtain ⟨rb, rof, ya, yc, rfl, hcy, HY⟩ := HEW.hD.row k hlt
      have HV1 : Hid (Ints w vd d) := HV.out.later HB.out
      have F1 : Hid (smB d D[k] = false) := by show _ = _; simp [smB, HO.out]
      have F2 : Hid (smE d D[k] = 1) := by show _ = _; simp [smE, HO.out]
      have F3 : Hid ((okd d && okd D[k]) = false) := by show _ = _; simp [HO.out]
      clear HEW
      go_wp2_with fail
      refine (same_to false 1 HV1.out HY.out F1.out F2.out).mono ?_
      rintro e w' ⟨rfl, rfl⟩
      go_wp2_with fail
      refine (wider_bad HV1.out HY.out F3.out).mono ?_
      rintro e w' ⟨rfl, rfl⟩
      go_wp2_with (go_at_call 14; refine (num_any _ _).mono ?_; rintro e w' ⟨rfl, rfl⟩)
      refine ⟨⟨⟨rfl, rfl, rfl, rfl, rfl, rfl, rfl, rfl, rfl, rfl⟩, ⟨k + 1, by omega, by omega, ?_⟩, HB.out⟩, ?_⟩
      · show Value.int .i64 _ = _
        go_num
      · show 6 - (intOf (Value.int .i64 _)).toNat < 6 - (intOf (Value.int .i64 _)).toNat
        simp [intOf]
        omega
    · have hb0 := HEW.b0
      clear HEW
      go_wp2
      exact HEX.out _ _ ⟨rfl, rfl, rfl, rfl, rfl, rfl, rfl, rfl, rfl, rfl⟩ HB.out
  · have hb0 := HEW.b0
    clear HEW
    go_wp2
    exact HEX.out _ _ ⟨rfl, rfl, rfl, rfl, rfl, rfl, rfl, rfl, rfl, rfl⟩ HB.out

end Go.Proofs.Ythkmcjniibohkaa
