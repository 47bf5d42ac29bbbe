/- ShapePlaces, dims that may not be: its loop over places. -/
import Derived.Test.YthkmcjniibohkaaAct
namespace Go.Proofs.Ythkmcjniibohkaa
set_option linter.unusedVariables false
set_option linter.unusedSimpArgs false
open Go.RowKit

set_option maxRecDepth 1000000 in
set_option maxHeartbeats 4000000 in
theorem loop2F {B g gcap q c0 c1 c3 : Nat} {f0 f3 vd vl : Value} {a1 : Option Addr} {D P : List (List Int)} {T : List (List Int × List Int)} {N d : List Int} {W : World} {Q : Exit → Act → World → Prop}
    (hP : P.length ≤ 17592186044416) (hcP : P.length ≤ c1)
    (HE : Hid (Env B g f0 (.slice a1 P.length c1) f3 D P T (six ++ N) W)) (HV : Hid (Ints W vd d)) (HO : Hid (okd d = false))
    (hexit : ∀ a' w', Fr B g gcap (6 + N.length) q vd vl false 1 0 a' → Below W.heap.size W w' → Q (.exit 2) a' w')
    (a : Act) (w : World) (ha : Fr B g gcap (6 + N.length) q vd vl false 1 0 a) (h14 : a.tmps.getD 14 undef = .int .i64 0) (hb : Below W.heap.size W w) :
    Code.wp Try.prog (.loop (((Try.f3.body.map loopsIn).getD []).getD 1 .skip)) Q a w := by
  refine wp_loop (fun a' w' => Fr B g gcap (6 + N.length) q vd vl false 1 0 a' ∧ (∃ k : Nat, k ≤ P.length ∧ k ≤ 6 ∧ a'.tmps.getD 14 undef = .int .i64 k) ∧ Below W.heap.size W w') (fun a' _ => 6 - slotNat a' 14) ⟨ha, ⟨0, by omega, by omega, h14⟩, hb⟩ ?_
  clear h14 ha hb
  clear a w
  intro a w ⟨hf, ⟨k, hk, hk6, h14⟩, hb⟩
  obtain ⟨G, hg, e⟩ := act371 a hf.d hf.s
  obtain ⟨hz1, hz2, g1, g3, g4, g5, g6, g9, g11, g12⟩ := hf
  rw [hg] at g1 g3 g4 g5 g6 g9 g11 g12 h14
  clear hz1 hz2
  subst e
  clear hg
  rw [g1, g3, g4, g5, g6, g9, g11, g12, h14]
  have HEX : Hid (∀ a' w', Fr B g gcap (6 + N.length) q vd vl false 1 0 a' → Below W.heap.size W w' → Q (.exit 2) a' w') := hexit
  have HB : Hid (Below W.heap.size W w) := hb
  have HEW := HE.out.later hb
  have hb1 := HEW.b1
  clear hexit hb g1 g3 g4 g5 g6 g9 g11 g12 h14
  conv => arg 2; whnf
  by_cases hlt : k < P.length
  · by_cases hlt6 : k < 6
    · obtain ⟨pb, pof, ya, yc, rfl, hcy, HY⟩ := HEW.hP.row k hlt
      have HV1 : Hid (Ints w vd d) := HV.out.later HB.out
      clear HEW
      go_wp2_with fail
      refine (at_no HV1.out HO.out).mono ?_
      rintro e w' ⟨rfl, rfl⟩
      obtain ⟨da, dc, rfl⟩ := HV1.out.shape
      go_wp2
      refine wp_loop_rounds 1 ?_
      rw [rounds_succ]
      go_wp2_with (go_at_call 14; refine (num_any _ _).mono ?_; rintro e w' ⟨rfl, rfl⟩)
      all_goals
        refine ⟨⟨⟨rfl, rfl, rfl, rfl, rfl, rfl, rfl, rfl, rfl, rfl⟩, ⟨k + 1, by omega, by omega, ?_⟩, HB.out⟩, ?_⟩
        · show Value.int .i64 _ = _
          go_num
        · show 6 - (intOf (Value.int .i64 _)).toNat < 6 - (intOf (Value.int .i64 _)).toNat
          simp [intOf]
          omega
    · go_wp2
      exact HEX.out _ _ ⟨rfl, rfl, rfl, rfl, rfl, rfl, rfl, rfl, rfl, rfl⟩ HB.out
  · go_wp2
    exact HEX.out _ _ ⟨rfl, rfl, rfl, rfl, rfl, rfl, rfl, rfl, rfl, rfl⟩ HB.out
end Go.Proofs.Ythkmcjniibohkaa
