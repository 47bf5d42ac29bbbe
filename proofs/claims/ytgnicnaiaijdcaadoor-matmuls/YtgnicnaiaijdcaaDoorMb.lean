/- MatMuls: its loop around the pairs. -/
import Derived.Test.YtgnicnaiaijdcaaDoorMa
namespace Go.Proofs.YtgnicnaiaijdcaaDoor
set_option linter.unusedVariables false
set_option linter.unusedSimpArgs false
open Go.RowKit

structure FrB (B i : Nat) (a : Act) : Prop where
  d : a.defers = []
  s : a.tmps.size = 235
  f1 : a.tmps.getD 1 undef = .pointer (some ⟨B, 0, none⟩)
  f3 : a.tmps.getD 3 undef = .int .i64 i

set_option maxRecDepth 1000000 in
set_option maxHeartbeats 8000000 in
theorem mloop1 {B c0 : Nat} {f : Option Addr} {f1 : Value} {T : List Ten} {L : List Int} {W : World} {Q : Exit → Act → World → Prop}
    (hcT : T.length ≤ c0) (hT0 : T.length ≤ 17592186044416)
    (HE : Hid (EnvM B (.slice f T.length c0) f1 T L W))
    (hexit : ∀ a' w' i, FrB B i a' → Below W.heap.size W w' → Q (.exit 0) a' w')
    (a : Act) (w : World) (ha : FrB B 0 a) (hb : Below W.heap.size W w) :
    Code.wp Tryd.prog (.loop (((Tryd.f3.body.map loopsIn).getD []).getD 0 .skip)) Q a w := by
  refine wp_loop (fun a' w' => (∃ i : Nat, i ≤ T.length ∧ i ≤ 6 ∧ FrB B i a') ∧ Below W.heap.size W w') (fun a' _ => 6 - slotNat a' 3) ⟨⟨0, by omega, by omega, ha⟩, hb⟩ ?_
  clear ha hb
  clear a w
  intro a w ⟨⟨i, hi, hi6, hf⟩, hb⟩
  obtain ⟨G, hg, e⟩ := act235 a hf.d hf.s
  obtain ⟨hz1, hz2, g1, g3⟩ := hf
  rw [hg] at g1 g3
  clear hz1 hz2
  subst e
  clear hg
  rw [g1, g3]
  clear g1 g3
  have HEX : Hid (∀ a' w' i, FrB B i a' → Below W.heap.size W w' → Q (.exit 0) a' w') := hexit
  have HB : Hid (Below W.heap.size W w) := hb
  have HEW : Hid (EnvM B (.slice f T.length c0) f1 T L w) := HE.out.later hb
  clear hexit hb
  have hbx := HEW.out.b0
  conv => arg 2; whnf
  by_cases hlt : i < T.length
  · by_cases hlt6 : i < 6
    · go_wp2
      refine mloop2 (W := w) hlt hcT hT0 HEW ?_ _ _ ⟨rfl, rfl, rfl, rfl, rfl⟩ (Below.refl _ _)
      intro a1 w1 k hf1 hb1
      obtain ⟨G1, hg1, e1⟩ := act235 a1 hf1.d hf1.s
      obtain ⟨hz1, hz2, g1, g3, g4⟩ := hf1
      rw [hg1] at g1 g3 g4
      clear hz1 hz2
      subst e1
      clear hg1
      rw [g1, g3, g4]
      clear g1 g3 g4
      have HB1 : Hid (Below W.heap.size W w1) := Below.after HB.out hb1
      clear hb1 hbx
      go_wp2
      refine ⟨⟨⟨i + 1, by omega, by omega, rfl, rfl, rfl, ?_⟩, HB1.out⟩, ?_⟩
      · show Value.int .i64 _ = _
        go_num
      · show 6 - (intOf (Value.int .i64 _)).toNat < 6 - (intOf (Value.int .i64 _)).toNat
        simp [intOf]
        omega
    · go_wp2
      exact HEX.out _ _ i ⟨rfl, rfl, rfl, rfl⟩ HB.out
  · go_wp2
    exact HEX.out _ _ i ⟨rfl, rfl, rfl, rfl⟩ HB.out
end Go.Proofs.YtgnicnaiaijdcaaDoor
