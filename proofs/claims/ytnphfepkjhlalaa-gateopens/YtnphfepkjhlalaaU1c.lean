/- GateDots: its loop that looks back. -/
import Derived.Test.YtnphfepkjhlalaaU1
namespace Go.Proofs.Ytnphfepkjhlalaa
set_option linter.unusedVariables false
set_option linter.unusedSimpArgs false
open Go.RowKit

structure FrU5 (B i Ba n Bk k : Nat) (a : Act) : Prop where
  d : a.defers = []
  s : a.tmps.size = 249
  f1 : a.tmps.getD 1 undef = .pointer (some ⟨B, 0, none⟩)
  f3 : a.tmps.getD 3 undef = .int .i64 i
  f4 : a.tmps.getD 4 undef = .pointer (some ⟨Ba, 0, none⟩)
  f12 : a.tmps.getD 12 undef = .int .i64 n
  f23 : a.tmps.getD 23 undef = .pointer (some ⟨Bk, 0, none⟩)
  f25 : a.tmps.getD 25 undef = .int .i64 k
set_option maxRecDepth 1000000 in
set_option maxHeartbeats 8000000 in
theorem uloop5 {B i Ba n Bk m ab ao ac xb xo xc : Nat} {al xl : List Int} {W : World} {Q : Exit → Act → World → Prop}
    (hn64 : m ≤ 64) (hac : m ≤ ac) (hxc : m ≤ xc)
    (ca : W.cell? ⟨Ba, 1, none⟩ = some (.slice (some ⟨ab, ao, none⟩) m ac)) (cx : W.cell? ⟨Bk, 1, none⟩ = some (.slice (some ⟨xb, xo, none⟩) m xc))
    (HA : Hid (∀ k, k < m → W.cell? ⟨ab, ao + k, none⟩ = some (.int .i64 (al.getD k 0)))) (HX : Hid (∀ k, k < m → W.cell? ⟨xb, xo + k, none⟩ = some (.int .i64 (xl.getD k 0))))
    (HV : Hid (∀ k, k < m → xl.getD k 0 = 0 ∨ xl.getD k 0 = al.getD k 0))
    (hexit : ∀ a' w' k, FrU5 B i Ba n Bk k a' → Below W.heap.size W w' → Q (.exit 8) a' w')
    (a : Act) (ha : FrU5 B i Ba n Bk 0 a) :
    Code.wp Try.prog (.loop (((Try.f4.body.map loopsIn).getD []).getD 4 .skip)) Q a W := by
  refine wp_loop (fun a' w' => (∃ k : Nat, k ≤ m ∧ FrU5 B i Ba n Bk k a') ∧ Below W.heap.size W w') (fun a' _ => m - slotNat a' 25) ⟨⟨0, by omega, ha⟩, Below.refl _ _⟩ ?_
  clear ha
  clear a
  intro a w ⟨⟨k, hk, hf⟩, hb⟩
  obtain ⟨G, hg, e⟩ := act249 a hf.d hf.s
  obtain ⟨hz1, hz2, g1, g3, g4, g12, g23, g25⟩ := hf
  rw [hg] at g1 g3 g4 g12 g23 g25 
  clear hz1 hz2
  subst e
  clear hg
  rw [g1, g3, g4, g12, g23, g25]
  clear g1 g3 g4 g12 g23 g25
  have HEX : Hid (∀ a' w' k, FrU5 B i Ba n Bk k a' → Below W.heap.size W w' → Q (.exit 8) a' w') := hexit
  have HB : Hid (Below W.heap.size W w) := hb
  have c1 := cell_later hb ca
  have c2 := cell_later hb cx
  clear hexit hb ca cx
  conv => arg 2; whnf
  by_cases hlt : k < m
  · have d1 := cell_later HB.out (HA.out k hlt)
    have d2 := cell_later HB.out (HX.out k hlt)
    have hor := HV.out k hlt
    obtain ⟨v, hv⟩ : ∃ v, al.getD k 0 = v := ⟨_, rfl⟩
    obtain ⟨x, hx⟩ : ∃ v, xl.getD k 0 = v := ⟨_, rfl⟩
    rw [hv] at d1 hor
    rw [hx] at d2 hor
    clear hv hx
    have z0 : (0 : Int) ≤ (k : Int) := by omega
    have z1 : (k : Int) < m := by omega
    by_cases hp : x = 0
    · subst hp
      clear hor
      go_wp2_with fail
      go_quiet (fail)
      go_wp2
      refine ⟨⟨⟨k + 1, by omega, rfl, rfl, rfl, rfl, rfl, rfl, rfl, ?_⟩, Below.drewN HB.out _⟩, ?_⟩
      · show Value.int .i64 _ = _
        go_num
      · show m - (intOf (Value.int .i64 _)).toNat < m - (intOf (Value.int .i64 _)).toNat
        simp [intOf]
        omega
    · obtain rfl : x = v := hor.resolve_left hp
      clear hor
      have g1 : (x == 0) = false := by simp [hp]
      have g2 : decide (x = 0) = false := by simp [hp]
      go_wp2_with fail
      go_quiet (fail)
      go_wp2
      refine ⟨⟨⟨k + 1, by omega, rfl, rfl, rfl, rfl, rfl, rfl, rfl, ?_⟩, Below.drewN HB.out _⟩, ?_⟩
      · show Value.int .i64 _ = _
        go_num
      · show m - (intOf (Value.int .i64 _)).toNat < m - (intOf (Value.int .i64 _)).toNat
        simp [intOf]
        omega
  · go_wp2
    exact HEX.out _ _ k ⟨rfl, rfl, rfl, rfl, rfl, rfl, rfl, rfl⟩ HB.out
end Go.Proofs.Ytnphfepkjhlalaa
