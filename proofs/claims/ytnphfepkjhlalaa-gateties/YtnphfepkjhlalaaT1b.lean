/- GateTies: its check loop. -/
import Derived.Test.YtnphfepkjhlalaaT1
namespace Go.Proofs.Ytnphfepkjhlalaa
set_option linter.unusedVariables false
set_option linter.unusedSimpArgs false
open Go.RowKit

structure FrC (B X n k i : Nat) (a : Act) : Prop where
  d : a.defers = []
  s : a.tmps.size = 114
  f1 : a.tmps.getD 1 undef = .pointer (some ⟨B, 0, none⟩)
  f3 : a.tmps.getD 3 undef = .int .i64 n
  f4 : a.tmps.getD 4 undef = .int .i64 k
  f10 : a.tmps.getD 10 undef = .pointer (some ⟨X, 0, none⟩)
  f12 : a.tmps.getD 12 undef = .int .i64 i
set_option maxRecDepth 1000000 in
set_option maxHeartbeats 4000000 in
theorem tloop4 {B X xb xo xc n k M : Nat} {W : World} {Q : Exit → Act → World → Prop}
    (hn1 : 1 ≤ n) (hn8 : n ≤ 8) (hk : k < n) (hM : M = 2 * n) (hxc : M ≤ xc)
    (hx : W.cell? ⟨X, 1, none⟩ = some (.slice (some ⟨xb, xo, none⟩) M xc)) (HC : Hid (∀ i, i < M → W.cell? ⟨xb, xo + i, none⟩ = some (.int .i64 (tyG n k i))))
    (hexit : ∀ a' i, FrC B X n k i a' → Q (.exit 6) a' W)
    (a : Act) (ha : FrC B X n k 0 a) :
    Code.wp Try.prog (.loop (((Try.f5.body.map loopsIn).getD []).getD 3 .skip)) Q a W := by
  refine wp_loop (fun a' w' => ∃ i : Nat, i ≤ M ∧ FrC B X n k i a' ∧ w' = W) (fun a' _ => M - slotNat a' 12) ⟨0, by omega, ha, rfl⟩ ?_
  clear ha
  clear a
  intro a w ⟨i, hi, hf, hw⟩
  subst w
  obtain ⟨G, hg, e⟩ := act114 a hf.d hf.s
  obtain ⟨hz1, hz2, g1, g3, g4, g10, g12⟩ := hf
  rw [hg] at g1 g3 g4 g10 g12
  clear hz1 hz2
  subst e
  clear hg
  rw [g1, g3, g4, g10, g12]
  clear g1 g3 g4 g10 g12
  have HEX : Hid (∀ a' i, FrC B X n k i a' → Q (.exit 6) a' W) := hexit
  clear hexit
  have hM2 : (2 : Int) * (n : Int) = (M : Int) := by omega
  have hM16 : M ≤ 16 := by omega
  have HMM : Hid (M = 2 * n) := hM
  clear hM
  conv => arg 2; whnf
  by_cases hlt : i < M
  · obtain ⟨r, hr⟩ : ∃ r, i % n = r := ⟨_, rfl⟩
    obtain ⟨q, hq⟩ : ∃ q, i / n = q := ⟨_, rfl⟩
    have hv := HC.out i hlt
    rw [tyG, hr, hq] at hv
    have hr2 : (i : Int) % (n : Int) = (r : Int) := by rw [← hr]; simp
    have hq2 : (i : Int) / (n : Int) = (q : Int) := by rw [← hq]; simp
    have hrn : r < n := by rw [← hr]; exact Nat.mod_lt _ hn1
    have hqn : q < 2 := by rw [← hq]; exact div2 (by rw [← HMM.out]; exact hlt)
    have hn0 : ¬ (n : Int) = 0 := by omega
    have z1 : (0 : Int) ≤ (i : Int) := by omega
    have z2 : (i : Int) < M := by omega
    clear hr hq
    by_cases hkr : r = k
    · subst hkr
      rw [if_pos rfl] at hv
      go_wp2
      refine ⟨⟨i + 1, by omega, ⟨rfl, rfl, rfl, rfl, rfl, rfl, ?_⟩, trivial⟩, ?_⟩
      · show Value.int .i64 _ = _
        go_num
      · show M - (intOf (Value.int .i64 _)).toNat < M - (intOf (Value.int .i64 _)).toNat
        simp [intOf]
        omega
    · rw [if_neg hkr] at hv
      have hkr2 : ¬ (r : Int) = (k : Int) := by omega
      go_wp2
      refine ⟨⟨i + 1, by omega, ⟨rfl, rfl, rfl, rfl, rfl, rfl, ?_⟩, trivial⟩, ?_⟩
      · show Value.int .i64 _ = _
        go_num
      · show M - (intOf (Value.int .i64 _)).toNat < M - (intOf (Value.int .i64 _)).toNat
        simp [intOf]
        omega
  · go_wp2
    exact HEX.out _ i ⟨rfl, rfl, rfl, rfl, rfl, rfl, rfl⟩
end Go.Proofs.Ytnphfepkjhlalaa
