/- GateTies: its fill loop. -/
import Derived.Test.YtnphfepkjhlalaaT1
namespace Go.Proofs.Ytnphfepkjhlalaa
set_option linter.unusedVariables false
set_option linter.unusedSimpArgs false
open Go.RowKit

structure FrF (B A n k j : Nat) (a : Act) : Prop where
  d : a.defers = []
  s : a.tmps.size = 114
  f1 : a.tmps.getD 1 undef = .pointer (some ⟨B, 0, none⟩)
  f3 : a.tmps.getD 3 undef = .int .i64 n
  f4 : a.tmps.getD 4 undef = .int .i64 k
  f5 : a.tmps.getD 5 undef = .pointer (some ⟨A, 0, none⟩)
  f6 : a.tmps.getD 6 undef = .int .i64 j
set_option maxRecDepth 1000000 in
set_option maxHeartbeats 4000000 in
theorem tloop3 {B A b n k M L c0 : Nat} {c : Int} {f : Option Addr} {dv : Value} {W : World} {Q : Exit → Act → World → Prop}
    (hn1 : 1 ≤ n) (hn8 : n ≤ 8) (hk : k < n) (hM : M = 2 * n) (hL : L ≤ 17592186044416) (hc : c = -9 - (L : Int)) (hBb : B ≠ b) (hAb : A ≠ b)
    (HBA : Hid (Box W A dv (.slice (some ⟨b, 0, none⟩) M M))) (HP : Hid (W.cell? ⟨B, 0, none⟩ = some (.slice f L c0)))
    (hexit : ∀ a' w' j, FrF B A n k j a' → Blk w' b (tyL n k c) → But b W w' → Q (.exit 4) a' w')
    (a : Act) (w : World) (ha : FrF B A n k 0 a) (hb : Blk w b (tyJ n k c 0)) (hu : But b W w) :
    Code.wp Try.prog (.loop (((Try.f5.body.map loopsIn).getD []).getD 2 .skip)) Q a w := by
  refine wp_loop (fun a' w' => ∃ j : Nat, j ≤ M ∧ FrF B A n k j a' ∧ Blk w' b (tyJ n k c j) ∧ But b W w') (fun a' _ => M - slotNat a' 6) ⟨0, by omega, ha, hb, hu⟩ ?_
  clear ha hb hu
  clear a w
  intro a w ⟨j, hj, hf, hb, hu⟩
  obtain ⟨G, hg, e⟩ := act114 a hf.d hf.s
  obtain ⟨hz1, hz2, g1, g3, g4, g5, g6⟩ := hf
  rw [hg] at g1 g3 g4 g5 g6
  clear hz1 hz2
  subst e
  clear hg
  rw [g1, g3, g4, g5, g6]
  clear g1 g3 g4 g5 g6
  have HEX : Hid (∀ a' w' j, FrF B A n k j a' → Blk w' b (tyL n k c) → But b W w' → Q (.exit 4) a' w') := hexit
  have HU : Hid (But b W w) := hu
  have HK : Hid (Blk w b (tyJ n k c j)) := hb
  clear hexit hb hu
  have hM2 : (2 : Int) * (n : Int) = (M : Int) := by omega
  have hM16 : M ≤ 16 := by omega
  have HMM : Hid (M = 2 * n) := hM
  clear hM
  conv => arg 2; whnf
  by_cases hlt : j < M
  · have v0 := (HU.out.box HBA.out hAb).c1
    have v1 : w.cell? ⟨B, 0, none⟩ = some (.slice f L c0) := (HU.out.cell (p := ⟨B, 0, none⟩) hBb).trans HP.out
    have hfz := HK.out.frozen j
    obtain ⟨xx, hcc⟩ : ∃ x, w.cell? ⟨b, j, none⟩ = some x := ⟨_, HK.out.cell j (by rw [tyJ_length, ← HMM.out]; exact hlt)⟩
    obtain ⟨r, hr⟩ : ∃ r, j % n = r := ⟨_, rfl⟩
    have hr2 : (j : Int) % (n : Int) = (r : Int) := by rw [← hr]; simp
    have hrn : r < n := by rw [← hr]; exact Nat.mod_lt _ hn1
    have hn0 : ¬ (n : Int) = 0 := by omega
    have z1 : (0 : Int) ≤ (j : Int) := by omega
    have z2 : (j : Int) < M := by omega
    have hAb' : b ≠ A := fun e => hAb e.symm
    have hBb' : b ≠ B := fun e => hBb e.symm
    have hcI : -9 - (L : Int) = c := hc.symm
    have hc1 : -9223372036854775808 ≤ c := by omega
    have hc2 : c ≤ 9223372036854775807 := by omega
    clear hc
    have hcw : wrap64 c = c := by unfold wrap64; omega
    have HR : Hid (j % n = r) := hr
    clear hr
    by_cases hkr : k ≤ r
    · have hkr2 : (k : Int) ≤ (r : Int) := by omega
      have HS : Hid (((tyJ n k c j).set j c).set j 5 = tyJ n k c (j + 1)) := by
        show _ = _
        have := tyJ_set2 n k c c j
        rw [tyF, HR.out, if_pos hkr] at this
        exact this
      go_wp2
      refine ⟨⟨j + 1, by omega, ⟨rfl, rfl, rfl, rfl, rfl, rfl, ?_⟩, by rw [← HS.out]; exact (HK.out.set j c).set j 5, (HU.out.setCell _).setCell _⟩, ?_⟩
      · show Value.int .i64 _ = _
        go_num
      · show M - (intOf (Value.int .i64 _)).toNat < M - (intOf (Value.int .i64 _)).toNat
        simp [intOf]
        omega
    · have hkr2 : ¬ (k : Int) ≤ (r : Int) := by omega
      have HS : Hid ((tyJ n k c j).set j c = tyJ n k c (j + 1)) := by
        show _ = _
        have := tyJ_set n k c j
        rw [tyF, HR.out, if_neg hkr] at this
        exact this
      go_wp2
      refine ⟨⟨j + 1, by omega, ⟨rfl, rfl, rfl, rfl, rfl, rfl, ?_⟩, by rw [← HS.out]; exact HK.out.set j c, HU.out.setCell _⟩, ?_⟩
      · show Value.int .i64 _ = _
        go_num
      · show M - (intOf (Value.int .i64 _)).toNat < M - (intOf (Value.int .i64 _)).toNat
        simp [intOf]
        omega
  · obtain rfl : j = M := by omega
    have HKE : Hid (Blk w b (tyL n k c)) := by
      show Blk _ _ _
      have := HK.out
      rw [HMM.out, tyJ_all] at this
      exact this
    go_wp2
    exact HEX.out _ _ j ⟨rfl, rfl, rfl, rfl, rfl, rfl, rfl⟩ HKE.out HU.out

end Go.Proofs.Ytnphfepkjhlalaa
