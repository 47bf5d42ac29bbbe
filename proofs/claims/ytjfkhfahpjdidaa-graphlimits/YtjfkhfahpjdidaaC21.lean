/- Carried: C23. -/
import Derived.Test.YtjfkhfahpjdidaaC20
namespace Go.Proofs.Ytjfkhfahpjdidaa
set_option linter.unusedVariables false
set_option linter.unusedSimpArgs false
set_option maxRecDepth 100000
open Go.RowKit

set_option maxHeartbeats 400000 in
theorem ties_any {v : Value} {d : List Int} {w : World} (h : Ints w v d) (hl : d.length ≤ 3) :
    Calls Try.prog 84 #[v] w fun e w' => e = .returned (.string (tieT d)) ∧ w = w' := by
  rcases h.cases with ⟨rfl, a1, c1, rfl⟩ | ⟨b, off, c, rfl, h0, h1, h2, HC⟩
  · clear h
    go_enter Try.func84, Try.ntmps84
    go_wp2
    refine wp_loop_rounds 1 ?_
    rw [rounds_succ]
    go_wp2
    go_ret
    exact ⟨rfl, rfl⟩
  clear h h2
  go_enter Try.func84, Try.ntmps84
  go_wp2
  go_loop [3, 8] (fun t i => ∃ k : Nat, k ≤ d.length ∧ i = .int .i64 k ∧ t = .string (tieT (d.take k))) (fun _ i => d.length - (intOf i).toNat)
  case atStart => exact ⟨0, Nat.zero_le _, rfl, by rw [List.take_zero]; rfl⟩
  case round =>
    obtain ⟨k, hk, rfl, rfl⟩ := hrel
    by_cases hlt : k < d.length
    · have hc := HC.out k hlt
      have hsz : (tieT (d.take k)).size = k := by rw [tieT_size]; simp; omega
      have HT : Hid (tieT (d.take (k + 1)) = tieT (d.take k) ++ ⟨#[tieB d[k]]⟩) := by
        show _ = _
        rw [take_snoc d k hlt, tieT_snoc]
      by_cases h1 : d[k] = 1
      · have hq : (d[k] == 1) = true := by simp [h1]
        have HB : Hid (tieB d[k] = 42) := by show _ = _; simp [tieB, h1]
        clear h1
        go_wp2
        exact ⟨⟨k + 1, by omega, by go_num, by rw [HT.out, HB.out]⟩, by simp [intOf]; omega⟩
      · have hq : (d[k] == 1) = false := by simp [h1]
        have HB : Hid (tieB d[k] = 61) := by show _ = _; simp [tieB, h1]
        clear h1
        go_wp2
        exact ⟨⟨k + 1, by omega, by go_num, by rw [HT.out, HB.out]⟩, by simp [intOf]; omega⟩
    · have hk' : k = d.length := by omega
      subst hk'
      go_wp2
      go_ret
      exact ⟨rfl, rfl⟩
end Go.Proofs.Ytjfkhfahpjdidaa
