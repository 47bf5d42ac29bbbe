/- Contracts: the page's Num, Args. -/
import Derived.Test.YtjfkhfahpjdidaaQ1
namespace Go.Proofs.Ytjfkhfahpjdidaa
set_option linter.unusedVariables false
set_option linter.unusedSimpArgs false
set_option maxRecDepth 100000
open Go.RowKit

theorem rnum_to (n m : Int) (w : World) (x : Bool) (hx : (decide (0 ≤ n) && decide (n ≤ m)) = x) :
    Calls Try.prog 15 #[.int .i64 n, .int .i64 m] w fun e w' => e = .returned (.bool x) ∧ w = w' := by
  have HX : Hid ((decide (0 ≤ n) && decide (n ≤ m)) = x) := hx
  clear hx
  by_cases h1 : 0 ≤ n
  · go_enter Try.func15, Try.ntmps15
    go_wp2
    go_ret
    exact ⟨by rw [← HX.out]; simp [h1], rfl⟩
  · go_enter Try.func15, Try.ntmps15
    go_wp2
    go_ret
    exact ⟨by rw [← HX.out]; simp [h1]; omega, rfl⟩
theorem argsB_at {A : List Int} {n : Int} {k : Nat} (h : k < A.length) (hb : (decide (0 ≤ A[k]) && decide (A[k] ≤ n - 1)) = false) : argsB A n = false := by
  cases e : argsB A n with
  | false => rfl
  | true =>
    rw [argsB, List.all_eq_true] at e
    have := e _ (List.getElem_mem h)
    rw [hb] at this
    exact this.symm
theorem argsB_all {A : List Int} {n : Int} (h : ∀ k (h : k < A.length), (decide (0 ≤ A[k]) && decide (A[k] ≤ n - 1)) = true) : argsB A n = true := by
  rw [argsB, List.all_eq_true]
  intro x hx
  obtain ⟨k, hk, rfl⟩ := List.getElem_of_mem hx
  exact h k hk
set_option maxHeartbeats 4000000 in
theorem args_any {v : Value} {A : List Int} {w : World} (n : Nat) (hn : n ≤ 17592186044416) (hA : Ints w v A) (q : Bool) (hq : argsB A n = q) :
    Calls Try.prog 24 #[v, .int .i64 n] w fun e w' => e = .returned (.bool q) ∧ w = w' := by
  have HQ : Hid (argsB A n = q) := hq
  clear hq
  rcases hA.cases with ⟨rfl, a1, c1, rfl⟩ | ⟨b1, o1, c1, rfl, h0, h1, h2, h3⟩
  · have HQ2 : Hid (q = true) := by show _ = _; rw [← HQ.out]; rfl
    clear hA
    go_enter Try.func24, Try.ntmps24
    go_wp2
    refine wp_loop_rounds 1 ?_
    rw [rounds_succ]
    go_wp2
    go_ret
    exact ⟨by rw [HQ2.out]; rfl, rfl⟩
  · have HA3 := h3
    clear hA
    unfold big at h2
    have gw : IntKind.i64.wrap ((n : Int) - 1) = (n : Int) - 1 := by simp [IntKind.wrap, IntKind.signed, IntKind.bits]; omega
    go_enter Try.func24, Try.ntmps24
    go_wp2
    go_loop [5] (fun i => ∃ k : Nat, k ≤ A.length ∧ i = .int .i64 k ∧ Hid (∀ j (h : j < A.length), j < k → (decide (0 ≤ A[j]) && decide (A[j] ≤ (n : Int) - 1)) = true)) (fun i => A.length - (intOf i).toNat)
    case atStart => exact ⟨0, Nat.zero_le _, rfl, fun j h1 h2 => by omega⟩
    case round =>
      obtain ⟨k, hk, rfl, HP⟩ := hrel
      by_cases hlt : k < A.length
      · have hx := h3.out k hlt
        obtain ⟨y, hy⟩ : ∃ y, A[k] = y := ⟨_, rfl⟩
        rw [hy] at hx
        have HY : Hid (A[k] = y) := hy
        clear hy
        cases hb : (decide (0 ≤ y) && decide (y ≤ (n : Int) - 1)) with
        | false =>
          have HBB : Hid ((decide (0 ≤ y) && decide (y ≤ (n : Int) - 1)) = false) := hb
          have HQ2 : Hid (q = false) := by show _ = _; rw [← HQ.out]; exact argsB_at hlt (by rw [HY.out]; exact hb)
          clear hb
          go_wp2_with (go_at_call 15; refine (rnum_to _ _ _ false HBB.out).mono ?_; rintro e w2 ⟨rfl, rfl⟩)
          go_ret
          exact ⟨by rw [HQ2.out]; rfl, rfl⟩
        | true =>
          have HBB : Hid ((decide (0 ≤ y) && decide (y ≤ (n : Int) - 1)) = true) := hb
          clear hb
          go_wp2_with (go_at_call 15; refine (rnum_to _ _ _ true HBB.out).mono ?_; rintro e w2 ⟨rfl, rfl⟩)
          go_round
          case rel =>
            refine ⟨k + 1, by omega, by go_num, fun j h1 h2 => ?_⟩
            by_cases e : j = k
            · subst e; rw [HY.out]; exact HBB.out
            · exact HP.out j h1 (by omega)
          case measure => simp [intOf]; omega
      · have HQ2 : Hid (q = true) := by show _ = _; rw [← HQ.out]; exact argsB_all (fun j h => HP.out j h (by omega))
        go_wp2
        go_ret
        exact ⟨by rw [HQ2.out]; rfl, rfl⟩
end Go.Proofs.Ytjfkhfahpjdidaa
