/- Contract: the page's Nodes. -/
import Derived.Test.YtjfkhfahpjdidaaQ4
namespace Go.Proofs.Ytjfkhfahpjdidaa
set_option linter.unusedVariables false
set_option linter.unusedSimpArgs false
set_option maxRecDepth 100000
open Go.RowKit

theorem nodesN_step {L : List Nod} {k : Nat} (h : k < L.length) : nodesN L (k + 1) = (nodesN L k && nodeB L k L[k]) := by
  rw [nodesN, List.getElem?_eq_getElem h]
theorem nodesN_not {L : List Nod} {k : Nat} (h : nodesN L k = false) : ∀ m, k ≤ m → nodesN L m = false
  | 0, hm => by
    have : k = 0 := by omega
    subst this
    exact h
  | m + 1, hm => by
    by_cases e : k = m + 1
    · subst e; exact h
    · rw [nodesN, nodesN_not h m (by omega), Bool.false_and]
set_option maxHeartbeats 4000000 in
theorem rnodes_any {v : Value} {L : List Nod} {w : World} (h : NodesL w v L) (hlen : ∀ t ∈ L, t.args.length ≤ 100000000) (q : Bool) (hq : nodesB L = q) :
    Calls Try.prog 7 #[v] w fun e w' => e = .returned (.bool q) ∧ Below w.heap.size w w' := by
  have HN : Hid (NodesL w v L) := h
  have HL : Hid (∀ t ∈ L, t.args.length ≤ 100000000) := hlen
  have HQ : Hid (nodesB L = q) := hq
  obtain ⟨va, vc, rfl, hc1, hc2⟩ := h.shape
  unfold big at hc2
  clear h hq hlen
  by_cases h240 : 240 < L.length
  · have g1 : (240 : Int) < (L.length : Int) := by omega
    have HQ2 : Hid (q = false) := by show _ = _; rw [← HQ.out, nodesB, decide_eq_false (by omega)]; rfl
    go_enter Try.func7, Try.ntmps7
    go_wp2
    go_ret
    exact ⟨by rw [HQ2.out]; rfl, Below.refl _ _⟩
  · have g1 : ¬ (240 : Int) < (L.length : Int) := by omega
    have HQ2 : Hid (nodesN L L.length = q) := by show _ = _; rw [← HQ.out, nodesB, decide_eq_true (by omega), Bool.true_and]
    go_enter Try.func7, Try.ntmps7
    go_wp2
    go_loopw [3] (fun i w' => ∃ k : Nat, k ≤ L.length ∧ i = .int .i64 k ∧ Hid (nodesN L k = true) ∧ Hid (Below w.heap.size w w')) (fun i _ => L.length - (intOf i).toNat)
    case atStart => exact ⟨0, Nat.zero_le _, rfl, rfl, Below.refl _ _⟩
    case round =>
      obtain ⟨k, hk, rfl, HP, HB⟩ := hrel
      by_cases hlt : k < L.length
      · have HK : Hid (L[k].args.length ≤ 100000000) := HL.out _ (List.getElem_mem hlt)
        cases hb : nodeB L k L[k] with
        | false =>
          have HBB : Hid (nodeB L k L[k] = false) := hb
          have HQ3 : Hid (q = false) := by
            show _ = _
            rw [← HQ2.out]
            exact nodesN_not (k := k + 1) (by rw [nodesN_step hlt, hb, Bool.and_false]) _ (by omega)
          clear hb
          go_wp2_with (go_at_call 22; refine (rnode_any (HN.out.later HB.out) k hlt HK.out false HBB.out).mono ?_; rintro e w2 ⟨rfl, hb2⟩; have HB2 : Hid (Below w.heap.size w w2) := Below.after HB.out hb2; clear hb2)
          go_ret
          exact ⟨by rw [HQ3.out]; rfl, HB2.out⟩
        | true =>
          have HBB : Hid (nodeB L k L[k] = true) := hb
          clear hb
          go_wp2_with (go_at_call 22; refine (rnode_any (HN.out.later HB.out) k hlt HK.out true HBB.out).mono ?_; rintro e w2 ⟨rfl, hb2⟩; have HB2 : Hid (Below w.heap.size w w2) := Below.after HB.out hb2; clear hb2)
          go_roundw
          case rel => exact ⟨k + 1, by omega, by go_num, by show _ = _; rw [nodesN_step hlt, HP.out, HBB.out]; rfl, HB2.out⟩
          case measure => simp [intOf]; omega
      · obtain rfl : k = L.length := by omega
        have HQ3 : Hid (q = true) := by show _ = _; rw [← HQ2.out]; exact HP.out
        go_wp2
        go_ret
        exact ⟨by rw [HQ3.out]; rfl, HB.out⟩
end Go.Proofs.Ytjfkhfahpjdidaa
