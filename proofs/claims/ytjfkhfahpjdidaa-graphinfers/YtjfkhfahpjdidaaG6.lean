/- Contract: graph's Infer. -/
import Derived.Test.YtjfkhfahpjdidaaG5b
namespace Go.Proofs.Ytjfkhfahpjdidaa
set_option linter.unusedVariables false
set_option linter.unusedSimpArgs false
set_option maxRecDepth 100000
open Go.RowKit

set_option maxHeartbeats 4000000 in
theorem infer8_any {vd v u : Value} {d A : List Int} {L : List Nod} {w : World} (k n : Int) (h : NodesL w v L) (hs : Small L) (hd : Ints w vd d) (hA : Ints w u A) (hlen : A.length ≤ 100000000) (q : Bool) (hq : nodesB L = q) (E : Int) (R : List Int) (hE : inE k n d L A = E) (hR : inR k n d L A = R) :
    Calls Try.prog 8 #[.int .i64 k, .int .i64 n, vd, v, u] w fun e w' => ∃ x, e = .returned (.tuple #[x, .int .i64 (if q then E else 1)]) ∧ Own w' w.heap.size x (if q then R else []) ∧ Below w.heap.size w w' := by
  have HN : Hid (NodesL w v L) := h
  have HS : Hid (Small L) := hs
  have HA : Hid (Ints w u A) := hA
  have HD : Hid (Ints w vd d) := hd
  have HQ : Hid (nodesB L = q) := hq
  have HE : Hid (inE k n d L A = E) := hE
  have HR : Hid (inR k n d L A = R) := hR
  obtain ⟨va, vc, rfl, hc1, hc2⟩ := h.shape
  obtain ⟨da, dn, dc, rfl⟩ := hd.shape3
  obtain ⟨ua, un, uc, rfl⟩ := hA.shape3
  unfold big at hc2
  clear h hs hd hA hq hE hR
  cases q with
  | false =>
    go_enter Try.func8, Try.ntmps8
    go_wp2_with (go_at_call 17; refine (nodes8_any HN.out HS.out false HQ.out).mono ?_; rintro e w2 ⟨rfl, hb2⟩; have HB2 : Hid (Below w.heap.size w w2) := hb2; clear hb2)
    go_ret2
    exact ⟨_, rfl, Own.nil _ _, HB2.out⟩
  | true =>
    go_enter Try.func8, Try.ntmps8
    go_wp2_with (first
      | (go_at_call 17; refine (nodes8_any HN.out HS.out true HQ.out).mono ?_; rintro e w2 ⟨rfl, hb2⟩; have HB2 : Hid (Below w.heap.size w w2) := hb2; clear hb2)
      | (go_at_call 23; refine (made_any k n (HN.out.later HB2.out) (HD.out.later HB2.out) (HA.out.later HB2.out) hlen E R HE.out HR.out).mono ?_; rintro e w3 ⟨x3, rfl, ho, hb3⟩; have HO3 : Hid (Own w3 w.heap.size x3 R) := ho.mono HB2.out.size; have HB3 : Hid (Below w.heap.size w w3) := Below.after HB2.out hb3; obtain ⟨s7, n7, c7, rfl⟩ := ho.ints.shape3; clear ho hb3))
    go_ret2
    exact ⟨_, rfl, HO3.out, HB3.out⟩
end Go.Proofs.Ytjfkhfahpjdidaa
