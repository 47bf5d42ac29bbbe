/- Contract: the page's Infer, of nodes. -/
import Derived.Test.YtjfkhfahpjdidaaQ7
namespace Go.Proofs.Ytjfkhfahpjdidaa
set_option linter.unusedVariables false
set_option linter.unusedSimpArgs false
set_option maxRecDepth 100000
open Go.RowKit

def infO (k n : Int) (d : List Int) (P : List (List Int)) : Bool := inf k.toNat n d (P.getD 0 []) (P.getD 1 [])
def rinE (k n : Int) (d : List Int) (L : List Nod) (A : List Int) : Int :=
  if argsB A L.length && may k n d (dimsAt L A) then (if infO k n d (dimsAt L A) then 0 else 4) else 1
def rinR (k n : Int) (d : List Int) (L : List Nod) (A : List Int) : List Int :=
  if argsB A L.length && may k n d (dimsAt L A) then (if infO k n d (dimsAt L A) then inD k.toNat n d ((dimsAt L A).getD 0 []) ((dimsAt L A).getD 1 []) else []) else []
set_option maxHeartbeats 4000000 in
theorem rinfer_any {vd v u : Value} {d A : List Int} {L : List Nod} {w : World} (k n : Int) (h : NodesL w v L) (hd : Ints w vd d) (hA : Ints w u A) (hlen : A.length ≤ 100000000) :
    Calls Try.prog 9 #[.int .i64 k, .int .i64 n, vd, v, u] w fun e w' => ∃ x, e = .returned (.tuple #[x, .int .i64 (rinE k n d L A)]) ∧ Own w' w.heap.size x (rinR k n d L A) ∧ Below w.heap.size w w' := by
  have HN : Hid (NodesL w v L) := h
  have HA : Hid (Ints w u A) := hA
  have HD : Hid (Ints w vd d) := hd
  obtain ⟨va, vc, rfl, hc1, hc2⟩ := h.shape
  obtain ⟨da, dn, dc, rfl⟩ := hd.shape3
  obtain ⟨ua, un, uc, rfl⟩ := hA.shape3
  unfold big at hc2
  clear h hd hA
  obtain ⟨E, hE⟩ : ∃ E, rinE k n d L A = E := ⟨_, rfl⟩
  obtain ⟨R, hR⟩ : ∃ R, rinR k n d L A = R := ⟨_, rfl⟩
  rw [hE, hR]
  cases ha : argsB A L.length with
  | false =>
    have HA0 : Hid (argsB A L.length = false) := ha
    have HE : Hid (E = 1 ∧ R = []) := by show _ ∧ _; rw [← hE, ← hR, rinE, rinR, ha]; exact ⟨rfl, rfl⟩
    clear ha hE hR
    go_enter Try.func9, Try.ntmps9
    go_wp2_with (go_at_call 24; refine (args_any L.length (by omega) HA.out false HA0.out).mono ?_; rintro e w2 ⟨rfl, rfl⟩)
    go_ret2
    exact ⟨_, by rw [HE.out.1]; rfl, by rw [HE.out.2]; exact Own.nil _ _, Below.refl _ _⟩
  | true =>
    have HA0 : Hid (argsB A L.length = true) := ha
    cases hm : may k n d (dimsAt L A) with
    | false =>
      have HM : Hid (may k n d (dimsAt L A) = false) := hm
      have HE : Hid (E = 1 ∧ R = []) := by show _ ∧ _; rw [← hE, ← hR, rinE, rinR, ha, hm]; exact ⟨rfl, rfl⟩
      clear ha hE hR hm
      go_enter Try.func9, Try.ntmps9
      go_wp2_with (first
        | (go_at_call 24; refine (args_any L.length (by omega) HA.out true HA0.out).mono ?_; rintro e w2 ⟨rfl, rfl⟩)
        | (go_at_call 26; refine (ndimsOf_any HN.out HA.out L.length (by omega) HA0.out hlen).mono ?_; rintro e w2 ⟨v2, xs, rfl, hr2, hb2⟩; have HB2 : Hid (Below w.heap.size w w2) := hb2; have HL2 : Hid (IntsL w2 v2 (dimsAt L A)) := hr2.intsL (by rw [dimsAt_len]; unfold big; omega); clear hb2 hr2)
        | (go_at_call 25; refine (may_any k n false (HD.out.later HB2.out) HL2.out HM.out).mono ?_; rintro e w5 ⟨rfl, hb5⟩; have HB5 : Hid (Below w2.heap.size w2 w5) := hb5; clear hb5))
      go_ret2
      exact ⟨_, by rw [HE.out.1]; rfl, by rw [HE.out.2]; exact Own.nil _ _, Below.after HB2.out HB5.out⟩
    | true =>
      have HM : Hid (may k n d (dimsAt L A) = true) := hm
      obtain ⟨ok, hok⟩ : ∃ ok, infO k n d (dimsAt L A) = ok := ⟨_, rfl⟩
      have HOK : Hid (inf k.toNat n d ((dimsAt L A).getD 0 []) ((dimsAt L A).getD 1 []) = ok) := hok
      have HE : Hid (E = (if ok then 0 else 4) ∧ R = (if ok then inD k.toNat n d ((dimsAt L A).getD 0 []) ((dimsAt L A).getD 1 []) else [])) := by show _ ∧ _; rw [← hE, ← hR, rinE, rinR, ha, hm, hok]; exact ⟨rfl, rfl⟩
      clear ha hE hR hm hok
      go_enter Try.func9, Try.ntmps9
      go_wp2_with (first
        | (go_at_call 24; refine (args_any L.length (by omega) HA.out true HA0.out).mono ?_; rintro e w2 ⟨rfl, rfl⟩)
        | (go_at_call 26; refine (ndimsOf_any HN.out HA.out L.length (by omega) HA0.out hlen).mono ?_; rintro e w2 ⟨v2, xs, rfl, hr2, hb2⟩; have HB2 : Hid (Below w.heap.size w w2) := hb2; have HL2 : Hid (IntsL w2 v2 (dimsAt L A)) := hr2.intsL (by rw [dimsAt_len]; unfold big; omega); clear hb2 hr2)
        | (go_at_call 25; refine (may_any k n true (HD.out.later HB2.out) HL2.out HM.out).mono ?_; rintro e w5 ⟨rfl, hb5⟩; have HB5 : Hid (Below w.heap.size w w5) := Below.after HB2.out hb5; clear hb5))
      go_at_call 26
      refine (ndimsOf_any (HN.out.later HB5.out) (HA.out.later HB5.out) L.length (by omega) HA0.out hlen).mono ?_
      rintro e w6 ⟨v6, ys, rfl, hr6, hb6⟩
      have HB6 : Hid (Below w.heap.size w w6) := Below.after HB5.out hb6
      have HR6 : Hid (Row w6 w5.heap.size v6 (dimsAt L A) ys) := hr6
      clear hb6 hr6
      go_wp2_with fail
      refine (infer_to k n HM.out (HD.out.later HB6.out) HR6.out ok HOK.out).mono ?_
      rintro e w7 ⟨x7, z7, rfl, ho7, hz7, hb7⟩
      have HB7 : Hid (Below w.heap.size w w7) := Below.after HB6.out hb7
      cases ok with
      | false =>
        clear ho7 hz7 hb7
        go_wp2
        go_ret2
        exact ⟨_, by rw [HE.out.1]; rfl, by rw [HE.out.2]; exact Own.nil _ _, HB7.out⟩
      | true =>
        have HO7 : Hid (Own w7 w.heap.size x7 z7) := ho7.mono HB6.out.size
        have HZ7 : Hid (z7 = inD k.toNat n d ((dimsAt L A).getD 0 []) ((dimsAt L A).getD 1 [])) := hz7 rfl
        obtain ⟨s7, n7, c7, rfl⟩ := ho7.ints.shape3
        clear ho7 hz7 hb7
        go_wp2
        go_ret2
        exact ⟨_, by rw [HE.out.1]; rfl, by rw [HE.out.2]; show Own _ _ _ (inD k.toNat n d ((dimsAt L A).getD 0 []) ((dimsAt L A).getD 1 [])); rw [← HZ7.out]; exact HO7.out, HB7.out⟩
end Go.Proofs.Ytjfkhfahpjdidaa
