/- Contracts: the page's May, of any list; node. -/
import Derived.Test.YtjfkhfahpjdidaaQ3
namespace Go.Proofs.Ytjfkhfahpjdidaa
set_option linter.unusedVariables false
set_option linter.unusedSimpArgs false
set_option maxRecDepth 100000
open Go.RowKit

theorem many_le (k : Nat) : many k ≤ 2 := by
  rw [many]
  split
  · omega
  · split <;> omega
theorem may_long {k n : Int} {d : List Int} {L : List (List Int)} (h : 2 < L.length) : may k n d L = false := may_not fun hx => by
  have h1 := (frm_parts1 hx.1).2.1
  have := many_le k.toNat
  omega
set_option maxHeartbeats 2000000 in
theorem may_any {vd v : Value} {d : List Int} {L : List (List Int)} {w : World} (k n : Int) (q : Bool) (hd : Ints w vd d) (hl : IntsL w v L) (hq : may k n d L = q) :
    Calls Try.prog 25 #[.int .i64 k, .int .i64 n, vd, v] w fun e w' => e = .returned (.bool q) ∧ Below w.heap.size w w' := by
  by_cases h2 : L.length ≤ 2
  · exact may_to k n q hd hl h2 hq
  · have HQ : Hid (q = false) := by show _ = _; rw [← hq]; exact may_long (by omega)
    obtain ⟨hb, va, vc, rfl, hvc, _⟩ := hl
    obtain ⟨da, dc, rfl⟩ := hd.shape
    obtain ⟨m, hm⟩ : ∃ m, L.length = m := ⟨_, rfl⟩
    rw [hm] at h2 ⊢
    clear hq hd hb hvc hm
    by_cases hk : 1 ≤ k ∧ k ≤ 17
    · obtain ⟨x, hx⟩ : ∃ x, many k.toNat = x := ⟨_, rfl⟩
      have hx2 := many_le k.toNat
      rw [hx] at hx2
      have HX : Hid (manyI k = (x : Int)) := by show _ = _; rw [manyI, if_pos hk, hx]
      have g1 : ((m : Int) != (x : Int)) = true := by rw [bne_iff_ne]; omega
      have g2 : ¬ (x : Int) < 0 := by omega
      clear hx hk
      go_enter Try.func25, Try.ntmps25
      go_wp2_with (go_at_call 37; refine (many_to k _ x HX.out).mono ?_; rintro e w' ⟨rfl, rfl⟩)
      go_ret
      exact ⟨by rw [HQ.out]; rfl, Below.refl _ _⟩
    · have HX : Hid (manyI k = -1) := by show _ = _; rw [manyI, if_neg hk]
      clear hk
      go_enter Try.func25, Try.ntmps25
      go_wp2_with (go_at_call 37; refine (many_to k _ (-1) HX.out).mono ?_; rintro e w' ⟨rfl, rfl⟩)
      go_ret
      exact ⟨by rw [HQ.out]; rfl, Below.refl _ _⟩
theorem dimsAt_len (L : List Nod) (A : List Int) : (dimsAt L A).length = A.length := by simp [dimsAt]
set_option maxHeartbeats 8000000 in
theorem rnode_any {v : Value} {L : List Nod} {w : World} (h : NodesL w v L) (i : Nat) (hi : i < L.length) (hlen : L[i].args.length ≤ 100000000) (q : Bool) (hq : nodeB L i L[i] = q) :
    Calls Try.prog 22 #[v, .int .i64 i] w fun e w' => e = .returned (.bool q) ∧ Below w.heap.size w w' := by
  have HN : Hid (NodesL w v L) := h
  obtain ⟨va, vc, rfl, hc1, hc2⟩ := h.shape
  obtain ⟨b, off, x, y, rfl, hnd⟩ := h.row i hi
  unfold big at hc2
  obtain ⟨t, ht⟩ : ∃ t, L[i] = t := ⟨_, rfl⟩
  rw [ht] at hnd hq hlen
  obtain ⟨nm, kd, ar, ds, n⟩ := t
  obtain ⟨c0, c1, c2, c3, c4, ha, hd, hz⟩ := hnd
  simp only at c0 c1 c2 c3 c4 ha hd hlen
  have HA : Hid (Ints w x ar) := ha
  have HD : Hid (Ints w y ds) := hd
  obtain ⟨xa, xn, xc, rfl⟩ := ha.shape3
  obtain ⟨ya, yn, yc, rfl⟩ := hd.shape3
  obtain ⟨U, hU⟩ : ∃ U, U = w.alloc (.cells #[.string nm, .int .i64 kd, .slice xa xn xc, .slice ya yn yc, .int .i64 n] 42) := ⟨_, rfl⟩
  have hb : Below w.heap.size w U := by rw [hU]; exact Below.push (Below.refl _ _) _
  have HB : Hid (Below w.heap.size w U) := hb
  have HNU : Hid (NodesL U (.slice (some ⟨b, off, none⟩) L.length vc) L) := HN.out.later hb
  have HAU : Hid (Ints U (.slice xa xn xc) ar) := HA.out.later hb
  have HDU : Hid (Ints U (.slice ya yn yc) ds) := HD.out.later hb
  have u1 : U.cell? ⟨w.heap.size, 1, none⟩ = some (.int .i64 kd) := by rw [hU]; simp
  have u2 : U.cell? ⟨w.heap.size, 2, none⟩ = some (.slice xa xn xc) := by rw [hU]; simp
  have u3 : U.cell? ⟨w.heap.size, 3, none⟩ = some (.slice ya yn yc) := by rw [hU]; simp
  have u4 : U.cell? ⟨w.heap.size, 4, none⟩ = some (.int .i64 n) := by rw [hU]; simp
  have HQ : Hid (nodeB L i ⟨nm, kd, ar, ds, n⟩ = q) := hq
  have gi : (i : Int) < L.length := by omega
  have HUU : Hid (U = w.alloc (.cells #[.string nm, .int .i64 kd, .slice xa xn xc, .slice ya yn yc, .int .i64 n] 42)) := hU
  clear h ha hd hb hq ht hz hU
  cases ha : argsB ar i with
  | false =>
    have HA0 : Hid (argsB ar i = false) := ha
    have HQ2 : Hid (q = false) := by show _ = _; rw [← HQ.out, nodeB, ha, Bool.false_and]
    clear ha
    go_enter Try.func22, Try.ntmps22
    go_wp2_with (go_at_call 24; rw [← HUU.out]; refine (args_any i (by omega) HAU.out false HA0.out).mono ?_; rintro e w2 ⟨rfl, rfl⟩)
    go_ret
    exact ⟨by rw [HQ2.out]; rfl, HB.out⟩
  | true =>
    have HA0 : Hid (argsB ar i = true) := ha
    clear ha
    obtain ⟨D, hD⟩ : ∃ D, askD ⟨nm, kd, ar, ds, n⟩ = D := ⟨_, rfl⟩
    have HDD : Hid (askD ⟨nm, kd, ar, ds, n⟩ = D) := hD
    cases hk : askI kd with
    | false =>
      have HK : Hid (askI kd = false) := hk
      have HV : Hid (Ints U (.slice none 0 0) D) := by
        show Ints _ _ _
        rw [← hD, askD, hk]
        exact Or.inl ⟨rfl, rfl⟩
      clear hD hk
      go_enter Try.func22, Try.ntmps22
      go_wp2_with (first
        | (go_at_call 24; rw [← HUU.out]; refine (args_any i (by omega) HAU.out true HA0.out).mono ?_; rintro e w2 ⟨rfl, rfl⟩)
        | (go_at_call 35; refine (asked_to _ _ false HK.out).mono ?_; rintro e w2 ⟨rfl, rfl⟩))
      go_at_call 26
      refine (ndimsOf_any HNU.out HAU.out i (by omega) HA0.out hlen).mono ?_
      rintro e w2 ⟨v2, xs, rfl, hR, hb2⟩
      have HR : Hid (Row w2 U.heap.size v2 (dimsAt L ar) xs) := hR
      have HB2 : Hid (Below U.heap.size U w2) := hb2
      have HV2 : Hid (Ints w2 (.slice none 0 0) D) := HV.out.later hb2
      have HD2 : Hid (Ints w2 (.slice ya yn yc) ds) := HDU.out.later hb2
      have HL2 : Hid (IntsL w2 v2 (dimsAt L ar)) := hR.intsL (by rw [dimsAt_len]; unfold big; omega)
      have w1 := cell_later hb2 u1
      have w3 := cell_later hb2 u3
      have w4 := cell_later hb2 u4
      clear hR hb2 u1 u2 u3 u4
      obtain ⟨qm, hqm⟩ : ∃ qm, may kd n D (dimsAt L ar) = qm := ⟨_, rfl⟩
      have HM : Hid (may kd n D (dimsAt L ar) = qm) := hqm
      cases qm with
      | false =>
        have HQ2 : Hid (q = false) := by show _ = _; rw [← HQ.out, nodeB, HDD.out, hqm, Bool.false_and, Bool.and_false]
        clear hqm
        go_wp2_with (go_at_call 25; refine (may_any kd n false HV2.out HL2.out HM.out).mono ?_; rintro e w5 ⟨rfl, hb5⟩; have HB5 : Hid (Below w2.heap.size w2 w5) := hb5; clear hb5)
        go_ret
        exact ⟨by rw [HQ2.out]; rfl, Below.after HB.out (Below.after HB2.out HB5.out)⟩
      | true =>
        obtain ⟨ok, hok⟩ : ∃ ok, inf kd.toNat n D ((dimsAt L ar).getD 0 []) ((dimsAt L ar).getD 1 []) = ok := ⟨_, rfl⟩
        have HOK : Hid (inf kd.toNat n D ((dimsAt L ar).getD 0 []) ((dimsAt L ar).getD 1 []) = ok) := hok
        have HBW : Hid (Below w.heap.size w w2) := Below.after HB.out HB2.out
        cases ok with
        | false =>
          have HQ2 : Hid (q = false) := by show _ = _; rw [← HQ.out, nodeB, HDD.out, hok, Bool.false_and, Bool.and_false, Bool.and_false]
          clear hqm hok
          go_wp2_with (first
            | (go_at_call 25; refine (may_any kd n true HV2.out HL2.out HM.out).mono ?_; rintro e w5 ⟨rfl, hb5⟩; have HB5 : Hid (Below w2.heap.size w2 w5) := hb5; have t1 := cell_later hb5 w1; have t3 := cell_later hb5 w3; have t4 := cell_later hb5 w4; clear hb5)
            | (go_at_call 27; refine (infer_to kd n HM.out (HV2.out.later HB5.out) (HR.out.later HB5.out) false HOK.out).mono ?_; rintro e w6 ⟨x6, z6, rfl, ho6, hz6, hb6⟩; have HB6 : Hid (Below w5.heap.size w5 w6) := hb6; have r3 := cell_later hb6 t3; obtain ⟨s6, n6, c6, rfl⟩ := ho6.ints.shape3; clear hb6 ho6 hz6))
          go_ret
          exact ⟨by rw [HQ2.out]; rfl, Below.after HBW.out (Below.after HB5.out HB6.out)⟩
        | true =>
          obtain ⟨qe, hqe⟩ : ∃ qe, (ds == inD kd.toNat n D ((dimsAt L ar).getD 0 []) ((dimsAt L ar).getD 1 [])) = qe := ⟨_, rfl⟩
          have HE : Hid ((ds == inD kd.toNat n D ((dimsAt L ar).getD 0 []) ((dimsAt L ar).getD 1 [])) = qe) := hqe
          have HQ2 : Hid (q = qe) := by show _ = _; rw [← HQ.out, nodeB, HDD.out, HA0.out, hqm, hok, ← hqe]; simp only [Bool.true_and]; exact (Bool.beq_eq_decide_eq ..).symm
          clear hqm hok hqe
          go_wp2_with (first
            | (go_at_call 25; refine (may_any kd n true HV2.out HL2.out HM.out).mono ?_; rintro e w5 ⟨rfl, hb5⟩; have HB5 : Hid (Below w2.heap.size w2 w5) := hb5; have t1 := cell_later hb5 w1; have t3 := cell_later hb5 w3; have t4 := cell_later hb5 w4; clear hb5)
            | (go_at_call 27; refine (infer_to kd n HM.out (HV2.out.later HB5.out) (HR.out.later HB5.out) true HOK.out).mono ?_; rintro e w6 ⟨x6, z6, rfl, ho6, hz6, hb6⟩; have HB6 : Hid (Below w5.heap.size w5 w6) := hb6; have r3 := cell_later hb6 t3; have HI6 : Hid (Ints w6 x6 z6) := ho6.ints; have HZ6 : Hid (z6 = _) := hz6 rfl; obtain ⟨s6, n6, c6, rfl⟩ := ho6.ints.shape3; clear hb6 ho6 hz6)
            | (go_at_call 11; refine (eqn_to qe (a := ds) (b := z6) ?_ ?_ ?_).mono ?_; exact (HD2.out.later HB5.out).later HB6.out; exact HI6.out; (rw [HZ6.out]; exact HE.out); rintro r w7 ⟨rfl, m7, e7⟩; have HB7 : Hid (Below w6.heap.size w6 w7) := (by show Below _ _ _; rw [e7]; exact Below.drewN (Below.refl _ _) _); clear e7))
          go_ret
          exact ⟨by rw [HQ2.out]; rfl, Below.after HBW.out (Below.after HB5.out (Below.after HB6.out HB7.out))⟩
    | true =>
      have HK : Hid (askI kd = true) := hk
      have HV : Hid (Ints U (.slice ya yn yc) D) := by
        show Ints _ _ _
        rw [← hD, askD, hk]
        exact HDU.out
      clear hD hk
      go_enter Try.func22, Try.ntmps22
      go_wp2_with (first
        | (go_at_call 24; rw [← HUU.out]; refine (args_any i (by omega) HAU.out true HA0.out).mono ?_; rintro e w2 ⟨rfl, rfl⟩)
        | (go_at_call 35; refine (asked_to _ _ true HK.out).mono ?_; rintro e w2 ⟨rfl, rfl⟩))
      go_at_call 26
      refine (ndimsOf_any HNU.out HAU.out i (by omega) HA0.out hlen).mono ?_
      rintro e w2 ⟨v2, xs, rfl, hR, hb2⟩
      have HR : Hid (Row w2 U.heap.size v2 (dimsAt L ar) xs) := hR
      have HB2 : Hid (Below U.heap.size U w2) := hb2
      have HV2 : Hid (Ints w2 (.slice ya yn yc) D) := HV.out.later hb2
      have HD2 : Hid (Ints w2 (.slice ya yn yc) ds) := HDU.out.later hb2
      have HL2 : Hid (IntsL w2 v2 (dimsAt L ar)) := hR.intsL (by rw [dimsAt_len]; unfold big; omega)
      have w1 := cell_later hb2 u1
      have w3 := cell_later hb2 u3
      have w4 := cell_later hb2 u4
      clear hR hb2 u1 u2 u3 u4
      obtain ⟨qm, hqm⟩ : ∃ qm, may kd n D (dimsAt L ar) = qm := ⟨_, rfl⟩
      have HM : Hid (may kd n D (dimsAt L ar) = qm) := hqm
      cases qm with
      | false =>
        have HQ2 : Hid (q = false) := by show _ = _; rw [← HQ.out, nodeB, HDD.out, hqm, Bool.false_and, Bool.and_false]
        clear hqm
        go_wp2_with (go_at_call 25; refine (may_any kd n false HV2.out HL2.out HM.out).mono ?_; rintro e w5 ⟨rfl, hb5⟩; have HB5 : Hid (Below w2.heap.size w2 w5) := hb5; clear hb5)
        go_ret
        exact ⟨by rw [HQ2.out]; rfl, Below.after HB.out (Below.after HB2.out HB5.out)⟩
      | true =>
        obtain ⟨ok, hok⟩ : ∃ ok, inf kd.toNat n D ((dimsAt L ar).getD 0 []) ((dimsAt L ar).getD 1 []) = ok := ⟨_, rfl⟩
        have HOK : Hid (inf kd.toNat n D ((dimsAt L ar).getD 0 []) ((dimsAt L ar).getD 1 []) = ok) := hok
        have HBW : Hid (Below w.heap.size w w2) := Below.after HB.out HB2.out
        cases ok with
        | false =>
          have HQ2 : Hid (q = false) := by show _ = _; rw [← HQ.out, nodeB, HDD.out, hok, Bool.false_and, Bool.and_false, Bool.and_false]
          clear hqm hok
          go_wp2_with (first
            | (go_at_call 25; refine (may_any kd n true HV2.out HL2.out HM.out).mono ?_; rintro e w5 ⟨rfl, hb5⟩; have HB5 : Hid (Below w2.heap.size w2 w5) := hb5; have t1 := cell_later hb5 w1; have t3 := cell_later hb5 w3; have t4 := cell_later hb5 w4; clear hb5)
            | (go_at_call 27; refine (infer_to kd n HM.out (HV2.out.later HB5.out) (HR.out.later HB5.out) false HOK.out).mono ?_; rintro e w6 ⟨x6, z6, rfl, ho6, hz6, hb6⟩; have HB6 : Hid (Below w5.heap.size w5 w6) := hb6; have r3 := cell_later hb6 t3; obtain ⟨s6, n6, c6, rfl⟩ := ho6.ints.shape3; clear hb6 ho6 hz6))
          go_ret
          exact ⟨by rw [HQ2.out]; rfl, Below.after HBW.out (Below.after HB5.out HB6.out)⟩
        | true =>
          obtain ⟨qe, hqe⟩ : ∃ qe, (ds == inD kd.toNat n D ((dimsAt L ar).getD 0 []) ((dimsAt L ar).getD 1 [])) = qe := ⟨_, rfl⟩
          have HE : Hid ((ds == inD kd.toNat n D ((dimsAt L ar).getD 0 []) ((dimsAt L ar).getD 1 [])) = qe) := hqe
          have HQ2 : Hid (q = qe) := by show _ = _; rw [← HQ.out, nodeB, HDD.out, HA0.out, hqm, hok, ← hqe]; simp only [Bool.true_and]; exact (Bool.beq_eq_decide_eq ..).symm
          clear hqm hok hqe
          go_wp2_with (first
            | (go_at_call 25; refine (may_any kd n true HV2.out HL2.out HM.out).mono ?_; rintro e w5 ⟨rfl, hb5⟩; have HB5 : Hid (Below w2.heap.size w2 w5) := hb5; have t1 := cell_later hb5 w1; have t3 := cell_later hb5 w3; have t4 := cell_later hb5 w4; clear hb5)
            | (go_at_call 27; refine (infer_to kd n HM.out (HV2.out.later HB5.out) (HR.out.later HB5.out) true HOK.out).mono ?_; rintro e w6 ⟨x6, z6, rfl, ho6, hz6, hb6⟩; have HB6 : Hid (Below w5.heap.size w5 w6) := hb6; have r3 := cell_later hb6 t3; have HI6 : Hid (Ints w6 x6 z6) := ho6.ints; have HZ6 : Hid (z6 = _) := hz6 rfl; obtain ⟨s6, n6, c6, rfl⟩ := ho6.ints.shape3; clear hb6 ho6 hz6)
            | (go_at_call 11; refine (eqn_to qe (a := ds) (b := z6) ?_ ?_ ?_).mono ?_; exact (HD2.out.later HB5.out).later HB6.out; exact HI6.out; (rw [HZ6.out]; exact HE.out); rintro r w7 ⟨rfl, m7, e7⟩; have HB7 : Hid (Below w6.heap.size w6 w7) := (by show Below _ _ _; rw [e7]; exact Below.drewN (Below.refl _ _) _); clear e7))
          go_ret
          exact ⟨by rw [HQ2.out]; rfl, Below.after HBW.out (Below.after HB5.out (Below.after HB6.out HB7.out))⟩
end Go.Proofs.Ytjfkhfahpjdidaa
