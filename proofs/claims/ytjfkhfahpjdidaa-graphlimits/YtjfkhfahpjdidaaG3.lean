/- Contract: graph's Nodes. -/
import Derived.Test.YtjfkhfahpjdidaaG2
namespace Go.Proofs.Ytjfkhfahpjdidaa
set_option linter.unusedVariables false
set_option linter.unusedSimpArgs false
set_option maxRecDepth 100000
open Go.RowKit

set_option maxHeartbeats 8000000 in
theorem nodes8_any {v : Value} {L : List Nod} {w : World} (h : NodesL w v L) (hs : Small L) (q : Bool) (hq : nodesB L = q) :
    Calls Try.prog 17 #[v] w fun e w' => e = .returned (.int .i64 (if q then 0 else 1)) ∧ Below w.heap.size w w' := by
  have HN : Hid (NodesL w v L) := h
  have HS : Hid (Small L) := hs
  have HQ : Hid (nodesB L = q) := hq
  obtain ⟨va, vc, rfl, hc1, hc2⟩ := h.shape
  unfold big at hc2
  clear h hs hq
  go_enter Try.func17, Try.ntmps17
  go_wp2_with fail
  refine wp_scope_jumps 0 (fun a' w' => (Below w.heap.size w w' ∧ q = false) ∧ ∃ (u0 u1 u2 u3 u4 u5 u6 u7 u8 u9 u10 u11 u12 u13 u14 u15 u16 u17 u18 u19 u20 u21 u22 u23 u24 u25 u26 u27 u28 u29 u30 u31 u32 u33 u34 u35 u36 u37 u38 u39 u40 u41 : Value), a' = { tmps := #[u0, u1, u2, u3, u4, u5, u6, u7, u8, u9, u10, u11, u12, u13, u14, u15, u16, u17, u18, u19, u20, u21, u22, u23, u24, u25, u26, u27, u28, u29, u30, u31, u32, u33, u34, u35, u36, u37, u38, u39, u40, u41], defers := [] }) (fun _ _ => 0) rfl ?_ ?_
  · by_cases h240 : 240 < L.length
    · have g1 : (240 : Int) < (L.length : Int) := by omega
      have HQ2 : Hid (q = false) := by show _ = _; rw [← HQ.out, nodesB, decide_eq_false (by omega)]; rfl
      go_wp2
      go_step3
      exact ⟨rfl, ⟨Below.refl _ _, HQ2.out⟩, _, _, _, _, _, _, _, _, _, _, _, _, _, _, _, _, _, _, _, _, _, _, _, _, _, _, _, _, _, _, _, _, _, _, _, _, _, _, _, _, _, _, rfl⟩
    · have g1 : ¬ (240 : Int) < (L.length : Int) := by omega
      have HQ2 : Hid (nodesN L L.length = q) := by show _ = _; rw [← HQ.out, nodesB, decide_eq_true (by omega), Bool.true_and]
      go_wp2
      go_loopw [12] (fun i w' => ∃ k : Nat, k ≤ L.length ∧ i = .int .i64 k ∧ Hid (nodesN L k = true) ∧ Hid (Below w.heap.size w w')) (fun i _ => L.length - (intOf i).toNat)
      case atStart => exact ⟨0, Nat.zero_le _, rfl, rfl, Below.refl _ _⟩
      case round =>
        obtain ⟨k, hk, rfl, HP, HB⟩ := hrel
        by_cases hlt : k < L.length
        · have HK : Hid (L[k].args.length ≤ 100000000) := by have := HS.out.a k hlt; show _ ≤ _; omega
          obtain ⟨b, off, x, y, rfl, hnd⟩ := (HN.out.later HB.out).row k hlt
          obtain ⟨t, ht⟩ : ∃ t, L[k] = t := ⟨_, rfl⟩
          have HNB : Hid (nodeB L k t = (decide (inE t.kind t.n (askD t) (L.take k) t.args = 0) && decide (inR t.kind t.n (askD t) (L.take k) t.args = t.dims))) := nodeB_in (by omega) t
          have HST : Hid (nodesN L (k + 1) = (nodesN L k && nodeB L k t)) := by show _ = _; rw [nodesN_step hlt, ht]
          have HNT : Hid (NodesL wr (.slice (some ⟨b, off, none⟩) k vc) (L.take k)) := (HN.out.later HB.out).take k (by omega)
          rw [ht] at hnd HK
          obtain ⟨nm, kd, ar, ds, n⟩ := t
          obtain ⟨c0, c1, c2, c3, c4, ha, hd, hz⟩ := hnd
          simp only at c0 c1 c2 c3 c4 ha hd hz
          have HA : Hid (Ints wr x ar) := ha
          have HD : Hid (Ints wr y ds) := hd
          obtain ⟨xa, xn, xc, rfl⟩ := ha.shape3
          obtain ⟨ya, yn, yc, rfl⟩ := hd.shape3
          have g2 : (k : Int) < L.length := by omega
          clear ha hd hz ht
          have HKA : Hid (ar.length ≤ 100000000) := HK.out
          obtain ⟨V, hV⟩ : ∃ V, V = wr.alloc (.cells #[.string nm, .int .i64 kd, .slice xa xn xc, .slice ya yn yc, .int .i64 n] 42) := ⟨_, rfl⟩
          have HVV : Hid (V = wr.alloc (.cells #[.string nm, .int .i64 kd, .slice xa xn xc, .slice ya yn yc, .int .i64 n] 42)) := hV
          have HPV : Hid (Below wr.heap.size wr V) := by show Below _ _ _; rw [hV]; exact Below.push (Below.refl _ _) _
          have v0 : V.cell? ⟨wr.heap.size, 0, none⟩ = some (.string nm) := by rw [hV]; simp
          have v1 : V.cell? ⟨wr.heap.size, 1, none⟩ = some (.int .i64 kd) := by rw [hV]; simp
          have v2 : V.cell? ⟨wr.heap.size, 2, none⟩ = some (.slice xa xn xc) := by rw [hV]; simp
          have v3 : V.cell? ⟨wr.heap.size, 3, none⟩ = some (.slice ya yn yc) := by rw [hV]; simp
          have v4 : V.cell? ⟨wr.heap.size, 4, none⟩ = some (.int .i64 n) := by rw [hV]; simp
          have g3 : (k : Int) ≤ vc := by omega
          have g4 : (0 : Int) ≤ k := by omega
          have HAV : Hid (Ints V (.slice xa xn xc) ar) := HA.out.later HPV.out
          have HDV : Hid (Ints V (.slice ya yn yc) ds) := HD.out.later HPV.out
          have HNV : Hid (NodesL V (.slice (some ⟨b, off, none⟩) k vc) (L.take k)) := HNT.out.later HPV.out
          obtain ⟨DD, hDD⟩ : ∃ DD, (if askI kd then ds else []) = DD := ⟨_, rfl⟩
          have HDD : Hid ((if askI kd then ds else []) = DD) := hDD
          obtain ⟨E, hE⟩ : ∃ E, inE kd n DD (L.take k) ar = E := ⟨_, rfl⟩
          have HE : Hid (inE kd n DD (L.take k) ar = E) := hE
          obtain ⟨R, hR⟩ : ∃ R, inR kd n DD (L.take k) ar = R := ⟨_, rfl⟩
          have HR : Hid (inR kd n DD (L.take k) ar = R) := hR
          have HNB2 : Hid (nodeB L k ⟨nm, kd, ar, ds, n⟩ = (decide (E = 0) && decide (R = ds))) := by
            have h := HNB.out
            show _ = _
            rw [h, ← hE, ← hR, ← hDD]
            rfl
          clear hV hDD hE hR
          go_wp2_with fail
          rw [← HVV.out]
          go_region_held3 (fun w' => w'.cell? ⟨wr.heap.size, 0, none⟩ = some (.string nm) ∧ w'.cell? ⟨wr.heap.size, 1, none⟩ = some (.int .i64 kd) ∧ w'.cell? ⟨wr.heap.size, 2, none⟩ = some (.slice xa xn xc) ∧ w'.cell? ⟨wr.heap.size, 3, none⟩ = some (.slice ya yn yc) ∧ w'.cell? ⟨wr.heap.size, 4, none⟩ = some (.int .i64 n)) (first | assumption | go_keep)
            (first
              | (go_at_call 30; refine (asked8_any (D := ds) ?_ ⟨xa, xn, xc, rfl⟩ DD HDD.out).mono ?_; exact HDV.out.later (Below.refl _ _).drew; rintro r w2 ⟨vd, rfl, hd2, hb2⟩; obtain ⟨da, dn, dc, rfl⟩ := hd2.shape3; have HD2 : Hid (Ints w2 (.slice da dn dc) DD) := hd2; have HB2 : Hid (Below V.heap.size V w2) := Below.after (Below.refl _ _).drew hb2; have a_0 := cell_later HB2.out v0; have a_1 := cell_later HB2.out v1; have a_2 := cell_later HB2.out v2; have a_3 := cell_later HB2.out v3; have a_4 := cell_later HB2.out v4; clear hb2 hd2)
              | (go_at_call 23; refine (made_any (L := L.take k) (A := ar) (d := DD) kd n ?_ ?_ ?_ HKA.out E R HE.out HR.out).mono ?_; exact HNV.out.later HB2.out; exact HD2.out; exact HAV.out.later HB2.out; rintro r w3 ⟨vr, rfl, ho, hb3⟩; obtain ⟨ra, rn, rc, rfl⟩ := ho.ints.shape3; have HR3 : Hid (Ints w3 (.slice ra rn rc) R) := ho.ints; have HB3 : Hid (Below V.heap.size V w3) := Below.after HB2.out hb3; have b_0 := cell_later HB3.out v0; have b_1 := cell_later HB3.out v1; have b_2 := cell_later HB3.out v2; have b_3 := cell_later HB3.out v3; have b_4 := cell_later HB3.out v4; clear hb3 ho))
          have HBX : Hid (Below w.heap.size w w3) := Below.after (Below.after HB.out HPV.out) HB3.out
          have HD3 : Hid (Ints w3 (.slice ya yn yc) ds) := HDV.out.later HB3.out
          clear a_0 a_1 a_2 a_3 a_4 v0 v1 v2 v3 v4 c0 c1 c2 c3 c4
          by_cases hE0 : E = 0
          · subst hE0
            cases hx : (R == ds) with
            | false =>
              have HX : Hid ((R == ds) = false) := hx
              have HQ3 : Hid (q = false) := by
                have hne : ¬ R = ds := by simpa using hx
                show _ = _
                rw [← HQ2.out]
                exact nodesN_not (k := k + 1) (by rw [HST.out, HNB2.out, decide_eq_false hne, Bool.and_false, Bool.and_false]) _ (by omega)
              clear hx
              go_wp2_with (go_at_call 31; refine (sEq_to false HR3.out HD3.out HX.out).mono ?_; rintro e w4 ⟨rfl, m4, rfl⟩)
              go_step3
              exact ⟨rfl, ⟨Below.drewN HBX.out _, HQ3.out⟩, _, _, _, _, _, _, _, _, _, _, _, _, _, _, _, _, _, _, _, _, _, _, _, _, _, _, _, _, _, _, _, _, _, _, _, _, _, _, _, _, _, _, rfl⟩
            | true =>
              have HX : Hid ((R == ds) = true) := hx
              have HP2 : Hid (nodesN L (k + 1) = true) := by
                have he : R = ds := by simpa using hx
                show _ = _
                rw [HST.out, HNB2.out, decide_eq_true he, HP.out]
                rfl
              clear hx
              go_wp2_with (go_at_call 31; refine (sEq_to true HR3.out HD3.out HX.out).mono ?_; rintro e w4 ⟨rfl, m4, rfl⟩)
              go_roundw
              case rel => exact ⟨k + 1, by omega, by go_num, HP2.out, Below.drewN HBX.out _⟩
              case measure => simp [intOf]; omega
          · have hb : (E != 0) = true := by rw [bne_iff_ne]; exact hE0
            have HQ3 : Hid (q = false) := by
              show _ = _
              rw [← HQ2.out]
              exact nodesN_not (k := k + 1) (by rw [HST.out, HNB2.out, decide_eq_false hE0, Bool.false_and, Bool.and_false]) _ (by omega)
            clear hE0
            go_wp2
            go_step3
            exact ⟨rfl, ⟨HBX.out, HQ3.out⟩, _, _, _, _, _, _, _, _, _, _, _, _, _, _, _, _, _, _, _, _, _, _, _, _, _, _, _, _, _, _, _, _, _, _, _, _, _, _, _, _, _, _, rfl⟩
        · obtain rfl : k = L.length := by omega
          have HQ3 : Hid (q = true) := by show _ = _; rw [← HQ2.out]; exact HP.out
          go_wp2
          rw [jump_ret]
          go_ret
          exact ⟨by rw [HQ3.out]; rfl, HB.out⟩
  · rintro a w' ⟨⟨hbj, hq⟩, u0, u1, u2, u3, u4, u5, u6, u7, u8, u9, u10, u11, u12, u13, u14, u15, u16, u17, u18, u19, u20, u21, u22, u23, u24, u25, u26, u27, u28, u29, u30, u31, u32, u33, u34, u35, u36, u37, u38, u39, u40, u41, rfl⟩
    have HBJ : Hid (Below w.heap.size w w') := hbj
    clear hbj
    subst hq
    go_wp2
    rw [jump_ret]
    go_ret
    exact ⟨rfl, HBJ.out⟩
end Go.Proofs.Ytjfkhfahpjdidaa
