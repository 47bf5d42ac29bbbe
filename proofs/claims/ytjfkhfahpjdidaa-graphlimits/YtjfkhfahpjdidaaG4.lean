/- Contract: graph's Check. -/
import Derived.Test.YtjfkhfahpjdidaaG3
namespace Go.Proofs.Ytjfkhfahpjdidaa
set_option linter.unusedVariables false
set_option linter.unusedSimpArgs false
set_option maxRecDepth 100000
open Go.RowKit

theorem str_ne {a b : ByteArray} (h : ¬ a = b) : (a.toList == b.toList) = false := by
  rw [beq_eq_false_iff_ne]
  intro e
  rw [Lib.toList_data, Lib.toList_data] at e
  exact h (by cases a; cases b; simp only [ByteArray.mk.injEq]; exact Array.toList_inj.1 e)
set_option maxHeartbeats 16000000 in
theorem check8_any {v : Value} {L : List Nod} {w : World} (h : NodesL w v L) (hs : Small L) (q : Bool) (hq : grpB L = q) :
    Calls Try.prog 19 #[v] w fun e w' => e = .returned (.int .i64 (if q then 0 else 1)) ∧ Below w.heap.size w w' := by
  have HN : Hid (NodesL w v L) := h
  have HS : Hid (Small L) := hs
  have HQ : Hid (grpB L = q) := hq
  obtain ⟨va, vc, rfl, hc1, hc2⟩ := h.shape
  have hLn := hs.n
  unfold big at hc2
  clear h hs hq
  go_enter Try.func19, Try.ntmps19
  go_wp2_with fail
  refine wp_scope_jumps 0 (fun a' w' => (Below w.heap.size w w' ∧ q = false) ∧ ∃ (u0 u1 u2 u3 u4 u5 u6 u7 u8 u9 u10 u11 u12 u13 u14 u15 u16 u17 u18 u19 u20 u21 u22 u23 u24 u25 u26 u27 u28 u29 u30 u31 u32 u33 u34 u35 u36 u37 u38 u39 u40 u41 u42 u43 u44 u45 u46 u47 u48 u49 u50 u51 u52 u53 u54 u55 u56 u57 u58 u59 u60 u61 u62 u63 u64 u65 u66 u67 u68 u69 : Value), a' = { tmps := #[u0, u1, u2, u3, u4, u5, u6, u7, u8, u9, u10, u11, u12, u13, u14, u15, u16, u17, u18, u19, u20, u21, u22, u23, u24, u25, u26, u27, u28, u29, u30, u31, u32, u33, u34, u35, u36, u37, u38, u39, u40, u41, u42, u43, u44, u45, u46, u47, u48, u49, u50, u51, u52, u53, u54, u55, u56, u57, u58, u59, u60, u61, u62, u63, u64, u65, u66, u67, u68, u69], defers := [] }) (fun _ _ => 0) rfl ?_ ?_
  · have gw : IntKind.i64.wrap ((L.length : Int) - 1) = (L.length : Int) - 1 := by simp [IntKind.wrap, IntKind.signed, IntKind.bits]; omega
    by_cases hl0 : L.length = 0
    · have g0 : (L.length : Int) - 1 < 0 := by omega
      have HQ2 : Hid (q = false) := by show _ = _; rw [← HQ.out]; exact grpB_big (by omega)
      go_wp2
      go_step3
      exact ⟨rfl, ⟨Below.refl _ _, HQ2.out⟩, _, _, _, _, _, _, _, _, _, _, _, _, _, _, _, _, _, _, _, _, _, _, _, _, _, _, _, _, _, _, _, _, _, _, _, _, _, _, _, _, _, _, _, _, _, _, _, _, _, _, _, _, _, _, _, _, _, _, _, _, _, _, _, _, _, _, _, _, _, _, rfl⟩
    · by_cases hl24 : 24 < L.length
      · have g0 : ¬ (L.length : Int) - 1 < 0 := by omega
        have g1 : (24 : Int) ≤ (L.length : Int) - 1 := by omega
        have HQ2 : Hid (q = false) := by show _ = _; rw [← HQ.out]; exact grpB_big (by omega)
        go_wp2
        go_step3
        exact ⟨rfl, ⟨Below.refl _ _, HQ2.out⟩, _, _, _, _, _, _, _, _, _, _, _, _, _, _, _, _, _, _, _, _, _, _, _, _, _, _, _, _, _, _, _, _, _, _, _, _, _, _, _, _, _, _, _, _, _, _, _, _, _, _, _, _, _, _, _, _, _, _, _, _, _, _, _, _, _, _, _, _, _, _, rfl⟩
      · have g0 : ¬ (L.length : Int) - 1 < 0 := by omega
        have g1 : ¬ (24 : Int) ≤ (L.length : Int) - 1 := by omega
        have HL1 : Hid (1 ≤ L.length ∧ L.length ≤ 24) := by show _ ∧ _; omega
        cases hn : nodesB L with
        | false =>
          have HNB : Hid (nodesB L = false) := hn
          have HQ2 : Hid (q = false) := by show _ = _; rw [← HQ.out]; exact grpB_nodes hn
          clear hn
          go_wp2_with (go_at_call 17; refine (nodes8_any HN.out HS.out false HNB.out).mono ?_; rintro e w2 ⟨rfl, hb2⟩; have HB2 : Hid (Below w.heap.size w w2) := hb2; clear hb2)
          go_step3
          exact ⟨rfl, ⟨HB2.out, HQ2.out⟩, _, _, _, _, _, _, _, _, _, _, _, _, _, _, _, _, _, _, _, _, _, _, _, _, _, _, _, _, _, _, _, _, _, _, _, _, _, _, _, _, _, _, _, _, _, _, _, _, _, _, _, _, _, _, _, _, _, _, _, _, _, _, _, _, _, _, _, _, _, _, rfl⟩
        | true =>
          have HNB : Hid (nodesB L = true) := hn
          clear hn
          go_wp2_with (go_at_call 17; refine (nodes8_any HN.out HS.out true HNB.out).mono ?_; rintro e w2 ⟨rfl, hb2⟩; have HB2 : Hid (Below w.heap.size w w2) := hb2; clear hb2)
          go_loopw [24] (fun i w' => ∃ k : Nat, k ≤ L.length ∧ i = .int .i64 k ∧ Hid (∀ j (h : j < L.length), j < k → grpI L j = true) ∧ Hid (Below w.heap.size w w')) (fun i _ => L.length - (intOf i).toNat)
          case atStart => exact ⟨0, Nat.zero_le _, rfl, fun j h1 h2 => by omega, HB2.out⟩
          case round =>
            obtain ⟨k, hk, rfl, HF, HB⟩ := hrel
            by_cases hlt : k < L.length
            · obtain ⟨b, off, x, y, rfl, hnd⟩ := (HN.out.later HB.out).row k hlt
              obtain ⟨t, ht⟩ : ∃ t, L[k] = t := ⟨_, rfl⟩
              have HLT : Hid (L[k] = t) := ht
              rw [ht] at hnd
              obtain ⟨nm, kd, ar, ds, n⟩ := t
              obtain ⟨c0, c1, c2, c3, c4, ha, hd, hz⟩ := hnd
              simp only at c0 c1 c2 c3 c4 ha hd hz
              obtain ⟨xa, xn, xc, rfl⟩ := ha.shape3
              obtain ⟨ya, yn, yc, rfl⟩ := hd.shape3
              obtain ⟨V, hV⟩ : ∃ V, V = wr.alloc (.cells #[.string nm, .int .i64 kd, .slice xa xn xc, .slice ya yn yc, .int .i64 n] 42) := ⟨_, rfl⟩
              have HVV : Hid (V = wr.alloc (.cells #[.string nm, .int .i64 kd, .slice xa xn xc, .slice ya yn yc, .int .i64 n] 42)) := hV
              have HBV : Hid (Below w.heap.size w V) := by show Below _ _ _; rw [hV]; exact Below.push HB.out _
              have v0 : V.cell? ⟨wr.heap.size, 0, none⟩ = some (.string nm) := by rw [hV]; simp
              have v1 : V.cell? ⟨wr.heap.size, 1, none⟩ = some (.int .i64 kd) := by rw [hV]; simp
              have v4 : V.cell? ⟨wr.heap.size, 4, none⟩ = some (.int .i64 n) := by rw [hV]; simp
              have gk : (k : Int) < L.length := by omega
              have gk0 : (0 : Int) ≤ k := by omega
              have gkc : (k : Int) ≤ vc := by omega
              clear ha hd hz ht hV
              by_cases hk15 : 15 < kd
              · have HQ2 : Hid (q = false) := by show _ = _; rw [← HQ.out]; exact grp_kind hlt (by rw [HLT.out]; exact hk15)
                go_upto_region 6 with fail
                rw [← HVV.out]
                go_wp2
                go_step3
                exact ⟨rfl, ⟨HBV.out, HQ2.out⟩, _, _, _, _, _, _, _, _, _, _, _, _, _, _, _, _, _, _, _, _, _, _, _, _, _, _, _, _, _, _, _, _, _, _, _, _, _, _, _, _, _, _, _, _, _, _, _, _, _, _, _, _, _, _, _, _, _, _, _, _, _, _, _, _, _, _, _, _, _, _, rfl⟩
              · by_cases hlo : n < -1073741824
                · have HQ2 : Hid (q = false) := by show _ = _; rw [← HQ.out]; exact grp_low hlt (by rw [HLT.out]; exact hlo)
                  go_upto_region 6 with fail
                  rw [← HVV.out]
                  go_wp2
                  go_step3
                  exact ⟨rfl, ⟨HBV.out, HQ2.out⟩, _, _, _, _, _, _, _, _, _, _, _, _, _, _, _, _, _, _, _, _, _, _, _, _, _, _, _, _, _, _, _, _, _, _, _, _, _, _, _, _, _, _, _, _, _, _, _, _, _, _, _, _, _, _, _, _, _, _, _, _, _, _, _, _, _, _, _, _, _, _, rfl⟩
                · by_cases hhi : 1073741824 < n
                  · have HQ2 : Hid (q = false) := by show _ = _; rw [← HQ.out]; exact grp_high hlt (by rw [HLT.out]; exact hhi)
                    go_upto_region 6 with fail
                    rw [← HVV.out]
                    go_wp2
                    go_step3
                    exact ⟨rfl, ⟨HBV.out, HQ2.out⟩, _, _, _, _, _, _, _, _, _, _, _, _, _, _, _, _, _, _, _, _, _, _, _, _, _, _, _, _, _, _, _, _, _, _, _, _, _, _, _, _, _, _, _, _, _, _, _, _, _, _, _, _, _, _, _, _, _, _, _, _, _, _, _, _, _, _, _, _, _, _, rfl⟩
                  · cases hnb : nameB nm with
                    | false =>
                      have HNM : Hid (nameB nm = false) := hnb
                      have HQ2 : Hid (q = false) := by show _ = _; rw [← HQ.out]; exact grp_name hlt (by rw [HLT.out]; exact hnb)
                      clear hnb
                      go_upto_region 6 with fail
                      rw [← HVV.out]
                      go_wp2_with (go_at_call 33; refine (name_to nm _ false HNM.out).mono ?_; rintro e w3 ⟨rfl, hb3⟩; have HB3 : Hid (Below w.heap.size w w3) := Below.after HBV.out hb3; clear hb3)
                      go_step3
                      exact ⟨rfl, ⟨HB3.out, HQ2.out⟩, _, _, _, _, _, _, _, _, _, _, _, _, _, _, _, _, _, _, _, _, _, _, _, _, _, _, _, _, _, _, _, _, _, _, _, _, _, _, _, _, _, _, _, _, _, _, _, _, _, _, _, _, _, _, _, _, _, _, _, _, _, _, _, _, _, _, _, _, _, _, rfl⟩
                    | true =>
                      have HNM : Hid (nameB nm = true) := hnb
                      clear hnb
                      go_upto_region 6 with fail
                      rw [← HVV.out]
                      go_wp2_with (go_at_call 33; refine (name_to nm _ true HNM.out).mono ?_; rintro e w3 ⟨rfl, hb3⟩; have HB3 : Hid (Below V.heap.size V w3) := hb3; clear hb3)
                      have V0 : Hid (V.cell? ⟨wr.heap.size, 0, none⟩ = some (.string nm)) := v0
                      have HG : Hid (¬ 15 < kd ∧ ¬ n < -1073741824 ∧ ¬ 1073741824 < n) := ⟨by omega, by omega, by omega⟩
                      clear v0 v1 v4 c0 c1 c2 c3 c4 hk15 hlo hhi
                      go_loopw [52] (fun i w' => ∃ p : Nat, p ≤ k ∧ i = .int .i64 p ∧ Hid (∀ j (h : j < L.length), j < p → ¬ L[j].name = nm) ∧ Hid (Below V.heap.size V w')) (fun i _ => k - (intOf i).toNat)
                      case atStart => exact ⟨0, Nat.zero_le _, rfl, fun j h1 h2 => by omega, HB3.out⟩
                      case round =>
                        obtain ⟨p, hp, rfl, HFP, HBP⟩ := hrel
                        by_cases hpk : p < k
                        · obtain ⟨b2, off2, x2, y2, eb, hnd⟩ := (HN.out.later (Below.after HBV.out HBP.out)).row p (by omega)
                          simp only [Option.some.injEq, Addr.mk.injEq] at eb
                          obtain ⟨rfl, rfl, _⟩ := eb
                          obtain ⟨t2, ht2⟩ : ∃ t, L[p]'(by omega) = t := ⟨_, rfl⟩
                          have HLT2 : Hid (L[p]'(by omega) = t2) := ht2
                          rw [ht2] at hnd
                          obtain ⟨nm2, kd2, ar2, ds2, n2⟩ := t2
                          obtain ⟨c0, c1, c2, c3, c4, ha, hd, hz⟩ := hnd
                          simp only at c0 c1 c2 c3 c4 ha hd hz
                          obtain ⟨za, zn, zc, rfl⟩ := ha.shape3
                          obtain ⟨ta, tn, tc, rfl⟩ := hd.shape3
                          have gp : (p : Int) < k := by omega
                          have hv0 := cell_later HBP.out V0.out
                          have hv0' := cell_later (Below.push (Below.refl _ _) (.cells #[.string nm2, .int .i64 kd2, .slice za zn zc, .slice ta tn tc, .int .i64 n2] 42)) hv0
                          clear ha hd hz ht2
                          by_cases e : nm2 = nm
                          · have HQ2 : Hid (q = false) := by show _ = _; rw [← HQ.out]; exact grp_twice hlt hpk (by rw [HLT2.out, HLT.out]; exact e)
                            have hb : (nm2.toList == nm.toList) = true := by rw [e]; simp
                            clear e
                            go_wp2
                            go_step3
                            exact ⟨rfl, ⟨Below.push (Below.after HBV.out HBP.out) _, HQ2.out⟩, _, _, _, _, _, _, _, _, _, _, _, _, _, _, _, _, _, _, _, _, _, _, _, _, _, _, _, _, _, _, _, _, _, _, _, _, _, _, _, _, _, _, _, _, _, _, _, _, _, _, _, _, _, _, _, _, _, _, _, _, _, _, _, _, _, _, _, _, _, _, rfl⟩
                          · have HFP2 : Hid (∀ j (h : j < L.length), j < p + 1 → ¬ L[j].name = nm) := fun j h1 h2 => by
                              by_cases ej : j = p
                              · subst ej; rw [HLT2.out]; exact e
                              · exact HFP.out j h1 (by omega)
                            have hb := str_ne e
                            clear e
                            go_wp2
                            go_roundw
                            case rel => exact ⟨p + 1, by omega, by go_num, HFP2.out, Below.push HBP.out _⟩
                            case measure => simp [intOf]; omega
                        · have hpk' : p = k := by omega
                          subst hpk'
                          have HGK : Hid (grpI L p = true) := by
                            obtain ⟨h1, h2, h3⟩ := HG.out
                            have hl := HLT.out
                            exact grpI_yes hlt (by rw [hl]; exact h1) (by rw [hl]; exact h2) (by rw [hl]; exact h3) (by rw [hl]; exact HNM.out) (fun j hj => by rw [hl]; exact HFP.out j (by omega) hj)
                          go_wp2
                          go_roundw
                          case rel => exact ⟨p + 1, by omega, by go_num, fun j h1 h2 => by
                            by_cases e : j = p
                            · subst e; exact HGK.out
                            · exact HF.out j h1 (by omega), Below.after HBV.out HBP.out⟩
                          case measure => simp [intOf]; omega
            · obtain rfl : k = L.length := by omega
              obtain ⟨hl1, hl2⟩ := HL1.out
              have HGL := grpB_last hl1 hl2 HNB.out (fun i hi => HF.out i hi hi)
              have HGL2 : Hid (grpB L = decide (prd (L[L.length - 1]'(by omega)).dims = 1)) := HGL
              have hok := nodeB_okd (nodesB_at HNB.out (L.length - 1) (by omega))
              obtain ⟨b, off, x, y, rfl, hnd⟩ := (HN.out.later HB.out).row (L.length - 1) (by omega)
              generalize L[L.length - 1]'(by omega) = t at HGL2 hok hnd
              obtain ⟨m, hm⟩ : ∃ m : Nat, L.length - 1 = m := ⟨_, rfl⟩
              rw [hm] at hnd
              have gm : (L.length : Int) - 1 = (m : Int) := by omega
              have d3 := hnd.c3
              have HD : Hid (Ints wr y t.dims) := hnd.d
              have HM : Hid (Lib.maxOf t.dims = 1 ↔ prd t.dims = 1) := maxOf_prd hok
              have HLD : Hid (1 ≤ t.dims.length) := (okd_parts hok).1
              obtain ⟨ya, yn, yc, rfl⟩ := hnd.d.shape3
              obtain ⟨mx, hmx⟩ : ∃ mx, Lib.maxOf t.dims = mx := ⟨_, rfl⟩
              have HMX : Hid (Lib.maxOf t.dims = mx) := hmx
              have gm1 : (m : Int) < L.length := by omega
              have gm0 : (0 : Int) ≤ m := by omega
              clear HGL hok hnd hmx
              by_cases e1 : mx = 1
              · have HQ2 : Hid (q = true) := by
                  show _ = _
                  rw [← HQ.out, HGL2.out]
                  exact decide_eq_true (HM.out.1 (HMX.out.trans e1))
                have hb : (mx != 1) = false := by rw [e1]; rfl
                clear e1
                go_wp2_with (go_at_call 34; refine (max8_to HD.out HLD.out).mono ?_; rw [HMX.out]; rintro e w4 ⟨rfl, rfl⟩)
                rw [jump_ret]
                go_ret
                exact ⟨by rw [HQ2.out]; rfl, HB.out⟩
              · have HQ2 : Hid (q = false) := by
                  show _ = _
                  rw [← HQ.out, HGL2.out]
                  exact decide_eq_false fun h => e1 (by rw [← HMX.out]; exact HM.out.2 h)
                have hb : (mx != 1) = true := by rw [bne_iff_ne]; exact e1
                clear e1
                go_wp2_with (go_at_call 34; refine (max8_to HD.out HLD.out).mono ?_; rw [HMX.out]; rintro e w4 ⟨rfl, rfl⟩)
                go_step3
                exact ⟨rfl, ⟨HB.out, HQ2.out⟩, _, _, _, _, _, _, _, _, _, _, _, _, _, _, _, _, _, _, _, _, _, _, _, _, _, _, _, _, _, _, _, _, _, _, _, _, _, _, _, _, _, _, _, _, _, _, _, _, _, _, _, _, _, _, _, _, _, _, _, _, _, _, _, _, _, _, _, _, _, _, rfl⟩
  · rintro a w' ⟨⟨hbj, hq⟩, u0, u1, u2, u3, u4, u5, u6, u7, u8, u9, u10, u11, u12, u13, u14, u15, u16, u17, u18, u19, u20, u21, u22, u23, u24, u25, u26, u27, u28, u29, u30, u31, u32, u33, u34, u35, u36, u37, u38, u39, u40, u41, u42, u43, u44, u45, u46, u47, u48, u49, u50, u51, u52, u53, u54, u55, u56, u57, u58, u59, u60, u61, u62, u63, u64, u65, u66, u67, u68, u69, rfl⟩
    have HBJ : Hid (Below w.heap.size w w') := hbj
    clear hbj
    subst hq
    go_wp2
    rw [jump_ret]
    go_ret
    exact ⟨rfl, HBJ.out⟩
end Go.Proofs.Ytjfkhfahpjdidaa
