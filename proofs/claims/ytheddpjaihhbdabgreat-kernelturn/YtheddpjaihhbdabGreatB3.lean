/- Contract: the page's May. -/
import Derived.Test.YtheddpjaihhbdabGreatB2
namespace Go.Proofs.YtheddpjaihhbdabGreat
set_option linter.unusedVariables false
set_option linter.unusedSimpArgs false
set_option maxRecDepth 100000
open Go.RowKit

theorem frm_parts1 {k n : Int} {d : List Int} {c : Nat} (h : frm k n d c = true) : (1 ≤ k ∧ k ≤ 17) ∧ c = many k.toNat ∧ dok k.toNat d = true ∧ nok k.toNat n = true := by
  simp only [frm, frmN, Bool.and_eq_true, decide_eq_true_eq] at h
  exact ⟨h.1, h.2.1.1, h.2.1.2, h.2.2⟩
theorem frm_mk1 {k n : Int} {d : List Int} {c : Nat} (h : 1 ≤ k ∧ k ≤ 17) (h1 : c = many k.toNat) (h2 : dok k.toNat d = true) (h3 : nok k.toNat n = true) : frm k n d c = true := by
  simp only [frm, frmN, Bool.and_eq_true, decide_eq_true_eq]
  exact ⟨h, ⟨h1, h2⟩, h3⟩
theorem may_not {k n : Int} {d : List Int} {L : List (List Int)} (h : ¬ (frm k n d L.length = true ∧ L.all okd = true)) : may k n d L = false := by
  cases e : may k n d L with
  | false => rfl
  | true => simp only [may, Bool.and_eq_true] at e; exact absurd e h
theorem ask_eq {k : Int} (h : 1 ≤ k ∧ k ≤ 17) : askI k = asked k.toNat := by
  simp only [askI, asked]
  rw [Bool.eq_iff_iff]
  simp
  omega
theorem nok_zero {k n : Int} (h : 1 ≤ k ∧ k ≤ 17) (h3 : ¬ k = 3) (h8 : ¬ k = 8) (h15 : ¬ k = 15) (h17 : ¬ k = 17) : nok k.toNat n = decide (n = 0) := by
  rw [nok, if_neg (by omega), if_neg (by omega)]
set_option maxHeartbeats 8000000 in
theorem may_to {vd v : Value} {d : List Int} {L : List (List Int)} {w : World} (k n : Int) (q : Bool) (hd : Ints w vd d) (hl : IntsL w v L) (h2 : L.length ≤ 2) (hq : may k n d L = q) :
    Calls Tryz.prog 21 #[.int .i64 k, .int .i64 n, vd, v] w fun e w' => e = .returned (.bool q) ∧ Below w.heap.size w w' := by
  obtain ⟨_, va, vc, ev, hvc, hcell⟩ := hl
  obtain ⟨m, hm⟩ : ∃ m, L.length = m := ⟨_, rfl⟩
  rw [hm] at ev h2 hvc
  subst ev
  have HM : Hid (L.length = m) := hm
  obtain ⟨da, dc, rfl⟩ := hd.shape
  obtain ⟨dn, hdn⟩ : ∃ x, d.length = x := ⟨_, rfl⟩
  rw [hdn] at hd ⊢
  have HDN : Hid (d.length = dn) := hdn
  have HD : Hid (Ints w (.slice da dn dc) d) := hd
  have HL : Hid (∀ i (h : i < L.length), ∃ b off x, va = some ⟨b, off, none⟩ ∧ w.cell? ⟨b, off + i, none⟩ = some x ∧ Ints w x L[i]) := hcell
  have HQ : Hid (may k n d L = q) := hq
  clear hd hm hcell hdn hq
  by_cases hk : 1 ≤ k ∧ k ≤ 17
  · have hmany : manyI k = many k.toNat := by rw [manyI, if_pos hk]
    obtain ⟨mk, hmk⟩ : ∃ x, many k.toNat = x := ⟨_, rfl⟩
    rw [hmk] at hmany
    have HMK : Hid (many k.toNat = mk) := hmk
    have HMY : Hid (manyI k = mk) := hmany
    have HK : Hid (1 ≤ k ∧ k ≤ 17) := hk
    clear hmany hmk
    by_cases hmm : m = mk
    · subst hmm
      have hge : ¬ (m : Int) < 0 := by omega
      clear hk
      go_enter Tryz.func21, Tryz.ntmps21
      go_wp2_with (go_at_call 39; refine (many_to k w m HMY.out).mono ?_; rintro e w' ⟨rfl, rfl⟩)
      go_loopw [9] (fun i w' => ∃ (j : Nat), j ≤ m ∧ i = .int .i64 j ∧ Hid (∀ q (h : q < L.length), q < j → okd L[q] = true) ∧ Hid (Below w.heap.size w w')) (fun i _ => m - (intOf i).toNat)
      case atStart => exact ⟨0, Nat.zero_le _, rfl, fun q h1 h2 => by omega, Below.refl _ _⟩
      case round =>
        obtain ⟨j, hj, rfl, HK1, HB⟩ := hrel
        by_cases hlt : j < m
        · have hlt' : j < L.length := by rw [HM.out]; exact hlt
          obtain ⟨b, off, x, rfl, c0, hx⟩ := HL.out j hlt'
          have d0 := cell_later HB.out c0
          have HX : Hid (Ints wr x L[j]) := hx.later HB.out
          obtain ⟨xa, xn, xc, rfl⟩ := hx.shape3
          clear c0 hx
          cases hok : okd L[j] with
          | false =>
            have HO : Hid (okd L[j] = false) := hok
            have HQ2 : Hid (q = false) := by
              show _ = _
              rw [← HQ.out]
              refine may_not fun h => ?_
              rw [List.all_eq_true] at h
              have := h.2 L[j] (List.getElem_mem hlt')
              rw [hok] at this
              cases this
            clear hok
            go_wp2_with (go_at_call 31; refine (rdims_to false HX.out HO.out).mono ?_; rintro e w2 ⟨rfl, rfl⟩)
            go_ret
            exact ⟨by rw [HQ2.out]; rfl, HB.out⟩
          | true =>
            have HO : Hid (okd L[j] = true) := hok
            clear hok
            go_wp2_with (go_at_call 31; refine (rdims_to true HX.out HO.out).mono ?_; rintro e w2 ⟨rfl, rfl⟩)
            go_roundw
            case rel =>
              refine ⟨j + 1, by omega, by go_num, fun q h1 h2 => ?_, HB.out⟩
              by_cases e : q = j
              · subst e; exact HO.out
              · exact HK1.out q h1 (by omega)
            case measure => simp [intOf]; omega
        · obtain rfl : j = m := by omega
          have hall : L.all okd = true := by
            rw [List.all_eq_true]
            intro t ht
            obtain ⟨q, hq, rfl⟩ := List.getElem_of_mem ht
            exact HK1.out q hq (by rw [← HM.out]; exact hq)
          have HQ2 : Hid (q = (dok k.toNat d && nok k.toNat n)) := by
            show _ = _
            rw [← HQ.out, may, hall, frm, frmN, HM.out, decide_eq_true HK.out, decide_eq_true HMK.out.symm]
            simp
          clear hall HQ HK1
          cases hask : asked k.toNat with
          | true =>
            have HA : Hid (askI k = true) := by show _ = _; rw [ask_eq HK.out]; exact hask
            cases hok : okd d with
            | true =>
              have HO : Hid (okd d = true) := hok
              have HQ3 : Hid (q = nok k.toNat n) := by show _ = _; rw [HQ2.out, dok, hask, if_pos rfl, hok, Bool.true_and]
              clear hok
              by_cases h3 : k = 3
              · subst h3
                have HQ4 : Hid (q = true) := by show _ = _; rw [HQ3.out]; rfl
                go_wp2_with (first | (go_at_call 40; refine (asked_to _ _ true HA.out).mono ?_; rintro e w2 ⟨rfl, rfl⟩) | (go_at_call 31; refine (rdims_to true (HD.out.later HB.out) HO.out).mono ?_; rintro e w2 ⟨rfl, rfl⟩))
                go_ret
                exact ⟨by rw [HQ4.out]; rfl, HB.out⟩
              · skip
                have h8 : ¬ k = 8 := by rintro rfl; exact absurd hask (by decide)
                have h15 : ¬ k = 15 := by rintro rfl; exact absurd hask (by decide)
                have h17 : ¬ k = 17 := by rintro rfl; exact absurd hask (by decide)
                by_cases hn : n = 0
                · have HQ4 : Hid (q = true) := by show _ = _; rw [HQ3.out, nok_zero HK.out h3 h8 h15 h17]; exact decide_eq_true hn
                  subst hn
                  go_wp2_with (first | (go_at_call 40; refine (asked_to _ _ true HA.out).mono ?_; rintro e w2 ⟨rfl, rfl⟩) | (go_at_call 31; refine (rdims_to true (HD.out.later HB.out) HO.out).mono ?_; rintro e w2 ⟨rfl, rfl⟩))
                  go_ret
                  exact ⟨by rw [HQ4.out]; rfl, HB.out⟩
                · have HQ4 : Hid (q = false) := by show _ = _; rw [HQ3.out, nok_zero HK.out h3 h8 h15 h17]; exact decide_eq_false hn
                  have hn0 : (n == 0) = false := by simpa using hn
                  go_wp2_with (first | (go_at_call 40; refine (asked_to _ _ true HA.out).mono ?_; rintro e w2 ⟨rfl, rfl⟩) | (go_at_call 31; refine (rdims_to true (HD.out.later HB.out) HO.out).mono ?_; rintro e w2 ⟨rfl, rfl⟩))
                  go_ret
                  exact ⟨by rw [HQ4.out]; simp [hn], HB.out⟩
            | false =>
              have HO : Hid (okd d = false) := hok
              have HQ4 : Hid (q = false) := by show _ = _; rw [HQ2.out, dok, hask, if_pos rfl, hok, Bool.false_and]
              clear hok hask
              go_wp2_with (first | (go_at_call 40; refine (asked_to _ _ true HA.out).mono ?_; rintro e w2 ⟨rfl, rfl⟩) | (go_at_call 31; refine (rdims_to false (HD.out.later HB.out) HO.out).mono ?_; rintro e w2 ⟨rfl, rfl⟩))
              go_ret
              exact ⟨by rw [HQ4.out]; rfl, HB.out⟩
          | false =>
            have HA : Hid (askI k = false) := by show _ = _; rw [ask_eq HK.out]; exact hask
            by_cases hdn : dn = 0
            · have HQ3 : Hid (q = nok k.toNat n) := by show _ = _; rw [HQ2.out, dok, hask, if_neg (by decide), HDN.out, decide_eq_true hdn, Bool.true_and]
              have hgt : ¬ (0 : Int) < (dn : Int) := by omega
              have h3 : ¬ k = 3 := by rintro rfl; exact absurd hask (by decide)
              by_cases h8 : k = 8
              · subst h8
                have HQ4 : Hid (q = true) := by show _ = _; rw [HQ3.out]; rfl
                go_wp2_with (go_at_call 40; refine (asked_to _ _ false HA.out).mono ?_; rintro e w2 ⟨rfl, rfl⟩)
                go_ret
                exact ⟨by rw [HQ4.out]; rfl, HB.out⟩
              · skip
                by_cases h15 : k = 15
                · subst h15
                  by_cases hn : 1 ≤ n ∧ n ≤ 8
                  · obtain ⟨hn1, hn2⟩ := hn
                    have HQ4 : Hid (q = true) := by show _ = _; rw [HQ3.out]; show decide _ = _; exact decide_eq_true ⟨hn1, hn2⟩
                    go_wp2_with (first | (go_at_call 40; refine (asked_to _ _ false HA.out).mono ?_; rintro e w2 ⟨rfl, rfl⟩) | (go_at_call 41; refine (between_t _ _ _ _ hn1 hn2).mono ?_; rintro e w2 ⟨rfl, rfl⟩))
                    go_ret
                    exact ⟨by rw [HQ4.out]; rfl, HB.out⟩
                  · have HQ4 : Hid (q = false) := by show _ = _; rw [HQ3.out]; show decide _ = _; exact decide_eq_false hn
                    have HN : Hid (n < 1 ∨ 8 < n) := by show _ ∨ _; omega
                    clear hn
                    go_wp2_with (first | (go_at_call 40; refine (asked_to _ _ false HA.out).mono ?_; rintro e w2 ⟨rfl, rfl⟩) | (go_at_call 41; refine (between_f _ _ _ _ HN.out).mono ?_; rintro e w2 ⟨rfl, rfl⟩))
                    go_ret
                    exact ⟨by rw [HQ4.out]; rfl, HB.out⟩
                · skip
                  by_cases h17 : k = 17
                  · subst h17
                    by_cases hn : 1 ≤ n ∧ n ≤ 8
                    · obtain ⟨hn1, hn2⟩ := hn
                      have HQ4 : Hid (q = true) := by show _ = _; rw [HQ3.out]; show decide _ = _; exact decide_eq_true ⟨hn1, hn2⟩
                      go_wp2_with (first | (go_at_call 40; refine (asked_to _ _ false HA.out).mono ?_; rintro e w2 ⟨rfl, rfl⟩) | (go_at_call 41; refine (between_t _ _ _ _ hn1 hn2).mono ?_; rintro e w2 ⟨rfl, rfl⟩))
                      go_ret
                      exact ⟨by rw [HQ4.out]; rfl, HB.out⟩
                    · have HQ4 : Hid (q = false) := by show _ = _; rw [HQ3.out]; show decide _ = _; exact decide_eq_false hn
                      have HN : Hid (n < 1 ∨ 8 < n) := by show _ ∨ _; omega
                      clear hn
                      go_wp2_with (first | (go_at_call 40; refine (asked_to _ _ false HA.out).mono ?_; rintro e w2 ⟨rfl, rfl⟩) | (go_at_call 41; refine (between_f _ _ _ _ HN.out).mono ?_; rintro e w2 ⟨rfl, rfl⟩))
                      go_ret
                      exact ⟨by rw [HQ4.out]; rfl, HB.out⟩
                  · skip
                    by_cases hn : n = 0
                    · have HQ4 : Hid (q = true) := by show _ = _; rw [HQ3.out, nok_zero HK.out h3 h8 h15 h17]; exact decide_eq_true hn
                      subst hn
                      go_wp2_with (go_at_call 40; refine (asked_to _ _ false HA.out).mono ?_; rintro e w2 ⟨rfl, rfl⟩)
                      go_ret
                      exact ⟨by rw [HQ4.out]; rfl, HB.out⟩
                    · have HQ4 : Hid (q = false) := by show _ = _; rw [HQ3.out, nok_zero HK.out h3 h8 h15 h17]; exact decide_eq_false hn
                      have hn0 : (n == 0) = false := by simpa using hn
                      go_wp2_with (go_at_call 40; refine (asked_to _ _ false HA.out).mono ?_; rintro e w2 ⟨rfl, rfl⟩)
                      go_ret
                      exact ⟨by rw [HQ4.out]; simp [hn], HB.out⟩
            · have HQ4 : Hid (q = false) := by show _ = _; rw [HQ2.out, dok, hask, if_neg (by decide), HDN.out, decide_eq_false hdn, Bool.false_and]
              have hgt : (0 : Int) < (dn : Int) := by omega
              clear hask
              go_wp2_with (go_at_call 40; refine (asked_to _ _ false HA.out).mono ?_; rintro e w2 ⟨rfl, rfl⟩)
              go_ret
              exact ⟨by rw [HQ4.out]; rfl, HB.out⟩
    · have hmm' : ((m : Int) != (mk : Int)) = true := by simp; omega
      have hge : ¬ (mk : Int) < 0 := by omega
      have HQ2 : Hid (q = false) := by
        show _ = _
        rw [← HQ.out]
        refine may_not fun h => ?_
        have := (frm_parts1 h.1).2.1
        rw [HM.out, HMK.out] at this
        exact hmm this
      clear HQ hk hmm
      go_enter Tryz.func21, Tryz.ntmps21
      go_wp2_with (go_at_call 39; refine (many_to k w mk HMY.out).mono ?_; rintro e w' ⟨rfl, rfl⟩)
      go_ret
      exact ⟨by rw [HQ2.out]; rfl, Below.refl _ _⟩
  · have HMY : Hid (manyI k = -1) := by show _ = _; rw [manyI, if_neg hk]
    have HQ2 : Hid (q = false) := by
      show _ = _
      rw [← HQ.out]
      exact may_not fun h => hk (frm_parts1 h.1).1
    clear HQ hk
    go_enter Tryz.func21, Tryz.ntmps21
    go_wp2_with (go_at_call 39; refine (many_to k w (-1) HMY.out).mono ?_; rintro e w' ⟨rfl, rfl⟩)
    go_ret
    exact ⟨by rw [HQ2.out]; rfl, Below.refl _ _⟩
end Go.Proofs.YtheddpjaihhbdabGreat
