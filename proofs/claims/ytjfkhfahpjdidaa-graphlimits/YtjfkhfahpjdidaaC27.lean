/- Carried: B2, B3, B5, W0, X0, X1. -/
import Derived.Shelf.Unicode.DecodeLastEight
import Derived.Test.YtjfkhfahpjdidaaC26
namespace Go.Proofs.Ytjfkhfahpjdidaa
set_option linter.unusedVariables false
set_option linter.unusedSimpArgs false
set_option maxRecDepth 100000
open Go.RowKit

set_option maxHeartbeats 400000 in
theorem many_k16 (w : World) : Calls Try.prog 37 #[.int .i64 16] w fun e w' => e = .returned (.int .i64 (manyI 16)) ∧ w = w' := by
  go_enter Try.func37, Try.ntmps37
  go_wp2
  go_ret
  exact ⟨rfl, rfl⟩
set_option maxHeartbeats 400000 in
theorem many_k17 (w : World) : Calls Try.prog 37 #[.int .i64 17] w fun e w' => e = .returned (.int .i64 (manyI 17)) ∧ w = w' := by
  go_enter Try.func37, Try.ntmps37
  go_wp2
  go_ret
  exact ⟨rfl, rfl⟩
set_option maxHeartbeats 1000000 in
theorem many_none (k : Int) (w : World) (h : ¬ (1 ≤ k ∧ k ≤ 17)) : Calls Try.prog 37 #[.int .i64 k] w fun e w' => e = .returned (.int .i64 (manyI k)) ∧ w = w' := by
  have HE : Hid (manyI k = -1) := by show _ = _; rw [manyI, if_neg h]
  have HN : Hid (k < 7 ∨ 15 < k) := by show _ ∨ _; omega
  have h1 : ¬ k = 1 := by omega
  have h2 : ¬ k = 2 := by omega
  have h3 : ¬ k = 3 := by omega
  have h4 : ¬ k = 4 := by omega
  have h5 : ¬ k = 5 := by omega
  have h6 : ¬ k = 6 := by omega
  have h9 : ¬ k = 9 := by omega
  have h16 : ¬ k = 16 := by omega
  have h17 : ¬ k = 17 := by omega
  clear h
  go_enter Try.func37, Try.ntmps37
  go_wp2_with (go_at_call 28; refine (between_f _ _ _ _ HN.out).mono ?_; rintro e w2 ⟨rfl, rfl⟩)
  go_ret
  exact ⟨by rw [HE.out]; rfl, rfl⟩
theorem many_to (k : Int) (w : World) (x : Int) (hx : manyI k = x) : Calls Try.prog 37 #[.int .i64 k] w fun e w' => e = .returned (.int .i64 x) ∧ w = w' := by
  subst hx
  by_cases h : 1 ≤ k ∧ k ≤ 17
  · have hk : k = 1 ∨ k = 2 ∨ k = 3 ∨ k = 4 ∨ k = 5 ∨ k = 6 ∨ k = 7 ∨ k = 8 ∨ k = 9 ∨ k = 10 ∨ k = 11 ∨ k = 12 ∨ k = 13 ∨ k = 14 ∨ k = 15 ∨ k = 16 ∨ k = 17 := by omega
    rcases hk with rfl | rfl | rfl | rfl | rfl | rfl | rfl | rfl | rfl | rfl | rfl | rfl | rfl | rfl | rfl | rfl | rfl
    · exact many_k1 w
    · exact many_k2 w
    · exact many_k3 w
    · exact many_k4 w
    · exact many_k5 w
    · exact many_k6 w
    · exact many_k7 w
    · exact many_k8 w
    · exact many_k9 w
    · exact many_k10 w
    · exact many_k11 w
    · exact many_k12 w
    · exact many_k13 w
    · exact many_k14 w
    · exact many_k15 w
    · exact many_k16 w
    · exact many_k17 w
  · exact many_none k w h
def askI (k : Int) : Bool := decide (1 ≤ k ∧ k ≤ 3) || decide (11 ≤ k ∧ k ≤ 13)
set_option maxHeartbeats 1000000 in
theorem asked_to (k : Int) (w : World) (x : Bool) (hx : askI k = x) : Calls Try.prog 35 #[.int .i64 k] w fun e w' => e = .returned (.bool x) ∧ w = w' := by
  by_cases h1 : 1 ≤ k ∧ k ≤ 3
  · have HX : Hid (x = true) := by show _ = _; rw [← hx, askI, decide_eq_true h1, Bool.true_or]
    clear hx
    go_enter Try.func35, Try.ntmps35
    go_wp2_with (go_at_call 28; refine (between_t _ _ _ _ h1.1 h1.2).mono ?_; rintro e w2 ⟨rfl, rfl⟩)
    go_ret
    exact ⟨by rw [HX.out]; rfl, rfl⟩
  · have g1 : k < 1 ∨ 3 < k := by omega
    by_cases h2 : 11 ≤ k ∧ k ≤ 13
    · have HX : Hid (x = true) := by show _ = _; rw [← hx, askI, decide_eq_true h2, Bool.or_true]
      clear hx
      go_enter Try.func35, Try.ntmps35
      go_wp2_with (first | (go_at_call_of 28 (Value.int .i64 3); refine (between_f _ _ _ _ g1).mono ?_; rintro e w2 ⟨rfl, rfl⟩) | (go_at_call 28; refine (between_t _ _ _ _ h2.1 h2.2).mono ?_; rintro e w2 ⟨rfl, rfl⟩))
      go_ret
      exact ⟨by rw [HX.out]; rfl, rfl⟩
    · have g2 : k < 11 ∨ 13 < k := by omega
      have HX : Hid (x = false) := by show _ = _; rw [← hx, askI, decide_eq_false h1, decide_eq_false h2]; rfl
      clear hx
      go_enter Try.func35, Try.ntmps35
      go_wp2_with (first | (go_at_call_of 28 (Value.int .i64 3); refine (between_f _ _ _ _ g1).mono ?_; rintro e w2 ⟨rfl, rfl⟩) | (go_at_call 28; refine (between_f _ _ _ _ g2).mono ?_; rintro e w2 ⟨rfl, rfl⟩))
      go_ret
      exact ⟨by rw [HX.out]; rfl, rfl⟩
theorem frm_parts1 {k n : Int} {d : List Int} {c : Nat} (h : frm k n d c = true) : (1 ≤ k ∧ k ≤ 17) ∧ c = many k.toNat ∧ dok k.toNat d = true ∧ nok k.toNat n = true := by
  simp only [frm, frmN, Bool.and_eq_true, decide_eq_true_eq] at h
  exact ⟨h.1, h.2.1.1, h.2.1.2, h.2.2⟩
theorem may_not {k n : Int} {d : List Int} {L : List (List Int)} (h : ¬ (frm k n d L.length = true ∧ L.all okd = true)) : may k n d L = false := by
  cases e : may k n d L with
  | false => rfl
  | true => simp only [may, Bool.and_eq_true] at e; exact absurd e h
theorem ask_eq {k : Int} (h : 1 ≤ k ∧ k ≤ 17) : askI k = asked k.toNat := by
  simp only [askI, asked]
  rw [Bool.eq_iff_iff]
  simp
  omega
theorem nok_zero {k n : Int} (h : 1 ≤ k ∧ k ≤ 17) (h3 : ¬ k = 3) (h8 : ¬ k = 8) (h15 : ¬ k = 15) (h17 : ¬ k = 17) : nok k.toNat n = decide (n = 0) := by
  rw [nok, if_neg (by omega), if_neg (by omega)]
set_option maxHeartbeats 8000000 in
theorem may_to {vd v : Value} {d : List Int} {L : List (List Int)} {w : World} (k n : Int) (q : Bool) (hd : Ints w vd d) (hl : IntsL w v L) (h2 : L.length ≤ 2) (hq : may k n d L = q) :
    Calls Try.prog 25 #[.int .i64 k, .int .i64 n, vd, v] w fun e w' => e = .returned (.bool q) ∧ Below w.heap.size w w' := by
  obtain ⟨_, va, vc, ev, hvc, hcell⟩ := hl
  obtain ⟨m, hm⟩ : ∃ m, L.length = m := ⟨_, rfl⟩
  rw [hm] at ev h2 hvc
  subst ev
  have HM : Hid (L.length = m) := hm
  obtain ⟨da, dc, rfl⟩ := hd.shape
  obtain ⟨dn, hdn⟩ : ∃ x, d.length = x := ⟨_, rfl⟩
  rw [hdn] at hd ⊢
  have HDN : Hid (d.length = dn) := hdn
  have HD : Hid (Ints w (.slice da dn dc) d) := hd
  have HL : Hid (∀ i (h : i < L.length), ∃ b off x, va = some ⟨b, off, none⟩ ∧ w.cell? ⟨b, off + i, none⟩ = some x ∧ Ints w x L[i]) := hcell
  have HQ : Hid (may k n d L = q) := hq
  clear hd hm hcell hdn hq
  by_cases hk : 1 ≤ k ∧ k ≤ 17
  · have hmany : manyI k = many k.toNat := by rw [manyI, if_pos hk]
    obtain ⟨mk, hmk⟩ : ∃ x, many k.toNat = x := ⟨_, rfl⟩
    rw [hmk] at hmany
    have HMK : Hid (many k.toNat = mk) := hmk
    have HMY : Hid (manyI k = mk) := hmany
    have HK : Hid (1 ≤ k ∧ k ≤ 17) := hk
    clear hmany hmk
    by_cases hmm : m = mk
    · subst hmm
      have hge : ¬ (m : Int) < 0 := by omega
      clear hk
      go_enter Try.func25, Try.ntmps25
      go_wp2_with (go_at_call 37; refine (many_to k w m HMY.out).mono ?_; rintro e w' ⟨rfl, rfl⟩)
      go_loopw [9] (fun i w' => ∃ (j : Nat), j ≤ m ∧ i = .int .i64 j ∧ Hid (∀ q (h : q < L.length), q < j → okd L[q] = true) ∧ Hid (Below w.heap.size w w')) (fun i _ => m - (intOf i).toNat)
      case atStart => exact ⟨0, Nat.zero_le _, rfl, fun q h1 h2 => by omega, Below.refl _ _⟩
      case round =>
        obtain ⟨j, hj, rfl, HK1, HB⟩ := hrel
        by_cases hlt : j < m
        · have hlt' : j < L.length := by rw [HM.out]; exact hlt
          obtain ⟨b, off, x, rfl, c0, hx⟩ := HL.out j hlt'
          have d0 := cell_later HB.out c0
          have HX : Hid (Ints wr x L[j]) := hx.later HB.out
          obtain ⟨xa, xn, xc, rfl⟩ := hx.shape3
          clear c0 hx
          cases hok : okd L[j] with
          | false =>
            have HO : Hid (okd L[j] = false) := hok
            have HQ2 : Hid (q = false) := by
              show _ = _
              rw [← HQ.out]
              refine may_not fun h => ?_
              rw [List.all_eq_true] at h
              have := h.2 L[j] (List.getElem_mem hlt')
              rw [hok] at this
              cases this
            clear hok
            go_wp2_with (go_at_call 12; refine (rdims_to false HX.out HO.out).mono ?_; rintro e w2 ⟨rfl, rfl⟩)
            go_ret
            exact ⟨by rw [HQ2.out]; rfl, HB.out⟩
          | true =>
            have HO : Hid (okd L[j] = true) := hok
            clear hok
            go_wp2_with (go_at_call 12; refine (rdims_to true HX.out HO.out).mono ?_; rintro e w2 ⟨rfl, rfl⟩)
            go_roundw
            case rel =>
              refine ⟨j + 1, by omega, by go_num, fun q h1 h2 => ?_, HB.out⟩
              by_cases e : q = j
              · subst e; exact HO.out
              · exact HK1.out q h1 (by omega)
            case measure => simp [intOf]; omega
        · obtain rfl : j = m := by omega
          have hall : L.all okd = true := by
            rw [List.all_eq_true]
            intro t ht
            obtain ⟨q, hq, rfl⟩ := List.getElem_of_mem ht
            exact HK1.out q hq (by rw [← HM.out]; exact hq)
          have HQ2 : Hid (q = (dok k.toNat d && nok k.toNat n)) := by
            show _ = _
            rw [← HQ.out, may, hall, frm, frmN, HM.out, decide_eq_true HK.out, decide_eq_true HMK.out.symm]
            simp
          clear hall HQ HK1
          cases hask : asked k.toNat with
          | true =>
            have HA : Hid (askI k = true) := by show _ = _; rw [ask_eq HK.out]; exact hask
            cases hok : okd d with
            | true =>
              have HO : Hid (okd d = true) := hok
              have HQ3 : Hid (q = nok k.toNat n) := by show _ = _; rw [HQ2.out, dok, hask, if_pos rfl, hok, Bool.true_and]
              clear hok
              by_cases h3 : k = 3
              · subst h3
                have HQ4 : Hid (q = true) := by show _ = _; rw [HQ3.out]; rfl
                go_wp2_with (first | (go_at_call 35; refine (asked_to _ _ true HA.out).mono ?_; rintro e w2 ⟨rfl, rfl⟩) | (go_at_call 12; refine (rdims_to true (HD.out.later HB.out) HO.out).mono ?_; rintro e w2 ⟨rfl, rfl⟩))
                go_ret
                exact ⟨by rw [HQ4.out]; rfl, HB.out⟩
              · skip
                have h8 : ¬ k = 8 := by rintro rfl; exact absurd hask (by decide)
                have h15 : ¬ k = 15 := by rintro rfl; exact absurd hask (by decide)
                have h17 : ¬ k = 17 := by rintro rfl; exact absurd hask (by decide)
                by_cases hn : n = 0
                · have HQ4 : Hid (q = true) := by show _ = _; rw [HQ3.out, nok_zero HK.out h3 h8 h15 h17]; exact decide_eq_true hn
                  subst hn
                  go_wp2_with (first | (go_at_call 35; refine (asked_to _ _ true HA.out).mono ?_; rintro e w2 ⟨rfl, rfl⟩) | (go_at_call 12; refine (rdims_to true (HD.out.later HB.out) HO.out).mono ?_; rintro e w2 ⟨rfl, rfl⟩))
                  go_ret
                  exact ⟨by rw [HQ4.out]; rfl, HB.out⟩
                · have HQ4 : Hid (q = false) := by show _ = _; rw [HQ3.out, nok_zero HK.out h3 h8 h15 h17]; exact decide_eq_false hn
                  have hn0 : (n == 0) = false := by simpa using hn
                  go_wp2_with (first | (go_at_call 35; refine (asked_to _ _ true HA.out).mono ?_; rintro e w2 ⟨rfl, rfl⟩) | (go_at_call 12; refine (rdims_to true (HD.out.later HB.out) HO.out).mono ?_; rintro e w2 ⟨rfl, rfl⟩))
                  go_ret
                  exact ⟨by rw [HQ4.out]; simp [hn], HB.out⟩
            | false =>
              have HO : Hid (okd d = false) := hok
              have HQ4 : Hid (q = false) := by show _ = _; rw [HQ2.out, dok, hask, if_pos rfl, hok, Bool.false_and]
              clear hok hask
              go_wp2_with (first | (go_at_call 35; refine (asked_to _ _ true HA.out).mono ?_; rintro e w2 ⟨rfl, rfl⟩) | (go_at_call 12; refine (rdims_to false (HD.out.later HB.out) HO.out).mono ?_; rintro e w2 ⟨rfl, rfl⟩))
              go_ret
              exact ⟨by rw [HQ4.out]; rfl, HB.out⟩
          | false =>
            have HA : Hid (askI k = false) := by show _ = _; rw [ask_eq HK.out]; exact hask
            by_cases hdn : dn = 0
            · have HQ3 : Hid (q = nok k.toNat n) := by show _ = _; rw [HQ2.out, dok, hask, if_neg (by decide), HDN.out, decide_eq_true hdn, Bool.true_and]
              have hgt : ¬ (0 : Int) < (dn : Int) := by omega
              have h3 : ¬ k = 3 := by rintro rfl; exact absurd hask (by decide)
              by_cases h8 : k = 8
              · subst h8
                have HQ4 : Hid (q = true) := by show _ = _; rw [HQ3.out]; rfl
                go_wp2_with (go_at_call 35; refine (asked_to _ _ false HA.out).mono ?_; rintro e w2 ⟨rfl, rfl⟩)
                go_ret
                exact ⟨by rw [HQ4.out]; rfl, HB.out⟩
              · skip
                by_cases h15 : k = 15
                · subst h15
                  by_cases hn : 1 ≤ n ∧ n ≤ 8
                  · obtain ⟨hn1, hn2⟩ := hn
                    have HQ4 : Hid (q = true) := by show _ = _; rw [HQ3.out]; show decide _ = _; exact decide_eq_true ⟨hn1, hn2⟩
                    go_wp2_with (first | (go_at_call 35; refine (asked_to _ _ false HA.out).mono ?_; rintro e w2 ⟨rfl, rfl⟩) | (go_at_call 28; refine (between_t _ _ _ _ hn1 hn2).mono ?_; rintro e w2 ⟨rfl, rfl⟩))
                    go_ret
                    exact ⟨by rw [HQ4.out]; rfl, HB.out⟩
                  · have HQ4 : Hid (q = false) := by show _ = _; rw [HQ3.out]; show decide _ = _; exact decide_eq_false hn
                    have HN : Hid (n < 1 ∨ 8 < n) := by show _ ∨ _; omega
                    clear hn
                    go_wp2_with (first | (go_at_call 35; refine (asked_to _ _ false HA.out).mono ?_; rintro e w2 ⟨rfl, rfl⟩) | (go_at_call 28; refine (between_f _ _ _ _ HN.out).mono ?_; rintro e w2 ⟨rfl, rfl⟩))
                    go_ret
                    exact ⟨by rw [HQ4.out]; rfl, HB.out⟩
                · skip
                  by_cases h17 : k = 17
                  · subst h17
                    by_cases hn : 1 ≤ n ∧ n ≤ 8
                    · obtain ⟨hn1, hn2⟩ := hn
                      have HQ4 : Hid (q = true) := by show _ = _; rw [HQ3.out]; show decide _ = _; exact decide_eq_true ⟨hn1, hn2⟩
                      go_wp2_with (first | (go_at_call 35; refine (asked_to _ _ false HA.out).mono ?_; rintro e w2 ⟨rfl, rfl⟩) | (go_at_call 28; refine (between_t _ _ _ _ hn1 hn2).mono ?_; rintro e w2 ⟨rfl, rfl⟩))
                      go_ret
                      exact ⟨by rw [HQ4.out]; rfl, HB.out⟩
                    · have HQ4 : Hid (q = false) := by show _ = _; rw [HQ3.out]; show decide _ = _; exact decide_eq_false hn
                      have HN : Hid (n < 1 ∨ 8 < n) := by show _ ∨ _; omega
                      clear hn
                      go_wp2_with (first | (go_at_call 35; refine (asked_to _ _ false HA.out).mono ?_; rintro e w2 ⟨rfl, rfl⟩) | (go_at_call 28; refine (between_f _ _ _ _ HN.out).mono ?_; rintro e w2 ⟨rfl, rfl⟩))
                      go_ret
                      exact ⟨by rw [HQ4.out]; rfl, HB.out⟩
                  · skip
                    by_cases hn : n = 0
                    · have HQ4 : Hid (q = true) := by show _ = _; rw [HQ3.out, nok_zero HK.out h3 h8 h15 h17]; exact decide_eq_true hn
                      subst hn
                      go_wp2_with (go_at_call 35; refine (asked_to _ _ false HA.out).mono ?_; rintro e w2 ⟨rfl, rfl⟩)
                      go_ret
                      exact ⟨by rw [HQ4.out]; rfl, HB.out⟩
                    · have HQ4 : Hid (q = false) := by show _ = _; rw [HQ3.out, nok_zero HK.out h3 h8 h15 h17]; exact decide_eq_false hn
                      have hn0 : (n == 0) = false := by simpa using hn
                      go_wp2_with (go_at_call 35; refine (asked_to _ _ false HA.out).mono ?_; rintro e w2 ⟨rfl, rfl⟩)
                      go_ret
                      exact ⟨by rw [HQ4.out]; simp [hn], HB.out⟩
            · have HQ4 : Hid (q = false) := by show _ = _; rw [HQ2.out, dok, hask, if_neg (by decide), HDN.out, decide_eq_false hdn, Bool.false_and]
              have hgt : (0 : Int) < (dn : Int) := by omega
              clear hask
              go_wp2_with (go_at_call 35; refine (asked_to _ _ false HA.out).mono ?_; rintro e w2 ⟨rfl, rfl⟩)
              go_ret
              exact ⟨by rw [HQ4.out]; rfl, HB.out⟩
    · have hmm' : ((m : Int) != (mk : Int)) = true := by simp; omega
      have hge : ¬ (mk : Int) < 0 := by omega
      have HQ2 : Hid (q = false) := by
        show _ = _
        rw [← HQ.out]
        refine may_not fun h => ?_
        have := (frm_parts1 h.1).2.1
        rw [HM.out, HMK.out] at this
        exact hmm this
      clear HQ hk hmm
      go_enter Try.func25, Try.ntmps25
      go_wp2_with (go_at_call 37; refine (many_to k w mk HMY.out).mono ?_; rintro e w' ⟨rfl, rfl⟩)
      go_ret
      exact ⟨by rw [HQ2.out]; rfl, Below.refl _ _⟩
  · have HMY : Hid (manyI k = -1) := by show _ = _; rw [manyI, if_neg hk]
    have HQ2 : Hid (q = false) := by
      show _ = _
      rw [← HQ.out]
      exact may_not fun h => hk (frm_parts1 h.1).1
    clear HQ hk
    go_enter Try.func25, Try.ntmps25
    go_wp2_with (go_at_call 37; refine (many_to k w (-1) HMY.out).mono ?_; rintro e w' ⟨rfl, rfl⟩)
    go_ret
    exact ⟨by rw [HQ2.out]; rfl, Below.refl _ _⟩
theorem row_two {w : World} {B : Nat} {v : Value} {a b : List Int} {xs : List Value} (h : Row w B v [a, b] xs) :
    ∃ P c x0 x1, v = .slice (some ⟨P, 0, none⟩) 2 c ∧ 2 ≤ c ∧ w.cell? ⟨P, 0, none⟩ = some x0 ∧ w.cell? ⟨P, 1, none⟩ = some x1 ∧ Ints w x0 a ∧ Ints w x1 b := by
  rcases h.own.2 with ⟨_, h0⟩ | ⟨g, cap, cur, rfl, h1, hh, h2, h3, h4, h5⟩
  · simp at h0
  · obtain ⟨x, hx, he⟩ := h.elt 0 (by simp)
    obtain ⟨y, hy, hf⟩ := h.elt 1 (by simp)
    exact ⟨g, cap, x, y, rfl, h2, by rw [h.own.cellAt 0 (by simp)]; exact hx, by rw [h.own.cellAt 1 (by simp)]; exact hy, he.1, hf.1⟩
theorem row_one {w : World} {B : Nat} {v : Value} {a : List Int} {xs : List Value} (h : Row w B v [a] xs) :
    ∃ P c x0, v = .slice (some ⟨P, 0, none⟩) 1 c ∧ 1 ≤ c ∧ w.cell? ⟨P, 0, none⟩ = some x0 ∧ Ints w x0 a := by
  rcases h.own.2 with ⟨_, h0⟩ | ⟨g, cap, cur, rfl, h1, hh, h2, h3, h4, h5⟩
  · simp at h0
  · obtain ⟨x, hx, he⟩ := h.elt 0 (by simp)
    exact ⟨g, cap, x, rfl, h2, by rw [h.own.cellAt 0 (by simp)]; exact hx, he.1⟩
theorem one_of {α : Type} {L : List α} (h : L.length = 1) : ∃ a, L = [a] := by
  match L, h with
  | [a], _ => exact ⟨a, rfl⟩
theorem pair_of {α : Type} {L : List α} (h : L.length = 2) : ∃ a b, L = [a, b] := by
  match L, h with
  | [a, b], _ => exact ⟨a, b, rfl⟩
theorem infer_to {vd v : Value} {d : List Int} {L : List (List Int)} {xs : List Value} {B : Nat} {w : World} (k n : Int) (hm : may k n d L = true) (hd : Ints w vd d) (hl : Row w B v L xs) (ok : Bool) (hx : inf k.toNat n d (L.getD 0 []) (L.getD 1 []) = ok) :
    Calls Try.prog 27 #[.int .i64 k, .int .i64 n, vd, v] w fun e w' => ∃ x z, e = .returned (.tuple #[x, .bool ok]) ∧ Own w' w.heap.size x z ∧ (ok = true → z = inD k.toNat n d (L.getD 0 []) (L.getD 1 [])) ∧ Below w.heap.size w w' := by
  simp only [may, Bool.and_eq_true] at hm
  obtain ⟨hf, hall⟩ := hm
  obtain ⟨hk, hc, hdk, hnk⟩ := frm_parts1 hf
  have hk' : k = 1 ∨ k = 2 ∨ k = 3 ∨ k = 4 ∨ k = 5 ∨ k = 6 ∨ k = 7 ∨ k = 8 ∨ k = 9 ∨ k = 10 ∨ k = 11 ∨ k = 12 ∨ k = 13 ∨ k = 14 ∨ k = 15 ∨ k = 16 ∨ k = 17 := by omega
  rcases hk' with rfl | rfl | rfl | rfl | rfl | rfl | rfl | rfl | rfl | rfl | rfl | rfl | rfl | rfl | rfl | rfl | rfl
  · subst hx
    refine (infer_k1 n hd).mono ?_
    rintro e w' ⟨x, rfl, ho, hb⟩
    exact ⟨x, _, rfl, ho, fun _ => rfl, hb⟩
  · subst hx
    refine (infer_k2 n hd).mono ?_
    rintro e w' ⟨x, rfl, ho, hb⟩
    exact ⟨x, _, rfl, ho, fun _ => rfl, hb⟩
  · subst hx
    refine (infer_k3 n hd).mono ?_
    rintro e w' ⟨x, rfl, ho, hb⟩
    exact ⟨x, _, rfl, ho, fun _ => rfl, hb⟩
  · obtain ⟨a, b, rfl⟩ := pair_of (show L.length = 2 from hc)
    obtain ⟨P, c, x0, x1, rfl, h2, c0, c1, i0, i1⟩ := row_two hl
    refine (infer_k4 n h2 i0 i1 c0 c1 ok hx).mono ?_
    rintro e w' ⟨x, rfl, ho, hb⟩
    exact ⟨x, _, rfl, ho, fun _ => rfl, hb⟩
  · obtain ⟨a, b, rfl⟩ := pair_of (show L.length = 2 from hc)
    obtain ⟨P, c, x0, x1, rfl, h2, c0, c1, i0, i1⟩ := row_two hl
    refine (infer_k5 n h2 i0 i1 c0 c1 ok hx).mono ?_
    rintro e w' ⟨x, rfl, ho, hb⟩
    exact ⟨x, _, rfl, ho, fun _ => rfl, hb⟩
  · obtain ⟨a, b, rfl⟩ := pair_of (show L.length = 2 from hc)
    obtain ⟨P, c, x0, x1, rfl, h2, c0, c1, i0, i1⟩ := row_two hl
    refine (infer_k6 n h2 i0 i1 c0 c1 ok hx).mono ?_
    rintro e w' ⟨x, rfl, ho, hb⟩
    exact ⟨x, _, rfl, ho, fun _ => rfl, hb⟩
  · subst hx
    obtain ⟨a, rfl⟩ := one_of (show L.length = 1 from hc)
    obtain ⟨P, c, x0, rfl, h2, c0, i0⟩ := row_one hl
    refine (infer_k7 n h2 i0 c0).mono ?_
    rintro e w' ⟨x, rfl, ho, hb⟩
    exact ⟨x, _, rfl, ho, fun _ => rfl, hb⟩
  · subst hx
    obtain ⟨a, rfl⟩ := one_of (show L.length = 1 from hc)
    obtain ⟨P, c, x0, rfl, h2, c0, i0⟩ := row_one hl
    refine (infer_k8 n h2 i0 c0).mono ?_
    rintro e w' ⟨x, rfl, ho, hb⟩
    exact ⟨x, _, rfl, ho, fun _ => rfl, hb⟩
  · obtain ⟨a, b, rfl⟩ := pair_of (show L.length = 2 from hc)
    obtain ⟨P, c, x0, x1, rfl, h2, c0, c1, i0, i1⟩ := row_two hl
    by_cases h : a.length = 2 ∧ b.length = 2 ∧ a.getD 1 0 = b.getD 0 0
    · have ho : ok = true := by rw [← hx]; exact decide_eq_true h
      subst ho
      obtain ⟨p, q, rfl⟩ := two_of h.1
      obtain ⟨q', r, rfl⟩ := two_of h.2.1
      have e : q = q' := h.2.2
      subst e
      refine (infer_k9_ok n h2 i0 i1 c0 c1).mono ?_
      rintro e w' ⟨x, rfl, ho, hb⟩
      exact ⟨x, _, rfl, ho, fun _ => rfl, hb⟩
    · have ho : ok = false := by rw [← hx]; exact decide_eq_false h
      subst ho
      refine (infer_k9_four n h2 i0 i1 c0 c1 h).mono ?_
      rintro e w' ⟨x, rfl, ho, hb⟩
      exact ⟨x, _, rfl, ho, (fun h => by cases h), hb⟩
  · obtain ⟨a, rfl⟩ := one_of (show L.length = 1 from hc)
    obtain ⟨P, c, x0, rfl, h2, c0, i0⟩ := row_one hl
    by_cases h : a.length = 2
    · have ho : ok = true := by rw [← hx]; exact decide_eq_true h
      subst ho
      obtain ⟨p, q, rfl⟩ := two_of h
      refine (infer_k10_ok n h2 i0 c0).mono ?_
      rintro e w' ⟨x, rfl, ho, hb⟩
      exact ⟨x, _, rfl, ho, fun _ => rfl, hb⟩
    · have ho : ok = false := by rw [← hx]; exact decide_eq_false h
      subst ho
      refine (infer_k10_four n h2 i0 c0 h).mono ?_
      rintro e w' ⟨x, rfl, ho, hb⟩
      exact ⟨x, _, rfl, ho, (fun h => by cases h), hb⟩
  · obtain ⟨a, rfl⟩ := one_of (show L.length = 1 from hc)
    obtain ⟨P, c, x0, rfl, h2, c0, i0⟩ := row_one hl
    refine (infer_k11 n ok h2 hd i0 c0 (by simpa using hall) hdk hx).mono ?_
    rintro e w' ⟨x, rfl, ho, hb⟩
    exact ⟨x, _, rfl, ho, fun _ => rfl, hb⟩
  · obtain ⟨a, rfl⟩ := one_of (show L.length = 1 from hc)
    obtain ⟨P, c, x0, rfl, h2, c0, i0⟩ := row_one hl
    refine (infer_k12 n ok h2 hd i0 c0 hx).mono ?_
    rintro e w' ⟨x, rfl, ho, hb⟩
    exact ⟨x, _, rfl, ho, fun _ => rfl, hb⟩
  · obtain ⟨a, rfl⟩ := one_of (show L.length = 1 from hc)
    obtain ⟨P, c, x0, rfl, h2, c0, i0⟩ := row_one hl
    refine (infer_k13 n ok h2 hd i0 c0 hx).mono ?_
    rintro e w' ⟨x, rfl, ho, hb⟩
    exact ⟨x, _, rfl, ho, fun _ => rfl, hb⟩
  · subst hx
    obtain ⟨a, rfl⟩ := one_of (show L.length = 1 from hc)
    obtain ⟨P, c, x0, rfl, h2, c0, i0⟩ := row_one hl
    refine (infer_k14 n h2 i0 c0).mono ?_
    rintro e w' ⟨x, rfl, ho, hb⟩
    exact ⟨x, _, rfl, ho, fun _ => rfl, hb⟩
  · obtain ⟨a, rfl⟩ := one_of (show L.length = 1 from hc)
    obtain ⟨P, c, x0, rfl, h2, c0, i0⟩ := row_one hl
    have hn : 1 ≤ n ∧ n ≤ 8 := by simpa [nok] using hnk
    obtain ⟨m, rfl⟩ : ∃ m : Nat, n = m := ⟨n.toNat, by omega⟩
    have ha : okd a = true := by simpa using hall
    by_cases h : lastD a % (m : Int) = 0
    · have ho : ok = true := by rw [← hx]; exact decide_eq_true h
      subst ho
      refine (infer_k15_ok (b0 := x0) (d1 := a) m h2 i0 ha (by omega) (by omega) c0 h).mono ?_
      rintro e w' ⟨x, rfl, ho, hb⟩
      exact ⟨x, _, rfl, ho, fun _ => rfl, hb⟩
    · have ho : ok = false := by rw [← hx]; exact decide_eq_false h
      subst ho
      refine (infer_k15_four (b0 := x0) (d1 := a) m h2 i0 ha (by omega) (by omega) c0 h).mono ?_
      rintro e w' ⟨x, rfl, ho, hb⟩
      exact ⟨x, _, rfl, ho, (fun h => by cases h), hb⟩
  · obtain ⟨a, b, rfl⟩ := pair_of (show L.length = 2 from hc)
    obtain ⟨P, c, x0, x1, rfl, h2, c0, c1, i0, i1⟩ := row_two hl
    refine (infer_k16 n h2 i0 i1 c0 c1 ok hx).mono ?_
    rintro e w' ⟨x, rfl, ho, hb⟩
    exact ⟨x, _, rfl, ho, fun _ => rfl, hb⟩
  · obtain ⟨a, b, rfl⟩ := pair_of (show L.length = 2 from hc)
    obtain ⟨P, c, x0, x1, rfl, h2, c0, c1, i0, i1⟩ := row_two hl
    have hn : 1 ≤ n ∧ n ≤ 8 := by simpa [nok] using hnk
    obtain ⟨m, rfl⟩ : ∃ m : Nat, n = m := ⟨n.toNat, by omega⟩
    have ha : okd a = true := by simp at hall; exact hall.1
    by_cases h : lastD a % (m : Int) = 0
    · have hq : (lesD a (m : Int) == b) = ok := by
        rw [← hx, Bool.eq_iff_iff]
        simp [inf, h]
      refine (infer_k17_ok m h2 i0 ha (by omega) (by omega) c0 i1 c1 ok hq h).mono ?_
      rintro e w' ⟨x, rfl, ho, hb⟩
      exact ⟨x, _, rfl, ho, fun _ => rfl, hb⟩
    · have ho : ok = false := by rw [← hx]; exact decide_eq_false fun x => h x.1
      subst ho
      refine (infer_k17_four m h2 i0 ha (by omega) (by omega) c0 i1 c1 h).mono ?_
      rintro e w' ⟨x, rfl, ho, hb⟩
      exact ⟨x, _, rfl, ho, (fun h => by cases h), hb⟩
/-- A letter, a digit: of a rune's number. -/
def letR (r : Nat) : Bool := (decide (97 ≤ r) && decide (r ≤ 122)) || (decide (945 ≤ r) && decide (r ≤ 969))
def digR (r : Nat) : Bool := decide (48 ≤ r) && decide (r ≤ 57)
/-- Is what is from place p on, behind n runes, the rest of a name? -/
def nameN (s : ByteArray) : Nat → Nat → Nat → Bool
  | 0, _, _ => false
  | f + 1, p, n => if p < s.size then (if letR (Utf8.decode s p).1 || (decide (n ≠ 0) && digR (Utf8.decode s p).1) then nameN s f (p + (Utf8.decode s p).2) (n + 1) else false) else decide (1 ≤ n ∧ n ≤ 6)
def nameB (s : ByteArray) : Bool := nameN s (s.size + 1) 0 0
theorem rest_size (s : ByteArray) (p : Nat) : (s.extract p s.size).size = s.size - p := Lib.tail_size s p
theorem decode_rest (s : ByteArray) (p : Nat) (h : p < s.size) : Lib.decodeGo (s.extract p s.size) = Utf8.decode s p := by
  have h1 : (s.extract p s.size).size ≠ 0 := by rw [rest_size]; omega
  rw [Lib.decodeGo, if_neg h1, Lib.tail_decode, Nat.add_zero]
theorem decode_le (s : ByteArray) (p : Nat) (h : p < s.size) : p + (Utf8.decode s p).2 ≤ s.size := by
  have h1 := Lib.decodeGo_le_size (s.extract p s.size)
  rw [decode_rest s p h, rest_size] at h1
  omega
theorem decode_lo (s : ByteArray) (p : Nat) : 1 ≤ (Utf8.decode s p).2 := Lib.width_pos s p
theorem nameN_over (s : ByteArray) : ∀ f p n, 7 ≤ n → nameN s f p n = false
  | 0, _, _, _ => rfl
  | f + 1, p, n, h => by
    rw [nameN]
    split
    · split
      · exact nameN_over s f _ _ (by omega)
      · rfl
    · simp; omega
theorem nameN_six (s : ByteArray) (f p : Nat) (h : p < s.size) : nameN s f p 6 = false := by
  cases f with
  | zero => rfl
  | succ f =>
    rw [nameN, if_pos h]
    split
    · exact nameN_over s f _ _ (by omega)
    · rfl

/- Runes and bytes. -/
set_option maxHeartbeats 1000000 in
theorem letter_to (r : Nat) (w : World) (x : Bool) (hx : letR r = x) :
    Calls Try.prog 43 #[.int .i32 r] w fun e w' => e = .returned (.bool x) ∧ w = w' := by
  have HX : Hid (letR r = x) := hx
  clear hx
  by_cases h1 : 97 ≤ r
  · have g1 : (97 : Int) ≤ (r : Int) := by omega
    by_cases h2 : r ≤ 122
    · have g2 : (r : Int) ≤ 122 := by omega
      go_enter Try.func43, Try.ntmps43
      go_wp2
      go_ret
      exact ⟨by rw [← HX.out]; simp [letR, h1, h2], rfl⟩
    · have g2 : ¬ (r : Int) ≤ 122 := by omega
      by_cases h3 : 945 ≤ r
      · have g3 : (945 : Int) ≤ (r : Int) := by omega
        go_enter Try.func43, Try.ntmps43
        go_wp2
        go_ret
        exact ⟨by rw [← HX.out]; simp [letR, h1, h2, h3]; omega, rfl⟩
      · have g3 : ¬ (945 : Int) ≤ (r : Int) := by omega
        go_enter Try.func43, Try.ntmps43
        go_wp2
        go_ret
        exact ⟨by rw [← HX.out]; simp [letR, h1, h2, h3], rfl⟩
  · have g1 : ¬ (97 : Int) ≤ (r : Int) := by omega
    have g3 : ¬ (945 : Int) ≤ (r : Int) := by omega
    go_enter Try.func43, Try.ntmps43
    go_wp2
    go_ret
    exact ⟨by rw [← HX.out]; simp [letR]; omega, rfl⟩
set_option maxHeartbeats 1000000 in
theorem digit_to (r : Nat) (w : World) (x : Bool) (hx : digR r = x) :
    Calls Try.prog 44 #[.int .i32 r] w fun e w' => e = .returned (.bool x) ∧ w = w' := by
  have HX : Hid (digR r = x) := hx
  clear hx
  by_cases h1 : 48 ≤ r
  · have g1 : (48 : Int) ≤ (r : Int) := by omega
    go_enter Try.func44, Try.ntmps44
    go_wp2
    go_ret
    exact ⟨by rw [← HX.out]; simp [digR, h1]; omega, rfl⟩
  · have g1 : ¬ (48 : Int) ≤ (r : Int) := by omega
    go_enter Try.func44, Try.ntmps44
    go_wp2
    go_ret
    exact ⟨by rw [← HX.out]; simp [digR, h1], rfl⟩
set_option maxHeartbeats 4000000 in
theorem name_to (s : ByteArray) (w : World) (q : Bool) (hq : nameB s = q) :
    Calls Try.prog 33 #[.string s] w fun e w' => e = .returned (.int .i64 (if q then 0 else 1)) ∧ Below w.heap.size w w' := by
  have HQ : Hid (nameB s = q) := hq
  clear hq
  go_enter Try.func33, Try.ntmps33
  go_wp2_with fail
  refine wp_scope_jumps 0 (fun a' w' => (Below w.heap.size w w' ∧ q = false) ∧ ∃ (u0 u1 u2 u3 u4 u5 u6 u7 u8 u9 u10 u11 u12 u13 u14 u15 u16 u17 u18 u19 u20 u21 u22 u23 u24 u25 u26 u27 u28 u29 u30 : Value), a' = { tmps := #[u0, u1, u2, u3, u4, u5, u6, u7, u8, u9, u10, u11, u12, u13, u14, u15, u16, u17, u18, u19, u20, u21, u22, u23, u24, u25, u26, u27, u28, u29, u30], defers := [] }) (fun _ _ => 0) rfl ?_ ?_
  · go_wp2
    go_loopw [3] (fun n w' => ∃ (p m f : Nat), p ≤ s.size ∧ m ≤ 6 ∧ w' = w.iter s p ∧ n = .int .i64 m ∧ Hid (s.size - p < f ∧ nameN s f p m = q)) (fun _ w' => s.size - w'.iterPos w.heap.size)
    case atStart => exact ⟨0, 0, s.size + 1, Nat.zero_le _, by omega, rfl, rfl, by omega, HQ.out⟩
    case round =>
      obtain ⟨p, m, f, hp, hm6, rfl, rfl, HF⟩ := hrel
      obtain ⟨g, hg⟩ : ∃ g, f = g + 1 := ⟨f - 1, by have := HF.out.1; omega⟩
      subst hg
      have HB : Hid (Below w.heap.size w (w.iter s p)) := (Below.refl _ _).alloc (Nat.le_refl _) _
      by_cases hlt : p < s.size
      · obtain ⟨⟨r, k⟩, hrk⟩ : ∃ x, Utf8.decode s p = x := ⟨_, rfl⟩
        have hk1 := decode_lo s p
        have hk2 := decode_le s p hlt
        have hnx : ∀ ty, (Instr.next (.pointer (some ⟨w.heap.size, 0, none⟩)) true ty).run Try.prog (w.iter s p) = _ := fun ty => run_next_any w s p ty hlt
        rw [hrk] at hk1 hk2 hnx
        simp only at hk1 hk2 hnx
        have HF2 : Hid ((if letR r || (decide (m ≠ 0) && digR r) then nameN s g (p + k) (m + 1) else false) = q) := by
          have h := HF.out.2
          rw [nameN, if_pos hlt, hrk] at h
          exact h
        have HG : Hid (s.size - (p + k) < g) := by have := HF.out.1; show _ < _; omega
        have HB2 : Hid (Below w.heap.size w (w.iter s (p + k))) := (Below.refl _ _).alloc (Nat.le_refl _) _
        by_cases h6 : m = 6
        · subst h6
          have HQ2 : Hid (q = false) := by have h := HF.out.2; rw [nameN_six s _ _ hlt] at h; exact h.symm
          clear HF2 hrk HF
          go_wp2
          go_step3
          exact ⟨rfl, ⟨HB2.out, HQ2.out⟩, _, _, _, _, _, _, _, _, _, _, _, _, _, _, _, _, _, _, _, _, _, _, _, _, _, _, _, _, _, _, _, rfl⟩
        · have g6 : ((m : Int) == 6) = false := by rw [beq_eq_false_iff_ne]; omega
          clear hrk HF
          cases hl : letR r with
          | true =>
            have HL : Hid (letR r = true) := hl
            have HN : Hid (nameN s g (p + k) (m + 1) = q) := by have h := HF2.out; rw [hl, Bool.true_or, if_pos rfl] at h; exact h
            clear hl HF2
            go_wp2_with (go_at_call 43; refine (letter_to r _ true HL.out).mono ?_; rintro e w2 ⟨rfl, rfl⟩)
            go_roundw
            case rel => exact ⟨p + k, m + 1, g, by omega, by omega, rfl, by go_num, HG.out, HN.out⟩
            case measure => simp; omega
          | false =>
            have HL : Hid (letR r = false) := hl
            by_cases hm : m = 0
            · subst hm
              have HQ2 : Hid (q = false) := by have h := HF2.out; rw [hl] at h; show _ = _; simpa using h.symm
              clear hl HF2
              go_wp2_with (go_at_call 43; refine (letter_to r _ false HL.out).mono ?_; rintro e w2 ⟨rfl, rfl⟩)
              go_step3
              exact ⟨rfl, ⟨HB2.out, HQ2.out⟩, _, _, _, _, _, _, _, _, _, _, _, _, _, _, _, _, _, _, _, _, _, _, _, _, _, _, _, _, _, _, _, rfl⟩
            · have g0 : ((m : Int) == 0) = false := by rw [beq_eq_false_iff_ne]; omega
              cases hd : digR r with
              | true =>
                have HDG : Hid (digR r = true) := hd
                have HN : Hid (nameN s g (p + k) (m + 1) = q) := by have h := HF2.out; rw [hl, hd, decide_eq_true hm] at h; show _ = _; simpa using h
                clear hl hd HF2
                go_wp2_with (first
                  | (go_at_call 43; refine (letter_to r _ false HL.out).mono ?_; rintro e w2 ⟨rfl, rfl⟩)
                  | (go_at_call 44; refine (digit_to r _ true HDG.out).mono ?_; rintro e w2 ⟨rfl, rfl⟩))
                go_roundw
                case rel => exact ⟨p + k, m + 1, g, by omega, by omega, rfl, by go_num, HG.out, HN.out⟩
                case measure => simp; omega
              | false =>
                have HDG : Hid (digR r = false) := hd
                have HQ2 : Hid (q = false) := by have h := HF2.out; rw [hl, hd, decide_eq_true hm] at h; show _ = _; simpa using h.symm
                clear hl hd HF2
                go_wp2_with (first
                  | (go_at_call 43; refine (letter_to r _ false HL.out).mono ?_; rintro e w2 ⟨rfl, rfl⟩)
                  | (go_at_call 44; refine (digit_to r _ false HDG.out).mono ?_; rintro e w2 ⟨rfl, rfl⟩))
                go_step3
                exact ⟨rfl, ⟨HB2.out, HQ2.out⟩, _, _, _, _, _, _, _, _, _, _, _, _, _, _, _, _, _, _, _, _, _, _, _, _, _, _, _, _, _, _, _, rfl⟩
      · have HQ2 : Hid (decide (1 ≤ m ∧ m ≤ 6) = q) := by
          have h := HF.out.2
          rw [nameN, if_neg hlt] at h
          exact h
        have hnx : ∀ ty, (Instr.next (.pointer (some ⟨w.heap.size, 0, none⟩)) true ty).run Try.prog (w.iter s p) = _ := fun ty => run_next_end w s p ty hlt
        by_cases hm : m = 0
        · subst hm
          have HQ3 : Hid (q = false) := by show _ = _; rw [← HQ2.out]; rfl
          clear HF
          go_wp2
          go_step3
          exact ⟨rfl, ⟨HB.out, HQ3.out⟩, _, _, _, _, _, _, _, _, _, _, _, _, _, _, _, _, _, _, _, _, _, _, _, _, _, _, _, _, _, _, _, rfl⟩
        · have g0 : ((m : Int) == 0) = false := by rw [beq_eq_false_iff_ne]; omega
          have HQ3 : Hid (q = true) := by show _ = _; rw [← HQ2.out]; exact decide_eq_true (by omega)
          clear HF
          go_wp2
          rw [jump_ret]
          go_ret
          exact ⟨by rw [HQ3.out]; rfl, HB.out⟩
  · rintro a w' ⟨⟨hbj, hq⟩, u0, u1, u2, u3, u4, u5, u6, u7, u8, u9, u10, u11, u12, u13, u14, u15, u16, u17, u18, u19, u20, u21, u22, u23, u24, u25, u26, u27, u28, u29, u30, rfl⟩
    have HBJ : Hid (Below w.heap.size w w') := hbj
    clear hbj
    subst hq
    go_wp2
    rw [jump_ret]
    go_ret
    exact ⟨rfl, HBJ.out⟩
end Go.Proofs.Ytjfkhfahpjdidaa
