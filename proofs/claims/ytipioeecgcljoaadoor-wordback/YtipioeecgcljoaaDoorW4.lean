/- Contract: the page's Words. -/
import Derived.Test.YtipioeecgcljoaaDoorW3
namespace Go.Proofs.YtipioeecgcljoaaDoor
set_option linter.unusedVariables false
set_option linter.unusedSimpArgs false
set_option maxRecDepth 100000
open Go.RowKit

set_option maxHeartbeats 8000000 in
theorem rwords_bad (s : ByteArray) (w : World) (hs : s.size ≤ 1000000) (hT : Lib.Utf8Tabs 0 1 w) (q : Nat) (hq : badW s = some q) :
    Calls Tryd.prog 14 #[.string s] w fun e w' => e = .returned (.tuple #[.slice none 0 0, .int .i64 q, .bool false]) ∧ Below w.heap.size w w' := by
  have HT : Hid (Lib.Utf8Tabs 0 1 w) := hT
  have HQ0 : Hid (badN s (s.size + 1) 0 = some q) := hq
  clear hT hq
  go_enter Tryd.func14, Tryd.ntmps14
  go_wp2
  go_loopw [5] (fun i w' => ∃ (p f : Nat), p ≤ s.size ∧ i = .int .i64 p ∧ Hid (s.size - p < f ∧ badN s f p = (some q)) ∧ Hid (Below w.heap.size w w')) (fun i _ => s.size - (intOf i).toNat)
  case atStart => exact ⟨0, s.size + 1, Nat.zero_le _, rfl, ⟨by omega, HQ0.out⟩, Below.refl _ _⟩
  case round =>
    obtain ⟨p, f, hp, rfl, HF, HB⟩ := hrel
    by_cases hlt : p < s.size
    · obtain ⟨⟨r, k⟩, hrk⟩ : ∃ x, Utf8.decode s p = x := ⟨_, rfl⟩
      have hk1 := decode_lo s p
      have hk2 := decode_le s p hlt
      rw [hrk] at hk1 hk2
      simp only at hk1 hk2
      obtain ⟨g, hg⟩ : ∃ g, f = g + 1 := ⟨f - 1, by have := HF.out.1; omega⟩
      subst hg
      have HF2 : Hid ((if badR r k = true then some p else badN s g (p + k)) = (some q)) := by
        have h := HF.out.2
        rw [badN, if_pos hlt, hrk] at h
        exact h
      have HG : Hid (s.size - (p + k) < g) := by have := HF.out.1; show _ < _; omega
      have HRK : Hid (Utf8.decode s p = (r, k)) := hrk
      obtain ⟨b, hb⟩ : ∃ b, s.extract p s.size = b := ⟨_, rfl⟩
      have HD : Hid (∀ (w : World), Lib.Utf8Tabs 0 1 w → Calls Tryd.prog 26 #[.string b] w fun e w' => e = .returned (.tuple #[.int .i32 r, .int .i64 k]) ∧ Below w.heap.size w w') := fun w hT => by
        have h := decode_to s p hlt w hT r k HRK.out
        rw [hb] at h
        exact h
      clear HF hrk
      by_cases h1 : r = 65533
      · have HL : Hid (letR r = false) := by show _ = _; rw [h1]; rfl
        have HDG : Hid (digR r = false) := by show _ = _; rw [h1]; rfl
        have H1 : Hid (r = 65533) := h1
        have e1 : ((r : Int) == 65533) = true := by rw [beq_iff_eq]; omega
        have n45 : ((r : Int) != 45) = true := by rw [bne_iff_ne]; omega
        have n61 : ((r : Int) != 61) = true := by rw [bne_iff_ne]; omega
        have n32 : ((r : Int) != 32) = true := by rw [bne_iff_ne]; omega
        have n9 : ((r : Int) != 9) = true := by rw [bne_iff_ne]; omega
        by_cases hk3 : k ≤ 1
        · have g3 : (k : Int) ≤ 1 := by omega
          clear h1
          have HQ : Hid (p = q) := by
            have h := HF2.out
            rw [if_pos (by rw [badR, H1.out]; simp [hk3])] at h
            show p = q
            simpa using h
          clear HF2
          go_wp2_with (first
              | (go_at_call 26; refine (HD.out _ (Utf8Tabs_below HT.out HB.out)).mono ?_; rintro e w1 ⟨rfl, hb1⟩; have HB1 : Hid (Below w.heap.size w w1) := Below.after HB.out hb1; clear hb1)
              | (go_at_call 27; refine (rletter_to r _ false HL.out).mono ?_; rintro e w2 ⟨rfl, rfl⟩))
          go_ret3
          exact ⟨by rw [HQ.out]; rfl, HB1.out⟩
        · have g3 : ¬ (k : Int) ≤ 1 := by omega
          clear h1
          have HQ : Hid (p = q) := by
            have h := HF2.out
            rw [if_pos (by rw [badR, HL.out, HDG.out, H1.out]; simp)] at h
            show p = q
            simpa using h
          clear HF2
          go_wp2_with (first
              | (go_at_call 26; refine (HD.out _ (Utf8Tabs_below HT.out HB.out)).mono ?_; rintro e w1 ⟨rfl, hb1⟩; have HB1 : Hid (Below w.heap.size w w1) := Below.after HB.out hb1; clear hb1)
              | (go_at_call 27; refine (rletter_to r _ false HL.out).mono ?_; rintro e w2 ⟨rfl, rfl⟩)
              | (go_at_call 28; refine (rdigit_to r _ false HDG.out).mono ?_; rintro e w2 ⟨rfl, rfl⟩))
          go_ret3
          exact ⟨by rw [HQ.out]; rfl, HB1.out⟩
      · have e1 : ((r : Int) == 65533) = false := by rw [beq_eq_false_iff_ne]; omega
        cases hl : letR r with
        | true =>
          have HL : Hid (letR r = true) := hl
          have HN : Hid (badN s g (p + k) = (some q)) := by
            have h := HF2.out
            rw [if_neg (by rw [badR, hl]; simp [h1])] at h
            exact h
          clear HF2
          go_wp2_with (first
              | (go_at_call 26; refine (HD.out _ (Utf8Tabs_below HT.out HB.out)).mono ?_; rintro e w1 ⟨rfl, hb1⟩; have HB1 : Hid (Below w.heap.size w w1) := Below.after HB.out hb1; clear hb1)
              | (go_at_call 27; refine (rletter_to r _ true HL.out).mono ?_; rintro e w2 ⟨rfl, rfl⟩))
          go_roundw
          case rel => exact ⟨p + k, g, by omega, by go_num, ⟨HG.out, HN.out⟩, HB1.out⟩
          case measure => simp [intOf]; omega
        | false =>
          have HL : Hid (letR r = false) := hl
          cases hd : digR r with
          | true =>
            have HDG : Hid (digR r = true) := hd
            have HN : Hid (badN s g (p + k) = (some q)) := by
              have h := HF2.out
              rw [if_neg (by rw [badR, hl, hd]; simp [h1])] at h
              exact h
            clear HF2
            go_wp2_with (first
                | (go_at_call 26; refine (HD.out _ (Utf8Tabs_below HT.out HB.out)).mono ?_; rintro e w1 ⟨rfl, hb1⟩; have HB1 : Hid (Below w.heap.size w w1) := Below.after HB.out hb1; clear hb1)
                | (go_at_call 27; refine (rletter_to r _ false HL.out).mono ?_; rintro e w2 ⟨rfl, rfl⟩)
                | (go_at_call 28; refine (rdigit_to r _ true HDG.out).mono ?_; rintro e w2 ⟨rfl, rfl⟩))
            go_roundw
            case rel => exact ⟨p + k, g, by omega, by go_num, ⟨HG.out, HN.out⟩, HB1.out⟩
            case measure => simp [intOf]; omega
          | false =>
            have HDG : Hid (digR r = false) := hd
            clear hl hd
            by_cases h45 : r = 45
            · have n45 : ((r : Int) != 45) = false := by rw [bne_eq_false_iff_eq]; omega
              have H9 : Hid (r = 45) := h45
              clear h45
              have HN : Hid (badN s g (p + k) = (some q)) := by
                have h := HF2.out
                rw [if_neg (by rw [badR, H9.out]; simp)] at h
                exact h
              clear HF2
              go_wp2_with (first
                  | (go_at_call 26; refine (HD.out _ (Utf8Tabs_below HT.out HB.out)).mono ?_; rintro e w1 ⟨rfl, hb1⟩; have HB1 : Hid (Below w.heap.size w w1) := Below.after HB.out hb1; clear hb1)
                  | (go_at_call 27; refine (rletter_to r _ false HL.out).mono ?_; rintro e w2 ⟨rfl, rfl⟩)
                  | (go_at_call 28; refine (rdigit_to r _ false HDG.out).mono ?_; rintro e w2 ⟨rfl, rfl⟩))
              go_roundw
              case rel => exact ⟨p + k, g, by omega, by go_num, ⟨HG.out, HN.out⟩, HB1.out⟩
              case measure => simp [intOf]; omega
            · have n45 : ((r : Int) != 45) = true := by rw [bne_iff_ne]; omega
              by_cases h61 : r = 61
              · have n61 : ((r : Int) != 61) = false := by rw [bne_eq_false_iff_eq]; omega
                have H9 : Hid (r = 61) := h61
                clear h61
                have HN : Hid (badN s g (p + k) = (some q)) := by
                  have h := HF2.out
                  rw [if_neg (by rw [badR, H9.out]; simp)] at h
                  exact h
                clear HF2
                go_wp2_with (first
                    | (go_at_call 26; refine (HD.out _ (Utf8Tabs_below HT.out HB.out)).mono ?_; rintro e w1 ⟨rfl, hb1⟩; have HB1 : Hid (Below w.heap.size w w1) := Below.after HB.out hb1; clear hb1)
                    | (go_at_call 27; refine (rletter_to r _ false HL.out).mono ?_; rintro e w2 ⟨rfl, rfl⟩)
                    | (go_at_call 28; refine (rdigit_to r _ false HDG.out).mono ?_; rintro e w2 ⟨rfl, rfl⟩))
                go_roundw
                case rel => exact ⟨p + k, g, by omega, by go_num, ⟨HG.out, HN.out⟩, HB1.out⟩
                case measure => simp [intOf]; omega
              · have n61 : ((r : Int) != 61) = true := by rw [bne_iff_ne]; omega
                by_cases h32 : r = 32
                · have n32 : ((r : Int) != 32) = false := by rw [bne_eq_false_iff_eq]; omega
                  have H9 : Hid (r = 32) := h32
                  clear h32
                  have HN : Hid (badN s g (p + k) = (some q)) := by
                    have h := HF2.out
                    rw [if_neg (by rw [badR, H9.out]; simp)] at h
                    exact h
                  clear HF2
                  go_wp2_with (first
                      | (go_at_call 26; refine (HD.out _ (Utf8Tabs_below HT.out HB.out)).mono ?_; rintro e w1 ⟨rfl, hb1⟩; have HB1 : Hid (Below w.heap.size w w1) := Below.after HB.out hb1; clear hb1)
                      | (go_at_call 27; refine (rletter_to r _ false HL.out).mono ?_; rintro e w2 ⟨rfl, rfl⟩)
                      | (go_at_call 28; refine (rdigit_to r _ false HDG.out).mono ?_; rintro e w2 ⟨rfl, rfl⟩))
                  go_roundw
                  case rel => exact ⟨p + k, g, by omega, by go_num, ⟨HG.out, HN.out⟩, HB1.out⟩
                  case measure => simp [intOf]; omega
                · have n32 : ((r : Int) != 32) = true := by rw [bne_iff_ne]; omega
                  by_cases h9 : r = 9
                  · have n9 : ((r : Int) != 9) = false := by rw [bne_eq_false_iff_eq]; omega
                    have H9 : Hid (r = 9) := h9
                    clear h9
                    have HN : Hid (badN s g (p + k) = (some q)) := by
                      have h := HF2.out
                      rw [if_neg (by rw [badR, H9.out]; simp)] at h
                      exact h
                    clear HF2
                    go_wp2_with (first
                        | (go_at_call 26; refine (HD.out _ (Utf8Tabs_below HT.out HB.out)).mono ?_; rintro e w1 ⟨rfl, hb1⟩; have HB1 : Hid (Below w.heap.size w w1) := Below.after HB.out hb1; clear hb1)
                        | (go_at_call 27; refine (rletter_to r _ false HL.out).mono ?_; rintro e w2 ⟨rfl, rfl⟩)
                        | (go_at_call 28; refine (rdigit_to r _ false HDG.out).mono ?_; rintro e w2 ⟨rfl, rfl⟩))
                    go_roundw
                    case rel => exact ⟨p + k, g, by omega, by go_num, ⟨HG.out, HN.out⟩, HB1.out⟩
                    case measure => simp [intOf]; omega
                  · have n9 : ((r : Int) != 9) = true := by rw [bne_iff_ne]; omega
                    have HQ : Hid (p = q) := by
                      have h := HF2.out
                      rw [if_pos (by rw [badR, HL.out, HDG.out]; simp [h45, h61, h32, h9])] at h
                      show p = q
                      simpa using h
                    clear HF2
                    go_wp2_with (first
                        | (go_at_call 26; refine (HD.out _ (Utf8Tabs_below HT.out HB.out)).mono ?_; rintro e w1 ⟨rfl, hb1⟩; have HB1 : Hid (Below w.heap.size w w1) := Below.after HB.out hb1; clear hb1)
                        | (go_at_call 27; refine (rletter_to r _ false HL.out).mono ?_; rintro e w2 ⟨rfl, rfl⟩)
                        | (go_at_call 28; refine (rdigit_to r _ false HDG.out).mono ?_; rintro e w2 ⟨rfl, rfl⟩))
                    go_ret3
                    exact ⟨by rw [HQ.out]; rfl, HB1.out⟩
    · exfalso
      have h := HF.out.2
      cases f with
      | zero => have := HF.out.1; omega
      | succ g => rw [badN, if_neg hlt] at h; simp at h
end Go.Proofs.YtipioeecgcljoaaDoor
