/- Contracts: package word's letter, digit, Name; strings.Clone. -/
import Derived.Test.YtipioeecgcljoaaDoorX0
namespace Go.Proofs.YtipioeecgcljoaaDoor
set_option linter.unusedVariables false
set_option linter.unusedSimpArgs false
set_option maxRecDepth 100000
open Go.RowKit

set_option maxHeartbeats 1000000 in
theorem letter_to (r : Nat) (w : World) (x : Bool) (hx : letR r = x) :
    Calls Tryd.prog 25 #[.int .i32 r] w fun e w' => e = .returned (.bool x) ∧ w = w' := by
  have HX : Hid (letR r = x) := hx
  clear hx
  by_cases h1 : 97 ≤ r
  · have g1 : (97 : Int) ≤ (r : Int) := by omega
    by_cases h2 : r ≤ 122
    · have g2 : (r : Int) ≤ 122 := by omega
      go_enter Tryd.func25, Tryd.ntmps25
      go_wp2
      go_ret
      exact ⟨by rw [← HX.out]; simp [letR, h1, h2], rfl⟩
    · have g2 : ¬ (r : Int) ≤ 122 := by omega
      by_cases h3 : 945 ≤ r
      · have g3 : (945 : Int) ≤ (r : Int) := by omega
        go_enter Tryd.func25, Tryd.ntmps25
        go_wp2
        go_ret
        exact ⟨by rw [← HX.out]; simp [letR, h1, h2, h3]; omega, rfl⟩
      · have g3 : ¬ (945 : Int) ≤ (r : Int) := by omega
        go_enter Tryd.func25, Tryd.ntmps25
        go_wp2
        go_ret
        exact ⟨by rw [← HX.out]; simp [letR, h1, h2, h3], rfl⟩
  · have g1 : ¬ (97 : Int) ≤ (r : Int) := by omega
    have g3 : ¬ (945 : Int) ≤ (r : Int) := by omega
    go_enter Tryd.func25, Tryd.ntmps25
    go_wp2
    go_ret
    exact ⟨by rw [← HX.out]; simp [letR]; omega, rfl⟩
set_option maxHeartbeats 1000000 in
theorem digit_to (r : Nat) (w : World) (x : Bool) (hx : digR r = x) :
    Calls Tryd.prog 24 #[.int .i32 r] w fun e w' => e = .returned (.bool x) ∧ w = w' := by
  have HX : Hid (digR r = x) := hx
  clear hx
  by_cases h1 : 48 ≤ r
  · have g1 : (48 : Int) ≤ (r : Int) := by omega
    go_enter Tryd.func24, Tryd.ntmps24
    go_wp2
    go_ret
    exact ⟨by rw [← HX.out]; simp [digR, h1]; omega, rfl⟩
  · have g1 : ¬ (48 : Int) ≤ (r : Int) := by omega
    go_enter Tryd.func24, Tryd.ntmps24
    go_wp2
    go_ret
    exact ⟨by rw [← HX.out]; simp [digR, h1], rfl⟩
theorem clone_to (s : ByteArray) (w : World) (hs : s.size ≤ 281474976710656) :
    Calls Tryd.prog 32 #[.string s] w fun e w' => e = .returned (.string s) ∧ Below w.heap.size w w' := by
  go_enter Tryd.func32, Tryd.ntmps32
  go_wp2_with (go_at_call 38; refine (Tryd.stringslite_Clone s _ hs).mono ?_; rintro e w1 ⟨rfl, hb1⟩)
  go_ret
  exact ⟨rfl, hb1⟩
set_option maxHeartbeats 4000000 in
theorem name_to (s : ByteArray) (w : World) (q : Bool) (hq : nameB s = q) :
    Calls Tryd.prog 11 #[.string s] w fun e w' => e = .returned (.int .i64 (if q then 0 else 1)) ∧ Below w.heap.size w w' := by
  have HQ : Hid (nameB s = q) := hq
  clear hq
  go_enter Tryd.func11, Tryd.ntmps11
  go_wp2_with fail
  refine wp_scope_jumps 0 (fun a' w' => (Below w.heap.size w w' ∧ q = false) ∧ ∃ (u0 u1 u2 u3 u4 u5 u6 u7 u8 u9 u10 u11 u12 u13 u14 u15 u16 u17 u18 u19 u20 u21 u22 u23 u24 u25 u26 u27 u28 u29 u30 : Value), a' = { tmps := #[u0, u1, u2, u3, u4, u5, u6, u7, u8, u9, u10, u11, u12, u13, u14, u15, u16, u17, u18, u19, u20, u21, u22, u23, u24, u25, u26, u27, u28, u29, u30], defers := [] }) (fun _ _ => 0) rfl ?_ ?_
  · go_wp2
    go_loopw [3] (fun n w' => ∃ (p m f : Nat), p ≤ s.size ∧ m ≤ 6 ∧ w' = w.iter s p ∧ n = .int .i64 m ∧ Hid (s.size - p < f ∧ nameN s f p m = q)) (fun _ w' => s.size - w'.iterPos w.heap.size)
    case atStart => exact ⟨0, 0, s.size + 1, Nat.zero_le _, by omega, rfl, rfl, by omega, HQ.out⟩
    case round =>
      obtain ⟨p, m, f, hp, hm6, rfl, rfl, HF⟩ := hrel
      obtain ⟨g, hg⟩ : ∃ g, f = g + 1 := ⟨f - 1, by have := HF.out.1; omega⟩
      subst hg
      have HB : Hid (Below w.heap.size w (w.iter s p)) := (Below.refl _ _).alloc (Nat.le_refl _) _
      by_cases hlt : p < s.size
      · obtain ⟨⟨r, k⟩, hrk⟩ : ∃ x, Utf8.decode s p = x := ⟨_, rfl⟩
        have hk1 := decode_lo s p
        have hk2 := decode_le s p hlt
        have hnx : ∀ ty, (Instr.next (.pointer (some ⟨w.heap.size, 0, none⟩)) true ty).run Tryd.prog (w.iter s p) = _ := fun ty => run_next_any w s p ty hlt
        rw [hrk] at hk1 hk2 hnx
        simp only at hk1 hk2 hnx
        have HF2 : Hid ((if letR r || (decide (m ≠ 0) && digR r) then nameN s g (p + k) (m + 1) else false) = q) := by
          have h := HF.out.2
          rw [nameN, if_pos hlt, hrk] at h
          exact h
        have HG : Hid (s.size - (p + k) < g) := by have := HF.out.1; show _ < _; omega
        have HB2 : Hid (Below w.heap.size w (w.iter s (p + k))) := (Below.refl _ _).alloc (Nat.le_refl _) _
        by_cases h6 : m = 6
        · subst h6
          have HQ2 : Hid (q = false) := by have h := HF.out.2; rw [nameN_six s _ _ hlt] at h; exact h.symm
          clear HF2 hrk HF
          go_wp2
          go_step3
          exact ⟨rfl, ⟨HB2.out, HQ2.out⟩, _, _, _, _, _, _, _, _, _, _, _, _, _, _, _, _, _, _, _, _, _, _, _, _, _, _, _, _, _, _, _, rfl⟩
        · have g6 : ((m : Int) == 6) = false := by rw [beq_eq_false_iff_ne]; omega
          clear hrk HF
          cases hl : letR r with
          | true =>
            have HL : Hid (letR r = true) := hl
            have HN : Hid (nameN s g (p + k) (m + 1) = q) := by have h := HF2.out; rw [hl, Bool.true_or, if_pos rfl] at h; exact h
            clear hl HF2
            go_wp2_with (go_at_call 25; refine (letter_to r _ true HL.out).mono ?_; rintro e w2 ⟨rfl, rfl⟩)
            go_roundw
            case rel => exact ⟨p + k, m + 1, g, by omega, by omega, rfl, by go_num, HG.out, HN.out⟩
            case measure => simp; omega
          | false =>
            have HL : Hid (letR r = false) := hl
            by_cases hm : m = 0
            · subst hm
              have HQ2 : Hid (q = false) := by have h := HF2.out; rw [hl] at h; show _ = _; simpa using h.symm
              clear hl HF2
              go_wp2_with (go_at_call 25; refine (letter_to r _ false HL.out).mono ?_; rintro e w2 ⟨rfl, rfl⟩)
              go_step3
              exact ⟨rfl, ⟨HB2.out, HQ2.out⟩, _, _, _, _, _, _, _, _, _, _, _, _, _, _, _, _, _, _, _, _, _, _, _, _, _, _, _, _, _, _, _, rfl⟩
            · have g0 : ((m : Int) == 0) = false := by rw [beq_eq_false_iff_ne]; omega
              cases hd : digR r with
              | true =>
                have HDG : Hid (digR r = true) := hd
                have HN : Hid (nameN s g (p + k) (m + 1) = q) := by have h := HF2.out; rw [hl, hd, decide_eq_true hm] at h; show _ = _; simpa using h
                clear hl hd HF2
                go_wp2_with (first
                  | (go_at_call 25; refine (letter_to r _ false HL.out).mono ?_; rintro e w2 ⟨rfl, rfl⟩)
                  | (go_at_call 24; refine (digit_to r _ true HDG.out).mono ?_; rintro e w2 ⟨rfl, rfl⟩))
                go_roundw
                case rel => exact ⟨p + k, m + 1, g, by omega, by omega, rfl, by go_num, HG.out, HN.out⟩
                case measure => simp; omega
              | false =>
                have HDG : Hid (digR r = false) := hd
                have HQ2 : Hid (q = false) := by have h := HF2.out; rw [hl, hd, decide_eq_true hm] at h; show _ = _; simpa using h.symm
                clear hl hd HF2
                go_wp2_with (first
                  | (go_at_call 25; refine (letter_to r _ false HL.out).mono ?_; rintro e w2 ⟨rfl, rfl⟩)
                  | (go_at_call 24; refine (digit_to r _ false HDG.out).mono ?_; rintro e w2 ⟨rfl, rfl⟩))
                go_step3
                exact ⟨rfl, ⟨HB2.out, HQ2.out⟩, _, _, _, _, _, _, _, _, _, _, _, _, _, _, _, _, _, _, _, _, _, _, _, _, _, _, _, _, _, _, _, rfl⟩
      · have HQ2 : Hid (decide (1 ≤ m ∧ m ≤ 6) = q) := by
          have h := HF.out.2
          rw [nameN, if_neg hlt] at h
          exact h
        have hnx : ∀ ty, (Instr.next (.pointer (some ⟨w.heap.size, 0, none⟩)) true ty).run Tryd.prog (w.iter s p) = _ := fun ty => run_next_end w s p ty hlt
        by_cases hm : m = 0
        · subst hm
          have HQ3 : Hid (q = false) := by show _ = _; rw [← HQ2.out]; rfl
          clear HF
          go_wp2
          go_step3
          exact ⟨rfl, ⟨HB.out, HQ3.out⟩, _, _, _, _, _, _, _, _, _, _, _, _, _, _, _, _, _, _, _, _, _, _, _, _, _, _, _, _, _, _, _, rfl⟩
        · have g0 : ((m : Int) == 0) = false := by rw [beq_eq_false_iff_ne]; omega
          have HQ3 : Hid (q = true) := by show _ = _; rw [← HQ2.out]; exact decide_eq_true (by omega)
          clear HF
          go_wp2
          rw [jump_ret]
          go_ret
          exact ⟨by rw [HQ3.out]; rfl, HB.out⟩
  · rintro a w' ⟨⟨hbj, hq⟩, u0, u1, u2, u3, u4, u5, u6, u7, u8, u9, u10, u11, u12, u13, u14, u15, u16, u17, u18, u19, u20, u21, u22, u23, u24, u25, u26, u27, u28, u29, u30, rfl⟩
    have HBJ : Hid (Below w.heap.size w w') := hbj
    clear hbj
    subst hq
    go_wp2
    rw [jump_ret]
    go_ret
    exact ⟨rfl, HBJ.out⟩
end Go.Proofs.YtipioeecgcljoaaDoor
