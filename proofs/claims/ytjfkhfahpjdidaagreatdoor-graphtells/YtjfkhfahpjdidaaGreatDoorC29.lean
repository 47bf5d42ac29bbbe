/- Carried: W1, X0, X1. -/
import Derived.Test.YtjfkhfahpjdidaaGreatDoorC28
namespace Go.Proofs.YtjfkhfahpjdidaaGreatDoor
set_option linter.unusedVariables false
set_option linter.unusedSimpArgs false
set_option maxRecDepth 100000
open Go.RowKit

theorem between_to (n lo hi : Int) (w : World) (x : Bool) (hx : decide (lo ≤ n ∧ n ≤ hi) = x) :
    Calls Tryz.prog 23 #[.int .i64 n, .int .i64 lo, .int .i64 hi] w fun e w' => e = .returned (.bool x) ∧ w = w' := by
  by_cases h : lo ≤ n ∧ n ≤ hi
  · rw [← hx, decide_eq_true h]; exact between_t n lo hi w h.1 h.2
  · rw [← hx, decide_eq_false h]; exact between_f n lo hi w (by omega)
set_option maxHeartbeats 1000000 in
theorem rletter_to (r : Nat) (w : World) (x : Bool) (hx : letR r = x) :
    Calls Tryz.prog 38 #[.int .i32 r] w fun e w' => e = .returned (.bool x) ∧ w = w' := by
  have HX : Hid (letR r = x) := hx
  clear hx
  by_cases h1 : 97 ≤ r
  · have g1 : (97 : Int) ≤ (r : Int) := by omega
    by_cases h2 : r ≤ 122
    · have g2 : (r : Int) ≤ 122 := by omega
      go_enter Tryz.func38, Tryz.ntmps38
      go_wp2
      go_ret
      exact ⟨by rw [← HX.out]; simp [letR, h1, h2], rfl⟩
    · have g2 : ¬ (r : Int) ≤ 122 := by omega
      by_cases h3 : 945 ≤ r
      · have g3 : (945 : Int) ≤ (r : Int) := by omega
        go_enter Tryz.func38, Tryz.ntmps38
        go_wp2
        go_ret
        exact ⟨by rw [← HX.out]; simp [letR, h1, h2, h3]; omega, rfl⟩
      · have g3 : ¬ (945 : Int) ≤ (r : Int) := by omega
        go_enter Tryz.func38, Tryz.ntmps38
        go_wp2
        go_ret
        exact ⟨by rw [← HX.out]; simp [letR, h1, h2, h3], rfl⟩
  · have g1 : ¬ (97 : Int) ≤ (r : Int) := by omega
    have g3 : ¬ (945 : Int) ≤ (r : Int) := by omega
    go_enter Tryz.func38, Tryz.ntmps38
    go_wp2
    go_ret
    exact ⟨by rw [← HX.out]; simp [letR]; omega, rfl⟩
set_option maxHeartbeats 1000000 in
theorem rdigit_to (r : Nat) (w : World) (x : Bool) (hx : digR r = x) :
    Calls Tryz.prog 39 #[.int .i32 r] w fun e w' => e = .returned (.bool x) ∧ w = w' := by
  have HX : Hid (digR r = x) := hx
  clear hx
  by_cases h1 : 48 ≤ r
  · have g1 : (48 : Int) ≤ (r : Int) := by omega
    go_enter Tryz.func39, Tryz.ntmps39
    go_wp2
    go_ret
    exact ⟨by rw [← HX.out]; simp [digR, h1]; omega, rfl⟩
  · have g1 : ¬ (48 : Int) ≤ (r : Int) := by omega
    go_enter Tryz.func39, Tryz.ntmps39
    go_wp2
    go_ret
    exact ⟨by rw [← HX.out]; simp [digR, h1], rfl⟩
/-- utf8.DecodeRuneInString at what is left of a text. -/
theorem decode_to (s : ByteArray) (p : Nat) (hp : p < s.size) (w : World) (hT : Lib.Utf8Tabs 0 1 w) (r k : Nat) (hr : Utf8.decode s p = (r, k)) :
    Calls Tryz.prog 37 #[.string (s.extract p s.size)] w fun e w' => e = .returned (.tuple #[.int .i32 r, .int .i64 k]) ∧ Below w.heap.size w w' := by
  have h := Tryz.utf8_DecodeRuneInString (s.extract p s.size) w hT
  rw [decode_rest s p hp, hr] at h
  exact h
def strLen : Value → Nat
  | .string b => b.size
  | _ => 0
set_option maxHeartbeats 4000000 in
theorem rname_to (s : ByteArray) (w : World) (hs : s.size ≤ 140737488355328) (hT : Lib.Utf8Tabs 0 1 w) (q : Bool) (hq : nameB s = q) :
    Calls Tryz.prog 24 #[.string s] w fun e w' => e = .returned (.bool q) ∧ Below w.heap.size w w' := by
  have HT : Hid (Lib.Utf8Tabs 0 1 w) := hT
  have HQ : Hid (nameB s = q) := hq
  clear hT hq
  go_enter Tryz.func24, Tryz.ntmps24
  go_wp2
  go_loopw [0, 3] (fun v n w' => ∃ (p m f : Nat), p ≤ s.size ∧ m ≤ p ∧ v = .string (s.extract p s.size) ∧ n = .int .i64 m ∧ Hid (s.size - p < f ∧ nameN s f p m = q) ∧ Hid (Below w.heap.size w w')) (fun v _ _ => strLen v)
  case atStart => exact ⟨0, 0, s.size + 1, Nat.zero_le _, Nat.le_refl _, by rw [rest_all], rfl, ⟨by omega, HQ.out⟩, Below.refl _ _⟩
  case round =>
    obtain ⟨p, m, f, hp, hmp, rfl, rfl, HF, HB⟩ := hrel
    by_cases hlt : p < s.size
    · obtain ⟨⟨r, k⟩, hrk⟩ : ∃ x, Utf8.decode s p = x := ⟨_, rfl⟩
      have hk1 := decode_lo s p
      have hk2 := decode_le s p hlt
      rw [hrk] at hk1 hk2
      simp only at hk1 hk2
      obtain ⟨g, hg⟩ : ∃ g, f = g + 1 := ⟨f - 1, by have := HF.out.1; omega⟩
      subst hg
      have HF2 : Hid ((if letR r || (decide (m ≠ 0) && digR r) then nameN s g (p + k) (m + 1) else false) = q) := by
        have h := HF.out.2
        rw [nameN, if_pos hlt, hrk] at h
        exact h
      have HG : Hid (s.size - (p + k) < g) := by have := HF.out.1; show _ < _; omega
      have HRK : Hid (Utf8.decode s p = (r, k)) := hrk
      obtain ⟨b, hb⟩ : ∃ b, s.extract p s.size = b := ⟨_, rfl⟩
      have HD : Hid (∀ (w : World), Lib.Utf8Tabs 0 1 w → Calls Tryz.prog 37 #[.string b] w fun e w' => e = .returned (.tuple #[.int .i32 r, .int .i64 k]) ∧ Below w.heap.size w w') := fun w hT => by
        have h := decode_to s p hlt w hT r k HRK.out
        rw [hb] at h
        exact h
      have hbs : b.size = s.size - p := by rw [← hb, rest_size]
      have HBE : Hid (b.extract k b.size = s.extract (p + k) s.size) := by show _ = _; rw [← hb, rest_rest]
      have hpos : 0 < b.size := by omega
      have hkb : k ≤ b.size := by omega
      have hbmax : b.size ≤ 140737488355328 := by omega
      have HBS : Hid (b.size = s.size - p) := hbs
      rw [hb]
      clear hb hrk HF hbs
      cases hl : letR r with
      | true =>
        have HL : Hid (letR r = true) := hl
        have HN : Hid (nameN s g (p + k) (m + 1) = q) := by have h := HF2.out; rw [hl, Bool.true_or, if_pos rfl] at h; exact h
        clear hl HF2
        go_wp2_with (first
          | (go_at_call 37; refine (HD.out _ (Utf8Tabs_below HT.out HB.out)).mono ?_; rintro e w1 ⟨rfl, hb1⟩; have HB1 : Hid (Below w.heap.size w w1) := Below.after HB.out hb1; clear hb1)
          | (go_at_call 38; refine (rletter_to r _ true HL.out).mono ?_; rintro e w2 ⟨rfl, rfl⟩))
        go_roundw
        case rel => exact ⟨p + k, m + 1, g, by omega, by omega, by rw [HBE.out], by go_num, ⟨HG.out, HN.out⟩, HB1.out⟩
        case measure => rw [HBE.out]; simp only [strLen]; rw [rest_size]; have := HBS.out; omega
      | false =>
        have HL : Hid (letR r = false) := hl
        by_cases hm : m = 0
        · subst hm
          have HQ2 : Hid (q = false) := by have h := HF2.out; rw [hl] at h; show _ = _; simpa using h.symm
          clear hl HF2
          go_wp2_with (first
            | (go_at_call 37; refine (HD.out _ (Utf8Tabs_below HT.out HB.out)).mono ?_; rintro e w1 ⟨rfl, hb1⟩; have HB1 : Hid (Below w.heap.size w w1) := Below.after HB.out hb1; clear hb1)
            | (go_at_call 38; refine (rletter_to r _ false HL.out).mono ?_; rintro e w2 ⟨rfl, rfl⟩))
          go_ret
          exact ⟨by rw [HQ2.out]; rfl, HB1.out⟩
        · have hm0 : ((m : Int) == 0) = false := by simp; omega
          cases hd : digR r with
          | true =>
            have HDG : Hid (digR r = true) := hd
            have HN : Hid (nameN s g (p + k) (m + 1) = q) := by have h := HF2.out; rw [hl, hd, decide_eq_true hm] at h; show _ = _; simpa using h
            clear hl hd HF2
            go_wp2_with (first
              | (go_at_call 37; refine (HD.out _ (Utf8Tabs_below HT.out HB.out)).mono ?_; rintro e w1 ⟨rfl, hb1⟩; have HB1 : Hid (Below w.heap.size w w1) := Below.after HB.out hb1; clear hb1)
              | (go_at_call 38; refine (rletter_to r _ false HL.out).mono ?_; rintro e w2 ⟨rfl, rfl⟩)
              | (go_at_call 39; refine (rdigit_to r _ true HDG.out).mono ?_; rintro e w2 ⟨rfl, rfl⟩))
            go_roundw
            case rel => exact ⟨p + k, m + 1, g, by omega, by omega, by rw [HBE.out], by go_num, ⟨HG.out, HN.out⟩, HB1.out⟩
            case measure => rw [HBE.out]; simp only [strLen]; rw [rest_size]; have := HBS.out; omega
          | false =>
            have HDG : Hid (digR r = false) := hd
            have HQ2 : Hid (q = false) := by have h := HF2.out; rw [hl, hd, decide_eq_true hm] at h; show _ = _; simpa using h.symm
            clear hl hd HF2
            go_wp2_with (first
              | (go_at_call 37; refine (HD.out _ (Utf8Tabs_below HT.out HB.out)).mono ?_; rintro e w1 ⟨rfl, hb1⟩; have HB1 : Hid (Below w.heap.size w w1) := Below.after HB.out hb1; clear hb1)
              | (go_at_call 38; refine (rletter_to r _ false HL.out).mono ?_; rintro e w2 ⟨rfl, rfl⟩)
              | (go_at_call 39; refine (rdigit_to r _ false HDG.out).mono ?_; rintro e w2 ⟨rfl, rfl⟩))
            go_ret
            exact ⟨by rw [HQ2.out]; rfl, HB1.out⟩
    · obtain rfl : p = s.size := by omega
      have HQ2 : Hid (decide ((1 : Int) ≤ (m : Int) ∧ (m : Int) ≤ 6) = q) := by
        have h := HF.out.2
        obtain ⟨g, hg⟩ : ∃ g, f = g + 1 := ⟨f - 1, by have := HF.out.1; omega⟩
        rw [hg, nameN, if_neg hlt] at h
        rw [← h]
        show decide _ = decide _
        congr 1
        apply propext
        omega
      obtain ⟨b, hb⟩ : ∃ b, s.extract s.size s.size = b := ⟨_, rfl⟩
      have hbs : b.size = 0 := by rw [← hb, rest_size]; omega
      rw [hb]
      clear hb HF hlt
      go_wp2_with (go_at_call 23; refine (between_to _ _ _ _ q HQ2.out).mono ?_; rintro e w2 ⟨rfl, rfl⟩)
      go_ret
      exact ⟨rfl, HB.out⟩
theorem nameN_over (s : ByteArray) : ∀ f p n, 7 ≤ n → nameN s f p n = false
  | 0, _, _, _ => rfl
  | f + 1, p, n, h => by
    rw [nameN]
    split
    · split
      · exact nameN_over s f _ _ (by omega)
      · rfl
    · simp; omega
theorem nameN_six (s : ByteArray) (f p : Nat) (h : p < s.size) : nameN s f p 6 = false := by
  cases f with
  | zero => rfl
  | succ f =>
    rw [nameN, if_pos h]
    split
    · exact nameN_over s f _ _ (by omega)
    · rfl

/- Runes and bytes. -/
set_option maxHeartbeats 1000000 in
theorem letter_to (r : Nat) (w : World) (x : Bool) (hx : letR r = x) :
    Calls Tryz.prog 45 #[.int .i32 r] w fun e w' => e = .returned (.bool x) ∧ w = w' := by
  have HX : Hid (letR r = x) := hx
  clear hx
  by_cases h1 : 97 ≤ r
  · have g1 : (97 : Int) ≤ (r : Int) := by omega
    by_cases h2 : r ≤ 122
    · have g2 : (r : Int) ≤ 122 := by omega
      go_enter Tryz.func45, Tryz.ntmps45
      go_wp2
      go_ret
      exact ⟨by rw [← HX.out]; simp [letR, h1, h2], rfl⟩
    · have g2 : ¬ (r : Int) ≤ 122 := by omega
      by_cases h3 : 945 ≤ r
      · have g3 : (945 : Int) ≤ (r : Int) := by omega
        go_enter Tryz.func45, Tryz.ntmps45
        go_wp2
        go_ret
        exact ⟨by rw [← HX.out]; simp [letR, h1, h2, h3]; omega, rfl⟩
      · have g3 : ¬ (945 : Int) ≤ (r : Int) := by omega
        go_enter Tryz.func45, Tryz.ntmps45
        go_wp2
        go_ret
        exact ⟨by rw [← HX.out]; simp [letR, h1, h2, h3], rfl⟩
  · have g1 : ¬ (97 : Int) ≤ (r : Int) := by omega
    have g3 : ¬ (945 : Int) ≤ (r : Int) := by omega
    go_enter Tryz.func45, Tryz.ntmps45
    go_wp2
    go_ret
    exact ⟨by rw [← HX.out]; simp [letR]; omega, rfl⟩
set_option maxHeartbeats 1000000 in
theorem digit_to (r : Nat) (w : World) (x : Bool) (hx : digR r = x) :
    Calls Tryz.prog 46 #[.int .i32 r] w fun e w' => e = .returned (.bool x) ∧ w = w' := by
  have HX : Hid (digR r = x) := hx
  clear hx
  by_cases h1 : 48 ≤ r
  · have g1 : (48 : Int) ≤ (r : Int) := by omega
    go_enter Tryz.func46, Tryz.ntmps46
    go_wp2
    go_ret
    exact ⟨by rw [← HX.out]; simp [digR, h1]; omega, rfl⟩
  · have g1 : ¬ (48 : Int) ≤ (r : Int) := by omega
    go_enter Tryz.func46, Tryz.ntmps46
    go_wp2
    go_ret
    exact ⟨by rw [← HX.out]; simp [digR, h1], rfl⟩
set_option maxHeartbeats 4000000 in
theorem name_to (s : ByteArray) (w : World) (q : Bool) (hq : nameB s = q) :
    Calls Tryz.prog 28 #[.string s] w fun e w' => e = .returned (.int .i64 (if q then 0 else 1)) ∧ Below w.heap.size w w' := by
  have HQ : Hid (nameB s = q) := hq
  clear hq
  go_enter Tryz.func28, Tryz.ntmps28
  go_wp2_with fail
  refine wp_scope_jumps 0 (fun a' w' => (Below w.heap.size w w' ∧ q = false) ∧ ∃ (u0 u1 u2 u3 u4 u5 u6 u7 u8 u9 u10 u11 u12 u13 u14 u15 u16 u17 u18 u19 u20 u21 u22 u23 u24 u25 u26 u27 u28 u29 u30 : Value), a' = { tmps := #[u0, u1, u2, u3, u4, u5, u6, u7, u8, u9, u10, u11, u12, u13, u14, u15, u16, u17, u18, u19, u20, u21, u22, u23, u24, u25, u26, u27, u28, u29, u30], defers := [] }) (fun _ _ => 0) rfl ?_ ?_
  · go_wp2
    go_loopw [3] (fun n w' => ∃ (p m f : Nat), p ≤ s.size ∧ m ≤ 6 ∧ w' = w.iter s p ∧ n = .int .i64 m ∧ Hid (s.size - p < f ∧ nameN s f p m = q)) (fun _ w' => s.size - w'.iterPos w.heap.size)
    case atStart => exact ⟨0, 0, s.size + 1, Nat.zero_le _, by omega, rfl, rfl, by omega, HQ.out⟩
    case round =>
      obtain ⟨p, m, f, hp, hm6, rfl, rfl, HF⟩ := hrel
      obtain ⟨g, hg⟩ : ∃ g, f = g + 1 := ⟨f - 1, by have := HF.out.1; omega⟩
      subst hg
      have HB : Hid (Below w.heap.size w (w.iter s p)) := (Below.refl _ _).alloc (Nat.le_refl _) _
      by_cases hlt : p < s.size
      · obtain ⟨⟨r, k⟩, hrk⟩ : ∃ x, Utf8.decode s p = x := ⟨_, rfl⟩
        have hk1 := decode_lo s p
        have hk2 := decode_le s p hlt
        have hnx : ∀ ty, (Instr.next (.pointer (some ⟨w.heap.size, 0, none⟩)) true ty).run Tryz.prog (w.iter s p) = _ := fun ty => run_next_any w s p ty hlt
        rw [hrk] at hk1 hk2 hnx
        simp only at hk1 hk2 hnx
        have HF2 : Hid ((if letR r || (decide (m ≠ 0) && digR r) then nameN s g (p + k) (m + 1) else false) = q) := by
          have h := HF.out.2
          rw [nameN, if_pos hlt, hrk] at h
          exact h
        have HG : Hid (s.size - (p + k) < g) := by have := HF.out.1; show _ < _; omega
        have HB2 : Hid (Below w.heap.size w (w.iter s (p + k))) := (Below.refl _ _).alloc (Nat.le_refl _) _
        by_cases h6 : m = 6
        · subst h6
          have HQ2 : Hid (q = false) := by have h := HF.out.2; rw [nameN_six s _ _ hlt] at h; exact h.symm
          clear HF2 hrk HF
          go_wp2
          go_step3
          exact ⟨rfl, ⟨HB2.out, HQ2.out⟩, _, _, _, _, _, _, _, _, _, _, _, _, _, _, _, _, _, _, _, _, _, _, _, _, _, _, _, _, _, _, _, rfl⟩
        · have g6 : ((m : Int) == 6) = false := by rw [beq_eq_false_iff_ne]; omega
          clear hrk HF
          cases hl : letR r with
          | true =>
            have HL : Hid (letR r = true) := hl
            have HN : Hid (nameN s g (p + k) (m + 1) = q) := by have h := HF2.out; rw [hl, Bool.true_or, if_pos rfl] at h; exact h
            clear hl HF2
            go_wp2_with (go_at_call 45; refine (letter_to r _ true HL.out).mono ?_; rintro e w2 ⟨rfl, rfl⟩)
            go_roundw
            case rel => exact ⟨p + k, m + 1, g, by omega, by omega, rfl, by go_num, HG.out, HN.out⟩
            case measure => simp; omega
          | false =>
            have HL : Hid (letR r = false) := hl
            by_cases hm : m = 0
            · subst hm
              have HQ2 : Hid (q = false) := by have h := HF2.out; rw [hl] at h; show _ = _; simpa using h.symm
              clear hl HF2
              go_wp2_with (go_at_call 45; refine (letter_to r _ false HL.out).mono ?_; rintro e w2 ⟨rfl, rfl⟩)
              go_step3
              exact ⟨rfl, ⟨HB2.out, HQ2.out⟩, _, _, _, _, _, _, _, _, _, _, _, _, _, _, _, _, _, _, _, _, _, _, _, _, _, _, _, _, _, _, _, rfl⟩
            · have g0 : ((m : Int) == 0) = false := by rw [beq_eq_false_iff_ne]; omega
              cases hd : digR r with
              | true =>
                have HDG : Hid (digR r = true) := hd
                have HN : Hid (nameN s g (p + k) (m + 1) = q) := by have h := HF2.out; rw [hl, hd, decide_eq_true hm] at h; show _ = _; simpa using h
                clear hl hd HF2
                go_wp2_with (first
                  | (go_at_call 45; refine (letter_to r _ false HL.out).mono ?_; rintro e w2 ⟨rfl, rfl⟩)
                  | (go_at_call 46; refine (digit_to r _ true HDG.out).mono ?_; rintro e w2 ⟨rfl, rfl⟩))
                go_roundw
                case rel => exact ⟨p + k, m + 1, g, by omega, by omega, rfl, by go_num, HG.out, HN.out⟩
                case measure => simp; omega
              | false =>
                have HDG : Hid (digR r = false) := hd
                have HQ2 : Hid (q = false) := by have h := HF2.out; rw [hl, hd, decide_eq_true hm] at h; show _ = _; simpa using h.symm
                clear hl hd HF2
                go_wp2_with (first
                  | (go_at_call 45; refine (letter_to r _ false HL.out).mono ?_; rintro e w2 ⟨rfl, rfl⟩)
                  | (go_at_call 46; refine (digit_to r _ false HDG.out).mono ?_; rintro e w2 ⟨rfl, rfl⟩))
                go_step3
                exact ⟨rfl, ⟨HB2.out, HQ2.out⟩, _, _, _, _, _, _, _, _, _, _, _, _, _, _, _, _, _, _, _, _, _, _, _, _, _, _, _, _, _, _, _, rfl⟩
      · have HQ2 : Hid (decide (1 ≤ m ∧ m ≤ 6) = q) := by
          have h := HF.out.2
          rw [nameN, if_neg hlt] at h
          exact h
        have hnx : ∀ ty, (Instr.next (.pointer (some ⟨w.heap.size, 0, none⟩)) true ty).run Tryz.prog (w.iter s p) = _ := fun ty => run_next_end w s p ty hlt
        by_cases hm : m = 0
        · subst hm
          have HQ3 : Hid (q = false) := by show _ = _; rw [← HQ2.out]; rfl
          clear HF
          go_wp2
          go_step3
          exact ⟨rfl, ⟨HB.out, HQ3.out⟩, _, _, _, _, _, _, _, _, _, _, _, _, _, _, _, _, _, _, _, _, _, _, _, _, _, _, _, _, _, _, _, rfl⟩
        · have g0 : ((m : Int) == 0) = false := by rw [beq_eq_false_iff_ne]; omega
          have HQ3 : Hid (q = true) := by show _ = _; rw [← HQ2.out]; exact decide_eq_true (by omega)
          clear HF
          go_wp2
          rw [jump_ret]
          go_ret
          exact ⟨by rw [HQ3.out]; rfl, HB.out⟩
  · rintro a w' ⟨⟨hbj, hq⟩, u0, u1, u2, u3, u4, u5, u6, u7, u8, u9, u10, u11, u12, u13, u14, u15, u16, u17, u18, u19, u20, u21, u22, u23, u24, u25, u26, u27, u28, u29, u30, rfl⟩
    have HBJ : Hid (Below w.heap.size w w') := hbj
    clear hbj
    subst hq
    go_wp2
    rw [jump_ret]
    go_ret
    exact ⟨rfl, HBJ.out⟩
end Go.Proofs.YtjfkhfahpjdidaaGreatDoor
