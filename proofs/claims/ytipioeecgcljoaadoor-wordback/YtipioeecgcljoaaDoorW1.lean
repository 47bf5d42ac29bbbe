/- Contracts: the page's letter, digit, Name. -/
import Derived.Test.YtipioeecgcljoaaDoorW0
import Derived.Test.YtipioeecgcljoaaDoorShelf
namespace Go.Proofs.YtipioeecgcljoaaDoor
set_option linter.unusedVariables false
set_option linter.unusedSimpArgs false
set_option maxRecDepth 100000
open Go.RowKit

theorem between_t (n lo hi : Int) (w : World) (h1 : lo ≤ n) (h2 : n ≤ hi) :
    Calls Tryd.prog 20 #[.int .i64 n, .int .i64 lo, .int .i64 hi] w fun e w' => e = .returned (.bool true) ∧ w = w' := by
  go_enter Tryd.func20, Tryd.ntmps20
  go_wp2
  go_ret
  exact ⟨rfl, rfl⟩
theorem between_f (n lo hi : Int) (w : World) (h : n < lo ∨ hi < n) :
    Calls Tryd.prog 20 #[.int .i64 n, .int .i64 lo, .int .i64 hi] w fun e w' => e = .returned (.bool false) ∧ w = w' := by
  by_cases h1 : n < lo
  · clear h
    go_enter Tryd.func20, Tryd.ntmps20
    go_wp2
    go_ret
    exact ⟨rfl, rfl⟩
  · have h2 : hi < n := by omega
    clear h
    go_enter Tryd.func20, Tryd.ntmps20
    go_wp2
    go_ret
    exact ⟨by simp; omega, rfl⟩
theorem between_to (n lo hi : Int) (w : World) (x : Bool) (hx : decide (lo ≤ n ∧ n ≤ hi) = x) :
    Calls Tryd.prog 20 #[.int .i64 n, .int .i64 lo, .int .i64 hi] w fun e w' => e = .returned (.bool x) ∧ w = w' := by
  by_cases h : lo ≤ n ∧ n ≤ hi
  · rw [← hx, decide_eq_true h]; exact between_t n lo hi w h.1 h.2
  · rw [← hx, decide_eq_false h]; exact between_f n lo hi w (by omega)
set_option maxHeartbeats 1000000 in
theorem rletter_to (r : Nat) (w : World) (x : Bool) (hx : letR r = x) :
    Calls Tryd.prog 27 #[.int .i32 r] w fun e w' => e = .returned (.bool x) ∧ w = w' := by
  have HX : Hid (letR r = x) := hx
  clear hx
  by_cases h1 : 97 ≤ r
  · have g1 : (97 : Int) ≤ (r : Int) := by omega
    by_cases h2 : r ≤ 122
    · have g2 : (r : Int) ≤ 122 := by omega
      go_enter Tryd.func27, Tryd.ntmps27
      go_wp2
      go_ret
      exact ⟨by rw [← HX.out]; simp [letR, h1, h2], rfl⟩
    · have g2 : ¬ (r : Int) ≤ 122 := by omega
      by_cases h3 : 945 ≤ r
      · have g3 : (945 : Int) ≤ (r : Int) := by omega
        go_enter Tryd.func27, Tryd.ntmps27
        go_wp2
        go_ret
        exact ⟨by rw [← HX.out]; simp [letR, h1, h2, h3]; omega, rfl⟩
      · have g3 : ¬ (945 : Int) ≤ (r : Int) := by omega
        go_enter Tryd.func27, Tryd.ntmps27
        go_wp2
        go_ret
        exact ⟨by rw [← HX.out]; simp [letR, h1, h2, h3], rfl⟩
  · have g1 : ¬ (97 : Int) ≤ (r : Int) := by omega
    have g3 : ¬ (945 : Int) ≤ (r : Int) := by omega
    go_enter Tryd.func27, Tryd.ntmps27
    go_wp2
    go_ret
    exact ⟨by rw [← HX.out]; simp [letR]; omega, rfl⟩
set_option maxHeartbeats 1000000 in
theorem rdigit_to (r : Nat) (w : World) (x : Bool) (hx : digR r = x) :
    Calls Tryd.prog 28 #[.int .i32 r] w fun e w' => e = .returned (.bool x) ∧ w = w' := by
  have HX : Hid (digR r = x) := hx
  clear hx
  by_cases h1 : 48 ≤ r
  · have g1 : (48 : Int) ≤ (r : Int) := by omega
    go_enter Tryd.func28, Tryd.ntmps28
    go_wp2
    go_ret
    exact ⟨by rw [← HX.out]; simp [digR, h1]; omega, rfl⟩
  · have g1 : ¬ (48 : Int) ≤ (r : Int) := by omega
    go_enter Tryd.func28, Tryd.ntmps28
    go_wp2
    go_ret
    exact ⟨by rw [← HX.out]; simp [digR, h1], rfl⟩
/-- utf8.DecodeRuneInString at what is left of a text. -/
theorem decode_to (s : ByteArray) (p : Nat) (hp : p < s.size) (w : World) (hT : Lib.Utf8Tabs 0 1 w) (r k : Nat) (hr : Utf8.decode s p = (r, k)) :
    Calls Tryd.prog 26 #[.string (s.extract p s.size)] w fun e w' => e = .returned (.tuple #[.int .i32 r, .int .i64 k]) ∧ Below w.heap.size w w' := by
  have h := Tryd.utf8_DecodeRuneInString (s.extract p s.size) w hT
  rw [decode_rest s p hp, hr] at h
  exact h
def strLen : Value → Nat
  | .string b => b.size
  | _ => 0
set_option maxHeartbeats 4000000 in
theorem rname_to (s : ByteArray) (w : World) (hs : s.size ≤ 140737488355328) (hT : Lib.Utf8Tabs 0 1 w) (q : Bool) (hq : nameB s = q) :
    Calls Tryd.prog 12 #[.string s] w fun e w' => e = .returned (.bool q) ∧ Below w.heap.size w w' := by
  have HT : Hid (Lib.Utf8Tabs 0 1 w) := hT
  have HQ : Hid (nameB s = q) := hq
  clear hT hq
  go_enter Tryd.func12, Tryd.ntmps12
  go_wp2
  go_loopw [0, 3] (fun v n w' => ∃ (p m f : Nat), p ≤ s.size ∧ m ≤ p ∧ v = .string (s.extract p s.size) ∧ n = .int .i64 m ∧ Hid (s.size - p < f ∧ nameN s f p m = q) ∧ Hid (Below w.heap.size w w')) (fun v _ _ => strLen v)
  case atStart => exact ⟨0, 0, s.size + 1, Nat.zero_le _, Nat.le_refl _, by rw [rest_all], rfl, ⟨by omega, HQ.out⟩, Below.refl _ _⟩
  case round =>
    obtain ⟨p, m, f, hp, hmp, rfl, rfl, HF, HB⟩ := hrel
    by_cases hlt : p < s.size
    · obtain ⟨⟨r, k⟩, hrk⟩ : ∃ x, Utf8.decode s p = x := ⟨_, rfl⟩
      have hk1 := decode_lo s p
      have hk2 := decode_le s p hlt
      rw [hrk] at hk1 hk2
      simp only at hk1 hk2
      obtain ⟨g, hg⟩ : ∃ g, f = g + 1 := ⟨f - 1, by have := HF.out.1; omega⟩
      subst hg
      have HF2 : Hid ((if letR r || (decide (m ≠ 0) && digR r) then nameN s g (p + k) (m + 1) else false) = q) := by
        have h := HF.out.2
        rw [nameN, if_pos hlt, hrk] at h
        exact h
      have HG : Hid (s.size - (p + k) < g) := by have := HF.out.1; show _ < _; omega
      have HRK : Hid (Utf8.decode s p = (r, k)) := hrk
      obtain ⟨b, hb⟩ : ∃ b, s.extract p s.size = b := ⟨_, rfl⟩
      have HD : Hid (∀ (w : World), Lib.Utf8Tabs 0 1 w → Calls Tryd.prog 26 #[.string b] w fun e w' => e = .returned (.tuple #[.int .i32 r, .int .i64 k]) ∧ Below w.heap.size w w') := fun w hT => by
        have h := decode_to s p hlt w hT r k HRK.out
        rw [hb] at h
        exact h
      have hbs : b.size = s.size - p := by rw [← hb, rest_size]
      have HBE : Hid (b.extract k b.size = s.extract (p + k) s.size) := by show _ = _; rw [← hb, rest_rest]
      have hpos : 0 < b.size := by omega
      have hkb : k ≤ b.size := by omega
      have hbmax : b.size ≤ 140737488355328 := by omega
      have HBS : Hid (b.size = s.size - p) := hbs
      rw [hb]
      clear hb hrk HF hbs
      cases hl : letR r with
      | true =>
        have HL : Hid (letR r = true) := hl
        have HN : Hid (nameN s g (p + k) (m + 1) = q) := by have h := HF2.out; rw [hl, Bool.true_or, if_pos rfl] at h; exact h
        clear hl HF2
        go_wp2_with (first
          | (go_at_call 26; refine (HD.out _ (Utf8Tabs_below HT.out HB.out)).mono ?_; rintro e w1 ⟨rfl, hb1⟩; have HB1 : Hid (Below w.heap.size w w1) := Below.after HB.out hb1; clear hb1)
          | (go_at_call 27; refine (rletter_to r _ true HL.out).mono ?_; rintro e w2 ⟨rfl, rfl⟩))
        go_roundw
        case rel => exact ⟨p + k, m + 1, g, by omega, by omega, by rw [HBE.out], by go_num, ⟨HG.out, HN.out⟩, HB1.out⟩
        case measure => rw [HBE.out]; simp only [strLen]; rw [rest_size]; have := HBS.out; omega
      | false =>
        have HL : Hid (letR r = false) := hl
        by_cases hm : m = 0
        · subst hm
          have HQ2 : Hid (q = false) := by have h := HF2.out; rw [hl] at h; show _ = _; simpa using h.symm
          clear hl HF2
          go_wp2_with (first
            | (go_at_call 26; refine (HD.out _ (Utf8Tabs_below HT.out HB.out)).mono ?_; rintro e w1 ⟨rfl, hb1⟩; have HB1 : Hid (Below w.heap.size w w1) := Below.after HB.out hb1; clear hb1)
            | (go_at_call 27; refine (rletter_to r _ false HL.out).mono ?_; rintro e w2 ⟨rfl, rfl⟩))
          go_ret
          exact ⟨by rw [HQ2.out]; rfl, HB1.out⟩
        · have hm0 : ((m : Int) == 0) = false := by simp; omega
          cases hd : digR r with
          | true =>
            have HDG : Hid (digR r = true) := hd
            have HN : Hid (nameN s g (p + k) (m + 1) = q) := by have h := HF2.out; rw [hl, hd, decide_eq_true hm] at h; show _ = _; simpa using h
            clear hl hd HF2
            go_wp2_with (first
              | (go_at_call 26; refine (HD.out _ (Utf8Tabs_below HT.out HB.out)).mono ?_; rintro e w1 ⟨rfl, hb1⟩; have HB1 : Hid (Below w.heap.size w w1) := Below.after HB.out hb1; clear hb1)
              | (go_at_call 27; refine (rletter_to r _ false HL.out).mono ?_; rintro e w2 ⟨rfl, rfl⟩)
              | (go_at_call 28; refine (rdigit_to r _ true HDG.out).mono ?_; rintro e w2 ⟨rfl, rfl⟩))
            go_roundw
            case rel => exact ⟨p + k, m + 1, g, by omega, by omega, by rw [HBE.out], by go_num, ⟨HG.out, HN.out⟩, HB1.out⟩
            case measure => rw [HBE.out]; simp only [strLen]; rw [rest_size]; have := HBS.out; omega
          | false =>
            have HDG : Hid (digR r = false) := hd
            have HQ2 : Hid (q = false) := by have h := HF2.out; rw [hl, hd, decide_eq_true hm] at h; show _ = _; simpa using h.symm
            clear hl hd HF2
            go_wp2_with (first
              | (go_at_call 26; refine (HD.out _ (Utf8Tabs_below HT.out HB.out)).mono ?_; rintro e w1 ⟨rfl, hb1⟩; have HB1 : Hid (Below w.heap.size w w1) := Below.after HB.out hb1; clear hb1)
              | (go_at_call 27; refine (rletter_to r _ false HL.out).mono ?_; rintro e w2 ⟨rfl, rfl⟩)
              | (go_at_call 28; refine (rdigit_to r _ false HDG.out).mono ?_; rintro e w2 ⟨rfl, rfl⟩))
            go_ret
            exact ⟨by rw [HQ2.out]; rfl, HB1.out⟩
    · obtain rfl : p = s.size := by omega
      have HQ2 : Hid (decide ((1 : Int) ≤ (m : Int) ∧ (m : Int) ≤ 6) = q) := by
        have h := HF.out.2
        obtain ⟨g, hg⟩ : ∃ g, f = g + 1 := ⟨f - 1, by have := HF.out.1; omega⟩
        rw [hg, nameN, if_neg hlt] at h
        rw [← h]
        show decide _ = decide _
        congr 1
        apply propext
        omega
      obtain ⟨b, hb⟩ : ∃ b, s.extract s.size s.size = b := ⟨_, rfl⟩
      have hbs : b.size = 0 := by rw [← hb, rest_size]; omega
      rw [hb]
      clear hb HF hlt
      go_wp2_with (go_at_call 20; refine (between_to _ _ _ _ q HQ2.out).mono ?_; rintro e w2 ⟨rfl, rfl⟩)
      go_ret
      exact ⟨rfl, HB.out⟩
end Go.Proofs.YtipioeecgcljoaaDoor
