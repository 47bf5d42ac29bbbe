/- Part 6 of the texts that the theorem leans on. -/
import Derived.Test.YtkojdigaoihkpaaGreatDoorA05
section
namespace Go.Proofs.YtkojdigaoihkpaaGreatDoor
set_option linter.unusedVariables false
set_option linter.unusedSimpArgs false
set_option maxRecDepth 100000
open Go.Shelf

def Tryz.lays197_ren : Go.Shelf.Ren := ⟨fun | 197 => 56 | 260 => 81 | n => n, fun | 9 => 9 | 21 => 21 | 3 => 3 | 4 => 4 | 5 => 5 | 105 => 102 | 119 => 137 | 0 => 0 | 46 => 57 | 139 => 140 | 138 => 139 | n => n, fun | 3 => 0 | 4 => 1 | n => n⟩
theorem Tryz.lays197 : Go.Proofs.Lays.n197 Tryz.prog Tryz.lays197_ren := {
  mixed := by kernel_rfl
  f197 := Tryz.func56.trans (congrArg some (by kernel_rfl))
  f260 := Tryz.func81.trans (congrArg some (by kernel_rfl))
  t0 := Tryz.underlying0
  a0 := Tryz.isAgg0
  z0 := Tryz.sizeOf0
  v0 := Tryz.zeroValue0
  t3 := Tryz.underlying3
  a3 := Tryz.isAgg3
  z3 := Tryz.sizeOf3
  v3 := Tryz.zeroValue3
  t4 := Tryz.underlying4
  a4 := Tryz.isAgg4
  z4 := Tryz.sizeOf4
  v4 := Tryz.zeroValue4
  t5 := Tryz.underlying5
  a5 := Tryz.isAgg5
  z5 := Tryz.sizeOf5
  v5 := Tryz.zeroValue5
  t9 := Tryz.underlying9
  a9 := Tryz.isAgg9
  z9 := Tryz.sizeOf9
  v9 := Tryz.zeroValue9
  t21 := Tryz.underlying21
  a21 := Tryz.isAgg21
  z21 := Tryz.sizeOf21
  v21 := Tryz.zeroValue21
  t46 := Tryz.underlying57
  a46 := Tryz.isAgg57
  z46 := Tryz.sizeOf57
  v46 := Tryz.zeroValue57
  t105 := Tryz.underlying102
  a105 := Tryz.isAgg102
  z105 := Tryz.sizeOf102
  v105 := Tryz.zeroValue102
  t119 := Tryz.underlying137
  a119 := Tryz.isAgg137
  z119 := Tryz.sizeOf137
  t138 := Tryz.underlying139
  a138 := Tryz.isAgg139
  z138 := Tryz.sizeOf139
  v138 := Tryz.zeroValue139
  t139 := Tryz.underlying140
  a139 := Tryz.isAgg140
  z139 := Tryz.sizeOf140
  v139 := Tryz.zeroValue140
  g3 := by kernel_rfl
  g4 := by kernel_rfl }
open Go.RowKit Go.Lib in
theorem Tryz.utf8_DecodeRuneInString (s : ByteArray) (w : World) (hT : Lib.Utf8Tabs 0 1 w) :
    Calls Tryz.prog 56 #[.string s] w fun e w' => e = .returned (.tuple #[.int .i32 (Lib.decodeGo s).1, .int .i64 (Lib.decodeGo s).2]) ∧ Below w.heap.size w w' := Any.utf8_DecodeRuneInString Tryz.lays197 s w hT
end Go.Proofs.YtkojdigaoihkpaaGreatDoor

end
section
namespace Go.Proofs.YtkojdigaoihkpaaGreatDoor
set_option linter.unusedVariables false
set_option linter.unusedSimpArgs false
set_option maxRecDepth 100000
open Go.RowKit

theorem between_to (n lo hi : Int) (w : World) (x : Bool) (hx : decide (lo ≤ n ∧ n ≤ hi) = x) :
    Calls Tryz.prog 22 #[.int .i64 n, .int .i64 lo, .int .i64 hi] w fun e w' => e = .returned (.bool x) ∧ w = w' := by
  by_cases h : lo ≤ n ∧ n ≤ hi
  · rw [← hx, decide_eq_true h]; exact between_t n lo hi w h.1 h.2
  · rw [← hx, decide_eq_false h]; exact between_f n lo hi w (by omega)
set_option maxHeartbeats 1000000 in
theorem rletter_to (r : Nat) (w : World) (x : Bool) (hx : letR r = x) :
    Calls Tryz.prog 57 #[.int .i32 r] w fun e w' => e = .returned (.bool x) ∧ w = w' := by
  have HX : Hid (letR r = x) := hx
  clear hx
  by_cases h1 : 97 ≤ r
  · have g1 : (97 : Int) ≤ (r : Int) := by omega
    by_cases h2 : r ≤ 122
    · have g2 : (r : Int) ≤ 122 := by omega
      go_enter Tryz.func57, Tryz.ntmps57
      go_wp2
      go_ret
      exact ⟨by rw [← HX.out]; simp [letR, h1, h2], rfl⟩
    · have g2 : ¬ (r : Int) ≤ 122 := by omega
      by_cases h3 : 945 ≤ r
      · have g3 : (945 : Int) ≤ (r : Int) := by omega
        go_enter Tryz.func57, Tryz.ntmps57
        go_wp2
        go_ret
        exact ⟨by rw [← HX.out]; simp [letR, h1, h2, h3]; omega, rfl⟩
      · have g3 : ¬ (945 : Int) ≤ (r : Int) := by omega
        go_enter Tryz.func57, Tryz.ntmps57
        go_wp2
        go_ret
        exact ⟨by rw [← HX.out]; simp [letR, h1, h2, h3], rfl⟩
  · have g1 : ¬ (97 : Int) ≤ (r : Int) := by omega
    have g3 : ¬ (945 : Int) ≤ (r : Int) := by omega
    go_enter Tryz.func57, Tryz.ntmps57
    go_wp2
    go_ret
    exact ⟨by rw [← HX.out]; simp [letR]; omega, rfl⟩
set_option maxHeartbeats 1000000 in
theorem rdigit_to (r : Nat) (w : World) (x : Bool) (hx : digR r = x) :
    Calls Tryz.prog 58 #[.int .i32 r] w fun e w' => e = .returned (.bool x) ∧ w = w' := by
  have HX : Hid (digR r = x) := hx
  clear hx
  by_cases h1 : 48 ≤ r
  · have g1 : (48 : Int) ≤ (r : Int) := by omega
    go_enter Tryz.func58, Tryz.ntmps58
    go_wp2
    go_ret
    exact ⟨by rw [← HX.out]; simp [digR, h1]; omega, rfl⟩
  · have g1 : ¬ (48 : Int) ≤ (r : Int) := by omega
    go_enter Tryz.func58, Tryz.ntmps58
    go_wp2
    go_ret
    exact ⟨by rw [← HX.out]; simp [digR, h1], rfl⟩
/-- utf8.DecodeRuneInString at what is left of a text. -/
theorem decode_to (s : ByteArray) (p : Nat) (hp : p < s.size) (w : World) (hT : Lib.Utf8Tabs 0 1 w) (r k : Nat) (hr : Utf8.decode s p = (r, k)) :
    Calls Tryz.prog 56 #[.string (s.extract p s.size)] w fun e w' => e = .returned (.tuple #[.int .i32 r, .int .i64 k]) ∧ Below w.heap.size w w' := by
  have h := Tryz.utf8_DecodeRuneInString (s.extract p s.size) w hT
  rw [decode_rest s p hp, hr] at h
  exact h
def strLen : Value → Nat
  | .string b => b.size
  | _ => 0
set_option maxHeartbeats 4000000 in
theorem rname_to (s : ByteArray) (w : World) (hs : s.size ≤ 140737488355328) (hT : Lib.Utf8Tabs 0 1 w) (q : Bool) (hq : nameB s = q) :
    Calls Tryz.prog 41 #[.string s] w fun e w' => e = .returned (.bool q) ∧ Below w.heap.size w w' := by
  have HT : Hid (Lib.Utf8Tabs 0 1 w) := hT
  have HQ : Hid (nameB s = q) := hq
  clear hT hq
  go_enter Tryz.func41, Tryz.ntmps41
  go_wp2
  go_loopw [0, 3] (fun v n w' => ∃ (p m f : Nat), p ≤ s.size ∧ m ≤ p ∧ v = .string (s.extract p s.size) ∧ n = .int .i64 m ∧ Hid (s.size - p < f ∧ nameN s f p m = q) ∧ Hid (Below w.heap.size w w')) (fun v _ _ => strLen v)
  case atStart => exact ⟨0, 0, s.size + 1, Nat.zero_le _, Nat.le_refl _, by rw [rest_all], rfl, ⟨by omega, HQ.out⟩, Below.refl _ _⟩
  case round =>
    obtain ⟨p, m, f, hp, hmp, rfl, rfl, HF, HB⟩ := hrel
    by_cases hlt : p < s.size
    · obtain ⟨⟨r, k⟩, hrk⟩ : ∃ x, Utf8.decode s p = x := ⟨_, rfl⟩
      have hk1 := decode_lo s p
      have hk2 := decode_le s p hlt
      rw [hrk] at hk1 hk2
      simp only at hk1 hk2
      obtain ⟨g, hg⟩ : ∃ g, f = g + 1 := ⟨f - 1, by have := HF.out.1; omega⟩
      subst hg
      have HF2 : Hid ((if letR r || (decide (m ≠ 0) && digR r) then nameN s g (p + k) (m + 1) else false) = q) := by
        have h := HF.out.2
        rw [nameN, if_pos hlt, hrk] at h
        exact h
      have HG : Hid (s.size - (p + k) < g) := by have := HF.out.1; show _ < _; omega
      have HRK : Hid (Utf8.decode s p = (r, k)) := hrk
      obtain ⟨b, hb⟩ : ∃ b, s.extract p s.size = b := ⟨_, rfl⟩
      have HD : Hid (∀ (w : World), Lib.Utf8Tabs 0 1 w → Calls Tryz.prog 56 #[.string b] w fun e w' => e = .returned (.tuple #[.int .i32 r, .int .i64 k]) ∧ Below w.heap.size w w') := fun w hT => by
        have h := decode_to s p hlt w hT r k HRK.out
        rw [hb] at h
        exact h
      have hbs : b.size = s.size - p := by rw [← hb, rest_size]
      have HBE : Hid (b.extract k b.size = s.extract (p + k) s.size) := by show _ = _; rw [← hb, rest_rest]
      have hpos : 0 < b.size := by omega
      have hkb : k ≤ b.size := by omega
      have hbmax : b.size ≤ 140737488355328 := by omega
      have HBS : Hid (b.size = s.size - p) := hbs
      rw [hb]
      clear hb hrk HF hbs
      cases hl : letR r with
      | true =>
        have HL : Hid (letR r = true) := hl
        have HN : Hid (nameN s g (p + k) (m + 1) = q) := by have h := HF2.out; rw [hl, Bool.true_or, if_pos rfl] at h; exact h
        clear hl HF2
        go_wp2_with (first
          | (go_at_call 56; refine (HD.out _ (Utf8Tabs_below HT.out HB.out)).mono ?_; rintro e w1 ⟨rfl, hb1⟩; have HB1 : Hid (Below w.heap.size w w1) := Below.after HB.out hb1; clear hb1)
          | (go_at_call 57; refine (rletter_to r _ true HL.out).mono ?_; rintro e w2 ⟨rfl, rfl⟩))
        go_roundw
        case rel => exact ⟨p + k, m + 1, g, by omega, by omega, by rw [HBE.out], by go_num, ⟨HG.out, HN.out⟩, HB1.out⟩
        case measure => rw [HBE.out]; simp only [strLen]; rw [rest_size]; have := HBS.out; omega
      | false =>
        have HL : Hid (letR r = false) := hl
        by_cases hm : m = 0
        · subst hm
          have HQ2 : Hid (q = false) := by have h := HF2.out; rw [hl] at h; show _ = _; simpa using h.symm
          clear hl HF2
          go_wp2_with (first
            | (go_at_call 56; refine (HD.out _ (Utf8Tabs_below HT.out HB.out)).mono ?_; rintro e w1 ⟨rfl, hb1⟩; have HB1 : Hid (Below w.heap.size w w1) := Below.after HB.out hb1; clear hb1)
            | (go_at_call 57; refine (rletter_to r _ false HL.out).mono ?_; rintro e w2 ⟨rfl, rfl⟩))
          go_ret
          exact ⟨by rw [HQ2.out]; rfl, HB1.out⟩
        · have hm0 : ((m : Int) == 0) = false := by simp; omega
          cases hd : digR r with
          | true =>
            have HDG : Hid (digR r = true) := hd
            have HN : Hid (nameN s g (p + k) (m + 1) = q) := by have h := HF2.out; rw [hl, hd, decide_eq_true hm] at h; show _ = _; simpa using h
            clear hl hd HF2
            go_wp2_with (first
              | (go_at_call 56; refine (HD.out _ (Utf8Tabs_below HT.out HB.out)).mono ?_; rintro e w1 ⟨rfl, hb1⟩; have HB1 : Hid (Below w.heap.size w w1) := Below.after HB.out hb1; clear hb1)
              | (go_at_call 57; refine (rletter_to r _ false HL.out).mono ?_; rintro e w2 ⟨rfl, rfl⟩)
              | (go_at_call 58; refine (rdigit_to r _ true HDG.out).mono ?_; rintro e w2 ⟨rfl, rfl⟩))
            go_roundw
            case rel => exact ⟨p + k, m + 1, g, by omega, by omega, by rw [HBE.out], by go_num, ⟨HG.out, HN.out⟩, HB1.out⟩
            case measure => rw [HBE.out]; simp only [strLen]; rw [rest_size]; have := HBS.out; omega
          | false =>
            have HDG : Hid (digR r = false) := hd
            have HQ2 : Hid (q = false) := by have h := HF2.out; rw [hl, hd, decide_eq_true hm] at h; show _ = _; simpa using h.symm
            clear hl hd HF2
            go_wp2_with (first
              | (go_at_call 56; refine (HD.out _ (Utf8Tabs_below HT.out HB.out)).mono ?_; rintro e w1 ⟨rfl, hb1⟩; have HB1 : Hid (Below w.heap.size w w1) := Below.after HB.out hb1; clear hb1)
              | (go_at_call 57; refine (rletter_to r _ false HL.out).mono ?_; rintro e w2 ⟨rfl, rfl⟩)
              | (go_at_call 58; refine (rdigit_to r _ false HDG.out).mono ?_; rintro e w2 ⟨rfl, rfl⟩))
            go_ret
            exact ⟨by rw [HQ2.out]; rfl, HB1.out⟩
    · obtain rfl : p = s.size := by omega
      have HQ2 : Hid (decide ((1 : Int) ≤ (m : Int) ∧ (m : Int) ≤ 6) = q) := by
        have h := HF.out.2
        obtain ⟨g, hg⟩ : ∃ g, f = g + 1 := ⟨f - 1, by have := HF.out.1; omega⟩
        rw [hg, nameN, if_neg hlt] at h
        rw [← h]
        show decide _ = decide _
        congr 1
        apply propext
        omega
      obtain ⟨b, hb⟩ : ∃ b, s.extract s.size s.size = b := ⟨_, rfl⟩
      have hbs : b.size = 0 := by rw [← hb, rest_size]; omega
      rw [hb]
      clear hb HF hlt
      go_wp2_with (go_at_call 22; refine (between_to _ _ _ _ q HQ2.out).mono ?_; rintro e w2 ⟨rfl, rfl⟩)
      go_ret
      exact ⟨rfl, HB.out⟩
theorem nameN_over (s : ByteArray) : ∀ f p n, 7 ≤ n → nameN s f p n = false
  | 0, _, _, _ => rfl
  | f + 1, p, n, h => by
    rw [nameN]
    split
    · split
      · exact nameN_over s f _ _ (by omega)
      · rfl
    · simp; omega
theorem nameN_six (s : ByteArray) (f p : Nat) (h : p < s.size) : nameN s f p 6 = false := by
  cases f with
  | zero => rfl
  | succ f =>
    rw [nameN, if_pos h]
    split
    · exact nameN_over s f _ _ (by omega)
    · rfl

/- Runes and bytes. -/
set_option maxHeartbeats 1000000 in
theorem letter_to (r : Nat) (w : World) (x : Bool) (hx : letR r = x) :
    Calls Tryz.prog 73 #[.int .i32 r] w fun e w' => e = .returned (.bool x) ∧ w = w' := by
  have HX : Hid (letR r = x) := hx
  clear hx
  by_cases h1 : 97 ≤ r
  · have g1 : (97 : Int) ≤ (r : Int) := by omega
    by_cases h2 : r ≤ 122
    · have g2 : (r : Int) ≤ 122 := by omega
      go_enter Tryz.func73, Tryz.ntmps73
      go_wp2
      go_ret
      exact ⟨by rw [← HX.out]; simp [letR, h1, h2], rfl⟩
    · have g2 : ¬ (r : Int) ≤ 122 := by omega
      by_cases h3 : 945 ≤ r
      · have g3 : (945 : Int) ≤ (r : Int) := by omega
        go_enter Tryz.func73, Tryz.ntmps73
        go_wp2
        go_ret
        exact ⟨by rw [← HX.out]; simp [letR, h1, h2, h3]; omega, rfl⟩
      · have g3 : ¬ (945 : Int) ≤ (r : Int) := by omega
        go_enter Tryz.func73, Tryz.ntmps73
        go_wp2
        go_ret
        exact ⟨by rw [← HX.out]; simp [letR, h1, h2, h3], rfl⟩
  · have g1 : ¬ (97 : Int) ≤ (r : Int) := by omega
    have g3 : ¬ (945 : Int) ≤ (r : Int) := by omega
    go_enter Tryz.func73, Tryz.ntmps73
    go_wp2
    go_ret
    exact ⟨by rw [← HX.out]; simp [letR]; omega, rfl⟩
set_option maxHeartbeats 1000000 in
theorem digit_to (r : Nat) (w : World) (x : Bool) (hx : digR r = x) :
    Calls Tryz.prog 74 #[.int .i32 r] w fun e w' => e = .returned (.bool x) ∧ w = w' := by
  have HX : Hid (digR r = x) := hx
  clear hx
  by_cases h1 : 48 ≤ r
  · have g1 : (48 : Int) ≤ (r : Int) := by omega
    go_enter Tryz.func74, Tryz.ntmps74
    go_wp2
    go_ret
    exact ⟨by rw [← HX.out]; simp [digR, h1]; omega, rfl⟩
  · have g1 : ¬ (48 : Int) ≤ (r : Int) := by omega
    go_enter Tryz.func74, Tryz.ntmps74
    go_wp2
    go_ret
    exact ⟨by rw [← HX.out]; simp [digR, h1], rfl⟩
set_option maxHeartbeats 4000000 in
theorem name_to (s : ByteArray) (w : World) (q : Bool) (hq : nameB s = q) :
    Calls Tryz.prog 54 #[.string s] w fun e w' => e = .returned (.int .i64 (if q then 0 else 1)) ∧ Below w.heap.size w w' := by
  have HQ : Hid (nameB s = q) := hq
  clear hq
  go_enter Tryz.func54, Tryz.ntmps54
  go_wp2_with fail
  refine wp_scope_jumps 0 (fun a' w' => (Below w.heap.size w w' ∧ q = false) ∧ ∃ (u0 u1 u2 u3 u4 u5 u6 u7 u8 u9 u10 u11 u12 u13 u14 u15 u16 u17 u18 u19 u20 u21 u22 u23 u24 u25 u26 u27 u28 u29 u30 : Value), a' = { tmps := #[u0, u1, u2, u3, u4, u5, u6, u7, u8, u9, u10, u11, u12, u13, u14, u15, u16, u17, u18, u19, u20, u21, u22, u23, u24, u25, u26, u27, u28, u29, u30], defers := [] }) (fun _ _ => 0) rfl ?_ ?_
  · go_wp2
    go_loopw [3] (fun n w' => ∃ (p m f : Nat), p ≤ s.size ∧ m ≤ 6 ∧ w' = w.iter s p ∧ n = .int .i64 m ∧ Hid (s.size - p < f ∧ nameN s f p m = q)) (fun _ w' => s.size - w'.iterPos w.heap.size)
    case atStart => exact ⟨0, 0, s.size + 1, Nat.zero_le _, by omega, rfl, rfl, by omega, HQ.out⟩
    case round =>
      obtain ⟨p, m, f, hp, hm6, rfl, rfl, HF⟩ := hrel
      obtain ⟨g, hg⟩ : ∃ g, f = g + 1 := ⟨f - 1, by have := HF.out.1; omega⟩
      subst hg
      have HB : Hid (Below w.heap.size w (w.iter s p)) := (Below.refl _ _).alloc (Nat.le_refl _) _
      by_cases hlt : p < s.size
      · obtain ⟨⟨r, k⟩, hrk⟩ : ∃ x, Utf8.decode s p = x := ⟨_, rfl⟩
        have hk1 := decode_lo s p
        have hk2 := decode_le s p hlt
        have hnx : ∀ ty, (Instr.next (.pointer (some ⟨w.heap.size, 0, none⟩)) true ty).run Tryz.prog (w.iter s p) = _ := fun ty => run_next_any w s p ty hlt
        rw [hrk] at hk1 hk2 hnx
        simp only at hk1 hk2 hnx
        have HF2 : Hid ((if letR r || (decide (m ≠ 0) && digR r) then nameN s g (p + k) (m + 1) else false) = q) := by
          have h := HF.out.2
          rw [nameN, if_pos hlt, hrk] at h
          exact h
        have HG : Hid (s.size - (p + k) < g) := by have := HF.out.1; show _ < _; omega
        have HB2 : Hid (Below w.heap.size w (w.iter s (p + k))) := (Below.refl _ _).alloc (Nat.le_refl _) _
        by_cases h6 : m = 6
        · subst h6
          have HQ2 : Hid (q = false) := by have h := HF.out.2; rw [nameN_six s _ _ hlt] at h; exact h.symm
          clear HF2 hrk HF
          go_wp2
          go_step3
          exact ⟨rfl, ⟨HB2.out, HQ2.out⟩, _, _, _, _, _, _, _, _, _, _, _, _, _, _, _, _, _, _, _, _, _, _, _, _, _, _, _, _, _, _, _, rfl⟩
        · have g6 : ((m : Int) == 6) = false := by rw [beq_eq_false_iff_ne]; omega
          clear hrk HF
          cases hl : letR r with
          | true =>
            have HL : Hid (letR r = true) := hl
            have HN : Hid (nameN s g (p + k) (m + 1) = q) := by have h := HF2.out; rw [hl, Bool.true_or, if_pos rfl] at h; exact h
            clear hl HF2
            go_wp2_with (go_at_call 73; refine (letter_to r _ true HL.out).mono ?_; rintro e w2 ⟨rfl, rfl⟩)
            go_roundw
            case rel => exact ⟨p + k, m + 1, g, by omega, by omega, rfl, by go_num, HG.out, HN.out⟩
            case measure => simp; omega
          | false =>
            have HL : Hid (letR r = false) := hl
            by_cases hm : m = 0
            · subst hm
              have HQ2 : Hid (q = false) := by have h := HF2.out; rw [hl] at h; show _ = _; simpa using h.symm
              clear hl HF2
              go_wp2_with (go_at_call 73; refine (letter_to r _ false HL.out).mono ?_; rintro e w2 ⟨rfl, rfl⟩)
              go_step3
              exact ⟨rfl, ⟨HB2.out, HQ2.out⟩, _, _, _, _, _, _, _, _, _, _, _, _, _, _, _, _, _, _, _, _, _, _, _, _, _, _, _, _, _, _, _, rfl⟩
            · have g0 : ((m : Int) == 0) = false := by rw [beq_eq_false_iff_ne]; omega
              cases hd : digR r with
              | true =>
                have HDG : Hid (digR r = true) := hd
                have HN : Hid (nameN s g (p + k) (m + 1) = q) := by have h := HF2.out; rw [hl, hd, decide_eq_true hm] at h; show _ = _; simpa using h
                clear hl hd HF2
                go_wp2_with (first
                  | (go_at_call 73; refine (letter_to r _ false HL.out).mono ?_; rintro e w2 ⟨rfl, rfl⟩)
                  | (go_at_call 74; refine (digit_to r _ true HDG.out).mono ?_; rintro e w2 ⟨rfl, rfl⟩))
                go_roundw
                case rel => exact ⟨p + k, m + 1, g, by omega, by omega, rfl, by go_num, HG.out, HN.out⟩
                case measure => simp; omega
              | false =>
                have HDG : Hid (digR r = false) := hd
                have HQ2 : Hid (q = false) := by have h := HF2.out; rw [hl, hd, decide_eq_true hm] at h; show _ = _; simpa using h.symm
                clear hl hd HF2
                go_wp2_with (first
                  | (go_at_call 73; refine (letter_to r _ false HL.out).mono ?_; rintro e w2 ⟨rfl, rfl⟩)
                  | (go_at_call 74; refine (digit_to r _ false HDG.out).mono ?_; rintro e w2 ⟨rfl, rfl⟩))
                go_step3
                exact ⟨rfl, ⟨HB2.out, HQ2.out⟩, _, _, _, _, _, _, _, _, _, _, _, _, _, _, _, _, _, _, _, _, _, _, _, _, _, _, _, _, _, _, _, rfl⟩
      · have HQ2 : Hid (decide (1 ≤ m ∧ m ≤ 6) = q) := by
          have h := HF.out.2
          rw [nameN, if_neg hlt] at h
          exact h
        have hnx : ∀ ty, (Instr.next (.pointer (some ⟨w.heap.size, 0, none⟩)) true ty).run Tryz.prog (w.iter s p) = _ := fun ty => run_next_end w s p ty hlt
        by_cases hm : m = 0
        · subst hm
          have HQ3 : Hid (q = false) := by show _ = _; rw [← HQ2.out]; rfl
          clear HF
          go_wp2
          go_step3
          exact ⟨rfl, ⟨HB.out, HQ3.out⟩, _, _, _, _, _, _, _, _, _, _, _, _, _, _, _, _, _, _, _, _, _, _, _, _, _, _, _, _, _, _, _, rfl⟩
        · have g0 : ((m : Int) == 0) = false := by rw [beq_eq_false_iff_ne]; omega
          have HQ3 : Hid (q = true) := by show _ = _; rw [← HQ2.out]; exact decide_eq_true (by omega)
          clear HF
          go_wp2
          rw [jump_ret]
          go_ret
          exact ⟨by rw [HQ3.out]; rfl, HB.out⟩
  · rintro a w' ⟨⟨hbj, hq⟩, u0, u1, u2, u3, u4, u5, u6, u7, u8, u9, u10, u11, u12, u13, u14, u15, u16, u17, u18, u19, u20, u21, u22, u23, u24, u25, u26, u27, u28, u29, u30, rfl⟩
    have HBJ : Hid (Below w.heap.size w w') := hbj
    clear hbj
    subst hq
    go_wp2
    rw [jump_ret]
    go_ret
    exact ⟨rfl, HBJ.out⟩
/-- A node. -/
structure Nod where
  name : ByteArray
  kind : Int
  args : List Int
  dims : List Int
  n : Int
/-- A node's five cells. -/
structure NodeAt (w : World) (b o : Nat) (x y : Value) (t : Nod) : Prop where
  c0 : w.cell? ⟨b, o, none⟩ = some (.string t.name)
  c1 : w.cell? ⟨b, o + 1, none⟩ = some (.int .i64 t.kind)
  c2 : w.cell? ⟨b, o + 2, none⟩ = some x
  c3 : w.cell? ⟨b, o + 3, none⟩ = some y
  c4 : w.cell? ⟨b, o + 4, none⟩ = some (.int .i64 t.n)
  a : Ints w x t.args
  d : Ints w y t.dims
  z : t.name.size ≤ 140737488355327
theorem NodeAt.later {w w' : World} {b o : Nat} {x y : Value} {t : Nod} (h : NodeAt w b o x y t) (hb : Below w.heap.size w w') : NodeAt w' b o x y t :=
  ⟨cell_later hb h.c0, cell_later hb h.c1, cell_later hb h.c2, cell_later hb h.c3, cell_later hb h.c4, h.a.later hb, h.d.later hb, h.z⟩
/-- A list of nodes. -/
def NodesL (w : World) (v : Value) (L : List Nod) : Prop :=
  L.length ≤ big ∧ ∃ (a : Option Addr) (c : Nat), v = .slice a L.length c ∧ L.length ≤ c ∧ ∀ i (h : i < L.length), ∃ b off x y, a = some ⟨b, off, none⟩ ∧ NodeAt w b (off + i * 5) x y L[i]
theorem NodesL.later {w w' : World} {v : Value} {L : List Nod} (h : NodesL w v L) (hb : Below w.heap.size w w') : NodesL w' v L := by
  obtain ⟨h0, a, c, rfl, h1, h2⟩ := h
  refine ⟨h0, a, c, rfl, h1, fun i hi => ?_⟩
  obtain ⟨b, off, x, y, e, hn⟩ := h2 i hi
  exact ⟨b, off, x, y, e, hn.later hb⟩
theorem NodesL.shape {w : World} {v : Value} {L : List Nod} (h : NodesL w v L) : ∃ a c, v = .slice a L.length c ∧ L.length ≤ c ∧ L.length ≤ big := by
  obtain ⟨h0, a, c, e, h1, _⟩ := h
  exact ⟨a, c, e, h1, h0⟩
theorem NodesL.row {w : World} {a : Option Addr} {n c : Nat} {L : List Nod} (h : NodesL w (.slice a n c) L) (i : Nat) (hi : i < L.length) : ∃ b off x y, a = some ⟨b, off, none⟩ ∧ NodeAt w b (off + i * 5) x y L[i] := by
  obtain ⟨_, a', c', e, _, hr⟩ := h
  simp only [Value.slice.injEq] at e
  obtain ⟨rfl, rfl, rfl⟩ := e
  exact hr i hi
/-- The first n of them. -/
theorem NodesL.take {w : World} {a : Option Addr} {n c : Nat} {L : List Nod} (h : NodesL w (.slice a n c) L) (k : Nat) (hk : k ≤ L.length) : NodesL w (.slice a k c) (L.take k) := by
  obtain ⟨h0, a', c', e, h1, hr⟩ := h
  simp only [Value.slice.injEq] at e
  obtain ⟨rfl, rfl, rfl⟩ := e
  refine ⟨by rw [List.length_take]; omega, a, c, by rw [List.length_take]; congr 1; omega, by rw [List.length_take]; omega, fun i hi => ?_⟩
  rw [List.length_take] at hi
  obtain ⟨b, off, x, y, e, hn⟩ := hr i (by omega)
  refine ⟨b, off, x, y, e, ?_⟩
  rw [List.getElem_take]
  exact hn
/-- Numbers of nodes. -/
def argsB (args : List Int) (n : Int) : Bool := args.all fun x => decide (0 ≤ x) && decide (x ≤ n - 1)
/-- The dims of those that it is made of. -/
def dimsAt (L : List Nod) (args : List Int) : List (List Int) := args.map fun x => match L[x.toNat]? with
  | some t => t.dims
  | none => []
def askD (t : Nod) : List Int := if askI t.kind then t.dims else []
/-- May one be, behind those ahead? -/
def nodeB (L : List Nod) (i : Nat) (t : Nod) : Bool :=
  argsB t.args i && (may t.kind t.n (askD t) (dimsAt L t.args) && (inf t.kind.toNat t.n (askD t) ((dimsAt L t.args).getD 0 []) ((dimsAt L t.args).getD 1 []) && decide (t.dims = inD t.kind.toNat t.n (askD t) ((dimsAt L t.args).getD 0 []) ((dimsAt L t.args).getD 1 []))))
def nodesN (L : List Nod) : Nat → Bool
  | 0 => true
  | k + 1 => nodesN L k && (match L[k]? with
    | some t => nodeB L k t
    | none => true)
def nodesB (L : List Nod) : Bool := decide (L.length ≤ 240) && nodesN L L.length
theorem rnum_to (n m : Int) (w : World) (x : Bool) (hx : (decide (0 ≤ n) && decide (n ≤ m)) = x) :
    Calls Tryz.prog 97 #[.int .i64 n, .int .i64 m] w fun e w' => e = .returned (.bool x) ∧ w = w' := by
  have HX : Hid ((decide (0 ≤ n) && decide (n ≤ m)) = x) := hx
  clear hx
  by_cases h1 : 0 ≤ n
  · go_enter Tryz.func97, Tryz.ntmps97
    go_wp2
    go_ret
    exact ⟨by rw [← HX.out]; simp [h1], rfl⟩
  · go_enter Tryz.func97, Tryz.ntmps97
    go_wp2
    go_ret
    exact ⟨by rw [← HX.out]; simp [h1]; omega, rfl⟩
theorem argsB_at {A : List Int} {n : Int} {k : Nat} (h : k < A.length) (hb : (decide (0 ≤ A[k]) && decide (A[k] ≤ n - 1)) = false) : argsB A n = false := by
  cases e : argsB A n with
  | false => rfl
  | true =>
    rw [argsB, List.all_eq_true] at e
    have := e _ (List.getElem_mem h)
    rw [hb] at this
    exact this.symm
theorem argsB_all {A : List Int} {n : Int} (h : ∀ k (h : k < A.length), (decide (0 ≤ A[k]) && decide (A[k] ≤ n - 1)) = true) : argsB A n = true := by
  rw [argsB, List.all_eq_true]
  intro x hx
  obtain ⟨k, hk, rfl⟩ := List.getElem_of_mem hx
  exact h k hk
set_option maxHeartbeats 4000000 in
theorem args_any {v : Value} {A : List Int} {w : World} (n : Nat) (hn : n ≤ 17592186044416) (hA : Ints w v A) (q : Bool) (hq : argsB A n = q) :
    Calls Tryz.prog 82 #[v, .int .i64 n] w fun e w' => e = .returned (.bool q) ∧ w = w' := by
  have HQ : Hid (argsB A n = q) := hq
  clear hq
  rcases hA.cases with ⟨rfl, a1, c1, rfl⟩ | ⟨b1, o1, c1, rfl, h0, h1, h2, h3⟩
  · have HQ2 : Hid (q = true) := by show _ = _; rw [← HQ.out]; rfl
    clear hA
    go_enter Tryz.func82, Tryz.ntmps82
    go_wp2
    refine wp_loop_rounds 1 ?_
    rw [rounds_succ]
    go_wp2
    go_ret
    exact ⟨by rw [HQ2.out]; rfl, rfl⟩
  · have HA3 := h3
    clear hA
    unfold big at h2
    have gw : IntKind.i64.wrap ((n : Int) - 1) = (n : Int) - 1 := by simp [IntKind.wrap, IntKind.signed, IntKind.bits]; omega
    go_enter Tryz.func82, Tryz.ntmps82
    go_wp2
    go_loop [5] (fun i => ∃ k : Nat, k ≤ A.length ∧ i = .int .i64 k ∧ Hid (∀ j (h : j < A.length), j < k → (decide (0 ≤ A[j]) && decide (A[j] ≤ (n : Int) - 1)) = true)) (fun i => A.length - (intOf i).toNat)
    case atStart => exact ⟨0, Nat.zero_le _, rfl, fun j h1 h2 => by omega⟩
    case round =>
      obtain ⟨k, hk, rfl, HP⟩ := hrel
      by_cases hlt : k < A.length
      · have hx := h3.out k hlt
        obtain ⟨y, hy⟩ : ∃ y, A[k] = y := ⟨_, rfl⟩
        rw [hy] at hx
        have HY : Hid (A[k] = y) := hy
        clear hy
        cases hb : (decide (0 ≤ y) && decide (y ≤ (n : Int) - 1)) with
        | false =>
          have HBB : Hid ((decide (0 ≤ y) && decide (y ≤ (n : Int) - 1)) = false) := hb
          have HQ2 : Hid (q = false) := by show _ = _; rw [← HQ.out]; exact argsB_at hlt (by rw [HY.out]; exact hb)
          clear hb
          go_wp2_with (go_at_call 97; refine (rnum_to _ _ _ false HBB.out).mono ?_; rintro e w2 ⟨rfl, rfl⟩)
          go_ret
          exact ⟨by rw [HQ2.out]; rfl, rfl⟩
        | true =>
          have HBB : Hid ((decide (0 ≤ y) && decide (y ≤ (n : Int) - 1)) = true) := hb
          clear hb
          go_wp2_with (go_at_call 97; refine (rnum_to _ _ _ true HBB.out).mono ?_; rintro e w2 ⟨rfl, rfl⟩)
          go_round
          case rel =>
            refine ⟨k + 1, by omega, by go_num, fun j h1 h2 => ?_⟩
            by_cases e : j = k
            · subst e; rw [HY.out]; exact HBB.out
            · exact HP.out j h1 (by omega)
          case measure => simp [intOf]; omega
      · have HQ2 : Hid (q = true) := by show _ = _; rw [← HQ.out]; exact argsB_all (fun j h => HP.out j h (by omega))
        go_wp2
        go_ret
        exact ⟨by rw [HQ2.out]; rfl, rfl⟩
theorem dimsAt_snoc (L : List Nod) (A : List Int) (k : Nat) (h : k < A.length) (m : Nat) (hm : m < L.length) (e : A[k] = (m : Int)) : dimsAt L (A.take (k + 1)) = dimsAt L (A.take k) ++ [L[m].dims] := by
  rw [dimsAt, List.take_succ_eq_append_getElem h, List.map_append, e]
  simp [dimsAt, hm]
theorem argsB_mem {A : List Int} {n : Nat} (h : argsB A n = true) (k : Nat) (hk : k < A.length) : ∃ m : Nat, m < n ∧ A[k] = (m : Int) := by
  rw [argsB, List.all_eq_true] at h
  have := h _ (List.getElem_mem hk)
  rw [Bool.and_eq_true, decide_eq_true_eq, decide_eq_true_eq] at this
  exact ⟨A[k].toNat, by omega, by omega⟩
set_option maxHeartbeats 4000000 in
theorem ndimsOf_any {v u : Value} {L : List Nod} {A : List Int} {w : World} (h : NodesL w v L) (hA : Ints w u A) (n : Nat) (hn : n ≤ L.length) (hq : argsB A n = true) (hlen : A.length ≤ 100000000) :
    Calls Tryz.prog 84 #[v, u] w fun e w' => ∃ v' xs, e = .returned v' ∧ Row w' w.heap.size v' (dimsAt L A) xs ∧ Below w.heap.size w w' := by
  have HN : Hid (NodesL w v L) := h
  obtain ⟨va, vc, rfl, hc1, hc2⟩ := h.shape
  obtain ⟨iT, hi, hz0, hz1, hz2⟩ := infoI
  have HI : Hid (Tryz.prog.info? 23 = some iT) := hi
  have HZ0 : Hid (iT.zero = some (.slice none 0 0)) := hz0
  have HZ1 : Hid (iT.size = 1) := hz1
  have HZ2 : Hid (iT.bytes = 24) := hz2
  have HQ : Hid (argsB A n = true) := hq
  have HAI : Hid (Ints w u A) := hA
  obtain ⟨ua, uc, rfl⟩ := hA.shape
  clear hi hz0 hz1 hz2 h hq hA
  unfold big at hc2
  go_enter Tryz.func84, Tryz.ntmps84
  go_wp2
  go_loopw [5, 6] (fun v i w' => ∃ (k : Nat) (xs : List Value), k ≤ A.length ∧ i = .int .i64 k ∧ Hid (Row w' w.heap.size v (dimsAt L (A.take k)) xs) ∧ Below w.heap.size w w') (fun _ i _ => A.length - (intOf i).toNat)
  case atStart => exact ⟨0, [], Nat.zero_le _, rfl, Row.none _ _, Below.refl _ _⟩
  case round =>
    obtain ⟨k, xs, hk, rfl, HO, hbel⟩ := hrel
    have HB : Hid (Below w.heap.size w wr) := hbel
    have hsz := hbel.size
    clear hbel
    by_cases hlt : k < A.length
    · obtain ⟨m, hm, em⟩ := argsB_mem HQ.out k hlt
      have hmL : m < L.length := by omega
      have hai := HAI.out.later HB.out
      rcases hai.cases with ⟨e0, _⟩ | ⟨ub, uo, uc', eu, h0, h1, h2, h3⟩
      · rw [e0] at hlt; simp at hlt
      simp only [Value.slice.injEq, true_and] at eu
      obtain ⟨rfl, rfl⟩ := eu
      have hx := h3.out k hlt
      rw [em] at hx
      obtain ⟨b, off, x, y, rfl, hnd⟩ := HN.out.row m hmL
      have d3 := cell_later HB.out hnd.c3
      have HT : Hid (Ints w y L[m].dims) := hnd.d
      have HSN : Hid (dimsAt L (A.take (k + 1)) = dimsAt L (A.take k) ++ [L[m].dims]) := dimsAt_snoc L A k hlt m hmL em
      obtain ⟨ya, yn, yc, rfl⟩ := hnd.d.shape3
      have hll : (dimsAt L (A.take k)).length = k := by simp [dimsAt]; omega
      have gm : (m : Int) < L.length := by omega
      clear hnd em h0 h1 h2 h3 hai
      have HR1 : Hid (Row (wr.alloc (.cells #[.slice ya yn yc] 23)) w.heap.size u5 (dimsAt L (A.take k)) xs) := HO.out.later (Below.push (Below.refl _ _) _)
      go_wp2_with (at_builtin; refine wpList_append_lies _ rfl _ _ 40 rfl w.heap.size 23 iT (.slice none 0 0) 1 24 Tryz.underlying40 HI.out HZ0.out HZ1.out HZ2.out rfl (by decide) u5 k xs rfl ?c0 ⟨wr.heap.size, 0, none⟩ 1 1 [.slice ya yn yc] rfl rfl ?c1 ?c2 (by decide) ?c3 ?c4 ?c5 (wr.heap.size + 1) ?c6 ?_)
      case c0 => have := HR1.out.own; rw [hll] at this; exact this
      case c1 => exact World.news_of_block (heap_alloc_new wr (.cells #[.slice ya yn yc] 23))
      case c2 => intro u hu; simp only [List.mem_cons, List.not_mem_nil, or_false] at hu; subst hu; rfl
      case c3 => unfold maxLen; omega
      case c4 => omega
      case c5 => simp; omega
      case c6 => simp
      intro g cap w2 ho hg hat hlt2
      have hr := Row.app (E := [L[m].dims]) (m := 1) HR1.out rfl (news := [.slice ya yn yc]) (fun i hi => by
        have h0 : i = 0 := by simp at hi; omega
        subst h0
        refine ⟨_, rfl, ?_⟩
        exact Elt.older HT.out (Below.push HB.out _) (fun q hq => (HO.out.lt q hq).1)) (by rw [hll]; exact ho) hg (by
          rcases hat with h | h
          · exact Or.inl h.symm
          · exact Or.inr (by rw [h]; simp [Value.ownBlock]))
      have HO2 : Hid (Row w2 w.heap.size (.slice (some ⟨g, 0, none⟩) (k + 1) cap) (dimsAt L (A.take (k + 1))) (xs ++ [.slice ya yn yc])) := by show Row _ _ _ _ _; rw [HSN.out]; exact hr
      have HB2 : Hid (Below w.heap.size w w2) := (Below.push HB.out _).grown hg (by simp; omega) (fun q hq => (HO.out.lt q hq).1)
      clear ho hg hat hr
      go_wp2
      go_roundw
      case rel => exact ⟨k + 1, _, by omega, by go_num, HO2.out, HB2.out⟩
      case measure => simp [intOf]; omega
    · have hk' : k = A.length := by omega
      subst hk'
      go_wp2
      go_ret
      have h9 := HO.out
      rw [List.take_length] at h9
      exact ⟨_, _, rfl, h9, HB.out⟩
theorem many_le (k : Nat) : many k ≤ 2 := by
  rw [many]
  split
  · omega
  · split <;> omega
theorem may_long {k n : Int} {d : List Int} {L : List (List Int)} (h : 2 < L.length) : may k n d L = false := may_not fun hx => by
  have h1 := (frm_parts1 hx.1).2.1
  have := many_le k.toNat
  omega
set_option maxHeartbeats 2000000 in
theorem may_any {vd v : Value} {d : List Int} {L : List (List Int)} {w : World} (k n : Int) (q : Bool) (hd : Ints w vd d) (hl : IntsL w v L) (hq : may k n d L = q) :
    Calls Tryz.prog 83 #[.int .i64 k, .int .i64 n, vd, v] w fun e w' => e = .returned (.bool q) ∧ Below w.heap.size w w' := by
  by_cases h2 : L.length ≤ 2
  · exact may_to k n q hd hl h2 hq
  · have HQ : Hid (q = false) := by show _ = _; rw [← hq]; exact may_long (by omega)
    obtain ⟨hb, va, vc, rfl, hvc, _⟩ := hl
    obtain ⟨da, dc, rfl⟩ := hd.shape
    obtain ⟨m, hm⟩ : ∃ m, L.length = m := ⟨_, rfl⟩
    rw [hm] at h2 ⊢
    clear hq hd hb hvc hm
    by_cases hk : 1 ≤ k ∧ k ≤ 17
    · obtain ⟨x, hx⟩ : ∃ x, many k.toNat = x := ⟨_, rfl⟩
      have hx2 := many_le k.toNat
      rw [hx] at hx2
      have HX : Hid (manyI k = (x : Int)) := by show _ = _; rw [manyI, if_pos hk, hx]
      have g1 : ((m : Int) != (x : Int)) = true := by rw [bne_iff_ne]; omega
      have g2 : ¬ (x : Int) < 0 := by omega
      clear hx hk
      go_enter Tryz.func83, Tryz.ntmps83
      go_wp2_with (go_at_call 60; refine (many_to k _ x HX.out).mono ?_; rintro e w' ⟨rfl, rfl⟩)
      go_ret
      exact ⟨by rw [HQ.out]; rfl, Below.refl _ _⟩
    · have HX : Hid (manyI k = -1) := by show _ = _; rw [manyI, if_neg hk]
      clear hk
      go_enter Tryz.func83, Tryz.ntmps83
      go_wp2_with (go_at_call 60; refine (many_to k _ (-1) HX.out).mono ?_; rintro e w' ⟨rfl, rfl⟩)
      go_ret
      exact ⟨by rw [HQ.out]; rfl, Below.refl _ _⟩
theorem dimsAt_len (L : List Nod) (A : List Int) : (dimsAt L A).length = A.length := by simp [dimsAt]
set_option maxHeartbeats 8000000 in
theorem rnode_any {v : Value} {L : List Nod} {w : World} (h : NodesL w v L) (i : Nat) (hi : i < L.length) (hlen : L[i].args.length ≤ 100000000) (q : Bool) (hq : nodeB L i L[i] = q) :
    Calls Tryz.prog 68 #[v, .int .i64 i] w fun e w' => e = .returned (.bool q) ∧ Below w.heap.size w w' := by
  have HN : Hid (NodesL w v L) := h
  obtain ⟨va, vc, rfl, hc1, hc2⟩ := h.shape
  obtain ⟨b, off, x, y, rfl, hnd⟩ := h.row i hi
  unfold big at hc2
  obtain ⟨t, ht⟩ : ∃ t, L[i] = t := ⟨_, rfl⟩
  rw [ht] at hnd hq hlen
  obtain ⟨nm, kd, ar, ds, n⟩ := t
  obtain ⟨c0, c1, c2, c3, c4, ha, hd, hz⟩ := hnd
  simp only at c0 c1 c2 c3 c4 ha hd hlen
  have HA : Hid (Ints w x ar) := ha
  have HD : Hid (Ints w y ds) := hd
  obtain ⟨xa, xn, xc, rfl⟩ := ha.shape3
  obtain ⟨ya, yn, yc, rfl⟩ := hd.shape3
  obtain ⟨U, hU⟩ : ∃ U, U = w.alloc (.cells #[.string nm, .int .i64 kd, .slice xa xn xc, .slice ya yn yc, .int .i64 n] 55) := ⟨_, rfl⟩
  have hb : Below w.heap.size w U := by rw [hU]; exact Below.push (Below.refl _ _) _
  have HB : Hid (Below w.heap.size w U) := hb
  have HNU : Hid (NodesL U (.slice (some ⟨b, off, none⟩) L.length vc) L) := HN.out.later hb
  have HAU : Hid (Ints U (.slice xa xn xc) ar) := HA.out.later hb
  have HDU : Hid (Ints U (.slice ya yn yc) ds) := HD.out.later hb
  have u1 : U.cell? ⟨w.heap.size, 1, none⟩ = some (.int .i64 kd) := by rw [hU]; simp
  have u2 : U.cell? ⟨w.heap.size, 2, none⟩ = some (.slice xa xn xc) := by rw [hU]; simp
  have u3 : U.cell? ⟨w.heap.size, 3, none⟩ = some (.slice ya yn yc) := by rw [hU]; simp
  have u4 : U.cell? ⟨w.heap.size, 4, none⟩ = some (.int .i64 n) := by rw [hU]; simp
  have HQ : Hid (nodeB L i ⟨nm, kd, ar, ds, n⟩ = q) := hq
  have gi : (i : Int) < L.length := by omega
  have HUU : Hid (U = w.alloc (.cells #[.string nm, .int .i64 kd, .slice xa xn xc, .slice ya yn yc, .int .i64 n] 55)) := hU
  clear h ha hd hb hq ht hz hU
  cases ha : argsB ar i with
  | false =>
    have HA0 : Hid (argsB ar i = false) := ha
    have HQ2 : Hid (q = false) := by show _ = _; rw [← HQ.out, nodeB, ha, Bool.false_and]
    clear ha
    go_enter Tryz.func68, Tryz.ntmps68
    go_wp2_with (go_at_call 82; rw [← HUU.out]; refine (args_any i (by omega) HAU.out false HA0.out).mono ?_; rintro e w2 ⟨rfl, rfl⟩)
    go_ret
    exact ⟨by rw [HQ2.out]; rfl, HB.out⟩
  | true =>
    have HA0 : Hid (argsB ar i = true) := ha
    clear ha
    obtain ⟨D, hD⟩ : ∃ D, askD ⟨nm, kd, ar, ds, n⟩ = D := ⟨_, rfl⟩
    have HDD : Hid (askD ⟨nm, kd, ar, ds, n⟩ = D) := hD
    cases hk : askI kd with
    | false =>
      have HK : Hid (askI kd = false) := hk
      have HV : Hid (Ints U (.slice none 0 0) D) := by
        show Ints _ _ _
        rw [← hD, askD, hk]
        exact Or.inl ⟨rfl, rfl⟩
      clear hD hk
      go_enter Tryz.func68, Tryz.ntmps68
      go_wp2_with (first
        | (go_at_call 82; rw [← HUU.out]; refine (args_any i (by omega) HAU.out true HA0.out).mono ?_; rintro e w2 ⟨rfl, rfl⟩)
        | (go_at_call 45; refine (asked_to _ _ false HK.out).mono ?_; rintro e w2 ⟨rfl, rfl⟩))
      go_at_call 84
      refine (ndimsOf_any HNU.out HAU.out i (by omega) HA0.out hlen).mono ?_
      rintro e w2 ⟨v2, xs, rfl, hR, hb2⟩
      have HR : Hid (Row w2 U.heap.size v2 (dimsAt L ar) xs) := hR
      have HB2 : Hid (Below U.heap.size U w2) := hb2
      have HV2 : Hid (Ints w2 (.slice none 0 0) D) := HV.out.later hb2
      have HD2 : Hid (Ints w2 (.slice ya yn yc) ds) := HDU.out.later hb2
      have HL2 : Hid (IntsL w2 v2 (dimsAt L ar)) := hR.intsL (by rw [dimsAt_len]; unfold big; omega)
      have w1 := cell_later hb2 u1
      have w3 := cell_later hb2 u3
      have w4 := cell_later hb2 u4
      clear hR hb2 u1 u2 u3 u4
      obtain ⟨qm, hqm⟩ : ∃ qm, may kd n D (dimsAt L ar) = qm := ⟨_, rfl⟩
      have HM : Hid (may kd n D (dimsAt L ar) = qm) := hqm
      cases qm with
      | false =>
        have HQ2 : Hid (q = false) := by show _ = _; rw [← HQ.out, nodeB, HDD.out, hqm, Bool.false_and, Bool.and_false]
        clear hqm
        go_wp2_with (go_at_call 83; refine (may_any kd n false HV2.out HL2.out HM.out).mono ?_; rintro e w5 ⟨rfl, hb5⟩; have HB5 : Hid (Below w2.heap.size w2 w5) := hb5; clear hb5)
        go_ret
        exact ⟨by rw [HQ2.out]; rfl, Below.after HB.out (Below.after HB2.out HB5.out)⟩
      | true =>
        obtain ⟨ok, hok⟩ : ∃ ok, inf kd.toNat n D ((dimsAt L ar).getD 0 []) ((dimsAt L ar).getD 1 []) = ok := ⟨_, rfl⟩
        have HOK : Hid (inf kd.toNat n D ((dimsAt L ar).getD 0 []) ((dimsAt L ar).getD 1 []) = ok) := hok
        have HBW : Hid (Below w.heap.size w w2) := Below.after HB.out HB2.out
        cases ok with
        | false =>
          have HQ2 : Hid (q = false) := by show _ = _; rw [← HQ.out, nodeB, HDD.out, hok, Bool.false_and, Bool.and_false, Bool.and_false]
          clear hqm hok
          go_wp2_with (first
            | (go_at_call 83; refine (may_any kd n true HV2.out HL2.out HM.out).mono ?_; rintro e w5 ⟨rfl, hb5⟩; have HB5 : Hid (Below w2.heap.size w2 w5) := hb5; have t1 := cell_later hb5 w1; have t3 := cell_later hb5 w3; have t4 := cell_later hb5 w4; clear hb5)
            | (go_at_call 85; refine (infer_to kd n HM.out (HV2.out.later HB5.out) (HR.out.later HB5.out) false HOK.out).mono ?_; rintro e w6 ⟨x6, z6, rfl, ho6, hz6, hb6⟩; have HB6 : Hid (Below w5.heap.size w5 w6) := hb6; have r3 := cell_later hb6 t3; obtain ⟨s6, n6, c6, rfl⟩ := ho6.ints.shape3; clear hb6 ho6 hz6))
          go_ret
          exact ⟨by rw [HQ2.out]; rfl, Below.after HBW.out (Below.after HB5.out HB6.out)⟩
        | true =>
          obtain ⟨qe, hqe⟩ : ∃ qe, (ds == inD kd.toNat n D ((dimsAt L ar).getD 0 []) ((dimsAt L ar).getD 1 [])) = qe := ⟨_, rfl⟩
          have HE : Hid ((ds == inD kd.toNat n D ((dimsAt L ar).getD 0 []) ((dimsAt L ar).getD 1 [])) = qe) := hqe
          have HQ2 : Hid (q = qe) := by show _ = _; rw [← HQ.out, nodeB, HDD.out, HA0.out, hqm, hok, ← hqe]; simp only [Bool.true_and]; exact (Bool.beq_eq_decide_eq ..).symm
          clear hqm hok hqe
          go_wp2_with (first
            | (go_at_call 83; refine (may_any kd n true HV2.out HL2.out HM.out).mono ?_; rintro e w5 ⟨rfl, hb5⟩; have HB5 : Hid (Below w2.heap.size w2 w5) := hb5; have t1 := cell_later hb5 w1; have t3 := cell_later hb5 w3; have t4 := cell_later hb5 w4; clear hb5)
            | (go_at_call 85; refine (infer_to kd n HM.out (HV2.out.later HB5.out) (HR.out.later HB5.out) true HOK.out).mono ?_; rintro e w6 ⟨x6, z6, rfl, ho6, hz6, hb6⟩; have HB6 : Hid (Below w5.heap.size w5 w6) := hb6; have r3 := cell_later hb6 t3; have HI6 : Hid (Ints w6 x6 z6) := ho6.ints; have HZ6 : Hid (z6 = _) := hz6 rfl; obtain ⟨s6, n6, c6, rfl⟩ := ho6.ints.shape3; clear hb6 ho6 hz6)
            | (go_at_call 63; refine (eqn_to qe (a := ds) (b := z6) ?_ ?_ ?_).mono ?_; exact (HD2.out.later HB5.out).later HB6.out; exact HI6.out; (rw [HZ6.out]; exact HE.out); rintro r w7 ⟨rfl, m7, e7⟩; have HB7 : Hid (Below w6.heap.size w6 w7) := (by show Below _ _ _; rw [e7]; exact Below.drewN (Below.refl _ _) _); clear e7))
          go_ret
          exact ⟨by rw [HQ2.out]; rfl, Below.after HBW.out (Below.after HB5.out (Below.after HB6.out HB7.out))⟩
    | true =>
      have HK : Hid (askI kd = true) := hk
      have HV : Hid (Ints U (.slice ya yn yc) D) := by
        show Ints _ _ _
        rw [← hD, askD, hk]
        exact HDU.out
      clear hD hk
      go_enter Tryz.func68, Tryz.ntmps68
      go_wp2_with (first
        | (go_at_call 82; rw [← HUU.out]; refine (args_any i (by omega) HAU.out true HA0.out).mono ?_; rintro e w2 ⟨rfl, rfl⟩)
        | (go_at_call 45; refine (asked_to _ _ true HK.out).mono ?_; rintro e w2 ⟨rfl, rfl⟩))
      go_at_call 84
      refine (ndimsOf_any HNU.out HAU.out i (by omega) HA0.out hlen).mono ?_
      rintro e w2 ⟨v2, xs, rfl, hR, hb2⟩
      have HR : Hid (Row w2 U.heap.size v2 (dimsAt L ar) xs) := hR
      have HB2 : Hid (Below U.heap.size U w2) := hb2
      have HV2 : Hid (Ints w2 (.slice ya yn yc) D) := HV.out.later hb2
      have HD2 : Hid (Ints w2 (.slice ya yn yc) ds) := HDU.out.later hb2
      have HL2 : Hid (IntsL w2 v2 (dimsAt L ar)) := hR.intsL (by rw [dimsAt_len]; unfold big; omega)
      have w1 := cell_later hb2 u1
      have w3 := cell_later hb2 u3
      have w4 := cell_later hb2 u4
      clear hR hb2 u1 u2 u3 u4
      obtain ⟨qm, hqm⟩ : ∃ qm, may kd n D (dimsAt L ar) = qm := ⟨_, rfl⟩
      have HM : Hid (may kd n D (dimsAt L ar) = qm) := hqm
      cases qm with
      | false =>
        have HQ2 : Hid (q = false) := by show _ = _; rw [← HQ.out, nodeB, HDD.out, hqm, Bool.false_and, Bool.and_false]
        clear hqm
        go_wp2_with (go_at_call 83; refine (may_any kd n false HV2.out HL2.out HM.out).mono ?_; rintro e w5 ⟨rfl, hb5⟩; have HB5 : Hid (Below w2.heap.size w2 w5) := hb5; clear hb5)
        go_ret
        exact ⟨by rw [HQ2.out]; rfl, Below.after HB.out (Below.after HB2.out HB5.out)⟩
      | true =>
        obtain ⟨ok, hok⟩ : ∃ ok, inf kd.toNat n D ((dimsAt L ar).getD 0 []) ((dimsAt L ar).getD 1 []) = ok := ⟨_, rfl⟩
        have HOK : Hid (inf kd.toNat n D ((dimsAt L ar).getD 0 []) ((dimsAt L ar).getD 1 []) = ok) := hok
        have HBW : Hid (Below w.heap.size w w2) := Below.after HB.out HB2.out
        cases ok with
        | false =>
          have HQ2 : Hid (q = false) := by show _ = _; rw [← HQ.out, nodeB, HDD.out, hok, Bool.false_and, Bool.and_false, Bool.and_false]
          clear hqm hok
          go_wp2_with (first
            | (go_at_call 83; refine (may_any kd n true HV2.out HL2.out HM.out).mono ?_; rintro e w5 ⟨rfl, hb5⟩; have HB5 : Hid (Below w2.heap.size w2 w5) := hb5; have t1 := cell_later hb5 w1; have t3 := cell_later hb5 w3; have t4 := cell_later hb5 w4; clear hb5)
            | (go_at_call 85; refine (infer_to kd n HM.out (HV2.out.later HB5.out) (HR.out.later HB5.out) false HOK.out).mono ?_; rintro e w6 ⟨x6, z6, rfl, ho6, hz6, hb6⟩; have HB6 : Hid (Below w5.heap.size w5 w6) := hb6; have r3 := cell_later hb6 t3; obtain ⟨s6, n6, c6, rfl⟩ := ho6.ints.shape3; clear hb6 ho6 hz6))
          go_ret
          exact ⟨by rw [HQ2.out]; rfl, Below.after HBW.out (Below.after HB5.out HB6.out)⟩
        | true =>
          obtain ⟨qe, hqe⟩ : ∃ qe, (ds == inD kd.toNat n D ((dimsAt L ar).getD 0 []) ((dimsAt L ar).getD 1 [])) = qe := ⟨_, rfl⟩
          have HE : Hid ((ds == inD kd.toNat n D ((dimsAt L ar).getD 0 []) ((dimsAt L ar).getD 1 [])) = qe) := hqe
          have HQ2 : Hid (q = qe) := by show _ = _; rw [← HQ.out, nodeB, HDD.out, HA0.out, hqm, hok, ← hqe]; simp only [Bool.true_and]; exact (Bool.beq_eq_decide_eq ..).symm
          clear hqm hok hqe
          go_wp2_with (first
            | (go_at_call 83; refine (may_any kd n true HV2.out HL2.out HM.out).mono ?_; rintro e w5 ⟨rfl, hb5⟩; have HB5 : Hid (Below w2.heap.size w2 w5) := hb5; have t1 := cell_later hb5 w1; have t3 := cell_later hb5 w3; have t4 := cell_later hb5 w4; clear hb5)
            | (go_at_call 85; refine (infer_to kd n HM.out (HV2.out.later HB5.out) (HR.out.later HB5.out) true HOK.out).mono ?_; rintro e w6 ⟨x6, z6, rfl, ho6, hz6, hb6⟩; have HB6 : Hid (Below w5.heap.size w5 w6) := hb6; have r3 := cell_later hb6 t3; have HI6 : Hid (Ints w6 x6 z6) := ho6.ints; have HZ6 : Hid (z6 = _) := hz6 rfl; obtain ⟨s6, n6, c6, rfl⟩ := ho6.ints.shape3; clear hb6 ho6 hz6)
            | (go_at_call 63; refine (eqn_to qe (a := ds) (b := z6) ?_ ?_ ?_).mono ?_; exact (HD2.out.later HB5.out).later HB6.out; exact HI6.out; (rw [HZ6.out]; exact HE.out); rintro r w7 ⟨rfl, m7, e7⟩; have HB7 : Hid (Below w6.heap.size w6 w7) := (by show Below _ _ _; rw [e7]; exact Below.drewN (Below.refl _ _) _); clear e7))
          go_ret
          exact ⟨by rw [HQ2.out]; rfl, Below.after HBW.out (Below.after HB5.out (Below.after HB6.out HB7.out))⟩
theorem nodesN_step {L : List Nod} {k : Nat} (h : k < L.length) : nodesN L (k + 1) = (nodesN L k && nodeB L k L[k]) := by
  rw [nodesN, List.getElem?_eq_getElem h]
theorem nodesN_not {L : List Nod} {k : Nat} (h : nodesN L k = false) : ∀ m, k ≤ m → nodesN L m = false
  | 0, hm => by
    have : k = 0 := by omega
    subst this
    exact h
  | m + 1, hm => by
    by_cases e : k = m + 1
    · subst e; exact h
    · rw [nodesN, nodesN_not h m (by omega), Bool.false_and]
set_option maxHeartbeats 4000000 in
theorem rnodes_any {v : Value} {L : List Nod} {w : World} (h : NodesL w v L) (hlen : ∀ t ∈ L, t.args.length ≤ 100000000) (q : Bool) (hq : nodesB L = q) :
    Calls Tryz.prog 40 #[v] w fun e w' => e = .returned (.bool q) ∧ Below w.heap.size w w' := by
  have HN : Hid (NodesL w v L) := h
  have HL : Hid (∀ t ∈ L, t.args.length ≤ 100000000) := hlen
  have HQ : Hid (nodesB L = q) := hq
  obtain ⟨va, vc, rfl, hc1, hc2⟩ := h.shape
  unfold big at hc2
  clear h hq hlen
  by_cases h240 : 240 < L.length
  · have g1 : (240 : Int) < (L.length : Int) := by omega
    have HQ2 : Hid (q = false) := by show _ = _; rw [← HQ.out, nodesB, decide_eq_false (by omega)]; rfl
    go_enter Tryz.func40, Tryz.ntmps40
    go_wp2
    go_ret
    exact ⟨by rw [HQ2.out]; rfl, Below.refl _ _⟩
  · have g1 : ¬ (240 : Int) < (L.length : Int) := by omega
    have HQ2 : Hid (nodesN L L.length = q) := by show _ = _; rw [← HQ.out, nodesB, decide_eq_true (by omega), Bool.true_and]
    go_enter Tryz.func40, Tryz.ntmps40
    go_wp2
    go_loopw [3] (fun i w' => ∃ k : Nat, k ≤ L.length ∧ i = .int .i64 k ∧ Hid (nodesN L k = true) ∧ Hid (Below w.heap.size w w')) (fun i _ => L.length - (intOf i).toNat)
    case atStart => exact ⟨0, Nat.zero_le _, rfl, rfl, Below.refl _ _⟩
    case round =>
      obtain ⟨k, hk, rfl, HP, HB⟩ := hrel
      by_cases hlt : k < L.length
      · have HK : Hid (L[k].args.length ≤ 100000000) := HL.out _ (List.getElem_mem hlt)
        cases hb : nodeB L k L[k] with
        | false =>
          have HBB : Hid (nodeB L k L[k] = false) := hb
          have HQ3 : Hid (q = false) := by
            show _ = _
            rw [← HQ2.out]
            exact nodesN_not (k := k + 1) (by rw [nodesN_step hlt, hb, Bool.and_false]) _ (by omega)
          clear hb
          go_wp2_with (go_at_call 68; refine (rnode_any (HN.out.later HB.out) k hlt HK.out false HBB.out).mono ?_; rintro e w2 ⟨rfl, hb2⟩; have HB2 : Hid (Below w.heap.size w w2) := Below.after HB.out hb2; clear hb2)
          go_ret
          exact ⟨by rw [HQ3.out]; rfl, HB2.out⟩
        | true =>
          have HBB : Hid (nodeB L k L[k] = true) := hb
          clear hb
          go_wp2_with (go_at_call 68; refine (rnode_any (HN.out.later HB.out) k hlt HK.out true HBB.out).mono ?_; rintro e w2 ⟨rfl, hb2⟩; have HB2 : Hid (Below w.heap.size w w2) := Below.after HB.out hb2; clear hb2)
          go_roundw
          case rel => exact ⟨k + 1, by omega, by go_num, by show _ = _; rw [nodesN_step hlt, HP.out, HBB.out]; rfl, HB2.out⟩
          case measure => simp [intOf]; omega
      · obtain rfl : k = L.length := by omega
        have HQ3 : Hid (q = true) := by show _ = _; rw [← HQ2.out]; exact HP.out
        go_wp2
        go_ret
        exact ⟨by rw [HQ3.out]; rfl, HB.out⟩
def nodW (t : Nod) : Nat := t.args.length + t.dims.length + t.name.size / 8
/-- How heavy a list of nodes is (from n on; what is heavy enough is not read to its end). -/
def nwF : Nat → List Nod → Nat
  | n, [] => n
  | n, t :: r => if n < 1048576 then nwF (n + nodW t) r else n
end Go.Proofs.YtkojdigaoihkpaaGreatDoor

end
section
namespace Go.Proofs.YtkojdigaoihkpaaGreatDoor
set_option linter.unusedVariables false
set_option linter.unusedSimpArgs false
set_option maxRecDepth 100000
open Go.RowKit

/-- A box of a node's cells. -/
def BoxN (w : World) (B : Nat) (a : Array Value) : Prop := w.heap[B]? = some (.cells a 55 (0, 0))
theorem BoxN.c {w : World} {B : Nat} {a : Array Value} (h : BoxN w B a) (j : Nat) : w.cell? ⟨B, j, none⟩ = a[j]? := by rw [cell_of_row w B j _ 55 (0, 0) h]
theorem BoxN.f {w : World} {B : Nat} {a : Array Value} (h : BoxN w B a) (j : Nat) : w.frozen? ⟨B, j, none⟩ = false := frozen_of_row w B j _ 55 h
theorem BoxN.lt {w : World} {B : Nat} {a : Array Value} (h : BoxN w B a) : B < w.heap.size := (Array.getElem?_eq_some_iff.1 h).1
theorem BoxN.later {w w' : World} {B : Nat} {a : Array Value} (hb : Below w.heap.size w w') (h : BoxN w B a) : BoxN w' B a := (hb.block B h.lt).trans h
theorem BoxN.new (w : World) (a : Array Value) : BoxN (w.alloc (.cells a 55)) w.heap.size a := heap_alloc_new w _
theorem BoxN.set {w : World} {B : Nat} {a : Array Value} (h : BoxN w B a) (j : Nat) (u : Value) : BoxN (w.setCell ⟨B, j, none⟩ u) B (a.setIfInBounds j u) := heap_setCell_same w B j _ 55 u h
theorem BoxN.other {w : World} {B : Nat} {a : Array Value} (h : BoxN w B a) (p : Addr) (u : Value) (hp : B ≠ p.block) : BoxN (w.setCell p u) B a := (Below.heap_setCell w p u B hp).trans h
theorem BoxN.alloc {w : World} {B : Nat} {a : Array Value} (h : BoxN w B a) (o : Obj) : BoxN (w.alloc o) B a := (Below.heap_alloc w o B h.lt).trans h
theorem Own.below {w : World} {B : Nat} {v : Value} {d : List Int} (h : Own w B v d) (p : Addr) (u : Value) (hp : p.block < B) : Own (w.setCell p u) B v d := h.setCell p u (fun k hk => by have := h.frm k hk; omega)
/-- A node's five values from place j on; its lists not in block r. -/
def NodeX (w : World) (r : Option Nat) (xs : List Value) (j : Nat) (t : Nod) : Prop :=
  ∃ x y, xs[j]? = some (.string t.name) ∧ xs[j + 1]? = some (.int .i64 t.kind) ∧ xs[j + 2]? = some x ∧ xs[j + 3]? = some y ∧ xs[j + 4]? = some (.int .i64 t.n) ∧ Elt w r x t.args ∧ Elt w r y t.dims ∧ t.name.size ≤ 140737488355327
theorem NodeX.later {w w' : World} {r : Option Nat} {xs : List Value} {j : Nat} {t : Nod} (hb : Below w.heap.size w w') (h : NodeX w r xs j t) : NodeX w' r xs j t := by
  obtain ⟨x, y, h0, h1, h2, h3, h4, ha, hd, hz⟩ := h
  exact ⟨x, y, h0, h1, h2, h3, h4, ha.later hb, hd.later hb, hz⟩
theorem NodeX.grown {w w' : World} {r r' : Option Nat} {xs : List Value} {j : Nat} {t : Nod} (h : NodeX w r xs j t) (hg : w.grownBy w' r) (hr : r' = r ∨ r' = some w.heap.size) : NodeX w' r' xs j t := by
  obtain ⟨x, y, h0, h1, h2, h3, h4, ha, hd, hz⟩ := h
  exact ⟨x, y, h0, h1, h2, h3, h4, ha.grown hg hr, hd.grown hg hr, hz⟩
theorem NodeX.left {w : World} {r : Option Nat} {xs ys : List Value} {j : Nat} {t : Nod} (h : NodeX w r xs j t) (hj : j + 4 < xs.length) : NodeX w r (xs ++ ys) j t := by
  obtain ⟨x, y, h0, h1, h2, h3, h4, h⟩ := h
  refine ⟨x, y, ?_, ?_, ?_, ?_, ?_, h⟩ <;> rw [List.getElem?_append_left (by omega)] <;> assumption
theorem NodeX.right {w : World} {r : Option Nat} {xs ys : List Value} {j i : Nat} {t : Nod} (h : NodeX w r ys j t) (hj : i = xs.length + j) : NodeX w r (xs ++ ys) i t := by
  subst hj
  obtain ⟨x, y, h0, h1, h2, h3, h4, h⟩ := h
  refine ⟨x, y, ?_, ?_, ?_, ?_, ?_, h⟩ <;> rw [List.getElem?_append_right (by omega)]
  · rw [show xs.length + j - xs.length = j from by omega]; exact h0
  · rw [show xs.length + j + 1 - xs.length = j + 1 from by omega]; exact h1
  · rw [show xs.length + j + 2 - xs.length = j + 2 from by omega]; exact h2
  · rw [show xs.length + j + 3 - xs.length = j + 3 from by omega]; exact h3
  · rw [show xs.length + j + 4 - xs.length = j + 4 from by omega]; exact h4
structure RowN (w : World) (B : Nat) (v : Value) (L : List Nod) (xs : List Value) : Prop where
  own : w.ownsRow B 55 5 v L.length xs
  elt : ∀ i (h : i < L.length), NodeX w v.ownBlock xs (i * 5) L[i]
theorem RowN.zero (w : World) (B : Nat) : RowN w B (.slice none 0 0) [] [] := ⟨World.ownsRow_nil _ _ _ _, fun i h => by simp at h⟩
theorem RowN.later {w w' : World} {B : Nat} {v : Value} {L : List Nod} {xs : List Value} (hb : Below w.heap.size w w') (h : RowN w B v L xs) : RowN w' B v L xs := by
  refine ⟨⟨h.own.1, ?_⟩, fun i hi => (h.elt i hi).later hb⟩
  rcases h.own.2 with h0 | ⟨g, cap, cur, rfl, h1, hh, h2⟩
  · exact Or.inl h0
  · exact Or.inr ⟨g, cap, cur, rfl, h1, (hb.block g (Array.getElem?_eq_some_iff.1 hh).1).trans hh, h2⟩
theorem RowN.app {w w' : World} {B m : Nat} {v v' : Value} {L E : List Nod} {xs news : List Value} (h : RowN w B v L xs) (hm : m = E.length) (he : ∀ i (h : i < E.length), NodeX w v.ownBlock news (i * 5) E[i])
    (hown : w'.ownsRow B 55 5 v' (L.length + m) (xs ++ news)) (hg : w.grownBy w' v.ownBlock) (hat : v'.ownBlock = v.ownBlock ∨ v'.ownBlock = some w.heap.size) : RowN w' B v' (L ++ E) (xs ++ news) := by
  subst hm
  have hl := h.own.1
  refine ⟨by rw [List.length_append]; exact hown, fun i hi => ?_⟩
  by_cases hlt : i < L.length
  · rw [List.getElem_append_left hlt]
    exact ((h.elt i hlt).grown hg hat).left (by omega)
  · rw [List.length_append] at hi
    rw [List.getElem_append_right (by omega)]
    exact ((he (i - L.length) (by omega)).grown hg hat).right (by omega)
theorem RowN.nodesL {w : World} {B : Nat} {v : Value} {L : List Nod} {xs : List Value} (h : RowN w B v L xs) (hb : L.length ≤ big) : NodesL w v L := by
  have hc := h.own
  rcases h.own.2 with ⟨rfl, h0⟩ | ⟨g, cap, cur, rfl, h1, hh, h2, h3, h4, h5⟩
  · refine ⟨hb, none, 0, by rw [h0], by omega, fun i hi => by omega⟩
  · refine ⟨hb, some ⟨g, 0, none⟩, cap, rfl, h2, fun i hi => ?_⟩
    obtain ⟨x, y, e0, e1, e2, e3, e4, ha, hd, hz⟩ := h.elt i hi
    have k0 := hc.cells (g := g) rfl _ _ e0
    have k1 := hc.cells (g := g) rfl _ _ e1
    have k2 := hc.cells (g := g) rfl _ _ e2
    have k3 := hc.cells (g := g) rfl _ _ e3
    have k4 := hc.cells (g := g) rfl _ _ e4
    rw [addr_add] at k0 k1 k2 k3 k4
    exact ⟨g, 0, x, y, rfl, k0, by rw [Nat.add_assoc]; exact k1, by rw [Nat.add_assoc]; exact k2, by rw [Nat.add_assoc]; exact k3, by rw [Nat.add_assoc]; exact k4, ha.1, hd.1, hz⟩
theorem RowN.lt {w : World} {B : Nat} {v : Value} {L : List Nod} {xs : List Value} (h : RowN w B v L xs) : ∀ k, v.ownBlock = some k → B ≤ k ∧ k < w.heap.size := h.own.lt
theorem infoN' : (Tryz.prog.info? 55).map (fun i => (i.zero, i.size, i.bytes)) = some (some (.agg #[.string ⟨#[]⟩, .int .i64 0, .slice none 0 0, .slice none 0 0, .int .i64 0]), 5, 80) := by kernel_rfl
theorem infoN : ∃ i, Tryz.prog.info? 55 = some i ∧ i.zero = some (.agg #[.string ⟨#[]⟩, .int .i64 0, .slice none 0 0, .slice none 0 0, .int .i64 0]) ∧ i.size = 5 ∧ i.bytes = 80 := by
  have h := infoN'
  cases e : Tryz.prog.info? 55 with
  | none => rw [e] at h; simp at h
  | some i => rw [e] at h; simp at h; exact ⟨i, rfl, h⟩
end Go.Proofs.YtkojdigaoihkpaaGreatDoor

end
section
namespace Go.Proofs.YtkojdigaoihkpaaGreatDoor
set_option linter.unusedVariables false
set_option linter.unusedSimpArgs false
set_option maxRecDepth 100000
open Go.RowKit

/-- How heavy lists of nodes are. -/
def hvF : Nat → List (List Nod) → Nat
  | n, [] => n
  | n, L :: r => if n < 1048576 then hvF (n + nwF L.length L) r else n
def hv (T : List (List Nod)) (N : List Int) (D : List (List Int)) : Nat := hvF (N.length + (lsF D.length (D.map List.length)).toNat) T
theorem frm_long {k n : Int} {d : List Int} {c : Nat} (h : 2 < c) : frm k n d c = false := by
  cases e : frm k n d c with
  | false => rfl
  | true =>
    have h1 := (frm_parts1 e).2.1
    have := many_le k.toNat
    omega
set_option maxHeartbeats 2000000 in
theorem dims_at {vd v : Value} {d : List Int} {L : List (List Int)} {w : World} (k n : Int) (hd : Ints w vd d) (hl : IntsL w v L) :
    Calls Tryz.prog 96 #[.int .i64 k, .int .i64 n, vd, v] w fun e w' => ∃ x, e = .returned (.tuple #[x, .int .i64 (diE k n d L)]) ∧ Own w' w.heap.size x (diR k n d L) ∧ Below w.heap.size w w' := by
  by_cases h2 : L.length ≤ 2
  · exact dims_any k n hd hl h2
  · obtain ⟨hbig, va, vc, rfl, hvc, hcell⟩ := hl
    obtain ⟨m, hm⟩ : ∃ m, L.length = m := ⟨_, rfl⟩
    have hf : frm k n d m = false := frm_long (by omega)
    have HE : Hid (diE k n d L = 1 ∧ diR k n d L = []) := by show _ ∧ _; simp [diE, diR, hm, hf]
    have HF : Hid (frE k n d m = 1) := by show _ = _; rw [frE, hf]; rfl
    have HD : Hid (Ints w vd d) := hd
    rw [hm] at hbig ⊢
    clear hd hm hcell hf h2
    go_enter Tryz.func96, Tryz.ntmps96
    go_wp2_with fail
    refine (form_any k n m hbig HD.out 1 HF.out).mono ?_
    rintro e w1 ⟨rfl, hb1⟩
    have HB1 : Hid (Below w.heap.size w w1) := hb1
    clear hb1
    go_wp2
    go_ret2
    exact ⟨_, by rw [HE.out.1]; rfl, by rw [HE.out.2]; exact Own.nil _ _, HB1.out⟩
/-- Where a name is first; -1: nowhere. -/
def nmdN : List Nod → ByteArray → Nat → Int
  | [], _, _ => -1
  | t :: r, s, k => if t.name = s then (k : Int) else nmdN r s (k + 1)
/-- Is it a graph? -/
def grpI (L : List Nod) (i : Nat) : Bool := match L[i]? with
  | some t => nameB t.name && decide (nmdN L t.name 0 = (i : Int)) && decide (t.kind ≤ 15) && (decide (-1073741824 ≤ t.n) && decide (t.n ≤ 1073741824))
  | none => true
def grpB (L : List Nod) : Bool := decide (1 ≤ L.length) && decide (L.length ≤ 24) && nodesB L && (List.range L.length).all (grpI L) && (match L.getLast? with
  | some t => decide (prd t.dims = 1)
  | none => false)
/-- Not too long. -/
structure Small (L : List Nod) : Prop where
  n : L.length ≤ 1000000
  a : ∀ i (h : i < L.length), L[i].args.length ≤ 1000000
  d : ∀ i (h : i < L.length), L[i].dims.length ≤ 1000000
  s : ∀ i (h : i < L.length), L[i].name.size ≤ 1000000
theorem nodesN_at {L : List Nod} : ∀ {n : Nat}, nodesN L n = true → ∀ i (h : i < L.length), i < n → nodeB L i L[i] = true
  | n + 1, h, i, hi, hn => by
    rw [nodesN, Bool.and_eq_true] at h
    by_cases e : i = n
    · subst e
      have := h.2
      rw [List.getElem?_eq_getElem hi] at this
      exact this
    · exact nodesN_at h.1 i hi (by omega)
theorem nodesB_at {L : List Nod} (h : nodesB L = true) (i : Nat) (hi : i < L.length) : nodeB L i L[i] = true := by
  rw [nodesB, Bool.and_eq_true] at h
  exact nodesN_at h.2 i hi hi
theorem argsB_lt {A : List Int} {n : Nat} (h : argsB A n = true) {x : Int} (hx : x ∈ A) : 0 ≤ x ∧ x < n := by
  rw [argsB, List.all_eq_true] at h
  have := h x hx
  rw [Bool.and_eq_true, decide_eq_true_eq, decide_eq_true_eq] at this
  omega
theorem dimsAt_take {L : List Nod} {k : Nat} {A : List Int} (h : ∀ x ∈ A, 0 ≤ x ∧ x < (k : Int)) : dimsAt (L.take k) A = dimsAt L A := by
  rw [dimsAt, dimsAt]
  refine List.map_congr_left fun x hx => ?_
  have := h x hx
  rw [List.getElem?_take, if_pos (by omega)]
theorem grp_nodes {L : List Nod} (h : grpB L = true) : nodesB L = true := by
  simp only [grpB, Bool.and_eq_true] at h
  exact h.1.1.2
theorem okd_pair {x y : Int} (hx : 1 ≤ x ∧ x ≤ 8) (hy : 1 ≤ y ∧ y ≤ 8) : okd [x, y] = true := by
  refine okd_mk (by simp) (by simp) (by simp [inr]; omega) ?_
  rw [show prd [x, y] = x * y from by simp [prd]]
  have h1 : x * y ≤ 8 * y := Int.mul_le_mul_of_nonneg_right hx.2 (by omega)
  omega
theorem okd_at2 {a : List Int} (h : okd a = true) (hl : a.length = 2) (i : Nat) (hi : i < 2) : 1 ≤ a.getD i 0 ∧ a.getD i 0 ≤ 8 := by
  have h3 := (okd_parts h).2.2.1
  rw [List.getD_eq_getElem?_getD, List.getElem?_eq_getElem (by omega)]
  exact inr_mem h3 (List.getElem_mem _)
theorem okd_inD {k n : Int} {d : List Int} {P : List (List Int)} (hm : may k n d P = true) (hi : inf k.toNat n d (P.getD 0 []) (P.getD 1 []) = true) : okd (inD k.toNat n d (P.getD 0 []) (P.getD 1 [])) = true := by
  rw [may, Bool.and_eq_true] at hm
  obtain ⟨hf, hall⟩ := hm
  obtain ⟨hk, hc, hd, hn⟩ := frm_parts1 hf
  rw [List.all_eq_true] at hall
  have h0 : 1 ≤ P.length → okd (P.getD 0 []) = true := fun h => by
    rw [List.getD_eq_getElem?_getD, List.getElem?_eq_getElem (by omega)]
    exact hall _ (List.getElem_mem _)
  have h1 : 2 ≤ P.length → okd (P.getD 1 []) = true := fun h => by
    rw [List.getD_eq_getElem?_getD, List.getElem?_eq_getElem (by omega)]
    exact hall _ (List.getElem_mem _)
  generalize P.getD 0 [] = a at hi h0 ⊢
  generalize P.getD 1 [] = b at hi h1 ⊢
  have hk' : k = 1 ∨ k = 2 ∨ k = 3 ∨ k = 4 ∨ k = 5 ∨ k = 6 ∨ k = 7 ∨ k = 8 ∨ k = 9 ∨ k = 10 ∨ k = 11 ∨ k = 12 ∨ k = 13 ∨ k = 14 ∨ k = 15 ∨ k = 16 ∨ k = 17 := by omega
  rcases hk' with rfl | rfl | rfl | rfl | rfl | rfl | rfl | rfl | rfl | rfl | rfl | rfl | rfl | rfl | rfl | rfl | rfl
  · exact hd
  · exact hd
  · exact hd
  · exact h0 (by rw [hc]; decide)
  · exact h0 (by rw [hc]; decide)
  · exact h0 (by rw [hc]; decide)
  · exact h0 (by rw [hc]; decide)
  · exact h0 (by rw [hc]; decide)
  · have e := of_decide_eq_true (p := a.length = 2 ∧ b.length = 2 ∧ a.getD 1 0 = b.getD 0 0) hi
    exact okd_pair (okd_at2 (h0 (by rw [hc]; decide)) e.1 0 (by omega)) (okd_at2 (h1 (by rw [hc]; decide)) e.2.1 1 (by omega))
  · have e := of_decide_eq_true (p := a.length = 2) hi
    have ha := h0 (by rw [hc]; decide)
    exact okd_pair (okd_at2 ha e 1 (by omega)) (okd_at2 ha e 0 (by omega))
  · exact hd
  · exact hd
  · exact hd
  · exact h0 (by rw [hc]; decide)
  · have e := of_decide_eq_true (p := lastD a % n = 0) hi
    have ha := h0 (by rw [hc]; decide)
    have hn' := of_decide_eq_true (p := 1 ≤ n ∧ n ≤ 8) hn
    obtain ⟨m, hm⟩ : ∃ m : Nat, n = m := ⟨n.toNat, by omega⟩
    subst hm
    obtain ⟨_, _, _, h, _⟩ := few_mul (t := zT a) (n := m) (tok_zT ha) (by omega) e
    exact h
  · exact h0 (by rw [hc]; decide)
  · exact h0 (by rw [hc]; decide)
theorem nodeB_okd {L : List Nod} {i : Nat} {t : Nod} (h : nodeB L i t = true) : okd t.dims = true := by
  simp only [nodeB, Bool.and_eq_true, decide_eq_true_eq] at h
  obtain ⟨_, hm, hi, hd⟩ := h
  rw [hd]
  exact okd_inD hm hi
def inE (k n : Int) (d : List Int) (L : List Nod) (A : List Int) : Int := if argsB A L.length then diE k n d (dimsAt L A) else 1
def inR (k n : Int) (d : List Int) (L : List Nod) (A : List Int) : List Int := if argsB A L.length then diR k n d (dimsAt L A) else []
theorem inE_no {k n : Int} {d : List Int} {L : List Nod} {A : List Int} (h : argsB A L.length = false) : inE k n d L A = 1 ∧ inR k n d L A = [] := by
  rw [inE, inR, h]; exact ⟨rfl, rfl⟩
theorem inE_yes {k n : Int} {d : List Int} {L : List Nod} {A : List Int} (h : argsB A L.length = true) : inE k n d L A = diE k n d (dimsAt L A) ∧ inR k n d L A = diR k n d (dimsAt L A) := by
  rw [inE, inR, h]; exact ⟨rfl, rfl⟩
theorem nodeB_in {L : List Nod} {i : Nat} (hi : i ≤ L.length) (t : Nod) :
    nodeB L i t = (decide (inE t.kind t.n (askD t) (L.take i) t.args = 0) && decide (inR t.kind t.n (askD t) (L.take i) t.args = t.dims)) := by
  have hl : (L.take i).length = i := by rw [List.length_take]; omega
  cases ha : argsB t.args i with
  | false =>
    obtain ⟨e1, e2⟩ := inE_no (k := t.kind) (n := t.n) (d := askD t) (L := L.take i) (A := t.args) (by rw [hl]; exact ha)
    rw [e1, nodeB, ha]; rfl
  | true =>
    obtain ⟨e1, e2⟩ := inE_yes (k := t.kind) (n := t.n) (d := askD t) (L := L.take i) (A := t.args) (by rw [hl]; exact ha)
    rw [e1, e2, dimsAt_take (fun x hx => argsB_lt ha hx), nodeB, ha]
    by_cases hm : may t.kind t.n (askD t) (dimsAt L t.args) = true
    · obtain ⟨d1, d2⟩ := di_yes hm
      rw [d1, d2, hm]
      cases hi : inf t.kind.toNat t.n (askD t) ((dimsAt L t.args).getD 0 []) ((dimsAt L t.args).getD 1 []) with
      | false => simp
      | true =>
        simp only [Bool.true_and, if_true, decide_true]
        exact decide_eq_decide.2 ⟨fun h => h.symm, fun h => h.symm⟩
    · obtain ⟨d1, d2⟩ := di_no hm
      have hm' : may t.kind t.n (askD t) (dimsAt L t.args) = false := by simpa using hm
      rw [d1, hm']; rfl
/- A last one of one cell. -/
theorem foldl_one : ∀ (d : List Int) (a : Int), 1 ≤ a → (∀ x ∈ d, 1 ≤ x) → d.foldl (fun a x => a * x) a = 1 → a = 1 ∧ ∀ x ∈ d, x = 1
  | [], a, _, _, e => ⟨e, fun x hx => by simp at hx⟩
  | x :: d, a, ha, h, e => by
    have hx := h x (by simp)
    have h1 : a * 1 ≤ a * x := Int.mul_le_mul_of_nonneg_left hx (by omega)
    have h1' : 1 * x ≤ a * x := Int.mul_le_mul_of_nonneg_right ha (by omega)
    rw [List.foldl_cons] at e
    obtain ⟨h2, h3⟩ := foldl_one d (a * x) (by omega) (fun y hy => h y (by simp [hy])) e
    refine ⟨by omega, fun y hy => ?_⟩
    rcases List.mem_cons.1 hy with rfl | hy
    · omega
    · exact h3 y hy
theorem prd_one {d : List Int} (h : inr d = true) : prd d = 1 ↔ ∀ x ∈ d, x = 1 := by
  constructor
  · intro e
    exact (foldl_one d 1 (Int.le_refl _) (fun x hx => (inr_mem h hx).1) e).2
  · intro e
    have key : ∀ (d : List Int), (∀ x ∈ d, x = 1) → d.foldl (fun a x => a * x) 1 = 1 := by
      intro d
      induction d with
      | nil => intro _; rfl
      | cons x d ih =>
        intro h
        rw [List.foldl_cons, h x (by simp)]
        exact ih fun y hy => h y (by simp [hy])
    exact key d e
theorem foldl_max : ∀ (d : List Int) (a : Int), d.foldl max a = 1 → (∀ x ∈ d, 1 ≤ x) → 1 ≤ a → a = 1 ∧ ∀ x ∈ d, x = 1
  | [], a, e, _, _ => ⟨e, fun x hx => by simp at hx⟩
  | x :: d, a, e, h, ha => by
    rw [List.foldl_cons] at e
    have hx := h x (by simp)
    obtain ⟨h1, h2⟩ := foldl_max d (max a x) e (fun y hy => h y (by simp [hy])) (by omega)
    refine ⟨by omega, fun y hy => ?_⟩
    rcases List.mem_cons.1 hy with rfl | hy
    · omega
    · exact h2 y hy
theorem maxOf_prd {d : List Int} (h : okd d = true) : Lib.maxOf d = 1 ↔ prd d = 1 := by
  obtain ⟨hl, _, hi, _⟩ := okd_parts h
  rw [prd_one hi]
  constructor
  · intro e
    match d, hl with
    | x :: d, _ => exact (foldl_max (x :: d) x e (fun y hy => (inr_mem hi hy).1) (inr_mem hi (by simp)).1).2
  · intro e
    match d, hl with
    | x :: d, _ =>
      have hx := e x (by simp)
      have key : ∀ (d : List Int), (∀ x ∈ d, x = 1) → d.foldl max 1 = 1 := by
        intro d
        induction d with
        | nil => intro _; rfl
        | cons x d ih =>
          intro h
          rw [List.foldl_cons, h x (by simp)]
          exact ih fun y hy => h y (by simp [hy])
      show (x :: d).foldl max x = 1
      have := key (x :: d) e
      rw [hx] at this ⊢
      exact this
/- Names. -/
theorem nmd_le : ∀ (L : List Nod) (s : ByteArray) (k j : Nat) (h : j < L.length), L[j].name = s → nmdN L s k ≤ ((k + j : Nat) : Int)
  | t :: r, s, k, j, h, e => by
    rw [nmdN]
    split
    · omega
    · match j, h, e with
      | 0, h, e => rename_i hn; exact absurd e hn
      | j + 1, h, e =>
        have := nmd_le r s (k + 1) j (by simpa using h) (by simpa using e)
        omega
theorem nmd_eq : ∀ (L : List Nod) (s : ByteArray) (k j : Nat) (h : j < L.length), L[j].name = s → (∀ i (hi : i < j), ¬ (L[i]'(by omega)).name = s) → nmdN L s k = ((k + j : Nat) : Int)
  | t :: r, s, k, j, h, e, hf => by
    rw [nmdN]
    match j, h, e, hf with
    | 0, h, e, _ => rw [if_pos (show t.name = s from e)]; rfl
    | j + 1, h, e, hf =>
      rw [if_neg (show ¬ t.name = s from hf 0 (by omega))]
      have := nmd_eq r s (k + 1) j (by simpa using h) (by simpa using e) (fun i hi => by have := hf (i + 1) (by omega); simpa using this)
      rw [this]
      omega
theorem grpI_at' {L : List Nod} {i : Nat} (h : i < L.length) : grpI L i = (nameB L[i].name && decide (nmdN L L[i].name 0 = (i : Int)) && decide (L[i].kind ≤ 15) && (decide (-1073741824 ≤ L[i].n) && decide (L[i].n ≤ 1073741824))) := by
  rw [grpI, List.getElem?_eq_getElem h]
theorem grpB_not' {L : List Nod} {i : Nat} (h : i < L.length) (hi : grpI L i = false) : grpB L = false := by
  cases e : grpB L with
  | false => rfl
  | true =>
    simp only [grpB, Bool.and_eq_true, List.all_eq_true] at e
    have := e.1.2 i (List.mem_range.2 h)
    rw [hi] at this
    exact this.symm
theorem grp_kind {L : List Nod} {i : Nat} (h : i < L.length) (hk : 15 < L[i].kind) : grpB L = false := grpB_not' h (by rw [grpI_at' h, decide_eq_false (p := L[i].kind ≤ 15) (by omega)]; simp)
theorem grp_low {L : List Nod} {i : Nat} (h : i < L.length) (hk : L[i].n < -1073741824) : grpB L = false := grpB_not' h (by rw [grpI_at' h, decide_eq_false (p := -1073741824 ≤ L[i].n) (by omega)]; simp)
theorem grp_high {L : List Nod} {i : Nat} (h : i < L.length) (hk : 1073741824 < L[i].n) : grpB L = false := grpB_not' h (by rw [grpI_at' h, decide_eq_false (p := L[i].n ≤ 1073741824) (by omega)]; simp)
theorem grp_name {L : List Nod} {i : Nat} (h : i < L.length) (hk : nameB L[i].name = false) : grpB L = false := grpB_not' h (by rw [grpI_at' h, hk]; simp)
theorem grp_twice {L : List Nod} {i j : Nat} (h : i < L.length) (hj : j < i) (hk : (L[j]'(by omega)).name = L[i].name) : grpB L = false := grpB_not' h (by
  have := nmd_le L L[i].name 0 j (by omega) hk
  rw [grpI_at' h, decide_eq_false (p := nmdN L L[i].name 0 = (i : Int)) (by omega)]; simp)
theorem grpI_yes {L : List Nod} {i : Nat} (h : i < L.length) (h1 : ¬ 15 < L[i].kind) (h2 : ¬ L[i].n < -1073741824) (h3 : ¬ 1073741824 < L[i].n) (h4 : nameB L[i].name = true) (h5 : ∀ j (hj : j < i), ¬ (L[j]'(by omega)).name = L[i].name) : grpI L i = true := by
  have := nmd_eq L L[i].name 0 i h rfl h5
  rw [grpI_at' h, h4, decide_eq_true (p := nmdN L L[i].name 0 = (i : Int)) (by omega), decide_eq_true (p := L[i].kind ≤ 15) (by omega), decide_eq_true (p := -1073741824 ≤ L[i].n) (by omega), decide_eq_true (p := L[i].n ≤ 1073741824) (by omega)]
  rfl
/-- All but the last one's cells. -/
theorem grpB_last {L : List Nod} (h1 : 1 ≤ L.length) (h2 : L.length ≤ 24) (hn : nodesB L = true) (h : ∀ i, i < L.length → grpI L i = true) : grpB L = decide (prd (L[L.length - 1]'(by omega)).dims = 1) := by
  have ha : (List.range L.length).all (grpI L) = true := List.all_eq_true.2 fun i hi => h i (List.mem_range.1 hi)
  rw [grpB, decide_eq_true h1, decide_eq_true h2, hn, ha, List.getLast?_eq_getElem?, List.getElem?_eq_getElem (by omega)]
  rfl
theorem grpB_big {L : List Nod} (h : ¬ (1 ≤ L.length ∧ L.length ≤ 24)) : grpB L = false := by
  cases e : grpB L with
  | false => rfl
  | true =>
    simp only [grpB, Bool.and_eq_true, decide_eq_true_eq] at e
    exact absurd ⟨e.1.1.1.1, e.1.1.1.2⟩ h
theorem grpB_nodes {L : List Nod} (h : nodesB L = false) : grpB L = false := by
  cases e : grpB L with
  | false => rfl
  | true => rw [grp_nodes e] at h; exact h
theorem Ints.addr {w : World} {a : Option Addr} {n c : Nat} {D : List Int} (h : Ints w (.slice a n c) D) (h0 : 0 < D.length) : ∃ b off, a = some ⟨b, off, none⟩ ∧ n = D.length ∧ ∀ i (h : i < D.length), w.cell? ⟨b, off + i, none⟩ = some (.int .i64 D[i]) := by
  rcases h.cases with ⟨e, _⟩ | ⟨b, off, c', e, h1, h2, h3, h4⟩
  · rw [e] at h0; simp at h0
  · simp only [Value.slice.injEq] at e
    obtain ⟨rfl, rfl, rfl⟩ := e
    exact ⟨b, off, rfl, rfl, h4.out⟩
set_option maxHeartbeats 4000000 in
theorem sEq_any {v v' : Value} {a b : List Int} {w : World} (ha : Ints w v a) (hb : Ints w v' b) :
    Calls Tryz.prog 80 #[v, v'] w fun e w' => e = .returned (.bool (a == b)) ∧ ∃ n, w' = w.drewN n := by
  by_cases hl : a.length = b.length
  · have HL : Hid (a.length = b.length) := hl
    rcases ha.cases with ⟨rfl, a1, c1, rfl⟩ | ⟨b1, o1, c1, rfl, h0, h1, h2, h3⟩
    · rcases hb.cases with ⟨rfl, a2, c2, rfl⟩ | ⟨b2, o2, c2, rfl, h0, h1, h2, h3⟩
      · clear ha hb hl HL
        go_enter Tryz.func80, Tryz.ntmps80
        go_wp2
        refine wp_loop_rounds 1 ?_
        rw [rounds_succ]
        go_wp2
        go_ret
        exact ⟨rfl, 0, rfl⟩
      · simp only [List.length_nil] at hl; omega
    · rcases hb.cases with ⟨rfl, a2, c2, rfl⟩ | ⟨b2, o2, c2, rfl, h0', h1', h2', h3'⟩
      · simp only [List.length_nil] at hl; omega
      · clear ha hb
        have hlb : (b.length : Int) = a.length := by omega
        have hne : ((a.length : Int) != (b.length : Int)) = false := by simp [hl]
        unfold big at h2 h2'
        clear hl hlb
        go_enter Tryz.func80, Tryz.ntmps80
        go_wp2
        go_loopw [13] (fun i w' => ∃ k m : Nat, k ≤ a.length ∧ i = .int .i64 k ∧ w' = w.drewN m ∧ Hid (a.take k = b.take k)) (fun i _ => a.length - (intOf i).toNat)
        case atStart => exact ⟨0, 0, Nat.zero_le _, rfl, rfl, rfl⟩
        case round =>
          obtain ⟨k, m, hk, rfl, rfl, hpre⟩ := hrel
          by_cases hlt : k < a.length
          · have hlt' : k < b.length := by have := HL.out; omega
            have hx := h3.out k hlt
            have hy := h3'.out k hlt'
            have T1 : Hid (a.take (k + 1) = a.take k ++ [a[k]]) := take_snoc a k hlt
            have T2 : Hid (b.take (k + 1) = b.take k ++ [b[k]]) := take_snoc b k hlt'
            by_cases he : a[k] = b[k]
            · have he' : (a[k] != b[k]) = false := by simp [he]
              have HE : Hid (a[k] = b[k]) := he
              clear he
              go_wp2
              go_quiet (fail)
              go_wp2
              go_roundw
              case rel => exact ⟨k + 1, m + nq, by omega, by go_num, rfl, by show _ = _; rw [T1.out, T2.out, hpre.out, HE.out]⟩
              case measure => simp [intOf]; omega
            · have he' : (a[k] != b[k]) = true := by simp [he]
              have HN : Hid (¬ a = b) := fun e => he (by subst e; rfl)
              clear he
              go_wp2
              go_quiet (fail)
              go_wp2
              go_ret
              exact ⟨by rw [beq_eq_false_iff_ne.2 HN.out]; rfl, m + nq, by rw [World.drewN_drewN]⟩
          · have hk' : k = a.length := by omega
            have HE : Hid (a = b) := by
              have := hpre.out
              rw [List.take_of_length_le (by omega), List.take_of_length_le (by have := HL.out; omega)] at this
              exact this
            go_wp2
            go_ret
            exact ⟨by rw [HE.out, beq_self_eq_true]; rfl, _, rfl⟩
  · have HN : Hid (¬ a = b) := fun e => hl (by rw [e])
    have hne : ((a.length : Int) != (b.length : Int)) = true := by simp; omega
    rcases ha.cases with ⟨rfl, a1, c1, rfl⟩ | ⟨b1, o1, c1, rfl, h0, h1, h2, h3⟩
    · rcases hb.cases with ⟨rfl, a2, c2, rfl⟩ | ⟨b2, o2, c2, rfl, h0', h1', h2', h3'⟩
      · exact absurd rfl HN.out
      · clear ha hb hl
        go_enter Tryz.func80, Tryz.ntmps80
        go_wp2
        go_ret
        exact ⟨by rw [beq_eq_false_iff_ne.2 HN.out]; rfl, 0, rfl⟩
    · rcases hb.cases with ⟨rfl, a2, c2, rfl⟩ | ⟨b2, o2, c2, rfl, h0', h1', h2', h3'⟩
      · clear ha hb hl
        go_enter Tryz.func80, Tryz.ntmps80
        go_wp2
        go_ret
        exact ⟨by rw [beq_eq_false_iff_ne.2 HN.out]; rfl, 0, rfl⟩
      · clear ha hb hl
        go_enter Tryz.func80, Tryz.ntmps80
        go_wp2
        go_ret
        exact ⟨by rw [beq_eq_false_iff_ne.2 HN.out]; rfl, 0, rfl⟩
theorem sEq_to {v v' : Value} {a b : List Int} {w : World} (x : Bool) (ha : Ints w v a) (hb : Ints w v' b) (hx : (a == b) = x) :
    Calls Tryz.prog 80 #[v, v'] w fun e w' => e = .returned (.bool x) ∧ ∃ n, w' = w.drewN n := by
  subst hx
  exact sEq_any ha hb
theorem max8_to {v : Value} {A : List Int} {w : World} (hA : Ints w v A) (h1 : 1 ≤ A.length) :
    Calls Tryz.prog 55 #[v] w fun e w' => e = .returned (.int .i64 (Lib.maxOf A)) ∧ w' = w := by
  rcases hA.cases with ⟨rfl, a1, c1, rfl⟩ | ⟨b1, o1, c1, rfl, h0, h1', h2, h3⟩
  · simp at h1
  · have hb := h2
    unfold big at hb
    have := max_shelf b1 o1 A.length c1 A w (by omega) (Nat.le_refl _) (by omega) (fun j hj => by rw [List.getD_eq_getElem?_getD, List.getElem?_eq_getElem hj]; exact h3.out j hj)
    rw [List.take_length] at this
    exact this
/-- The runes of the kinds that name dims. -/
def nmR (j : Nat) : Nat := [1, 2, 3, 11, 12, 13].getD j 0
theorem nmR_dec : ∀ p, p < 6 → Utf8.decode ⟨#[1, 2, 3, 11, 12, 13]⟩ p = (nmR p, 1) ∧ nmR p ≤ 13 ∧ askI (nmR p : Int) = true := by decide +kernel
theorem nmR_none {k : Int} (h : ∀ j, j < 6 → ¬ k = (nmR j : Int)) : askI k = false := by
  have h0 := h 0 (by omega); have h1 := h 1 (by omega); have h2 := h 2 (by omega); have h3 := h 3 (by omega); have h4 := h 4 (by omega); have h5 := h 5 (by omega)
  simp only [nmR, List.getD_cons_zero, List.getD_cons_succ] at h0 h1 h2 h3 h4 h5
  simp only [askI, Bool.or_eq_false_iff, decide_eq_false_iff_not]
  omega
set_option maxHeartbeats 4000000 in
theorem asked8_any {s : ByteArray} {k n : Int} {x y : Value} {D : List Int} {w : World} (hy : Ints w y D) (hx : ∃ a n c, x = .slice a n c) (DD : List Int) (hDD : (if askI k then D else []) = DD) :
    Calls Tryz.prog 79 #[.agg #[.string s, .int .i64 k, x, y, .int .i64 n]] w fun e w' => ∃ v, e = .returned v ∧ Ints w' v DD ∧ Below w.heap.size w w' := by
  have HDD : Hid ((if askI k then D else []) = DD) := hDD
  have HY : Hid (Ints w y D) := hy
  obtain ⟨ya, yn, yc, rfl⟩ := hy.shape3
  obtain ⟨xa, xn, xc, rfl⟩ := hx
  obtain ⟨U, hU⟩ : ∃ U, U = w.alloc (.cells #[.string s, .int .i64 k, .slice xa xn xc, .slice ya yn yc, .int .i64 n] 55) := ⟨_, rfl⟩
  have HUU : Hid (U = w.alloc (.cells #[.string s, .int .i64 k, .slice xa xn xc, .slice ya yn yc, .int .i64 n] 55)) := hU
  have HB : Hid (Below w.heap.size w U) := by show Below _ _ _; rw [hU]; exact Below.push (Below.refl _ _) _
  have HSZ : Hid (U.heap.size = w.heap.size + 1) := by show _ = _; rw [hU]; simp
  have u1 : U.cell? ⟨w.heap.size, 1, none⟩ = some (.int .i64 k) := by rw [hU]; simp
  have u3 : U.cell? ⟨w.heap.size, 3, none⟩ = some (.slice ya yn yc) := by rw [hU]; simp
  have HI : Hid (∀ p, Below U.heap.size U (U.iter ⟨#[1, 2, 3, 11, 12, 13]⟩ p)) := fun p => (Below.refl _ _).alloc (Nat.le_refl _) _
  have c1 : ∀ p, (U.iter ⟨#[1, 2, 3, 11, 12, 13]⟩ p).cell? ⟨w.heap.size, 1, none⟩ = some (.int .i64 k) := fun p => cell_later (HI.out p) u1
  have c3 : ∀ p, (U.iter ⟨#[1, 2, 3, 11, 12, 13]⟩ p).cell? ⟨w.heap.size, 3, none⟩ = some (.slice ya yn yc) := fun p => cell_later (HI.out p) u3
  clear hy hU u1 u3 hDD
  go_enter Tryz.func79, Tryz.ntmps79
  go_wp2_with fail
  rw [← HUU.out]
  go_wp2_with fail
  go_loopw [4] (fun _ w' => ∃ p : Nat, p ≤ 6 ∧ w' = U.iter ⟨#[1, 2, 3, 11, 12, 13]⟩ p ∧ Hid (∀ j, j < p → ¬ k = (nmR j : Int))) (fun _ w' => 6 - w'.iterPos U.heap.size)
  case atStart => exact ⟨0, Nat.zero_le _, rfl, fun j hj => by omega⟩
  case round =>
    obtain ⟨p, hp, rfl, HF⟩ := hrel
    by_cases hlt : p < 6
    · obtain ⟨hd, h13, ha⟩ := nmR_dec p hlt
      have hnx : ∀ ty, (Instr.next (.pointer (some ⟨U.heap.size, 0, none⟩)) true ty).run Tryz.prog (U.iter ⟨#[1, 2, 3, 11, 12, 13]⟩ p) = _ := fun ty => run_next_any U ⟨#[1, 2, 3, 11, 12, 13]⟩ p ty hlt
      rw [hd, HSZ.out] at hnx
      simp only at hnx
      have HA : Hid (askI (nmR p : Int) = true) := ha
      have HR : Hid (∀ j, j < p + 1 → ¬ j = p → ¬ k = (nmR j : Int)) := fun j h1 h2 => HF.out j (by omega)
      obtain ⟨r, hr⟩ : ∃ r, nmR p = r := ⟨_, rfl⟩
      have HRR : Hid (nmR p = r) := hr
      rw [hr] at hnx h13
      have gw : IntKind.i64.wrap (r : Int) = (r : Int) := wrap_small _ (by omega) (by omega)
      clear hd ha hr
      by_cases e : k = (r : Int)
      · have HE : Hid (askI k = true) := by show _ = _; rw [e, ← HRR.out]; exact HA.out
        have hb : (k == (r : Int)) = true := by simpa using e
        clear e
        go_wp2
        go_ret
        refine ⟨_, rfl, ?_, Below.after HB.out (HI.out (p + 1))⟩
        have hv : DD = D := by rw [← HDD.out, HE.out]; rfl
        rw [hv]
        exact HY.out.later (Below.after HB.out (HI.out (p + 1)))
      · have HNE : Hid (¬ k = (nmR p : Int)) := by show ¬ _; rw [HRR.out]; exact e
        have hb : (k == (r : Int)) = false := by simpa using e
        clear e
        go_wp2
        go_roundw
        case rel => exact ⟨p + 1, by omega, rfl, fun j hj => by
          by_cases e : j = p
          · subst e; exact HNE.out
          · exact HR.out j hj e⟩
        case measure => simp; omega
    · have hnx : ∀ ty, (Instr.next (.pointer (some ⟨U.heap.size, 0, none⟩)) true ty).run Tryz.prog (U.iter ⟨#[1, 2, 3, 11, 12, 13]⟩ p) = _ := fun ty => run_next_end U ⟨#[1, 2, 3, 11, 12, 13]⟩ p ty hlt
      rw [HSZ.out] at hnx
      have HE : Hid (askI k = false) := nmR_none fun j hj => HF.out j (by omega)
      go_wp2
      go_ret
      refine ⟨_, rfl, ?_, Below.after HB.out (HI.out p)⟩
      have hv : DD = [] := by rw [← HDD.out, HE.out]; rfl
      rw [hv]
      exact Ints.nil _
theorem make_rows (n : Nat) (h : n ≤ 1000000000) :
    ∃ arr : Array Value, arr.size = n ∧ ∀ w : World, (Instr.makeSlice 40 (.int .i64 n) (.int .i64 n)).run Tryz.prog w = .ok (.slice (some ⟨w.heap.size, 0, none⟩) n n) (w.alloc (.cells arr 23)) := by
  obtain ⟨i, h1, h2, h3, h4⟩ := infoI
  have hs := size_madeCells (Value.cells (.slice none 0 0)) (n * i.size)
  refine ⟨_, hs.trans (by rw [h3]; omega), fun w => ?_⟩
  have := run_make (P := Tryz.prog) w 40 23 i (.slice none 0 0) Tryz.underlying40 h1 h2 .i64 .i64 n n (by omega) (by omega) (by rw [h4]; omega) (by omega)
  rw [Int.toNat_natCast] at this
  exact this
/-- The first k of the parts are laid. -/
structure PB (w0 w : World) (Z n k : Nat) (P : List (List Int)) : Prop where
  blk : ∃ arr : Array Value, w.heap[Z]? = some (.cells arr 23 (0, 0)) ∧ arr.size = n
  elt : ∀ i (h : i < P.length), i < k → ∃ x, w.cell? ⟨Z, i, none⟩ = some x ∧ Ints w0 x P[i]
theorem PB.cell {w0 w : World} {Z n k : Nat} {P : List (List Int)} (h : PB w0 w Z n k P) (j : Nat) (hj : j < n) : (∃ u, w.cell? ⟨Z, j, none⟩ = some u) ∧ w.frozen? ⟨Z, j, none⟩ = false := by
  obtain ⟨arr, ha, hs⟩ := h.blk
  refine ⟨⟨arr[j]'(by omega), ?_⟩, ?_⟩
  · rw [cell_of_row w Z j arr _ _ ha, Array.getElem?_eq_getElem (by omega)]
  · exact frozen_of_row w Z j arr _ ha
theorem PB.put {w0 w : World} {Z n k : Nat} {P : List (List Int)} {x : Value} (h : PB w0 w Z n k P) (hk : k < P.length) (hn : P.length = n) (ho : Ints w0 x P[k]) :
    PB w0 (w.setCell ⟨Z, k, none⟩ x) Z n (k + 1) P := by
  obtain ⟨arr, ha, hs⟩ := h.blk
  have e1 := heap_setCell_same w Z k arr 23 x ha
  refine ⟨⟨_, e1, by simp [hs]⟩, fun i h1 h2 => ?_⟩
  by_cases hi : i = k
  · subst hi
    refine ⟨x, ?_, ho⟩
    rw [cell_of_row _ Z _ _ _ _ e1]
    have q1 : i < arr.size := by omega
    simp [Array.getElem?_setIfInBounds, q1]
  · obtain ⟨x', c0, ho'⟩ := h.elt i h1 (by omega)
    refine ⟨x', ?_, ho'⟩
    rw [cell_of_row w Z _ _ _ _ ha] at c0
    rw [cell_of_row _ Z _ _ _ _ e1, Array.getElem?_setIfInBounds_ne (by omega)]
    exact c0
theorem PB.intsL {w0 w : World} {Z n : Nat} {P : List (List Int)} (h : PB w0 w Z n n P) (hn : P.length = n) (hb : n ≤ big) (hbel : Below w0.heap.size w0 w) : IntsL w (.slice (some ⟨Z, 0, none⟩) n n) P := by
  refine ⟨by rw [hn]; exact hb, _, n, by rw [hn], by omega, fun i hi => ?_⟩
  obtain ⟨x, c0, ho⟩ := h.elt i hi (by omega)
  exact ⟨Z, 0, x, rfl, by simpa using c0, ho.later hbel⟩
theorem argsB_none {A : List Int} {n : Nat} {k : Nat} (h : k < A.length) (hb : A[k] < 0 ∨ (n : Int) ≤ A[k]) : argsB A n = false := argsB_at h (by
  rcases hb with h | h
  · rw [decide_eq_false (p := 0 ≤ A[k]) (by omega)]; rfl
  · rw [decide_eq_false (p := A[k] ≤ (n : Int) - 1) (by omega), Bool.and_false])
theorem dimsAt_get {L : List Nod} {A : List Int} {k : Nat} (h : k < A.length) (m : Nat) (hm : m < L.length) (e : A[k] = (m : Int)) : (dimsAt L A)[k]'(by rw [dimsAt_len]; exact h) = L[m].dims := by
  simp [dimsAt, e, hm]
set_option maxHeartbeats 8000000 in
theorem made_any {vd v u : Value} {d A : List Int} {L : List Nod} {w : World} (k n : Int) (h : NodesL w v L) (hd : Ints w vd d) (hA : Ints w u A) (hlen : A.length ≤ 100000000) (E : Int) (R : List Int) (hE : inE k n d L A = E) (hR : inR k n d L A = R) :
    Calls Tryz.prog 78 #[.int .i64 k, .int .i64 n, vd, v, u] w fun e w' => ∃ x, e = .returned (.tuple #[x, .int .i64 E]) ∧ Own w' w.heap.size x R ∧ Below w.heap.size w w' := by
  have HN : Hid (NodesL w v L) := h
  have HA : Hid (Ints w u A) := hA
  have HD : Hid (Ints w vd d) := hd
  obtain ⟨va, vc, rfl, hc1, hc2⟩ := h.shape
  obtain ⟨da, dn, dc, rfl⟩ := hd.shape3
  obtain ⟨ua, uc, rfl⟩ := hA.shape
  unfold big at hc2
  obtain ⟨arr, harr, hmk⟩ := make_rows A.length (by omega)
  have HARR : Hid (arr.size = A.length) := harr
  have HE : Hid (inE k n d L A = E) := hE
  have HR : Hid (inR k n d L A = R) := hR
  clear h hd hA harr hE hR
  go_enter Tryz.func78, Tryz.ntmps78
  go_wp2_with fail
  refine wp_scope_jumps 0 (fun a' w' => (Below w.heap.size w w' ∧ argsB A L.length = false) ∧ ∃ (u0 u1 u2 u3 u4 u5 u6 u7 u8 u9 u10 u11 u12 u13 u14 u15 u16 u17 u18 u19 u20 u21 u22 u23 u24 u25 u26 u27 u28 u29 u30 u31 u32 u33 u34 u35 u36 u37 u38 u39 u40 u41 u42 u43 u44 u45 u46 u47 u48 : Value), a' = { tmps := #[u0, u1, u2, u3, u4, u5, u6, u7, u8, u9, u10, u11, u12, u13, u14, u15, u16, u17, u18, u19, u20, u21, u22, u23, u24, u25, u26, u27, u28, u29, u30, u31, u32, u33, u34, u35, u36, u37, u38, u39, u40, u41, u42, u43, u44, u45, u46, u47, u48], defers := [] }) (fun _ _ => 0) rfl ?_ ?_
  · go_wp2
    go_loopw [20] (fun i w' => ∃ j : Nat, j ≤ A.length ∧ i = .int .i64 j ∧ Hid (PB w w' w.heap.size A.length j (dimsAt L A)) ∧ Hid (∀ p (h : p < A.length), p < j → (decide (0 ≤ A[p]) && decide (A[p] ≤ (L.length : Int) - 1)) = true) ∧ Hid (Below w.heap.size w w')) (fun i _ => A.length - (intOf i).toNat)
    case atStart => exact ⟨0, Nat.zero_le _, rfl, ⟨⟨arr, heap_alloc_new w _, HARR.out⟩, fun p h1 h2 => by omega⟩, fun p h1 h2 => by omega, Below.push (Below.refl _ _) _⟩
    case round =>
      obtain ⟨j, hj, rfl, HPB, HF, HB⟩ := hrel
      by_cases hlt : j < A.length
      · obtain ⟨ub, uo, rfl, _, hcell⟩ := HA.out.addr (by omega)
        have hx := cell_later HB.out (hcell j hlt)
        obtain ⟨y, hy⟩ : ∃ y, A[j] = y := ⟨_, rfl⟩
        have HY : Hid (A[j] = y) := hy
        rw [hy] at hx
        have g1 : (j : Int) < A.length := by omega
        have g2 : (0 : Int) ≤ j := by omega
        clear hcell hy
        by_cases hy0 : y < 0
        · have HQ : Hid (argsB A L.length = false) := argsB_none hlt (Or.inl (by rw [HY.out]; exact hy0))
          go_wp2
          go_step3
          exact ⟨rfl, ⟨HB.out, HQ.out⟩, _, _, _, _, _, _, _, _, _, _, _, _, _, _, _, _, _, _, _, _, _, _, _, _, _, _, _, _, _, _, _, _, _, _, _, _, _, _, _, _, _, _, _, _, _, _, _, _, _, rfl⟩
        · by_cases hyL : (L.length : Int) ≤ y
          · have HQ : Hid (argsB A L.length = false) := argsB_none hlt (Or.inr (by rw [HY.out]; exact hyL))
            go_wp2
            go_step3
            exact ⟨rfl, ⟨HB.out, HQ.out⟩, _, _, _, _, _, _, _, _, _, _, _, _, _, _, _, _, _, _, _, _, _, _, _, _, _, _, _, _, _, _, _, _, _, _, _, _, _, _, _, _, _, _, _, _, _, _, _, _, _, rfl⟩
          · obtain ⟨m, hm⟩ : ∃ m : Nat, y = m := ⟨y.toNat, by omega⟩
            subst hm
            have hmL : m < L.length := by omega
            obtain ⟨b, off, y0, y1, rfl, hnd⟩ := (HN.out.later HB.out).row m hmL
            obtain ⟨b2, off2, y2, y3, eb, hnd2⟩ := HN.out.row m hmL
            simp only [Option.some.injEq, Addr.mk.injEq] at eb
            obtain ⟨rfl, rfl, _⟩ := eb
            have hd3 := hnd.c3
            have hd3' := cell_later HB.out hnd2.c3
            rw [hd3] at hd3'
            simp only [Option.some.injEq] at hd3'
            subst hd3'
            have HT : Hid (Ints w y1 L[m].dims) := hnd2.d
            obtain ⟨ya, yn, yc, rfl⟩ := hnd2.d.shape3
            obtain ⟨⟨z, hz⟩, hfz⟩ := HPB.out.cell j hlt
            have HDM : Hid ((dimsAt L A)[j]'(by rw [dimsAt_len]; exact hlt) = L[m].dims) := dimsAt_get hlt m hmL HY.out
            have HPB2 : Hid (PB w (wr.setCell ⟨w.heap.size, j, none⟩ (.slice ya yn yc)) w.heap.size A.length (j + 1) (dimsAt L A)) := HPB.out.put (by rw [dimsAt_len]; exact hlt) (dimsAt_len L A) (by rw [HDM.out]; exact HT.out)
            have HB2 : Hid (Below w.heap.size w (wr.setCell ⟨w.heap.size, j, none⟩ (.slice ya yn yc))) := HB.out.setCell (Nat.le_refl _) _
            have HF2 : Hid (∀ p (h : p < A.length), p < j + 1 → (decide (0 ≤ A[p]) && decide (A[p] ≤ (L.length : Int) - 1)) = true) := fun p h1 h2 => by
              by_cases e : p = j
              · subst e
                rw [HY.out, decide_eq_true (p := (0 : Int) ≤ (m : Int)) (by omega), decide_eq_true (p := (m : Int) ≤ (L.length : Int) - 1) (by omega)]
                rfl
              · exact HF.out p h1 (by omega)
            have g3 : (m : Int) < L.length := by omega
            have g4 : (0 : Int) ≤ m := by omega
            clear hnd hnd2 hy0 hyL
            go_wp2
            go_roundw
            case rel => exact ⟨j + 1, by omega, by go_num, HPB2.out, HF2.out, HB2.out⟩
            case measure => simp [intOf]; omega
      · have hj' : j = A.length := by omega
        subst hj'
        have HQ : Hid (argsB A L.length = true) := argsB_all (fun p h => HF.out p h h)
        have HLL : Hid (IntsL wr (.slice (some ⟨w.heap.size, 0, none⟩) A.length A.length) (dimsAt L A)) := HPB.out.intsL (dimsAt_len L A) (by unfold big; omega) HB.out
        have HE2 : Hid (diE k n d (dimsAt L A) = E) := by show _ = _; rw [← HE.out, (inE_yes HQ.out).1]
        have HR2 : Hid (diR k n d (dimsAt L A) = R) := by show _ = _; rw [← HR.out, (inE_yes HQ.out).2]
        go_wp2_with fail
        refine (dims_at k n (HD.out.later HB.out) HLL.out).mono ?_
        rw [HE2.out, HR2.out]
        rintro e w2 ⟨x2, rfl, ho, hb2⟩
        have HO2 : Hid (Own w2 w.heap.size x2 R) := ho.mono HB.out.size
        have HB3 : Hid (Below w.heap.size w w2) := Below.after HB.out hb2
        obtain ⟨s7, n7, c7, rfl⟩ := ho.ints.shape3
        clear ho hb2
        go_wp2
        rw [jump_ret]
        go_ret2
        exact ⟨_, rfl, HO2.out, HB3.out⟩
  · rintro a w' ⟨⟨hbj, hq⟩, u0, u1, u2, u3, u4, u5, u6, u7, u8, u9, u10, u11, u12, u13, u14, u15, u16, u17, u18, u19, u20, u21, u22, u23, u24, u25, u26, u27, u28, u29, u30, u31, u32, u33, u34, u35, u36, u37, u38, u39, u40, u41, u42, u43, u44, u45, u46, u47, u48, rfl⟩
    have HBJ : Hid (Below w.heap.size w w') := hbj
    have HER : Hid (E = 1 ∧ R = []) := by show _ ∧ _; rw [← HE.out, ← HR.out]; exact inE_no hq
    clear hbj hq
    go_wp2
    rw [jump_ret]
    go_ret2
    exact ⟨_, by rw [HER.out.1]; rfl, by rw [HER.out.2]; exact Own.nil _ _, HBJ.out⟩
set_option maxHeartbeats 8000000 in
theorem nodes8_any {v : Value} {L : List Nod} {w : World} (h : NodesL w v L) (hs : Small L) (q : Bool) (hq : nodesB L = q) :
    Calls Tryz.prog 53 #[v] w fun e w' => e = .returned (.int .i64 (if q then 0 else 1)) ∧ Below w.heap.size w w' := by
  have HN : Hid (NodesL w v L) := h
  have HS : Hid (Small L) := hs
  have HQ : Hid (nodesB L = q) := hq
  obtain ⟨va, vc, rfl, hc1, hc2⟩ := h.shape
  unfold big at hc2
  clear h hs hq
  go_enter Tryz.func53, Tryz.ntmps53
  go_wp2_with fail
  refine wp_scope_jumps 0 (fun a' w' => (Below w.heap.size w w' ∧ q = false) ∧ ∃ (u0 u1 u2 u3 u4 u5 u6 u7 u8 u9 u10 u11 u12 u13 u14 u15 u16 u17 u18 u19 u20 u21 u22 u23 u24 u25 u26 u27 u28 u29 u30 u31 u32 u33 u34 u35 u36 u37 u38 u39 u40 u41 : Value), a' = { tmps := #[u0, u1, u2, u3, u4, u5, u6, u7, u8, u9, u10, u11, u12, u13, u14, u15, u16, u17, u18, u19, u20, u21, u22, u23, u24, u25, u26, u27, u28, u29, u30, u31, u32, u33, u34, u35, u36, u37, u38, u39, u40, u41], defers := [] }) (fun _ _ => 0) rfl ?_ ?_
  · by_cases h240 : 240 < L.length
    · have g1 : (240 : Int) < (L.length : Int) := by omega
      have HQ2 : Hid (q = false) := by show _ = _; rw [← HQ.out, nodesB, decide_eq_false (by omega)]; rfl
      go_wp2
      go_step3
      exact ⟨rfl, ⟨Below.refl _ _, HQ2.out⟩, _, _, _, _, _, _, _, _, _, _, _, _, _, _, _, _, _, _, _, _, _, _, _, _, _, _, _, _, _, _, _, _, _, _, _, _, _, _, _, _, _, _, rfl⟩
    · have g1 : ¬ (240 : Int) < (L.length : Int) := by omega
      have HQ2 : Hid (nodesN L L.length = q) := by show _ = _; rw [← HQ.out, nodesB, decide_eq_true (by omega), Bool.true_and]
      go_wp2
      go_loopw [12] (fun i w' => ∃ k : Nat, k ≤ L.length ∧ i = .int .i64 k ∧ Hid (nodesN L k = true) ∧ Hid (Below w.heap.size w w')) (fun i _ => L.length - (intOf i).toNat)
      case atStart => exact ⟨0, Nat.zero_le _, rfl, rfl, Below.refl _ _⟩
      case round =>
        obtain ⟨k, hk, rfl, HP, HB⟩ := hrel
        by_cases hlt : k < L.length
        · have HK : Hid (L[k].args.length ≤ 100000000) := by have := HS.out.a k hlt; show _ ≤ _; omega
          obtain ⟨b, off, x, y, rfl, hnd⟩ := (HN.out.later HB.out).row k hlt
          obtain ⟨t, ht⟩ : ∃ t, L[k] = t := ⟨_, rfl⟩
          have HNB : Hid (nodeB L k t = (decide (inE t.kind t.n (askD t) (L.take k) t.args = 0) && decide (inR t.kind t.n (askD t) (L.take k) t.args = t.dims))) := nodeB_in (by omega) t
          have HST : Hid (nodesN L (k + 1) = (nodesN L k && nodeB L k t)) := by show _ = _; rw [nodesN_step hlt, ht]
          have HNT : Hid (NodesL wr (.slice (some ⟨b, off, none⟩) k vc) (L.take k)) := (HN.out.later HB.out).take k (by omega)
          rw [ht] at hnd HK
          obtain ⟨nm, kd, ar, ds, n⟩ := t
          obtain ⟨c0, c1, c2, c3, c4, ha, hd, hz⟩ := hnd
          simp only at c0 c1 c2 c3 c4 ha hd hz
          have HA : Hid (Ints wr x ar) := ha
          have HD : Hid (Ints wr y ds) := hd
          obtain ⟨xa, xn, xc, rfl⟩ := ha.shape3
          obtain ⟨ya, yn, yc, rfl⟩ := hd.shape3
          have g2 : (k : Int) < L.length := by omega
          clear ha hd hz ht
          have HKA : Hid (ar.length ≤ 100000000) := HK.out
          obtain ⟨V, hV⟩ : ∃ V, V = wr.alloc (.cells #[.string nm, .int .i64 kd, .slice xa xn xc, .slice ya yn yc, .int .i64 n] 55) := ⟨_, rfl⟩
          have HVV : Hid (V = wr.alloc (.cells #[.string nm, .int .i64 kd, .slice xa xn xc, .slice ya yn yc, .int .i64 n] 55)) := hV
          have HPV : Hid (Below wr.heap.size wr V) := by show Below _ _ _; rw [hV]; exact Below.push (Below.refl _ _) _
          have v0 : V.cell? ⟨wr.heap.size, 0, none⟩ = some (.string nm) := by rw [hV]; simp
          have v1 : V.cell? ⟨wr.heap.size, 1, none⟩ = some (.int .i64 kd) := by rw [hV]; simp
          have v2 : V.cell? ⟨wr.heap.size, 2, none⟩ = some (.slice xa xn xc) := by rw [hV]; simp
          have v3 : V.cell? ⟨wr.heap.size, 3, none⟩ = some (.slice ya yn yc) := by rw [hV]; simp
          have v4 : V.cell? ⟨wr.heap.size, 4, none⟩ = some (.int .i64 n) := by rw [hV]; simp
          have g3 : (k : Int) ≤ vc := by omega
          have g4 : (0 : Int) ≤ k := by omega
          have HAV : Hid (Ints V (.slice xa xn xc) ar) := HA.out.later HPV.out
          have HDV : Hid (Ints V (.slice ya yn yc) ds) := HD.out.later HPV.out
          have HNV : Hid (NodesL V (.slice (some ⟨b, off, none⟩) k vc) (L.take k)) := HNT.out.later HPV.out
          obtain ⟨DD, hDD⟩ : ∃ DD, (if askI kd then ds else []) = DD := ⟨_, rfl⟩
          have HDD : Hid ((if askI kd then ds else []) = DD) := hDD
          obtain ⟨E, hE⟩ : ∃ E, inE kd n DD (L.take k) ar = E := ⟨_, rfl⟩
          have HE : Hid (inE kd n DD (L.take k) ar = E) := hE
          obtain ⟨R, hR⟩ : ∃ R, inR kd n DD (L.take k) ar = R := ⟨_, rfl⟩
          have HR : Hid (inR kd n DD (L.take k) ar = R) := hR
          have HNB2 : Hid (nodeB L k ⟨nm, kd, ar, ds, n⟩ = (decide (E = 0) && decide (R = ds))) := by
            have h := HNB.out
            show _ = _
            rw [h, ← hE, ← hR, ← hDD]
            rfl
          clear hV hDD hE hR
          go_wp2_with fail
          rw [← HVV.out]
          go_region_held3 (fun w' => w'.cell? ⟨wr.heap.size, 0, none⟩ = some (.string nm) ∧ w'.cell? ⟨wr.heap.size, 1, none⟩ = some (.int .i64 kd) ∧ w'.cell? ⟨wr.heap.size, 2, none⟩ = some (.slice xa xn xc) ∧ w'.cell? ⟨wr.heap.size, 3, none⟩ = some (.slice ya yn yc) ∧ w'.cell? ⟨wr.heap.size, 4, none⟩ = some (.int .i64 n)) (first | assumption | go_keep)
            (first
              | (go_at_call 79; refine (asked8_any (D := ds) ?_ ⟨xa, xn, xc, rfl⟩ DD HDD.out).mono ?_; exact HDV.out.later (Below.refl _ _).drew; rintro r w2 ⟨vd, rfl, hd2, hb2⟩; obtain ⟨da, dn, dc, rfl⟩ := hd2.shape3; have HD2 : Hid (Ints w2 (.slice da dn dc) DD) := hd2; have HB2 : Hid (Below V.heap.size V w2) := Below.after (Below.refl _ _).drew hb2; have a_0 := cell_later HB2.out v0; have a_1 := cell_later HB2.out v1; have a_2 := cell_later HB2.out v2; have a_3 := cell_later HB2.out v3; have a_4 := cell_later HB2.out v4; clear hb2 hd2)
              | (go_at_call 78; refine (made_any (L := L.take k) (A := ar) (d := DD) kd n ?_ ?_ ?_ HKA.out E R HE.out HR.out).mono ?_; exact HNV.out.later HB2.out; exact HD2.out; exact HAV.out.later HB2.out; rintro r w3 ⟨vr, rfl, ho, hb3⟩; obtain ⟨ra, rn, rc, rfl⟩ := ho.ints.shape3; have HR3 : Hid (Ints w3 (.slice ra rn rc) R) := ho.ints; have HB3 : Hid (Below V.heap.size V w3) := Below.after HB2.out hb3; have b_0 := cell_later HB3.out v0; have b_1 := cell_later HB3.out v1; have b_2 := cell_later HB3.out v2; have b_3 := cell_later HB3.out v3; have b_4 := cell_later HB3.out v4; clear hb3 ho))
          have HBX : Hid (Below w.heap.size w w3) := Below.after (Below.after HB.out HPV.out) HB3.out
          have HD3 : Hid (Ints w3 (.slice ya yn yc) ds) := HDV.out.later HB3.out
          clear a_0 a_1 a_2 a_3 a_4 v0 v1 v2 v3 v4 c0 c1 c2 c3 c4
          by_cases hE0 : E = 0
          · subst hE0
            cases hx : (R == ds) with
            | false =>
              have HX : Hid ((R == ds) = false) := hx
              have HQ3 : Hid (q = false) := by
                have hne : ¬ R = ds := by simpa using hx
                show _ = _
                rw [← HQ2.out]
                exact nodesN_not (k := k + 1) (by rw [HST.out, HNB2.out, decide_eq_false hne, Bool.and_false, Bool.and_false]) _ (by omega)
              clear hx
              go_wp2_with (go_at_call 80; refine (sEq_to false HR3.out HD3.out HX.out).mono ?_; rintro e w4 ⟨rfl, m4, rfl⟩)
              go_step3
              exact ⟨rfl, ⟨Below.drewN HBX.out _, HQ3.out⟩, _, _, _, _, _, _, _, _, _, _, _, _, _, _, _, _, _, _, _, _, _, _, _, _, _, _, _, _, _, _, _, _, _, _, _, _, _, _, _, _, _, _, rfl⟩
            | true =>
              have HX : Hid ((R == ds) = true) := hx
              have HP2 : Hid (nodesN L (k + 1) = true) := by
                have he : R = ds := by simpa using hx
                show _ = _
                rw [HST.out, HNB2.out, decide_eq_true he, HP.out]
                rfl
              clear hx
              go_wp2_with (go_at_call 80; refine (sEq_to true HR3.out HD3.out HX.out).mono ?_; rintro e w4 ⟨rfl, m4, rfl⟩)
              go_roundw
              case rel => exact ⟨k + 1, by omega, by go_num, HP2.out, Below.drewN HBX.out _⟩
              case measure => simp [intOf]; omega
          · have hb : (E != 0) = true := by rw [bne_iff_ne]; exact hE0
            have HQ3 : Hid (q = false) := by
              show _ = _
              rw [← HQ2.out]
              exact nodesN_not (k := k + 1) (by rw [HST.out, HNB2.out, decide_eq_false hE0, Bool.false_and, Bool.and_false]) _ (by omega)
            clear hE0
            go_wp2
            go_step3
            exact ⟨rfl, ⟨HBX.out, HQ3.out⟩, _, _, _, _, _, _, _, _, _, _, _, _, _, _, _, _, _, _, _, _, _, _, _, _, _, _, _, _, _, _, _, _, _, _, _, _, _, _, _, _, _, _, rfl⟩
        · obtain rfl : k = L.length := by omega
          have HQ3 : Hid (q = true) := by show _ = _; rw [← HQ2.out]; exact HP.out
          go_wp2
          rw [jump_ret]
          go_ret
          exact ⟨by rw [HQ3.out]; rfl, HB.out⟩
  · rintro a w' ⟨⟨hbj, hq⟩, u0, u1, u2, u3, u4, u5, u6, u7, u8, u9, u10, u11, u12, u13, u14, u15, u16, u17, u18, u19, u20, u21, u22, u23, u24, u25, u26, u27, u28, u29, u30, u31, u32, u33, u34, u35, u36, u37, u38, u39, u40, u41, rfl⟩
    have HBJ : Hid (Below w.heap.size w w') := hbj
    clear hbj
    subst hq
    go_wp2
    rw [jump_ret]
    go_ret
    exact ⟨rfl, HBJ.out⟩
theorem str_ne {a b : ByteArray} (h : ¬ a = b) : (a.toList == b.toList) = false := by
  rw [beq_eq_false_iff_ne]
  intro e
  rw [Lib.toList_data, Lib.toList_data] at e
  exact h (by cases a; cases b; simp only [ByteArray.mk.injEq]; exact Array.toList_inj.1 e)
end Go.Proofs.YtkojdigaoihkpaaGreatDoor

end
section
namespace Go.Proofs.YtkojdigaoihkpaaGreatDoor
set_option linter.unusedVariables false
set_option linter.unusedSimpArgs false
set_option maxRecDepth 100000
open Go.ChangeShapes Go.WideShapes Go.ChangeAt Go.RowKit Go.Lib

open Go.RowKit Go.Lib in
def Tryz.lays260_ren : Go.Shelf.Ren := ⟨fun | 260 => 81 | n => n, fun | 9 => 9 | 21 => 21 | 3 => 3 | 4 => 4 | 5 => 5 | 119 => 137 | 0 => 0 | 46 => 57 | 139 => 140 | 138 => 139 | n => n, fun | 3 => 0 | 4 => 1 | n => n⟩
theorem Tryz.lays260 : Go.Proofs.Lays.n260 Tryz.prog Tryz.lays260_ren := {
  mixed := by kernel_rfl
  f260 := Tryz.func81.trans (congrArg some (by kernel_rfl))
  t0 := Tryz.underlying0
  a0 := Tryz.isAgg0
  z0 := Tryz.sizeOf0
  v0 := Tryz.zeroValue0
  t3 := Tryz.underlying3
  a3 := Tryz.isAgg3
  z3 := Tryz.sizeOf3
  v3 := Tryz.zeroValue3
  t4 := Tryz.underlying4
  a4 := Tryz.isAgg4
  z4 := Tryz.sizeOf4
  v4 := Tryz.zeroValue4
  t5 := Tryz.underlying5
  a5 := Tryz.isAgg5
  z5 := Tryz.sizeOf5
  v5 := Tryz.zeroValue5
  t9 := Tryz.underlying9
  a9 := Tryz.isAgg9
  z9 := Tryz.sizeOf9
  v9 := Tryz.zeroValue9
  t21 := Tryz.underlying21
  a21 := Tryz.isAgg21
  z21 := Tryz.sizeOf21
  v21 := Tryz.zeroValue21
  t46 := Tryz.underlying57
  a46 := Tryz.isAgg57
  z46 := Tryz.sizeOf57
  v46 := Tryz.zeroValue57
  t119 := Tryz.underlying137
  a119 := Tryz.isAgg137
  z119 := Tryz.sizeOf137
  t138 := Tryz.underlying139
  a138 := Tryz.isAgg139
  z138 := Tryz.sizeOf139
  v138 := Tryz.zeroValue139
  t139 := Tryz.underlying140
  a139 := Tryz.isAgg140
  z139 := Tryz.sizeOf140
  v139 := Tryz.zeroValue140
  g3 := by kernel_rfl
  g4 := by kernel_rfl }
theorem u8x : U8Extra Tryz.prog Tryz.lays260_ren := ⟨by kernel_rfl, by kernel_rfl, by kernel_rfl, by kernel_rfl, by kernel_rfl, by kernel_rfl, by kernel_rfl⟩
theorem utf_met {W : World} (h : VarReads Tryz.prog W "unicode/utf8.first" Rows.laid_unicode_utf8_first) (h2 : VarReads Tryz.prog W "unicode/utf8.acceptRanges" Rows.laid_unicode_utf8_acceptRanges) : Lib.Utf8Tabs 0 1 W := by
  have h' : VarReads Tryz.prog W "unicode/utf8.first" firstData := by
    have e : Rows.laid_unicode_utf8_first = firstData := Pinned.utf8First_eq
    rw [e] at h
    exact h
  exact utf8Tabs_of_reads Tryz.lays260 u8x h' h2
/-- What a listed table is, cell by cell. -/
def litV {H : Type} : DataW H → List Value
  | .lit (.int k z) => [.int k z]
  | .agg l => l.flatMap fun x => match x with
    | .lit (.int k z) => [.int k z]
    | _ => []
  | _ => []
def cellsV {H : Type} : DataW H → Array Value
  | .agg l => (l.flatMap litV).toArray
  | _ => #[]
def putV (c : Array Value) : Obj → Obj
  | .cells _ t frozen => .cells c t frozen
  | o => o
noncomputable def laidWorld (os : Os) : World :=
  { World.holding Tryz.prog os ⟨#[], #[], []⟩ with heap := (((World.holding Tryz.prog os ⟨#[], #[], []⟩).heap.modify 1 (putV (cellsV (H := Unit) Rows.laid_unicode_utf8_acceptRanges))).modify 0 (putV (cellsV (H := Unit) Rows.laid_unicode_utf8_first))) }
end Go.Proofs.YtkojdigaoihkpaaGreatDoor

end
section
namespace Go.Proofs.YtkojdigaoihkpaaGreatDoor
set_option linter.unusedVariables false
set_option linter.unusedSimpArgs false
set_option maxRecDepth 100000
open Go.RowKit

set_option maxHeartbeats 16000000 in
theorem check8_any {v : Value} {L : List Nod} {w : World} (h : NodesL w v L) (hs : Small L) (q : Bool) (hq : grpB L = q) :
    Calls Tryz.prog 28 #[v] w fun e w' => e = .returned (.int .i64 (if q then 0 else 1)) ∧ Below w.heap.size w w' := by
  have HN : Hid (NodesL w v L) := h
  have HS : Hid (Small L) := hs
  have HQ : Hid (grpB L = q) := hq
  obtain ⟨va, vc, rfl, hc1, hc2⟩ := h.shape
  have hLn := hs.n
  unfold big at hc2
  clear h hs hq
  go_enter Tryz.func28, Tryz.ntmps28
  go_wp2_with fail
  refine wp_scope_jumps 0 (fun a' w' => (Below w.heap.size w w' ∧ q = false) ∧ ∃ (u0 u1 u2 u3 u4 u5 u6 u7 u8 u9 u10 u11 u12 u13 u14 u15 u16 u17 u18 u19 u20 u21 u22 u23 u24 u25 u26 u27 u28 u29 u30 u31 u32 u33 u34 u35 u36 u37 u38 u39 u40 u41 u42 u43 u44 u45 u46 u47 u48 u49 u50 u51 u52 u53 u54 u55 u56 u57 u58 u59 u60 u61 u62 u63 u64 u65 u66 u67 u68 u69 : Value), a' = { tmps := #[u0, u1, u2, u3, u4, u5, u6, u7, u8, u9, u10, u11, u12, u13, u14, u15, u16, u17, u18, u19, u20, u21, u22, u23, u24, u25, u26, u27, u28, u29, u30, u31, u32, u33, u34, u35, u36, u37, u38, u39, u40, u41, u42, u43, u44, u45, u46, u47, u48, u49, u50, u51, u52, u53, u54, u55, u56, u57, u58, u59, u60, u61, u62, u63, u64, u65, u66, u67, u68, u69], defers := [] }) (fun _ _ => 0) rfl ?_ ?_
  · have gw : IntKind.i64.wrap ((L.length : Int) - 1) = (L.length : Int) - 1 := by simp [IntKind.wrap, IntKind.signed, IntKind.bits]; omega
    by_cases hl0 : L.length = 0
    · have g0 : (L.length : Int) - 1 < 0 := by omega
      have HQ2 : Hid (q = false) := by show _ = _; rw [← HQ.out]; exact grpB_big (by omega)
      go_wp2
      go_step3
      exact ⟨rfl, ⟨Below.refl _ _, HQ2.out⟩, _, _, _, _, _, _, _, _, _, _, _, _, _, _, _, _, _, _, _, _, _, _, _, _, _, _, _, _, _, _, _, _, _, _, _, _, _, _, _, _, _, _, _, _, _, _, _, _, _, _, _, _, _, _, _, _, _, _, _, _, _, _, _, _, _, _, _, _, _, _, rfl⟩
    · by_cases hl24 : 24 < L.length
      · have g0 : ¬ (L.length : Int) - 1 < 0 := by omega
        have g1 : (24 : Int) ≤ (L.length : Int) - 1 := by omega
        have HQ2 : Hid (q = false) := by show _ = _; rw [← HQ.out]; exact grpB_big (by omega)
        go_wp2
        go_step3
        exact ⟨rfl, ⟨Below.refl _ _, HQ2.out⟩, _, _, _, _, _, _, _, _, _, _, _, _, _, _, _, _, _, _, _, _, _, _, _, _, _, _, _, _, _, _, _, _, _, _, _, _, _, _, _, _, _, _, _, _, _, _, _, _, _, _, _, _, _, _, _, _, _, _, _, _, _, _, _, _, _, _, _, _, _, _, rfl⟩
      · have g0 : ¬ (L.length : Int) - 1 < 0 := by omega
        have g1 : ¬ (24 : Int) ≤ (L.length : Int) - 1 := by omega
        have HL1 : Hid (1 ≤ L.length ∧ L.length ≤ 24) := by show _ ∧ _; omega
        cases hn : nodesB L with
        | false =>
          have HNB : Hid (nodesB L = false) := hn
          have HQ2 : Hid (q = false) := by show _ = _; rw [← HQ.out]; exact grpB_nodes hn
          clear hn
          go_wp2_with (go_at_call 53; refine (nodes8_any HN.out HS.out false HNB.out).mono ?_; rintro e w2 ⟨rfl, hb2⟩; have HB2 : Hid (Below w.heap.size w w2) := hb2; clear hb2)
          go_step3
          exact ⟨rfl, ⟨HB2.out, HQ2.out⟩, _, _, _, _, _, _, _, _, _, _, _, _, _, _, _, _, _, _, _, _, _, _, _, _, _, _, _, _, _, _, _, _, _, _, _, _, _, _, _, _, _, _, _, _, _, _, _, _, _, _, _, _, _, _, _, _, _, _, _, _, _, _, _, _, _, _, _, _, _, _, rfl⟩
        | true =>
          have HNB : Hid (nodesB L = true) := hn
          clear hn
          go_wp2_with (go_at_call 53; refine (nodes8_any HN.out HS.out true HNB.out).mono ?_; rintro e w2 ⟨rfl, hb2⟩; have HB2 : Hid (Below w.heap.size w w2) := hb2; clear hb2)
          go_loopw [24] (fun i w' => ∃ k : Nat, k ≤ L.length ∧ i = .int .i64 k ∧ Hid (∀ j (h : j < L.length), j < k → grpI L j = true) ∧ Hid (Below w.heap.size w w')) (fun i _ => L.length - (intOf i).toNat)
          case atStart => exact ⟨0, Nat.zero_le _, rfl, fun j h1 h2 => by omega, HB2.out⟩
          case round =>
            obtain ⟨k, hk, rfl, HF, HB⟩ := hrel
            by_cases hlt : k < L.length
            · obtain ⟨b, off, x, y, rfl, hnd⟩ := (HN.out.later HB.out).row k hlt
              obtain ⟨t, ht⟩ : ∃ t, L[k] = t := ⟨_, rfl⟩
              have HLT : Hid (L[k] = t) := ht
              rw [ht] at hnd
              obtain ⟨nm, kd, ar, ds, n⟩ := t
              obtain ⟨c0, c1, c2, c3, c4, ha, hd, hz⟩ := hnd
              simp only at c0 c1 c2 c3 c4 ha hd hz
              obtain ⟨xa, xn, xc, rfl⟩ := ha.shape3
              obtain ⟨ya, yn, yc, rfl⟩ := hd.shape3
              obtain ⟨V, hV⟩ : ∃ V, V = wr.alloc (.cells #[.string nm, .int .i64 kd, .slice xa xn xc, .slice ya yn yc, .int .i64 n] 55) := ⟨_, rfl⟩
              have HVV : Hid (V = wr.alloc (.cells #[.string nm, .int .i64 kd, .slice xa xn xc, .slice ya yn yc, .int .i64 n] 55)) := hV
              have HBV : Hid (Below w.heap.size w V) := by show Below _ _ _; rw [hV]; exact Below.push HB.out _
              have v0 : V.cell? ⟨wr.heap.size, 0, none⟩ = some (.string nm) := by rw [hV]; simp
              have v1 : V.cell? ⟨wr.heap.size, 1, none⟩ = some (.int .i64 kd) := by rw [hV]; simp
              have v4 : V.cell? ⟨wr.heap.size, 4, none⟩ = some (.int .i64 n) := by rw [hV]; simp
              have gk : (k : Int) < L.length := by omega
              have gk0 : (0 : Int) ≤ k := by omega
              have gkc : (k : Int) ≤ vc := by omega
              clear ha hd hz ht hV
              by_cases hk15 : 15 < kd
              · have HQ2 : Hid (q = false) := by show _ = _; rw [← HQ.out]; exact grp_kind hlt (by rw [HLT.out]; exact hk15)
                go_upto_region 6 with fail
                rw [← HVV.out]
                go_wp2
                go_step3
                exact ⟨rfl, ⟨HBV.out, HQ2.out⟩, _, _, _, _, _, _, _, _, _, _, _, _, _, _, _, _, _, _, _, _, _, _, _, _, _, _, _, _, _, _, _, _, _, _, _, _, _, _, _, _, _, _, _, _, _, _, _, _, _, _, _, _, _, _, _, _, _, _, _, _, _, _, _, _, _, _, _, _, _, _, rfl⟩
              · by_cases hlo : n < -1073741824
                · have HQ2 : Hid (q = false) := by show _ = _; rw [← HQ.out]; exact grp_low hlt (by rw [HLT.out]; exact hlo)
                  go_upto_region 6 with fail
                  rw [← HVV.out]
                  go_wp2
                  go_step3
                  exact ⟨rfl, ⟨HBV.out, HQ2.out⟩, _, _, _, _, _, _, _, _, _, _, _, _, _, _, _, _, _, _, _, _, _, _, _, _, _, _, _, _, _, _, _, _, _, _, _, _, _, _, _, _, _, _, _, _, _, _, _, _, _, _, _, _, _, _, _, _, _, _, _, _, _, _, _, _, _, _, _, _, _, _, rfl⟩
                · by_cases hhi : 1073741824 < n
                  · have HQ2 : Hid (q = false) := by show _ = _; rw [← HQ.out]; exact grp_high hlt (by rw [HLT.out]; exact hhi)
                    go_upto_region 6 with fail
                    rw [← HVV.out]
                    go_wp2
                    go_step3
                    exact ⟨rfl, ⟨HBV.out, HQ2.out⟩, _, _, _, _, _, _, _, _, _, _, _, _, _, _, _, _, _, _, _, _, _, _, _, _, _, _, _, _, _, _, _, _, _, _, _, _, _, _, _, _, _, _, _, _, _, _, _, _, _, _, _, _, _, _, _, _, _, _, _, _, _, _, _, _, _, _, _, _, _, _, rfl⟩
                  · cases hnb : nameB nm with
                    | false =>
                      have HNM : Hid (nameB nm = false) := hnb
                      have HQ2 : Hid (q = false) := by show _ = _; rw [← HQ.out]; exact grp_name hlt (by rw [HLT.out]; exact hnb)
                      clear hnb
                      go_upto_region 6 with fail
                      rw [← HVV.out]
                      go_wp2_with (go_at_call 54; refine (name_to nm _ false HNM.out).mono ?_; rintro e w3 ⟨rfl, hb3⟩; have HB3 : Hid (Below w.heap.size w w3) := Below.after HBV.out hb3; clear hb3)
                      go_step3
                      exact ⟨rfl, ⟨HB3.out, HQ2.out⟩, _, _, _, _, _, _, _, _, _, _, _, _, _, _, _, _, _, _, _, _, _, _, _, _, _, _, _, _, _, _, _, _, _, _, _, _, _, _, _, _, _, _, _, _, _, _, _, _, _, _, _, _, _, _, _, _, _, _, _, _, _, _, _, _, _, _, _, _, _, _, rfl⟩
                    | true =>
                      have HNM : Hid (nameB nm = true) := hnb
                      clear hnb
                      go_upto_region 6 with fail
                      rw [← HVV.out]
                      go_wp2_with (go_at_call 54; refine (name_to nm _ true HNM.out).mono ?_; rintro e w3 ⟨rfl, hb3⟩; have HB3 : Hid (Below V.heap.size V w3) := hb3; clear hb3)
                      have V0 : Hid (V.cell? ⟨wr.heap.size, 0, none⟩ = some (.string nm)) := v0
                      have HG : Hid (¬ 15 < kd ∧ ¬ n < -1073741824 ∧ ¬ 1073741824 < n) := ⟨by omega, by omega, by omega⟩
                      clear v0 v1 v4 c0 c1 c2 c3 c4 hk15 hlo hhi
                      go_loopw [52] (fun i w' => ∃ p : Nat, p ≤ k ∧ i = .int .i64 p ∧ Hid (∀ j (h : j < L.length), j < p → ¬ L[j].name = nm) ∧ Hid (Below V.heap.size V w')) (fun i _ => k - (intOf i).toNat)
                      case atStart => exact ⟨0, Nat.zero_le _, rfl, fun j h1 h2 => by omega, HB3.out⟩
                      case round =>
                        obtain ⟨p, hp, rfl, HFP, HBP⟩ := hrel
                        by_cases hpk : p < k
                        · obtain ⟨b2, off2, x2, y2, eb, hnd⟩ := (HN.out.later (Below.after HBV.out HBP.out)).row p (by omega)
                          simp only [Option.some.injEq, Addr.mk.injEq] at eb
                          obtain ⟨rfl, rfl, _⟩ := eb
                          obtain ⟨t2, ht2⟩ : ∃ t, L[p]'(by omega) = t := ⟨_, rfl⟩
                          have HLT2 : Hid (L[p]'(by omega) = t2) := ht2
                          rw [ht2] at hnd
                          obtain ⟨nm2, kd2, ar2, ds2, n2⟩ := t2
                          obtain ⟨c0, c1, c2, c3, c4, ha, hd, hz⟩ := hnd
                          simp only at c0 c1 c2 c3 c4 ha hd hz
                          obtain ⟨za, zn, zc, rfl⟩ := ha.shape3
                          obtain ⟨ta, tn, tc, rfl⟩ := hd.shape3
                          have gp : (p : Int) < k := by omega
                          have hv0 := cell_later HBP.out V0.out
                          have hv0' := cell_later (Below.push (Below.refl _ _) (.cells #[.string nm2, .int .i64 kd2, .slice za zn zc, .slice ta tn tc, .int .i64 n2] 55)) hv0
                          clear ha hd hz ht2
                          by_cases e : nm2 = nm
                          · have HQ2 : Hid (q = false) := by show _ = _; rw [← HQ.out]; exact grp_twice hlt hpk (by rw [HLT2.out, HLT.out]; exact e)
                            have hb : (nm2.toList == nm.toList) = true := by rw [e]; simp
                            clear e
                            go_wp2
                            go_step3
                            exact ⟨rfl, ⟨Below.push (Below.after HBV.out HBP.out) _, HQ2.out⟩, _, _, _, _, _, _, _, _, _, _, _, _, _, _, _, _, _, _, _, _, _, _, _, _, _, _, _, _, _, _, _, _, _, _, _, _, _, _, _, _, _, _, _, _, _, _, _, _, _, _, _, _, _, _, _, _, _, _, _, _, _, _, _, _, _, _, _, _, _, _, rfl⟩
                          · have HFP2 : Hid (∀ j (h : j < L.length), j < p + 1 → ¬ L[j].name = nm) := fun j h1 h2 => by
                              by_cases ej : j = p
                              · subst ej; rw [HLT2.out]; exact e
                              · exact HFP.out j h1 (by omega)
                            have hb := str_ne e
                            clear e
                            go_wp2
                            go_roundw
                            case rel => exact ⟨p + 1, by omega, by go_num, HFP2.out, Below.push HBP.out _⟩
                            case measure => simp [intOf]; omega
                        · have hpk' : p = k := by omega
                          subst hpk'
                          have HGK : Hid (grpI L p = true) := by
                            obtain ⟨h1, h2, h3⟩ := HG.out
                            have hl := HLT.out
                            exact grpI_yes hlt (by rw [hl]; exact h1) (by rw [hl]; exact h2) (by rw [hl]; exact h3) (by rw [hl]; exact HNM.out) (fun j hj => by rw [hl]; exact HFP.out j (by omega) hj)
                          go_wp2
                          go_roundw
                          case rel => exact ⟨p + 1, by omega, by go_num, fun j h1 h2 => by
                            by_cases e : j = p
                            · subst e; exact HGK.out
                            · exact HF.out j h1 (by omega), Below.after HBV.out HBP.out⟩
                          case measure => simp [intOf]; omega
            · obtain rfl : k = L.length := by omega
              obtain ⟨hl1, hl2⟩ := HL1.out
              have HGL := grpB_last hl1 hl2 HNB.out (fun i hi => HF.out i hi hi)
              have HGL2 : Hid (grpB L = decide (prd (L[L.length - 1]'(by omega)).dims = 1)) := HGL
              have hok := nodeB_okd (nodesB_at HNB.out (L.length - 1) (by omega))
              obtain ⟨b, off, x, y, rfl, hnd⟩ := (HN.out.later HB.out).row (L.length - 1) (by omega)
              generalize L[L.length - 1]'(by omega) = t at HGL2 hok hnd
              obtain ⟨m, hm⟩ : ∃ m : Nat, L.length - 1 = m := ⟨_, rfl⟩
              rw [hm] at hnd
              have gm : (L.length : Int) - 1 = (m : Int) := by omega
              have d3 := hnd.c3
              have HD : Hid (Ints wr y t.dims) := hnd.d
              have HM : Hid (Lib.maxOf t.dims = 1 ↔ prd t.dims = 1) := maxOf_prd hok
              have HLD : Hid (1 ≤ t.dims.length) := (okd_parts hok).1
              obtain ⟨ya, yn, yc, rfl⟩ := hnd.d.shape3
              obtain ⟨mx, hmx⟩ : ∃ mx, Lib.maxOf t.dims = mx := ⟨_, rfl⟩
              have HMX : Hid (Lib.maxOf t.dims = mx) := hmx
              have gm1 : (m : Int) < L.length := by omega
              have gm0 : (0 : Int) ≤ m := by omega
              clear HGL hok hnd hmx
              by_cases e1 : mx = 1
              · have HQ2 : Hid (q = true) := by
                  show _ = _
                  rw [← HQ.out, HGL2.out]
                  exact decide_eq_true (HM.out.1 (HMX.out.trans e1))
                have hb : (mx != 1) = false := by rw [e1]; rfl
                clear e1
                go_wp2_with (go_at_call 55; refine (max8_to HD.out HLD.out).mono ?_; rw [HMX.out]; rintro e w4 ⟨rfl, rfl⟩)
                rw [jump_ret]
                go_ret
                exact ⟨by rw [HQ2.out]; rfl, HB.out⟩
              · have HQ2 : Hid (q = false) := by
                  show _ = _
                  rw [← HQ.out, HGL2.out]
                  exact decide_eq_false fun h => e1 (by rw [← HMX.out]; exact HM.out.2 h)
                have hb : (mx != 1) = true := by rw [bne_iff_ne]; exact e1
                clear e1
                go_wp2_with (go_at_call 55; refine (max8_to HD.out HLD.out).mono ?_; rw [HMX.out]; rintro e w4 ⟨rfl, rfl⟩)
                go_step3
                exact ⟨rfl, ⟨HB.out, HQ2.out⟩, _, _, _, _, _, _, _, _, _, _, _, _, _, _, _, _, _, _, _, _, _, _, _, _, _, _, _, _, _, _, _, _, _, _, _, _, _, _, _, _, _, _, _, _, _, _, _, _, _, _, _, _, _, _, _, _, _, _, _, _, _, _, _, _, _, _, _, _, _, _, rfl⟩
  · rintro a w' ⟨⟨hbj, hq⟩, u0, u1, u2, u3, u4, u5, u6, u7, u8, u9, u10, u11, u12, u13, u14, u15, u16, u17, u18, u19, u20, u21, u22, u23, u24, u25, u26, u27, u28, u29, u30, u31, u32, u33, u34, u35, u36, u37, u38, u39, u40, u41, u42, u43, u44, u45, u46, u47, u48, u49, u50, u51, u52, u53, u54, u55, u56, u57, u58, u59, u60, u61, u62, u63, u64, u65, u66, u67, u68, u69, rfl⟩
    have HBJ : Hid (Below w.heap.size w w') := hbj
    clear hbj
    subst hq
    go_wp2
    rw [jump_ret]
    go_ret
    exact ⟨rfl, HBJ.out⟩
end Go.Proofs.YtkojdigaoihkpaaGreatDoor

end
