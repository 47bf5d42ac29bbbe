/- Contracts: num, Num, Between, EqNumbers, Wider (the program's, the page's). -/
import Derived.Test.YtgedknmjenbacaaW1
namespace Go.Proofs.Ytgedknmjenbacaa
set_option linter.unusedVariables false
open Go.RowKit

set_option maxHeartbeats 400000 in
theorem num_any (x : Int) (w : World) :
    Calls Try.prog 11 #[.int .i64 x] w fun e w' => e = .returned (.int .i64 x) ∧ w = w' := by
  go_enter Try.func11, Try.ntmps11
  go_wp2
  go_ret
  exact ⟨rfl, rfl⟩

set_option maxHeartbeats 400000 in
theorem eqn_any {v v' : Value} {a b : List Int} {w : World} (ha : Ints w v a) (hb : Ints w v' b) :
    Calls Try.prog 24 #[v, v'] w fun e w' => e = .returned (.bool (a == b)) ∧ ∃ n, w' = w.drewN n := by
  by_cases hl : a.length = b.length
  · have HL : Hid (a.length = b.length) := hl
    rcases ha.cases with ⟨rfl, a1, c1, rfl⟩ | ⟨b1, o1, c1, rfl, h0, h1, h2, h3⟩
    · rcases hb.cases with ⟨rfl, a2, c2, rfl⟩ | ⟨b2, o2, c2, rfl, h0, h1, h2, h3⟩
      · clear ha hb hl HL
        go_enter Try.func24, Try.ntmps24
        go_wp2
        refine wp_loop_rounds 1 ?_
        rw [rounds_succ]
        go_wp2
        go_ret
        exact ⟨rfl, 0, rfl⟩
      · simp only [List.length_nil] at hl; omega
    · rcases hb.cases with ⟨rfl, a2, c2, rfl⟩ | ⟨b2, o2, c2, rfl, h0', h1', h2', h3'⟩
      · simp only [List.length_nil] at hl; omega
      · clear ha hb
        have hlb : (b.length : Int) = a.length := by omega
        have hne : ((a.length : Int) != (b.length : Int)) = false := by simp [hl]
        unfold big at h2 h2'
        clear hl hlb
        go_enter Try.func24, Try.ntmps24
        go_wp2
        go_loopw [5] (fun i w' => ∃ k m : Nat, k ≤ a.length ∧ i = .int .i64 k ∧ w' = w.drewN m ∧ Hid (a.take k = b.take k)) (fun i _ => a.length - (intOf i).toNat)
        case atStart => exact ⟨0, 0, Nat.zero_le _, rfl, rfl, rfl⟩
        case round =>
          obtain ⟨k, m, hk, rfl, rfl, hpre⟩ := hrel
          by_cases hlt : k < a.length
          · have hlt' : k < b.length := by have := HL.out; omega
            have hx := h3.out k hlt
            have hy := h3'.out k hlt'
            have T1 : Hid (a.take (k + 1) = a.take k ++ [a[k]]) := take_snoc a k hlt
            have T2 : Hid (b.take (k + 1) = b.take k ++ [b[k]]) := take_snoc b k hlt'
            by_cases he : a[k] = b[k]
            · have he' : (a[k] != b[k]) = false := by simp [he]
              have HE : Hid (a[k] = b[k]) := he
              clear he
              go_wp2
              go_quiet (fail)
              go_wp2
              go_roundw
              case rel => exact ⟨k + 1, m + nq, by omega, by go_num, rfl, by show _ = _; rw [T1.out, T2.out, hpre.out, HE.out]⟩
              case measure => simp [intOf]; omega
            · have he' : (a[k] != b[k]) = true := by simp [he]
              have HN : Hid (¬ a = b) := fun e => he (by subst e; rfl)
              clear he
              go_wp2
              go_quiet (fail)
              go_wp2
              go_ret
              exact ⟨by rw [beq_eq_false_iff_ne.2 HN.out]; rfl, m + nq, by rw [World.drewN_drewN]⟩
          · have hk' : k = a.length := by omega
            have HE : Hid (a = b) := by
              have := hpre.out
              rw [List.take_of_length_le (by omega), List.take_of_length_le (by have := HL.out; omega)] at this
              exact this
            go_wp2
            go_ret
            exact ⟨by rw [HE.out, beq_self_eq_true]; rfl, _, rfl⟩
  · have HN : Hid (¬ a = b) := fun e => hl (by rw [e])
    have hne : ((a.length : Int) != (b.length : Int)) = true := by simp; omega
    rcases ha.cases with ⟨rfl, a1, c1, rfl⟩ | ⟨b1, o1, c1, rfl, h0, h1, h2, h3⟩
    · rcases hb.cases with ⟨rfl, a2, c2, rfl⟩ | ⟨b2, o2, c2, rfl, h0', h1', h2', h3'⟩
      · exact absurd rfl HN.out
      · clear ha hb hl
        go_enter Try.func24, Try.ntmps24
        go_wp2
        go_ret
        exact ⟨by rw [beq_eq_false_iff_ne.2 HN.out]; rfl, 0, rfl⟩
    · rcases hb.cases with ⟨rfl, a2, c2, rfl⟩ | ⟨b2, o2, c2, rfl, h0', h1', h2', h3'⟩
      · clear ha hb hl
        go_enter Try.func24, Try.ntmps24
        go_wp2
        go_ret
        exact ⟨by rw [beq_eq_false_iff_ne.2 HN.out]; rfl, 0, rfl⟩
      · clear ha hb hl
        go_enter Try.func24, Try.ntmps24
        go_wp2
        go_ret
        exact ⟨by rw [beq_eq_false_iff_ne.2 HN.out]; rfl, 0, rfl⟩

def widAt (x y : Int) : Bool := x == y || x == 1
def wid (a b : List Int) : Bool := a.length == b.length && (a.zip b).all fun p => widAt p.1 p.2
theorem wid_len {a b : List Int} (h : ¬ a.length = b.length) : wid a b = false := by simp [wid, h]
theorem wid_bad {a b : List Int} (k : Nat) (h1 : k < a.length) (h2 : k < b.length) (h : widAt a[k] b[k] = false) : wid a b = false := by
  cases e : wid a b with
  | false => rfl
  | true =>
    simp only [wid, Bool.and_eq_true, List.all_eq_true] at e
    have := e.2 (a[k], b[k]) (by
      rw [List.mem_iff_getElem]
      exact ⟨k, by simp; omega, by simp⟩)
    rw [h] at this
    exact this.symm
theorem wid_ok {a b : List Int} (hl : a.length = b.length) (h : ∀ k (h1 : k < a.length) (h2 : k < b.length), widAt a[k] b[k] = true) : wid a b = true := by
  simp only [wid, hl, beq_self_eq_true, Bool.true_and, List.all_eq_true]
  intro p hp
  rw [List.mem_iff_getElem] at hp
  obtain ⟨k, hk, rfl⟩ := hp
  simp at hk
  simpa using h k (by omega) (by omega)
def wdr (a b : List Int) : Int := if okd a && okd b then (if wid a b then 0 else 4) else 1

set_option maxHeartbeats 400000 in
theorem wider_bad {v v' : Value} {a b : List Int} {w : World} (ha : Ints w v a) (hb : Ints w v' b) (h : (okd a && okd b) = false) :
    Calls Try.prog 37 #[v, v'] w fun e w' => e = .returned (.int .i64 1) ∧ w = w' := by
  have HA : Hid (Ints w v a) := ha
  have HB : Hid (Ints w v' b) := hb
  clear ha hb
  cases ea : okd a with
  | false =>
    have H : Hid (okd a = false) := ea
    clear h ea
    go_enter Try.func37, Try.ntmps37
    go_wp2
    go_step3
    go_wp2_with (go_at_call 51; refine (check_any HA.out).mono ?_; rw [erf_bad H.out]; rintro e w' ⟨rfl, rfl⟩)
    try rw [Exit.noGoto_ret]
    go_ret
    exact ⟨rfl, rfl⟩
  | true =>
    have H : Hid (okd a = true) := ea
    have H2 : Hid (okd b = false) := by rw [ea] at h; show _ = _; simpa using h
    clear h ea
    go_enter Try.func37, Try.ntmps37
    go_wp2
    go_step3
    go_wp2_with fail
    refine (check_any HA.out).mono ?_
    rw [erf_ok H.out]
    rintro e w' ⟨rfl, rfl⟩
    go_wp2_with fail
    refine (check_any HB.out).mono ?_
    rw [erf_bad H2.out]
    rintro e w' ⟨rfl, rfl⟩
    go_wp2
    try rw [Exit.noGoto_ret]
    go_ret
    exact ⟨rfl, rfl⟩

set_option maxHeartbeats 400000 in
theorem wider_ok {v v' : Value} {a b : List Int} {w : World} (ha : Ints w v a) (hb : Ints w v' b) (oa : okd a = true) (ob : okd b = true) :
    Calls Try.prog 37 #[v, v'] w fun e w' => e = .returned (.int .i64 (if wid a b then 0 else 4)) ∧ w = w' := by
  have HA : Hid (Ints w v a) := ha
  have HB : Hid (Ints w v' b) := hb
  obtain ⟨la1, la2, _, _⟩ := okd_parts oa
  obtain ⟨lb1, lb2, _, _⟩ := okd_parts ob
  have OA : Hid (okd a = true) := oa
  have OB : Hid (okd b = true) := ob
  rcases ha.cases with ⟨rfl, a1, c1, rfl⟩ | ⟨b1, o1, c1, rfl, h0, h1, h2, h3⟩
  · simp only [List.length_nil] at la1; omega
  rcases hb.cases with ⟨rfl, a2, c2, rfl⟩ | ⟨b2, o2, c2, rfl, h0', h1', h2', h3'⟩
  · simp only [List.length_nil] at lb1; omega
  clear ha hb oa ob h2 h2' h0 h0'
  go_enter Try.func37, Try.ntmps37
  go_wp2
  refine wp_scope_jumps 0 (fun a' w' => (w' = w ∧ Hid (wid a b = false)) ∧ ∃ (u0 u1 u2 u3 u4 u5 u6 u7 u8 u9 u10 u11 u12 u13 u14 u15 u16 u17 u18 u19 u20 u21 u22 u23 u24 u25 u26 u27 u28 u29 u30 u31 u32 u33 u34 u35 u36 u37 : Value), a' = { tmps := #[u0, u1, u2, u3, u4, u5, u6, u7, u8, u9, u10, u11, u12, u13, u14, u15, u16, u17, u18, u19, u20, u21, u22, u23, u24, u25, u26, u27, u28, u29, u30, u31, u32, u33, u34, u35, u36, u37], defers := [] }) (fun _ _ => 0) rfl ?_ ?_
  · go_wp2_with fail
    refine (check_any HA.out).mono ?_
    rw [erf_ok OA.out]
    rintro e w' ⟨rfl, rfl⟩
    go_wp2_with fail
    refine (check_any HB.out).mono ?_
    rw [erf_ok OB.out]
    rintro e w' ⟨rfl, rfl⟩
    by_cases hl : a.length = b.length
    · have HL : Hid (a.length = b.length) := hl
      have hne : ((a.length : Int) != (b.length : Int)) = false := by simp [hl]
      clear hl
      go_wp2
      go_loop [22] (fun i => ∃ k : Nat, k ≤ a.length ∧ i = .int .i64 k ∧ Hid (∀ j (h1 : j < a.length) (h2 : j < b.length), j < k → widAt a[j] b[j] = true)) (fun i => a.length - (intOf i).toNat)
      case atStart => exact ⟨0, Nat.zero_le _, rfl, fun j h1 h2 h3 => by omega⟩
      case round =>
        obtain ⟨k, hk, rfl, hpre⟩ := hrel
        by_cases hlt : k < a.length
        · have hlt' : k < b.length := by have := HL.out; omega
          have hx := h3.out k hlt
          have hy := h3'.out k hlt'
          by_cases he : a[k] = b[k]
          · have he' : (a[k] != b[k]) = false := by simp [he]
            have HE : Hid (widAt a[k] b[k] = true) := by show _ = _; simp [widAt, he]
            clear he
            go_wp2
            refine ⟨⟨k + 1, by omega, by go_num, fun j h1 h2 h3 => ?_⟩, by simp [intOf]; omega⟩
            by_cases hj : j = k
            · subst hj; exact HE.out
            · exact hpre.out j h1 h2 (by omega)
          · have he' : (a[k] != b[k]) = true := by simp [he]
            by_cases h1 : a[k] = 1
            · have h1' : (a[k] != 1) = false := by simp [h1]
              have HE : Hid (widAt a[k] b[k] = true) := by show _ = _; simp [widAt, h1]
              clear he h1
              go_wp2
              refine ⟨⟨k + 1, by omega, by go_num, fun j h1 h2 h3 => ?_⟩, by simp [intOf]; omega⟩
              by_cases hj : j = k
              · subst hj; exact HE.out
              · exact hpre.out j h1 h2 (by omega)
            · have h1' : (a[k] != 1) = true := by simp [h1]
              have HE : Hid (wid a b = false) := wid_bad k hlt hlt' (by simp [widAt, h1, he])
              clear he h1
              go_wp2
              go_step3
              exact ⟨rfl, ⟨rfl, HE⟩, _, _, _, _, _, _, _, _, _, _, _, _, _, _, _, _, _, _, _, _, _, _, _, _, _, _, _, _, _, _, _, _, _, _, _, _, _, _, rfl⟩
        · have hk' : k = a.length := by omega
          have HE : Hid (wid a b = true) := wid_ok HL.out fun j h1 h2 => hpre.out j h1 h2 (by omega)
          clear hk'
          go_wp2
          rw [jump_ret]
          go_ret
          exact ⟨by rw [HE.out]; rfl, rfl⟩
    · have hne : ((a.length : Int) != (b.length : Int)) = true := by simp; omega
      have HE : Hid (wid a b = false) := wid_len hl
      clear hl
      go_wp2
      go_step3
      exact ⟨rfl, ⟨rfl, HE⟩, _, _, _, _, _, _, _, _, _, _, _, _, _, _, _, _, _, _, _, _, _, _, _, _, _, _, _, _, _, _, _, _, _, _, _, _, _, _, rfl⟩
  · rintro a w' ⟨⟨rfl, hbad⟩, u0, u1, u2, u3, u4, u5, u6, u7, u8, u9, u10, u11, u12, u13, u14, u15, u16, u17, u18, u19, u20, u21, u22, u23, u24, u25, u26, u27, u28, u29, u30, u31, u32, u33, u34, u35, u36, u37, rfl⟩
    go_wp2
    rw [jump_ret]
    go_ret
    exact ⟨by rw [hbad.out]; rfl, rfl⟩

set_option maxHeartbeats 400000 in
theorem rwider_any {v v' : Value} {a b : List Int} {w : World} (ha : Ints w v a) (hb : Ints w v' b) :
    Calls Try.prog 21 #[v, v'] w fun e w' => e = .returned (.bool (wid a b)) ∧ ∃ n, w' = w.drewN n := by
  by_cases hl : a.length = b.length
  · have HL : Hid (a.length = b.length) := hl
    rcases ha.cases with ⟨rfl, a1, c1, rfl⟩ | ⟨b1, o1, c1, rfl, h0, h1, h2, h3⟩
    · rcases hb.cases with ⟨rfl, a2, c2, rfl⟩ | ⟨b2, o2, c2, rfl, h0, h1, h2, h3⟩
      · clear ha hb hl HL
        go_enter Try.func21, Try.ntmps21
        go_wp2
        refine wp_loop_rounds 1 ?_
        rw [rounds_succ]
        go_wp2
        go_ret
        exact ⟨rfl, 0, rfl⟩
      · simp only [List.length_nil] at hl; omega
    · rcases hb.cases with ⟨rfl, a2, c2, rfl⟩ | ⟨b2, o2, c2, rfl, h0', h1', h2', h3'⟩
      · simp only [List.length_nil] at hl; omega
      · clear ha hb
        have hne : ((a.length : Int) != (b.length : Int)) = false := by simp [hl]
        unfold big at h2 h2'
        clear hl
        go_enter Try.func21, Try.ntmps21
        go_wp2
        go_loopw [5] (fun i w' => ∃ k m : Nat, k ≤ a.length ∧ i = .int .i64 k ∧ w' = w.drewN m ∧ Hid (∀ j (h1 : j < a.length) (h2 : j < b.length), j < k → widAt a[j] b[j] = true)) (fun i _ => a.length - (intOf i).toNat)
        case atStart => exact ⟨0, 0, Nat.zero_le _, rfl, rfl, fun j h1 h2 h3 => by omega⟩
        case round =>
          obtain ⟨k, m, hk, rfl, rfl, hpre⟩ := hrel
          by_cases hlt : k < a.length
          · have hlt' : k < b.length := by have := HL.out; omega
            have hx := h3.out k hlt
            have hy := h3'.out k hlt'
            by_cases he : a[k] = b[k]
            · have he' : (a[k] != b[k]) = false := by simp [he]
              have HE : Hid (widAt a[k] b[k] = true) := by show _ = _; simp [widAt, he]
              clear he
              go_wp2
              go_quiet (fail)
              go_wp2
              go_roundw
              case rel =>
                refine ⟨k + 1, m + nq, by omega, by go_num, rfl, fun j h1 h2 h3 => ?_⟩
                by_cases hj : j = k
                · subst hj; exact HE.out
                · exact hpre.out j h1 h2 (by omega)
              case measure => simp [intOf]; omega
            · have he' : (a[k] != b[k]) = true := by simp [he]
              by_cases h1 : a[k] = 1
              · have h1' : (a[k] != 1) = false := by simp [h1]
                have HE : Hid (widAt a[k] b[k] = true) := by show _ = _; simp [widAt, h1]
                clear he h1
                go_wp2
                go_quiet (fail)
                go_wp2
                go_roundw
                case rel =>
                  refine ⟨k + 1, m + nq, by omega, by go_num, rfl, fun j h1 h2 h3 => ?_⟩
                  by_cases hj : j = k
                  · subst hj; exact HE.out
                  · exact hpre.out j h1 h2 (by omega)
                case measure => simp [intOf]; omega
              · have h1' : (a[k] != 1) = true := by simp [h1]
                have HE : Hid (wid a b = false) := wid_bad k hlt hlt' (by simp [widAt, h1, he])
                clear he h1
                go_wp2
                go_quiet (fail)
                go_wp2
                go_ret
                exact ⟨by rw [HE.out]; rfl, m + nq, by rw [World.drewN_drewN]⟩
          · have hk' : k = a.length := by omega
            have HE : Hid (wid a b = true) := wid_ok HL.out fun j h1 h2 => hpre.out j h1 h2 (by omega)
            clear hk'
            go_wp2
            go_ret
            exact ⟨by rw [HE.out]; rfl, _, rfl⟩
  · have HE : Hid (wid a b = false) := wid_len hl
    have hne : ((a.length : Int) != (b.length : Int)) = true := by simp; omega
    rcases ha.cases with ⟨rfl, a1, c1, rfl⟩ | ⟨b1, o1, c1, rfl, h0, h1, h2, h3⟩
    · rcases hb.cases with ⟨rfl, a2, c2, rfl⟩ | ⟨b2, o2, c2, rfl, h0', h1', h2', h3'⟩
      · exact absurd rfl hl
      · clear ha hb hl
        go_enter Try.func21, Try.ntmps21
        go_wp2
        go_ret
        exact ⟨by rw [HE.out]; rfl, 0, rfl⟩
    · rcases hb.cases with ⟨rfl, a2, c2, rfl⟩ | ⟨b2, o2, c2, rfl, h0', h1', h2', h3'⟩
      · clear ha hb hl
        go_enter Try.func21, Try.ntmps21
        go_wp2
        go_ret
        exact ⟨by rw [HE.out]; rfl, 0, rfl⟩
      · clear ha hb hl
        go_enter Try.func21, Try.ntmps21
        go_wp2
        go_ret
        exact ⟨by rw [HE.out]; rfl, 0, rfl⟩
end Go.Proofs.Ytgedknmjenbacaa

