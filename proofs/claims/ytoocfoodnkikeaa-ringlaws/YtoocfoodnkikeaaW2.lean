/- Contracts: num, Num, Between, EqNumbers, Wider (the program's, the page's). -/
import Derived.Test.YtoocfoodnkikeaaW1
namespace Go.Proofs.Ytoocfoodnkikeaa
set_option linter.unusedVariables false
open Go.RowKit

set_option maxHeartbeats 400000 in
theorem num_any (x : Int) (w : World) :
    Calls Try.prog 17 #[.int .i64 x] w fun e w' => e = .returned (.int .i64 x) ∧ w = w' := by
  go_enter Try.func17, Try.ntmps17
  go_wp2
  go_ret
  exact ⟨rfl, rfl⟩

set_option maxHeartbeats 400000 in
theorem eqn_any {v v' : Value} {a b : List Int} {w : World} (ha : Ints w v a) (hb : Ints w v' b) :
    Calls Try.prog 14 #[v, v'] w fun e w' => e = .returned (.bool (a == b)) ∧ ∃ n, w' = w.drewN n := by
  by_cases hl : a.length = b.length
  · have HL : Hid (a.length = b.length) := hl
    rcases ha.cases with ⟨rfl, a1, c1, rfl⟩ | ⟨b1, o1, c1, rfl, h0, h1, h2, h3⟩
    · rcases hb.cases with ⟨rfl, a2, c2, rfl⟩ | ⟨b2, o2, c2, rfl, h0, h1, h2, h3⟩
      · clear ha hb hl HL
        go_enter Try.func14, Try.ntmps14
        go_wp2
        refine wp_loop_rounds 1 ?_
        rw [rounds_succ]
        go_wp2
        go_ret
        exact ⟨rfl, 0, rfl⟩
      · simp only [List.length_nil] at hl; omega
    · rcases hb.cases with ⟨rfl, a2, c2, rfl⟩ | ⟨b2, o2, c2, rfl, h0', h1', h2', h3'⟩
      · simp only [List.length_nil] at hl; omega
      · clear ha hb
        have hlb : (b.length : Int) = a.length := by omega
        have hne : ((a.length : Int) != (b.length : Int)) = false := by simp [hl]
        unfold big at h2 h2'
        clear hl hlb
        go_enter Try.func14, Try.ntmps14
        go_wp2
        go_loopw [5] (fun i w' => ∃ k m : Nat, k ≤ a.length ∧ i = .int .i64 k ∧ w' = w.drewN m ∧ Hid (a.take k = b.take k)) (fun i _ => a.length - (intOf i).toNat)
        case atStart => exact ⟨0, 0, Nat.zero_le _, rfl, rfl, rfl⟩
        case round =>
          obtain ⟨k, m, hk, rfl, rfl, hpre⟩ := hrel
          by_cases hlt : k < a.length
          · have hlt' : k < b.length := by have := HL.out; omega
            have hx := h3.out k hlt
            have hy := h3'.out k hlt'
            have T1 : Hid (a.take (k + 1) = a.take k ++ [a[k]]) := take_snoc a k hlt
            have T2 : Hid (b.take (k + 1) = b.take k ++ [b[k]]) := take_snoc b k hlt'
            by_cases he : a[k] = b[k]
            · have he' : (a[k] != b[k]) = false := by simp [he]
              have HE : Hid (a[k] = b[k]) := he
              clear he
              go_wp2
              go_quiet (fail)
              go_wp2
              go_roundw
              case rel => exact ⟨k + 1, m + nq, by omega, by go_num, rfl, by show _ = _; rw [T1.out, T2.out, hpre.out, HE.out]⟩
              case measure => simp [intOf]; omega
            · have he' : (a[k] != b[k]) = true := by simp [he]
              have HN : Hid (¬ a = b) := fun e => he (by subst e; rfl)
              clear he
              go_wp2
              go_quiet (fail)
              go_wp2
              go_ret
              exact ⟨by rw [beq_eq_false_iff_ne.2 HN.out]; rfl, m + nq, by rw [World.drewN_drewN]⟩
          · have hk' : k = a.length := by omega
            have HE : Hid (a = b) := by
              have := hpre.out
              rw [List.take_of_length_le (by omega), List.take_of_length_le (by have := HL.out; omega)] at this
              exact this
            go_wp2
            go_ret
            exact ⟨by rw [HE.out, beq_self_eq_true]; rfl, _, rfl⟩
  · have HN : Hid (¬ a = b) := fun e => hl (by rw [e])
    have hne : ((a.length : Int) != (b.length : Int)) = true := by simp; omega
    rcases ha.cases with ⟨rfl, a1, c1, rfl⟩ | ⟨b1, o1, c1, rfl, h0, h1, h2, h3⟩
    · rcases hb.cases with ⟨rfl, a2, c2, rfl⟩ | ⟨b2, o2, c2, rfl, h0', h1', h2', h3'⟩
      · exact absurd rfl HN.out
      · clear ha hb hl
        go_enter Try.func14, Try.ntmps14
        go_wp2
        go_ret
        exact ⟨by rw [beq_eq_false_iff_ne.2 HN.out]; rfl, 0, rfl⟩
    · rcases hb.cases with ⟨rfl, a2, c2, rfl⟩ | ⟨b2, o2, c2, rfl, h0', h1', h2', h3'⟩
      · clear ha hb hl
        go_enter Try.func14, Try.ntmps14
        go_wp2
        go_ret
        exact ⟨by rw [beq_eq_false_iff_ne.2 HN.out]; rfl, 0, rfl⟩
      · clear ha hb hl
        go_enter Try.func14, Try.ntmps14
        go_wp2
        go_ret
        exact ⟨by rw [beq_eq_false_iff_ne.2 HN.out]; rfl, 0, rfl⟩

def widAt (x y : Int) : Bool := x == y || x == 1
def wid (a b : List Int) : Bool := a.length == b.length && (a.zip b).all fun p => widAt p.1 p.2
theorem wid_len {a b : List Int} (h : ¬ a.length = b.length) : wid a b = false := by simp [wid, h]
theorem wid_bad {a b : List Int} (k : Nat) (h1 : k < a.length) (h2 : k < b.length) (h : widAt a[k] b[k] = false) : wid a b = false := by
  cases e : wid a b with
  | false => rfl
  | true =>
    simp only [wid, Bool.and_eq_true, List.all_eq_true] at e
    have := e.2 (a[k], b[k]) (by
      rw [List.mem_iff_getElem]
      exact ⟨k, by simp; omega, by simp⟩)
    rw [h] at this
    exact this.symm
theorem wid_ok {a b : List Int} (hl : a.length = b.length) (h : ∀ k (h1 : k < a.length) (h2 : k < b.length), widAt a[k] b[k] = true) : wid a b = true := by
  simp only [wid, hl, beq_self_eq_true, Bool.true_and, List.all_eq_true]
  intro p hp
  rw [List.mem_iff_getElem] at hp
  obtain ⟨k, hk, rfl⟩ := hp
  simp at hk
  simpa using h k (by omega) (by omega)
def wdr (a b : List Int) : Int := if okd a && okd b then (if wid a b then 0 else 4) else 1

end Go.Proofs.Ytoocfoodnkikeaa

