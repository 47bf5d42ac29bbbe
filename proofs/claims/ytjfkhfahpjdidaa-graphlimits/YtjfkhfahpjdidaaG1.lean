/- Contracts: slices.Equal, Index, Contains, Max of numbers; graph's asked. -/
import Derived.Test.YtjfkhfahpjdidaaG0
namespace Go.Proofs.Ytjfkhfahpjdidaa
set_option linter.unusedVariables false
set_option linter.unusedSimpArgs false
set_option maxRecDepth 100000
open Go.RowKit

set_option maxHeartbeats 4000000 in
theorem sEq_any {v v' : Value} {a b : List Int} {w : World} (ha : Ints w v a) (hb : Ints w v' b) :
    Calls Try.prog 31 #[v, v'] w fun e w' => e = .returned (.bool (a == b)) ∧ ∃ n, w' = w.drewN n := by
  by_cases hl : a.length = b.length
  · have HL : Hid (a.length = b.length) := hl
    rcases ha.cases with ⟨rfl, a1, c1, rfl⟩ | ⟨b1, o1, c1, rfl, h0, h1, h2, h3⟩
    · rcases hb.cases with ⟨rfl, a2, c2, rfl⟩ | ⟨b2, o2, c2, rfl, h0, h1, h2, h3⟩
      · clear ha hb hl HL
        go_enter Try.func31, Try.ntmps31
        go_wp2
        refine wp_loop_rounds 1 ?_
        rw [rounds_succ]
        go_wp2
        go_ret
        exact ⟨rfl, 0, rfl⟩
      · simp only [List.length_nil] at hl; omega
    · rcases hb.cases with ⟨rfl, a2, c2, rfl⟩ | ⟨b2, o2, c2, rfl, h0', h1', h2', h3'⟩
      · simp only [List.length_nil] at hl; omega
      · clear ha hb
        have hlb : (b.length : Int) = a.length := by omega
        have hne : ((a.length : Int) != (b.length : Int)) = false := by simp [hl]
        unfold big at h2 h2'
        clear hl hlb
        go_enter Try.func31, Try.ntmps31
        go_wp2
        go_loopw [13] (fun i w' => ∃ k m : Nat, k ≤ a.length ∧ i = .int .i64 k ∧ w' = w.drewN m ∧ Hid (a.take k = b.take k)) (fun i _ => a.length - (intOf i).toNat)
        case atStart => exact ⟨0, 0, Nat.zero_le _, rfl, rfl, rfl⟩
        case round =>
          obtain ⟨k, m, hk, rfl, rfl, hpre⟩ := hrel
          by_cases hlt : k < a.length
          · have hlt' : k < b.length := by have := HL.out; omega
            have hx := h3.out k hlt
            have hy := h3'.out k hlt'
            have T1 : Hid (a.take (k + 1) = a.take k ++ [a[k]]) := take_snoc a k hlt
            have T2 : Hid (b.take (k + 1) = b.take k ++ [b[k]]) := take_snoc b k hlt'
            by_cases he : a[k] = b[k]
            · have he' : (a[k] != b[k]) = false := by simp [he]
              have HE : Hid (a[k] = b[k]) := he
              clear he
              go_wp2
              go_quiet (fail)
              go_wp2
              go_roundw
              case rel => exact ⟨k + 1, m + nq, by omega, by go_num, rfl, by show _ = _; rw [T1.out, T2.out, hpre.out, HE.out]⟩
              case measure => simp [intOf]; omega
            · have he' : (a[k] != b[k]) = true := by simp [he]
              have HN : Hid (¬ a = b) := fun e => he (by subst e; rfl)
              clear he
              go_wp2
              go_quiet (fail)
              go_wp2
              go_ret
              exact ⟨by rw [beq_eq_false_iff_ne.2 HN.out]; rfl, m + nq, by rw [World.drewN_drewN]⟩
          · have hk' : k = a.length := by omega
            have HE : Hid (a = b) := by
              have := hpre.out
              rw [List.take_of_length_le (by omega), List.take_of_length_le (by have := HL.out; omega)] at this
              exact this
            go_wp2
            go_ret
            exact ⟨by rw [HE.out, beq_self_eq_true]; rfl, _, rfl⟩
  · have HN : Hid (¬ a = b) := fun e => hl (by rw [e])
    have hne : ((a.length : Int) != (b.length : Int)) = true := by simp; omega
    rcases ha.cases with ⟨rfl, a1, c1, rfl⟩ | ⟨b1, o1, c1, rfl, h0, h1, h2, h3⟩
    · rcases hb.cases with ⟨rfl, a2, c2, rfl⟩ | ⟨b2, o2, c2, rfl, h0', h1', h2', h3'⟩
      · exact absurd rfl HN.out
      · clear ha hb hl
        go_enter Try.func31, Try.ntmps31
        go_wp2
        go_ret
        exact ⟨by rw [beq_eq_false_iff_ne.2 HN.out]; rfl, 0, rfl⟩
    · rcases hb.cases with ⟨rfl, a2, c2, rfl⟩ | ⟨b2, o2, c2, rfl, h0', h1', h2', h3'⟩
      · clear ha hb hl
        go_enter Try.func31, Try.ntmps31
        go_wp2
        go_ret
        exact ⟨by rw [beq_eq_false_iff_ne.2 HN.out]; rfl, 0, rfl⟩
      · clear ha hb hl
        go_enter Try.func31, Try.ntmps31
        go_wp2
        go_ret
        exact ⟨by rw [beq_eq_false_iff_ne.2 HN.out]; rfl, 0, rfl⟩
theorem sEq_to {v v' : Value} {a b : List Int} {w : World} (x : Bool) (ha : Ints w v a) (hb : Ints w v' b) (hx : (a == b) = x) :
    Calls Try.prog 31 #[v, v'] w fun e w' => e = .returned (.bool x) ∧ ∃ n, w' = w.drewN n := by
  subst hx
  exact sEq_any ha hb
set_option maxHeartbeats 4000000 in
theorem idx_any {v : Value} {A : List Int} {w : World} (n : Int) (hA : Ints w v A) (q : Bool) (hq : decide (n ∈ A) = q) :
    Calls Try.prog 42 #[v, .int .i64 n] w fun e w' => (∃ r : Int, e = .returned (.int .i64 r) ∧ decide (0 ≤ r) = q) ∧ w = w' := by
  have HQ : Hid (decide (n ∈ A) = q) := hq
  clear hq
  rcases hA.cases with ⟨rfl, a1, c1, rfl⟩ | ⟨b1, o1, c1, rfl, h0, h1, h2, h3⟩
  · have HQ2 : Hid (q = false) := by show _ = _; rw [← HQ.out]; rfl
    clear hA
    go_enter Try.func42, Try.ntmps42
    go_wp2
    refine wp_loop_rounds 1 ?_
    rw [rounds_succ]
    go_wp2
    go_ret
    exact ⟨⟨-1, rfl, by rw [HQ2.out]; rfl⟩, rfl⟩
  · have HA3 := h3
    clear hA
    unfold big at h2
    go_enter Try.func42, Try.ntmps42
    go_wp2
    go_loop [8] (fun i => ∃ k : Nat, k ≤ A.length ∧ i = .int .i64 k ∧ Hid (∀ j (h : j < A.length), j < k → ¬ A[j] = n)) (fun i => A.length - (intOf i).toNat)
    case atStart => exact ⟨0, Nat.zero_le _, rfl, fun j h1 h2 => by omega⟩
    case round =>
      obtain ⟨k, hk, rfl, HP⟩ := hrel
      by_cases hlt : k < A.length
      · have hx := h3.out k hlt
        obtain ⟨y, hy⟩ : ∃ y, A[k] = y := ⟨_, rfl⟩
        rw [hy] at hx
        have HY : Hid (A[k] = y) := hy
        clear hy
        by_cases e : y = n
        · have HQ2 : Hid (q = true) := by show _ = _; rw [← HQ.out]; exact decide_eq_true (by rw [← e, ← HY.out]; exact List.getElem_mem hlt)
          have hb : (y == n) = true := by simpa using e
          clear e
          go_wp2
          go_ret
          exact ⟨⟨k, rfl, by rw [HQ2.out]; exact decide_eq_true (by omega)⟩, rfl⟩
        · have HNE : Hid (¬ y = n) := e
          have hb : (y == n) = false := by simpa using e
          clear e
          go_wp2
          go_round
          case rel =>
            refine ⟨k + 1, by omega, by go_num, fun j h1 h2 => ?_⟩
            by_cases e : j = k
            · subst e; rw [HY.out]; exact HNE.out
            · exact HP.out j h1 (by omega)
          case measure => simp [intOf]; omega
      · have HQ2 : Hid (q = false) := by
          show _ = _
          rw [← HQ.out]
          refine decide_eq_false fun hm => ?_
          obtain ⟨j, hj, e⟩ := List.getElem_of_mem hm
          exact HP.out j hj (by omega) e
        go_wp2
        go_ret
        exact ⟨⟨-1, rfl, by rw [HQ2.out]; rfl⟩, rfl⟩
set_option maxHeartbeats 2000000 in
theorem contains_any {v : Value} {A : List Int} {w : World} (n : Int) (hA : Ints w v A) (q : Bool) (hq : decide (n ∈ A) = q) :
    Calls Try.prog 29 #[v, .int .i64 n] w fun e w' => e = .returned (.bool q) ∧ w = w' := by
  have HA : Hid (Ints w v A) := hA
  have HQ : Hid (decide (n ∈ A) = q) := hq
  obtain ⟨va, vn, vc, rfl⟩ := hA.shape3
  clear hA hq
  go_enter Try.func29, Try.ntmps29
  go_wp2_with (go_at_call 42; refine (idx_any n HA.out q HQ.out).mono ?_; rintro e w2 ⟨⟨r, rfl, hr⟩, rfl⟩; have HR : Hid (decide (0 ≤ r) = q) := hr; clear hr)
  go_ret
  exact ⟨by rw [← HR.out]; rfl, rfl⟩
theorem max8_to {v : Value} {A : List Int} {w : World} (hA : Ints w v A) (h1 : 1 ≤ A.length) :
    Calls Try.prog 34 #[v] w fun e w' => e = .returned (.int .i64 (Lib.maxOf A)) ∧ w' = w := by
  rcases hA.cases with ⟨rfl, a1, c1, rfl⟩ | ⟨b1, o1, c1, rfl, h0, h1', h2, h3⟩
  · simp at h1
  · have hb := h2
    unfold big at hb
    have := max_shelf b1 o1 A.length c1 A w (by omega) (Nat.le_refl _) (by omega) (fun j hj => by rw [List.getD_eq_getElem?_getD, List.getElem?_eq_getElem hj]; exact h3.out j hj)
    rw [List.take_length] at this
    exact this
/-- The runes of the kinds that name dims. -/
def nmR (j : Nat) : Nat := [1, 2, 3, 11, 12, 13].getD j 0
theorem nmR_dec : ∀ p, p < 6 → Utf8.decode ⟨#[1, 2, 3, 11, 12, 13]⟩ p = (nmR p, 1) ∧ nmR p ≤ 13 ∧ askI (nmR p : Int) = true := by decide +kernel
theorem nmR_none {k : Int} (h : ∀ j, j < 6 → ¬ k = (nmR j : Int)) : askI k = false := by
  have h0 := h 0 (by omega); have h1 := h 1 (by omega); have h2 := h 2 (by omega); have h3 := h 3 (by omega); have h4 := h 4 (by omega); have h5 := h 5 (by omega)
  simp only [nmR, List.getD_cons_zero, List.getD_cons_succ] at h0 h1 h2 h3 h4 h5
  simp only [askI, Bool.or_eq_false_iff, decide_eq_false_iff_not]
  omega
set_option maxHeartbeats 4000000 in
theorem asked8_any {s : ByteArray} {k n : Int} {x y : Value} {D : List Int} {w : World} (hy : Ints w y D) (hx : ∃ a n c, x = .slice a n c) (DD : List Int) (hDD : (if askI k then D else []) = DD) :
    Calls Try.prog 30 #[.agg #[.string s, .int .i64 k, x, y, .int .i64 n]] w fun e w' => ∃ v, e = .returned v ∧ Ints w' v DD ∧ Below w.heap.size w w' := by
  have HDD : Hid ((if askI k then D else []) = DD) := hDD
  have HY : Hid (Ints w y D) := hy
  obtain ⟨ya, yn, yc, rfl⟩ := hy.shape3
  obtain ⟨xa, xn, xc, rfl⟩ := hx
  obtain ⟨U, hU⟩ : ∃ U, U = w.alloc (.cells #[.string s, .int .i64 k, .slice xa xn xc, .slice ya yn yc, .int .i64 n] 42) := ⟨_, rfl⟩
  have HUU : Hid (U = w.alloc (.cells #[.string s, .int .i64 k, .slice xa xn xc, .slice ya yn yc, .int .i64 n] 42)) := hU
  have HB : Hid (Below w.heap.size w U) := by show Below _ _ _; rw [hU]; exact Below.push (Below.refl _ _) _
  have HSZ : Hid (U.heap.size = w.heap.size + 1) := by show _ = _; rw [hU]; simp
  have u1 : U.cell? ⟨w.heap.size, 1, none⟩ = some (.int .i64 k) := by rw [hU]; simp
  have u3 : U.cell? ⟨w.heap.size, 3, none⟩ = some (.slice ya yn yc) := by rw [hU]; simp
  have HI : Hid (∀ p, Below U.heap.size U (U.iter ⟨#[1, 2, 3, 11, 12, 13]⟩ p)) := fun p => (Below.refl _ _).alloc (Nat.le_refl _) _
  have c1 : ∀ p, (U.iter ⟨#[1, 2, 3, 11, 12, 13]⟩ p).cell? ⟨w.heap.size, 1, none⟩ = some (.int .i64 k) := fun p => cell_later (HI.out p) u1
  have c3 : ∀ p, (U.iter ⟨#[1, 2, 3, 11, 12, 13]⟩ p).cell? ⟨w.heap.size, 3, none⟩ = some (.slice ya yn yc) := fun p => cell_later (HI.out p) u3
  clear hy hU u1 u3 hDD
  go_enter Try.func30, Try.ntmps30
  go_wp2_with fail
  rw [← HUU.out]
  go_wp2_with fail
  go_loopw [4] (fun _ w' => ∃ p : Nat, p ≤ 6 ∧ w' = U.iter ⟨#[1, 2, 3, 11, 12, 13]⟩ p ∧ Hid (∀ j, j < p → ¬ k = (nmR j : Int))) (fun _ w' => 6 - w'.iterPos U.heap.size)
  case atStart => exact ⟨0, Nat.zero_le _, rfl, fun j hj => by omega⟩
  case round =>
    obtain ⟨p, hp, rfl, HF⟩ := hrel
    by_cases hlt : p < 6
    · obtain ⟨hd, h13, ha⟩ := nmR_dec p hlt
      have hnx : ∀ ty, (Instr.next (.pointer (some ⟨U.heap.size, 0, none⟩)) true ty).run Try.prog (U.iter ⟨#[1, 2, 3, 11, 12, 13]⟩ p) = _ := fun ty => run_next_any U ⟨#[1, 2, 3, 11, 12, 13]⟩ p ty hlt
      rw [hd, HSZ.out] at hnx
      simp only at hnx
      have HA : Hid (askI (nmR p : Int) = true) := ha
      have HR : Hid (∀ j, j < p + 1 → ¬ j = p → ¬ k = (nmR j : Int)) := fun j h1 h2 => HF.out j (by omega)
      obtain ⟨r, hr⟩ : ∃ r, nmR p = r := ⟨_, rfl⟩
      have HRR : Hid (nmR p = r) := hr
      rw [hr] at hnx h13
      have gw : IntKind.i64.wrap (r : Int) = (r : Int) := wrap_small _ (by omega) (by omega)
      clear hd ha hr
      by_cases e : k = (r : Int)
      · have HE : Hid (askI k = true) := by show _ = _; rw [e, ← HRR.out]; exact HA.out
        have hb : (k == (r : Int)) = true := by simpa using e
        clear e
        go_wp2
        go_ret
        refine ⟨_, rfl, ?_, Below.after HB.out (HI.out (p + 1))⟩
        have hv : DD = D := by rw [← HDD.out, HE.out]; rfl
        rw [hv]
        exact HY.out.later (Below.after HB.out (HI.out (p + 1)))
      · have HNE : Hid (¬ k = (nmR p : Int)) := by show ¬ _; rw [HRR.out]; exact e
        have hb : (k == (r : Int)) = false := by simpa using e
        clear e
        go_wp2
        go_roundw
        case rel => exact ⟨p + 1, by omega, rfl, fun j hj => by
          by_cases e : j = p
          · subst e; exact HNE.out
          · exact HR.out j hj e⟩
        case measure => simp; omega
    · have hnx : ∀ ty, (Instr.next (.pointer (some ⟨U.heap.size, 0, none⟩)) true ty).run Try.prog (U.iter ⟨#[1, 2, 3, 11, 12, 13]⟩ p) = _ := fun ty => run_next_end U ⟨#[1, 2, 3, 11, 12, 13]⟩ p ty hlt
      rw [HSZ.out] at hnx
      have HE : Hid (askI k = false) := nmR_none fun j hj => HF.out j (by omega)
      go_wp2
      go_ret
      refine ⟨_, rfl, ?_, Below.after HB.out (HI.out p)⟩
      have hv : DD = [] := by rw [← HDD.out, HE.out]; rfl
      rw [hv]
      exact Ints.nil _
end Go.Proofs.Ytjfkhfahpjdidaa
