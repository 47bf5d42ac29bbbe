/- Contracts: Within, the law's square and wakes. -/
import Derived.Test.YtgnicnaiaijdcaaDoorZ3
import Derived.Test.YtgnicnaiaijdcaaDoorY5
namespace Go.Proofs.YtgnicnaiaijdcaaDoor
set_option linter.unusedVariables false
set_option linter.unusedSimpArgs false
open Go.RowKit

set_option maxHeartbeats 400000 in
theorem within_ok {w : World} (a b : Nat) (ha : a < 9223372036854775808) (h0 : 0 < b) (hb : b < 9223372036854775808) :
    Calls Tryd.prog 21 #[.int .i64 a, .int .i64 b] w fun e w' => e = .returned (.int .i64 ((a % b : Nat) : Int)) ∧ w = w' := by
  have hw : IntKind.u64.wrap (a : Int) = (a : Int) := by rw [IntKind.wrap_u64]; omega
  have hw2 : IntKind.u64.wrap (b : Int) = (b : Int) := by rw [IntKind.wrap_u64]; omega
  have hm : (a : Int).tmod (b : Int) = ((a % b : Nat) : Int) := by
    rw [Int.tmod_eq_emod_of_nonneg (by omega)]
    simp
  have hlt := Nat.mod_lt a h0
  obtain ⟨m, hm'⟩ : ∃ m, a % b = m := ⟨_, rfl⟩
  rw [hm'] at hm hlt ⊢
  have hw3 : IntKind.u64.wrap ((a : Int).tmod (b : Int)) = (m : Int) := by rw [hm, IntKind.wrap_u64]; omega
  have hw4 : IntKind.i64.wrap (m : Int) = (m : Int) := wrap_small _ (by omega) (by omega)
  have h1 : ¬ b = 0 := by omega
  have h2 : ¬ (b : Int) = 0 := by omega
  go_enter Tryd.func21, Tryd.ntmps21
  go_wp2
  go_ret
  exact ⟨rfl, rfl⟩

theorem wrap64_in (x : Int) : -9223372036854775808 ≤ wrap64 x ∧ wrap64 x ≤ 9223372036854775807 := by unfold wrap64; omega
theorem Rg.set {X : List Int} (h : Rg X) (j : Nat) (x : Int) (hx : -9223372036854775808 ≤ x ∧ x ≤ 9223372036854775807) : Rg (X.set j x) := by
  intro y hy
  rcases List.mem_or_eq_of_mem_set hy with h1 | h1
  · exact h y h1
  · rw [h1]; exact hx

set_option maxRecDepth 100000 in
set_option maxHeartbeats 4000000 in
theorem wakes4_any {w : World} : Calls Tryd.prog 20 #[] w fun e w' => e = .returned (.bool true) ∧ Below w.heap.size w w' := by
  obtain ⟨u, hu⟩ : ∃ u, onR 2 = u := ⟨_, rfl⟩
  obtain ⟨v, hv⟩ : ∃ v, muR u u = v := ⟨_, rfl⟩
  have HO : Hid (onE 2 = 0 ∧ onR 2 = u) := ⟨by decide +kernel, hu⟩
  have HE : Hid (muE u u = 0 ∧ muR u u = v) := ⟨by rw [← hu]; decide +kernel, hv⟩
  have hm : v.2 = [1, 0, 0, 1] := by rw [← hv, ← hu]; decide +kernel
  clear hu hv
  have HMV : Hid (v.2 = [1, 0, 0, 1]) := hm
  clear hm
  go_enter Tryd.func20, Tryd.ntmps20
  go_wp2_with fail
  refine (one_to (w := w) 2 0 u HO.out.1 HO.out.2).mono ?_
  rintro e w2 ⟨x0, x1, rfl, ho, hb2⟩
  obtain ⟨xa, xn, xc, rfl⟩ := ho.dims.ints.shape3
  obtain ⟨ya, yn, yc, rfl⟩ := ho.data.ints.shape3
  have HB2 : Hid (Below w.heap.size w (w2.alloc (.cells #[.slice xa xn xc, .slice ya yn yc] 28))) := Below.push hb2 _
  have HT2 : Hid (Tens (w2.alloc (.cells #[.slice xa xn xc, .slice ya yn yc] 28)) (.slice xa xn xc) (.slice ya yn yc) u) := ho.tens.later (Below.push (Below.refl _ _) _)
  clear ho hb2
  go_wp2_with fail
  refine (mul_to 0 _ HT2.out HT2.out HE.out.1 HE.out.2).mono ?_
  rintro e w3 ⟨x0, x1, rfl, ho, hb3⟩
  obtain ⟨za, zn, zc, rfl⟩ := ho.dims.ints.shape3
  obtain ⟨va, vn, vc, rfl⟩ := ho.data.ints.shape3
  have hv : Below w3.heap.size w3 ((w3.alloc (.cells #[.slice za zn zc, .slice va vn vc] 28)).alloc (.cells #[.int .i64 1, .int .i64 0, .int .i64 0, .int .i64 1] 3)) := Below.push (Below.push (Below.refl _ _) _) _
  have HB3 : Hid (Below w.heap.size w ((w3.alloc (.cells #[.slice za zn zc, .slice va vn vc] 28)).alloc (.cells #[.int .i64 1, .int .i64 0, .int .i64 0, .int .i64 1] 3))) := Below.after (Below.after HB2.out hb3) hv
  have HX : Hid (Ints ((w3.alloc (.cells #[.slice za zn zc, .slice va vn vc] 28)).alloc (.cells #[.int .i64 1, .int .i64 0, .int .i64 0, .int .i64 1] 3)) (.slice va vn vc) v.2) := ho.data.ints.later hv
  have HZ : Hid (Ints ((w3.alloc (.cells #[.slice za zn zc, .slice va vn vc] 28)).alloc (.cells #[.int .i64 1, .int .i64 0, .int .i64 0, .int .i64 1] 3)) (.slice (some ⟨w3.heap.size + 1, 0, none⟩) 4 4) [1, 0, 0, 1]) := by
    have := (Blk.newer (w3.alloc (.cells #[.slice za zn zc, .slice va vn vc] 28)) [1, 0, 0, 1] (w3.heap.size + 1) (by simp)).ints 4 4 rfl (Nat.le_refl _) (by decide)
    exact this
  clear ho hb3 hv
  go_wp2_with (go_at_call 11; refine (num_any _ _).mono ?_; rintro e w' ⟨rfl, rfl⟩)
  refine (eqn_bl HX.out HZ.out HMV.out).mono ?_
  rintro e w9 ⟨rfl, hb9⟩
  have HB9 : Hid (Below w.heap.size w w9) := Below.after HB3.out hb9
  clear hb9
  go_wp2
  go_ret
  exact ⟨rfl, HB9.out⟩
end Go.Proofs.YtgnicnaiaijdcaaDoor
