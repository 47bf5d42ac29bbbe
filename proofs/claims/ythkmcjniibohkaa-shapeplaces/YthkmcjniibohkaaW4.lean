/- Contract: wakes. -/
import Derived.Test.YthkmcjniibohkaaW2
import Derived.Test.YthkmcjniibohkaaW3
namespace Go.Proofs.Ythkmcjniibohkaa
set_option linter.unusedVariables false
open Go.RowKit

theorem two_ints (w : World) (x y : Int) : Ints (w.alloc (.cells #[.int .i64 x, .int .i64 y] 3)) (.slice (some ⟨w.heap.size, 0, none⟩) 2 2) [x, y] := by
  have := (Blk.new w [x, y]).ints 2 2 rfl (Nat.le_refl _) (by decide)
  exact this
theorem ok23 : okd [2, 3] = true := by decide
theorem prd23 : prd [2, 3] = 6 := by decide
theorem stp23 : stp [2, 3] = [3, 1] := by decide

set_option maxHeartbeats 400000 in
theorem wakes_any (w : World) :
    Calls Try.prog 31 #[] w fun e w' => e = .returned (.bool true) ∧ Below w.heap.size w w' := by
  go_enter Try.func31, Try.ntmps31
  go_wp2_with fail
  refine (cells_ok (two_ints w 2 3) ok23).mono ?_
  rw [prd23]
  rintro e w1 ⟨rfl, hb1⟩
  have HB1 : Hid (Below w.heap.size w w1) := Below.after ((Below.refl _ _).alloc (Nat.le_refl _) _) hb1
  clear hb1
  go_wp2_with fail
  refine (steps_ok (two_ints w1 2 3) ok23).mono ?_
  rw [stp23]
  rintro e w2 ⟨rfl, hk2, hb2⟩
  have HB2 : Hid (Below w.heap.size w w2) := Below.after HB1.out (Below.after ((Below.refl _ _).alloc (Nat.le_refl _) _) hb2)
  have HK2 : Hid (Ints w2 (.slice (some ⟨(w1.alloc (.cells #[.int .i64 2, .int .i64 3] 3)).heap.size, 0, none⟩) 2 2) [3, 1]) := hk2.ints 2 2 rfl (Nat.le_refl _) (by decide)
  clear hb2 hk2
  go_wp2_with (go_at_call 14; refine (num_any _ _).mono ?_; rintro e w' ⟨rfl, rfl⟩)
  have HE : Hid (Ints (w2.alloc (.cells #[.int .i64 3, .int .i64 1] 3)) (.slice (some ⟨w1.heap.size + 1, 0, none⟩) 2 2) [3, 1]) := by
    have := HK2.out.later ((Below.refl _ _).alloc (Nat.le_refl _) (.cells #[.int .i64 3, .int .i64 1] 3))
    show Ints _ _ _
    simpa using this
  refine (eqn_any HE.out (two_ints w2 3 1)).mono ?_
  rintro e w3 ⟨rfl, nq, rfl⟩
  go_wp2
  go_ret
  exact ⟨rfl, Below.drewN (HB2.out.alloc HB2.out.size _) _⟩
end Go.Proofs.Ythkmcjniibohkaa
