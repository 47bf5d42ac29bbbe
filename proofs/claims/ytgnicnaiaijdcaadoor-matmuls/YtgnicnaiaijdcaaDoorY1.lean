/- Contracts: math/bits' TrailingZeros of 2, strconv's isPowerOfTwo of 2. -/
import Derived.Test.YtgnicnaiaijdcaaDoorX5
namespace Go.Proofs.YtgnicnaiaijdcaaDoor
set_option linter.unusedVariables false
set_option linter.unusedSimpArgs false
open Go.RowKit

theorem glob2 : Tryd.prog.globalNamed "math/bits.deBruijn64tab" = some 2 := by kernel_rfl
set_option maxHeartbeats 400000 in
theorem tz64 {w : World} (hg : w.cell? ⟨2, 1, none⟩ = some (.int .u8 1)) :
    Calls Tryd.prog 59 #[.int .u64 2] w fun e w' => e = .returned (.int .i64 1) ∧ w = w' := by
  have h2 : IntKind.u64.wrap (bits BinOp.and IntKind.u64 2 (IntKind.u64.wrap (-2)) * 285870213051353865) = 571740426102707730 := by decide +kernel
  go_enter Tryd.func59, Tryd.ntmps59
  go_wp2
  go_ret
  exact ⟨rfl, rfl⟩
theorem tz {w : World} (hg : w.cell? ⟨2, 1, none⟩ = some (.int .u8 1)) :
    Calls Tryd.prog 57 #[.int .u64 2] w fun e w' => e = .returned (.int .i64 1) ∧ w = w' := by
  go_enter Tryd.func57, Tryd.ntmps57
  go_wp2_with (go_at_call 59; refine (tz64 hg).mono ?_; rintro e w' ⟨rfl, rfl⟩)
  go_ret
  exact ⟨rfl, rfl⟩
theorem ispow {w : World} :
    Calls Tryd.prog 56 #[.int .i64 2] w fun e w' => e = .returned (.bool true) ∧ w = w' := by
  go_enter Tryd.func56, Tryd.ntmps56
  go_wp2
  go_ret
  exact ⟨rfl, rfl⟩
end Go.Proofs.YtgnicnaiaijdcaaDoor
