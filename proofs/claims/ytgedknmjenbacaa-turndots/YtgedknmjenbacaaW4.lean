/- Contract: wakes. -/
import Derived.Test.YtgedknmjenbacaaW2
import Derived.Test.YtgedknmjenbacaaW3
namespace Go.Proofs.Ytgedknmjenbacaa
set_option linter.unusedVariables false
open Go.RowKit

theorem two_ints (w : World) (x y : Int) : Ints (w.alloc (.cells #[.int .i64 x, .int .i64 y] 3)) (.slice (some ⟨w.heap.size, 0, none⟩) 2 2) [x, y] := by
  have := (Blk.new w [x, y]).ints 2 2 rfl (Nat.le_refl _) (by decide)
  exact this
theorem ok23 : okd [2, 3] = true := by decide
theorem prd23 : prd [2, 3] = 6 := by decide
theorem stp23 : stp [2, 3] = [3, 1] := by decide

end Go.Proofs.Ytgedknmjenbacaa
