/- Slices that are spelled out. -/
import Derived.Test.YtoocfoodnkikeaaW2
import Derived.Test.YtoocfoodnkikeaaBlk
namespace Go.Proofs.Ytoocfoodnkikeaa
set_option linter.unusedVariables false
open Go.RowKit

theorem two_ints (w : World) (x y : Int) : Ints (w.alloc (.cells #[.int .i64 x, .int .i64 y] 3)) (.slice (some ⟨w.heap.size, 0, none⟩) 2 2) [x, y] := by
  have := (Blk.new w [x, y]).ints 2 2 rfl (Nat.le_refl _) (by decide)
  exact this
end Go.Proofs.Ytoocfoodnkikeaa
