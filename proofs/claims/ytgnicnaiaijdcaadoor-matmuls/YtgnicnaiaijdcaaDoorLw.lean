/- A world in which the listed variables hold what is laid: for the witness. -/
import Derived.Test.YtgnicnaiaijdcaaDoorLt
import Derived.WalkKit
import Derived.ProofKit
import Derived.OpenShut
namespace Go.Proofs.YtgnicnaiaijdcaaDoor
open Go.ChangeShapes Go.WideShapes Go.ChangeAt Go.RowKit

/-- What a listed table is, cell by cell. -/
def litV {H : Type} : DataW H → Value
  | .lit (.int k z) => .int k z
  | _ => undef
def cellsV {H : Type} : DataW H → Array Value
  | .agg l => (l.map litV).toArray
  | _ => #[]
def putV (c : Array Value) : Obj → Obj
  | .cells _ t frozen => .cells c t frozen
  | o => o
noncomputable def laidWorld (os : Os) : World :=
  { World.holding Tryd.prog os ⟨#[], #[], []⟩ with heap := (((World.holding Tryd.prog os ⟨#[], #[], []⟩).heap.modify 1 (putV (cellsV (H := Unit) Rows.laid_math_bits_deBruijn32tab))).modify 2 (putV (cellsV (H := Unit) Rows.laid_math_bits_deBruijn64tab))).modify 0 (putV (cellsV (H := Unit) Rows.laid_internal_strconv_uint64pow10)) }
theorem gOne : Tryd.prog.globalNamed (match Rows.matOnesRow.laid with | x :: _ => x.1 | _ => Rows.matOnesRow.program) = some 1 := by kernel_rfl
theorem gThree : Tryd.prog.globalNamed (match Rows.matOnesRow.laid with | _ :: _ :: x :: _ => x.1 | _ => Rows.matOnesRow.program) = some 0 := by kernel_rfl
set_option maxRecDepth 100000 in
theorem laid_met (os : Os) : laidMet Tryd.prog Rows.matOnesRow.laid ((laidWorld os).forCall (fun _ _ => 0) ⟨#[], #[.agg #[.slice none 0 0, .slice none 0 0]], []⟩).memory :=
  laidMet_of_run' 8 (by kernel_rfl) (by kernel_rfl)
end Go.Proofs.YtgnicnaiaijdcaaDoor
