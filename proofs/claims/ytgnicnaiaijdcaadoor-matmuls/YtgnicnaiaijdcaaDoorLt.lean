/- What the row lists of the library's table, read. -/
import Derived.Test.YtgnicnaiaijdcaaDoorCards
import Derived.Test.YtgnicnaiaijdcaaDoorTie
import Derived.Test.YtgnicnaiaijdcaaDoorJ3
import Derived.Lib.LaidTab
import Derived.Deep.DeepHandedRow
namespace Go.Proofs.YtgnicnaiaijdcaaDoor
open Go.ChangeShapes Go.WideShapes Go.ChangeAt Go.RowKit

/-- The second of the variables that the row lists: its name. -/
def nmD : String := match Rows.matOnesRow.laid with
  | _ :: x :: _ => x.1
  | _ => Rows.matOnesRow.program
theorem gDe : Tryd.prog.globalNamed nmD = some 2 := by kernel_rfl
theorem gDeT : (Tryd.prog.globals[2]?).map (·.type) = some 90 := by kernel_rfl
theorem cells90 : Tryd.prog.cellsOf 90 = 64 := by kernel_rfl
theorem cells5 : Tryd.prog.cellsOf 5 = 1 := by kernel_rfl
def deTab : List Int := [0, 1, 56, 2, 57, 49, 28, 3, 61, 58, 42, 50, 38, 29, 17, 4, 62, 47, 59, 36, 45, 43, 51, 22, 53, 39, 33, 30, 24, 18, 12, 5, 63, 55, 48, 27, 60, 41, 37, 16, 46, 35, 44, 21, 52, 32, 23, 11, 54, 26, 40, 15, 34, 20, 31, 10, 25, 14, 19, 9, 13, 8, 7, 6]
theorem second {W : World} {x : String × DataW Unit} {rest : List (String × DataW Unit)} (h : laidMet Tryd.prog (x :: (nmD, Lib.tabData .u8 deTab) :: rest) W) :
    W.cell? ⟨2, 1, none⟩ = some (.int .u8 1) := by
  obtain ⟨ps, ⟨g0, t0, cs0, fu0, p0, q0, _, _, _, _, ⟨g', t', cs, fuel, p, q, hg', ht', hvar, hd, _, _⟩, _⟩, _⟩ := h
  obtain rfl := Option.some.inj (gDe.symm.trans hg')
  obtain rfl := Option.some.inj (gDeT.symm.trans ht')
  have ht : Lib.TabIs Tryd.prog W nmD .u8 deTab := by
    unfold Lib.TabIs
    rw [hvar, ← Lib.cells_of_tab Tryd.underlying90 Tryd.underlying5 cells5 cells90 hd]
  exact ht.cell gDe 1 (by decide)
theorem ones_cell {W : World} (h : laidMetH Tryd.prog Rows.matOnesRow.laid W) : W.cell? ⟨2, 1, none⟩ = some (.int .u8 1) := second h
theorem laws_cell {W : World} (h : laidMetH Tryd.prog Rows.matLawsRow.laid W) : W.cell? ⟨2, 1, none⟩ = some (.int .u8 1) := second h
theorem muls_cell {W : World} (h : laidMetH Tryd.prog Rows.matMulsRow.laid W) : W.cell? ⟨2, 1, none⟩ = some (.int .u8 1) := second h
end Go.Proofs.YtgnicnaiaijdcaaDoor
