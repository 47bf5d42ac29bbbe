/-
  DERIVED. GIVEN WITH THE SEED: THE CARDS: each row of YtgnicnaiaijdcaaDoorRows.lean that lists a variable, with what it lists TIED to the program's text (the seventh form; the later family's looks); each row that meets fmt, with fmt's text TOLD by the authors' own Lean function (tested against real Go, not proved from fmt's source: count such statements apart). THE CARD IS WHAT COUNTS. Prove the row's statement (the work); the ties are given (YtgnicnaiaijdcaaDoorTie.lean); close each card by the builder's one call (the guide's Derived/Test/ToyasCard.lean, 'card_holds'). Laid BY PROGRAM, IN A SANDBOX (cutbox-door.mjs). By AI agents, Wed Nov 11 2026. No macro, syntax, notation, axiom, sorry.
-/
import Derived.Test.YtgnicnaiaijdcaaDoorRows
import GoSem.ClaimSeven
namespace Go.Proofs.YtgnicnaiaijdcaaDoor
namespace Rows

/-- THE TIED CARD OF 'graduslaw4.MatMuls'. -/
def matMulsCard : Claim7 := { stood := { row := matMulsRow, standIns := [], harness := (true, "41b392475db29980a75fba1f6af80267ed69b633453d41d1ad6d6af777eb2a1a"), looks := false }, kinds := [], alts := [], laidByText := true, laidKinds := [.data, .data, .data], laidTests := true, laidLooks := .later }
def MatMulsCardSaid : Prop := Claim7.holds Tryd.pinned (.plain (OpenSpec.ofChange matMulsSpec)) matMulsCard

/-- THE TIED CARD OF 'graduslaw4.MatLaws'. -/
def matLawsCard : Claim7 := { stood := { row := matLawsRow, standIns := [], harness := (true, "41b392475db29980a75fba1f6af80267ed69b633453d41d1ad6d6af777eb2a1a"), looks := false }, kinds := [], alts := [], laidByText := true, laidKinds := [.data, .data, .data], laidTests := true, laidLooks := .later }
def MatLawsCardSaid : Prop := Claim7.holds Tryd.pinned (.plain (OpenSpec.ofChange matLawsSpec)) matLawsCard

/-- THE TIED CARD OF 'graduslaw4.MatOnes'. -/
def matOnesCard : Claim7 := { stood := { row := matOnesRow, standIns := [], harness := (true, "41b392475db29980a75fba1f6af80267ed69b633453d41d1ad6d6af777eb2a1a"), looks := false }, kinds := [], alts := [], laidByText := true, laidKinds := [.data, .data, .data], laidTests := true, laidLooks := .later }
def MatOnesCardSaid : Prop := Claim7.holds Tryd.pinned (.plain (OpenSpec.ofChange matOnesSpec)) matOnesCard

/-- THE SECOND FORM's CARD OF 'graduslaw4.MatMuls'. -/
def matMulsUptoCard : Claim7 := { stood := { row := matMulsUptoRow, standIns := [], harness := (true, "41b392475db29980a75fba1f6af80267ed69b633453d41d1ad6d6af777eb2a1a"), looks := false }, kinds := [], alts := [], laidByText := true, laidKinds := [.data, .data, .data], laidTests := true, laidLooks := .later }
def MatMulsUptoCardSaid : Prop := Claim7.holds Tryd.pinned (.plain (OpenSpec.upto matMulsSpec)) matMulsUptoCard

/-- THE SECOND FORM's CARD OF 'graduslaw4.MatLaws'. -/
def matLawsUptoCard : Claim7 := { stood := { row := matLawsUptoRow, standIns := [], harness := (true, "41b392475db29980a75fba1f6af80267ed69b633453d41d1ad6d6af777eb2a1a"), looks := false }, kinds := [], alts := [], laidByText := true, laidKinds := [.data, .data, .data], laidTests := true, laidLooks := .later }
def MatLawsUptoCardSaid : Prop := Claim7.holds Tryd.pinned (.plain (OpenSpec.upto matLawsSpec)) matLawsUptoCard

/-- THE SECOND FORM's CARD OF 'graduslaw4.MatOnes'. -/
def matOnesUptoCard : Claim7 := { stood := { row := matOnesUptoRow, standIns := [], harness := (true, "41b392475db29980a75fba1f6af80267ed69b633453d41d1ad6d6af777eb2a1a"), looks := false }, kinds := [], alts := [], laidByText := true, laidKinds := [.data, .data, .data], laidTests := true, laidLooks := .later }
def MatOnesUptoCardSaid : Prop := Claim7.holds Tryd.pinned (.plain (OpenSpec.upto matOnesSpec)) matOnesUptoCard
end Rows
end Go.Proofs.YtgnicnaiaijdcaaDoor
