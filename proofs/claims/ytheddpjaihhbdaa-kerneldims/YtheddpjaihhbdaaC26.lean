/- Carried: Q1. -/
import Derived.Test.YtheddpjaihhbdaaC25
namespace Go.Proofs.Ytheddpjaihhbdaa
set_option linter.unusedVariables false
set_option linter.unusedSimpArgs false
set_option maxRecDepth 100000
open Go.RowKit

/-- The page's way from a place to a place. -/
theorem way_ok {e d : List Int} (oe : okd e = true) (od : okd d = true) (hw : wid e d = true) (j : Nat) (hj : (j : Int) < prd d) :
    (whr d j).length = e.length ∧ pok e (nar e (whr d j)) = true ∧ atV e (nar e (whr d j)) = (wmp e d j : Nat) :=
  ⟨by rw [whr_length, wid_length hw], (wmp_lt oe od hw j hj).1, (wmp_lt oe od hw j hj).2.1.symm⟩
end Go.Proofs.Ytheddpjaihhbdaa
