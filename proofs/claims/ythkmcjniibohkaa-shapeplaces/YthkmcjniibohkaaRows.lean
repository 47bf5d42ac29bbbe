/-
  No cell of these rows narrows 'for every input' (looked for: loops, veiled, ifaces, maps, wideKeys, modest, calm, conditions, laid).
  DERIVED. THE GIVEN ROWS OF THIS SEAT. 4 by the template 'for every input the law returns true; each argument reads behind the call as it read before'; 0 by the template 'total and deterministic' (their statements: YthkmcjniibohkaaTotals.lean).
  GIVEN WITH THE SEED: the statements are not yours to turn. If you find one false, say at which input.
  Laid BY PROGRAM, IN A SANDBOX (cutbox-rows.mjs): the forced cells as the released guide's own fill.sh prints them over the translation 56cd429afe7ecfb0… (all of the seat's roots in one cut). By AI agents, Wed Nov 11 2026. No macro, syntax, notation, axiom, sorry.
-/
import Derived.Test.YthkmcjniibohkaaChecked
import GoSem.Claim
import GoSem.ClaimJoined
import GoSem.ClaimMapViews
import Derived.JoinedTies
import Derived.KernelRfl
namespace Go.Proofs.Ythkmcjniibohkaa
/- THE CELL 'sum', in the pinned program and in every row, IS THE sha256 OF THE DUMP (.gsa) THAT YthkmcjniibohkaaProg.lean LOADS. Nothing in Lean hashes anything: it is a label: what it is worth is what the hold of that sum in a sandbox is worth. -/
noncomputable def Try.pinned : Pinned := { name := "ythkmcjniibohkaa", sum := "56cd429afe7ecfb0824d254feb8f9cade04038bc40340d84cbc39102204f2166", checked := Try.checked }
namespace Rows
def none {H : Type} : Left H := { results := [], args := [] }

/-- 'graduslaw1.ShapePlaces': WHATEVER THE INPUT: true; the input reads as it did. -/
def shapePlacesSpec : ChangeSpec := { name := "shapePlaces", fn := fun _ => fun
  | [d] => { results := [.lit (.bool true)], args := [d] }
  | _ => none }
def shapePlacesRow : OpenClaim := { program := "ythkmcjniibohkaa", sum := "56cd429afe7ecfb0824d254feb8f9cade04038bc40340d84cbc39102204f2166", func := "gradus/graduslaw1.ShapePlaces", spec := "shapePlaces", apart := false }
def ShapePlacesSaid : Prop := shapePlacesRow.holds Try.pinned (OpenSpec.ofChange shapePlacesSpec)

/-- ITS FALSE NEIGHBOUR: 'it returns false'. Refute it at one input. -/
def shapePlacesWrong : ChangeSpec := { name := "shapePlaces", fn := fun _ => fun
  | [d] => { results := [.lit (.bool false)], args := [d] }
  | _ => none }
def ShapePlacesWrongFalsely : Prop := shapePlacesRow.holds Try.pinned (OpenSpec.ofChange shapePlacesWrong)

/-- 'graduslaw1.ShapeBack': WHATEVER THE INPUT: true; the input reads as it did. -/
def shapeBackSpec : ChangeSpec := { name := "shapeBack", fn := fun _ => fun
  | [d] => { results := [.lit (.bool true)], args := [d] }
  | _ => none }
def shapeBackRow : OpenClaim := { program := "ythkmcjniibohkaa", sum := "56cd429afe7ecfb0824d254feb8f9cade04038bc40340d84cbc39102204f2166", func := "gradus/graduslaw1.ShapeBack", spec := "shapeBack", apart := false }
def ShapeBackSaid : Prop := shapeBackRow.holds Try.pinned (OpenSpec.ofChange shapeBackSpec)

/-- ITS FALSE NEIGHBOUR: 'it returns false'. Refute it at one input. -/
def shapeBackWrong : ChangeSpec := { name := "shapeBack", fn := fun _ => fun
  | [d] => { results := [.lit (.bool false)], args := [d] }
  | _ => none }
def ShapeBackWrongFalsely : Prop := shapeBackRow.holds Try.pinned (OpenSpec.ofChange shapeBackWrong)

/-- 'graduslaw1.ShapeFills': WHATEVER THE INPUT: true; the input reads as it did. -/
def shapeFillsSpec : ChangeSpec := { name := "shapeFills", fn := fun _ => fun
  | [d] => { results := [.lit (.bool true)], args := [d] }
  | _ => none }
def shapeFillsRow : OpenClaim := { program := "ythkmcjniibohkaa", sum := "56cd429afe7ecfb0824d254feb8f9cade04038bc40340d84cbc39102204f2166", func := "gradus/graduslaw1.ShapeFills", spec := "shapeFills", apart := false }
def ShapeFillsSaid : Prop := shapeFillsRow.holds Try.pinned (OpenSpec.ofChange shapeFillsSpec)

/-- ITS FALSE NEIGHBOUR: 'it returns false'. Refute it at one input. -/
def shapeFillsWrong : ChangeSpec := { name := "shapeFills", fn := fun _ => fun
  | [d] => { results := [.lit (.bool false)], args := [d] }
  | _ => none }
def ShapeFillsWrongFalsely : Prop := shapeFillsRow.holds Try.pinned (OpenSpec.ofChange shapeFillsWrong)

/-- 'graduslaw1.ShapeWider': WHATEVER THE INPUT: true; the input reads as it did. -/
def shapeWiderSpec : ChangeSpec := { name := "shapeWider", fn := fun _ => fun
  | [d] => { results := [.lit (.bool true)], args := [d] }
  | _ => none }
def shapeWiderRow : OpenClaim := { program := "ythkmcjniibohkaa", sum := "56cd429afe7ecfb0824d254feb8f9cade04038bc40340d84cbc39102204f2166", func := "gradus/graduslaw1.ShapeWider", spec := "shapeWider", apart := false }
def ShapeWiderSaid : Prop := shapeWiderRow.holds Try.pinned (OpenSpec.ofChange shapeWiderSpec)

/-- ITS FALSE NEIGHBOUR: 'it returns false'. Refute it at one input. -/
def shapeWiderWrong : ChangeSpec := { name := "shapeWider", fn := fun _ => fun
  | [d] => { results := [.lit (.bool false)], args := [d] }
  | _ => none }
def ShapeWiderWrongFalsely : Prop := shapeWiderRow.holds Try.pinned (OpenSpec.ofChange shapeWiderWrong)

/- THE SECOND FORM. 'bulk': how many values and letters a reading holds, each counted each time it is reached (what is shared counts as often as it is met; a slice's spare places count too). A statement '..UptoSaid' is the law's where the arguments, and the package variables that the reading takes, are together of bulk at most 1048576: NARROWER than '..Said'. Prove '..Said' where nothing that the law and all that it calls make is longer than what came in: it says more and counts as full. Else prove '..UptoSaid'. A law counts once. -/
mutual
def uptoBulk {H : Type} : DataW H → Nat
  | .lit (.string bytes) => bytes.length + 1
  | .lit _ => 1
  | .nil => 1
  | .ptr d => uptoBulk d + 1
  | .slice elems spare => uptoBulkAll elems + uptoBulkAll spare + 1
  | .agg parts => uptoBulkAll parts + 1
  | .iface _ d => uptoBulk d + 1
  | .map entries => uptoBulkEntries entries + 1
  | .held _ => 1
def uptoBulkAll {H : Type} : List (DataW H) → Nat
  | [] => 0
  | d :: r => uptoBulk d + uptoBulkAll r
def uptoBulkEntries {H : Type} : List (Lit × DataW H) → Nat
  | [] => 0
  | x :: r => uptoBulkEntry x + uptoBulkEntries r
def uptoBulkEntry {H : Type} : Lit × DataW H → Nat
  | (.string bytes, d) => bytes.length + uptoBulk d + 1
  | (_, d) => uptoBulk d + 1
 end
def uptoSmall : (H : Type) → List (DataW H) → Bool := fun _ ds => decide (uptoBulkAll ds ≤ 1048576)
def OpenSpec.upto (s : _root_.Go.ChangeSpec) : _root_.Go.OpenSpec := { _root_.Go.OpenSpec.ofChange s with cond := some uptoSmall }

/-- 'graduslaw1.ShapePlaces', WHERE WHAT IT READS IS OF BULK AT MOST 1048576: true; the input reads as it did. -/
def shapePlacesUptoRow : OpenClaim := { program := "ythkmcjniibohkaa", sum := "56cd429afe7ecfb0824d254feb8f9cade04038bc40340d84cbc39102204f2166", func := "gradus/graduslaw1.ShapePlaces", spec := "shapePlaces", apart := false, narrowed := true }
def ShapePlacesUptoSaid : Prop := shapePlacesUptoRow.holds Try.pinned (OpenSpec.upto shapePlacesSpec)

/-- 'graduslaw1.ShapeBack', WHERE WHAT IT READS IS OF BULK AT MOST 1048576: true; the input reads as it did. -/
def shapeBackUptoRow : OpenClaim := { program := "ythkmcjniibohkaa", sum := "56cd429afe7ecfb0824d254feb8f9cade04038bc40340d84cbc39102204f2166", func := "gradus/graduslaw1.ShapeBack", spec := "shapeBack", apart := false, narrowed := true }
def ShapeBackUptoSaid : Prop := shapeBackUptoRow.holds Try.pinned (OpenSpec.upto shapeBackSpec)

/-- 'graduslaw1.ShapeFills', WHERE WHAT IT READS IS OF BULK AT MOST 1048576: true; the input reads as it did. -/
def shapeFillsUptoRow : OpenClaim := { program := "ythkmcjniibohkaa", sum := "56cd429afe7ecfb0824d254feb8f9cade04038bc40340d84cbc39102204f2166", func := "gradus/graduslaw1.ShapeFills", spec := "shapeFills", apart := false, narrowed := true }
def ShapeFillsUptoSaid : Prop := shapeFillsUptoRow.holds Try.pinned (OpenSpec.upto shapeFillsSpec)

/-- 'graduslaw1.ShapeWider', WHERE WHAT IT READS IS OF BULK AT MOST 1048576: true; the input reads as it did. -/
def shapeWiderUptoRow : OpenClaim := { program := "ythkmcjniibohkaa", sum := "56cd429afe7ecfb0824d254feb8f9cade04038bc40340d84cbc39102204f2166", func := "gradus/graduslaw1.ShapeWider", spec := "shapeWider", apart := false, narrowed := true }
def ShapeWiderUptoSaid : Prop := shapeWiderUptoRow.holds Try.pinned (OpenSpec.upto shapeWiderSpec)

end Rows
end Go.Proofs.Ythkmcjniibohkaa
