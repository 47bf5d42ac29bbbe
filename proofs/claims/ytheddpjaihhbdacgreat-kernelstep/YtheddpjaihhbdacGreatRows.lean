/-
  No cell of these rows narrows 'for every input' (looked for: loops, veiled, ifaces, maps, wideKeys, modest, calm, conditions, laid).
  DERIVED. THE GIVEN ROWS OF THIS SEAT. 6 by the template 'for every input the law returns true; each argument reads behind the call as it read before'; 0 by the template 'total and deterministic' (their statements: YtheddpjaihhbdacGreatTotals.lean).
  GIVEN WITH THE SEED: the statements are not yours to turn. If you find one false, say at which input.
  Laid BY PROGRAM, IN A SANDBOX (cutbox-rows.mjs): the forced cells as the released guide's own fill.sh prints them over the translation 17c104bec1a312e3… (all of the seat's roots in one cut). By AI agents, Wed Nov 11 2026. No macro, syntax, notation, axiom, sorry.
-/
import Derived.Test.YtheddpjaihhbdacGreatChecked
import GoSem.Claim
import GoSem.ClaimJoined
import GoSem.ClaimMapViews
import Derived.JoinedTies
import Derived.KernelRfl
namespace Go.Proofs.YtheddpjaihhbdacGreat
/- THE CELL 'sum', in the pinned program and in every row, IS THE sha256 OF THE DUMP (.gsa) THAT YtheddpjaihhbdacGreatProg.lean LOADS. Nothing in Lean hashes anything: it is a label: what it is worth is what the hold of that sum in a sandbox is worth. -/
noncomputable def Tryz.pinned : Pinned := { name := "ytheddpjaihhbdacgreat", sum := "17c104bec1a312e358e6c9e875597503debe81dedc638c9053b5315d5f02c339", checked := Tryz.checked }
namespace Rows
def none {H : Type} : Left H := { results := [], args := [] }

/-- 'graduslaw6.KernelShape': WHATEVER THE INPUT: true; the input reads as it did. -/
def kernelShapeSpec : ChangeSpec := { name := "kernelShape", fn := fun _ => fun
  | [d] => { results := [.lit (.bool true)], args := [d] }
  | _ => none }
def kernelShapeRow : OpenClaim := { program := "ytheddpjaihhbdacgreat", sum := "17c104bec1a312e358e6c9e875597503debe81dedc638c9053b5315d5f02c339", func := "gradus/graduslaw6.KernelShape", spec := "kernelShape", inPlace := ["internal/abi.NoEscape", "internal/bytealg.MakeNoZero"], unfollowed := true, recurses := true, apart := false }
def KernelShapeSaid : Prop := kernelShapeRow.holds Tryz.pinned (OpenSpec.ofChange kernelShapeSpec)

/-- ITS FALSE NEIGHBOUR: 'it returns false'. Refute it at one input. -/
def kernelShapeWrong : ChangeSpec := { name := "kernelShape", fn := fun _ => fun
  | [d] => { results := [.lit (.bool false)], args := [d] }
  | _ => none }
def KernelShapeWrongFalsely : Prop := kernelShapeRow.holds Tryz.pinned (OpenSpec.ofChange kernelShapeWrong)

/-- 'graduslaw6.KernelWide': WHATEVER THE INPUT: true; the input reads as it did. -/
def kernelWideSpec : ChangeSpec := { name := "kernelWide", fn := fun _ => fun
  | [d] => { results := [.lit (.bool true)], args := [d] }
  | _ => none }
def kernelWideRow : OpenClaim := { program := "ytheddpjaihhbdacgreat", sum := "17c104bec1a312e358e6c9e875597503debe81dedc638c9053b5315d5f02c339", func := "gradus/graduslaw6.KernelWide", spec := "kernelWide", inPlace := ["internal/abi.NoEscape", "internal/bytealg.MakeNoZero"], unfollowed := true, recurses := true, apart := false }
def KernelWideSaid : Prop := kernelWideRow.holds Tryz.pinned (OpenSpec.ofChange kernelWideSpec)

/-- ITS FALSE NEIGHBOUR: 'it returns false'. Refute it at one input. -/
def kernelWideWrong : ChangeSpec := { name := "kernelWide", fn := fun _ => fun
  | [d] => { results := [.lit (.bool false)], args := [d] }
  | _ => none }
def KernelWideWrongFalsely : Prop := kernelWideRow.holds Tryz.pinned (OpenSpec.ofChange kernelWideWrong)

/-- 'graduslaw6.KernelSum': WHATEVER THE INPUT: true; the input reads as it did. -/
def kernelSumSpec : ChangeSpec := { name := "kernelSum", fn := fun _ => fun
  | [d] => { results := [.lit (.bool true)], args := [d] }
  | _ => none }
def kernelSumRow : OpenClaim := { program := "ytheddpjaihhbdacgreat", sum := "17c104bec1a312e358e6c9e875597503debe81dedc638c9053b5315d5f02c339", func := "gradus/graduslaw6.KernelSum", spec := "kernelSum", inPlace := ["internal/abi.NoEscape", "internal/bytealg.MakeNoZero"], unfollowed := true, recurses := true, apart := false }
def KernelSumSaid : Prop := kernelSumRow.holds Tryz.pinned (OpenSpec.ofChange kernelSumSpec)

/-- ITS FALSE NEIGHBOUR: 'it returns false'. Refute it at one input. -/
def kernelSumWrong : ChangeSpec := { name := "kernelSum", fn := fun _ => fun
  | [d] => { results := [.lit (.bool false)], args := [d] }
  | _ => none }
def KernelSumWrongFalsely : Prop := kernelSumRow.holds Tryz.pinned (OpenSpec.ofChange kernelSumWrong)

/-- 'graduslaw6.KernelRelu': WHATEVER THE INPUT: true; the input reads as it did. -/
def kernelReluSpec : ChangeSpec := { name := "kernelRelu", fn := fun _ => fun
  | [d] => { results := [.lit (.bool true)], args := [d] }
  | _ => none }
def kernelReluRow : OpenClaim := { program := "ytheddpjaihhbdacgreat", sum := "17c104bec1a312e358e6c9e875597503debe81dedc638c9053b5315d5f02c339", func := "gradus/graduslaw6.KernelRelu", spec := "kernelRelu", inPlace := ["internal/abi.NoEscape", "internal/bytealg.MakeNoZero"], unfollowed := true, recurses := true, apart := false }
def KernelReluSaid : Prop := kernelReluRow.holds Tryz.pinned (OpenSpec.ofChange kernelReluSpec)

/-- ITS FALSE NEIGHBOUR: 'it returns false'. Refute it at one input. -/
def kernelReluWrong : ChangeSpec := { name := "kernelRelu", fn := fun _ => fun
  | [d] => { results := [.lit (.bool false)], args := [d] }
  | _ => none }
def KernelReluWrongFalsely : Prop := kernelReluRow.holds Tryz.pinned (OpenSpec.ofChange kernelReluWrong)

/-- 'graduslaw6.KernelMax': WHATEVER THE INPUT: true; the input reads as it did. -/
def kernelMaxSpec : ChangeSpec := { name := "kernelMax", fn := fun _ => fun
  | [d] => { results := [.lit (.bool true)], args := [d] }
  | _ => none }
def kernelMaxRow : OpenClaim := { program := "ytheddpjaihhbdacgreat", sum := "17c104bec1a312e358e6c9e875597503debe81dedc638c9053b5315d5f02c339", func := "gradus/graduslaw6.KernelMax", spec := "kernelMax", inPlace := ["internal/abi.NoEscape", "internal/bytealg.MakeNoZero"], unfollowed := true, recurses := true, apart := false }
def KernelMaxSaid : Prop := kernelMaxRow.holds Tryz.pinned (OpenSpec.ofChange kernelMaxSpec)

/-- ITS FALSE NEIGHBOUR: 'it returns false'. Refute it at one input. -/
def kernelMaxWrong : ChangeSpec := { name := "kernelMax", fn := fun _ => fun
  | [d] => { results := [.lit (.bool false)], args := [d] }
  | _ => none }
def KernelMaxWrongFalsely : Prop := kernelMaxRow.holds Tryz.pinned (OpenSpec.ofChange kernelMaxWrong)

/-- 'graduslaw6.KernelStep': WHATEVER THE INPUT: true; the input reads as it did. -/
def kernelStepSpec : ChangeSpec := { name := "kernelStep", fn := fun _ => fun
  | [d] => { results := [.lit (.bool true)], args := [d] }
  | _ => none }
def kernelStepRow : OpenClaim := { program := "ytheddpjaihhbdacgreat", sum := "17c104bec1a312e358e6c9e875597503debe81dedc638c9053b5315d5f02c339", func := "gradus/graduslaw6.KernelStep", spec := "kernelStep", inPlace := ["internal/abi.NoEscape", "internal/bytealg.MakeNoZero"], unfollowed := true, recurses := true, apart := false }
def KernelStepSaid : Prop := kernelStepRow.holds Tryz.pinned (OpenSpec.ofChange kernelStepSpec)

/-- ITS FALSE NEIGHBOUR: 'it returns false'. Refute it at one input. -/
def kernelStepWrong : ChangeSpec := { name := "kernelStep", fn := fun _ => fun
  | [d] => { results := [.lit (.bool false)], args := [d] }
  | _ => none }
def KernelStepWrongFalsely : Prop := kernelStepRow.holds Tryz.pinned (OpenSpec.ofChange kernelStepWrong)

/- THE SECOND FORM. 'bulk': how many values and letters a reading holds, each counted each time it is reached (what is shared counts as often as it is met; a slice's spare places count too). A statement '..UptoSaid' is the law's where the arguments, and the package variables that the reading takes, are together of bulk at most 1048576: NARROWER than '..Said'. Prove '..Said' where nothing that the law and all that it calls make is longer than what came in: it says more and counts as full. Else prove '..UptoSaid'. A law counts once. -/
mutual
def uptoBulk {H : Type} : DataW H → Nat
  | .lit (.string bytes) => bytes.length + 1
  | .lit _ => 1
  | .nil => 1
  | .ptr d => uptoBulk d + 1
  | .slice elems spare => uptoBulkAll elems + uptoBulkAll spare + 1
  | .agg parts => uptoBulkAll parts + 1
  | .iface _ d => uptoBulk d + 1
  | .map entries => uptoBulkEntries entries + 1
  | .held _ => 1
def uptoBulkAll {H : Type} : List (DataW H) → Nat
  | [] => 0
  | d :: r => uptoBulk d + uptoBulkAll r
def uptoBulkEntries {H : Type} : List (Lit × DataW H) → Nat
  | [] => 0
  | x :: r => uptoBulkEntry x + uptoBulkEntries r
def uptoBulkEntry {H : Type} : Lit × DataW H → Nat
  | (.string bytes, d) => bytes.length + uptoBulk d + 1
  | (_, d) => uptoBulk d + 1
 end
def uptoSmall : (H : Type) → List (DataW H) → Bool := fun _ ds => decide (uptoBulkAll ds ≤ 1048576)
def OpenSpec.upto (s : _root_.Go.ChangeSpec) : _root_.Go.OpenSpec := { _root_.Go.OpenSpec.ofChange s with cond := some uptoSmall }

/-- 'graduslaw6.KernelShape', WHERE WHAT IT READS IS OF BULK AT MOST 1048576: true; the input reads as it did. -/
def kernelShapeUptoRow : OpenClaim := { program := "ytheddpjaihhbdacgreat", sum := "17c104bec1a312e358e6c9e875597503debe81dedc638c9053b5315d5f02c339", func := "gradus/graduslaw6.KernelShape", spec := "kernelShape", inPlace := ["internal/abi.NoEscape", "internal/bytealg.MakeNoZero"], unfollowed := true, recurses := true, apart := false, narrowed := true }
def KernelShapeUptoSaid : Prop := kernelShapeUptoRow.holds Tryz.pinned (OpenSpec.upto kernelShapeSpec)

/-- 'graduslaw6.KernelWide', WHERE WHAT IT READS IS OF BULK AT MOST 1048576: true; the input reads as it did. -/
def kernelWideUptoRow : OpenClaim := { program := "ytheddpjaihhbdacgreat", sum := "17c104bec1a312e358e6c9e875597503debe81dedc638c9053b5315d5f02c339", func := "gradus/graduslaw6.KernelWide", spec := "kernelWide", inPlace := ["internal/abi.NoEscape", "internal/bytealg.MakeNoZero"], unfollowed := true, recurses := true, apart := false, narrowed := true }
def KernelWideUptoSaid : Prop := kernelWideUptoRow.holds Tryz.pinned (OpenSpec.upto kernelWideSpec)

/-- 'graduslaw6.KernelSum', WHERE WHAT IT READS IS OF BULK AT MOST 1048576: true; the input reads as it did. -/
def kernelSumUptoRow : OpenClaim := { program := "ytheddpjaihhbdacgreat", sum := "17c104bec1a312e358e6c9e875597503debe81dedc638c9053b5315d5f02c339", func := "gradus/graduslaw6.KernelSum", spec := "kernelSum", inPlace := ["internal/abi.NoEscape", "internal/bytealg.MakeNoZero"], unfollowed := true, recurses := true, apart := false, narrowed := true }
def KernelSumUptoSaid : Prop := kernelSumUptoRow.holds Tryz.pinned (OpenSpec.upto kernelSumSpec)

/-- 'graduslaw6.KernelRelu', WHERE WHAT IT READS IS OF BULK AT MOST 1048576: true; the input reads as it did. -/
def kernelReluUptoRow : OpenClaim := { program := "ytheddpjaihhbdacgreat", sum := "17c104bec1a312e358e6c9e875597503debe81dedc638c9053b5315d5f02c339", func := "gradus/graduslaw6.KernelRelu", spec := "kernelRelu", inPlace := ["internal/abi.NoEscape", "internal/bytealg.MakeNoZero"], unfollowed := true, recurses := true, apart := false, narrowed := true }
def KernelReluUptoSaid : Prop := kernelReluUptoRow.holds Tryz.pinned (OpenSpec.upto kernelReluSpec)

/-- 'graduslaw6.KernelMax', WHERE WHAT IT READS IS OF BULK AT MOST 1048576: true; the input reads as it did. -/
def kernelMaxUptoRow : OpenClaim := { program := "ytheddpjaihhbdacgreat", sum := "17c104bec1a312e358e6c9e875597503debe81dedc638c9053b5315d5f02c339", func := "gradus/graduslaw6.KernelMax", spec := "kernelMax", inPlace := ["internal/abi.NoEscape", "internal/bytealg.MakeNoZero"], unfollowed := true, recurses := true, apart := false, narrowed := true }
def KernelMaxUptoSaid : Prop := kernelMaxUptoRow.holds Tryz.pinned (OpenSpec.upto kernelMaxSpec)

/-- 'graduslaw6.KernelStep', WHERE WHAT IT READS IS OF BULK AT MOST 1048576: true; the input reads as it did. -/
def kernelStepUptoRow : OpenClaim := { program := "ytheddpjaihhbdacgreat", sum := "17c104bec1a312e358e6c9e875597503debe81dedc638c9053b5315d5f02c339", func := "gradus/graduslaw6.KernelStep", spec := "kernelStep", inPlace := ["internal/abi.NoEscape", "internal/bytealg.MakeNoZero"], unfollowed := true, recurses := true, apart := false, narrowed := true }
def KernelStepUptoSaid : Prop := kernelStepUptoRow.holds Tryz.pinned (OpenSpec.upto kernelStepSpec)

end Rows
end Go.Proofs.YtheddpjaihhbdacGreat
