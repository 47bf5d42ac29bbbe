/-
  No cell of these rows narrows 'for every input' (looked for: loops, veiled, ifaces, maps, wideKeys, modest, calm, conditions, laid).
  DERIVED. THE GIVEN ROWS OF THIS SEAT. 6 by the template 'for every input the law returns true; each argument reads behind the call as it read before'; 0 by the template 'total and deterministic' (their statements: YtheddpjaihhbdabGreatTotals.lean).
  GIVEN WITH THE SEED: the statements are not yours to turn. If you find one false, say at which input.
  Laid BY PROGRAM, IN A SANDBOX (cutbox-rows.mjs): the forced cells as the released guide's own fill.sh prints them over the translation 1dfb30a207ce54c5… (all of the seat's roots in one cut). By AI agents, Wed Nov 11 2026. No macro, syntax, notation, axiom, sorry.
-/
import Derived.Test.YtheddpjaihhbdabGreatChecked
import GoSem.Claim
import GoSem.ClaimJoined
import GoSem.ClaimMapViews
import Derived.JoinedTies
import Derived.KernelRfl
namespace Go.Proofs.YtheddpjaihhbdabGreat
/- THE CELL 'sum', in the pinned program and in every row, IS THE sha256 OF THE DUMP (.gsa) THAT YtheddpjaihhbdabGreatProg.lean LOADS. Nothing in Lean hashes anything: it is a label: what it is worth is what the hold of that sum in a sandbox is worth. -/
noncomputable def Tryz.pinned : Pinned := { name := "ytheddpjaihhbdabgreat", sum := "1dfb30a207ce54c538ce0a02792ae780703c2ef014c1d6c994700cb4d1febd0f", checked := Tryz.checked }
namespace Rows
def none {H : Type} : Left H := { results := [], args := [] }

/-- 'graduslaw6.KernelSub': WHATEVER THE INPUT: true; the input reads as it did. -/
def kernelSubSpec : ChangeSpec := { name := "kernelSub", fn := fun _ => fun
  | [d] => { results := [.lit (.bool true)], args := [d] }
  | _ => none }
def kernelSubRow : OpenClaim := { program := "ytheddpjaihhbdabgreat", sum := "1dfb30a207ce54c538ce0a02792ae780703c2ef014c1d6c994700cb4d1febd0f", func := "gradus/graduslaw6.KernelSub", spec := "kernelSub", inPlace := ["internal/abi.NoEscape", "internal/bytealg.MakeNoZero"], unfollowed := true, recurses := true, apart := false }
def KernelSubSaid : Prop := kernelSubRow.holds Tryz.pinned (OpenSpec.ofChange kernelSubSpec)

/-- ITS FALSE NEIGHBOUR: 'it returns false'. Refute it at one input. -/
def kernelSubWrong : ChangeSpec := { name := "kernelSub", fn := fun _ => fun
  | [d] => { results := [.lit (.bool false)], args := [d] }
  | _ => none }
def KernelSubWrongFalsely : Prop := kernelSubRow.holds Tryz.pinned (OpenSpec.ofChange kernelSubWrong)

/-- 'graduslaw6.KernelMul': WHATEVER THE INPUT: true; the input reads as it did. -/
def kernelMulSpec : ChangeSpec := { name := "kernelMul", fn := fun _ => fun
  | [d] => { results := [.lit (.bool true)], args := [d] }
  | _ => none }
def kernelMulRow : OpenClaim := { program := "ytheddpjaihhbdabgreat", sum := "1dfb30a207ce54c538ce0a02792ae780703c2ef014c1d6c994700cb4d1febd0f", func := "gradus/graduslaw6.KernelMul", spec := "kernelMul", inPlace := ["internal/abi.NoEscape", "internal/bytealg.MakeNoZero"], unfollowed := true, recurses := true, apart := false }
def KernelMulSaid : Prop := kernelMulRow.holds Tryz.pinned (OpenSpec.ofChange kernelMulSpec)

/-- ITS FALSE NEIGHBOUR: 'it returns false'. Refute it at one input. -/
def kernelMulWrong : ChangeSpec := { name := "kernelMul", fn := fun _ => fun
  | [d] => { results := [.lit (.bool false)], args := [d] }
  | _ => none }
def KernelMulWrongFalsely : Prop := kernelMulRow.holds Tryz.pinned (OpenSpec.ofChange kernelMulWrong)

/-- 'graduslaw6.KernelNeg': WHATEVER THE INPUT: true; the input reads as it did. -/
def kernelNegSpec : ChangeSpec := { name := "kernelNeg", fn := fun _ => fun
  | [d] => { results := [.lit (.bool true)], args := [d] }
  | _ => none }
def kernelNegRow : OpenClaim := { program := "ytheddpjaihhbdabgreat", sum := "1dfb30a207ce54c538ce0a02792ae780703c2ef014c1d6c994700cb4d1febd0f", func := "gradus/graduslaw6.KernelNeg", spec := "kernelNeg", inPlace := ["internal/abi.NoEscape", "internal/bytealg.MakeNoZero"], unfollowed := true, recurses := true, apart := false }
def KernelNegSaid : Prop := kernelNegRow.holds Tryz.pinned (OpenSpec.ofChange kernelNegSpec)

/-- ITS FALSE NEIGHBOUR: 'it returns false'. Refute it at one input. -/
def kernelNegWrong : ChangeSpec := { name := "kernelNeg", fn := fun _ => fun
  | [d] => { results := [.lit (.bool false)], args := [d] }
  | _ => none }
def KernelNegWrongFalsely : Prop := kernelNegRow.holds Tryz.pinned (OpenSpec.ofChange kernelNegWrong)

/-- 'graduslaw6.KernelScale': WHATEVER THE INPUT: true; the input reads as it did. -/
def kernelScaleSpec : ChangeSpec := { name := "kernelScale", fn := fun _ => fun
  | [d] => { results := [.lit (.bool true)], args := [d] }
  | _ => none }
def kernelScaleRow : OpenClaim := { program := "ytheddpjaihhbdabgreat", sum := "1dfb30a207ce54c538ce0a02792ae780703c2ef014c1d6c994700cb4d1febd0f", func := "gradus/graduslaw6.KernelScale", spec := "kernelScale", inPlace := ["internal/abi.NoEscape", "internal/bytealg.MakeNoZero"], unfollowed := true, recurses := true, apart := false }
def KernelScaleSaid : Prop := kernelScaleRow.holds Tryz.pinned (OpenSpec.ofChange kernelScaleSpec)

/-- ITS FALSE NEIGHBOUR: 'it returns false'. Refute it at one input. -/
def kernelScaleWrong : ChangeSpec := { name := "kernelScale", fn := fun _ => fun
  | [d] => { results := [.lit (.bool false)], args := [d] }
  | _ => none }
def KernelScaleWrongFalsely : Prop := kernelScaleRow.holds Tryz.pinned (OpenSpec.ofChange kernelScaleWrong)

/-- 'graduslaw6.KernelMat': WHATEVER THE INPUT: true; the input reads as it did. -/
def kernelMatSpec : ChangeSpec := { name := "kernelMat", fn := fun _ => fun
  | [d] => { results := [.lit (.bool true)], args := [d] }
  | _ => none }
def kernelMatRow : OpenClaim := { program := "ytheddpjaihhbdabgreat", sum := "1dfb30a207ce54c538ce0a02792ae780703c2ef014c1d6c994700cb4d1febd0f", func := "gradus/graduslaw6.KernelMat", spec := "kernelMat", inPlace := ["internal/abi.NoEscape", "internal/bytealg.MakeNoZero"], unfollowed := true, recurses := true, apart := false }
def KernelMatSaid : Prop := kernelMatRow.holds Tryz.pinned (OpenSpec.ofChange kernelMatSpec)

/-- ITS FALSE NEIGHBOUR: 'it returns false'. Refute it at one input. -/
def kernelMatWrong : ChangeSpec := { name := "kernelMat", fn := fun _ => fun
  | [d] => { results := [.lit (.bool false)], args := [d] }
  | _ => none }
def KernelMatWrongFalsely : Prop := kernelMatRow.holds Tryz.pinned (OpenSpec.ofChange kernelMatWrong)

/-- 'graduslaw6.KernelTurn': WHATEVER THE INPUT: true; the input reads as it did. -/
def kernelTurnSpec : ChangeSpec := { name := "kernelTurn", fn := fun _ => fun
  | [d] => { results := [.lit (.bool true)], args := [d] }
  | _ => none }
def kernelTurnRow : OpenClaim := { program := "ytheddpjaihhbdabgreat", sum := "1dfb30a207ce54c538ce0a02792ae780703c2ef014c1d6c994700cb4d1febd0f", func := "gradus/graduslaw6.KernelTurn", spec := "kernelTurn", inPlace := ["internal/abi.NoEscape", "internal/bytealg.MakeNoZero"], unfollowed := true, recurses := true, apart := false }
def KernelTurnSaid : Prop := kernelTurnRow.holds Tryz.pinned (OpenSpec.ofChange kernelTurnSpec)

/-- ITS FALSE NEIGHBOUR: 'it returns false'. Refute it at one input. -/
def kernelTurnWrong : ChangeSpec := { name := "kernelTurn", fn := fun _ => fun
  | [d] => { results := [.lit (.bool false)], args := [d] }
  | _ => none }
def KernelTurnWrongFalsely : Prop := kernelTurnRow.holds Tryz.pinned (OpenSpec.ofChange kernelTurnWrong)

/- THE SECOND FORM. 'bulk': how many values and letters a reading holds, each counted each time it is reached (what is shared counts as often as it is met; a slice's spare places count too). A statement '..UptoSaid' is the law's where the arguments, and the package variables that the reading takes, are together of bulk at most 1048576: NARROWER than '..Said'. Prove '..Said' where nothing that the law and all that it calls make is longer than what came in: it says more and counts as full. Else prove '..UptoSaid'. A law counts once. -/
mutual
def uptoBulk {H : Type} : DataW H → Nat
  | .lit (.string bytes) => bytes.length + 1
  | .lit _ => 1
  | .nil => 1
  | .ptr d => uptoBulk d + 1
  | .slice elems spare => uptoBulkAll elems + uptoBulkAll spare + 1
  | .agg parts => uptoBulkAll parts + 1
  | .iface _ d => uptoBulk d + 1
  | .map entries => uptoBulkEntries entries + 1
  | .held _ => 1
def uptoBulkAll {H : Type} : List (DataW H) → Nat
  | [] => 0
  | d :: r => uptoBulk d + uptoBulkAll r
def uptoBulkEntries {H : Type} : List (Lit × DataW H) → Nat
  | [] => 0
  | x :: r => uptoBulkEntry x + uptoBulkEntries r
def uptoBulkEntry {H : Type} : Lit × DataW H → Nat
  | (.string bytes, d) => bytes.length + uptoBulk d + 1
  | (_, d) => uptoBulk d + 1
 end
def uptoSmall : (H : Type) → List (DataW H) → Bool := fun _ ds => decide (uptoBulkAll ds ≤ 1048576)
def OpenSpec.upto (s : _root_.Go.ChangeSpec) : _root_.Go.OpenSpec := { _root_.Go.OpenSpec.ofChange s with cond := some uptoSmall }

/-- 'graduslaw6.KernelSub', WHERE WHAT IT READS IS OF BULK AT MOST 1048576: true; the input reads as it did. -/
def kernelSubUptoRow : OpenClaim := { program := "ytheddpjaihhbdabgreat", sum := "1dfb30a207ce54c538ce0a02792ae780703c2ef014c1d6c994700cb4d1febd0f", func := "gradus/graduslaw6.KernelSub", spec := "kernelSub", inPlace := ["internal/abi.NoEscape", "internal/bytealg.MakeNoZero"], unfollowed := true, recurses := true, apart := false, narrowed := true }
def KernelSubUptoSaid : Prop := kernelSubUptoRow.holds Tryz.pinned (OpenSpec.upto kernelSubSpec)

/-- 'graduslaw6.KernelMul', WHERE WHAT IT READS IS OF BULK AT MOST 1048576: true; the input reads as it did. -/
def kernelMulUptoRow : OpenClaim := { program := "ytheddpjaihhbdabgreat", sum := "1dfb30a207ce54c538ce0a02792ae780703c2ef014c1d6c994700cb4d1febd0f", func := "gradus/graduslaw6.KernelMul", spec := "kernelMul", inPlace := ["internal/abi.NoEscape", "internal/bytealg.MakeNoZero"], unfollowed := true, recurses := true, apart := false, narrowed := true }
def KernelMulUptoSaid : Prop := kernelMulUptoRow.holds Tryz.pinned (OpenSpec.upto kernelMulSpec)

/-- 'graduslaw6.KernelNeg', WHERE WHAT IT READS IS OF BULK AT MOST 1048576: true; the input reads as it did. -/
def kernelNegUptoRow : OpenClaim := { program := "ytheddpjaihhbdabgreat", sum := "1dfb30a207ce54c538ce0a02792ae780703c2ef014c1d6c994700cb4d1febd0f", func := "gradus/graduslaw6.KernelNeg", spec := "kernelNeg", inPlace := ["internal/abi.NoEscape", "internal/bytealg.MakeNoZero"], unfollowed := true, recurses := true, apart := false, narrowed := true }
def KernelNegUptoSaid : Prop := kernelNegUptoRow.holds Tryz.pinned (OpenSpec.upto kernelNegSpec)

/-- 'graduslaw6.KernelScale', WHERE WHAT IT READS IS OF BULK AT MOST 1048576: true; the input reads as it did. -/
def kernelScaleUptoRow : OpenClaim := { program := "ytheddpjaihhbdabgreat", sum := "1dfb30a207ce54c538ce0a02792ae780703c2ef014c1d6c994700cb4d1febd0f", func := "gradus/graduslaw6.KernelScale", spec := "kernelScale", inPlace := ["internal/abi.NoEscape", "internal/bytealg.MakeNoZero"], unfollowed := true, recurses := true, apart := false, narrowed := true }
def KernelScaleUptoSaid : Prop := kernelScaleUptoRow.holds Tryz.pinned (OpenSpec.upto kernelScaleSpec)

/-- 'graduslaw6.KernelMat', WHERE WHAT IT READS IS OF BULK AT MOST 1048576: true; the input reads as it did. -/
def kernelMatUptoRow : OpenClaim := { program := "ytheddpjaihhbdabgreat", sum := "1dfb30a207ce54c538ce0a02792ae780703c2ef014c1d6c994700cb4d1febd0f", func := "gradus/graduslaw6.KernelMat", spec := "kernelMat", inPlace := ["internal/abi.NoEscape", "internal/bytealg.MakeNoZero"], unfollowed := true, recurses := true, apart := false, narrowed := true }
def KernelMatUptoSaid : Prop := kernelMatUptoRow.holds Tryz.pinned (OpenSpec.upto kernelMatSpec)

/-- 'graduslaw6.KernelTurn', WHERE WHAT IT READS IS OF BULK AT MOST 1048576: true; the input reads as it did. -/
def kernelTurnUptoRow : OpenClaim := { program := "ytheddpjaihhbdabgreat", sum := "1dfb30a207ce54c538ce0a02792ae780703c2ef014c1d6c994700cb4d1febd0f", func := "gradus/graduslaw6.KernelTurn", spec := "kernelTurn", inPlace := ["internal/abi.NoEscape", "internal/bytealg.MakeNoZero"], unfollowed := true, recurses := true, apart := false, narrowed := true }
def KernelTurnUptoSaid : Prop := kernelTurnUptoRow.holds Tryz.pinned (OpenSpec.upto kernelTurnSpec)

end Rows
end Go.Proofs.YtheddpjaihhbdabGreat
