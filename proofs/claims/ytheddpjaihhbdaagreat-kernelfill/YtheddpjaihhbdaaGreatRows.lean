/-
  No cell of these rows narrows 'for every input' (looked for: loops, veiled, ifaces, maps, wideKeys, modest, calm, conditions, laid).
  DERIVED. THE GIVEN ROWS OF THIS SEAT. 5 by the template 'for every input the law returns true; each argument reads behind the call as it read before'; 0 by the template 'total and deterministic' (their statements: YtheddpjaihhbdaaGreatTotals.lean).
  GIVEN WITH THE SEED: the statements are not yours to turn. If you find one false, say at which input.
  Laid BY PROGRAM, IN A SANDBOX (cutbox-rows.mjs): the forced cells as the released guide's own fill.sh prints them over the translation 5deff47660cdc789… (all of the seat's roots in one cut). By AI agents, Wed Nov 11 2026. No macro, syntax, notation, axiom, sorry.
-/
import Derived.Test.YtheddpjaihhbdaaGreatChecked
import GoSem.Claim
import GoSem.ClaimJoined
import GoSem.ClaimMapViews
import Derived.JoinedTies
import Derived.KernelRfl
namespace Go.Proofs.YtheddpjaihhbdaaGreat
/- THE CELL 'sum', in the pinned program and in every row, IS THE sha256 OF THE DUMP (.gsa) THAT YtheddpjaihhbdaaGreatProg.lean LOADS. Nothing in Lean hashes anything: it is a label: what it is worth is what the hold of that sum in a sandbox is worth. -/
noncomputable def Tryz.pinned : Pinned := { name := "ytheddpjaihhbdaagreat", sum := "5deff47660cdc789d92294e627501786af0e0165747a71331e192c40dc14cdea", checked := Tryz.checked }
namespace Rows
def none {H : Type} : Left H := { results := [], args := [] }

/-- 'graduslaw6.KernelAny': WHATEVER THE INPUT: true; the input reads as it did. -/
def kernelAnySpec : ChangeSpec := { name := "kernelAny", fn := fun _ => fun
  | [d] => { results := [.lit (.bool true)], args := [d] }
  | _ => none }
def kernelAnyRow : OpenClaim := { program := "ytheddpjaihhbdaagreat", sum := "5deff47660cdc789d92294e627501786af0e0165747a71331e192c40dc14cdea", func := "gradus/graduslaw6.KernelAny", spec := "kernelAny", inPlace := ["internal/abi.NoEscape", "internal/bytealg.MakeNoZero"], unfollowed := true, recurses := true, apart := false }
def KernelAnySaid : Prop := kernelAnyRow.holds Tryz.pinned (OpenSpec.ofChange kernelAnySpec)

/-- ITS FALSE NEIGHBOUR: 'it returns false'. Refute it at one input. -/
def kernelAnyWrong : ChangeSpec := { name := "kernelAny", fn := fun _ => fun
  | [d] => { results := [.lit (.bool false)], args := [d] }
  | _ => none }
def KernelAnyWrongFalsely : Prop := kernelAnyRow.holds Tryz.pinned (OpenSpec.ofChange kernelAnyWrong)

/-- 'graduslaw6.KernelIn': WHATEVER THE INPUT: true; the input reads as it did. -/
def kernelInSpec : ChangeSpec := { name := "kernelIn", fn := fun _ => fun
  | [d] => { results := [.lit (.bool true)], args := [d] }
  | _ => none }
def kernelInRow : OpenClaim := { program := "ytheddpjaihhbdaagreat", sum := "5deff47660cdc789d92294e627501786af0e0165747a71331e192c40dc14cdea", func := "gradus/graduslaw6.KernelIn", spec := "kernelIn", inPlace := ["internal/abi.NoEscape", "internal/bytealg.MakeNoZero"], unfollowed := true, recurses := true, apart := false }
def KernelInSaid : Prop := kernelInRow.holds Tryz.pinned (OpenSpec.ofChange kernelInSpec)

/-- ITS FALSE NEIGHBOUR: 'it returns false'. Refute it at one input. -/
def kernelInWrong : ChangeSpec := { name := "kernelIn", fn := fun _ => fun
  | [d] => { results := [.lit (.bool false)], args := [d] }
  | _ => none }
def KernelInWrongFalsely : Prop := kernelInRow.holds Tryz.pinned (OpenSpec.ofChange kernelInWrong)

/-- 'graduslaw6.KernelParam': WHATEVER THE INPUT: true; the input reads as it did. -/
def kernelParamSpec : ChangeSpec := { name := "kernelParam", fn := fun _ => fun
  | [d] => { results := [.lit (.bool true)], args := [d] }
  | _ => none }
def kernelParamRow : OpenClaim := { program := "ytheddpjaihhbdaagreat", sum := "5deff47660cdc789d92294e627501786af0e0165747a71331e192c40dc14cdea", func := "gradus/graduslaw6.KernelParam", spec := "kernelParam", inPlace := ["internal/abi.NoEscape", "internal/bytealg.MakeNoZero"], unfollowed := true, recurses := true, apart := false }
def KernelParamSaid : Prop := kernelParamRow.holds Tryz.pinned (OpenSpec.ofChange kernelParamSpec)

/-- ITS FALSE NEIGHBOUR: 'it returns false'. Refute it at one input. -/
def kernelParamWrong : ChangeSpec := { name := "kernelParam", fn := fun _ => fun
  | [d] => { results := [.lit (.bool false)], args := [d] }
  | _ => none }
def KernelParamWrongFalsely : Prop := kernelParamRow.holds Tryz.pinned (OpenSpec.ofChange kernelParamWrong)

/-- 'graduslaw6.KernelFill': WHATEVER THE INPUT: true; the input reads as it did. -/
def kernelFillSpec : ChangeSpec := { name := "kernelFill", fn := fun _ => fun
  | [d] => { results := [.lit (.bool true)], args := [d] }
  | _ => none }
def kernelFillRow : OpenClaim := { program := "ytheddpjaihhbdaagreat", sum := "5deff47660cdc789d92294e627501786af0e0165747a71331e192c40dc14cdea", func := "gradus/graduslaw6.KernelFill", spec := "kernelFill", inPlace := ["internal/abi.NoEscape", "internal/bytealg.MakeNoZero"], unfollowed := true, recurses := true, apart := false }
def KernelFillSaid : Prop := kernelFillRow.holds Tryz.pinned (OpenSpec.ofChange kernelFillSpec)

/-- ITS FALSE NEIGHBOUR: 'it returns false'. Refute it at one input. -/
def kernelFillWrong : ChangeSpec := { name := "kernelFill", fn := fun _ => fun
  | [d] => { results := [.lit (.bool false)], args := [d] }
  | _ => none }
def KernelFillWrongFalsely : Prop := kernelFillRow.holds Tryz.pinned (OpenSpec.ofChange kernelFillWrong)

/-- 'graduslaw6.KernelAdd': WHATEVER THE INPUT: true; the input reads as it did. -/
def kernelAddSpec : ChangeSpec := { name := "kernelAdd", fn := fun _ => fun
  | [d] => { results := [.lit (.bool true)], args := [d] }
  | _ => none }
def kernelAddRow : OpenClaim := { program := "ytheddpjaihhbdaagreat", sum := "5deff47660cdc789d92294e627501786af0e0165747a71331e192c40dc14cdea", func := "gradus/graduslaw6.KernelAdd", spec := "kernelAdd", inPlace := ["internal/abi.NoEscape", "internal/bytealg.MakeNoZero"], unfollowed := true, recurses := true, apart := false }
def KernelAddSaid : Prop := kernelAddRow.holds Tryz.pinned (OpenSpec.ofChange kernelAddSpec)

/-- ITS FALSE NEIGHBOUR: 'it returns false'. Refute it at one input. -/
def kernelAddWrong : ChangeSpec := { name := "kernelAdd", fn := fun _ => fun
  | [d] => { results := [.lit (.bool false)], args := [d] }
  | _ => none }
def KernelAddWrongFalsely : Prop := kernelAddRow.holds Tryz.pinned (OpenSpec.ofChange kernelAddWrong)

/- THE SECOND FORM. 'bulk': how many values and letters a reading holds, each counted each time it is reached (what is shared counts as often as it is met; a slice's spare places count too). A statement '..UptoSaid' is the law's where the arguments, and the package variables that the reading takes, are together of bulk at most 1048576: NARROWER than '..Said'. Prove '..Said' where nothing that the law and all that it calls make is longer than what came in: it says more and counts as full. Else prove '..UptoSaid'. A law counts once. -/
mutual
def uptoBulk {H : Type} : DataW H → Nat
  | .lit (.string bytes) => bytes.length + 1
  | .lit _ => 1
  | .nil => 1
  | .ptr d => uptoBulk d + 1
  | .slice elems spare => uptoBulkAll elems + uptoBulkAll spare + 1
  | .agg parts => uptoBulkAll parts + 1
  | .iface _ d => uptoBulk d + 1
  | .map entries => uptoBulkEntries entries + 1
  | .held _ => 1
def uptoBulkAll {H : Type} : List (DataW H) → Nat
  | [] => 0
  | d :: r => uptoBulk d + uptoBulkAll r
def uptoBulkEntries {H : Type} : List (Lit × DataW H) → Nat
  | [] => 0
  | x :: r => uptoBulkEntry x + uptoBulkEntries r
def uptoBulkEntry {H : Type} : Lit × DataW H → Nat
  | (.string bytes, d) => bytes.length + uptoBulk d + 1
  | (_, d) => uptoBulk d + 1
 end
def uptoSmall : (H : Type) → List (DataW H) → Bool := fun _ ds => decide (uptoBulkAll ds ≤ 1048576)
def OpenSpec.upto (s : _root_.Go.ChangeSpec) : _root_.Go.OpenSpec := { _root_.Go.OpenSpec.ofChange s with cond := some uptoSmall }

/-- 'graduslaw6.KernelAny', WHERE WHAT IT READS IS OF BULK AT MOST 1048576: true; the input reads as it did. -/
def kernelAnyUptoRow : OpenClaim := { program := "ytheddpjaihhbdaagreat", sum := "5deff47660cdc789d92294e627501786af0e0165747a71331e192c40dc14cdea", func := "gradus/graduslaw6.KernelAny", spec := "kernelAny", inPlace := ["internal/abi.NoEscape", "internal/bytealg.MakeNoZero"], unfollowed := true, recurses := true, apart := false, narrowed := true }
def KernelAnyUptoSaid : Prop := kernelAnyUptoRow.holds Tryz.pinned (OpenSpec.upto kernelAnySpec)

/-- 'graduslaw6.KernelIn', WHERE WHAT IT READS IS OF BULK AT MOST 1048576: true; the input reads as it did. -/
def kernelInUptoRow : OpenClaim := { program := "ytheddpjaihhbdaagreat", sum := "5deff47660cdc789d92294e627501786af0e0165747a71331e192c40dc14cdea", func := "gradus/graduslaw6.KernelIn", spec := "kernelIn", inPlace := ["internal/abi.NoEscape", "internal/bytealg.MakeNoZero"], unfollowed := true, recurses := true, apart := false, narrowed := true }
def KernelInUptoSaid : Prop := kernelInUptoRow.holds Tryz.pinned (OpenSpec.upto kernelInSpec)

/-- 'graduslaw6.KernelParam', WHERE WHAT IT READS IS OF BULK AT MOST 1048576: true; the input reads as it did. -/
def kernelParamUptoRow : OpenClaim := { program := "ytheddpjaihhbdaagreat", sum := "5deff47660cdc789d92294e627501786af0e0165747a71331e192c40dc14cdea", func := "gradus/graduslaw6.KernelParam", spec := "kernelParam", inPlace := ["internal/abi.NoEscape", "internal/bytealg.MakeNoZero"], unfollowed := true, recurses := true, apart := false, narrowed := true }
def KernelParamUptoSaid : Prop := kernelParamUptoRow.holds Tryz.pinned (OpenSpec.upto kernelParamSpec)

/-- 'graduslaw6.KernelFill', WHERE WHAT IT READS IS OF BULK AT MOST 1048576: true; the input reads as it did. -/
def kernelFillUptoRow : OpenClaim := { program := "ytheddpjaihhbdaagreat", sum := "5deff47660cdc789d92294e627501786af0e0165747a71331e192c40dc14cdea", func := "gradus/graduslaw6.KernelFill", spec := "kernelFill", inPlace := ["internal/abi.NoEscape", "internal/bytealg.MakeNoZero"], unfollowed := true, recurses := true, apart := false, narrowed := true }
def KernelFillUptoSaid : Prop := kernelFillUptoRow.holds Tryz.pinned (OpenSpec.upto kernelFillSpec)

/-- 'graduslaw6.KernelAdd', WHERE WHAT IT READS IS OF BULK AT MOST 1048576: true; the input reads as it did. -/
def kernelAddUptoRow : OpenClaim := { program := "ytheddpjaihhbdaagreat", sum := "5deff47660cdc789d92294e627501786af0e0165747a71331e192c40dc14cdea", func := "gradus/graduslaw6.KernelAdd", spec := "kernelAdd", inPlace := ["internal/abi.NoEscape", "internal/bytealg.MakeNoZero"], unfollowed := true, recurses := true, apart := false, narrowed := true }
def KernelAddUptoSaid : Prop := kernelAddUptoRow.holds Tryz.pinned (OpenSpec.upto kernelAddSpec)

end Rows
end Go.Proofs.YtheddpjaihhbdaaGreat
