/-
  No cell of these rows narrows 'for every input' (looked for: loops, veiled, ifaces, maps, wideKeys, modest, calm, conditions, laid).
  DERIVED. THE GIVEN ROWS OF THIS SEAT. 4 by the template 'for every input the law returns true; each argument reads behind the call as it read before'; 0 by the template 'total and deterministic' (their statements: YtoocfoodnkikeaaTotals.lean).
  GIVEN WITH THE SEED: the statements are not yours to turn. If you find one false, say at which input.
  Laid BY PROGRAM, IN A SANDBOX (cutbox-rows.mjs): the forced cells as the released guide's own fill.sh prints them over the translation c266a4db31e2471f… (all of the seat's roots in one cut). By AI agents, Wed Nov 11 2026. No macro, syntax, notation, axiom, sorry.
-/
import Derived.Test.YtoocfoodnkikeaaChecked
import GoSem.Claim
import GoSem.ClaimJoined
import GoSem.ClaimMapViews
import Derived.JoinedTies
import Derived.KernelRfl
namespace Go.Proofs.Ytoocfoodnkikeaa
/- THE CELL 'sum', in the pinned program and in every row, IS THE sha256 OF THE DUMP (.gsa) THAT YtoocfoodnkikeaaProg.lean LOADS. Nothing in Lean hashes anything: it is a label: what it is worth is what the hold of that sum in a sandbox is worth. -/
noncomputable def Try.pinned : Pinned := { name := "ytoocfoodnkikeaa", sum := "c266a4db31e2471f4c86231de68993606f97a6d96bb786f09d28937501949cbc", checked := Try.checked }
namespace Rows
def none {H : Type} : Left H := { results := [], args := [] }

/-- 'graduslaw2.RingEach': WHATEVER THE INPUT: true; the input reads as it did. -/
def ringEachSpec : ChangeSpec := { name := "ringEach", fn := fun _ => fun
  | [d] => { results := [.lit (.bool true)], args := [d] }
  | _ => none }
def ringEachRow : OpenClaim := { program := "ytoocfoodnkikeaa", sum := "c266a4db31e2471f4c86231de68993606f97a6d96bb786f09d28937501949cbc", func := "gradus/graduslaw2.RingEach", spec := "ringEach", apart := false }
def RingEachSaid : Prop := ringEachRow.holds Try.pinned (OpenSpec.ofChange ringEachSpec)

/-- ITS FALSE NEIGHBOUR: 'it returns false'. Refute it at one input. -/
def ringEachWrong : ChangeSpec := { name := "ringEach", fn := fun _ => fun
  | [d] => { results := [.lit (.bool false)], args := [d] }
  | _ => none }
def RingEachWrongFalsely : Prop := ringEachRow.holds Try.pinned (OpenSpec.ofChange ringEachWrong)

/-- 'graduslaw2.RingScales': WHATEVER THE INPUT: true; the input reads as it did. -/
def ringScalesSpec : ChangeSpec := { name := "ringScales", fn := fun _ => fun
  | [d] => { results := [.lit (.bool true)], args := [d] }
  | _ => none }
def ringScalesRow : OpenClaim := { program := "ytoocfoodnkikeaa", sum := "c266a4db31e2471f4c86231de68993606f97a6d96bb786f09d28937501949cbc", func := "gradus/graduslaw2.RingScales", spec := "ringScales", apart := false }
def RingScalesSaid : Prop := ringScalesRow.holds Try.pinned (OpenSpec.ofChange ringScalesSpec)

/-- ITS FALSE NEIGHBOUR: 'it returns false'. Refute it at one input. -/
def ringScalesWrong : ChangeSpec := { name := "ringScales", fn := fun _ => fun
  | [d] => { results := [.lit (.bool false)], args := [d] }
  | _ => none }
def RingScalesWrongFalsely : Prop := ringScalesRow.holds Try.pinned (OpenSpec.ofChange ringScalesWrong)

/-- 'graduslaw2.RingLaws': WHATEVER THE INPUT: true; the input reads as it did. -/
def ringLawsSpec : ChangeSpec := { name := "ringLaws", fn := fun _ => fun
  | [d] => { results := [.lit (.bool true)], args := [d] }
  | _ => none }
def ringLawsRow : OpenClaim := { program := "ytoocfoodnkikeaa", sum := "c266a4db31e2471f4c86231de68993606f97a6d96bb786f09d28937501949cbc", func := "gradus/graduslaw2.RingLaws", spec := "ringLaws", apart := false }
def RingLawsSaid : Prop := ringLawsRow.holds Try.pinned (OpenSpec.ofChange ringLawsSpec)

/-- ITS FALSE NEIGHBOUR: 'it returns false'. Refute it at one input. -/
def ringLawsWrong : ChangeSpec := { name := "ringLaws", fn := fun _ => fun
  | [d] => { results := [.lit (.bool false)], args := [d] }
  | _ => none }
def RingLawsWrongFalsely : Prop := ringLawsRow.holds Try.pinned (OpenSpec.ofChange ringLawsWrong)

/-- 'graduslaw2.RingWraps': WHATEVER THE INPUT: true; the input reads as it did. -/
def ringWrapsSpec : ChangeSpec := { name := "ringWraps", fn := fun _ => fun
  | [d] => { results := [.lit (.bool true)], args := [d] }
  | _ => none }
def ringWrapsRow : OpenClaim := { program := "ytoocfoodnkikeaa", sum := "c266a4db31e2471f4c86231de68993606f97a6d96bb786f09d28937501949cbc", func := "gradus/graduslaw2.RingWraps", spec := "ringWraps", apart := false }
def RingWrapsSaid : Prop := ringWrapsRow.holds Try.pinned (OpenSpec.ofChange ringWrapsSpec)

/-- ITS FALSE NEIGHBOUR: 'it returns false'. Refute it at one input. -/
def ringWrapsWrong : ChangeSpec := { name := "ringWraps", fn := fun _ => fun
  | [d] => { results := [.lit (.bool false)], args := [d] }
  | _ => none }
def RingWrapsWrongFalsely : Prop := ringWrapsRow.holds Try.pinned (OpenSpec.ofChange ringWrapsWrong)

/- THE SECOND FORM. 'bulk': how many values and letters a reading holds, each counted each time it is reached (what is shared counts as often as it is met; a slice's spare places count too). A statement '..UptoSaid' is the law's where the arguments, and the package variables that the reading takes, are together of bulk at most 1048576: NARROWER than '..Said'. Prove '..Said' where nothing that the law and all that it calls make is longer than what came in: it says more and counts as full. Else prove '..UptoSaid'. A law counts once. -/
mutual
def uptoBulk {H : Type} : DataW H → Nat
  | .lit (.string bytes) => bytes.length + 1
  | .lit _ => 1
  | .nil => 1
  | .ptr d => uptoBulk d + 1
  | .slice elems spare => uptoBulkAll elems + uptoBulkAll spare + 1
  | .agg parts => uptoBulkAll parts + 1
  | .iface _ d => uptoBulk d + 1
  | .map entries => uptoBulkEntries entries + 1
  | .held _ => 1
def uptoBulkAll {H : Type} : List (DataW H) → Nat
  | [] => 0
  | d :: r => uptoBulk d + uptoBulkAll r
def uptoBulkEntries {H : Type} : List (Lit × DataW H) → Nat
  | [] => 0
  | x :: r => uptoBulkEntry x + uptoBulkEntries r
def uptoBulkEntry {H : Type} : Lit × DataW H → Nat
  | (.string bytes, d) => bytes.length + uptoBulk d + 1
  | (_, d) => uptoBulk d + 1
 end
def uptoSmall : (H : Type) → List (DataW H) → Bool := fun _ ds => decide (uptoBulkAll ds ≤ 1048576)
def OpenSpec.upto (s : _root_.Go.ChangeSpec) : _root_.Go.OpenSpec := { _root_.Go.OpenSpec.ofChange s with cond := some uptoSmall }

/-- 'graduslaw2.RingEach', WHERE WHAT IT READS IS OF BULK AT MOST 1048576: true; the input reads as it did. -/
def ringEachUptoRow : OpenClaim := { program := "ytoocfoodnkikeaa", sum := "c266a4db31e2471f4c86231de68993606f97a6d96bb786f09d28937501949cbc", func := "gradus/graduslaw2.RingEach", spec := "ringEach", apart := false, narrowed := true }
def RingEachUptoSaid : Prop := ringEachUptoRow.holds Try.pinned (OpenSpec.upto ringEachSpec)

/-- 'graduslaw2.RingScales', WHERE WHAT IT READS IS OF BULK AT MOST 1048576: true; the input reads as it did. -/
def ringScalesUptoRow : OpenClaim := { program := "ytoocfoodnkikeaa", sum := "c266a4db31e2471f4c86231de68993606f97a6d96bb786f09d28937501949cbc", func := "gradus/graduslaw2.RingScales", spec := "ringScales", apart := false, narrowed := true }
def RingScalesUptoSaid : Prop := ringScalesUptoRow.holds Try.pinned (OpenSpec.upto ringScalesSpec)

/-- 'graduslaw2.RingLaws', WHERE WHAT IT READS IS OF BULK AT MOST 1048576: true; the input reads as it did. -/
def ringLawsUptoRow : OpenClaim := { program := "ytoocfoodnkikeaa", sum := "c266a4db31e2471f4c86231de68993606f97a6d96bb786f09d28937501949cbc", func := "gradus/graduslaw2.RingLaws", spec := "ringLaws", apart := false, narrowed := true }
def RingLawsUptoSaid : Prop := ringLawsUptoRow.holds Try.pinned (OpenSpec.upto ringLawsSpec)

/-- 'graduslaw2.RingWraps', WHERE WHAT IT READS IS OF BULK AT MOST 1048576: true; the input reads as it did. -/
def ringWrapsUptoRow : OpenClaim := { program := "ytoocfoodnkikeaa", sum := "c266a4db31e2471f4c86231de68993606f97a6d96bb786f09d28937501949cbc", func := "gradus/graduslaw2.RingWraps", spec := "ringWraps", apart := false, narrowed := true }
def RingWrapsUptoSaid : Prop := ringWrapsUptoRow.holds Try.pinned (OpenSpec.upto ringWrapsSpec)

end Rows
end Go.Proofs.Ytoocfoodnkikeaa
