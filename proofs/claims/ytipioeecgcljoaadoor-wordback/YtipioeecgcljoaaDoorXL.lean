/- What the rows list of the library's variables, read; a world that holds it. -/
import Derived.Test.YtipioeecgcljoaaDoorCards
import Derived.Test.YtipioeecgcljoaaDoorTie
import Derived.Test.YtipioeecgcljoaaDoorX9
import Derived.Test.YtipioeecgcljoaaDoorW11
import Derived.Lib.LaidTab
import Derived.Lib.LaidU8
import Derived.PinnedBridge
import Derived.Deep.DeepHandedRow
import Derived.WalkKit
import Derived.ProofKit
import Derived.OpenShut
namespace Go.Proofs.YtipioeecgcljoaaDoor
set_option linter.unusedVariables false
set_option maxRecDepth 100000
open Go.ChangeShapes Go.WideShapes Go.ChangeAt Go.RowKit Go.Lib

theorem own : ownKnob Tryd.prog.godebug = none := by kernel_rfl
theorem laidOut : laidOutB Tryd.prog = true := by kernel_rfl
theorem tab_of_reads {P : Program} {W : World} {name : String} {k : IntKind} {zs : List Int} {g : Nat} {t e : TypeId} {n : Nat}
    (hg : P.globalNamed name = some g) (hgt : (P.globals[g]?).map (·.type) = some t) (ht : P.underlying t = some (.array n e)) (he : P.underlying e = some (.int k)) (hce : P.cellsOf e = 1) (hct : P.cellsOf t = n)
    (h : VarReads P W name (tabData k zs)) : TabIs P W name k zs := by
  obtain ⟨g', t', cs, fuel, p, hg', ht', hvar, hd⟩ := h
  obtain rfl := Option.some.inj (hg.symm.trans hg')
  obtain rfl := Option.some.inj (hgt.symm.trans ht')
  unfold TabIs
  rw [hvar, ← cells_of_tab ht he hce hct hd]
theorem powType : (Tryd.prog.globals[3]?).map (·.type) = some 90 := by kernel_rfl
theorem cellsU64 : Tryd.prog.cellsOf 81 = 1 := by kernel_rfl
theorem cellsPow : Tryd.prog.cellsOf 90 = 20 := by kernel_rfl
theorem u8x : U8Extra Tryd.prog Tryd.lays260_ren := ⟨by kernel_rfl, by kernel_rfl, by kernel_rfl, by kernel_rfl, by kernel_rfl, by kernel_rfl, by kernel_rfl⟩
theorem pow_met {W : World} (h : VarReads Tryd.prog W "internal/strconv.uint64pow10" Rows.laid_internal_strconv_uint64pow10) : PowT W :=
  tab_of_reads powG powType Tryd.underlying90 Tryd.underlying81 cellsU64 cellsPow h
theorem utf_met {W : World} (h : VarReads Tryd.prog W "unicode/utf8.first" Rows.laid_unicode_utf8_first) (h2 : VarReads Tryd.prog W "unicode/utf8.acceptRanges" Rows.laid_unicode_utf8_acceptRanges) : Lib.Utf8Tabs 0 1 W := by
  have h' : VarReads Tryd.prog W "unicode/utf8.first" firstData := by
    have e : Rows.laid_unicode_utf8_first = firstData := Pinned.utf8First_eq
    rw [e] at h
    exact h
  exact utf8Tabs_of_reads Tryd.lays260 u8x h' h2
theorem parts_met {W : World} (h : laidMetH Tryd.prog Rows.wordPartsRow.laid W) (hs : W.ShapedOpen Tryd.prog) : Tabs3 W :=
  ⟨utf_met (Lib.laidMet.reads h (.tail _ (.tail _ (.tail _ (.tail _ (.head _)))))) (Lib.laidMet.reads h (.tail _ (.tail _ (.tail _ (.head _))))), pow_met (Lib.laidMet.reads h (.tail _ (.tail _ (.head _)))), Tryd.laysM145.s1_3 W hs⟩
theorem bytes_met {W : World} (h : laidMetH Tryd.prog Rows.wordBytesRow.laid W) : Lib.Utf8Tabs 0 1 W :=
  utf_met (Lib.laidMet.reads h (.tail _ (.head _))) (Lib.laidMet.reads h (.head _))
theorem back_met {W : World} (h : laidMetH Tryd.prog Rows.wordBackRow.laid W) : PowT W := pow_met (Lib.laidMet.reads h (.tail _ (.tail _ (.head _))))
theorem numbers_met {W : World} (h : laidMetH Tryd.prog Rows.wordNumbersRow.laid W) : PowT W := pow_met (Lib.laidMet.reads h (.tail _ (.tail _ (.head _))))

/-- What a listed table is, cell by cell. -/
def litV {H : Type} : DataW H → List Value
  | .lit (.int k z) => [.int k z]
  | .agg l => l.flatMap fun x => match x with
    | .lit (.int k z) => [.int k z]
    | _ => []
  | _ => []
def cellsV {H : Type} : DataW H → Array Value
  | .agg l => (l.flatMap litV).toArray
  | _ => #[]
def putV (c : Array Value) : Obj → Obj
  | .cells _ t frozen => .cells c t frozen
  | o => o
noncomputable def laidWorld (os : Os) : World :=
  { World.holding Tryd.prog os ⟨#[], #[], []⟩ with heap := (((((World.holding Tryd.prog os ⟨#[], #[], []⟩).heap.modify 4 (putV (cellsV (H := Unit) Rows.laid_math_bits_deBruijn32tab))).modify 5 (putV (cellsV (H := Unit) Rows.laid_math_bits_deBruijn64tab))).modify 3 (putV (cellsV (H := Unit) Rows.laid_internal_strconv_uint64pow10))).modify 1 (putV (cellsV (H := Unit) Rows.laid_unicode_utf8_acceptRanges))).modify 0 (putV (cellsV (H := Unit) Rows.laid_unicode_utf8_first)) }
theorem partsW_met (os : Os) : laidMet Tryd.prog Rows.wordPartsRow.laid ((laidWorld os).forCall (fun _ _ => 0) ⟨#[], #[.agg #[.slice none 0 0, .slice none 0 0]], []⟩).memory :=
  laidMet_of_run' 8 (by kernel_rfl) (by kernel_rfl)
theorem bytesW_met (os : Os) : laidMet Tryd.prog Rows.wordBytesRow.laid ((laidWorld os).forCall (fun _ _ => 0) ⟨#[], #[.agg #[.slice none 0 0, .slice none 0 0]], []⟩).memory :=
  laidMet_of_run' 8 (by kernel_rfl) (by kernel_rfl)
theorem backW_met (os : Os) : laidMet Tryd.prog Rows.wordBackRow.laid ((laidWorld os).forCall (fun _ _ => 0) ⟨#[], #[.agg #[.slice none 0 0, .slice none 0 0]], []⟩).memory :=
  laidMet_of_run' 8 (by kernel_rfl) (by kernel_rfl)
theorem numbersW_met (os : Os) : laidMet Tryd.prog Rows.wordNumbersRow.laid ((laidWorld os).forCall (fun _ _ => 0) ⟨#[], #[.agg #[.slice none 0 0, .slice none 0 0]], []⟩).memory :=
  laidMet_of_run' 8 (by kernel_rfl) (by kernel_rfl)
end Go.Proofs.YtipioeecgcljoaaDoor
