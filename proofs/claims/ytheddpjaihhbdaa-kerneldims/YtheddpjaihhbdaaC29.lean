/- Carried: Ac, E0, K7, K8, L0. -/
import Derived.Test.YtheddpjaihhbdaaC28
namespace Go.Proofs.Ytheddpjaihhbdaa
set_option linter.unusedVariables false
set_option linter.unusedSimpArgs false
set_option maxRecDepth 100000
open Go.RowKit

theorem sub_to {a0 a1 b0 b1 : Value} {s t : Ten} {w : World} (x : Int) (u : Ten) (ha : Tens w a0 a1 s) (hb' : Tens w b0 b1 t) (hx : fitE s t = x) (hu : eachR opS s t = u) :
    Calls Try.prog 25 #[.agg #[a0, a1], .agg #[b0, b1]] w fun e w' => ∃ x0 x1, e = .returned (.tuple #[.agg #[x0, x1], .int .i64 x]) ∧ OwnT w' w.heap.size x0 x1 u ∧ Below w.heap.size w w' := by
  subst hx hu
  exact sub_any ha hb'
theorem neg_to {a0 a1 : Value} {s : Ten} {w : World} (x : Int) (u : Ten) (ha : Tens w a0 a1 s) (hx : fitE s s = x) (hu : eachR opN s s = u) :
    Calls Try.prog 27 #[.agg #[a0, a1]] w fun e w' => ∃ x0 x1, e = .returned (.tuple #[.agg #[x0, x1], .int .i64 x]) ∧ OwnT w' w.heap.size x0 x1 u ∧ Below w.heap.size w w' := by
  subst hx hu
  exact neg_any ha
theorem scale_to {a0 a1 : Value} {s : Ten} {w : World} (n x : Int) (ha : Tens w a0 a1 s) (hx : tkE s = x) :
    Calls Try.prog 28 #[.agg #[a0, a1], .int .i64 n] w fun e w' => ∃ x0 x1, e = .returned (.tuple #[.agg #[x0, x1], .int .i64 x]) ∧ OwnT w' w.heap.size x0 x1 (sclR n s) ∧ Below w.heap.size w w' := by
  subst hx
  exact scale_any n ha
end Go.Proofs.Ytheddpjaihhbdaa
