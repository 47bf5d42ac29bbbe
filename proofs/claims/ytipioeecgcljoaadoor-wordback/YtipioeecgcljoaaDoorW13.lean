/- The law on parts: the walk, over what word does. -/
import Derived.Test.YtipioeecgcljoaaDoorW11
import Derived.Test.YtipioeecgcljoaaDoorW12
namespace Go.Proofs.YtipioeecgcljoaaDoor
set_option linter.unusedVariables false
set_option linter.unusedSimpArgs false
set_option maxRecDepth 100000
open Go.RowKit

theorem err_cases (b : Bool) (n : Int) (hn : ¬ n = 0) : ∃ e : Int, (if b = true then (0 : Int) else n) = e ∧ ((e = 0 ∧ b = true) ∨ (e = n ∧ b = false)) := by
  cases b with
  | true => exact ⟨0, by simp, Or.inl ⟨rfl, rfl⟩⟩
  | false => exact ⟨n, by simp, Or.inr ⟨rfl, rfl⟩⟩
theorem numK_size {l : List UInt8} (h : numK l = true) : l.length ≤ 11 := by
  have hp : numP l := by simpa [numK] using h
  have h1 := hp.2.1
  cases l with
  | nil => simp
  | cons c r =>
    simp only [numD] at h1
    split at h1
    · simp only [List.length_cons]; omega
    · simp only [List.length_cons] at h1 ⊢; omega
end Go.Proofs.YtipioeecgcljoaaDoor
