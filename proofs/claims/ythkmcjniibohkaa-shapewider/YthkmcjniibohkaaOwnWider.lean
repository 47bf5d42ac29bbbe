/- ShapeWider, as the program's shape package stands at this commit, answers true whatever Ask it is handed, and leaves it as it was. No condition. -/
import Derived.Test.YthkmcjniibohkaaWider
import Derived.Test.YthkmcjniibohkaaOpen
namespace Go.Proofs.Ythkmcjniibohkaa
set_option linter.unusedVariables false
open Go.ChangeShapes Go.WideShapes Go.ChangeAt Go.RowKit Go.Joins Go.Deep

set_option maxRecDepth 100000 in
theorem shapeWider_lifted (os : Os) (started : os.Started) (H : Type) (enc : TypeId × Value → H) :
    ReturnsInHanded {} Try.checked os 6 .any (Rows.shapeWiderSpec.pre6 enc Try.prog Try.f6 Rows.shapeWiderRow.domain false) (Rows.shapeWiderSpec.post enc Try.prog Try.f6 false true false false) := by
  refine returnsInHanded_of_change (C := Try.checked) own started (by kernel_rfl) Try.func6
    (ChangeSpec.witness6 (enc := enc) (C := Try.checked) false ⟨#[], #[.agg #[.slice none 0 0, .slice none 0 0, .slice none 0 0, .slice none 0 0]], []⟩ 8 (by kernel_rfl) (by kernel_rfl) (by kernel_rfl) (by kernel_rfl)) ?_
  intro W base args ds gs before hval0 hW _ _
  have hval : ∀ (j : Nat) t v, Try.f6.params[j]? = some t → args[j]? = some v → Value.okWide Try.prog W .any base t v := hval0
  have hW' := hW
  obtain ⟨p, q, hA0, hV, rfl, _, _⟩ := hW
  have hA : DataW.TrodAll enc Try.prog W 0 (fun _ => true) true Try.f6.params.toList args.toList ds p := hA0
  rw [Try.params6] at hA hval
  obtain ⟨v0, vs0, d0, ds0, p0, q0, hargs, rfl, rfl, h0, r0⟩ := trodAll_cons hA
  obtain ⟨rfl, rfl, rfl⟩ := trodAll_nil r0
  obtain rfl : args = #[v0] := by cases args; simp_all
  obtain ⟨rfl, rfl⟩ := trodVars_none hV
  have k0 := h0
  have lt0 : ∀ x ∈ p0, x.block < W.heap.size := by obtain ⟨m, hm⟩ := k0; exact DataW.trod_lt m _ _ _ hm
  obtain ⟨a0, n0, c0, f1, f2, f3, rfl, hn⟩ : ∃ a n c f1 f2 f3, v0 = .agg #[.slice a n c, f1, f2, f3] ∧ n ≤ maxLen := by
    obtain ⟨u0, u1, u2, u3, y0, y1, y2, y3, m, rfl, _, _, t0, _⟩ := open_agg4 Try.underlying26 (by kernel_rfl) cells26 (hval 0 26 v0 rfl rfl) h0
    rcases open_slice Try.underlying22 t0 with ⟨hcs, _⟩ | ⟨a, len, cap, _, _, _, _, hcs, _, h1, h2, _⟩
    · simp at hcs
      subst hcs
      exact ⟨_, _, _, _, _, _, rfl, Nat.zero_le _⟩
    · simp at hcs
      subst hcs
      exact ⟨_, _, _, _, _, _, rfl, by omega⟩
  clear hA0 hval0
  refine (shapeWider_any a0 n0 c0 f1 f2 f3 W hn).mono fun e W' ⟨he, bel⟩ => ?_
  subst he
  exact ⟨_, rfl, _, _, _, [], _, [], hW', trodAll_mk1 (shut_bool Try.underlying4 _), trodAll_cons_mk (Below.trod laidOut (by kernel_rfl) (of_decide_eq_true (by kernel_rfl)) k0 bel lt0) trodAll_mk0, rfl, bel.frame _, fun h => by cases h⟩

theorem shapeWider_holds : Rows.ShapeWiderSaid :=
  OpenClaim.holds_of_wide 6 Try.f6 rfl rfl rfl rfl rfl rfl rfl ⟨rfl, rfl, rfl, rfl, rfl⟩ rfl rfl rfl rfl rfl (by kernel_rfl) Try.func6 (by kernel_rfl)
    (of_decide_eq_true (by kernel_rfl)) (by unfold Func.isWrapper; first | (rw [if_pos (by decide +kernel)]; kernel_rfl) | (rw [if_neg (by decide +kernel)]; exact ⟨rfl, rfl⟩))
    (fun os started H enc _ => shapeWider_lifted os started H enc)
#print axioms shapeWider_holds
end Go.Proofs.Ythkmcjniibohkaa
