/- graduslaw8: its argument laid open. -/
import Derived.Test.YtjfkhfahpjdidaaQ6
import Derived.Deep.Strs
namespace Go.Proofs.Ytjfkhfahpjdidaa
set_option linter.unusedVariables false
set_option linter.unusedSimpArgs false
set_option maxRecDepth 100000
open Go.ChangeShapes Go.WideShapes Go.ChangeAt Go.RowKit Go.Joins Go.Deep

theorem cellsNode : Try.prog.cellsOf 42 = 5 := by kernel_rfl
theorem bytesNode : Try.prog.bytesOf 42 = 80 := by kernel_rfl
theorem cellsStr8 : Try.prog.cellsOf 9 = 1 := by kernel_rfl
theorem cellsInt8 : Try.prog.cellsOf 3 = 1 := by kernel_rfl
theorem cellsInts8 : Try.prog.cellsOf 23 = 1 := by kernel_rfl
theorem cellsNodes8 : Try.prog.cellsOf 28 = 1 := by kernel_rfl
section
variable {H : Type} {enc : TypeId × Value → H} {w : World}
theorem trod_struct5 {t : TypeId} {f0 f1 f2 f3 f4 : Field} {fuel : Nat} {cs : List Value} {x : DataW H × List MemPlace} {P : Program} {base : Nat} {spare : Nat → Bool} {held : Bool} (ht : P.underlying t = some (.struct #[f0, f1, f2, f3, f4])) (h : DataW.trod enc P w base spare held fuel t cs = some x) :
    ∃ y0 y1 y2 y3 y4 n, x = (.agg [y0.1, y1.1, y2.1, y3.1, y4.1], y0.2 ++ (y1.2 ++ (y2.2 ++ (y3.2 ++ y4.2)))) ∧ cs.length = P.cellsOf t ∧ DataW.trod enc P w base spare held n f0.type ((cs.drop f0.offset).take (P.cellsOf f0.type)) = some y0 ∧
      DataW.trod enc P w base spare held n f1.type ((cs.drop f1.offset).take (P.cellsOf f1.type)) = some y1 ∧ DataW.trod enc P w base spare held n f2.type ((cs.drop f2.offset).take (P.cellsOf f2.type)) = some y2 ∧
      DataW.trod enc P w base spare held n f3.type ((cs.drop f3.offset).take (P.cellsOf f3.type)) = some y3 ∧ DataW.trod enc P w base spare held n f4.type ((cs.drop f4.offset).take (P.cellsOf f4.type)) = some y4 := by
  obtain ⟨xs, n, _, rfl, hl, hlen, hf⟩ := DataW.trod_struct ht h
  match xs, hlen with
  | [y0, y1, y2, y3, y4], _ => exact ⟨y0, y1, y2, y3, y4, n, by simp, hl, by simpa using hf 0 f0 rfl, by simpa using hf 1 f1 rfl, by simpa using hf 2 f2 rfl, by simpa using hf 3 f3 rfl, by simpa using hf 4 f4 rfl⟩
theorem open_Node {fuel : Nat} {cs : List Value} {x : DataW H × List MemPlace} (h : DataW.trod enc Try.prog w 0 (fun _ => true) true fuel 42 cs = some x) (hs : Szd 42 x.1) :
    ∃ v0 v1 v2 v3 v4, ∃ t : Nod, cs = [v0, v1, v2, v3, v4] ∧ v0 = .string t.name ∧ v1 = .int .i64 t.kind ∧ Ints w v2 t.args ∧ Ints w v3 t.dims ∧ v4 = .int .i64 t.n ∧ t.name.size ≤ 140737488355327 := by
  obtain ⟨y0, y1, y2, y3, y4, n, rfl, hl, h0, h1, h2, h3, h4⟩ := trod_struct5 Try.underlying42 h
  rw [cellsNode] at hl
  match cs, hl with
  | [v0, v1, v2, v3, v4], _ =>
    simp only [cellsStr8, cellsInt8, cellsInts8] at h0 h1 h2 h3 h4
    simp at h0 h1 h2 h3 h4
    obtain ⟨s, e0, ex0, hz⟩ := DataW.trod_string Try.underlying9 h0
    obtain ⟨k, e1, ex1, _⟩ := DataW.trod_int Try.underlying3 h1
    obtain ⟨m, e4, ex4, _⟩ := DataW.trod_int Try.underlying3 h4
    have s2 : Szd 23 y2.1 := fun n hn => hs n (by simp [DataW.weights, Try.underlying42, DataW.weightsEach]; exact Or.inr (Or.inr (Or.inl hn)))
    have s3 : Szd 23 y3.1 := fun n hn => hs n (by simp [DataW.weights, Try.underlying42, DataW.weightsEach]; exact Or.inr (Or.inr (Or.inr (Or.inl hn))))
    have s0 : s.size ≤ 140737488355327 := by
      have := hs s.size (by simp [DataW.weights, Try.underlying42, DataW.weightsEach, ex0, Try.underlying9])
      simp [reachBytes] at this
      omega
    obtain ⟨d2, i2, _, _⟩ := open_Ints h2 s2
    obtain ⟨d3, i3, _, _⟩ := open_Ints h3 s3
    simp only [List.cons.injEq, and_true] at e0 e1 e4
    exact ⟨v0, v1, v2, v3, v4, ⟨s, k, d2, d3, m⟩, rfl, e0, e1, i2, i3, e4, s0⟩
end
end Go.Proofs.Ytjfkhfahpjdidaa
