/- graduslaw6: its argument laid open. -/
import Derived.Test.YtheddpjaihhbdacGreatC27
import Derived.Deep.Strs
namespace Go.Proofs.YtheddpjaihhbdacGreat
set_option linter.unusedVariables false
set_option linter.unusedSimpArgs false
set_option maxRecDepth 100000
open Go.ChangeShapes Go.WideShapes Go.ChangeAt Go.RowKit Go.Joins Go.Deep
section
variable {H : Type} {enc : TypeId × Value → H} {w : World}
theorem cellsAsk6 : Tryz.prog.cellsOf 28 = 4 := by kernel_rfl
theorem cells22a : Tryz.prog.cellsOf 22 = 1 := by kernel_rfl
theorem cells23a : Tryz.prog.cellsOf 23 = 1 := by kernel_rfl
theorem cells26a : Tryz.prog.cellsOf 26 = 1 := by kernel_rfl
/-- The whole of it: what graduslaw6's argument lays in memory. -/
theorem open_Ask6 {base : Nat} {v : Value} {d : DataW H} {p : List MemPlace} (hv : Value.okWide Tryz.prog w .any base 28 v) (h : DataW.Trod enc Tryz.prog w 0 (fun _ => true) true 28 v d p) (hs : Szd 28 d) :
    ∃ (f0 f1 f2 f3 : Value) (T : List (List Int × List Int)) (L : List Int) (D : List (List Int)) (K : List Int), v = .agg #[f0, f1, f2, f3] ∧ TensL w f0 T ∧ (Ints w f1 L ∧ L.length ≤ 17592186043904) ∧ (IntsL w f2 D ∧ Nil0 f2) ∧ (Ints w f3 K ∧ K.length ≤ 17592186043904) := by
  obtain ⟨cs, rfl, hsz⟩ := okWide_struct Tryz.underlying28 hv
  obtain ⟨c0, c1, c2, c3, rfl⟩ := array4 (hsz.trans cellsAsk6)
  obtain ⟨fuel, hf⟩ := h
  obtain ⟨y0, y1, y2, n, hx, _, h0, h1, h2⟩ := trod_struct3 Tryz.underlying28 hf
  simp only [Prod.mk.injEq] at hx
  obtain ⟨rfl, rfl⟩ := hx
  have h0' : DataW.trod enc Tryz.prog w 0 (fun _ => true) true n 25 [c0, c1] = some y0 := by simpa [Value.cells, cellsAsk] using h0
  have h1' : DataW.trod enc Tryz.prog w 0 (fun _ => true) true n 26 [c2] = some y1 := by simpa [Value.cells, cells26a] using h1
  have h2' : DataW.trod enc Tryz.prog w 0 (fun _ => true) true n 23 [c3] = some y2 := by simpa [Value.cells, cells23a] using h2
  obtain ⟨z0, z1, m, rfl, _, k0, k1⟩ := trod_struct2 Tryz.underlying25 h0'
  have k0' : DataW.trod enc Tryz.prog w 0 (fun _ => true) true m 22 [c0] = some z0 := by simpa [cells22a] using k0
  have k1' : DataW.trod enc Tryz.prog w 0 (fun _ => true) true m 23 [c1] = some z1 := by simpa [cells23a] using k1
  have hw : ∀ q, (q ∈ z0.1.weights Tryz.prog 22 ∨ q ∈ z1.1.weights Tryz.prog 23 ∨ q ∈ y1.1.weights Tryz.prog 26 ∨ q ∈ y2.1.weights Tryz.prog 23) → q ≤ reachBytes := by
    intro q hq
    refine hs q ?_
    simp only [DataW.weights, Tryz.underlying28, Tryz.underlying25, DataW.weightsEach, List.map_cons, List.map_nil, List.mem_append, List.append_nil]
    rcases hq with hq | hq | hq | hq
    · exact Or.inl (Or.inl hq)
    · exact Or.inl (Or.inr hq)
    · exact Or.inr (Or.inl hq)
    · exact Or.inr (Or.inr hq)
  obtain ⟨T, hT, _⟩ := open_TensL k0' (fun q hq => hw q (Or.inl hq))
  obtain ⟨L, hL, _, hL8⟩ := open_Ints k1' (fun q hq => hw q (Or.inr (Or.inl hq)))
  obtain ⟨D, hD, hN⟩ := open_IntsL h1' (fun q hq => hw q (Or.inr (Or.inr (Or.inl hq))))
  obtain ⟨K, hK, _, hK8⟩ := open_Ints h2' (fun q hq => hw q (Or.inr (Or.inr (Or.inr hq))))
  exact ⟨c0, c1, c2, c3, T, L, D, K, rfl, hT, ⟨hL, hL8⟩, ⟨hD, hN⟩, ⟨hK, hK8⟩⟩
end
end Go.Proofs.YtheddpjaihhbdacGreat
