/- graduslaw8: its argument laid open: lists of nodes, lists of them, the whole. -/
import Derived.Test.YtjfkhfahpjdidaaQ10
namespace Go.Proofs.Ytjfkhfahpjdidaa
set_option linter.unusedVariables false
set_option linter.unusedSimpArgs false
set_option maxRecDepth 100000
open Go.ChangeShapes Go.WideShapes Go.ChangeAt Go.RowKit Go.Joins Go.Deep

section
variable {H : Type} {enc : TypeId × Value → H} {w : World}
theorem open_Nodes {fuel : Nat} {v : Value} {x : DataW H × List MemPlace} (h : DataW.trod enc Try.prog w 0 (fun _ => true) true fuel 28 [v] = some x) (hs : Szd 28 x.1) : ∃ L, NodesL w v L := by
  rcases open_slice Try.underlying28 h with ⟨hcs, _⟩ | ⟨a, len, cap, m, n, D, Pl, hcs, _, hl, hm, hz, hx, hcell⟩
  · simp at hcs
    subst hcs
    exact ⟨[], NodesL.nil _⟩
  · simp at hcs
    subst hcs
    simp at hz
    subst hz
    rw [hx] at hs
    have hq := szd_slice Try.underlying28 hs
    rw [bytesNode] at hq
    rw [cellsNode] at hcell
    have hb : len ≤ big := by
      have := hq.1
      simp [reachBytes] at this
      unfold big
      omega
    have key : ∀ i, i < len → ∃ (v0 v1 v2 v3 v4 : Value) (t : Nod), w.cells? 0 (a.add (i * 5)) 5 = some [v0, v1, v2, v3, v4] ∧ v0 = .string t.name ∧ v1 = .int .i64 t.kind ∧ Ints w v2 t.args ∧ Ints w v3 t.dims ∧ v4 = .int .i64 t.n ∧ t.name.size ≤ 140737488355327 := by
      intro i hi
      obtain ⟨cs', hc, ht⟩ := hcell i (by omega)
      obtain ⟨v0, v1, v2, v3, v4, t, rfl, h2⟩ := open_Node ht (hq.2 _ (by simp; exact ⟨i, hi, rfl⟩))
      exact ⟨v0, v1, v2, v3, v4, t, hc, h2⟩
    have hsome : ∀ i, ∃ t : Nod, i < len → ∃ v0 v1 v2 v3 v4, w.cells? 0 (a.add (i * 5)) 5 = some [v0, v1, v2, v3, v4] ∧ v0 = .string t.name ∧ v1 = .int .i64 t.kind ∧ Ints w v2 t.args ∧ Ints w v3 t.dims ∧ v4 = .int .i64 t.n ∧ t.name.size ≤ 140737488355327 := fun i => by
      by_cases hi : i < len
      · obtain ⟨v0, v1, v2, v3, v4, t, h1⟩ := key i hi
        exact ⟨t, fun _ => ⟨v0, v1, v2, v3, v4, h1⟩⟩
      · exact ⟨⟨⟨#[]⟩, 0, [], [], 0⟩, fun h => absurd h hi⟩
    refine ⟨(List.range len).map fun i => Classical.choose (hsome i), ?_, some a, m, ?_, ?_, ?_⟩
    · simpa using hb
    · rw [List.length_map, List.length_range]
    · simpa using hl
    · intro i hi
      have hi' : i < len := by simpa using hi
      obtain ⟨v0, v1, v2, v3, v4, hc, e0, e1, ha, hd, e4, hz⟩ := Classical.choose_spec (hsome i) hi'
      obtain ⟨v00, _, _, _, _, hc0, _⟩ := Classical.choose_spec (hsome 0) (by omega)
      have c0 := (World.cells?_some hc0)
      have c1 := (World.cells?_some hc)
      obtain ⟨b, off, spot⟩ := a
      have hsp : spot = none := by
        have h00 : w.cell? (((⟨b, off, spot⟩ : Addr).add (0 * 5)).add 0) = some v00 := by simpa using c0.2.2 0 (by omega)
        simpa [Addr.add] using World.cell?_spot h00
      subst hsp
      have k0 : w.cell? (((⟨b, off, none⟩ : Addr).add (i * 5)).add 0) = some v0 := by simpa using c1.2.2 0 (by omega)
      have k1 : w.cell? (((⟨b, off, none⟩ : Addr).add (i * 5)).add 1) = some v1 := by simpa using c1.2.2 1 (by omega)
      have k2 : w.cell? (((⟨b, off, none⟩ : Addr).add (i * 5)).add 2) = some v2 := by simpa using c1.2.2 2 (by omega)
      have k3 : w.cell? (((⟨b, off, none⟩ : Addr).add (i * 5)).add 3) = some v3 := by simpa using c1.2.2 3 (by omega)
      have k4 : w.cell? (((⟨b, off, none⟩ : Addr).add (i * 5)).add 4) = some v4 := by simpa using c1.2.2 4 (by omega)
      simp only [addr_add, Nat.add_zero] at k0 k1 k2 k3 k4
      rw [e0] at k0
      rw [e1] at k1
      rw [e4] at k4
      refine ⟨b, off, v2, v3, rfl, ?_⟩
      rw [List.getElem_map, List.getElem_range]
      exact ⟨k0, k1, k2, k3, k4, ha, hd, hz⟩
/-- A list of lists of nodes. -/
def NodesLL (w : World) (v : Value) (L : List (List Nod)) : Prop :=
  L.length ≤ big ∧ ∃ (a : Option Addr) (c : Nat), v = .slice a L.length c ∧ L.length ≤ c ∧ ∀ i (h : i < L.length), ∃ b off x, a = some ⟨b, off, none⟩ ∧ w.cell? ⟨b, off + i, none⟩ = some x ∧ NodesL w x L[i]
theorem NodesLL.later {w w' : World} {v : Value} {L : List (List Nod)} (h : NodesLL w v L) (hb : Below w.heap.size w w') : NodesLL w' v L := by
  obtain ⟨h0, a, c, rfl, h1, h2⟩ := h
  refine ⟨h0, a, c, rfl, h1, fun i hi => ?_⟩
  obtain ⟨b, off, x, e, hc, hn⟩ := h2 i hi
  exact ⟨b, off, x, e, cell_later hb hc, hn.later hb⟩
theorem open_NodesLL {fuel : Nat} {v : Value} {x : DataW H × List MemPlace} (h : DataW.trod enc Try.prog w 0 (fun _ => true) true fuel 22 [v] = some x) (hs : Szd 22 x.1) : ∃ L, NodesLL w v L := by
  rcases open_slice1 Try.underlying22 cellsNodes8 h with ⟨hcs, _⟩ | ⟨a, len, cap, m, n, V, D, Pl, hcs, _, hl, hm, hz, hx, hcell⟩
  · simp at hcs
    subst hcs
    exact ⟨[], Nat.zero_le _, none, 0, rfl, Nat.le_refl _, fun i hi => by simp at hi⟩
  · simp at hcs
    subst hcs
    simp at hz
    subst hz
    rw [hx] at hs
    have hq := szd_slice Try.underlying22 hs
    rw [show Try.prog.bytesOf 28 = 24 from by kernel_rfl] at hq
    have hb : len ≤ big := by
      have := hq.1
      simp [reachBytes] at this
      unfold big
      omega
    have hsome : ∀ i, ∃ d, i < len → NodesL w (V i) d := fun i => by
      by_cases hi : i < len
      · obtain ⟨d, hd⟩ := open_Nodes (hcell i (by omega)).2 (hq.2 _ (by simp; exact ⟨i, hi, rfl⟩))
        exact ⟨d, fun _ => hd⟩
      · exact ⟨[], fun h => absurd h hi⟩
    refine ⟨(List.range len).map fun i => Classical.choose (hsome i), ?_, some a, m, ?_, ?_, ?_⟩
    · simpa using hb
    · rw [List.length_map, List.length_range]
    · simpa using hl
    · intro i hi
      have hi' : i < len := by simpa using hi
      have hc := (hcell i (by omega)).1
      obtain ⟨b, off, spot⟩ := a
      have hsp : spot = none := by
        have hc0 := World.cell?_spot (hcell 0 (by omega)).1
        simpa [Addr.add] using hc0
      subst hsp
      rw [addr_add] at hc
      refine ⟨b, off, V i, rfl, hc, ?_⟩
      simp only [List.getElem_map, List.getElem_range]
      exact Classical.choose_spec (hsome i) hi'
theorem cellsAsk8 : Try.prog.cellsOf 26 = 3 := by kernel_rfl
theorem cellsNN8 : Try.prog.cellsOf 22 = 1 := by kernel_rfl
theorem cellsIL8 : Try.prog.cellsOf 24 = 1 := by kernel_rfl
/-- The whole of it: what graduslaw8's argument lays in memory. -/
theorem open_Ask8 {base : Nat} {v : Value} {d : DataW H} {p : List MemPlace} (hv : Value.okWide Try.prog w .any base 26 v) (h : DataW.Trod enc Try.prog w 0 (fun _ => true) true 26 v d p) (hs : Szd 26 d) :
    ∃ (f0 f1 f2 : Value) (T : List (List Nod)) (L : List Int) (D : List (List Int)), v = .agg #[f0, f1, f2] ∧ NodesLL w f0 T ∧ (Ints w f1 L ∧ L.length ≤ 17592186043904 ∧ Rg L) ∧ (IntsL w f2 D ∧ Nil0 f2) := by
  obtain ⟨cs, rfl, hsz⟩ := okWide_struct Try.underlying26 hv
  obtain ⟨c0, c1, c2, rfl⟩ := array3 (hsz.trans cellsAsk8)
  obtain ⟨fuel, hf⟩ := h
  obtain ⟨y0, y1, y2, n, hx, _, h0, h1, h2⟩ := trod_struct3 Try.underlying26 hf
  simp only [Prod.mk.injEq] at hx
  obtain ⟨rfl, rfl⟩ := hx
  have h0' : DataW.trod enc Try.prog w 0 (fun _ => true) true n 22 [c0] = some y0 := by simpa [Value.cells, cellsNN8] using h0
  have h1' : DataW.trod enc Try.prog w 0 (fun _ => true) true n 23 [c1] = some y1 := by simpa [Value.cells, cellsInts8] using h1
  have h2' : DataW.trod enc Try.prog w 0 (fun _ => true) true n 24 [c2] = some y2 := by simpa [Value.cells, cellsIL8] using h2
  have hw : ∀ q, (q ∈ y0.1.weights Try.prog 22 ∨ q ∈ y1.1.weights Try.prog 23 ∨ q ∈ y2.1.weights Try.prog 24) → q ≤ reachBytes := by
    intro q hq
    refine hs q ?_
    simp only [DataW.weights, Try.underlying26, DataW.weightsEach, List.map_cons, List.map_nil, List.mem_append, List.append_nil]
    exact hq
  obtain ⟨T, hT⟩ := open_NodesLL h0' (fun q hq => hw q (Or.inl hq))
  obtain ⟨L, hL, hR, hL8⟩ := open_Ints h1' (fun q hq => hw q (Or.inr (Or.inl hq)))
  obtain ⟨D, hD, hN⟩ := open_IntsL h2' (fun q hq => hw q (Or.inr (Or.inr hq)))
  exact ⟨c0, c1, c2, T, L, D, rfl, hT, ⟨hL, hL8, hR⟩, ⟨hD, hN⟩⟩
end
end Go.Proofs.Ytjfkhfahpjdidaa
