/- Lists of nodes that one call makes, appends to and writes into. -/
import Derived.Test.YtjfkhfahpjdidaaG0
namespace Go.Proofs.Ytjfkhfahpjdidaa
set_option linter.unusedVariables false
set_option linter.unusedSimpArgs false
set_option maxRecDepth 100000
open Go.RowKit

/-- Small, by one look. -/
def smallB (L : List Nod) : Bool := decide (L.length ≤ 1000000) && L.all fun t => decide (t.args.length ≤ 1000000) && decide (t.dims.length ≤ 1000000) && decide (t.name.size ≤ 1000000)
theorem small8_of {L : List Nod} (h : smallB L = true) : Small L := by
  simp only [smallB, Bool.and_eq_true, decide_eq_true_eq, List.all_eq_true] at h
  refine ⟨h.1, fun i hi => ?_, fun i hi => ?_, fun i hi => ?_⟩
  · exact (h.2 _ (List.getElem_mem hi)).1.1
  · exact (h.2 _ (List.getElem_mem hi)).1.2
  · exact (h.2 _ (List.getElem_mem hi)).2
/-- append of one node in a box of its own. -/
theorem wpList_app_node {ops : Array Oper} {rest : List Oper} {o : Oper} {a : Act} {Q : Exit → Act → World → Prop} (w0 : World) (t : Nod) (x y : Value)
    (hgd : o.guard = none) (s xo : Operand) (ho : o.op = .call { callee := .builtin .append, args := #[s, xo], argTypes := #[28, 28] })
    (B : Nat) (L : List Nod) (xs : List Value) (vs : Value) (hs : a.eval s = vs) (hR : RowN w0 B vs L xs)
    (b : Nat) (hx : a.eval xo = .slice (some ⟨b, 0, none⟩) 1 1) (hb0 : w0.heap.size = b) (ex : Elt w0 vs.ownBlock x t.args) (ey : Elt w0 vs.ownBlock y t.dims) (hz : t.name.size ≤ 140737488355327) (hlen : L.length ≤ 1000) (hB : B ≤ w0.heap.size)
    (hK : ∀ g cap w' xs', RowN w' B (.slice (some ⟨g, 0, none⟩) (L.length + 1) cap) (L ++ [t]) xs' → Below B w0 w' → wpList Try.prog ops Q rest (a.put o.dst (.slice (some ⟨g, 0, none⟩) (L.length + 1) cap)) w') :
    wpList Try.prog ops Q (o :: rest) a (w0.alloc (.cells #[.string t.name, .int .i64 t.kind, x, y, .int .i64 t.n] 42)) := by
  subst hb0
  obtain ⟨iT, hi, hz0, hz1, hz2⟩ := infoN
  obtain ⟨xa, xn, xc, rfl⟩ := ex.1.shape3
  obtain ⟨ya, yn, yc, rfl⟩ := ey.1.shape3
  have hp : Below w0.heap.size w0 (w0.alloc (.cells #[.string t.name, .int .i64 t.kind, .slice xa xn xc, .slice ya yn yc, .int .i64 t.n] 42)) := Below.push (Below.refl _ _) _
  refine wpList_append_lies _ hgd s xo 28 ho B 42 iT (.agg #[.string ⟨#[]⟩, .int .i64 0, .slice none 0 0, .slice none 0 0, .int .i64 0]) 5 80 Try.underlying28 hi hz0 hz1 hz2 rfl (by decide) vs L.length xs hs (hR.later hp).own ⟨w0.heap.size, 0, none⟩ 1 1 [.string t.name, .int .i64 t.kind, .slice xa xn xc, .slice ya yn yc, .int .i64 t.n] hx rfl
    (World.news_of_block (heap_alloc_new w0 (.cells #[.string t.name, .int .i64 t.kind, .slice xa xn xc, .slice ya yn yc, .int .i64 t.n] 42))) (by intro u hu; simp only [List.mem_cons, List.not_mem_nil, or_false] at hu; rcases hu with rfl | rfl | rfl | rfl | rfl <;> rfl) (by decide) (by unfold maxLen; omega) (by omega) (by simp; omega) (w0.heap.size + 1) (by simp) ?_
  intro g cap w2 ho2 hg hat hlt2
  refine hK g cap w2 _ (RowN.app (E := [t]) (m := 1) (hR.later hp) rfl (news := [.string t.name, .int .i64 t.kind, .slice xa xn xc, .slice ya yn yc, .int .i64 t.n]) (fun i hi => by
    have h0 : i = 0 := by simp at hi; omega
    subst h0
    exact ⟨_, _, rfl, rfl, rfl, rfl, rfl, Elt.later hp ex, Elt.later hp ey, hz⟩) ho2 hg (by
    rcases hat with h | h
    · exact Or.inl h.symm
    · exact Or.inr (by rw [h]; simp [Value.ownBlock]))) (((Below.refl B w0).alloc hB _).grown hg (by simp; omega) (fun q hq => (hR.lt q hq).1))
/-- A list of one's own, its block laid open. -/
structure RowG (w : World) (g : Nat) (arr : Array Value) (L : List Nod) : Prop where
  blk : w.heap[g]? = some (.cells arr 42 (0, 0))
  sz : L.length * 5 ≤ arr.size
  elt : ∀ i (h : i < L.length), ∃ x y, arr[i * 5]? = some (.string L[i].name) ∧ arr[i * 5 + 1]? = some (.int .i64 L[i].kind) ∧ arr[i * 5 + 2]? = some x ∧ arr[i * 5 + 3]? = some y ∧ arr[i * 5 + 4]? = some (.int .i64 L[i].n) ∧ Elt w (some g) x L[i].args ∧ Elt w (some g) y L[i].dims ∧ L[i].name.size ≤ 140737488355327
theorem RowN.rowG {w : World} {B g n c : Nat} {L : List Nod} {xs : List Value} (h : RowN w B (.slice (some ⟨g, 0, none⟩) n c) L xs) : ∃ arr, RowG w g arr L ∧ n = L.length ∧ n ≤ c := by
  have hc := h.own
  rcases h.own.2 with ⟨e, _⟩ | ⟨g', cap, cur, e, h1, hh, h2, h3, h4, h5⟩
  · simp at e
  · simp only [Value.slice.injEq, Option.some.injEq, Addr.mk.injEq] at e
    obtain ⟨⟨rfl, _, _⟩, rfl, rfl⟩ := e
    refine ⟨cur, ⟨hh, by rw [h4]; exact Nat.mul_le_mul_right 5 h2, fun i hi => ?_⟩, rfl, h2⟩
    obtain ⟨x, y, e0, e1, e2, e3, e4, ha, hd, hz⟩ := h.elt i hi
    have key : ∀ {j : Nat} {u : Value}, xs[j]? = some u → cur[j]? = some u := fun {j u} hj => by
      have := hc.cells (g := g) rfl _ _ hj
      rw [addr_add, Nat.zero_add, cell_of_row w g j cur _ _ hh] at this
      exact this
    exact ⟨x, y, key e0, key e1, key e2, key e3, key e4, ha, hd, hz⟩
theorem RowG.nodesL {w : World} {g c : Nat} {arr : Array Value} {L : List Nod} (h : RowG w g arr L) (hc : L.length ≤ c) (hb : L.length ≤ big) : NodesL w (.slice (some ⟨g, 0, none⟩) L.length c) L := by
  refine ⟨hb, some ⟨g, 0, none⟩, c, rfl, hc, fun i hi => ?_⟩
  obtain ⟨x, y, e0, e1, e2, e3, e4, ha, hd, hz⟩ := h.elt i hi
  have key : ∀ {j : Nat} {u : Value}, arr[j]? = some u → w.cell? ⟨g, j, none⟩ = some u := fun {j u} hj => by rw [cell_of_row w g j arr _ _ h.blk]; exact hj
  exact ⟨g, 0, x, y, rfl, by rw [Nat.zero_add]; exact key e0, by rw [Nat.zero_add]; exact key e1, by rw [Nat.zero_add]; exact key e2, by rw [Nat.zero_add]; exact key e3, by rw [Nat.zero_add]; exact key e4, ha.1, hd.1, hz⟩
theorem Elt.own {w : World} {g j : Nat} {x u : Value} {d : List Int} (h : Elt w (some g) x d) : Elt (w.setCell ⟨g, j, none⟩ u) (some g) x d := by
  refine ⟨?_, h.2⟩
  rcases h.1 with ⟨rfl, rfl⟩ | ⟨a, c, rfl, h1, h2, h3⟩
  · exact Ints.nil _
  · by_cases h0 : 0 < d.length
    · refine Ints.setCell h.1 _ _ fun k hk => ?_
      have := h.2 h0
      intro e
      rw [hk] at this
      exact this (by rw [e])
    · exact Or.inr ⟨a, c, rfl, h1, h2, fun i hi => by omega⟩
theorem RowG.later {w w' : World} {g : Nat} {arr : Array Value} {L : List Nod} (hb : Below w.heap.size w w') (h : RowG w g arr L) : RowG w' g arr L :=
  ⟨(hb.block g (Array.getElem?_eq_some_iff.1 h.blk).1).trans h.blk, h.sz, fun i hi => by
    obtain ⟨x, y, e0, e1, e2, e3, e4, ha, hd, hz⟩ := h.elt i hi
    exact ⟨x, y, e0, e1, e2, e3, e4, ha.later hb, hd.later hb, hz⟩⟩
theorem RowG.cell {w : World} {g : Nat} {arr : Array Value} {L : List Nod} (h : RowG w g arr L) (j : Nat) (hj : j < L.length * 5) : (∃ u, w.cell? ⟨g, j, none⟩ = some u) ∧ w.frozen? ⟨g, j, none⟩ = false := by
  have := h.sz
  refine ⟨⟨arr[j]'(by omega), ?_⟩, frozen_of_row w g j arr _ h.blk⟩
  rw [cell_of_row w g j arr _ _ h.blk, Array.getElem?_eq_getElem (by omega)]
theorem five_past (w : World) (a b : Obj) (g : Nat) (v0 v1 v2 v3 v4 : Value) (h : g < w.heap.size) :
    (((((((w.alloc a).alloc b).setCell ⟨g, 0, none⟩ v0).setCell ⟨g, 1, none⟩ v1).setCell ⟨g, 2, none⟩ v2).setCell ⟨g, 3, none⟩ v3).setCell ⟨g, 4, none⟩ v4) = (((((((w.setCell ⟨g, 0, none⟩ v0).setCell ⟨g, 1, none⟩ v1).setCell ⟨g, 2, none⟩ v2).setCell ⟨g, 3, none⟩ v3).setCell ⟨g, 4, none⟩ v4).alloc a).alloc b) := by
  have h1 : ∀ (w : World) (o : Obj) (i : Nat) (v : Value), g < w.heap.size → (w.alloc o).setCell ⟨g, i, none⟩ v = (w.setCell ⟨g, i, none⟩ v).alloc o := fun w o i v h => World.setCell_alloc_past o g i v h
  rw [h1 _ b 0 v0 (by simp; omega), h1 _ a 0 v0 h, h1 _ b 1 v1 (by simp; omega), h1 _ a 1 v1 (by simp; omega), h1 _ b 2 v2 (by simp; omega), h1 _ a 2 v2 (by simp; omega), h1 _ b 3 v3 (by simp; omega), h1 _ a 3 v3 (by simp; omega), h1 _ b 4 v4 (by simp; omega), h1 _ a 4 v4 (by simp; omega)]
/-- One name is written over. -/
theorem RowG.setName {w : World} {g : Nat} {arr : Array Value} {L : List Nod} (h : RowG w g arr L) (i : Nat) (hi : i < L.length) (s : ByteArray) (hs : s.size ≤ 140737488355327) :
    RowG (w.setCell ⟨g, i * 5, none⟩ (.string s)) g (arr.setIfInBounds (i * 5) (.string s)) (L.set i ⟨s, L[i].kind, L[i].args, L[i].dims, L[i].n⟩) := by
  have hsz := h.sz
  refine ⟨heap_setCell_same w g (i * 5) arr 42 (.string s) h.blk, by simpa using h.sz, fun k hk => ?_⟩
  rw [List.length_set] at hk
  obtain ⟨x, y, e0, e1, e2, e3, e4, ha, hd, hz⟩ := h.elt k hk
  by_cases e : k = i
  · subst e
    simp only [List.getElem_set_self]
    exact ⟨x, y, by rw [Array.getElem?_setIfInBounds_self_of_lt (by omega)], by rw [Array.getElem?_setIfInBounds_ne (by omega)]; exact e1, by rw [Array.getElem?_setIfInBounds_ne (by omega)]; exact e2, by rw [Array.getElem?_setIfInBounds_ne (by omega)]; exact e3, by rw [Array.getElem?_setIfInBounds_ne (by omega)]; exact e4, ha.own, hd.own, hs⟩
  · rw [List.getElem_set_ne (fun q => e q.symm)]
    exact ⟨x, y, by rw [Array.getElem?_setIfInBounds_ne (by omega)]; exact e0, by rw [Array.getElem?_setIfInBounds_ne (by omega)]; exact e1, by rw [Array.getElem?_setIfInBounds_ne (by omega)]; exact e2, by rw [Array.getElem?_setIfInBounds_ne (by omega)]; exact e3, by rw [Array.getElem?_setIfInBounds_ne (by omega)]; exact e4, ha.own, hd.own, hz⟩
/-- The first one is written over. -/
theorem RowG.setHead {w : World} {g : Nat} {arr : Array Value} {L : List Nod} (h : RowG w g arr L) (h0 : 0 < L.length) (t : Nod) (x y : Value) (hx : Elt w (some g) x t.args) (hy : Elt w (some g) y t.dims) (hz : t.name.size ≤ 140737488355327) :
    ∃ arr', RowG (((((w.setCell ⟨g, 0, none⟩ (.string t.name)).setCell ⟨g, 1, none⟩ (.int .i64 t.kind)).setCell ⟨g, 2, none⟩ x).setCell ⟨g, 3, none⟩ y).setCell ⟨g, 4, none⟩ (.int .i64 t.n)) g arr' (L.set 0 t) := by
  have hsz := h.sz
  have b0 := heap_setCell_same w g 0 arr 42 (.string t.name) h.blk
  have b1 := heap_setCell_same _ g 1 _ 42 (.int .i64 t.kind) b0
  have b2 := heap_setCell_same _ g 2 _ 42 x b1
  have b3 := heap_setCell_same _ g 3 _ 42 y b2
  have b4 := heap_setCell_same _ g 4 _ 42 (.int .i64 t.n) b3
  refine ⟨_, b4, by simpa using h.sz, fun k hk => ?_⟩
  rw [List.length_set] at hk
  by_cases e : k = 0
  · subst e
    simp only [List.getElem_set_self]
    have q0 : 0 < arr.size := by omega
    have q1 : 1 < arr.size := by omega
    have q2 : 2 < arr.size := by omega
    have q3 : 3 < arr.size := by omega
    have q4 : 4 < arr.size := by omega
    exact ⟨x, y, by simp [Array.getElem?_setIfInBounds, q0], by simp [Array.getElem?_setIfInBounds, q1], by simp [Array.getElem?_setIfInBounds, q2], by simp [Array.getElem?_setIfInBounds, q3], by simp [Array.getElem?_setIfInBounds, q4], hx.own.own.own.own.own, hy.own.own.own.own.own, hz⟩
  · obtain ⟨x', y', e0, e1, e2, e3, e4, ha, hd, hz'⟩ := h.elt k hk
    rw [List.getElem_set_ne (fun q => e q.symm)]
    have key : ∀ {j : Nat} {u : Value}, 5 ≤ j → arr[j]? = some u → (((((arr.setIfInBounds 0 (.string t.name)).setIfInBounds 1 (.int .i64 t.kind)).setIfInBounds 2 x).setIfInBounds 3 y).setIfInBounds 4 (.int .i64 t.n))[j]? = some u := fun {j u} hj hu => by
      rw [Array.getElem?_setIfInBounds_ne (by omega), Array.getElem?_setIfInBounds_ne (by omega), Array.getElem?_setIfInBounds_ne (by omega), Array.getElem?_setIfInBounds_ne (by omega), Array.getElem?_setIfInBounds_ne (by omega)]
      exact hu
    exact ⟨x', y', key (by omega) e0, key (by omega) e1, key (by omega) e2, key (by omega) e3, key (by omega) e4, ha.own.own.own.own.own, hd.own.own.own.own.own, hz'⟩
end Go.Proofs.Ytjfkhfahpjdidaa
