/- A list of lists that a call has made; the argument opened. -/
import Derived.Test.YtgedknmjenbacaaQ1
import Derived.Test.YtgedknmjenbacaaOpen
import Derived.Maps.AppendAt
import Derived.Laws.AppendOwnNone
namespace Go.Proofs.Ytgedknmjenbacaa
set_option linter.unusedVariables false
set_option linter.unusedSimpArgs false
open Go.ChangeShapes Go.WideShapes Go.ChangeAt Go.RowKit Go.Joins Go.Deep

theorem info23' : (Try.prog.info? 23).map (fun i => (i.zero, i.size, i.bytes)) = some (some (.slice none 0 0), 1, 24) := by kernel_rfl
theorem info23 : ∃ i, Try.prog.info? 23 = some i ∧ i.zero = some (.slice none 0 0) ∧ i.size = 1 ∧ i.bytes = 24 := by
  have h := info23'
  cases e : Try.prog.info? 23 with
  | none => rw [e] at h; cases h
  | some i =>
    rw [e] at h
    simp only [Option.map_some, Option.some.injEq, Prod.mk.injEq] at h
    exact ⟨i, rfl, h.1, h.2.1, h.2.2⟩

/-- A list whose numbers do not lie in block r. -/
def Elt (w : World) (r : Option Nat) (x : Value) (d : List Int) : Prop := Ints w x d ∧ (0 < d.length → x.ownBlock ≠ r)
theorem Elt.later {w w' : World} {r : Option Nat} {x : Value} {d : List Int} (hb : Below w.heap.size w w') (h : Elt w r x d) : Elt w' r x d := ⟨h.1.later hb, h.2⟩
theorem Elt.grown {w w' : World} {r r' : Option Nat} {x : Value} {d : List Int} (h : Elt w r x d) (hg : w.grownBy w' r) (hr : r' = r ∨ r' = some w.heap.size) : Elt w' r' x d := by
  obtain ⟨h0, hne⟩ := h
  rcases h0 with ⟨rfl, rfl⟩ | ⟨a, c, rfl, h1, h2, h3⟩
  · exact ⟨Ints.nil _, fun h => by simp at h⟩
  · refine ⟨Or.inr ⟨a, c, rfl, h1, h2, fun i hi => ?_⟩, fun h => ?_⟩
    · obtain ⟨b, off, rfl, hc⟩ := h3 i hi
      exact ⟨b, off, rfl, hg.cell hc (hne (by omega))⟩
    · rcases hr with rfl | rfl
      · exact hne h
      · obtain ⟨b, off, rfl, hc⟩ := h3 0 h
        have := World.block_lt_of_cell? _ _ hc
        simp only [Value.ownBlock, ne_eq, Option.some.injEq]
        simp only at this
        omega
/-- A list of lists in a row of its own. -/
structure Row (w : World) (B : Nat) (v : Value) (L : List (List Int)) (xs : List Value) : Prop where
  own : w.ownsRow B 23 1 v L.length xs
  elt : ∀ i (h : i < L.length), ∃ x, xs[i]? = some x ∧ Elt w v.ownBlock x L[i]
theorem Row.later {w w' : World} {B : Nat} {v : Value} {L : List (List Int)} {xs : List Value} (hb : Below w.heap.size w w') (h : Row w B v L xs) : Row w' B v L xs := by
  refine ⟨⟨h.own.1, ?_⟩, fun i hi => ?_⟩
  · rcases h.own.2 with h0 | ⟨g, cap, cur, rfl, h1, hh, h2⟩
    · exact Or.inl h0
    · exact Or.inr ⟨g, cap, cur, rfl, h1, (hb.block g (Array.getElem?_eq_some_iff.1 hh).1).trans hh, h2⟩
  · obtain ⟨x, hx, he⟩ := h.elt i hi
    exact ⟨x, hx, he.later hb⟩
theorem Row.app {w w' : World} {B m : Nat} {v v' : Value} {L E : List (List Int)} {xs news : List Value} (h : Row w B v L xs) (hm : m = E.length) (he : ∀ i (h : i < E.length), ∃ y, news[i]? = some y ∧ Elt w v.ownBlock y E[i])
    (hown : w'.ownsRow B 23 1 v' (L.length + m) (xs ++ news)) (hg : w.grownBy w' v.ownBlock) (hat : v'.ownBlock = v.ownBlock ∨ v'.ownBlock = some w.heap.size) : Row w' B v' (L ++ E) (xs ++ news) := by
  subst hm
  have hl := h.own.1
  rw [Nat.mul_one] at hl
  refine ⟨by rw [List.length_append]; exact hown, fun i hi => ?_⟩
  by_cases hlt : i < L.length
  · obtain ⟨x, hx, hx2⟩ := h.elt i hlt
    refine ⟨x, by rw [List.getElem?_append_left (by omega)]; exact hx, ?_⟩
    rw [List.getElem_append_left hlt]
    exact hx2.grown hg hat
  · rw [List.length_append] at hi
    obtain ⟨x, hx, hx2⟩ := he (i - L.length) (by omega)
    refine ⟨x, by rw [List.getElem?_append_right (by omega), hl]; exact hx, ?_⟩
    rw [List.getElem_append_right (by omega)]
    exact hx2.grown hg hat
theorem Row.take {w : World} {B g n cap : Nat} {L : List (List Int)} {xs : List Value} (h : Row w B (.slice (some ⟨g, 0, none⟩) n cap) L xs) (k : Nat) (hk : k ≤ L.length) : Row w B (.slice (some ⟨g, 0, none⟩) k cap) (L.take k) (xs.take k) := by
  have hl := h.own.1
  rw [Nat.mul_one] at hl
  have hkl : (L.take k).length = k := by simp; omega
  refine ⟨⟨by simp; omega, ?_⟩, fun i hi => ?_⟩
  · rcases h.own.2 with ⟨h0, _⟩ | ⟨g', cap', cur, e, h1, hh, h2, h3, h4, h5⟩
    · simp at h0
    · simp only [Value.slice.injEq, Option.some.injEq, Addr.mk.injEq, and_true, true_and] at e
      obtain ⟨rfl, rfl, rfl⟩ := e
      refine Or.inr ⟨g, cap, cur, by rw [hkl], h1, hh, by omega, h3, h4, ?_⟩
      rw [hkl, ← h5, List.take_take, Nat.mul_one, Nat.mul_one, Nat.min_eq_left hk]
  · have hi' : i < L.length := by omega
    obtain ⟨x, hx, hx2⟩ := h.elt i hi'
    refine ⟨x, ?_, ?_⟩
    · rw [List.getElem?_take, if_pos (by omega)]; exact hx
    · rw [List.getElem_take]
      exact hx2
theorem Row.intsL {w : World} {B : Nat} {v : Value} {L : List (List Int)} {xs : List Value} (h : Row w B v L xs) (hb : L.length ≤ big) : IntsL w v L := by
  rcases h.own.2 with ⟨rfl, h0⟩ | ⟨g, cap, cur, rfl, h1, hh, h2, h3, h4, h5⟩
  · refine ⟨hb, none, 0, by rw [h0], by omega, fun i hi => by omega⟩
  · refine ⟨hb, some ⟨g, 0, none⟩, cap, rfl, h2, fun i hi => ?_⟩
    obtain ⟨x, hx, he⟩ := h.elt i hi
    refine ⟨g, 0, x, rfl, ?_, he.1⟩
    rw [Nat.zero_add, h.own.cellAt i (by omega)]
    exact hx
theorem Row.lt {w : World} {B : Nat} {v : Value} {L : List (List Int)} {xs : List Value} (h : Row w B v L xs) : ∀ k, v.ownBlock = some k → B ≤ k ∧ k < w.heap.size := h.own.lt
theorem Row.form {w : World} {B : Nat} {v : Value} {L : List (List Int)} {xs : List Value} (h : Row w B v L xs) (h0 : 0 < L.length) : ∃ g cap, v = .slice (some ⟨g, 0, none⟩) L.length cap ∧ L.length ≤ cap ∧ B ≤ g ∧ g < w.heap.size := by
  rcases h.own.2 with ⟨_, h1⟩ | ⟨g, cap, cur, rfl, hb, hh, h1, _⟩
  · omega
  · exact ⟨g, cap, rfl, h1, hb, (Array.getElem?_eq_some_iff.1 hh).1⟩

/-- nil, or with an address. -/
def Nil0 (v : Value) : Prop := v = .slice none 0 0 ∨ ∃ a n c, v = .slice (some a) n c
section
variable {H : Type} {enc : TypeId × Value → H} {w : World}
theorem open_IntsL {fuel : Nat} {v : Value} {x : DataW H × List MemPlace} (h : DataW.trod enc Try.prog w 0 (fun _ => true) true fuel 26 [v] = some x) (hs : Szd 26 x.1) : ∃ L, IntsL w v L ∧ Nil0 v := by
  rcases open_slice1 Try.underlying26 cells23 h with ⟨hcs, _⟩ | ⟨a, len, cap, m, n, V, D, Pl, hcs, _, hl, hm, hz, hx, hcell⟩
  · simp at hcs
    subst hcs
    exact ⟨[], ⟨Nat.zero_le _, none, 0, rfl, Nat.le_refl _, fun i hi => by simp at hi⟩, Or.inl rfl⟩
  · simp at hcs
    subst hcs
    simp at hz
    subst hz
    rw [hx] at hs
    have hq := szd_slice Try.underlying26 hs
    rw [bytes23] at hq
    have hb : len ≤ big := by
      have := hq.1
      simp [reachBytes] at this
      unfold big
      omega
    have key : ∀ i, i < len → ∃ d, Ints w (V i) d := by
      intro i hi
      obtain ⟨d, hd, _⟩ := open_Ints (hcell i (by omega)).2 (hq.2 _ (by simp; exact ⟨i, hi, rfl⟩))
      exact ⟨d, hd⟩
    have hsome : ∀ i, ∃ d, i < len → Ints w (V i) d := fun i => by
      by_cases hi : i < len
      · obtain ⟨d, hd⟩ := key i hi
        exact ⟨d, fun _ => hd⟩
      · exact ⟨[], fun h => absurd h hi⟩
    refine ⟨(List.range len).map fun i => Classical.choose (hsome i), ⟨?_, some a, m, ?_, ?_, ?_⟩, Or.inr ⟨_, _, _, rfl⟩⟩
    · simpa using hb
    · rw [List.length_map, List.length_range]
    · simpa using hl
    · intro i hi
      have hi' : i < len := by simpa using hi
      have hc := (hcell i (by omega)).1
      obtain ⟨b, off, spot⟩ := a
      have hsp : spot = none := by
        have hc0 := World.cell?_spot (hcell 0 (by omega)).1
        simpa [Addr.add] using hc0
      subst hsp
      refine ⟨b, off, V i, rfl, ?_, ?_⟩
      · rw [← hc]
        by_cases h0 : i = 0
        · subst h0; simp [Addr.add]
        · simp [Addr.add, h0]
      · simp only [List.getElem_map, List.getElem_range]
        exact Classical.choose_spec (hsome i) hi'
theorem cellsAsk3 : Try.prog.cellsOf 28 = 3 := by kernel_rfl
theorem cells26 : Try.prog.cellsOf 26 = 1 := by kernel_rfl
theorem cells22 : Try.prog.cellsOf 22 = 1 := by kernel_rfl
/-- The whole of it: what graduslaw3's argument lays in memory. -/
theorem open_Ask3 {base : Nat} {v : Value} {d : DataW H} {p : List MemPlace} (hv : Value.okWide Try.prog w .any base 28 v) (h : DataW.Trod enc Try.prog w 0 (fun _ => true) true 28 v d p) (hs : Szd 28 d) :
    ∃ (f0 f1 f2 : Value) (T : List (List Int × List Int)) (L : List Int) (D : List (List Int)), v = .agg #[f0, f1, f2] ∧ (TensL w f0 T ∧ ∀ t ∈ T, Rg t.2) ∧ Ints w f1 L ∧ IntsL w f2 D ∧ Nil0 f2 := by
  obtain ⟨cs, rfl, hsz⟩ := okWide_struct Try.underlying28 hv
  obtain ⟨c0, c1, c2, rfl⟩ := array3 (hsz.trans cellsAsk3)
  obtain ⟨fuel, hf⟩ := h
  obtain ⟨y0, y1, n, hx, _, h0, h1⟩ := trod_struct2 Try.underlying28 hf
  simp only [Prod.mk.injEq] at hx
  obtain ⟨rfl, rfl⟩ := hx
  have h0' : DataW.trod enc Try.prog w 0 (fun _ => true) true n 25 [c0, c1] = some y0 := by simpa [Value.cells, cellsAsk] using h0
  have h1' : DataW.trod enc Try.prog w 0 (fun _ => true) true n 26 [c2] = some y1 := by simpa [Value.cells, cells26] using h1
  obtain ⟨z0, z1, m, rfl, _, k0, k1⟩ := trod_struct2 Try.underlying25 h0'
  have k0' : DataW.trod enc Try.prog w 0 (fun _ => true) true m 22 [c0] = some z0 := by simpa [cells22] using k0
  have k1' : DataW.trod enc Try.prog w 0 (fun _ => true) true m 23 [c1] = some z1 := by simpa [cells23] using k1
  have hw : ∀ q, (q ∈ z0.1.weights Try.prog 22 ∨ q ∈ z1.1.weights Try.prog 23 ∨ q ∈ y1.1.weights Try.prog 26) → q ≤ reachBytes := by
    intro q hq
    refine hs q ?_
    simp only [DataW.weights, Try.underlying28, Try.underlying25, DataW.weightsEach, List.map_cons, List.map_nil, List.mem_append, List.append_nil]
    rcases hq with hq | hq | hq
    · exact Or.inl (Or.inl hq)
    · exact Or.inl (Or.inr hq)
    · exact Or.inr hq
  obtain ⟨T, hT⟩ := open_TensL k0' (fun q hq => hw q (Or.inl hq))
  obtain ⟨L, hL, _⟩ := open_Ints k1' (fun q hq => hw q (Or.inr (Or.inl hq)))
  obtain ⟨D, hD, hN⟩ := open_IntsL h1' (fun q hq => hw q (Or.inr (Or.inr hq)))
  exact ⟨c0, c1, c2, T, L, D, rfl, hT, hL, hD, hN⟩
end
end Go.Proofs.Ytgedknmjenbacaa
