/- Carried: C27. -/
import Derived.Test.YtjfkhfahpjdidaaC23
namespace Go.Proofs.Ytjfkhfahpjdidaa
set_option linter.unusedVariables false
set_option linter.unusedSimpArgs false
set_option maxRecDepth 100000
open Go.ChangeShapes Go.WideShapes Go.ChangeAt Go.RowKit Go.Joins Go.Deep

/-- A list of lists in a row of its own. -/
structure Row (w : World) (B : Nat) (v : Value) (L : List (List Int)) (xs : List Value) : Prop where
  own : w.ownsRow B 23 1 v L.length xs
  elt : ∀ i (h : i < L.length), ∃ x, xs[i]? = some x ∧ Elt w v.ownBlock x L[i]
theorem Row.later {w w' : World} {B : Nat} {v : Value} {L : List (List Int)} {xs : List Value} (hb : Below w.heap.size w w') (h : Row w B v L xs) : Row w' B v L xs := by
  refine ⟨⟨h.own.1, ?_⟩, fun i hi => ?_⟩
  · rcases h.own.2 with h0 | ⟨g, cap, cur, rfl, h1, hh, h2⟩
    · exact Or.inl h0
    · exact Or.inr ⟨g, cap, cur, rfl, h1, (hb.block g (Array.getElem?_eq_some_iff.1 hh).1).trans hh, h2⟩
  · obtain ⟨x, hx, he⟩ := h.elt i hi
    exact ⟨x, hx, he.later hb⟩
theorem Row.app {w w' : World} {B m : Nat} {v v' : Value} {L E : List (List Int)} {xs news : List Value} (h : Row w B v L xs) (hm : m = E.length) (he : ∀ i (h : i < E.length), ∃ y, news[i]? = some y ∧ Elt w v.ownBlock y E[i])
    (hown : w'.ownsRow B 23 1 v' (L.length + m) (xs ++ news)) (hg : w.grownBy w' v.ownBlock) (hat : v'.ownBlock = v.ownBlock ∨ v'.ownBlock = some w.heap.size) : Row w' B v' (L ++ E) (xs ++ news) := by
  subst hm
  have hl := h.own.1
  rw [Nat.mul_one] at hl
  refine ⟨by rw [List.length_append]; exact hown, fun i hi => ?_⟩
  by_cases hlt : i < L.length
  · obtain ⟨x, hx, hx2⟩ := h.elt i hlt
    refine ⟨x, by rw [List.getElem?_append_left (by omega)]; exact hx, ?_⟩
    rw [List.getElem_append_left hlt]
    exact hx2.grown hg hat
  · rw [List.length_append] at hi
    obtain ⟨x, hx, hx2⟩ := he (i - L.length) (by omega)
    refine ⟨x, by rw [List.getElem?_append_right (by omega), hl]; exact hx, ?_⟩
    rw [List.getElem_append_right (by omega)]
    exact hx2.grown hg hat
theorem Row.intsL {w : World} {B : Nat} {v : Value} {L : List (List Int)} {xs : List Value} (h : Row w B v L xs) (hb : L.length ≤ big) : IntsL w v L := by
  rcases h.own.2 with ⟨rfl, h0⟩ | ⟨g, cap, cur, rfl, h1, hh, h2, h3, h4, h5⟩
  · refine ⟨hb, none, 0, by rw [h0], by omega, fun i hi => by omega⟩
  · refine ⟨hb, some ⟨g, 0, none⟩, cap, rfl, h2, fun i hi => ?_⟩
    obtain ⟨x, hx, he⟩ := h.elt i hi
    refine ⟨g, 0, x, rfl, ?_, he.1⟩
    rw [Nat.zero_add, h.own.cellAt i (by omega)]
    exact hx
theorem Row.lt {w : World} {B : Nat} {v : Value} {L : List (List Int)} {xs : List Value} (h : Row w B v L xs) : ∀ k, v.ownBlock = some k → B ≤ k ∧ k < w.heap.size := h.own.lt
theorem Row.form {w : World} {B : Nat} {v : Value} {L : List (List Int)} {xs : List Value} (h : Row w B v L xs) (h0 : 0 < L.length) : ∃ g cap, v = .slice (some ⟨g, 0, none⟩) L.length cap ∧ L.length ≤ cap ∧ B ≤ g ∧ g < w.heap.size := by
  rcases h.own.2 with ⟨_, h1⟩ | ⟨g, cap, cur, rfl, hb, hh, h1, _⟩
  · omega
  · exact ⟨g, cap, rfl, h1, hb, (Array.getElem?_eq_some_iff.1 hh).1⟩
/-- nil, or with an address. -/
def Nil0 (v : Value) : Prop := v = .slice none 0 0 ∨ ∃ a n c, v = .slice (some a) n c
section
variable {H : Type} {enc : TypeId × Value → H} {w : World}
theorem open_IntsL {fuel : Nat} {v : Value} {x : DataW H × List MemPlace} (h : DataW.trod enc Try.prog w 0 (fun _ => true) true fuel 24 [v] = some x) (hs : Szd 24 x.1) : ∃ L, IntsL w v L ∧ Nil0 v := by
  rcases open_slice1 Try.underlying24 cells23 h with ⟨hcs, _⟩ | ⟨a, len, cap, m, n, V, D, Pl, hcs, _, hl, hm, hz, hx, hcell⟩
  · simp at hcs
    subst hcs
    exact ⟨[], ⟨Nat.zero_le _, none, 0, rfl, Nat.le_refl _, fun i hi => by simp at hi⟩, Or.inl rfl⟩
  · simp at hcs
    subst hcs
    simp at hz
    subst hz
    rw [hx] at hs
    have hq := szd_slice Try.underlying24 hs
    rw [bytes23] at hq
    have hb : len ≤ big := by
      have := hq.1
      simp [reachBytes] at this
      unfold big
      omega
    have key : ∀ i, i < len → ∃ d, Ints w (V i) d := by
      intro i hi
      obtain ⟨d, hd, _⟩ := open_Ints (hcell i (by omega)).2 (hq.2 _ (by simp; exact ⟨i, hi, rfl⟩))
      exact ⟨d, hd⟩
    have hsome : ∀ i, ∃ d, i < len → Ints w (V i) d := fun i => by
      by_cases hi : i < len
      · obtain ⟨d, hd⟩ := key i hi
        exact ⟨d, fun _ => hd⟩
      · exact ⟨[], fun h => absurd h hi⟩
    refine ⟨(List.range len).map fun i => Classical.choose (hsome i), ⟨?_, some a, m, ?_, ?_, ?_⟩, Or.inr ⟨_, _, _, rfl⟩⟩
    · simpa using hb
    · rw [List.length_map, List.length_range]
    · simpa using hl
    · intro i hi
      have hi' : i < len := by simpa using hi
      have hc := (hcell i (by omega)).1
      obtain ⟨b, off, spot⟩ := a
      have hsp : spot = none := by
        have hc0 := World.cell?_spot (hcell 0 (by omega)).1
        simpa [Addr.add] using hc0
      subst hsp
      refine ⟨b, off, V i, rfl, ?_, ?_⟩
      · rw [← hc]
        by_cases h0 : i = 0
        · subst h0; simp [Addr.add]
        · simp [Addr.add, h0]
      · simp only [List.getElem_map, List.getElem_range]
        exact Classical.choose_spec (hsome i) hi'
theorem cells26 : Try.prog.cellsOf 24 = 1 := by kernel_rfl
theorem cells22 : Try.prog.cellsOf 68 = 1 := by kernel_rfl

end
end Go.Proofs.Ytjfkhfahpjdidaa
