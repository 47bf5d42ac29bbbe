/- graduslaw8's wakes, over what the package's ways tell. -/
import Derived.Test.YtjfkhfahpjdidaaS0
namespace Go.Proofs.Ytjfkhfahpjdidaa
set_option linter.unusedVariables false
set_option linter.unusedSimpArgs false
set_option maxRecDepth 100000
open Go.RowKit

/-- Not too long. -/
structure Small (L : List Nod) : Prop where
  n : L.length ≤ 1000000
  a : ∀ i (h : i < L.length), L[i].args.length ≤ 1000000
  d : ∀ i (h : i < L.length), L[i].dims.length ≤ 1000000
  s : ∀ i (h : i < L.length), L[i].name.size ≤ 1000000
/-- What the package's ways tell. -/
structure Faces : Prop where
  check : ∀ {v : Value} {L : List Nod} {w : World} (h : NodesL w v L) (hs : Small L) (q : Bool) (hq : grpB L = q),
    Calls Try.prog 19 #[v] w fun e w' => e = .returned (.int .i64 (if q then 0 else 1)) ∧ Below w.heap.size w w'
  nodes : ∀ {v : Value} {L : List Nod} {w : World} (h : NodesL w v L) (hs : Small L) (q : Bool) (hq : nodesB L = q),
    Calls Try.prog 17 #[v] w fun e w' => e = .returned (.int .i64 (if q then 0 else 1)) ∧ Below w.heap.size w w'
  leaves : ∀ {v : Value} {L : List Nod} {w : World} (h : NodesL w v L) (hs : Small L) (q : Bool) (hq : grpB L = q),
    Calls Try.prog 14 #[v] w fun e w' => ∃ x, e = .returned (.tuple #[x, .int .i64 (if q then 0 else 1)]) ∧ Own w' w.heap.size x (if q then levs L else []) ∧ Below w.heap.size w w'
  uses : ∀ {v : Value} {L : List Nod} {w : World} (h : NodesL w v L) (hs : Small L) (i : Int) (z : Int) (hz : useE L i = z),
    Calls Try.prog 16 #[v, .int .i64 i] w fun e w' => ∃ x, e = .returned (.tuple #[x, .int .i64 z]) ∧ Own w' w.heap.size x (useR L i) ∧ Below w.heap.size w w'
theorem num8 (k : Int) (w : World) : Calls Try.prog 10 #[.int .i64 k] w fun e w' => e = .returned (.int .i64 k) ∧ w = w' := by
  go_enter Try.func10, Try.ntmps10
  go_wp2
  go_ret
  exact ⟨rfl, rfl⟩
def wakL : List Nod := [⟨⟨#[97]⟩, 3, [], [1], 5⟩]
theorem wakL_grp : grpB wakL = true := by decide +kernel
theorem wakL_small : Small wakL := by
  have h : ∀ i (h : i < wakL.length), i = 0 := fun i h => by simp [wakL] at h; exact h
  refine ⟨by decide, fun i hi => ?_, fun i hi => ?_, fun i hi => ?_⟩
  · have := h i hi; subst this; show ([] : List Int).length ≤ _; decide
  · have := h i hi; subst this; show ([1] : List Int).length ≤ _; decide
  · have := h i hi; subst this; show (⟨#[97]⟩ : ByteArray).size ≤ _; decide
theorem small_nil : Small [] := ⟨by decide, fun i h => by simp at h, fun i h => by simp at h, fun i h => by simp at h⟩
set_option maxHeartbeats 4000000 in
theorem wakes8 (F : Faces) (w : World) : Calls Try.prog 13 #[] w fun e w' => e = .returned (.bool true) ∧ Below w.heap.size w w' := by
  go_enter Try.func13, Try.ntmps13
  go_wp2_with fail
  have HL : Hid (NodesL ((w.alloc (.cells #[.int .i64 1] 3)).alloc (.cells #[.string ⟨#[97]⟩, .int .i64 3, .slice none 0 0, .slice (some ⟨w.heap.size, 0, none⟩) 1 1, .int .i64 5] 42)) (.slice (some ⟨w.heap.size + 1, 0, none⟩) 1 1) wakL) := by
    have hx := BoxN.new (w.alloc (.cells #[.int .i64 1] 3)) #[.string ⟨#[97]⟩, .int .i64 3, .slice none 0 0, .slice (some ⟨w.heap.size, 0, none⟩) 1 1, .int .i64 5]
    simp only [World.size_alloc] at hx
    have k0 : Ints ((w.alloc (.cells #[.int .i64 1] 3)).alloc (.cells #[.string ⟨#[97]⟩, .int .i64 3, .slice none 0 0, .slice (some ⟨w.heap.size, 0, none⟩) 1 1, .int .i64 5] 42)) (.slice (some ⟨w.heap.size, 0, none⟩) 1 1) [1] := ((Blk.new w [1]).alloc _).ints 1 1 rfl (Nat.le_refl _) (by decide)
    refine ⟨by decide, _, 1, rfl, Nat.le_refl _, fun i hi => ?_⟩
    have h0 : i = 0 := by simp [wakL] at hi; exact hi
    subst h0
    exact ⟨_, 0, _, _, rfl, hx.c 0, hx.c 1, hx.c 2, hx.c 3, hx.c 4, Ints.nil _, k0, by show (⟨#[97]⟩ : ByteArray).size ≤ _; decide⟩
  have HB : Hid (Below w.heap.size w ((w.alloc (.cells #[.int .i64 1] 3)).alloc (.cells #[.string ⟨#[97]⟩, .int .i64 3, .slice none 0 0, .slice (some ⟨w.heap.size, 0, none⟩) 1 1, .int .i64 5] 42))) := Below.push (Below.push (Below.refl _ _) _) _
  refine (F.leaves HL.out wakL_small true wakL_grp).mono ?_
  rintro e w1 ⟨x, rfl, ho, hb1⟩
  have hox : Ints w1 x [] := ho.ints
  obtain ⟨xa, xc, rfl⟩ := hox.shape
  have HL1 : Hid (NodesL w1 (.slice (some ⟨w.heap.size + 1, 0, none⟩) 1 1) wakL) := HL.out.later hb1
  have HB1 : Hid (Below w.heap.size w w1) := Below.after HB.out hb1
  clear ho hb1 hox HL HB
  go_wp2_with (first
    | (go_at_call 10; refine (num8 _ _).mono ?_; rintro e w' ⟨rfl, rfl⟩))
  refine (F.check HL1.out wakL_small true wakL_grp).mono ?_
  rintro e w2 ⟨rfl, hb2⟩
  have HB2 : Hid (Below w.heap.size w w2) := Below.after HB1.out hb2
  clear hb2
  go_wp2_with (first
    | (go_at_call 10; refine (num8 _ _).mono ?_; rintro e w' ⟨rfl, rfl⟩))
  refine (F.check (NodesL.nil w2) small_nil false (by decide +kernel)).mono ?_
  rintro e w3 ⟨rfl, hb3⟩
  have HB3 : Hid (Below w.heap.size w w3) := Below.after HB2.out hb3
  clear hb3
  go_wp2_with (first
    | (go_at_call 10; refine (num8 _ _).mono ?_; rintro e w' ⟨rfl, rfl⟩))
  go_ret
  exact ⟨rfl, HB3.out⟩
end Go.Proofs.Ytjfkhfahpjdidaa
