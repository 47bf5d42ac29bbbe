/- Contracts: reckon (one deed, or two); what a call owns. -/
import Derived.Test.YtgedknmjenbacaaW6
import Derived.Test.YtgedknmjenbacaaR1
import Derived.Lib.SmallJoins
namespace Go.Proofs.Ytgedknmjenbacaa
set_option linter.unusedVariables false
set_option linter.unusedSimpArgs false
open Go.RowKit

theorem nx (w : World) (s : ByteArray) (k : Nat) (h : k < s.size) (x : Int) (hx : (s[k].toNat : Int) = x) (h1 : s[k].toNat < 128) (ty : TypeId) :
    (Instr.next (.pointer (some ⟨w.heap.size, 0, none⟩)) true ty).run Try.prog (w.iter s k) = .ok (.tuple #[.bool true, .int .i64 k, .int .i32 x]) (w.iter s (k + 1)) := by
  subst hx
  rw [run_next_ascii w s k ty h h1]

/-- What a text of deeds does to two numbers. -/
def Deed (s : ByteArray) (op : Int → Int → Int) : Prop := ∀ (x y : Int) (w : World),
  Calls Try.prog 55 #[.string s, .int .i64 x, .int .i64 y] w fun e w' => e = .returned (.int .i64 (op x y)) ∧ Below w.heap.size w w'

set_option maxHeartbeats 400000 in
theorem deed_add : Deed ⟨#[43]⟩ (fun x y => wrap64 (x + y)) := by
  intro x y w
  have h0 := fun ty => nx w ⟨#[43]⟩ 0 (by decide) 43 (by decide) (by decide) ty
  have h1 := fun ty => run_next_end (P := Try.prog) w ⟨#[43]⟩ 1 ty (by decide)
  go_enter Try.func55, Try.ntmps55
  go_wp2
  refine wp_loop_rounds 2 ?_
  rw [rounds_succ]
  go_wp2
  rw [rounds_succ]
  go_wp2
  go_ret
  exact ⟨rfl, (Below.refl _ _).alloc (Nat.le_refl _) _⟩

set_option maxHeartbeats 400000 in
theorem deed_neg : Deed ⟨#[45]⟩ (fun x y => wrap64 (-y)) := by
  intro x y w
  have h0 := fun ty => nx w ⟨#[45]⟩ 0 (by decide) 45 (by decide) (by decide) ty
  have h1 := fun ty => run_next_end (P := Try.prog) w ⟨#[45]⟩ 1 ty (by decide)
  go_enter Try.func55, Try.ntmps55
  go_wp2
  refine wp_loop_rounds 2 ?_
  rw [rounds_succ]
  go_wp2
  rw [rounds_succ]
  go_wp2
  go_ret
  exact ⟨rfl, (Below.refl _ _).alloc (Nat.le_refl _) _⟩

set_option maxHeartbeats 400000 in
theorem deed_mul : Deed ⟨#[42]⟩ (fun x y => wrap64 (x * y)) := by
  intro x y w
  have h0 := fun ty => nx w ⟨#[42]⟩ 0 (by decide) 42 (by decide) (by decide) ty
  have h1 := fun ty => run_next_end (P := Try.prog) w ⟨#[42]⟩ 1 ty (by decide)
  go_enter Try.func55, Try.ntmps55
  go_wp2
  refine wp_loop_rounds 2 ?_
  rw [rounds_succ]
  go_wp2
  rw [rounds_succ]
  go_wp2
  go_ret
  exact ⟨rfl, (Below.refl _ _).alloc (Nat.le_refl _) _⟩

set_option maxHeartbeats 400000 in
theorem deed_sub : Deed ⟨#[45, 43]⟩ (fun x y => wrap64 (x + wrap64 (-y))) := by
  intro x y w
  have h0 := fun ty => nx w ⟨#[45, 43]⟩ 0 (by decide) 45 (by decide) (by decide) ty
  have h1 := fun ty => nx w ⟨#[45, 43]⟩ 1 (by decide) 43 (by decide) (by decide) ty
  have h2 := fun ty => run_next_end (P := Try.prog) w ⟨#[45, 43]⟩ 2 ty (by decide)
  go_enter Try.func55, Try.ntmps55
  go_wp2
  refine wp_loop_rounds 3 ?_
  rw [rounds_succ]
  go_wp2
  rw [rounds_succ]
  go_wp2
  rw [rounds_succ]
  go_wp2
  go_ret
  exact ⟨rfl, (Below.refl _ _).alloc (Nat.le_refl _) _⟩

/-- A list of integers that a call has made: in blocks from B on, free to be written. -/
structure Own (w : World) (B : Nat) (v : Value) (d : List Int) : Prop where
  row : w.ownsRow B 3 1 v d.length (d.map (Value.int .i64))
  len : d.length ≤ big
theorem Own.ints {w : World} {B : Nat} {v : Value} {d : List Int} (h : Own w B v d) : Ints w v d := own_ints rfl h.row h.len
theorem Own.frm {w : World} {B : Nat} {v : Value} {d : List Int} (h : Own w B v d) : From B v := fun k hk => (h.row.lt k hk).1
theorem Own.lt {w : World} {B : Nat} {v : Value} {d : List Int} (h : Own w B v d) : ∀ k, v.ownBlock = some k → k < w.heap.size := fun k hk => (h.row.lt k hk).2
theorem Own.nil (w : World) (B : Nat) : Own w B (.slice none 0 0) [] := ⟨World.ownsRow_nil _ _ _ _, Nat.zero_le _⟩
theorem Own.at {w w' : World} {B : Nat} {v : Value} {d : List Int} (h : Own w B v d) (hk : ∀ k, v.ownBlock = some k → w'.heap[k]? = w.heap[k]?) : Own w' B v d := by
  refine ⟨⟨h.row.1, ?_⟩, h.len⟩
  rcases h.row.2 with h0 | ⟨g, cap, cur, rfl, hb, hh, h1, h2, h3, h4⟩
  · exact Or.inl h0
  · exact Or.inr ⟨g, cap, cur, rfl, hb, (hk g rfl).trans hh, h1, h2, h3, h4⟩
theorem Own.later {w w' : World} {B : Nat} {v : Value} {d : List Int} (hb : Below w.heap.size w w') (h : Own w B v d) : Own w' B v d :=
  h.at fun k hk => hb.block k (h.lt k hk)
theorem Own.mono {w : World} {B B' : Nat} {v : Value} {d : List Int} (h : Own w B v d) (hB : B' ≤ B) : Own w B' v d := ⟨Joins.ownsRow_le h.row hB, h.len⟩
theorem Own.setCell {w : World} {B : Nat} {v : Value} {d : List Int} (h : Own w B v d) (p : Addr) (u : Value) (hp : ∀ k, v.ownBlock = some k → k ≠ p.block) : Own (w.setCell p u) B v d :=
  h.at fun k hk => Below.heap_setCell _ _ _ _ (hp k hk)
theorem Blk.own {w : World} {b B n : Nat} {xs : List Int} (h : Blk w b xs) (hB : B ≤ b) (hn : n = xs.length) (hl : xs.length ≤ big) : Own w B (.slice (some ⟨b, 0, none⟩) n n) xs := by
  subst hn
  refine ⟨⟨by simp, Or.inr ⟨b, xs.length, ia xs, rfl, hB, h, Nat.le_refl _, ?_, ?_, ?_⟩⟩, hl⟩
  · exact Nat.le_trans hl big_max
  · simp [ia_size]
  · simp [ia, List.take_of_length_le]
/-- A tensor that a call has made. -/
structure OwnT (w : World) (B : Nat) (v0 v1 : Value) (t : List Int × List Int) : Prop where
  dims : Own w B v0 t.1
  data : Own w B v1 t.2
  apart : ∀ k, v0.ownBlock = some k → v1.ownBlock ≠ some k
theorem OwnT.later {w w' : World} {B : Nat} {v0 v1 : Value} {t : List Int × List Int} (hb : Below w.heap.size w w') (h : OwnT w B v0 v1 t) : OwnT w' B v0 v1 t := ⟨h.dims.later hb, h.data.later hb, h.apart⟩
theorem OwnT.tens {w : World} {B : Nat} {v0 v1 : Value} {t : List Int × List Int} (h : OwnT w B v0 v1 t) : Tens w v0 v1 t := ⟨h.dims.ints, h.data.ints⟩
theorem OwnT.mono {w : World} {B B' : Nat} {v0 v1 : Value} {t : List Int × List Int} (h : OwnT w B v0 v1 t) (hB : B' ≤ B) : OwnT w B' v0 v1 t := ⟨h.dims.mono hB, h.data.mono hB, h.apart⟩
theorem OwnT.nil (w : World) (B : Nat) : OwnT w B (.slice none 0 0) (.slice none 0 0) ([], []) := ⟨Own.nil _ _, Own.nil _ _, fun k hk => by simp [Value.ownBlock] at hk⟩
theorem Tens.later {w w' : World} {v0 v1 : Value} {t : List Int × List Int} (hb : Below w.heap.size w w') (h : Tens w v0 v1 t) : Tens w' v0 v1 t := ⟨h.1.later hb, h.2.later hb⟩
theorem OwnT.setCell {w : World} {B : Nat} {v0 v1 : Value} {t : List Int × List Int} (h : OwnT w B v0 v1 t) (p : Addr) (u : Value) (hp : p.block < B) : OwnT (w.setCell p u) B v0 v1 t :=
  ⟨h.dims.setCell p u fun k hk => by have := h.dims.frm k hk; omega, h.data.setCell p u fun k hk => by have := h.data.frm k hk; omega, h.apart⟩

/-- A box with two values. -/
def Box (w : World) (B : Nat) (x y : Value) : Prop := w.heap[B]? = some (.cells #[x, y] 31 (0, 0))
theorem Box.c0 {w : World} {B : Nat} {x y : Value} (h : Box w B x y) : w.cell? ⟨B, 0, none⟩ = some x := by rw [cell_of_row w B 0 _ 31 (0, 0) h]; rfl
theorem Box.c1 {w : World} {B : Nat} {x y : Value} (h : Box w B x y) : w.cell? ⟨B, 1, none⟩ = some y := by rw [cell_of_row w B 1 _ 31 (0, 0) h]; rfl
theorem Box.f {w : World} {B : Nat} {x y : Value} (h : Box w B x y) (j : Nat) : w.frozen? ⟨B, j, none⟩ = false := frozen_of_row w B j _ 31 h
theorem Box.lt {w : World} {B : Nat} {x y : Value} (h : Box w B x y) : B < w.heap.size := (Array.getElem?_eq_some_iff.1 h).1
theorem Box.later {w w' : World} {B : Nat} {x y : Value} (hb : Below w.heap.size w w') (h : Box w B x y) : Box w' B x y := (hb.block B h.lt).trans h
theorem Box.new (w : World) (x y : Value) : Box (w.alloc (.cells #[x, y] 31)) w.heap.size x y := heap_alloc_new w _
theorem Box.set {w : World} {B : Nat} {x y : Value} (h : Box w B x y) (u v : Value) : Box ((w.setCell ⟨B, 0, none⟩ u).setCell ⟨B, 1, none⟩ v) B u v := by
  have h1 := heap_setCell_same w B 0 _ 31 u h
  have h2 := heap_setCell_same _ B 1 _ 31 v h1
  show _ = _
  rw [h2]
  rfl
theorem Box.other {w : World} {B : Nat} {x y : Value} (h : Box w B x y) (p : Addr) (u : Value) (hp : B ≠ p.block) : Box (w.setCell p u) B x y := (Below.heap_setCell w p u B hp).trans h
theorem Box.alloc {w : World} {B : Nat} {x y : Value} (h : Box w B x y) (o : Obj) : Box (w.alloc o) B x y := (Below.heap_alloc w o B h.lt).trans h
end Go.Proofs.Ytgedknmjenbacaa
