/- Contract: turn's Turn. -/
import Derived.Test.YtnphfepkjhlalaaJ3
namespace Go.Proofs.Ytnphfepkjhlalaa
set_option linter.unusedVariables false
set_option linter.unusedSimpArgs false
open Go.RowKit

/-- Behind a goto: the frame's size, where the answer's box is, and that it is empty. -/
def Jg (n k B : Nat) (w : World) (a : Act) (w' : World) : Prop :=
  a.defers = [] ∧ a.tmps.size = n ∧ a.tmps.getD k undef = .pointer (some ⟨B, 0, none⟩) ∧ Box w' B (.slice none 0 0) (.slice none 0 0) ∧ Below w.heap.size w w'

def trE (t : Ten) : Int := if tok t then (if t.1.length = 2 then 0 else 4) else 1
def trR (t : Ten) : Ten := if trE t = 0 then ([t.1.getD 1 0, t.1.getD 0 0], tns (t.1.getD 0 0).toNat (t.1.getD 1 0).toNat t.2) else ([], [])

/-- All that was there is as it was, but for block g. -/
structure Bu (g : Nat) (w w' : World) : Prop where
  os : w'.os = w.os
  tape : w'.tape = w.tape
  output : w'.output = w.output
  size : w.heap.size ≤ w'.heap.size
  block : ∀ k, k < w.heap.size → k ≠ g → w'.heap[k]? = w.heap[k]?
theorem Bu.refl (g : Nat) (w : World) : Bu g w w := ⟨rfl, rfl, rfl, Nat.le_refl _, fun _ _ _ => rfl⟩
theorem Bu.after {g : Nat} {w w1 w2 : World} (h : Bu g w w1) (hb : Below w1.heap.size w1 w2) : Bu g w w2 :=
  ⟨hb.os.trans h.os, hb.tape.trans h.tape, hb.output.trans h.output, Nat.le_trans h.size hb.size, fun k hk hg => (hb.block k (Nat.lt_of_lt_of_le hk h.size)).trans (h.block k hk hg)⟩
theorem Bu.setCell {g j : Nat} {w w' : World} (h : Bu g w w') (u : Value) : Bu g w (w'.setCell ⟨g, j, none⟩ u) :=
  ⟨h.os, h.tape, h.output, by simpa using h.size, fun k hk hg => (heap_setCell_other w' _ k u hg).trans (h.block k hk hg)⟩
theorem Bu.drew {g : Nat} {w w' : World} (h : Bu g w w') : Bu g w w'.drew := ⟨h.os, h.tape, h.output, h.size, h.block⟩
theorem Bu.box {g : Nat} {w w' : World} (h : Bu g w w') {B : Nat} {x y : Value} (hb : Box w B x y) (hB : B ≠ g) : Box w' B x y := (h.block B hb.lt hB).trans hb
theorem Bu.cell {g : Nat} {w w' : World} {p : Addr} (h : Bu g w w') (hl : p.block < w.heap.size) (hp : p.block ≠ g) : w'.cell? p = w.cell? p := World.cell?_of_block (w := w) (h.block p.block hl hp)
theorem Bu.below {g N : Nat} {w0 w w' : World} (h : Bu g w w') (hb : Below N w0 w) (hN : N ≤ g) (hM : N ≤ w.heap.size) : Below N w0 w' :=
  hb.trans ⟨h.os, h.tape, h.output, h.size, fun k hk => h.block k (by omega) (by omega)⟩
theorem Bu.ints {g : Nat} {w w' : World} {v : Value} {d : List Int} (h : Bu g w w') (hd : Ints w v d) (hg : ∀ k, v.ownBlock = some k → k ≠ g) : Ints w' v d := by
  rcases hd with ⟨rfl, rfl⟩ | ⟨a, c, rfl, h1, h2, h3⟩
  · exact Ints.nil _
  · refine Or.inr ⟨a, c, rfl, h1, h2, fun i hi => ?_⟩
    obtain ⟨b, off, rfl, hc⟩ := h3 i hi
    refine ⟨b, off, rfl, ?_⟩
    rw [h.cell (p := ⟨b, off + i, none⟩) (World.block_lt_of_cell? _ _ hc) (hg b rfl)]
    exact hc

end Go.Proofs.Ytnphfepkjhlalaa
