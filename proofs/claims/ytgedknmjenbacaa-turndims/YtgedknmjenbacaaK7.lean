/- Contracts of the page: Each, Scale. -/
import Derived.Test.YtgedknmjenbacaaK6
import Derived.Deep.RegionHeld3
namespace Go.Proofs.Ytgedknmjenbacaa
set_option linter.unusedVariables false
set_option linter.unusedSimpArgs false
open Go.RowKit

/-- All blocks but g are as they were. -/
structure But (g : Nat) (w w' : World) : Prop where
  os : w'.os = w.os
  tape : w'.tape = w.tape
  output : w'.output = w.output
  size : w'.heap.size = w.heap.size
  block : ∀ k, k ≠ g → w'.heap[k]? = w.heap[k]?
theorem But.refl (g : Nat) (w : World) : But g w w := ⟨rfl, rfl, rfl, rfl, fun _ _ => rfl⟩
theorem But.below {g N : Nat} {w0 w w' : World} (h : But g w w') (hb : Below N w0 w) (hN : N ≤ g) : Below N w0 w' :=
  hb.trans ⟨h.os, h.tape, h.output, by rw [h.size]; exact Nat.le_refl _, fun k hk => h.block k (by omega)⟩
theorem But.setCell {g j : Nat} {w w' : World} (h : But g w w') (u : Value) : But g w (w'.setCell ⟨g, j, none⟩ u) :=
  ⟨h.os, h.tape, h.output, by rw [← h.size]; simp, fun k hk => (heap_setCell_other _ _ _ _ hk).trans (h.block k hk)⟩
theorem But.drew {g : Nat} {w w' : World} (h : But g w w') : But g w w'.drew := ⟨h.os, h.tape, h.output, h.size, h.block⟩
theorem But.drewN {g : Nat} {w w' : World} (h : But g w w') (n : Nat) : But g w (w'.drewN n) := ⟨h.os, h.tape, h.output, h.size, h.block⟩
theorem But.box {g : Nat} {w w' : World} (h : But g w w') {B : Nat} {x y : Value} (hb : Box w B x y) (hB : B ≠ g) : Box w' B x y := (h.block B hB).trans hb
theorem But.cell {g : Nat} {w w' : World} {p : Addr} (h : But g w w') (hp : p.block ≠ g) : w'.cell? p = w.cell? p := World.cell?_of_block (w := w) (h.block p.block hp)
theorem Own.drewN {w : World} {B : Nat} {v : Value} {d : List Int} (h : Own w B v d) (n : Nat) : Own (w.drewN n) B v d := h.at fun _ _ => rfl
theorem Own.drew {w : World} {B : Nat} {v : Value} {d : List Int} (h : Own w B v d) : Own w.drew B v d := h.at fun _ _ => rfl
/-- l, its first j numbers by F. -/
def mix (F : Nat → Int) (l : List Int) (j : Nat) : List Int := (List.range l.length).map fun i => if i < j then F i else l.getD i 0
theorem mix_length (F : Nat → Int) (l : List Int) (j : Nat) : (mix F l j).length = l.length := by simp [mix]
theorem mix_zero (F : Nat → Int) (l : List Int) : mix F l 0 = l := by
  apply List.ext_getElem
  · simp [mix]
  · intro i h1 h2; simp [mix, h2]
theorem mix_set (F : Nat → Int) (l : List Int) (j : Nat) : (mix F l j).set j (F j) = mix F l (j + 1) := by
  apply List.ext_getElem
  · simp [mix]
  · intro i h1 h2
    simp only [List.getElem_set, mix, List.getElem_map, List.getElem_range]
    by_cases e : j = i
    · subst e; simp
    · rw [if_neg e]
      by_cases h : i < j
      · simp [h, show i < j + 1 from by omega]
      · simp [h, show ¬ i < j + 1 from by omega]
theorem mix_get (F : Nat → Int) (l : List Int) (j : Nat) (h : j < l.length) : (mix F l j).getD j 0 = l.getD j 0 := by simp [mix, h]
theorem mix_zip (op : Int → Int → Int) (a b : List Int) (h : b.length = a.length) : mix (fun i => op (a.getD i 0) (b.getD i 0)) a a.length = List.zipWith op a b := by
  apply List.ext_getElem
  · simp [mix]; omega
  · intro i h1 h2
    have h3 : i < a.length := by simpa [mix] using h1
    have h4 : i < b.length := by omega
    simp [mix, h3, h4]
theorem mix_map (f : Int → Int) (a : List Int) : mix (fun i => f (a.getD i 0)) a a.length = a.map f := by
  apply List.ext_getElem
  · simp [mix]
  · intro i h1 h2
    have h3 : i < a.length := by simpa [mix] using h1
    simp [mix, h3]
theorem Ints.cellD {w : World} {b off n c : Nat} {d : List Int} (HC : Hid (∀ i (h : i < d.length), w.cell? ⟨b, off + i, none⟩ = some (.int .i64 d[i]))) (i : Nat) (h : i < d.length) : w.cell? ⟨b, off + i, none⟩ = some (.int .i64 (d.getD i 0)) := by
  rw [show d.getD i 0 = d[i] by simp [h]]
  exact HC.out i h

end Go.Proofs.Ytgedknmjenbacaa
