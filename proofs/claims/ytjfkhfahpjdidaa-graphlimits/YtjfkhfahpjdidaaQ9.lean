/- Contracts: the page's CopyNode, CopyNodes. -/
import Derived.Test.YtjfkhfahpjdidaaQ7
namespace Go.Proofs.Ytjfkhfahpjdidaa
set_option linter.unusedVariables false
set_option linter.unusedSimpArgs false
set_option maxRecDepth 100000
open Go.RowKit

/-- A box of a node's cells. -/
def BoxN (w : World) (B : Nat) (a : Array Value) : Prop := w.heap[B]? = some (.cells a 42 (0, 0))
theorem BoxN.c {w : World} {B : Nat} {a : Array Value} (h : BoxN w B a) (j : Nat) : w.cell? ⟨B, j, none⟩ = a[j]? := by rw [cell_of_row w B j _ 42 (0, 0) h]
theorem BoxN.f {w : World} {B : Nat} {a : Array Value} (h : BoxN w B a) (j : Nat) : w.frozen? ⟨B, j, none⟩ = false := frozen_of_row w B j _ 42 h
theorem BoxN.lt {w : World} {B : Nat} {a : Array Value} (h : BoxN w B a) : B < w.heap.size := (Array.getElem?_eq_some_iff.1 h).1
theorem BoxN.later {w w' : World} {B : Nat} {a : Array Value} (hb : Below w.heap.size w w') (h : BoxN w B a) : BoxN w' B a := (hb.block B h.lt).trans h
theorem BoxN.new (w : World) (a : Array Value) : BoxN (w.alloc (.cells a 42)) w.heap.size a := heap_alloc_new w _
theorem BoxN.set {w : World} {B : Nat} {a : Array Value} (h : BoxN w B a) (j : Nat) (u : Value) : BoxN (w.setCell ⟨B, j, none⟩ u) B (a.setIfInBounds j u) := heap_setCell_same w B j _ 42 u h
theorem BoxN.other {w : World} {B : Nat} {a : Array Value} (h : BoxN w B a) (p : Addr) (u : Value) (hp : B ≠ p.block) : BoxN (w.setCell p u) B a := (Below.heap_setCell w p u B hp).trans h
theorem BoxN.alloc {w : World} {B : Nat} {a : Array Value} (h : BoxN w B a) (o : Obj) : BoxN (w.alloc o) B a := (Below.heap_alloc w o B h.lt).trans h
theorem Own.below {w : World} {B : Nat} {v : Value} {d : List Int} (h : Own w B v d) (p : Addr) (u : Value) (hp : p.block < B) : Own (w.setCell p u) B v d := h.setCell p u (fun k hk => by have := h.frm k hk; omega)
set_option maxHeartbeats 2000000 in
theorem copyN_any {s : ByteArray} {k n : Int} {x y : Value} {A D : List Int} {w : World} (hx : Ints w x A) (hy : Ints w y D) :
    Calls Try.prog 32 #[.agg #[.string s, .int .i64 k, x, y, .int .i64 n]] w fun e w' => ∃ x' y', e = .returned (.agg #[.string s, .int .i64 k, x', y', .int .i64 n]) ∧ Own w' w.heap.size x' A ∧ Own w' w.heap.size y' D ∧ Below w.heap.size w w' := by
  have HX : Hid (Ints w x A) := hx
  have HY : Hid (Ints w y D) := hy
  obtain ⟨xa, xn, xc, rfl⟩ := hx.shape3
  obtain ⟨ya, yn, yc, rfl⟩ := hy.shape3
  obtain ⟨U, hU⟩ : ∃ U, U = ((w.alloc (.cells #[.string s, .int .i64 k, .slice xa xn xc, .slice ya yn yc, .int .i64 n] 42)).alloc (.cells #[.string ⟨#[]⟩, .int .i64 0, .slice none 0 0, .slice none 0 0, .int .i64 0] 42)).alloc (.cells #[.string s, .int .i64 k, .slice xa xn xc, .slice ya yn yc, .int .i64 n] 42) := ⟨_, rfl⟩
  have HUU : Hid (U = ((w.alloc (.cells #[.string s, .int .i64 k, .slice xa xn xc, .slice ya yn yc, .int .i64 n] 42)).alloc (.cells #[.string ⟨#[]⟩, .int .i64 0, .slice none 0 0, .slice none 0 0, .int .i64 0] 42)).alloc (.cells #[.string s, .int .i64 k, .slice xa xn xc, .slice ya yn yc, .int .i64 n] 42)) := hU
  have hsz : U.heap.size = w.heap.size + 3 := by rw [hU]; simp
  have hb : Below w.heap.size w U := by rw [hU]; exact (((Below.refl _ _).alloc (Nat.le_refl _) _).alloc (by simp) _).alloc (by simp; omega) _
  have HB : Hid (Below w.heap.size w U) := hb
  have BA : Hid (BoxN U w.heap.size #[.string s, .int .i64 k, .slice xa xn xc, .slice ya yn yc, .int .i64 n]) := by
    show BoxN _ _ _
    rw [hU]
    exact ((BoxN.new w _).alloc _).alloc _
  have BZ : Hid (BoxN U (w.heap.size + 1) #[.string ⟨#[]⟩, .int .i64 0, .slice none 0 0, .slice none 0 0, .int .i64 0]) := by
    show BoxN _ _ _
    rw [hU]
    have := (BoxN.new (w.alloc (.cells #[.string s, .int .i64 k, .slice xa xn xc, .slice ya yn yc, .int .i64 n] 42)) #[.string ⟨#[]⟩, .int .i64 0, .slice none 0 0, .slice none 0 0, .int .i64 0]).alloc (.cells #[.string s, .int .i64 k, .slice xa xn xc, .slice ya yn yc, .int .i64 n] 42)
    simp only [World.size_alloc] at this
    exact this
  have BT : Hid (BoxN U (w.heap.size + 1 + 1) #[.string s, .int .i64 k, .slice xa xn xc, .slice ya yn yc, .int .i64 n]) := by
    show BoxN _ _ _
    rw [hU]
    have := BoxN.new ((w.alloc (.cells #[.string s, .int .i64 k, .slice xa xn xc, .slice ya yn yc, .int .i64 n] 42)).alloc (.cells #[.string ⟨#[]⟩, .int .i64 0, .slice none 0 0, .slice none 0 0, .int .i64 0] 42)) #[.string s, .int .i64 k, .slice xa xn xc, .slice ya yn yc, .int .i64 n]
    simp only [World.size_alloc] at this
    exact this
  clear hx hy hU hb
  go_enter Try.func32, Try.ntmps32
  go_wp2_with fail
  rw [← HUU.out]
  refine (copy_Own (HX.out.later HB.out)).mono ?_
  rintro e w1 ⟨x0, rfl, ho0, hb1⟩
  obtain ⟨pa, pn, pc, rfl⟩ := ho0.ints.shape3
  have hs1 := hb1.size
  have hba1 := BA.out.later hb1
  have hbz1 := BZ.out.later hb1
  have hbt1 := BT.out.later hb1
  have c0 : w1.cell? ⟨w.heap.size + 1 + 1, 2, none⟩ = some (.slice xa xn xc) := hbt1.c 2
  have f0 := hbt1.f 2
  have BA1 : Hid (BoxN (w1.setCell ⟨w.heap.size + 1 + 1, 2, none⟩ (.slice pa pn pc)) w.heap.size #[.string s, .int .i64 k, .slice xa xn xc, .slice ya yn yc, .int .i64 n]) := hba1.other _ _ (by simp; omega)
  have BZ1 : Hid (BoxN (w1.setCell ⟨w.heap.size + 1 + 1, 2, none⟩ (.slice pa pn pc)) (w.heap.size + 1) #[.string ⟨#[]⟩, .int .i64 0, .slice none 0 0, .slice none 0 0, .int .i64 0]) := hbz1.other _ _ (by simp)
  have BT1 : Hid (BoxN (w1.setCell ⟨w.heap.size + 1 + 1, 2, none⟩ (.slice pa pn pc)) (w.heap.size + 1 + 1) #[.string s, .int .i64 k, .slice pa pn pc, .slice ya yn yc, .int .i64 n]) := hbt1.set 2 _
  have d3 : (w1.setCell ⟨w.heap.size + 1 + 1, 2, none⟩ (.slice pa pn pc)).cell? ⟨w.heap.size, 3, none⟩ = some (.slice ya yn yc) := BA1.out.c 3
  have HO0 : Hid (Own (w1.setCell ⟨w.heap.size + 1 + 1, 2, none⟩ (.slice pa pn pc)) (w.heap.size + 3) (.slice pa pn pc) A) := by
    show Own _ _ _ _
    rw [← hsz]
    exact ho0.setCell _ _ (fun k hk => by have := ho0.frm k hk; simp; omega)
  have HB1 : Hid (Below w.heap.size w (w1.setCell ⟨w.heap.size + 1 + 1, 2, none⟩ (.slice pa pn pc))) := (Below.after HB.out hb1).setCell (by simp; omega) _
  have hs1' : (w1.setCell ⟨w.heap.size + 1 + 1, 2, none⟩ (.slice pa pn pc)).heap.size = w1.heap.size := by simp
  clear hba1 hbz1 hbt1 ho0 hb1
  go_wp2_with fail
  refine (copy_Own (HY.out.later HB1.out)).mono ?_
  rintro e w2 ⟨x1, rfl, ho1, hb2⟩
  obtain ⟨qa, qn, qc, rfl⟩ := ho1.ints.shape3
  have hbz2 := BZ1.out.later hb2
  have hbt2 := BT1.out.later hb2
  have c3 : w2.cell? ⟨w.heap.size + 1 + 1, 3, none⟩ = some (.slice ya yn yc) := hbt2.c 3
  have f3 := hbt2.f 3
  have hz3 : BoxN (w2.setCell ⟨w.heap.size + 1 + 1, 3, none⟩ (.slice qa qn qc)) (w.heap.size + 1) #[.string ⟨#[]⟩, .int .i64 0, .slice none 0 0, .slice none 0 0, .int .i64 0] := hbz2.other _ _ (by simp)
  have ht3 : BoxN (w2.setCell ⟨w.heap.size + 1 + 1, 3, none⟩ (.slice qa qn qc)) (w.heap.size + 1 + 1) #[.string s, .int .i64 k, .slice pa pn pc, .slice qa qn qc, .int .i64 n] := hbt2.set 3 _
  have t0 : (w2.setCell ⟨w.heap.size + 1 + 1, 3, none⟩ (.slice qa qn qc)).cell? ⟨w.heap.size + 1 + 1, 0, none⟩ = some (.string s) := ht3.c 0
  have t1 : (w2.setCell ⟨w.heap.size + 1 + 1, 3, none⟩ (.slice qa qn qc)).cell? ⟨w.heap.size + 1 + 1, 1, none⟩ = some (.int .i64 k) := ht3.c 1
  have t2 : (w2.setCell ⟨w.heap.size + 1 + 1, 3, none⟩ (.slice qa qn qc)).cell? ⟨w.heap.size + 1 + 1, 2, none⟩ = some (.slice pa pn pc) := ht3.c 2
  have t3 : (w2.setCell ⟨w.heap.size + 1 + 1, 3, none⟩ (.slice qa qn qc)).cell? ⟨w.heap.size + 1 + 1, 3, none⟩ = some (.slice qa qn qc) := ht3.c 3
  have t4 : (w2.setCell ⟨w.heap.size + 1 + 1, 3, none⟩ (.slice qa qn qc)).cell? ⟨w.heap.size + 1 + 1, 4, none⟩ = some (.int .i64 n) := ht3.c 4
  have z0 : (w2.setCell ⟨w.heap.size + 1 + 1, 3, none⟩ (.slice qa qn qc)).cell? ⟨w.heap.size + 1, 0, none⟩ = some (.string ⟨#[]⟩) := hz3.c 0
  have z1 : (w2.setCell ⟨w.heap.size + 1 + 1, 3, none⟩ (.slice qa qn qc)).cell? ⟨w.heap.size + 1, 1, none⟩ = some (.int .i64 0) := hz3.c 1
  have z2 : (w2.setCell ⟨w.heap.size + 1 + 1, 3, none⟩ (.slice qa qn qc)).cell? ⟨w.heap.size + 1, 2, none⟩ = some (.slice none 0 0) := hz3.c 2
  have z3 : (w2.setCell ⟨w.heap.size + 1 + 1, 3, none⟩ (.slice qa qn qc)).cell? ⟨w.heap.size + 1, 3, none⟩ = some (.slice none 0 0) := hz3.c 3
  have z4 : (w2.setCell ⟨w.heap.size + 1 + 1, 3, none⟩ (.slice qa qn qc)).cell? ⟨w.heap.size + 1, 4, none⟩ = some (.int .i64 0) := hz3.c 4
  have y0 := hz3.f 0
  have y1 := hz3.f 1
  have y2 := hz3.f 2
  have y3 := hz3.f 3
  have y4 := hz3.f 4
  have BR : Hid (BoxN _ (w.heap.size + 1) #[.string s, .int .i64 k, .slice pa pn pc, .slice qa qn qc, .int .i64 n]) := ((((hz3.set 0 (.string s)).set 1 (.int .i64 k)).set 2 (.slice pa pn pc)).set 3 (.slice qa qn qc)).set 4 (.int .i64 n)
  have HO2 : Hid (Own w2 (w.heap.size + 3) (.slice pa pn pc) A) := HO0.out.later hb2
  have HO1 : Hid (Own w2 (w.heap.size + 3) (.slice qa qn qc) D) := ho1.mono (by omega)
  have HB2 : Hid (Below w.heap.size w w2) := Below.after HB1.out hb2
  clear ho1 hb2 hbz2 hbt2 hz3 ht3
  go_wp2
  have r0 := (BR.out.c 0).trans (show _ = some (.string s) from rfl)
  have r1 := (BR.out.c 1).trans (show _ = some (.int .i64 k) from rfl)
  have r2 := (BR.out.c 2).trans (show _ = some (.slice pa pn pc) from rfl)
  have r3 := (BR.out.c 3).trans (show _ = some (.slice qa qn qc) from rfl)
  have r4 := (BR.out.c 4).trans (show _ = some (.int .i64 n) from rfl)
  have HO : ∀ {v : Value} {d : List Int}, Own w2 (w.heap.size + 3) v d → Own _ w.heap.size v d := fun h => ((((((h.below ⟨w.heap.size + 1 + 1, 3, none⟩ (.slice qa qn qc) (by simp)).below ⟨w.heap.size + 1, 0, none⟩ (.string s) (by simp)).below ⟨w.heap.size + 1, 1, none⟩ (.int .i64 k) (by simp)).below ⟨w.heap.size + 1, 2, none⟩ (.slice pa pn pc) (by simp)).below ⟨w.heap.size + 1, 3, none⟩ (.slice qa qn qc) (by simp)).below ⟨w.heap.size + 1, 4, none⟩ (.int .i64 n) (by simp)).mono (by omega)
  refine bodyPost_ret (v := .agg #[.string s, .int .i64 k, .slice pa pn pc, .slice qa qn qc, .int .i64 n]) (by simp [results, Try.results32, go_sem, r0, r1, r2, r3, r4]) rfl ⟨_, _, rfl, HO HO2.out, HO HO1.out, ?_⟩
  exact (((((HB2.out.setCell (by simp; omega) _).setCell (by simp) _).setCell (by simp) _).setCell (by simp) _).setCell (by simp) _).setCell (by simp) _
end Go.Proofs.Ytjfkhfahpjdidaa
