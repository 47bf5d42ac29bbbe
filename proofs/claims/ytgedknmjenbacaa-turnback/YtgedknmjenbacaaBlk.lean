/- A block of integers in memory that a call has made. -/
import Derived.Test.YtgedknmjenbacaaInts
import Derived.Deep.RegionWith
namespace Go.Proofs.Ytgedknmjenbacaa
set_option linter.unusedVariables false
open Go.RowKit

def ia (xs : List Int) : Array Value := (xs.map (Value.int .i64)).toArray
def Blk (w : World) (B : Nat) (xs : List Int) : Prop := w.heap[B]? = some (.cells (ia xs) 3 (0, 0))
def zer (n : Nat) : List Int := List.replicate n 0
theorem zer_length (n : Nat) : (zer n).length = n := by simp [zer]
theorem ia_size (xs : List Int) : (ia xs).size = xs.length := by simp [ia]
theorem ia_get (xs : List Int) (j : Nat) (h : j < xs.length) : (ia xs)[j]? = some (.int .i64 xs[j]) := by simp [ia, h]

theorem Blk.cell {w : World} {B : Nat} {xs : List Int} (h : Blk w B xs) (j : Nat) (hj : j < xs.length) : w.cell? ⟨B, j, none⟩ = some (.int .i64 xs[j]) := by
  rw [cell_of_row w B j (ia xs) 3 (0, 0) h, ia_get xs j hj]
theorem Blk.frozen {w : World} {B : Nat} {xs : List Int} (h : Blk w B xs) (j : Nat) : w.frozen? ⟨B, j, none⟩ = false := frozen_of_row w B j (ia xs) 3 h
theorem Blk.lt {w : World} {B : Nat} {xs : List Int} (h : Blk w B xs) : B < w.heap.size := (Array.getElem?_eq_some_iff.1 h).1
theorem Blk.set {w : World} {B : Nat} {xs : List Int} (h : Blk w B xs) (j : Nat) (v : Int) : Blk (w.setCell ⟨B, j, none⟩ (.int .i64 v)) B (xs.set j v) := by
  have := heap_setCell_same w B j (ia xs) 3 (.int .i64 v) h
  show _ = _
  rw [this]
  simp [ia]
theorem Blk.setOther {w : World} {B : Nat} {xs : List Int} (h : Blk w B xs) (a : Addr) (v : Value) (hb : B ≠ a.block) : Blk (w.setCell a v) B xs :=
  (heap_setCell_other w a B v hb).trans h
theorem Blk.later {w w' : World} {B N : Nat} {xs : List Int} (h : Blk w B xs) (hb : Below N w w') (hN : B < N) : Blk w' B xs := (hb.block B hN).trans h
theorem Blk.drewN {w : World} {B : Nat} {xs : List Int} (h : Blk w B xs) (n : Nat) : Blk (w.drewN n) B xs := h
theorem Blk.drew {w : World} {B : Nat} {xs : List Int} (h : Blk w B xs) : Blk w.drew B xs := h
theorem Blk.alloc {w : World} {B : Nat} {xs : List Int} (h : Blk w B xs) (o : Obj) : Blk (w.alloc o) B xs := (Below.heap_alloc w o B h.lt).trans h
theorem Blk.new (w : World) (xs : List Int) : Blk (w.alloc (.cells (ia xs) 3)) w.heap.size xs := heap_alloc_new w _
theorem Blk.ints {w : World} {B : Nat} {xs : List Int} (h : Blk w B xs) (n c : Nat) (hn : n = xs.length) (hc : n ≤ c) (hm : n ≤ big) : Ints w (.slice (some ⟨B, 0, none⟩) n c) xs :=
  Ints.mk hn (by omega) (by omega) fun i hi => by rw [Nat.zero_add]; exact h.cell i hi

theorem madeCells_ia (n : Nat) : madeCells #[.int .i64 0] n = ia (zer n) := by
  apply Array.ext
  · simp [madeCells, ia, zer]
  · intro i h1 h2
    simp [madeCells, ia, zer, Nat.mod_one]

theorem info3' : (Try.prog.info? 3).map (fun i => (i.zero, i.size, i.bytes)) = some (some (.int .i64 0), 1, 8) := by kernel_rfl
theorem info3 : ∃ i, Try.prog.info? 3 = some i ∧ i.zero = some (.int .i64 0) ∧ i.size = 1 ∧ i.bytes = 8 := by
  have h := info3'
  cases e : Try.prog.info? 3 with
  | none => rw [e] at h; cases h
  | some i =>
    rw [e] at h
    simp only [Option.map_some, Option.some.injEq, Prod.mk.injEq] at h
    exact ⟨i, rfl, h.1, h.2.1, h.2.2⟩
theorem make_ints (w : World) (n : Nat) (h : n ≤ 1000000000) :
    (Instr.makeSlice 23 (.int .i64 n) (.int .i64 n)).run Try.prog w = .ok (.slice (some ⟨w.heap.size, 0, none⟩) n n) (w.alloc (.cells (ia (zer n)) 3)) := by
  obtain ⟨i, h1, h2, h3, h4⟩ := info3
  have := run_make (P := Try.prog) w 23 3 i (.int .i64 0) Try.underlying23 h1 h2 .i64 .i64 n n (by omega) (by omega) (by rw [h4]; omega) (by omega)
  rw [this, h3, Int.toNat_natCast, Nat.mul_one]
  rw [show (Value.cells (.int .i64 0)) = #[.int .i64 0] from rfl, madeCells_ia]
end Go.Proofs.Ytgedknmjenbacaa
