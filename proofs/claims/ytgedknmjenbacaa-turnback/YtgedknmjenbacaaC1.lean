/- Contracts: crossed, ties. -/
import Derived.Test.YtgedknmjenbacaaW8
import Derived.Test.YtgedknmjenbacaaK3
namespace Go.Proofs.Ytgedknmjenbacaa
set_option linter.unusedVariables false
set_option linter.unusedSimpArgs false
open Go.RowKit

theorem It.nx {w : World} {I k : Nat} {s : ByteArray} (h : It w I s k) (hk : k < s.size) (x : Int) (hx : (s[k].toNat : Int) = x) (h1 : s[k].toNat < 128) (ty : TypeId) :
    (Instr.next (.pointer (some ⟨I, 0, none⟩)) true ty).run Try.prog w = .ok (.tuple #[.bool true, .int .i64 k, .int .i32 x]) (w.iterAt I s (k + 1)) := by
  subst hx
  rw [Lib.run_next_ascii_at w I s k ty h hk h1]
theorem It.nd {w : World} {I k : Nat} {s : ByteArray} (h : It w I s k) (hk : k = s.size) (ty : TypeId) :
    (Instr.next (.pointer (some ⟨I, 0, none⟩)) true ty).run Try.prog w = .ok (.tuple #[.bool false]) w :=
  Lib.run_next_end_at w I s k ty h (by omega)
theorem It.blk {w : World} {B I : Nat} {xs : List Int} {s : ByteArray} {p : Nat} (h : Blk w B xs) (hi : It w I s p) : I ≠ B := by
  rintro rfl
  have := h.symm.trans hi
  cases this

set_option maxHeartbeats 1000000 in
theorem crossed_any {v : Value} {x y : Int} {w : World} (h : Ints w v [x, y]) :
    Calls Try.prog 32 #[v] w fun e w' => e = .returned (.slice (some ⟨w.heap.size, 0, none⟩) 2 2) ∧ Blk w' w.heap.size [y, x] ∧ Below w.heap.size w w' := by
  obtain ⟨b, off, c, rfl, hc, hcell⟩ : ∃ b off c, v = .slice (some ⟨b, off, none⟩) 2 c ∧ 2 ≤ c ∧ (w.cell? ⟨b, off + 0, none⟩ = some (.int .i64 x) ∧ w.cell? ⟨b, off + 1, none⟩ = some (.int .i64 y)) := by
    rcases h.cases with ⟨e, _⟩ | ⟨b, off, c, rfl, h0, h1, h2, HC⟩
    · cases e
    · exact ⟨b, off, c, rfl, h1, HC.out 0 (by simp), HC.out 1 (by simp)⟩
  have hmk : (Instr.makeSlice 23 (.int .i64 2) (.int .i64 2)).run Try.prog w = .ok (.slice (some ⟨w.heap.size, 0, none⟩) 2 2) (w.alloc (.cells (ia (zer 2)) 3)) := make_ints w 2 (by omega)
  obtain ⟨g0, g1⟩ := hcell
  have hb0 : Below w.heap.size w ((w.alloc (.cells (ia (zer 2)) 3)).iter ⟨#[49, 48]⟩ 0) := by
    rw [iter_alloc]
    exact ((Below.refl _ _).alloc (Nat.le_refl _) _).alloc (by simp) _
  have hI0 : It ((w.alloc (.cells (ia (zer 2)) 3)).iter ⟨#[49, 48]⟩ 0) (w.heap.size + 1) ⟨#[49, 48]⟩ 0 := by
    have := It.new (w.alloc (.cells (ia (zer 2)) 3)) ⟨#[49, 48]⟩ 0
    simpa using this
  have hB0 : Blk ((w.alloc (.cells (ia (zer 2)) 3)).iter ⟨#[49, 48]⟩ 0) w.heap.size [0, 0] := by
    rw [iter_alloc]
    exact (Blk.new w _).alloc _
  have hn0 := fun ty => hI0.nx (by decide) 49 (by decide) (by decide) ty
  clear h
  go_enter Try.func32, Try.ntmps32
  go_wp2
  have hI1 := hI0.moved 1
  have hB1 := hB0.moved (I := w.heap.size + 1) (by omega) ⟨#[49, 48]⟩ 1
  have hb1 := Below.moved hb0 (I := w.heap.size + 1) (by omega) ⟨#[49, 48]⟩ 1
  clear hI0 hB0 hb0 hmk
  refine wp_loop_rounds 3 ?_
  rw [rounds_succ]
  generalize hW1 : ((w.alloc (.cells (ia (zer 2)) 3)).iter ⟨#[49, 48]⟩ 0).iterAt (w.heap.size + 1) ⟨#[49, 48]⟩ 1 = W1 at *
  have c1 : W1.cell? ⟨b, off + 1, none⟩ = some (.int .i64 y) := cell_later hb1 g1
  have d0 : W1.cell? ⟨w.heap.size, 0, none⟩ = some (.int .i64 0) := hB1.cell 0 (by simp)
  have f0 := hB1.frozen 0
  go_wp2
  have hI2 := hI1.set ⟨w.heap.size, 0, none⟩ (.int .i64 y) (by simp)
  have hB2 : Blk (W1.setCell ⟨w.heap.size, 0, none⟩ (.int .i64 y)) w.heap.size [y, 0] := hB1.set 0 y
  have hb2 : Below w.heap.size w (W1.setCell ⟨w.heap.size, 0, none⟩ (.int .i64 y)) := hb1.setCell (Nat.le_refl _) _
  have hn1 := fun ty => hI2.nx (by decide) 48 (by decide) (by decide) ty
  have hI3 := hI2.moved 2
  have hB3 := hB2.moved (I := w.heap.size + 1) (by omega) ⟨#[49, 48]⟩ 2
  have hb3 := Below.moved hb2 (I := w.heap.size + 1) (by omega) ⟨#[49, 48]⟩ 2
  clear hI1 hB1 hb1 hI2 hB2 hb2 c1 d0 f0 hn0 hW1
  generalize (W1.setCell ⟨w.heap.size, 0, none⟩ (.int .i64 y)) = V1 at *
  rw [rounds_succ]
  generalize V1.iterAt (w.heap.size + 1) ⟨#[49, 48]⟩ 2 = W2 at *
  have c0 : W2.cell? ⟨b, off, none⟩ = some (.int .i64 x) := cell_later hb3 g0
  have d1 : W2.cell? ⟨w.heap.size, 1, none⟩ = some (.int .i64 0) := hB3.cell 1 (by simp)
  have f1 := hB3.frozen 1
  go_wp2
  have hI4 := hI3.set ⟨w.heap.size, 1, none⟩ (.int .i64 x) (by simp)
  have hB4 : Blk (W2.setCell ⟨w.heap.size, 1, none⟩ (.int .i64 x)) w.heap.size [y, x] := hB3.set 1 x
  have hb4 : Below w.heap.size w (W2.setCell ⟨w.heap.size, 1, none⟩ (.int .i64 x)) := hb3.setCell (Nat.le_refl _) _
  have hn2 := fun ty => hI4.nd (by decide) ty
  clear hI3 hB3 hb3 c0 d1 f1 hn1
  generalize (W2.setCell ⟨w.heap.size, 1, none⟩ (.int .i64 x)) = V2 at *
  rw [rounds_succ]
  go_wp2
  go_ret
  exact ⟨rfl, hB4, hb4⟩

/-- What spells in which dims a place agrees. -/
def tieB (x : Int) : UInt8 := if x = 1 then 42 else 61
def tieT (d : List Int) : ByteArray := ⟨(d.map tieB).toArray⟩
theorem tieT_snoc (l : List Int) (x : Int) : tieT (l ++ [x]) = tieT l ++ ⟨#[tieB x]⟩ := by
  have h := ByteArray.mk_append_mk (l.map tieB) [tieB x]
  simp only [tieT, List.map_append, List.map_cons, List.map_nil]
  exact h.symm
theorem tieT_size (d : List Int) : (tieT d).size = d.length := by simp [tieT, ByteArray.size]
theorem tieT_get (d : List Int) (k : Nat) (h : k < d.length) (hs : k < (tieT d).size) : (tieT d)[k] = tieB d[k] := by
  show (tieT d).data[k] = _
  simp [tieT]

set_option maxHeartbeats 400000 in
theorem ties_any {v : Value} {d : List Int} {w : World} (h : Ints w v d) (hl : d.length ≤ 3) :
    Calls Try.prog 52 #[v] w fun e w' => e = .returned (.string (tieT d)) ∧ w = w' := by
  rcases h.cases with ⟨rfl, a1, c1, rfl⟩ | ⟨b, off, c, rfl, h0, h1, h2, HC⟩
  · clear h
    go_enter Try.func52, Try.ntmps52
    go_wp2
    refine wp_loop_rounds 1 ?_
    rw [rounds_succ]
    go_wp2
    go_ret
    exact ⟨rfl, rfl⟩
  clear h h2
  go_enter Try.func52, Try.ntmps52
  go_wp2
  go_loop [3, 8] (fun t i => ∃ k : Nat, k ≤ d.length ∧ i = .int .i64 k ∧ t = .string (tieT (d.take k))) (fun _ i => d.length - (intOf i).toNat)
  case atStart => exact ⟨0, Nat.zero_le _, rfl, by rw [List.take_zero]; rfl⟩
  case round =>
    obtain ⟨k, hk, rfl, rfl⟩ := hrel
    by_cases hlt : k < d.length
    · have hc := HC.out k hlt
      have hsz : (tieT (d.take k)).size = k := by rw [tieT_size]; simp; omega
      have HT : Hid (tieT (d.take (k + 1)) = tieT (d.take k) ++ ⟨#[tieB d[k]]⟩) := by
        show _ = _
        rw [take_snoc d k hlt, tieT_snoc]
      by_cases h1 : d[k] = 1
      · have hq : (d[k] == 1) = true := by simp [h1]
        have HB : Hid (tieB d[k] = 42) := by show _ = _; simp [tieB, h1]
        clear h1
        go_wp2
        exact ⟨⟨k + 1, by omega, by go_num, by rw [HT.out, HB.out]⟩, by simp [intOf]; omega⟩
      · have hq : (d[k] == 1) = false := by simp [h1]
        have HB : Hid (tieB d[k] = 61) := by show _ = _; simp [tieB, h1]
        clear h1
        go_wp2
        exact ⟨⟨k + 1, by omega, by go_num, by rw [HT.out, HB.out]⟩, by simp [intOf]; omega⟩
    · have hk' : k = d.length := by omega
      subst hk'
      go_wp2
      go_ret
      exact ⟨rfl, rfl⟩
end Go.Proofs.Ytgedknmjenbacaa
