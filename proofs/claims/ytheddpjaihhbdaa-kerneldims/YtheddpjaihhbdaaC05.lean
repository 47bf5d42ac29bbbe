/- Carried: J3. -/
import Derived.Test.YtheddpjaihhbdaaC04
namespace Go.Proofs.Ytheddpjaihhbdaa
set_option linter.unusedVariables false
set_option linter.unusedSimpArgs false
set_option maxRecDepth 100000
open Go.RowKit

set_option maxHeartbeats 400000 in
theorem fill_own {v : Value} {d : List Int} {w : World} (n : Int) (h : Ints w v d) (hok : okd d = true) :
    Calls Try.prog 18 #[v, .int .i64 n] w fun e w' => ∃ x0 b1, e = .returned (.tuple #[.agg #[x0, .slice (some ⟨b1, 0, none⟩) (prd d).toNat (prd d).toNat], .int .i64 0]) ∧ Own w' w.heap.size x0 d ∧ Blk w' b1 (List.replicate (prd d).toNat n) ∧ (w.heap.size ≤ b1 ∧ ∀ k, x0.ownBlock = some k → k ≠ b1) ∧ Below w.heap.size w w' := by
  have hb : Below w.heap.size w (w.alloc (.cells #[.slice none 0 0, .slice none 0 0] 31)) := (Below.refl _ _).alloc (Nat.le_refl _) _
  have H : Hid (Ints (w.alloc (.cells #[.slice none 0 0, .slice none 0 0] 31)) v d) := h.later hb
  have HB : Hid (Below w.heap.size w (w.alloc (.cells #[.slice none 0 0, .slice none 0 0] 31))) := hb
  have HK : Hid (okd d = true) := hok
  obtain ⟨hl1, hl2, hin, hp⟩ := okd_parts hok
  have hp1 := prd_lo hin
  have HC : Hid ((prd d).toNat = prd d) := by show _ = _; omega
  obtain ⟨m, hm⟩ : ∃ m : Nat, prd d = m := ⟨(prd d).toNat, by omega⟩
  have HM : Hid (prd d = m) := hm
  have hm1 : 1 ≤ m := by omega
  have hm2 : m ≤ 64 := by omega
  have hmk := fun w => make_ints w m (by omega)
  clear h hok hb hin hp hp1 hm
  go_enter Try.func18, Try.ntmps18
  go_wp2_with fail
  refine (cells_ok H.out HK.out).mono ?_
  rw [HM.out]
  rintro e w1 ⟨rfl, hb1⟩
  have hsz := hb1.size
  simp at hsz
  have HB1 : Hid (Below w.heap.size w w1) := Below.after HB.out hb1
  have HH : Hid (Ints w1 v d) := H.out.later hb1
  have hbox : Hid (w1.heap[w.heap.size]? = some (.cells #[.slice none 0 0, .slice none 0 0] 31 (0, 0))) := (hb1.block w.heap.size (by simp)).trans (heap_alloc_new w _)
  clear hb1
  go_wp2
  clear hmk
  have HST : Hid (Blk (w1.alloc (.cells (ia (zer m)) 3)) w1.heap.size (fil m 0 n)) := by
    show Blk _ _ _
    rw [fil_zero]
    exact Blk.new w1 _
  go_loopw [23] (fun i w' => ∃ j : Nat, j ≤ m ∧ i = .int .i64 j ∧ Blk w' w1.heap.size (fil m j n) ∧ Below w1.heap.size w1 w') (fun i _ => m - (intOf i).toNat)
  case atStart => exact ⟨0, by omega, rfl, HST.out, (Below.refl _ _).alloc (Nat.le_refl _) _⟩
  case round =>
    obtain ⟨j, hj, rfl, hB, hbel⟩ := hrel
    have HB3 : Hid (Blk wr w1.heap.size (fil m j n)) := hB
    have HBL3 : Hid (Below w1.heap.size w1 wr) := hbel
    clear hB hbel
    by_cases hltj : j < m
    · have hf := HB3.out.frozen j
      obtain ⟨x, hc⟩ : ∃ x, wr.cell? ⟨w1.heap.size, j, none⟩ = some x := ⟨_, HB3.out.cell j (by rw [fil_length _ _ _ hj]; exact hltj)⟩
      go_wp2
      refine ⟨⟨j + 1, by omega, by go_num, ?_, HBL3.out.setCell (Nat.le_refl _) _⟩, by simp [intOf]; omega⟩
      have := HB3.out.set j n
      rw [fil_set _ _ _ hltj] at this
      exact this
    · have hj' : j = m := by omega
      subst hj'
      have hws := HBL3.out.size
      go_wp2_with fail
      refine (clone_own (HH.out.later HBL3.out) hl1).mono ?_
      rintro e w2 ⟨v0, rfl, ho0, hb2⟩
      have hi0 := ho0.ints
      have hf0 := ho0.frm
      obtain ⟨va, vc, rfl⟩ := hi0.shape
      have HI0 : Hid (Ints w2 (.slice va d.length vc) d) := hi0
      have HO0 : Hid (Own w2 wr.heap.size (.slice va d.length vc) d) := ho0
      have hlt0 := HB3.out.lt
      have HF0 : Hid (From wr.heap.size (.slice va d.length vc)) := hf0
      have HB4 : Hid (Below w1.heap.size w1 w2) := Below.after HBL3.out hb2
      have HB5 : Hid (Blk w2 w1.heap.size (List.replicate j n)) := by
        have := HB3.out.later hb2 HB3.out.lt
        rw [fil_all] at this
        exact this
      have hbx : w2.heap[w.heap.size]? = some (.cells #[.slice none 0 0, .slice none 0 0] 31 (0, 0)) := (HB4.out.block _ (by omega)).trans hbox.out
      have hx0 := cell_of_row w2 w.heap.size 0 _ _ _ hbx
      have hx1 := cell_of_row w2 w.heap.size 1 _ _ _ hbx
      have hy0 := frozen_of_row w2 w.heap.size 0 _ _ hbx
      have hy1 := frozen_of_row w2 w.heap.size 1 _ _ hbx
      simp at hx0 hx1
      have hs1 := heap_setCell_same w2 w.heap.size 0 _ 31 (.slice va d.length vc) hbx
      have hs2 := heap_setCell_same _ w.heap.size 1 _ 31 (.slice (some ⟨w1.heap.size, 0, none⟩) j j) hs1
      have HR0 : Hid (((w2.setCell ⟨w.heap.size, 0, none⟩ (.slice va d.length vc)).setCell ⟨w.heap.size, 1, none⟩ (.slice (some ⟨w1.heap.size, 0, none⟩) j j)).cell? ⟨w.heap.size, 0, none⟩ = some (.slice va d.length vc)) := by
        show _ = _
        rw [cell_of_row _ w.heap.size 0 _ _ _ hs2]
        rfl
      have HR1 : Hid (((w2.setCell ⟨w.heap.size, 0, none⟩ (.slice va d.length vc)).setCell ⟨w.heap.size, 1, none⟩ (.slice (some ⟨w1.heap.size, 0, none⟩) j j)).cell? ⟨w.heap.size, 1, none⟩ = some (.slice (some ⟨w1.heap.size, 0, none⟩) j j)) := by
        show _ = _
        rw [cell_of_row _ w.heap.size 1 _ _ _ hs2]
        rfl
      clear ho0 hi0 hf0 hb2 hbx hs1 hs2
      go_wp2
      have HJ : Hid ((prd d).toNat = j) := by show _ = _; rw [HM.out]; rfl
      clear HM HC
      have hr0 := HR0.out
      have hr1 := HR1.out
      refine bodyPost_ret (v := .tuple #[.agg #[.slice va d.length vc, .slice (some ⟨w1.heap.size, 0, none⟩) j j], .int .i64 0]) (by simp [results, Try.results18, go_sem, hr0, hr1]) rfl ⟨_, w1.heap.size, by rw [HJ.out], ?_, ?_, ⟨by omega, fun k hk => by have := HF0.out k hk; omega⟩, ?_⟩
      · exact (((HO0.out.setCell _ _ (fun k hk => by have := HF0.out k hk; simp; omega)).setCell _ _ (fun k hk => by have := HF0.out k hk; simp; omega))).mono (by omega)
      · rw [HJ.out]
        exact (HB5.out.setOther _ _ (by simp; omega)).setOther _ _ (by simp; omega)
      · exact ((Below.after HB1.out HB4.out).setCell (Nat.le_refl _) _).setCell (Nat.le_refl _) _
theorem It.nx {w : World} {I k : Nat} {s : ByteArray} (h : It w I s k) (hk : k < s.size) (x : Int) (hx : (s[k].toNat : Int) = x) (h1 : s[k].toNat < 128) (ty : TypeId) :
    (Instr.next (.pointer (some ⟨I, 0, none⟩)) true ty).run Try.prog w = .ok (.tuple #[.bool true, .int .i64 k, .int .i32 x]) (w.iterAt I s (k + 1)) := by
  subst hx
  rw [Lib.run_next_ascii_at w I s k ty h hk h1]
theorem It.nd {w : World} {I k : Nat} {s : ByteArray} (h : It w I s k) (hk : k = s.size) (ty : TypeId) :
    (Instr.next (.pointer (some ⟨I, 0, none⟩)) true ty).run Try.prog w = .ok (.tuple #[.bool false]) w :=
  Lib.run_next_end_at w I s k ty h (by omega)
theorem It.blk {w : World} {B I : Nat} {xs : List Int} {s : ByteArray} {p : Nat} (h : Blk w B xs) (hi : It w I s p) : I ≠ B := by
  rintro rfl
  have := h.symm.trans hi
  cases this
/-- What spells in which dims a place agrees. -/
def tieB (x : Int) : UInt8 := if x = 1 then 42 else 61
def tieT (d : List Int) : ByteArray := ⟨(d.map tieB).toArray⟩
theorem tieT_snoc (l : List Int) (x : Int) : tieT (l ++ [x]) = tieT l ++ ⟨#[tieB x]⟩ := by
  have h := ByteArray.mk_append_mk (l.map tieB) [tieB x]
  simp only [tieT, List.map_append, List.map_cons, List.map_nil]
  exact h.symm
theorem tieT_size (d : List Int) : (tieT d).size = d.length := by simp [tieT, ByteArray.size]
theorem tieT_get (d : List Int) (k : Nat) (h : k < d.length) (hs : k < (tieT d).size) : (tieT d)[k] = tieB d[k] := by
  show (tieT d).data[k] = _
  simp [tieT]
end Go.Proofs.Ytheddpjaihhbdaa
