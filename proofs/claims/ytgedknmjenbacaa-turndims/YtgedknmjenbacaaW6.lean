/- Contract: Fill. -/
import Derived.Test.YtgedknmjenbacaaW5
namespace Go.Proofs.Ytgedknmjenbacaa
set_option linter.unusedVariables false
open Go.RowKit

/-- n everywhere, the first j of them laid. -/
def fil (m j : Nat) (n : Int) : List Int := List.replicate j n ++ List.replicate (m - j) 0
theorem fil_length (m j : Nat) (n : Int) (h : j ≤ m) : (fil m j n).length = m := by simp [fil]; omega
theorem fil_zero (m : Nat) (n : Int) : fil m 0 n = zer m := by simp [fil, zer]
theorem fil_set (m j : Nat) (n : Int) (h : j < m) : (fil m j n).set j n = fil m (j + 1) n := by
  obtain ⟨q, hq⟩ : ∃ q, m - j = q + 1 := ⟨m - j - 1, by omega⟩
  have h2 : m - (j + 1) = q := by omega
  simp only [fil, hq, h2]
  rw [List.set_append_right _ _ (by simp)]
  simp only [List.length_replicate, Nat.sub_self, List.replicate_succ (n := q), List.set_cons_zero]
  rw [List.replicate_succ', List.append_assoc]
  rfl
theorem fil_all (m : Nat) (n : Int) : fil m m n = List.replicate m n := by simp [fil]

set_option maxHeartbeats 400000 in
theorem fill_bad {v : Value} {d : List Int} {w : World} (n : Int) (h : Ints w v d) (hok : okd d = false) :
    Calls Try.prog 31 #[v, .int .i64 n] w fun e w' => e = .returned (.tuple #[.agg #[.slice none 0 0, .slice none 0 0], .int .i64 1]) ∧ Below w.heap.size w w' := by
  have hb : Below w.heap.size w (w.alloc (.cells #[.slice none 0 0, .slice none 0 0] 31)) := (Below.refl _ _).alloc (Nat.le_refl _) _
  have H : Hid (Ints (w.alloc (.cells #[.slice none 0 0, .slice none 0 0] 31)) v d) := h.later hb
  have HB : Hid (Below w.heap.size w (w.alloc (.cells #[.slice none 0 0, .slice none 0 0] 31))) := hb
  have HK : Hid (okd d = false) := hok
  clear h hok hb
  go_enter Try.func31, Try.ntmps31
  go_wp2_with (go_at_call 46; refine (cells_bad H.out HK.out).mono ?_; rintro e w' ⟨rfl, rfl⟩)
  exact bodyPost_ret (v := .tuple #[.agg #[.slice none 0 0, .slice none 0 0], .int .i64 1]) (by simp [results, Try.results31, go_sem]) rfl ⟨rfl, HB.out⟩

set_option maxHeartbeats 400000 in
theorem fill_ok {v : Value} {d : List Int} {w : World} (n : Int) (h : Ints w v d) (hok : okd d = true) :
    Calls Try.prog 31 #[v, .int .i64 n] w fun e w' => ∃ a0 c0 b1, e = .returned (.tuple #[.agg #[.slice a0 d.length c0, .slice (some ⟨b1, 0, none⟩) (prd d).toNat (prd d).toNat], .int .i64 0]) ∧ Ints w' (.slice a0 d.length c0) d ∧ Blk w' b1 (List.replicate (prd d).toNat n) ∧ Below w.heap.size w w' := by
  have hb : Below w.heap.size w (w.alloc (.cells #[.slice none 0 0, .slice none 0 0] 31)) := (Below.refl _ _).alloc (Nat.le_refl _) _
  have H : Hid (Ints (w.alloc (.cells #[.slice none 0 0, .slice none 0 0] 31)) v d) := h.later hb
  have HB : Hid (Below w.heap.size w (w.alloc (.cells #[.slice none 0 0, .slice none 0 0] 31))) := hb
  have HK : Hid (okd d = true) := hok
  obtain ⟨hl1, hl2, hin, hp⟩ := okd_parts hok
  have hp1 := prd_lo hin
  have HC : Hid ((prd d).toNat = prd d) := by show _ = _; omega
  obtain ⟨m, hm⟩ : ∃ m : Nat, prd d = m := ⟨(prd d).toNat, by omega⟩
  have HM : Hid (prd d = m) := hm
  have hm1 : 1 ≤ m := by omega
  have hm2 : m ≤ 64 := by omega
  have hmk := fun w => make_ints w m (by omega)
  clear h hok hb hin hp hp1 hm
  go_enter Try.func31, Try.ntmps31
  go_wp2_with fail
  refine (cells_ok H.out HK.out).mono ?_
  rw [HM.out]
  rintro e w1 ⟨rfl, hb1⟩
  have hsz := hb1.size
  simp at hsz
  have HB1 : Hid (Below w.heap.size w w1) := Below.after HB.out hb1
  have HH : Hid (Ints w1 v d) := H.out.later hb1
  have hbox : Hid (w1.heap[w.heap.size]? = some (.cells #[.slice none 0 0, .slice none 0 0] 31 (0, 0))) := (hb1.block w.heap.size (by simp)).trans (heap_alloc_new w _)
  clear hb1
  go_wp2
  clear hmk
  have HST : Hid (Blk (w1.alloc (.cells (ia (zer m)) 3)) w1.heap.size (fil m 0 n)) := by
    show Blk _ _ _
    rw [fil_zero]
    exact Blk.new w1 _
  go_loopw [23] (fun i w' => ∃ j : Nat, j ≤ m ∧ i = .int .i64 j ∧ Blk w' w1.heap.size (fil m j n) ∧ Below w1.heap.size w1 w') (fun i _ => m - (intOf i).toNat)
  case atStart => exact ⟨0, by omega, rfl, HST.out, (Below.refl _ _).alloc (Nat.le_refl _) _⟩
  case round =>
    obtain ⟨j, hj, rfl, hB, hbel⟩ := hrel
    have HB3 : Hid (Blk wr w1.heap.size (fil m j n)) := hB
    have HBL3 : Hid (Below w1.heap.size w1 wr) := hbel
    clear hB hbel
    by_cases hltj : j < m
    · have hf := HB3.out.frozen j
      obtain ⟨x, hc⟩ : ∃ x, wr.cell? ⟨w1.heap.size, j, none⟩ = some x := ⟨_, HB3.out.cell j (by rw [fil_length _ _ _ hj]; exact hltj)⟩
      go_wp2
      refine ⟨⟨j + 1, by omega, by go_num, ?_, HBL3.out.setCell (Nat.le_refl _) _⟩, by simp [intOf]; omega⟩
      have := HB3.out.set j n
      rw [fil_set _ _ _ hltj] at this
      exact this
    · have hj' : j = m := by omega
      subst hj'
      have hws := HBL3.out.size
      go_wp2_with fail
      refine (clone_any (HH.out.later HBL3.out) hl1).mono ?_
      rintro e w2 ⟨v0, rfl, hi0, hf0, hb2⟩
      obtain ⟨va, vc, rfl⟩ := hi0.shape
      have HI0 : Hid (Ints w2 (.slice va d.length vc) d) := hi0
      have HF0 : Hid (From wr.heap.size (.slice va d.length vc)) := hf0
      have HB4 : Hid (Below w1.heap.size w1 w2) := Below.after HBL3.out hb2
      have HB5 : Hid (Blk w2 w1.heap.size (List.replicate j n)) := by
        have := HB3.out.later hb2 HB3.out.lt
        rw [fil_all] at this
        exact this
      have hbx : w2.heap[w.heap.size]? = some (.cells #[.slice none 0 0, .slice none 0 0] 31 (0, 0)) := (HB4.out.block _ (by omega)).trans hbox.out
      have hx0 := cell_of_row w2 w.heap.size 0 _ _ _ hbx
      have hx1 := cell_of_row w2 w.heap.size 1 _ _ _ hbx
      have hy0 := frozen_of_row w2 w.heap.size 0 _ _ hbx
      have hy1 := frozen_of_row w2 w.heap.size 1 _ _ hbx
      simp at hx0 hx1
      have hs1 := heap_setCell_same w2 w.heap.size 0 _ 31 (.slice va d.length vc) hbx
      have hs2 := heap_setCell_same _ w.heap.size 1 _ 31 (.slice (some ⟨w1.heap.size, 0, none⟩) j j) hs1
      have HR0 : Hid (((w2.setCell ⟨w.heap.size, 0, none⟩ (.slice va d.length vc)).setCell ⟨w.heap.size, 1, none⟩ (.slice (some ⟨w1.heap.size, 0, none⟩) j j)).cell? ⟨w.heap.size, 0, none⟩ = some (.slice va d.length vc)) := by
        show _ = _
        rw [cell_of_row _ w.heap.size 0 _ _ _ hs2]
        rfl
      have HR1 : Hid (((w2.setCell ⟨w.heap.size, 0, none⟩ (.slice va d.length vc)).setCell ⟨w.heap.size, 1, none⟩ (.slice (some ⟨w1.heap.size, 0, none⟩) j j)).cell? ⟨w.heap.size, 1, none⟩ = some (.slice (some ⟨w1.heap.size, 0, none⟩) j j)) := by
        show _ = _
        rw [cell_of_row _ w.heap.size 1 _ _ _ hs2]
        rfl
      clear hi0 hf0 hb2 hbx hs1 hs2
      go_wp2
      have HJ : Hid ((prd d).toNat = j) := by show _ = _; rw [HM.out]; rfl
      clear HM HC
      have hr0 := HR0.out
      have hr1 := HR1.out
      refine bodyPost_ret (v := .tuple #[.agg #[.slice va d.length vc, .slice (some ⟨w1.heap.size, 0, none⟩) j j], .int .i64 0]) (by simp [results, Try.results31, go_sem, hr0, hr1]) rfl ⟨va, vc, w1.heap.size, by rw [HJ.out], ?_, ?_, ?_⟩
      · exact (HI0.out.setCell _ _ (fun k hk => by have := HF0.out k hk; simp; omega)).setCell _ _ (fun k hk => by have := HF0.out k hk; simp; omega)
      · rw [HJ.out]
        exact (HB5.out.setOther _ _ (by simp; omega)).setOther _ _ (by simp; omega)
      · exact ((Below.after HB1.out HB4.out).setCell (Nat.le_refl _) _).setCell (Nat.le_refl _) _
end Go.Proofs.Ytgedknmjenbacaa
