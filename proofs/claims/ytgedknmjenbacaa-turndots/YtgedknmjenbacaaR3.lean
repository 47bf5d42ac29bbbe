/- Contracts of the page's own Fill, and of Numbers, which writes over. -/
import Derived.Test.YtgedknmjenbacaaR2
namespace Go.Proofs.Ytgedknmjenbacaa
set_option linter.unusedVariables false
set_option linter.unusedSimpArgs false
open Go.RowKit

theorem Ints.upto {w w' : World} {B : Nat} {v : Value} {d : List Int} (hb : Below B w w') (h : Ints w v d) (hk : ∀ k, v.ownBlock = some k → k < B) : Ints w' v d := by
  rcases h with ⟨rfl, rfl⟩ | ⟨a, c, rfl, h1, h2, h3⟩
  · exact Ints.nil _
  · refine Or.inr ⟨a, c, rfl, h1, h2, fun i hi => ?_⟩
    obtain ⟨b, off, rfl, hc⟩ := h3 i hi
    refine ⟨b, off, rfl, ?_⟩
    rw [hb.cell (p := ⟨b, off + i, none⟩) (hk b rfl)]
    exact hc
theorem Ints.old {w : World} {v : Value} {d : List Int} (h : Ints w v d) (h1 : 1 ≤ d.length) : ∀ k, v.ownBlock = some k → k < w.heap.size := by
  intro k hk
  rcases h.cases with ⟨rfl, _⟩ | ⟨b, off, c, rfl, h0, _, _, hc⟩
  · simp at h1
  · simp [Value.ownBlock] at hk
    subst hk
    exact World.block_lt_of_cell? _ _ (hc.out 0 h0)

/-- What the page's Fill has laid behind j rounds. -/
structure Lay (w w1 wr : World) (v0 vj : Value) (d : List Int) (n : Int) (j : Nat) : Prop where
  box : wr.heap[w1.heap.size]? = some (.cells #[v0, vj] 31 (0, 0))
  res : wr.heap[w.heap.size]? = some (.cells #[.slice none 0 0, .slice none 0 0] 31 (0, 0))
  own : wr.ownsRow (w1.heap.size + 1) 3 1 vj j ((List.replicate j n).map (Value.int .i64))
  dims : Ints wr v0 d
  below : Below (w1.heap.size) w1 wr
  size : w1.heap.size + 1 ≤ wr.heap.size

theorem Lay.next {w w1 wr w2 : World} {v0 vj v' : Value} {d : List Int} {n : Int} {j : Nat} (h : Lay w w1 wr v0 vj d n j) (hw : w.heap.size < w1.heap.size) (hv : ∀ k, v0.ownBlock = some k → k < w1.heap.size)
    (o : Obj) (ho : w2.ownsRow (w1.heap.size + 1) 3 1 v' (j + 1) (List.replicate j (Value.int .i64 n) ++ [.int .i64 n])) (hg : (wr.alloc o).grownBy w2 vj.ownBlock) :
    Lay w w1 (w2.setCell ⟨w1.heap.size, 1, none⟩ v') v0 v' d n (j + 1) := by
  have hk : ∀ k, vj.ownBlock = some k → w1.heap.size + 1 ≤ k := fun k hk => (h.own.lt k hk).1
  have hbel : Below (w1.heap.size + 1) wr w2 := ((Below.refl _ _).alloc h.size o).grown hg (by have := h.size; simp; omega) hk
  have hb1 : w2.heap[w1.heap.size]? = some (.cells #[v0, vj] 31 (0, 0)) := (hbel.block _ (by omega)).trans h.box
  have hs := heap_setCell_same w2 w1.heap.size 1 _ 31 v' hb1
  refine ⟨?_, ?_, ?_, ?_, ?_, ?_⟩
  · rw [hs]; rfl
  · rw [heap_setCell_other _ _ _ _ (by simp; omega)]
    exact (hbel.block _ (by omega)).trans h.res
  · have e : (List.replicate (j + 1) n).map (Value.int .i64) = List.replicate j (Value.int .i64 n) ++ [.int .i64 n] := by
      rw [List.replicate_succ', List.map_append, List.map_replicate]; rfl
    rw [e]
    exact ownsRow_setCell_below ho (by simp) v'
  · exact (Ints.upto hbel h.dims (fun k hk => by have := hv k hk; omega)).setCell _ _ (fun k hk => by have := hv k hk; simp; omega)
  · exact (h.below.trans (hbel.mono (by omega))).setCell (Nat.le_refl _) _
  · have := hbel.size
    have := h.size
    simp [World.setCell]
    omega

set_option maxHeartbeats 1000000 in
theorem rfill_ok {v : Value} {d : List Int} {w : World} (n : Int) (h : Ints w v d) (hok : okd d = true) :
    Calls Try.prog 35 #[v, .int .i64 n] w fun e w' => ∃ a0 c0 a1 c1, e = .returned (.agg #[.slice a0 d.length c0, .slice a1 (prd d).toNat c1]) ∧ Ints w' (.slice a0 d.length c0) d ∧ Ints w' (.slice a1 (prd d).toNat c1) (List.replicate (prd d).toNat n) ∧ Below w.heap.size w w' := by
  have hb : Below w.heap.size w (w.alloc (.cells #[.slice none 0 0, .slice none 0 0] 31)) := (Below.refl _ _).alloc (Nat.le_refl _) _
  have H : Hid (Ints (w.alloc (.cells #[.slice none 0 0, .slice none 0 0] 31)) v d) := h.later hb
  have HB : Hid (Below w.heap.size w (w.alloc (.cells #[.slice none 0 0, .slice none 0 0] 31))) := hb
  have HK : Hid (okd d = true) := hok
  obtain ⟨hl1, hl2, hin, hp⟩ := okd_parts hok
  have hp1 := prd_lo hin
  obtain ⟨m, hm⟩ : ∃ m : Nat, prd d = m := ⟨(prd d).toNat, by omega⟩
  have HM : Hid (prd d = m) := hm
  have HN : Hid ((prd d).toNat = m) := by show _ = _; omega
  have hm1 : 1 ≤ m := by omega
  have hm2 : m ≤ 64 := by omega
  obtain ⟨i3, hi, hz0, hz1, hz2⟩ := info3
  have HI : Hid (Try.prog.info? 3 = some i3) := hi
  have HZ0 : Hid (i3.zero = some (.int .i64 0)) := hz0
  have HZ1 : Hid (i3.size = 1) := hz1
  have HZ2 : Hid (i3.bytes = 8) := hz2
  clear h hok hb hin hp hp1 hm hi hz0 hz1 hz2
  rw [HN.out]
  go_enter Try.func35, Try.ntmps35
  go_wp2_with fail
  refine (copy_any H.out).mono ?_
  rintro e w1 ⟨v0, rfl, hi0, hf0, hb1⟩
  have hsz := hb1.size
  simp at hsz
  have hv0 := hi0.old hl1
  obtain ⟨va, vc, rfl⟩ := hi0.shape
  have HB1 : Hid (Below w.heap.size w w1) := Below.after HB.out hb1
  have HD1 : Hid (Ints w1 v d) := H.out.later hb1
  have HST : Hid (Lay w w1 (w1.alloc (.cells #[.slice va d.length vc, .slice none 0 0] 31)) (.slice va d.length vc) (.slice none 0 0) d n 0) := by
    refine ⟨heap_alloc_new w1 _, ?_, World.ownsRow_nil _ _ _ _, hi0.later ((Below.refl _ _).alloc (Nat.le_refl _) _), (Below.refl _ _).alloc (Nat.le_refl _) _, by simp⟩
    rw [Below.heap_alloc _ _ _ (by omega)]
    exact (hb1.block w.heap.size (by simp)).trans (heap_alloc_new w _)
  have HF0 : Hid (From (w.alloc (.cells #[.slice none 0 0, .slice none 0 0] 31)).heap.size (.slice va d.length vc)) := hf0
  have HV0 : Hid (∀ k, (Value.slice va d.length vc).ownBlock = some k → k < w1.heap.size) := hv0
  clear hb1 hi0 hv0 hf0
  go_wp2
  go_loopw [6] (fun i w' => ∃ (j : Nat) (vj : Value), j ≤ m ∧ i = .int .i64 j ∧ Lay w w1 w' (.slice va d.length vc) vj d n j) (fun i _ => m - (intOf i).toNat)
  case atStart => exact ⟨0, _, by omega, rfl, HST.out⟩
  case round =>
    obtain ⟨j, vj, hj, rfl, hL⟩ := hrel
    have HL : Hid (Lay w w1 wr (.slice va d.length vc) vj d n j) := hL
    have hws := hL.size
    have hx0 := cell_of_row wr w1.heap.size 0 _ _ _ hL.box
    have hx1 := cell_of_row wr w1.heap.size 1 _ _ _ hL.box
    simp at hx0 hx1
    have HDR : Hid (Ints wr v d) := HD1.out.later hL.below
    by_cases hltj : j < m
    · have hfr1 := frozen_of_row wr w1.heap.size 1 _ _ hL.box
      obtain ⟨ja, jn, jc, rfl⟩ : ∃ a n c, vj = .slice a n c := by
        rcases hL.own.2 with ⟨rfl, _⟩ | ⟨g, cap, cur, rfl, _⟩
        · exact ⟨_, _, _, rfl⟩
        · exact ⟨_, _, _, rfl⟩
      clear hL
      go_wp2_with fail
      refine (rcells_ok HDR.out HK.out).mono ?_
      rw [HM.out]
      rintro e w' ⟨rfl, rfl⟩
      go_wp2_with (at_builtin; refine wpList_append_own _ rfl _ _ 23 rfl (w1.heap.size + 1) 3 i3 (.int .i64 0) 1 8 Try.underlying23 HI.out HZ0.out HZ1.out HZ2.out rfl (by decide) _ _ _ rfl (HL.out.own.alloc _) ⟨wr.heap.size, 0, none⟩ 1 1 [.int .i64 n] rfl rfl ?c1 ?c2 ?c3 ?c4 ?c5 ?_)
      case c1 => exact cell_one_new _ _ _
      case c2 => intro u hu; simp at hu; subst hu; rfl
      case c3 => unfold maxLen; omega
      case c4 => omega
      case c5 => simp; omega
      intro v1 w2 ho hg _
      have HL2 : Hid (Lay w w1 (w2.setCell ⟨w1.heap.size, 1, none⟩ v1) (.slice va d.length vc) v1 d n (j + 1)) := HL.out.next (by omega) HV0.out _ ho hg
      have hbel : Below (w1.heap.size + 1) wr w2 := ((Below.refl _ _).alloc hws _).grown hg (by simp; omega) (fun k hk => (HL.out.own.lt k hk).1)
      have hy1 : w2.cell? ⟨w1.heap.size, 1, none⟩ = some (.slice ja jn jc) := by
        rw [hbel.cell (p := ⟨w1.heap.size, 1, none⟩) (by simp)]
        exact hx1
      have hy2 : w2.frozen? ⟨w1.heap.size, 1, none⟩ = false := by
        rw [hbel.frozen (p := ⟨w1.heap.size, 1, none⟩) (by simp)]
        exact hfr1
      obtain ⟨qa, qn, qc, rfl⟩ : ∃ a n c, v1 = .slice a n c := by
        rcases ho.2 with ⟨rfl, _⟩ | ⟨g, cap, cur, rfl, _⟩
        · exact ⟨_, _, _, rfl⟩
        · exact ⟨_, _, _, rfl⟩
      clear ho hg hbel
      go_wp2
      go_roundw
      case rel => exact ⟨j + 1, _, by omega, by go_num, HL2.out⟩
      case measure => simp [intOf]; omega
    · have hj' : j = m := by omega
      subst hj'
      have HO : Hid (Ints wr vj (List.replicate j n)) := own_ints rfl hL.own (by simp; unfold big; omega)
      obtain ⟨ja, jc, e⟩ := HO.out.shape
      rw [List.length_replicate] at e
      subst e
      have hr0 := cell_of_row wr w.heap.size 0 _ _ _ hL.res
      have hr1 := cell_of_row wr w.heap.size 1 _ _ _ hL.res
      simp at hr0 hr1
      have hq0 := frozen_of_row wr w.heap.size 0 _ _ hL.res
      have hq1 := frozen_of_row wr w.heap.size 1 _ _ hL.res
      have hs1 := heap_setCell_same wr w.heap.size 0 _ 31 (.slice va d.length vc) hL.res
      have hs2 := heap_setCell_same _ w.heap.size 1 _ 31 (.slice ja j jc) hs1
      have HR0 : Hid (((wr.setCell ⟨w.heap.size, 0, none⟩ (.slice va d.length vc)).setCell ⟨w.heap.size, 1, none⟩ (.slice ja j jc)).cell? ⟨w.heap.size, 0, none⟩ = some (.slice va d.length vc)) := by
        show _ = _
        rw [cell_of_row _ w.heap.size 0 _ _ _ hs2]
        rfl
      have HR1 : Hid (((wr.setCell ⟨w.heap.size, 0, none⟩ (.slice va d.length vc)).setCell ⟨w.heap.size, 1, none⟩ (.slice ja j jc)).cell? ⟨w.heap.size, 1, none⟩ = some (.slice ja j jc)) := by
        show _ = _
        rw [cell_of_row _ w.heap.size 1 _ _ _ hs2]
        rfl
      clear hL hs1 hs2
      go_wp2_with fail
      refine (rcells_ok HDR.out HK.out).mono ?_
      rw [HM.out]
      rintro e w' ⟨rfl, rfl⟩
      go_wp2
      have hr0 := HR0.out
      have hr1 := HR1.out
      refine bodyPost_ret (v := .agg #[.slice va d.length vc, .slice ja j jc]) (by simp [results, Try.results35, go_sem, hr0, hr1]) rfl ⟨va, vc, ja, jc, rfl, ?_, ?_, ?_⟩
      · exact (HL.out.dims.setCell _ _ (fun k hk => by have := HF0.out k hk; simp at this; simp; omega)).setCell _ _ (fun k hk => by have := HF0.out k hk; simp at this; simp; omega)
      · exact (HO.out.setCell _ _ (fun k hk => by have := (HL.out.own.lt k hk).1; simp; omega)).setCell _ _ (fun k hk => by have := (HL.out.own.lt k hk).1; simp; omega)
      · exact ((Below.after HB1.out HL.out.below).setCell (Nat.le_refl _) _).setCell (Nat.le_refl _) _

end Go.Proofs.Ytgedknmjenbacaa
