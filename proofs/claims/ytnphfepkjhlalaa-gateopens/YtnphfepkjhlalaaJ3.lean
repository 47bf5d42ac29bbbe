/- Contracts of the page's own answers: Tensor, Steps, At, Where; and of Numbers, which writes over. Contracts of the page's own Fill, and of Numbers, which writes over. Contracts: Fill, and the page's Fill, of which what they tell is owned. Contracts: crossed, ties. Plain mathematics: a matrix turned. The argument opened: what an Ask that is handed in lays in memory. Boxes with tensors in them, carried through a walk. Frames by single slots; the page's Tensor; contracts told from an earlier world on. The laws of a ring, of numbers that wrap around. Sums over an index map: what is laid out by it, and summed up along it. For RingEach: what is written over, and what stays; the page's Each under the program's names. -/
import Derived.Test.YtnphfepkjhlalaaJ1
import Derived.Test.YtnphfepkjhlalaaJ2
import Derived.ProofKit
import Derived.OpenShut
import Derived.ChangeOld
import Derived.SizedLaws
import Derived.Deep.Slices
import Derived.Lib.SmallJoins
import Derived.Deep.RegionHeld3
import Derived.Deep.DeepCutAuto
namespace Go.Proofs.Ytnphfepkjhlalaa
set_option linter.unusedVariables false
set_option linter.unusedSimpArgs false
open Go.RowKit

theorem rdims_to {v : Value} {d : List Int} {w : World} (x : Bool) (h : Ints w v d) (hx : okd d = x) :
    Calls Try.prog 27 #[v] w fun e w' => e = .returned (.bool x) ∧ w = w' := by
  subst hx
  exact rdims_any h

set_option maxHeartbeats 400000 in
theorem rtensor_any {v0 v1 : Value} {t : List Int × List Int} {w : World} (h : Tens w v0 v1 t) :
    Calls Try.prog 8 #[.agg #[v0, v1]] w fun e w' => e = .returned (.bool (tok t)) ∧ Below w.heap.size w w' := by
  have hb : Below w.heap.size w (w.alloc (.cells #[v0, v1] 28)) := (Below.refl _ _).alloc (Nat.le_refl _) _
  have H0 : Hid (Ints (w.alloc (.cells #[v0, v1] 28)) v0 t.1) := h.1.later hb
  have hl := h.2.len
  unfold big at hl
  obtain ⟨a0, c0, rfl⟩ := h.1.shape
  obtain ⟨a1, c1, rfl⟩ := h.2.shape
  have HB : Hid (Below w.heap.size w (w.alloc (.cells #[.slice a0 t.1.length c0, .slice a1 t.2.length c1] 28))) := hb
  clear hb h
  cases ho : okd t.1 with
  | false =>
    have HO : Hid (okd t.1 = false) := ho
    have HT : Hid (tok t = false) := by show _ = _; simp [tok, ho]
    clear ho
    go_enter Try.func8, Try.ntmps8
    go_wp2
    go_quiet ((go_at_call 27; exact quiet_eq (rdims_to false (H0.out.drewN _) HO.out)))
    go_wp2
    go_ret
    exact ⟨by rw [HT.out]; rfl, Below.drewN HB.out _⟩
  | true =>
    have HO : Hid (okd t.1 = true) := ho
    by_cases hp : (t.2.length : Int) = prd t.1
    · have HT : Hid (tok t = true) := by show _ = _; simp [tok, ho, hp]
      have hne : ((t.2.length : Int) == prd t.1) = true := by simp [hp]
      clear ho hp
      go_enter Try.func8, Try.ntmps8
      go_wp2
      go_quiet (first | (go_at_call 27; exact quiet_eq (rdims_to true (H0.out.drewN _) HO.out)) | (go_at_call 28; exact quiet_eq (rcells_ok (H0.out.drewN _) HO.out)))
      go_wp2
      go_ret
      exact ⟨by rw [HT.out]; rfl, Below.drewN HB.out _⟩
    · have HT : Hid (tok t = false) := by show _ = _; simp [tok, ho, hp]
      have hne : ((t.2.length : Int) == prd t.1) = false := by simp [hp]
      clear ho hp
      go_enter Try.func8, Try.ntmps8
      go_wp2
      go_quiet (first | (go_at_call 27; exact quiet_eq (rdims_to true (H0.out.drewN _) HO.out)) | (go_at_call 28; exact quiet_eq (rcells_ok (H0.out.drewN _) HO.out)))
      go_wp2
      go_ret
      exact ⟨by rw [HT.out]; rfl, Below.drewN HB.out _⟩

end Go.Proofs.Ytnphfepkjhlalaa

namespace Go.Proofs.Ytnphfepkjhlalaa
set_option linter.unusedVariables false
set_option linter.unusedSimpArgs false
open Go.RowKit

theorem Ints.upto {w w' : World} {B : Nat} {v : Value} {d : List Int} (hb : Below B w w') (h : Ints w v d) (hk : ∀ k, v.ownBlock = some k → k < B) : Ints w' v d := by
  rcases h with ⟨rfl, rfl⟩ | ⟨a, c, rfl, h1, h2, h3⟩
  · exact Ints.nil _
  · refine Or.inr ⟨a, c, rfl, h1, h2, fun i hi => ?_⟩
    obtain ⟨b, off, rfl, hc⟩ := h3 i hi
    refine ⟨b, off, rfl, ?_⟩
    rw [hb.cell (p := ⟨b, off + i, none⟩) (hk b rfl)]
    exact hc
theorem Ints.old {w : World} {v : Value} {d : List Int} (h : Ints w v d) (h1 : 1 ≤ d.length) : ∀ k, v.ownBlock = some k → k < w.heap.size := by
  intro k hk
  rcases h.cases with ⟨rfl, _⟩ | ⟨b, off, c, rfl, h0, _, _, hc⟩
  · simp at h1
  · simp [Value.ownBlock] at hk
    subst hk
    exact World.block_lt_of_cell? _ _ (hc.out 0 h0)

/-- What the page's Fill has laid behind j rounds. -/
structure Lay (w w1 wr : World) (v0 vj : Value) (d : List Int) (n : Int) (j : Nat) : Prop where
  box : wr.heap[w1.heap.size]? = some (.cells #[v0, vj] 28 (0, 0))
  res : wr.heap[w.heap.size]? = some (.cells #[.slice none 0 0, .slice none 0 0] 28 (0, 0))
  own : wr.ownsRow (w1.heap.size + 1) 3 1 vj j ((List.replicate j n).map (Value.int .i64))
  dims : Ints wr v0 d
  below : Below (w1.heap.size) w1 wr
  size : w1.heap.size + 1 ≤ wr.heap.size

theorem Lay.next {w w1 wr w2 : World} {v0 vj v' : Value} {d : List Int} {n : Int} {j : Nat} (h : Lay w w1 wr v0 vj d n j) (hw : w.heap.size < w1.heap.size) (hv : ∀ k, v0.ownBlock = some k → k < w1.heap.size)
    (o : Obj) (ho : w2.ownsRow (w1.heap.size + 1) 3 1 v' (j + 1) (List.replicate j (Value.int .i64 n) ++ [.int .i64 n])) (hg : (wr.alloc o).grownBy w2 vj.ownBlock) :
    Lay w w1 (w2.setCell ⟨w1.heap.size, 1, none⟩ v') v0 v' d n (j + 1) := by
  have hk : ∀ k, vj.ownBlock = some k → w1.heap.size + 1 ≤ k := fun k hk => (h.own.lt k hk).1
  have hbel : Below (w1.heap.size + 1) wr w2 := ((Below.refl _ _).alloc h.size o).grown hg (by have := h.size; simp; omega) hk
  have hb1 : w2.heap[w1.heap.size]? = some (.cells #[v0, vj] 28 (0, 0)) := (hbel.block _ (by omega)).trans h.box
  have hs := heap_setCell_same w2 w1.heap.size 1 _ 28 v' hb1
  refine ⟨?_, ?_, ?_, ?_, ?_, ?_⟩
  · rw [hs]; rfl
  · rw [heap_setCell_other _ _ _ _ (by simp; omega)]
    exact (hbel.block _ (by omega)).trans h.res
  · have e : (List.replicate (j + 1) n).map (Value.int .i64) = List.replicate j (Value.int .i64 n) ++ [.int .i64 n] := by
      rw [List.replicate_succ', List.map_append, List.map_replicate]; rfl
    rw [e]
    exact ownsRow_setCell_below ho (by simp) v'
  · exact (Ints.upto hbel h.dims (fun k hk => by have := hv k hk; omega)).setCell _ _ (fun k hk => by have := hv k hk; simp; omega)
  · exact (h.below.trans (hbel.mono (by omega))).setCell (Nat.le_refl _) _
  · have := hbel.size
    have := h.size
    simp [World.setCell]
    omega

set_option maxHeartbeats 1000000 in
theorem rfill_ok {v : Value} {d : List Int} {w : World} (n : Int) (h : Ints w v d) (hok : okd d = true) :
    Calls Try.prog 32 #[v, .int .i64 n] w fun e w' => ∃ a0 c0 a1 c1, e = .returned (.agg #[.slice a0 d.length c0, .slice a1 (prd d).toNat c1]) ∧ Ints w' (.slice a0 d.length c0) d ∧ Ints w' (.slice a1 (prd d).toNat c1) (List.replicate (prd d).toNat n) ∧ Below w.heap.size w w' := by
  have hb : Below w.heap.size w (w.alloc (.cells #[.slice none 0 0, .slice none 0 0] 28)) := (Below.refl _ _).alloc (Nat.le_refl _) _
  have H : Hid (Ints (w.alloc (.cells #[.slice none 0 0, .slice none 0 0] 28)) v d) := h.later hb
  have HB : Hid (Below w.heap.size w (w.alloc (.cells #[.slice none 0 0, .slice none 0 0] 28))) := hb
  have HK : Hid (okd d = true) := hok
  obtain ⟨hl1, hl2, hin, hp⟩ := okd_parts hok
  have hp1 := prd_lo hin
  obtain ⟨m, hm⟩ : ∃ m : Nat, prd d = m := ⟨(prd d).toNat, by omega⟩
  have HM : Hid (prd d = m) := hm
  have HN : Hid ((prd d).toNat = m) := by show _ = _; omega
  have hm1 : 1 ≤ m := by omega
  have hm2 : m ≤ 64 := by omega
  obtain ⟨i3, hi, hz0, hz1, hz2⟩ := info3
  have HI : Hid (Try.prog.info? 3 = some i3) := hi
  have HZ0 : Hid (i3.zero = some (.int .i64 0)) := hz0
  have HZ1 : Hid (i3.size = 1) := hz1
  have HZ2 : Hid (i3.bytes = 8) := hz2
  clear h hok hb hin hp hp1 hm hi hz0 hz1 hz2
  rw [HN.out]
  go_enter Try.func32, Try.ntmps32
  go_wp2_with fail
  refine (copy_any H.out).mono ?_
  rintro e w1 ⟨v0, rfl, hi0, hf0, hb1⟩
  have hsz := hb1.size
  simp at hsz
  have hv0 := hi0.old hl1
  obtain ⟨va, vc, rfl⟩ := hi0.shape
  have HB1 : Hid (Below w.heap.size w w1) := Below.after HB.out hb1
  have HD1 : Hid (Ints w1 v d) := H.out.later hb1
  have HST : Hid (Lay w w1 (w1.alloc (.cells #[.slice va d.length vc, .slice none 0 0] 28)) (.slice va d.length vc) (.slice none 0 0) d n 0) := by
    refine ⟨heap_alloc_new w1 _, ?_, World.ownsRow_nil _ _ _ _, hi0.later ((Below.refl _ _).alloc (Nat.le_refl _) _), (Below.refl _ _).alloc (Nat.le_refl _) _, by simp⟩
    rw [Below.heap_alloc _ _ _ (by omega)]
    exact (hb1.block w.heap.size (by simp)).trans (heap_alloc_new w _)
  have HF0 : Hid (From (w.alloc (.cells #[.slice none 0 0, .slice none 0 0] 28)).heap.size (.slice va d.length vc)) := hf0
  have HV0 : Hid (∀ k, (Value.slice va d.length vc).ownBlock = some k → k < w1.heap.size) := hv0
  clear hb1 hi0 hv0 hf0
  go_wp2
  go_loopw [6] (fun i w' => ∃ (j : Nat) (vj : Value), j ≤ m ∧ i = .int .i64 j ∧ Lay w w1 w' (.slice va d.length vc) vj d n j) (fun i _ => m - (intOf i).toNat)
  case atStart => exact ⟨0, _, by omega, rfl, HST.out⟩
  case round =>
    obtain ⟨j, vj, hj, rfl, hL⟩ := hrel
    have HL : Hid (Lay w w1 wr (.slice va d.length vc) vj d n j) := hL
    have hws := hL.size
    have hx0 := cell_of_row wr w1.heap.size 0 _ _ _ hL.box
    have hx1 := cell_of_row wr w1.heap.size 1 _ _ _ hL.box
    simp at hx0 hx1
    have HDR : Hid (Ints wr v d) := HD1.out.later hL.below
    by_cases hltj : j < m
    · have hfr1 := frozen_of_row wr w1.heap.size 1 _ _ hL.box
      obtain ⟨ja, jn, jc, rfl⟩ : ∃ a n c, vj = .slice a n c := by
        rcases hL.own.2 with ⟨rfl, _⟩ | ⟨g, cap, cur, rfl, _⟩
        · exact ⟨_, _, _, rfl⟩
        · exact ⟨_, _, _, rfl⟩
      clear hL
      go_wp2_with fail
      refine (rcells_ok HDR.out HK.out).mono ?_
      rw [HM.out]
      rintro e w' ⟨rfl, rfl⟩
      go_wp2_with (at_builtin; refine wpList_append_own _ rfl _ _ 23 rfl (w1.heap.size + 1) 3 i3 (.int .i64 0) 1 8 Try.underlying23 HI.out HZ0.out HZ1.out HZ2.out rfl (by decide) _ _ _ rfl (HL.out.own.alloc _) ⟨wr.heap.size, 0, none⟩ 1 1 [.int .i64 n] rfl rfl ?c1 ?c2 ?c3 ?c4 ?c5 ?_)
      case c1 => exact cell_one_new _ _ _
      case c2 => intro u hu; simp at hu; subst hu; rfl
      case c3 => unfold maxLen; omega
      case c4 => omega
      case c5 => simp; omega
      intro v1 w2 ho hg _
      have HL2 : Hid (Lay w w1 (w2.setCell ⟨w1.heap.size, 1, none⟩ v1) (.slice va d.length vc) v1 d n (j + 1)) := HL.out.next (by omega) HV0.out _ ho hg
      have hbel : Below (w1.heap.size + 1) wr w2 := ((Below.refl _ _).alloc hws _).grown hg (by simp; omega) (fun k hk => (HL.out.own.lt k hk).1)
      have hy1 : w2.cell? ⟨w1.heap.size, 1, none⟩ = some (.slice ja jn jc) := by
        rw [hbel.cell (p := ⟨w1.heap.size, 1, none⟩) (by simp)]
        exact hx1
      have hy2 : w2.frozen? ⟨w1.heap.size, 1, none⟩ = false := by
        rw [hbel.frozen (p := ⟨w1.heap.size, 1, none⟩) (by simp)]
        exact hfr1
      obtain ⟨qa, qn, qc, rfl⟩ : ∃ a n c, v1 = .slice a n c := by
        rcases ho.2 with ⟨rfl, _⟩ | ⟨g, cap, cur, rfl, _⟩
        · exact ⟨_, _, _, rfl⟩
        · exact ⟨_, _, _, rfl⟩
      clear ho hg hbel
      go_wp2
      go_roundw
      case rel => exact ⟨j + 1, _, by omega, by go_num, HL2.out⟩
      case measure => simp [intOf]; omega
    · have hj' : j = m := by omega
      subst hj'
      have HO : Hid (Ints wr vj (List.replicate j n)) := own_ints rfl hL.own (by simp; unfold big; omega)
      obtain ⟨ja, jc, e⟩ := HO.out.shape
      rw [List.length_replicate] at e
      subst e
      have hr0 := cell_of_row wr w.heap.size 0 _ _ _ hL.res
      have hr1 := cell_of_row wr w.heap.size 1 _ _ _ hL.res
      simp at hr0 hr1
      have hq0 := frozen_of_row wr w.heap.size 0 _ _ hL.res
      have hq1 := frozen_of_row wr w.heap.size 1 _ _ hL.res
      have hs1 := heap_setCell_same wr w.heap.size 0 _ 28 (.slice va d.length vc) hL.res
      have hs2 := heap_setCell_same _ w.heap.size 1 _ 28 (.slice ja j jc) hs1
      have HR0 : Hid (((wr.setCell ⟨w.heap.size, 0, none⟩ (.slice va d.length vc)).setCell ⟨w.heap.size, 1, none⟩ (.slice ja j jc)).cell? ⟨w.heap.size, 0, none⟩ = some (.slice va d.length vc)) := by
        show _ = _
        rw [cell_of_row _ w.heap.size 0 _ _ _ hs2]
        rfl
      have HR1 : Hid (((wr.setCell ⟨w.heap.size, 0, none⟩ (.slice va d.length vc)).setCell ⟨w.heap.size, 1, none⟩ (.slice ja j jc)).cell? ⟨w.heap.size, 1, none⟩ = some (.slice ja j jc)) := by
        show _ = _
        rw [cell_of_row _ w.heap.size 1 _ _ _ hs2]
        rfl
      clear hL hs1 hs2
      go_wp2_with fail
      refine (rcells_ok HDR.out HK.out).mono ?_
      rw [HM.out]
      rintro e w' ⟨rfl, rfl⟩
      go_wp2
      have hr0 := HR0.out
      have hr1 := HR1.out
      refine bodyPost_ret (v := .agg #[.slice va d.length vc, .slice ja j jc]) (by simp [results, Try.results32, go_sem, hr0, hr1]) rfl ⟨va, vc, ja, jc, rfl, ?_, ?_, ?_⟩
      · exact (HL.out.dims.setCell _ _ (fun k hk => by have := HF0.out k hk; simp at this; simp; omega)).setCell _ _ (fun k hk => by have := HF0.out k hk; simp at this; simp; omega)
      · exact (HO.out.setCell _ _ (fun k hk => by have := (HL.out.own.lt k hk).1; simp; omega)).setCell _ _ (fun k hk => by have := (HL.out.own.lt k hk).1; simp; omega)
      · exact ((Below.after HB1.out HL.out.below).setCell (Nat.le_refl _) _).setCell (Nat.le_refl _) _

end Go.Proofs.Ytnphfepkjhlalaa

namespace Go.Proofs.Ytnphfepkjhlalaa
set_option linter.unusedVariables false
set_option linter.unusedSimpArgs false
open Go.RowKit

set_option maxHeartbeats 400000 in
theorem fill_own {v : Value} {d : List Int} {w : World} (n : Int) (h : Ints w v d) (hok : okd d = true) :
    Calls Try.prog 37 #[v, .int .i64 n] w fun e w' => ∃ x0 b1, e = .returned (.tuple #[.agg #[x0, .slice (some ⟨b1, 0, none⟩) (prd d).toNat (prd d).toNat], .int .i64 0]) ∧ Own w' w.heap.size x0 d ∧ Blk w' b1 (List.replicate (prd d).toNat n) ∧ (w.heap.size ≤ b1 ∧ ∀ k, x0.ownBlock = some k → k ≠ b1) ∧ Below w.heap.size w w' := by
  have hb : Below w.heap.size w (w.alloc (.cells #[.slice none 0 0, .slice none 0 0] 28)) := (Below.refl _ _).alloc (Nat.le_refl _) _
  have H : Hid (Ints (w.alloc (.cells #[.slice none 0 0, .slice none 0 0] 28)) v d) := h.later hb
  have HB : Hid (Below w.heap.size w (w.alloc (.cells #[.slice none 0 0, .slice none 0 0] 28))) := hb
  have HK : Hid (okd d = true) := hok
  obtain ⟨hl1, hl2, hin, hp⟩ := okd_parts hok
  have hp1 := prd_lo hin
  have HC : Hid ((prd d).toNat = prd d) := by show _ = _; omega
  obtain ⟨m, hm⟩ : ∃ m : Nat, prd d = m := ⟨(prd d).toNat, by omega⟩
  have HM : Hid (prd d = m) := hm
  have hm1 : 1 ≤ m := by omega
  have hm2 : m ≤ 64 := by omega
  have hmk := fun w => make_ints w m (by omega)
  clear h hok hb hin hp hp1 hm
  go_enter Try.func37, Try.ntmps37
  go_wp2_with fail
  refine (cells_ok H.out HK.out).mono ?_
  rw [HM.out]
  rintro e w1 ⟨rfl, hb1⟩
  have hsz := hb1.size
  simp at hsz
  have HB1 : Hid (Below w.heap.size w w1) := Below.after HB.out hb1
  have HH : Hid (Ints w1 v d) := H.out.later hb1
  have hbox : Hid (w1.heap[w.heap.size]? = some (.cells #[.slice none 0 0, .slice none 0 0] 28 (0, 0))) := (hb1.block w.heap.size (by simp)).trans (heap_alloc_new w _)
  clear hb1
  go_wp2
  clear hmk
  have HST : Hid (Blk (w1.alloc (.cells (ia (zer m)) 3)) w1.heap.size (fil m 0 n)) := by
    show Blk _ _ _
    rw [fil_zero]
    exact Blk.new w1 _
  go_loopw [23] (fun i w' => ∃ j : Nat, j ≤ m ∧ i = .int .i64 j ∧ Blk w' w1.heap.size (fil m j n) ∧ Below w1.heap.size w1 w') (fun i _ => m - (intOf i).toNat)
  case atStart => exact ⟨0, by omega, rfl, HST.out, (Below.refl _ _).alloc (Nat.le_refl _) _⟩
  case round =>
    obtain ⟨j, hj, rfl, hB, hbel⟩ := hrel
    have HB3 : Hid (Blk wr w1.heap.size (fil m j n)) := hB
    have HBL3 : Hid (Below w1.heap.size w1 wr) := hbel
    clear hB hbel
    by_cases hltj : j < m
    · have hf := HB3.out.frozen j
      obtain ⟨x, hc⟩ : ∃ x, wr.cell? ⟨w1.heap.size, j, none⟩ = some x := ⟨_, HB3.out.cell j (by rw [fil_length _ _ _ hj]; exact hltj)⟩
      go_wp2
      refine ⟨⟨j + 1, by omega, by go_num, ?_, HBL3.out.setCell (Nat.le_refl _) _⟩, by simp [intOf]; omega⟩
      have := HB3.out.set j n
      rw [fil_set _ _ _ hltj] at this
      exact this
    · have hj' : j = m := by omega
      subst hj'
      have hws := HBL3.out.size
      go_wp2_with fail
      refine (clone_own (HH.out.later HBL3.out) hl1).mono ?_
      rintro e w2 ⟨v0, rfl, ho0, hb2⟩
      have hi0 := ho0.ints
      have hf0 := ho0.frm
      obtain ⟨va, vc, rfl⟩ := hi0.shape
      have HI0 : Hid (Ints w2 (.slice va d.length vc) d) := hi0
      have HO0 : Hid (Own w2 wr.heap.size (.slice va d.length vc) d) := ho0
      have hlt0 := HB3.out.lt
      have HF0 : Hid (From wr.heap.size (.slice va d.length vc)) := hf0
      have HB4 : Hid (Below w1.heap.size w1 w2) := Below.after HBL3.out hb2
      have HB5 : Hid (Blk w2 w1.heap.size (List.replicate j n)) := by
        have := HB3.out.later hb2 HB3.out.lt
        rw [fil_all] at this
        exact this
      have hbx : w2.heap[w.heap.size]? = some (.cells #[.slice none 0 0, .slice none 0 0] 28 (0, 0)) := (HB4.out.block _ (by omega)).trans hbox.out
      have hx0 := cell_of_row w2 w.heap.size 0 _ _ _ hbx
      have hx1 := cell_of_row w2 w.heap.size 1 _ _ _ hbx
      have hy0 := frozen_of_row w2 w.heap.size 0 _ _ hbx
      have hy1 := frozen_of_row w2 w.heap.size 1 _ _ hbx
      simp at hx0 hx1
      have hs1 := heap_setCell_same w2 w.heap.size 0 _ 28 (.slice va d.length vc) hbx
      have hs2 := heap_setCell_same _ w.heap.size 1 _ 28 (.slice (some ⟨w1.heap.size, 0, none⟩) j j) hs1
      have HR0 : Hid (((w2.setCell ⟨w.heap.size, 0, none⟩ (.slice va d.length vc)).setCell ⟨w.heap.size, 1, none⟩ (.slice (some ⟨w1.heap.size, 0, none⟩) j j)).cell? ⟨w.heap.size, 0, none⟩ = some (.slice va d.length vc)) := by
        show _ = _
        rw [cell_of_row _ w.heap.size 0 _ _ _ hs2]
        rfl
      have HR1 : Hid (((w2.setCell ⟨w.heap.size, 0, none⟩ (.slice va d.length vc)).setCell ⟨w.heap.size, 1, none⟩ (.slice (some ⟨w1.heap.size, 0, none⟩) j j)).cell? ⟨w.heap.size, 1, none⟩ = some (.slice (some ⟨w1.heap.size, 0, none⟩) j j)) := by
        show _ = _
        rw [cell_of_row _ w.heap.size 1 _ _ _ hs2]
        rfl
      clear ho0 hi0 hf0 hb2 hbx hs1 hs2
      go_wp2
      have HJ : Hid ((prd d).toNat = j) := by show _ = _; rw [HM.out]; rfl
      clear HM HC
      have hr0 := HR0.out
      have hr1 := HR1.out
      refine bodyPost_ret (v := .tuple #[.agg #[.slice va d.length vc, .slice (some ⟨w1.heap.size, 0, none⟩) j j], .int .i64 0]) (by simp [results, Try.results37, go_sem, hr0, hr1]) rfl ⟨_, w1.heap.size, by rw [HJ.out], ?_, ?_, ⟨by omega, fun k hk => by have := HF0.out k hk; omega⟩, ?_⟩
      · exact (((HO0.out.setCell _ _ (fun k hk => by have := HF0.out k hk; simp; omega)).setCell _ _ (fun k hk => by have := HF0.out k hk; simp; omega))).mono (by omega)
      · rw [HJ.out]
        exact (HB5.out.setOther _ _ (by simp; omega)).setOther _ _ (by simp; omega)
      · exact ((Below.after HB1.out HB4.out).setCell (Nat.le_refl _) _).setCell (Nat.le_refl _) _

set_option maxHeartbeats 1000000 in
theorem rfill_own {v : Value} {d : List Int} {w : World} (n : Int) (h : Ints w v d) (hok : okd d = true) :
    Calls Try.prog 32 #[v, .int .i64 n] w fun e w' => ∃ x0 x1, e = .returned (.agg #[x0, x1]) ∧ OwnT w' w.heap.size x0 x1 (d, List.replicate (prd d).toNat n) ∧ Below w.heap.size w w' := by
  have hb : Below w.heap.size w (w.alloc (.cells #[.slice none 0 0, .slice none 0 0] 28)) := (Below.refl _ _).alloc (Nat.le_refl _) _
  have H : Hid (Ints (w.alloc (.cells #[.slice none 0 0, .slice none 0 0] 28)) v d) := h.later hb
  have HB : Hid (Below w.heap.size w (w.alloc (.cells #[.slice none 0 0, .slice none 0 0] 28))) := hb
  have HK : Hid (okd d = true) := hok
  obtain ⟨hl1, hl2, hin, hp⟩ := okd_parts hok
  have hp1 := prd_lo hin
  obtain ⟨m, hm⟩ : ∃ m : Nat, prd d = m := ⟨(prd d).toNat, by omega⟩
  have HM : Hid (prd d = m) := hm
  have HN : Hid ((prd d).toNat = m) := by show _ = _; omega
  have hm1 : 1 ≤ m := by omega
  have hm2 : m ≤ 64 := by omega
  obtain ⟨i3, hi, hz0, hz1, hz2⟩ := info3
  have HI : Hid (Try.prog.info? 3 = some i3) := hi
  have HZ0 : Hid (i3.zero = some (.int .i64 0)) := hz0
  have HZ1 : Hid (i3.size = 1) := hz1
  have HZ2 : Hid (i3.bytes = 8) := hz2
  clear h hok hb hin hp hp1 hm hi hz0 hz1 hz2
  rw [HN.out]
  go_enter Try.func32, Try.ntmps32
  go_wp2_with fail
  refine (copy_Own H.out).mono ?_
  rintro e w1 ⟨v0, rfl, ho0, hb1⟩
  have hi0 := ho0.ints
  have hf0 := ho0.frm
  have hsz := hb1.size
  simp at hsz
  have hv0 := hi0.old hl1
  obtain ⟨va, vc, rfl⟩ := hi0.shape
  have HB1 : Hid (Below w.heap.size w w1) := Below.after HB.out hb1
  have HD1 : Hid (Ints w1 v d) := H.out.later hb1
  have HST : Hid (Lay w w1 (w1.alloc (.cells #[.slice va d.length vc, .slice none 0 0] 28)) (.slice va d.length vc) (.slice none 0 0) d n 0) := by
    refine ⟨heap_alloc_new w1 _, ?_, World.ownsRow_nil _ _ _ _, hi0.later ((Below.refl _ _).alloc (Nat.le_refl _) _), (Below.refl _ _).alloc (Nat.le_refl _) _, by simp⟩
    rw [Below.heap_alloc _ _ _ (by omega)]
    exact (hb1.block w.heap.size (by simp)).trans (heap_alloc_new w _)
  have HO0 : Hid (Own w1 (w.alloc (.cells #[.slice none 0 0, .slice none 0 0] 28)).heap.size (.slice va d.length vc) d) := ho0
  have HF0 : Hid (From (w.alloc (.cells #[.slice none 0 0, .slice none 0 0] 28)).heap.size (.slice va d.length vc)) := hf0
  have HV0 : Hid (∀ k, (Value.slice va d.length vc).ownBlock = some k → k < w1.heap.size) := hv0
  clear hb1 hi0 hv0 hf0 ho0
  go_wp2
  go_loopw [6] (fun i w' => ∃ (j : Nat) (vj : Value), j ≤ m ∧ i = .int .i64 j ∧ Lay w w1 w' (.slice va d.length vc) vj d n j) (fun i _ => m - (intOf i).toNat)
  case atStart => exact ⟨0, _, by omega, rfl, HST.out⟩
  case round =>
    obtain ⟨j, vj, hj, rfl, hL⟩ := hrel
    have HL : Hid (Lay w w1 wr (.slice va d.length vc) vj d n j) := hL
    have hws := hL.size
    have hx0 := cell_of_row wr w1.heap.size 0 _ _ _ hL.box
    have hx1 := cell_of_row wr w1.heap.size 1 _ _ _ hL.box
    simp at hx0 hx1
    have HDR : Hid (Ints wr v d) := HD1.out.later hL.below
    by_cases hltj : j < m
    · have hfr1 := frozen_of_row wr w1.heap.size 1 _ _ hL.box
      obtain ⟨ja, jn, jc, rfl⟩ : ∃ a n c, vj = .slice a n c := by
        rcases hL.own.2 with ⟨rfl, _⟩ | ⟨g, cap, cur, rfl, _⟩
        · exact ⟨_, _, _, rfl⟩
        · exact ⟨_, _, _, rfl⟩
      clear hL
      go_wp2_with fail
      refine (rcells_ok HDR.out HK.out).mono ?_
      rw [HM.out]
      rintro e w' ⟨rfl, rfl⟩
      go_wp2_with (at_builtin; refine wpList_append_own _ rfl _ _ 23 rfl (w1.heap.size + 1) 3 i3 (.int .i64 0) 1 8 Try.underlying23 HI.out HZ0.out HZ1.out HZ2.out rfl (by decide) _ _ _ rfl (HL.out.own.alloc _) ⟨wr.heap.size, 0, none⟩ 1 1 [.int .i64 n] rfl rfl ?c1 ?c2 ?c3 ?c4 ?c5 ?_)
      case c1 => exact cell_one_new _ _ _
      case c2 => intro u hu; simp at hu; subst hu; rfl
      case c3 => unfold maxLen; omega
      case c4 => omega
      case c5 => simp; omega
      intro v1 w2 ho hg _
      have HL2 : Hid (Lay w w1 (w2.setCell ⟨w1.heap.size, 1, none⟩ v1) (.slice va d.length vc) v1 d n (j + 1)) := HL.out.next (by omega) HV0.out _ ho hg
      have hbel : Below (w1.heap.size + 1) wr w2 := ((Below.refl _ _).alloc hws _).grown hg (by simp; omega) (fun k hk => (HL.out.own.lt k hk).1)
      have hy1 : w2.cell? ⟨w1.heap.size, 1, none⟩ = some (.slice ja jn jc) := by
        rw [hbel.cell (p := ⟨w1.heap.size, 1, none⟩) (by simp)]
        exact hx1
      have hy2 : w2.frozen? ⟨w1.heap.size, 1, none⟩ = false := by
        rw [hbel.frozen (p := ⟨w1.heap.size, 1, none⟩) (by simp)]
        exact hfr1
      obtain ⟨qa, qn, qc, rfl⟩ : ∃ a n c, v1 = .slice a n c := by
        rcases ho.2 with ⟨rfl, _⟩ | ⟨g, cap, cur, rfl, _⟩
        · exact ⟨_, _, _, rfl⟩
        · exact ⟨_, _, _, rfl⟩
      clear ho hg hbel
      go_wp2
      go_roundw
      case rel => exact ⟨j + 1, _, by omega, by go_num, HL2.out⟩
      case measure => simp [intOf]; omega
    · have hj' : j = m := by omega
      subst hj'
      have HO : Hid (Ints wr vj (List.replicate j n)) := own_ints rfl hL.own (by simp; unfold big; omega)
      obtain ⟨ja, jc, e⟩ := HO.out.shape
      rw [List.length_replicate] at e
      subst e
      have hr0 := cell_of_row wr w.heap.size 0 _ _ _ hL.res
      have hr1 := cell_of_row wr w.heap.size 1 _ _ _ hL.res
      simp at hr0 hr1
      have hq0 := frozen_of_row wr w.heap.size 0 _ _ hL.res
      have hq1 := frozen_of_row wr w.heap.size 1 _ _ hL.res
      have hs1 := heap_setCell_same wr w.heap.size 0 _ 28 (.slice va d.length vc) hL.res
      have hs2 := heap_setCell_same _ w.heap.size 1 _ 28 (.slice ja j jc) hs1
      have HR0 : Hid (((wr.setCell ⟨w.heap.size, 0, none⟩ (.slice va d.length vc)).setCell ⟨w.heap.size, 1, none⟩ (.slice ja j jc)).cell? ⟨w.heap.size, 0, none⟩ = some (.slice va d.length vc)) := by
        show _ = _
        rw [cell_of_row _ w.heap.size 0 _ _ _ hs2]
        rfl
      have HR1 : Hid (((wr.setCell ⟨w.heap.size, 0, none⟩ (.slice va d.length vc)).setCell ⟨w.heap.size, 1, none⟩ (.slice ja j jc)).cell? ⟨w.heap.size, 1, none⟩ = some (.slice ja j jc)) := by
        show _ = _
        rw [cell_of_row _ w.heap.size 1 _ _ _ hs2]
        rfl
      clear hL hs1 hs2
      go_wp2_with fail
      refine (rcells_ok HDR.out HK.out).mono ?_
      rw [HM.out]
      rintro e w' ⟨rfl, rfl⟩
      go_wp2
      have hr0 := HR0.out
      have hr1 := HR1.out
      refine bodyPost_ret (v := .agg #[.slice va d.length vc, .slice ja j jc]) (by simp [results, Try.results32, go_sem, hr0, hr1]) rfl ⟨_, _, rfl, ⟨?_, ?_, ?_⟩, ?_⟩
      · exact (((HO0.out.later HL.out.below).setCell _ _ (fun k hk => by have := HF0.out k hk; simp at this; simp; omega)).setCell _ _ (fun k hk => by have := HF0.out k hk; simp at this; simp; omega)).mono (by simp)
      · have h1 : Own wr (w1.heap.size + 1) (.slice ja j jc) (List.replicate j n) := ⟨by rw [List.length_replicate]; exact HL.out.own, by simp; unfold big; omega⟩
        exact ((h1.setCell _ _ (fun k hk => by have := (HL.out.own.lt k hk).1; simp; omega)).setCell _ _ (fun k hk => by have := (HL.out.own.lt k hk).1; simp; omega)).mono (by omega)
      · intro k hk hk1
        have h1 := HV0.out k hk
        have h2 := (HL.out.own.lt k hk1).1
        omega
      · exact ((Below.after HB1.out HL.out.below).setCell (Nat.le_refl _) _).setCell (Nat.le_refl _) _
end Go.Proofs.Ytnphfepkjhlalaa

namespace Go.Proofs.Ytnphfepkjhlalaa
set_option linter.unusedVariables false
set_option linter.unusedSimpArgs false
open Go.RowKit

theorem It.nx {w : World} {I k : Nat} {s : ByteArray} (h : It w I s k) (hk : k < s.size) (x : Int) (hx : (s[k].toNat : Int) = x) (h1 : s[k].toNat < 128) (ty : TypeId) :
    (Instr.next (.pointer (some ⟨I, 0, none⟩)) true ty).run Try.prog w = .ok (.tuple #[.bool true, .int .i64 k, .int .i32 x]) (w.iterAt I s (k + 1)) := by
  subst hx
  rw [Lib.run_next_ascii_at w I s k ty h hk h1]
theorem It.nd {w : World} {I k : Nat} {s : ByteArray} (h : It w I s k) (hk : k = s.size) (ty : TypeId) :
    (Instr.next (.pointer (some ⟨I, 0, none⟩)) true ty).run Try.prog w = .ok (.tuple #[.bool false]) w :=
  Lib.run_next_end_at w I s k ty h (by omega)
theorem It.blk {w : World} {B I : Nat} {xs : List Int} {s : ByteArray} {p : Nat} (h : Blk w B xs) (hi : It w I s p) : I ≠ B := by
  rintro rfl
  have := h.symm.trans hi
  cases this

/-- What spells in which dims a place agrees. -/
def tieB (x : Int) : UInt8 := if x = 1 then 42 else 61
def tieT (d : List Int) : ByteArray := ⟨(d.map tieB).toArray⟩
theorem tieT_snoc (l : List Int) (x : Int) : tieT (l ++ [x]) = tieT l ++ ⟨#[tieB x]⟩ := by
  have h := ByteArray.mk_append_mk (l.map tieB) [tieB x]
  simp only [tieT, List.map_append, List.map_cons, List.map_nil]
  exact h.symm
theorem tieT_size (d : List Int) : (tieT d).size = d.length := by simp [tieT, ByteArray.size]
theorem tieT_get (d : List Int) (k : Nat) (h : k < d.length) (hs : k < (tieT d).size) : (tieT d)[k] = tieB d[k] := by
  show (tieT d).data[k] = _
  simp [tieT]

end Go.Proofs.Ytnphfepkjhlalaa

namespace Go.Proofs.Ytnphfepkjhlalaa
set_option linter.unusedVariables false
set_option linter.unusedSimpArgs false

/-- Where the turned one's number q comes from (m rows, n columns). -/
def tinv (m n q : Nat) : Nat := (q % m) * n + q / m
theorem tinv_lt {m n q : Nat} (h : q < m * n) : tinv m n q < m * n := by
  have hm : 0 < m := by
    rcases Nat.eq_zero_or_pos m with e | e
    · subst e; simp at h
    · exact e
  have h1 : q % m < m := Nat.mod_lt _ hm
  have h2 : q / m < n := Nat.div_lt_of_lt_mul h
  have h3 : (q % m + 1) * n ≤ m * n := Nat.mul_le_mul_right n h1
  rw [Nat.add_mul, Nat.one_mul] at h3
  unfold tinv
  omega
theorem tinv_back {m n q : Nat} (h : q < m * n) : tinv n m (tinv m n q) = q := by
  have hm : 0 < m := by
    rcases Nat.eq_zero_or_pos m with e | e
    · subst e; simp at h
    · exact e
  have h2 : q / m < n := Nat.div_lt_of_lt_mul h
  have e1 : tinv m n q % n = q / m := by
    unfold tinv
    rw [Nat.add_comm, Nat.add_mul_mod_self_right]
    exact Nat.mod_eq_of_lt h2
  have e2 : tinv m n q / n = q % m := by
    unfold tinv
    rw [Nat.add_comm, Nat.add_mul_div_right _ _ (by omega), Nat.div_eq_of_lt h2, Nat.zero_add]
  show (tinv m n q % n) * m + tinv m n q / n = q
  rw [e1, e2, Nat.mul_comm]
  exact Nat.div_add_mod q m
/-- Turned as far as j numbers. -/
def trn (m n : Nat) (l : List Int) (j : Nat) : List Int := (List.range (m * n)).map fun q => if tinv m n q < j then l.getD (tinv m n q) 0 else 0
def tns (m n : Nat) (l : List Int) : List Int := (List.range (m * n)).map fun q => l.getD (tinv m n q) 0
theorem trn_length (m n : Nat) (l : List Int) (j : Nat) : (trn m n l j).length = m * n := by simp [trn]
theorem tns_length (m n : Nat) (l : List Int) : (tns m n l).length = m * n := by simp [tns]
theorem trn_zero (m n : Nat) (l : List Int) : trn m n l 0 = List.replicate (m * n) 0 := by
  apply List.ext_getElem
  · simp [trn]
  · intro i h1 h2
    simp [trn]
theorem trn_all (m n : Nat) (l : List Int) : trn m n l (m * n) = tns m n l := by
  apply List.ext_getElem
  · simp [trn, tns]
  · intro i h1 h2
    have : i < m * n := by simpa [trn] using h1
    simp [trn, tns, tinv_lt this]
theorem trn_set (m n : Nat) (l : List Int) (j : Nat) (hj : j < m * n) : (trn m n l j).set (tinv n m j) (l.getD j 0) = trn m n l (j + 1) := by
  apply List.ext_getElem
  · simp [trn]
  · intro i h1 h2
    have hi : i < m * n := by simpa [trn] using h2
    have hb := tinv_back hi
    have hj' : j < n * m := by rw [Nat.mul_comm]; exact hj
    have hc := tinv_back hj'
    simp only [List.getElem_set, trn, List.getElem_map, List.getElem_range]
    by_cases e : tinv n m j = i
    · rw [if_pos e]
      have e2 : tinv m n i = j := by rw [← e, hc]
      rw [e2, if_pos (by omega)]
    · rw [if_neg e]
      have e2 : tinv m n i ≠ j := fun h => e (by rw [← h, hb])
      by_cases h3 : tinv m n i < j
      · rw [if_pos h3, if_pos (by omega)]
      · rw [if_neg h3, if_neg (by omega)]
theorem tns_back (m n : Nat) (l : List Int) (hl : l.length = m * n) : tns n m (tns m n l) = l := by
  apply List.ext_getElem
  · simp [tns, hl, Nat.mul_comm]
  · intro i h1 h2
    have hi : i < n * m := by simpa [tns] using h1
    have h3 : tinv n m i < m * n := by rw [Nat.mul_comm]; exact tinv_lt hi
    have h4 := tinv_back hi
    simp [tns, h3, h4, h2]

/-- Two dims. -/
theorem two_of {d : List Int} (h : d.length = 2) : ∃ x y, d = [x, y] := by
  match d, h with
  | [x, y], _ => exact ⟨x, y, rfl⟩
theorem okd2 {x y : Int} (h : okd [x, y] = true) : 1 ≤ x ∧ x ≤ 8 ∧ 1 ≤ y ∧ y ≤ 8 := by
  obtain ⟨_, _, hin, _⟩ := okd_parts h
  obtain ⟨a, b⟩ := inr_mem hin (x := x) (by simp)
  obtain ⟨c, d⟩ := inr_mem hin (x := y) (by simp)
  exact ⟨a, b, c, d⟩
theorem okd2_mk {x y : Int} (h : 1 ≤ x ∧ x ≤ 8 ∧ 1 ≤ y ∧ y ≤ 8) : okd [x, y] = true := by
  obtain ⟨a, b, c, d⟩ := h
  refine okd_mk (by simp) (by simp) (by simp [inr, a, b, c, d]) ?_
  have : x * y ≤ 8 * 8 := Int.mul_le_mul b d (by omega) (by omega)
  simp [prd]
  omega
theorem whr2 (m n i : Nat) : whr [(m : Int), (n : Int)] i = [((i / n : Nat) : Int), ((i % n : Nat) : Int)] := by
  simp [whr, whE, whR, stE, prd, List.range_succ]
theorem cross_at (m n i : Nat) (hm : m ≤ 8) (hn : n ≤ 8) (hi : i < m * n) : aok [(n : Int), (m : Int)] [((i % n : Nat) : Int), ((i / n : Nat) : Int)] = true ∧ atV [(n : Int), (m : Int)] [((i % n : Nat) : Int), ((i / n : Nat) : Int)] = (tinv n m i : Nat) := by
  have hn0 : 0 < n := by
    rcases Nat.eq_zero_or_pos n with e | e
    · subst e; simp at hi
    · exact e
  have hm0 : 0 < m := by
    rcases Nat.eq_zero_or_pos m with e | e
    · subst e; simp at hi
    · exact e
  have h1 : i % n < n := Nat.mod_lt _ hn0
  have h2 : i / n < m := Nat.div_lt_of_lt_mul (by rw [Nat.mul_comm]; exact hi)
  constructor
  · rw [aok, okd2_mk (by omega)]
    simp only [Bool.true_and, pok, List.length_cons, List.length_nil, decide_true, List.all_eq_true]
    intro k hk
    have hk2 : k = 0 ∨ k = 1 := by have := List.mem_range.1 hk; omega
    rcases hk2 with rfl | rfl
    · simp only [pin, List.getD_cons_zero, Bool.and_eq_true, decide_eq_true_eq]; omega
    · simp only [pin, List.getD_cons_succ, List.getD_cons_zero, Bool.and_eq_true, decide_eq_true_eq]
      exact ⟨Int.natCast_nonneg _, Int.ofNat_lt.2 h2⟩
  · simp [atV, atN, tinv]
end Go.Proofs.Ytnphfepkjhlalaa

namespace Go.Proofs.Ytnphfepkjhlalaa
set_option linter.unusedVariables false
open Go.ChangeShapes Go.WideShapes Go.ChangeAt Go.RowKit Go.Joins Go.Deep

theorem own : ownKnob Try.prog.godebug = none := by kernel_rfl
theorem laidOut : laidOutB Try.prog = true := by kernel_rfl
theorem cellsAsk : Try.prog.cellsOf 25 = 2 := by kernel_rfl
theorem cells44 : Try.prog.cellsOf 28 = 2 := by kernel_rfl
theorem cells23 : Try.prog.cellsOf 23 = 1 := by kernel_rfl
theorem cells3 : Try.prog.cellsOf 3 = 1 := by kernel_rfl
theorem bytes3 : Try.prog.bytesOf 3 = 8 := by kernel_rfl
theorem bytes23 : Try.prog.bytesOf 23 = 24 := by kernel_rfl
theorem bytes44 : Try.prog.bytesOf 28 = 48 := by kernel_rfl

/-- Nothing in the reading takes more than the reach. -/
def Szd {H : Type} (t : TypeId) (d : DataW H) : Prop := ∀ n ∈ d.weights Try.prog t, n ≤ reachBytes

theorem szd_all {H : Type} {e : TypeId} : ∀ {l : List (DataW H)}, (∀ n ∈ DataW.weightsAll Try.prog e l, n ≤ reachBytes) → ∀ d ∈ l, Szd e d
  | [], _, d, hd => by simp at hd
  | x :: r, h, d, hd => by
    simp only [DataW.weightsAll, List.mem_append] at h
    rcases List.mem_cons.1 hd with rfl | hd
    · exact fun n hn => h n (Or.inl hn)
    · exact szd_all (fun n hn => h n (Or.inr hn)) d hd
theorem szd_slice {H : Type} {t e : TypeId} {l s : List (DataW H)} (ht : Try.prog.underlying t = some (.slice e)) (h : Szd t (.slice l s)) :
    (l.length + s.length) * Try.prog.bytesOf e ≤ reachBytes ∧ ∀ d ∈ l, Szd e d := by
  simp only [Szd, DataW.weights, ht] at h
  refine ⟨h _ (List.mem_cons_self ..), szd_all fun n hn => h n (List.mem_cons_of_mem _ (List.mem_append.2 (Or.inl hn)))⟩

/-- Numbers of 64 bits. -/
def Rg (d : List Int) : Prop := ∀ x ∈ d, -9223372036854775808 ≤ x ∧ x ≤ 9223372036854775807
section
variable {H : Type} {enc : TypeId × Value → H} {w : World}

theorem open_Ints {fuel : Nat} {v : Value} {x : DataW H × List MemPlace} (h : DataW.trod enc Try.prog w 0 (fun _ => true) true fuel 23 [v] = some x) (hs : Szd 23 x.1) : ∃ d, Ints w v d ∧ Rg d ∧ d.length ≤ 17592186043904 := by
  rcases open_ints Try.underlying23 Try.underlying3 cells3 h with ⟨hcs, _⟩ | ⟨a, len, cap, zs, hcs, _, hl, hm, hz, hx, hcell, hwf⟩
  · simp at hcs
    subst hcs
    exact ⟨[], Ints.nil _, (fun x hx => by simp at hx), by simp⟩
  · simp at hcs
    subst hcs
    simp at hz
    have hb8 : len ≤ 17592186043904 := by
      have := (szd_slice Try.underlying23 (by rw [hx] at hs; exact hs)).1
      rw [bytes3] at this
      simp [lits, reachBytes] at this
      omega
    have hb : len ≤ big := by unfold big; omega
    refine ⟨zs.take len, Or.inr ⟨a, cap, ?_, ?_, ?_, ?_⟩, (fun x hx => ?_), by simp; omega⟩
    rotate_left 4
    · have := hwf x (List.mem_of_mem_take hx)
      simp only [Lit.wf, IntKind.min, IntKind.max, IntKind.signed, IntKind.bits, Bool.and_eq_true, decide_eq_true_eq, if_true] at this
      omega
    · simp; omega
    · simp; omega
    · simp; omega
    · intro i hi
      have hi' : i < zs.length := by simp at hi; omega
      have hc := hcell i hi'
      obtain ⟨b, off, spot⟩ := a
      have hsp : spot = none := by
        have hc0 := World.cell?_spot (hcell 0 (by omega))
        simpa [Addr.add] using hc0
      subst hsp
      refine ⟨b, off, rfl, ?_⟩
      have e : (zs.take len)[i] = zs.getD i 0 := by simp [hi']
      rw [e, ← hc]
      by_cases h0 : i = 0
      · subst h0; simp [Addr.add]
      · simp [Addr.add, h0]

theorem open_Tens {fuel : Nat} {cs : List Value} {x : DataW H × List MemPlace} (h : DataW.trod enc Try.prog w 0 (fun _ => true) true fuel 28 cs = some x) (hs : Szd 28 x.1) : ∃ v0 v1 t, cs = [v0, v1] ∧ Tens w v0 v1 t ∧ Rg t.2 := by
  obtain ⟨y0, y1, n, rfl, hl, h0, h1⟩ := trod_struct2 Try.underlying28 h
  rw [cells44] at hl
  match cs, hl with
  | [v0, v1], _ =>
    simp only [cells23] at h0 h1
    simp at h0 h1
    have s0 : Szd 23 y0.1 := fun n hn => hs n (by simp [DataW.weights, Try.underlying28, DataW.weightsEach]; exact Or.inl hn)
    have s1 : Szd 23 y1.1 := fun n hn => hs n (by simp [DataW.weights, Try.underlying28, DataW.weightsEach]; exact Or.inr hn)
    obtain ⟨d0, i0, _, _⟩ := open_Ints h0 s0
    obtain ⟨d1, i1, r1, _⟩ := open_Ints h1 s1
    exact ⟨v0, v1, (d0, d1), rfl, ⟨i0, i1⟩, r1⟩

theorem open_TensL {fuel : Nat} {v : Value} {x : DataW H × List MemPlace} (h : DataW.trod enc Try.prog w 0 (fun _ => true) true fuel 22 [v] = some x) (hs : Szd 22 x.1) : ∃ L, TensL w v L ∧ ∀ t ∈ L, Rg t.2 := by
  rcases open_slice Try.underlying22 h with ⟨hcs, _⟩ | ⟨a, len, cap, m, n, D, Pl, hcs, _, hl, hm, hz, hx, hcell⟩
  · simp at hcs
    subst hcs
    exact ⟨[], ⟨Nat.zero_le _, none, 0, rfl, Nat.le_refl _, fun i hi => by simp at hi⟩, fun t ht => by simp at ht⟩
  · simp at hcs
    subst hcs
    simp at hz
    subst hz
    rw [hx] at hs
    have hq := szd_slice Try.underlying22 hs
    rw [bytes44] at hq
    rw [cells44] at hcell
    have hb : len ≤ big := by
      have := hq.1
      simp [reachBytes] at this
      unfold big
      omega
    have key : ∀ i, i < len → ∃ (v0 v1 : Value) (t : List Int × List Int), w.cells? 0 (a.add (i * 2)) 2 = some [v0, v1] ∧ Tens w v0 v1 t ∧ Rg t.2 := by
      intro i hi
      obtain ⟨cs', hc, ht⟩ := hcell i (by omega)
      obtain ⟨v0, v1, t, rfl, h2⟩ := open_Tens ht (hq.2 _ (by simp; exact ⟨i, hi, rfl⟩))
      exact ⟨v0, v1, t, hc, h2⟩
    have hsome : ∀ i, ∃ t : List Int × List Int, i < len → ∃ v0 v1, w.cells? 0 (a.add (i * 2)) 2 = some [v0, v1] ∧ Tens w v0 v1 t ∧ Rg t.2 := fun i => by
      by_cases hi : i < len
      · obtain ⟨v0, v1, t, h1, h2⟩ := key i hi
        exact ⟨t, fun _ => ⟨v0, v1, h1, h2⟩⟩
      · exact ⟨([], []), fun h => absurd h hi⟩
    refine ⟨(List.range len).map fun i => Classical.choose (hsome i), ⟨?_, some a, m, ?_, ?_, ?_⟩, ?_⟩
    · simpa using hb
    · rw [List.length_map, List.length_range]
    · simpa using hl
    · intro i hi
      have hi' : i < len := by simpa using hi
      obtain ⟨v0, v1, hc, ht, _⟩ := Classical.choose_spec (hsome i) hi'
      obtain ⟨v00, v01, hc0, _⟩ := Classical.choose_spec (hsome 0) (by omega)
      have c0 := (World.cells?_some hc0)
      have c1 := (World.cells?_some hc)
      obtain ⟨b, off, spot⟩ := a
      have hsp : spot = none := by
        have h00 : w.cell? (((⟨b, off, spot⟩ : Addr).add (0 * 2)).add 0) = some v00 := by simpa using c0.2.2 0 (by omega)
        simpa [Addr.add] using World.cell?_spot h00
      subst hsp
      have e0 : w.cell? (((⟨b, off, none⟩ : Addr).add (i * 2)).add 0) = some v0 := by simpa using c1.2.2 0 (by omega)
      have e1 : w.cell? (((⟨b, off, none⟩ : Addr).add (i * 2)).add 1) = some v1 := by simpa using c1.2.2 1 (by omega)
      refine ⟨b, off, v0, v1, rfl, ?_, ?_, ?_⟩
      · rw [← e0]
        by_cases h0 : i = 0
        · subst h0; simp [Addr.add]
        · have h00 : ¬ i * 2 = 0 := by omega
          simp [Addr.add, h00]
      · rw [← e1]
        by_cases h0 : i = 0
        · subst h0; simp [Addr.add]
        · have h00 : ¬ i * 2 = 0 := by omega
          simp [Addr.add, h00]
      · simp only [List.getElem_map, List.getElem_range]
        exact ht
    · intro t ht
      simp only [List.mem_map, List.mem_range] at ht
      obtain ⟨i, hi, rfl⟩ := ht
      obtain ⟨_, _, _, _, hr⟩ := Classical.choose_spec (hsome i) hi
      exact hr

/-- The whole of it. -/
theorem open_Ask {base : Nat} {v : Value} {d : DataW H} {p : List MemPlace} (hv : Value.okWide Try.prog w .any base 25 v) (h : DataW.Trod enc Try.prog w 0 (fun _ => true) true 25 v d p) (hs : Szd 25 d) :
    ∃ (f0 f1 : Value) (T : List (List Int × List Int)) (L : List Int), v = .agg #[f0, f1] ∧ (TensL w f0 T ∧ ∀ t ∈ T, Rg t.2) ∧ (Ints w f1 L ∧ L.length ≤ 17592186043904) := by
  obtain ⟨u0, u1, y0, y1, m, rfl, rfl, _, t0, t1⟩ := open_agg2 Try.underlying25 (by kernel_rfl) cellsAsk hv h
  have hw : ∀ n, (n ∈ y0.1.weights Try.prog 22 ∨ n ∈ y1.1.weights Try.prog 23) → n ≤ reachBytes := by
    intro n hn
    refine hs n ?_
    simp only [DataW.weights, Try.underlying25, DataW.weightsEach, List.map_cons, List.map_nil, List.mem_append, List.append_nil]
    rcases hn with hn | hn
    · exact Or.inl hn
    · exact Or.inr hn
  obtain ⟨T, hT⟩ := open_TensL t0 (fun n hn => hw n (Or.inl hn))
  obtain ⟨L, hL, _, hL8⟩ := open_Ints t1 (fun n hn => hw n (Or.inr hn))
  exact ⟨u0, u1, T, L, rfl, hT, hL, hL8⟩
end
end Go.Proofs.Ytnphfepkjhlalaa

namespace Go.Proofs.Ytnphfepkjhlalaa
set_option linter.unusedVariables false
set_option linter.unusedSimpArgs false
open Go.RowKit

/-- A box with a tensor in it. -/
structure TB (w : World) (B : Nat) (x y : Value) (t : Ten) : Prop where
  box : Box w B x y
  ten : Tens w x y t
def Live (w : World) : List (Nat × Value × Value × Ten) → Prop
  | [] => True
  | e :: L => TB w e.1 e.2.1 e.2.2.1 e.2.2.2 ∧ Live w L
theorem TB.later {w w' : World} {B : Nat} {x y : Value} {t : Ten} (hb : Below w.heap.size w w') (h : TB w B x y t) : TB w' B x y t := ⟨h.box.later hb, h.ten.later hb⟩
theorem Live.later {w w' : World} (hb : Below w.heap.size w w') : ∀ {L : List (Nat × Value × Value × Ten)}, Live w L → Live w' L
  | [], _ => trivial
  | _ :: _, h => ⟨h.1.later hb, Live.later hb h.2⟩
theorem Live.push {w : World} {L : List (Nat × Value × Value × Ten)} {x y : Value} {t : Ten} (h : Live w L) (ht : Tens w x y t) : Live (w.alloc (.cells #[x, y] 28)) ((w.heap.size, x, y, t) :: L) :=
  ⟨⟨Box.new w x y, ht.later ((Below.refl _ _).alloc (Nat.le_refl _) _)⟩, h.later ((Below.refl _ _).alloc (Nat.le_refl _) _)⟩
theorem Below.push {w0 w : World} (h : Below w0.heap.size w0 w) (o : Obj) : Below w0.heap.size w0 (w.alloc o) := h.alloc h.size o
theorem lit_tens (w : World) (ds xs : List Int) (n m : Nat) (hn : n = ds.length) (hm : m = xs.length) (hd : n ≤ big) (hx : m ≤ big) :
    Tens ((w.alloc (.cells (ia ds) 3)).alloc (.cells (ia xs) 3)) (.slice (some ⟨w.heap.size, 0, none⟩) n n) (.slice (some ⟨w.heap.size + 1, 0, none⟩) m m) (ds, xs) :=
  ⟨((Blk.new w ds).alloc _).ints n n hn (Nat.le_refl _) hd, (Blk.newer (w.alloc (.cells (ia ds) 3)) xs (w.heap.size + 1) (by simp)).ints m m hm (Nat.le_refl _) hx⟩
theorem eqn_bl {v v' : Value} {a b : List Int} {w : World} (ha : Ints w v a) (hb : Ints w v' b) (hx : a = b) :
    Calls Try.prog 17 #[v, v'] w fun e w' => e = .returned (.bool true) ∧ Below w.heap.size w w' := by
  refine (eqn_to true ha hb (by simp [hx])).mono ?_
  rintro e w' ⟨rfl, n, rfl⟩
  exact ⟨rfl, drew_below n⟩
theorem num_bl (x : Int) (w : World) : Calls Try.prog 11 #[.int .i64 x] w fun e w' => e = .returned (.int .i64 x) ∧ w = w' := num_any x w
end Go.Proofs.Ytnphfepkjhlalaa

namespace Go.Proofs.Ytnphfepkjhlalaa
set_option linter.unusedVariables false
set_option linter.unusedSimpArgs false
open Go.RowKit
set_option maxRecDepth 100000 in
theorem lit35 (g : Nat → Value) : (g 0 :: g 1 :: g 2 :: g 3 :: g 4 :: g 5 :: g 6 :: g 7 :: g 8 :: g 9 :: g 10 :: g 11 :: g 12 :: g 13 :: g 14 :: g 15 :: g 16 :: g 17 :: g 18 :: g 19 :: g 20 :: g 21 :: g 22 :: g 23 :: g 24 :: g 25 :: g 26 :: g 27 :: g 28 :: g 29 :: g 30 :: g 31 :: g 32 :: g 33 :: g 34 :: []).toArray = ((List.range 35).map g).toArray := by rfl
set_option maxRecDepth 100000 in
theorem act35 (a : Act) (hd : a.defers = []) (hs : a.tmps.size = 35) : ∃ g : Nat → Value, (∀ i, a.tmps.getD i undef = g i) ∧ a = { tmps := (g 0 :: g 1 :: g 2 :: g 3 :: g 4 :: g 5 :: g 6 :: g 7 :: g 8 :: g 9 :: g 10 :: g 11 :: g 12 :: g 13 :: g 14 :: g 15 :: g 16 :: g 17 :: g 18 :: g 19 :: g 20 :: g 21 :: g 22 :: g 23 :: g 24 :: g 25 :: g 26 :: g 27 :: g 28 :: g 29 :: g 30 :: g 31 :: g 32 :: g 33 :: g 34 :: []).toArray, defers := [] } := by
  refine ⟨fun i => a.tmps.getD i undef, fun _ => rfl, ?_⟩
  have h := lit35 (fun i => a.tmps.getD i undef)
  have e : a.tmps = ((List.range 35).map (fun i => a.tmps.getD i undef)).toArray := by
    apply Array.ext
    · simp [hs]
    · intro i h1 h2
      simp [h1]
  exact (show a = Act.mk a.tmps a.defers from rfl).trans (by rw [hd]; exact congrArg (fun t => Act.mk t []) (e.trans h.symm))
set_option maxRecDepth 100000 in
theorem lit58 (g : Nat → Value) : (g 0 :: g 1 :: g 2 :: g 3 :: g 4 :: g 5 :: g 6 :: g 7 :: g 8 :: g 9 :: g 10 :: g 11 :: g 12 :: g 13 :: g 14 :: g 15 :: g 16 :: g 17 :: g 18 :: g 19 :: g 20 :: g 21 :: g 22 :: g 23 :: g 24 :: g 25 :: g 26 :: g 27 :: g 28 :: g 29 :: g 30 :: g 31 :: g 32 :: g 33 :: g 34 :: g 35 :: g 36 :: g 37 :: g 38 :: g 39 :: g 40 :: g 41 :: g 42 :: g 43 :: g 44 :: g 45 :: g 46 :: g 47 :: g 48 :: g 49 :: g 50 :: g 51 :: g 52 :: g 53 :: g 54 :: g 55 :: g 56 :: g 57 :: []).toArray = ((List.range 58).map g).toArray := by rfl
set_option maxRecDepth 100000 in
theorem act58 (a : Act) (hd : a.defers = []) (hs : a.tmps.size = 58) : ∃ g : Nat → Value, (∀ i, a.tmps.getD i undef = g i) ∧ a = { tmps := (g 0 :: g 1 :: g 2 :: g 3 :: g 4 :: g 5 :: g 6 :: g 7 :: g 8 :: g 9 :: g 10 :: g 11 :: g 12 :: g 13 :: g 14 :: g 15 :: g 16 :: g 17 :: g 18 :: g 19 :: g 20 :: g 21 :: g 22 :: g 23 :: g 24 :: g 25 :: g 26 :: g 27 :: g 28 :: g 29 :: g 30 :: g 31 :: g 32 :: g 33 :: g 34 :: g 35 :: g 36 :: g 37 :: g 38 :: g 39 :: g 40 :: g 41 :: g 42 :: g 43 :: g 44 :: g 45 :: g 46 :: g 47 :: g 48 :: g 49 :: g 50 :: g 51 :: g 52 :: g 53 :: g 54 :: g 55 :: g 56 :: g 57 :: []).toArray, defers := [] } := by
  refine ⟨fun i => a.tmps.getD i undef, fun _ => rfl, ?_⟩
  have h := lit58 (fun i => a.tmps.getD i undef)
  have e : a.tmps = ((List.range 58).map (fun i => a.tmps.getD i undef)).toArray := by
    apply Array.ext
    · simp [hs]
    · intro i h1 h2
      simp [h1]
  exact (show a = Act.mk a.tmps a.defers from rfl).trans (by rw [hd]; exact congrArg (fun t => Act.mk t []) (e.trans h.symm))
set_option maxRecDepth 100000 in
theorem lit102 (g : Nat → Value) : (g 0 :: g 1 :: g 2 :: g 3 :: g 4 :: g 5 :: g 6 :: g 7 :: g 8 :: g 9 :: g 10 :: g 11 :: g 12 :: g 13 :: g 14 :: g 15 :: g 16 :: g 17 :: g 18 :: g 19 :: g 20 :: g 21 :: g 22 :: g 23 :: g 24 :: g 25 :: g 26 :: g 27 :: g 28 :: g 29 :: g 30 :: g 31 :: g 32 :: g 33 :: g 34 :: g 35 :: g 36 :: g 37 :: g 38 :: g 39 :: g 40 :: g 41 :: g 42 :: g 43 :: g 44 :: g 45 :: g 46 :: g 47 :: g 48 :: g 49 :: g 50 :: g 51 :: g 52 :: g 53 :: g 54 :: g 55 :: g 56 :: g 57 :: g 58 :: g 59 :: g 60 :: g 61 :: g 62 :: g 63 :: g 64 :: g 65 :: g 66 :: g 67 :: g 68 :: g 69 :: g 70 :: g 71 :: g 72 :: g 73 :: g 74 :: g 75 :: g 76 :: g 77 :: g 78 :: g 79 :: g 80 :: g 81 :: g 82 :: g 83 :: g 84 :: g 85 :: g 86 :: g 87 :: g 88 :: g 89 :: g 90 :: g 91 :: g 92 :: g 93 :: g 94 :: g 95 :: g 96 :: g 97 :: g 98 :: g 99 :: g 100 :: g 101 :: []).toArray = ((List.range 102).map g).toArray := by rfl
set_option maxRecDepth 100000 in
theorem act102 (a : Act) (hd : a.defers = []) (hs : a.tmps.size = 102) : ∃ g : Nat → Value, (∀ i, a.tmps.getD i undef = g i) ∧ a = { tmps := (g 0 :: g 1 :: g 2 :: g 3 :: g 4 :: g 5 :: g 6 :: g 7 :: g 8 :: g 9 :: g 10 :: g 11 :: g 12 :: g 13 :: g 14 :: g 15 :: g 16 :: g 17 :: g 18 :: g 19 :: g 20 :: g 21 :: g 22 :: g 23 :: g 24 :: g 25 :: g 26 :: g 27 :: g 28 :: g 29 :: g 30 :: g 31 :: g 32 :: g 33 :: g 34 :: g 35 :: g 36 :: g 37 :: g 38 :: g 39 :: g 40 :: g 41 :: g 42 :: g 43 :: g 44 :: g 45 :: g 46 :: g 47 :: g 48 :: g 49 :: g 50 :: g 51 :: g 52 :: g 53 :: g 54 :: g 55 :: g 56 :: g 57 :: g 58 :: g 59 :: g 60 :: g 61 :: g 62 :: g 63 :: g 64 :: g 65 :: g 66 :: g 67 :: g 68 :: g 69 :: g 70 :: g 71 :: g 72 :: g 73 :: g 74 :: g 75 :: g 76 :: g 77 :: g 78 :: g 79 :: g 80 :: g 81 :: g 82 :: g 83 :: g 84 :: g 85 :: g 86 :: g 87 :: g 88 :: g 89 :: g 90 :: g 91 :: g 92 :: g 93 :: g 94 :: g 95 :: g 96 :: g 97 :: g 98 :: g 99 :: g 100 :: g 101 :: []).toArray, defers := [] } := by
  refine ⟨fun i => a.tmps.getD i undef, fun _ => rfl, ?_⟩
  have h := lit102 (fun i => a.tmps.getD i undef)
  have e : a.tmps = ((List.range 102).map (fun i => a.tmps.getD i undef)).toArray := by
    apply Array.ext
    · simp [hs]
    · intro i h1 h2
      simp [h1]
  exact (show a = Act.mk a.tmps a.defers from rfl).trans (by rw [hd]; exact congrArg (fun t => Act.mk t []) (e.trans h.symm))
set_option maxRecDepth 100000 in
theorem lit176 (g : Nat → Value) : (g 0 :: g 1 :: g 2 :: g 3 :: g 4 :: g 5 :: g 6 :: g 7 :: g 8 :: g 9 :: g 10 :: g 11 :: g 12 :: g 13 :: g 14 :: g 15 :: g 16 :: g 17 :: g 18 :: g 19 :: g 20 :: g 21 :: g 22 :: g 23 :: g 24 :: g 25 :: g 26 :: g 27 :: g 28 :: g 29 :: g 30 :: g 31 :: g 32 :: g 33 :: g 34 :: g 35 :: g 36 :: g 37 :: g 38 :: g 39 :: g 40 :: g 41 :: g 42 :: g 43 :: g 44 :: g 45 :: g 46 :: g 47 :: g 48 :: g 49 :: g 50 :: g 51 :: g 52 :: g 53 :: g 54 :: g 55 :: g 56 :: g 57 :: g 58 :: g 59 :: g 60 :: g 61 :: g 62 :: g 63 :: g 64 :: g 65 :: g 66 :: g 67 :: g 68 :: g 69 :: g 70 :: g 71 :: g 72 :: g 73 :: g 74 :: g 75 :: g 76 :: g 77 :: g 78 :: g 79 :: g 80 :: g 81 :: g 82 :: g 83 :: g 84 :: g 85 :: g 86 :: g 87 :: g 88 :: g 89 :: g 90 :: g 91 :: g 92 :: g 93 :: g 94 :: g 95 :: g 96 :: g 97 :: g 98 :: g 99 :: g 100 :: g 101 :: g 102 :: g 103 :: g 104 :: g 105 :: g 106 :: g 107 :: g 108 :: g 109 :: g 110 :: g 111 :: g 112 :: g 113 :: g 114 :: g 115 :: g 116 :: g 117 :: g 118 :: g 119 :: g 120 :: g 121 :: g 122 :: g 123 :: g 124 :: g 125 :: g 126 :: g 127 :: g 128 :: g 129 :: g 130 :: g 131 :: g 132 :: g 133 :: g 134 :: g 135 :: g 136 :: g 137 :: g 138 :: g 139 :: g 140 :: g 141 :: g 142 :: g 143 :: g 144 :: g 145 :: g 146 :: g 147 :: g 148 :: g 149 :: g 150 :: g 151 :: g 152 :: g 153 :: g 154 :: g 155 :: g 156 :: g 157 :: g 158 :: g 159 :: g 160 :: g 161 :: g 162 :: g 163 :: g 164 :: g 165 :: g 166 :: g 167 :: g 168 :: g 169 :: g 170 :: g 171 :: g 172 :: g 173 :: g 174 :: g 175 :: []).toArray = ((List.range 176).map g).toArray := by rfl
set_option maxRecDepth 100000 in
theorem act176 (a : Act) (hd : a.defers = []) (hs : a.tmps.size = 176) : ∃ g : Nat → Value, (∀ i, a.tmps.getD i undef = g i) ∧ a = { tmps := (g 0 :: g 1 :: g 2 :: g 3 :: g 4 :: g 5 :: g 6 :: g 7 :: g 8 :: g 9 :: g 10 :: g 11 :: g 12 :: g 13 :: g 14 :: g 15 :: g 16 :: g 17 :: g 18 :: g 19 :: g 20 :: g 21 :: g 22 :: g 23 :: g 24 :: g 25 :: g 26 :: g 27 :: g 28 :: g 29 :: g 30 :: g 31 :: g 32 :: g 33 :: g 34 :: g 35 :: g 36 :: g 37 :: g 38 :: g 39 :: g 40 :: g 41 :: g 42 :: g 43 :: g 44 :: g 45 :: g 46 :: g 47 :: g 48 :: g 49 :: g 50 :: g 51 :: g 52 :: g 53 :: g 54 :: g 55 :: g 56 :: g 57 :: g 58 :: g 59 :: g 60 :: g 61 :: g 62 :: g 63 :: g 64 :: g 65 :: g 66 :: g 67 :: g 68 :: g 69 :: g 70 :: g 71 :: g 72 :: g 73 :: g 74 :: g 75 :: g 76 :: g 77 :: g 78 :: g 79 :: g 80 :: g 81 :: g 82 :: g 83 :: g 84 :: g 85 :: g 86 :: g 87 :: g 88 :: g 89 :: g 90 :: g 91 :: g 92 :: g 93 :: g 94 :: g 95 :: g 96 :: g 97 :: g 98 :: g 99 :: g 100 :: g 101 :: g 102 :: g 103 :: g 104 :: g 105 :: g 106 :: g 107 :: g 108 :: g 109 :: g 110 :: g 111 :: g 112 :: g 113 :: g 114 :: g 115 :: g 116 :: g 117 :: g 118 :: g 119 :: g 120 :: g 121 :: g 122 :: g 123 :: g 124 :: g 125 :: g 126 :: g 127 :: g 128 :: g 129 :: g 130 :: g 131 :: g 132 :: g 133 :: g 134 :: g 135 :: g 136 :: g 137 :: g 138 :: g 139 :: g 140 :: g 141 :: g 142 :: g 143 :: g 144 :: g 145 :: g 146 :: g 147 :: g 148 :: g 149 :: g 150 :: g 151 :: g 152 :: g 153 :: g 154 :: g 155 :: g 156 :: g 157 :: g 158 :: g 159 :: g 160 :: g 161 :: g 162 :: g 163 :: g 164 :: g 165 :: g 166 :: g 167 :: g 168 :: g 169 :: g 170 :: g 171 :: g 172 :: g 173 :: g 174 :: g 175 :: []).toArray, defers := [] } := by
  refine ⟨fun i => a.tmps.getD i undef, fun _ => rfl, ?_⟩
  have h := lit176 (fun i => a.tmps.getD i undef)
  have e : a.tmps = ((List.range 176).map (fun i => a.tmps.getD i undef)).toArray := by
    apply Array.ext
    · simp [hs]
    · intro i h1 h2
      simp [h1]
  exact (show a = Act.mk a.tmps a.defers from rfl).trans (by rw [hd]; exact congrArg (fun t => Act.mk t []) (e.trans h.symm))
set_option maxRecDepth 100000 in
theorem lit212 (g : Nat → Value) : (g 0 :: g 1 :: g 2 :: g 3 :: g 4 :: g 5 :: g 6 :: g 7 :: g 8 :: g 9 :: g 10 :: g 11 :: g 12 :: g 13 :: g 14 :: g 15 :: g 16 :: g 17 :: g 18 :: g 19 :: g 20 :: g 21 :: g 22 :: g 23 :: g 24 :: g 25 :: g 26 :: g 27 :: g 28 :: g 29 :: g 30 :: g 31 :: g 32 :: g 33 :: g 34 :: g 35 :: g 36 :: g 37 :: g 38 :: g 39 :: g 40 :: g 41 :: g 42 :: g 43 :: g 44 :: g 45 :: g 46 :: g 47 :: g 48 :: g 49 :: g 50 :: g 51 :: g 52 :: g 53 :: g 54 :: g 55 :: g 56 :: g 57 :: g 58 :: g 59 :: g 60 :: g 61 :: g 62 :: g 63 :: g 64 :: g 65 :: g 66 :: g 67 :: g 68 :: g 69 :: g 70 :: g 71 :: g 72 :: g 73 :: g 74 :: g 75 :: g 76 :: g 77 :: g 78 :: g 79 :: g 80 :: g 81 :: g 82 :: g 83 :: g 84 :: g 85 :: g 86 :: g 87 :: g 88 :: g 89 :: g 90 :: g 91 :: g 92 :: g 93 :: g 94 :: g 95 :: g 96 :: g 97 :: g 98 :: g 99 :: g 100 :: g 101 :: g 102 :: g 103 :: g 104 :: g 105 :: g 106 :: g 107 :: g 108 :: g 109 :: g 110 :: g 111 :: g 112 :: g 113 :: g 114 :: g 115 :: g 116 :: g 117 :: g 118 :: g 119 :: g 120 :: g 121 :: g 122 :: g 123 :: g 124 :: g 125 :: g 126 :: g 127 :: g 128 :: g 129 :: g 130 :: g 131 :: g 132 :: g 133 :: g 134 :: g 135 :: g 136 :: g 137 :: g 138 :: g 139 :: g 140 :: g 141 :: g 142 :: g 143 :: g 144 :: g 145 :: g 146 :: g 147 :: g 148 :: g 149 :: g 150 :: g 151 :: g 152 :: g 153 :: g 154 :: g 155 :: g 156 :: g 157 :: g 158 :: g 159 :: g 160 :: g 161 :: g 162 :: g 163 :: g 164 :: g 165 :: g 166 :: g 167 :: g 168 :: g 169 :: g 170 :: g 171 :: g 172 :: g 173 :: g 174 :: g 175 :: g 176 :: g 177 :: g 178 :: g 179 :: g 180 :: g 181 :: g 182 :: g 183 :: g 184 :: g 185 :: g 186 :: g 187 :: g 188 :: g 189 :: g 190 :: g 191 :: g 192 :: g 193 :: g 194 :: g 195 :: g 196 :: g 197 :: g 198 :: g 199 :: g 200 :: g 201 :: g 202 :: g 203 :: g 204 :: g 205 :: g 206 :: g 207 :: g 208 :: g 209 :: g 210 :: g 211 :: []).toArray = ((List.range 212).map g).toArray := by rfl
set_option maxRecDepth 100000 in
theorem act212 (a : Act) (hd : a.defers = []) (hs : a.tmps.size = 212) : ∃ g : Nat → Value, (∀ i, a.tmps.getD i undef = g i) ∧ a = { tmps := (g 0 :: g 1 :: g 2 :: g 3 :: g 4 :: g 5 :: g 6 :: g 7 :: g 8 :: g 9 :: g 10 :: g 11 :: g 12 :: g 13 :: g 14 :: g 15 :: g 16 :: g 17 :: g 18 :: g 19 :: g 20 :: g 21 :: g 22 :: g 23 :: g 24 :: g 25 :: g 26 :: g 27 :: g 28 :: g 29 :: g 30 :: g 31 :: g 32 :: g 33 :: g 34 :: g 35 :: g 36 :: g 37 :: g 38 :: g 39 :: g 40 :: g 41 :: g 42 :: g 43 :: g 44 :: g 45 :: g 46 :: g 47 :: g 48 :: g 49 :: g 50 :: g 51 :: g 52 :: g 53 :: g 54 :: g 55 :: g 56 :: g 57 :: g 58 :: g 59 :: g 60 :: g 61 :: g 62 :: g 63 :: g 64 :: g 65 :: g 66 :: g 67 :: g 68 :: g 69 :: g 70 :: g 71 :: g 72 :: g 73 :: g 74 :: g 75 :: g 76 :: g 77 :: g 78 :: g 79 :: g 80 :: g 81 :: g 82 :: g 83 :: g 84 :: g 85 :: g 86 :: g 87 :: g 88 :: g 89 :: g 90 :: g 91 :: g 92 :: g 93 :: g 94 :: g 95 :: g 96 :: g 97 :: g 98 :: g 99 :: g 100 :: g 101 :: g 102 :: g 103 :: g 104 :: g 105 :: g 106 :: g 107 :: g 108 :: g 109 :: g 110 :: g 111 :: g 112 :: g 113 :: g 114 :: g 115 :: g 116 :: g 117 :: g 118 :: g 119 :: g 120 :: g 121 :: g 122 :: g 123 :: g 124 :: g 125 :: g 126 :: g 127 :: g 128 :: g 129 :: g 130 :: g 131 :: g 132 :: g 133 :: g 134 :: g 135 :: g 136 :: g 137 :: g 138 :: g 139 :: g 140 :: g 141 :: g 142 :: g 143 :: g 144 :: g 145 :: g 146 :: g 147 :: g 148 :: g 149 :: g 150 :: g 151 :: g 152 :: g 153 :: g 154 :: g 155 :: g 156 :: g 157 :: g 158 :: g 159 :: g 160 :: g 161 :: g 162 :: g 163 :: g 164 :: g 165 :: g 166 :: g 167 :: g 168 :: g 169 :: g 170 :: g 171 :: g 172 :: g 173 :: g 174 :: g 175 :: g 176 :: g 177 :: g 178 :: g 179 :: g 180 :: g 181 :: g 182 :: g 183 :: g 184 :: g 185 :: g 186 :: g 187 :: g 188 :: g 189 :: g 190 :: g 191 :: g 192 :: g 193 :: g 194 :: g 195 :: g 196 :: g 197 :: g 198 :: g 199 :: g 200 :: g 201 :: g 202 :: g 203 :: g 204 :: g 205 :: g 206 :: g 207 :: g 208 :: g 209 :: g 210 :: g 211 :: []).toArray, defers := [] } := by
  refine ⟨fun i => a.tmps.getD i undef, fun _ => rfl, ?_⟩
  have h := lit212 (fun i => a.tmps.getD i undef)
  have e : a.tmps = ((List.range 212).map (fun i => a.tmps.getD i undef)).toArray := by
    apply Array.ext
    · simp [hs]
    · intro i h1 h2
      simp [h1]
  exact (show a = Act.mk a.tmps a.defers from rfl).trans (by rw [hd]; exact congrArg (fun t => Act.mk t []) (e.trans h.symm))

def loopsIn : Code → List Code
  | .loop c => c :: loopsIn c
  | .seq a b => loopsIn a ++ loopsIn b
  | .block _ c => loopsIn c
  | .scope c => loopsIn c
  | .cond _ a b => loopsIn a ++ loopsIn b
  | _ => []
def slotNat (a : Act) (i : Nat) : Nat := (intOf (a.tmps.getD i undef)).toNat
theorem TensL.row {w : World} {a : Option Addr} {c : Nat} {L : List Ten} (h : TensL w (.slice a L.length c) L) (i : Nat) (hi : i < L.length) :
    ∃ b off xa xc ya yc, a = some ⟨b, off, none⟩ ∧ w.cell? ⟨b, off + i * 2, none⟩ = some (.slice xa L[i].1.length xc) ∧ w.cell? ⟨b, off + i * 2 + 1, none⟩ = some (.slice ya L[i].2.length yc) ∧ Hid (Tens w (.slice xa L[i].1.length xc) (.slice ya L[i].2.length yc) L[i]) := by
  obtain ⟨_, a', c', e, _, hrow⟩ := h
  simp only [Value.slice.injEq, true_and] at e
  obtain ⟨rfl, rfl⟩ := e
  obtain ⟨b, off, x, y, ha, hc1, hc2, hx, hy⟩ := hrow i hi
  obtain ⟨xa, xc, rfl⟩ := hx.shape
  obtain ⟨ya, yc, rfl⟩ := hy.shape
  exact ⟨b, off, xa, xc, ya, yc, ha, hc1, hc2, hx, hy⟩

theorem rtensor_to {v0 v1 : Value} {t : Ten} {w : World} (x : Bool) (h : Tens w v0 v1 t) (hx : tok t = x) :
    Calls Try.prog 8 #[.agg #[v0, v1]] w fun e w' => e = .returned (.bool x) ∧ Below w.heap.size w w' := by
  subst hx
  exact rtensor_any h
theorem tok_pos {t : Ten} (h : tok t = true) : 1 ≤ t.2.length ∧ t.2.length ≤ 64 := by
  have h1 := tok_len h
  obtain ⟨_, _, hin, hp⟩ := okd_parts (tok_okd h)
  have := prd_lo hin
  omega
theorem fit_self {s : Ten} : fitE s s = tkE s := by
  simp [fitE, tkE]
end Go.Proofs.Ytnphfepkjhlalaa

namespace Go.Proofs.Ytnphfepkjhlalaa
set_option linter.unusedVariables false
set_option linter.unusedSimpArgs false
open Go.RowKit

theorem wrap_k (x : Int) : ∃ k : Int, wrap64 x = x + k * 18446744073709551616 := by
  refine ⟨-((x + 9223372036854775808) / 18446744073709551616), ?_⟩
  unfold wrap64
  omega
theorem wrap_addk (x k : Int) : wrap64 (x + k * 18446744073709551616) = wrap64 x := by
  unfold wrap64
  rw [show x + k * 18446744073709551616 + 9223372036854775808 = (x + 9223372036854775808) + k * 18446744073709551616 by omega, Int.add_mul_emod_self_right]
theorem wl (x y : Int) : wrap64 (wrap64 x + y) = wrap64 (x + y) := by
  obtain ⟨k, h⟩ := wrap_k x
  rw [h, show x + k * 18446744073709551616 + y = (x + y) + k * 18446744073709551616 by omega, wrap_addk]
theorem wr (x y : Int) : wrap64 (x + wrap64 y) = wrap64 (x + y) := by rw [Int.add_comm, wl, Int.add_comm]
theorem wm (x y : Int) : wrap64 (x * wrap64 y) = wrap64 (x * y) := by
  obtain ⟨k, h⟩ := wrap_k y
  rw [h, Int.mul_add, ← Int.mul_assoc, wrap_addk]
theorem wrap_in {x : Int} (h : -9223372036854775808 ≤ x ∧ x ≤ 9223372036854775807) : wrap64 x = x := by unfold wrap64; omega
theorem zA_comm (a b : List Int) : List.zipWith opA a b = List.zipWith opA b a := by
  rw [List.zipWith_comm]
  congr 1
  funext x y
  simp [opA, Int.add_comm]
theorem zA_assoc : ∀ (a b d : List Int), List.zipWith opA (List.zipWith opA a b) d = List.zipWith opA a (List.zipWith opA b d)
  | [], _, _ => by simp
  | _ :: _, [], _ => by simp
  | _ :: _, _ :: _, [] => by simp
  | x :: a, y :: b, z :: d => by
    simp only [List.zipWith_cons_cons, zA_assoc a b d, opA, wl, wr, Int.add_assoc]
theorem zM_over : ∀ (a b d : List Int), List.zipWith opM a (List.zipWith opA b d) = List.zipWith opA (List.zipWith opM a b) (List.zipWith opM a d)
  | [], _, _ => by simp
  | _ :: _, [], _ => by simp
  | _ :: _, _ :: _, [] => by simp
  | x :: a, y :: b, z :: d => by
    simp only [List.zipWith_cons_cons, zM_over a b d, opA, opM, wl, wr, wm, Int.mul_add]
theorem zS_back : ∀ (a b : List Int), Rg a → b.length = a.length → List.zipWith opS (List.zipWith opA a b) b = a
  | [], _, _, _ => by simp
  | x :: a, [], _, h => by simp at h
  | x :: a, y :: b, hr, h => by
    have h1 := zS_back a b (fun z hz => hr z (List.mem_cons_of_mem _ hz)) (by simpa using h)
    have h2 : opS (opA x y) y = x := by
      rw [opS, opA, wl, wr, show x + y + -y = x by omega]
      exact wrap_in (hr x (List.mem_cons_self ..))
    simp only [List.zipWith_cons_cons, h1, h2]
theorem zN_scale (a : List Int) : List.zipWith opN a a = a.map (fun y => wrap64 (-1 * y)) := by
  induction a with
  | nil => rfl
  | cons x a ih => simp [ih, opN]
theorem ttl_acc : ∀ (l : List Int) (c : Int), l.foldl (fun a x => wrap64 (a + x)) (wrap64 c) = wrap64 (c + l.foldl (fun a x => a + x) 0)
  | [], c => by simp
  | x :: l, c => by
    have key : ∀ (l : List Int) (c : Int), l.foldl (fun a x => a + x) c = c + l.foldl (fun a x => a + x) 0 := by
      intro l
      induction l with
      | nil => intro c; simp
      | cons y l ih => intro c; rw [List.foldl_cons, ih (c + y), List.foldl_cons, ih (0 + y)]; omega
    rw [List.foldl_cons, wl, ttl_acc l (c + x), List.foldl_cons, key l (0 + x)]
    congr 1
    omega
def sm (l : List Int) : Int := l.foldl (fun a x => a + x) 0
theorem sm_cons (x : Int) (l : List Int) : sm (x :: l) = x + sm l := by
  have key : ∀ (l : List Int) (c : Int), l.foldl (fun a x => a + x) c = c + l.foldl (fun a x => a + x) 0 := by
    intro l
    induction l with
    | nil => intro c; simp
    | cons y l ih => intro c; rw [List.foldl_cons, ih (c + y), List.foldl_cons, ih (0 + y)]; omega
  unfold sm
  rw [List.foldl_cons, key l (0 + x)]
  omega
theorem ttl_sm (l : List Int) : ttl l = wrap64 (sm l) := by
  have := ttl_acc l 0
  rw [show wrap64 0 = 0 by decide +kernel] at this
  rw [ttl, this, Int.zero_add]
  rfl
theorem sm_wrap : ∀ (f : Int → Int → Int) (a b : List Int), wrap64 (sm (List.zipWith (fun x y => wrap64 (f x y)) a b)) = wrap64 (sm (List.zipWith f a b))
  | f, [], _ => by simp
  | f, _ :: _, [] => by simp
  | f, x :: a, y :: b => by
    rw [List.zipWith_cons_cons, List.zipWith_cons_cons, sm_cons, sm_cons, wl, ← wr, sm_wrap f a b, wr]
theorem sm_dot : ∀ (a b d : List Int), b.length = a.length → d.length = a.length → wrap64 (sm (List.zipWith (fun x y => x * y) a (List.zipWith opA b d))) = wrap64 (sm (List.zipWith (fun x y => x * y) a b) + sm (List.zipWith (fun x y => x * y) d a))
  | [], b, d, hb, hd => by
    have h1 : b = [] := List.eq_nil_of_length_eq_zero (by simpa using hb)
    have h2 : d = [] := List.eq_nil_of_length_eq_zero (by simpa using hd)
    subst h1 h2
    rfl
  | x :: a, [], _, hb, _ => by simp at hb
  | x :: a, _ :: _, [], _, hd => by simp at hd
  | x :: a, y :: b, z :: d, hb, hd => by
    have ih := sm_dot a b d (by simpa using hb) (by simpa using hd)
    simp only [List.zipWith_cons_cons, sm_cons, opA]
    rw [← wl, wm, wl, ← wr, ih, wr]
    congr 1
    rw [Int.mul_add, Int.mul_comm z x]
    omega
theorem dot_law (a b d : List Int) (hb : b.length = a.length) (hd : d.length = a.length) : ttl (List.zipWith opM a (List.zipWith opA b d)) = wrap64 (ttl (List.zipWith opM a b) + ttl (List.zipWith opM d a)) := by
  have h : ∀ p q : List Int, ttl (List.zipWith opM p q) = wrap64 (sm (List.zipWith (fun x y => x * y) p q)) := fun p q => by
    rw [ttl_sm]
    exact sm_wrap (fun x y => x * y) p q
  rw [h, h, h, wl, wr]
  exact sm_dot a b d hb hd
end Go.Proofs.Ytnphfepkjhlalaa

namespace Go.Proofs.Ytnphfepkjhlalaa
set_option linter.unusedVariables false
set_option linter.unusedSimpArgs false
open Go.RowKit

def sg (f : Nat → Int) : Nat → Int
  | 0 => 0
  | n + 1 => sg f n + f n
theorem sg_congr {f g : Nat → Int} : ∀ (n : Nat), (∀ i, i < n → f i = g i) → sg f n = sg g n
  | 0, _ => rfl
  | n + 1, h => by rw [sg, sg, sg_congr n (fun i hi => h i (by omega)), h n (by omega)]
theorem sg_add (f g : Nat → Int) : ∀ n, sg (fun i => f i + g i) n = sg f n + sg g n
  | 0 => rfl
  | n + 1 => by simp only [sg]; rw [sg_add f g n]; omega
theorem sg_zero : ∀ n, sg (fun _ => 0) n = 0
  | 0 => rfl
  | n + 1 => by simp only [sg]; rw [sg_zero n]; rfl
theorem sg_one (g : Nat → Int) (q : Nat) : ∀ m, q < m → sg (fun k => if q = k then g k else 0) m = g q
  | 0, h => by omega
  | m + 1, h => by
    rw [sg]
    by_cases e : q = m
    · subst e
      rw [sg_congr q (g := fun _ => 0) (fun i hi => by rw [if_neg (by omega)]), sg_zero]
      simp
    · rw [sg_one g q m (by omega)]
      simp [e]
theorem sg_swap (A : Nat → Int) (b : Nat → Int) (p : Nat → Nat) (m : Nat) : ∀ n, (∀ i, i < n → p i < m) → sg (fun k => A k * sg (fun i => if p i = k then b i else 0) n) m = sg (fun i => A (p i) * b i) n
  | 0, _ => by
    rw [sg_congr m (g := fun _ => 0) (fun i _ => by simp [sg]), sg_zero]
    rfl
  | n + 1, h => by
    have e : sg (fun k => A k * sg (fun i => if p i = k then b i else 0) (n + 1)) m = sg (fun k => A k * sg (fun i => if p i = k then b i else 0) n + (if p n = k then A k * b n else 0)) m := by
      refine sg_congr m fun k _ => ?_
      rw [sg, Int.mul_add]
      congr 1
      by_cases hk : p n = k
      · simp [hk]
      · simp [hk]
    rw [e, sg_add, sg_swap A b p m n (fun i hi => h i (by omega)), sg_one (fun k => A k * b n) (p n) m (h n (by omega))]
    rfl
theorem sg_wrap (f : Nat → Int) : ∀ n, wrap64 (sg (fun i => wrap64 (f i)) n) = wrap64 (sg f n)
  | 0 => rfl
  | n + 1 => by rw [sg, sg, wr, ← wl, sg_wrap f n, wl]
theorem sg_wrapm (A B : Nat → Int) : ∀ n, wrap64 (sg (fun i => A i * wrap64 (B i)) n) = wrap64 (sg (fun i => A i * B i) n)
  | 0 => rfl
  | n + 1 => by rw [sg, sg, ← wl, sg_wrapm A B n, wl, ← wr, wm, wr]
/-- The sum of products of what is laid out, and b, is that of it and b summed up. -/
theorem sg_dot (A b : Nat → Int) (p : Nat → Nat) (m n : Nat) (h : ∀ i, i < n → p i < m) :
    wrap64 (sg (fun k => wrap64 (A k * wrap64 (sg (fun i => if p i = k then b i else 0) n))) m) = wrap64 (sg (fun i => wrap64 (A (p i) * b i)) n) := by
  rw [sg_wrap (fun k => A k * wrap64 (sg (fun i => if p i = k then b i else 0) n)), sg_wrapm, sg_swap A b p m n h, sg_wrap]
/-- How often k is met. -/
def ctn (p : Nat → Nat) (k n : Nat) : Nat := ((List.range n).filter fun i => p i == k).length
theorem ctn_succ (p : Nat → Nat) (k n : Nat) : ctn p k (n + 1) = ctn p k n + (if p n = k then 1 else 0) := by
  by_cases h : p n = k
  · simp [ctn, List.range_succ, List.filter_append, h]
  · simp [ctn, List.range_succ, List.filter_append, h]
theorem sg_back (A : Nat → Int) (p : Nat → Nat) (k : Nat) : ∀ n, sg (fun i => if p i = k then A (p i) else 0) n = ctn p k n * A k
  | 0 => by simp [sg, ctn]
  | n + 1 => by
    rw [sg, sg_back A p k n, ctn_succ]
    by_cases h : p n = k
    · simp [h, Int.add_mul]
    · simp [h]
theorem sm_snoc (l : List Int) (x : Int) : sm (l ++ [x]) = sm l + x := by simp [sm]
theorem sm_range (f : Nat → Int) : ∀ n, sm ((List.range n).map f) = sg f n
  | 0 => rfl
  | n + 1 => by rw [List.range_succ, List.map_append, List.map_singleton, sm_snoc, sm_range f n, sg]
theorem list_range (l : List Int) : l = (List.range l.length).map fun i => l.getD i 0 := by
  apply List.ext_getElem
  · simp
  · intro i h1 h2
    simp [h1]
theorem zip_range (op : Int → Int → Int) (a b : List Int) (n : Nat) (ha : a.length = n) (hb : b.length = n) : List.zipWith op a b = (List.range n).map fun i => op (a.getD i 0) (b.getD i 0) := by
  apply List.ext_getElem
  · simp [ha, hb]
  · intro i h1 h2
    have : i < n := by simpa using h2
    simp [ha, hb, this]
/-- b summed up along p, of the first j numbers. -/
def sums (p : Nat → Nat) (b : List Int) (m j : Nat) : List Int := (List.range m).map fun k => wrap64 (sg (fun i => if p i = k then b.getD i 0 else 0) j)
theorem sums_length (p : Nat → Nat) (b : List Int) (m j : Nat) : (sums p b m j).length = m := by simp [sums]
theorem sums_zero (p : Nat → Nat) (b : List Int) (m : Nat) : sums p b m 0 = List.replicate m 0 := by
  apply List.ext_getElem
  · simp [sums]
  · intro i h1 h2
    simp only [sums, List.getElem_map, List.getElem_replicate, sg]
    decide +kernel
theorem sums_set (p : Nat → Nat) (b : List Int) (m j : Nat) (hp : p j < m) : (sums p b m j).set (p j) (wrap64 ((sums p b m j).getD (p j) 0 + b.getD j 0)) = sums p b m (j + 1) := by
  apply List.ext_getElem
  · simp [sums]
  · intro k h1 h2
    have hk : k < m := by simpa [sums] using h2
    simp only [List.getElem_set, sums, List.getElem_map, List.getElem_range, sg]
    by_cases e : p j = k
    · subst e
      simp [hp, wl]
    · rw [if_neg e]
      simp [e]
/-- a laid out by p. -/
def laid (p : Nat → Nat) (a : List Int) (n : Nat) : List Int := (List.range n).map fun i => a.getD (p i) 0
theorem laid_length (p : Nat → Nat) (a : List Int) (n : Nat) : (laid p a n).length = n := by simp [laid]
theorem turn_dot (p : Nat → Nat) (a b : List Int) (m n : Nat) (ha : a.length = m) (hb : b.length = n) (hp : ∀ i, i < n → p i < m) :
    ttl (List.zipWith opM (laid p a n) b) = ttl (List.zipWith opM a (sums p b m n)) := by
  rw [ttl_sm, ttl_sm, zip_range opM (laid p a n) b n (laid_length p a n) hb, zip_range opM a (sums p b m n) m ha (sums_length p b m n), sm_range, sm_range]
  have e1 : sg (fun i => opM ((laid p a n).getD i 0) (b.getD i 0)) n = sg (fun i => wrap64 (a.getD (p i) 0 * b.getD i 0)) n := by
    refine sg_congr n fun i hi => ?_
    have : (laid p a n).getD i 0 = a.getD (p i) 0 := by simp [laid, hi]
    rw [this]; rfl
  have e2 : sg (fun k => opM (a.getD k 0) ((sums p b m n).getD k 0)) m = sg (fun k => wrap64 (a.getD k 0 * wrap64 (sg (fun i => if p i = k then b.getD i 0 else 0) n))) m := by
    refine sg_congr m fun k hk => ?_
    have : (sums p b m n).getD k 0 = wrap64 (sg (fun i => if p i = k then b.getD i 0 else 0) n) := by simp [sums, hk]
    rw [this]; rfl
  rw [e1, e2]
  exact (sg_dot (fun k => a.getD k 0) (fun i => b.getD i 0) p m n hp).symm
theorem turn_back (p : Nat → Nat) (a : List Int) (m n q : Nat) (ha : a.length = m) (hq : ∀ k, k < m → ctn p k n = q) :
    sums p (laid p a n) m n = a.map fun y => wrap64 (y * q) := by
  apply List.ext_getElem
  · simp [sums, ha]
  · intro k h1 h2
    have hk : k < m := by simpa [sums] using h1
    have e : sg (fun i => if p i = k then (laid p a n).getD i 0 else 0) n = sg (fun i => if p i = k then a.getD (p i) 0 else 0) n := by
      refine sg_congr n fun i hi => ?_
      have : (laid p a n).getD i 0 = a.getD (p i) 0 := by simp [laid, hi]
      rw [this]
    simp only [sums, List.getElem_map, List.getElem_range]
    rw [e, sg_back (fun j => a.getD j 0) p k n, hq k hk, Int.mul_comm]
    simp [show k < a.length by omega]
end Go.Proofs.Ytnphfepkjhlalaa

namespace Go.Proofs.Ytnphfepkjhlalaa
set_option linter.unusedVariables false
set_option linter.unusedSimpArgs false
open Go.RowKit

theorem Wr.later {w w' : World} {B : Nat} {v : Value} (hb : Below w.heap.size w w') (h : Wr w B v) : Wr w' B v := by
  rcases h with h | ⟨g, n, cap, cur, rfl, h1, h2, h3, h4, h5⟩
  · exact Or.inl h
  · exact Or.inr ⟨g, n, cap, cur, rfl, h1, h2, h3, (hb.block g (Array.getElem?_eq_some_iff.1 h4).1).trans h4, h5⟩
theorem Wr.mono {w : World} {B B' : Nat} {v : Value} (h : Wr w B v) (hB : B' ≤ B) : Wr w B' v := by
  rcases h with h | ⟨g, n, cap, cur, rfl, h1, h2, h3, h4, h5⟩
  · exact Or.inl h
  · exact Or.inr ⟨g, n, cap, cur, rfl, by omega, h2, h3, h4, h5⟩
theorem Wr.lt {w : World} {B : Nat} {v : Value} (h : Wr w B v) : ∀ k, v.ownBlock = some k → k < w.heap.size := by
  intro k hk
  rcases h with rfl | ⟨g, n, cap, cur, rfl, h1, h2, h3, h4, h5⟩
  · simp [Value.ownBlock] at hk
  · simp [Value.ownBlock] at hk
    subst hk
    exact (Array.getElem?_eq_some_iff.1 h4).1
set_option maxHeartbeats 400000 in
theorem spoil_wr {w : World} {B n0 n1 c0 c1 : Nat} {p0 p1 : Option Addr} (h0 : Wr w B (.slice p0 n0 c0)) (h1 : Wr w B (.slice p1 n1 c1)) (hB : B ≤ w.heap.size) :
    Calls Try.prog 21 #[.agg #[.slice p0 n0 c0, .slice p1 n1 c1]] w fun e w' => e = .returned (.tuple #[]) ∧ Below B w w' ∧ ∀ u, Wr w B u → Wr w' B u := by
  have HB : Hid (Below B w (w.alloc (.cells #[.slice p0 n0 c0, .slice p1 n1 c1] 28))) := (Below.refl _ _).alloc hB _
  have H0 : Hid (Wr (w.alloc (.cells #[.slice p0 n0 c0, .slice p1 n1 c1] 28)) B (.slice p0 n0 c0)) := h0.alloc _
  have H1 : Hid (Wr (w.alloc (.cells #[.slice p0 n0 c0, .slice p1 n1 c1] 28)) B (.slice p1 n1 c1)) := h1.alloc _
  have HN0 : Hid (∀ k, (Value.slice p0 n0 c0).ownBlock = some k → k < w.heap.size) := h0.lt
  have HBX : Hid (Box (w.alloc (.cells #[.slice p0 n0 c0, .slice p1 n1 c1] 28)) w.heap.size (.slice p0 n0 c0) (.slice p1 n1 c1)) := Box.new w _ _
  clear h0 h1
  go_enter Try.func21, Try.ntmps21
  go_wp2_with fail
  refine (numbers_any H0.out).mono ?_
  rintro e w1 ⟨rfl, hb1, hw1, ho1⟩
  have HW1 : Hid (Wr w1 B (.slice p1 n1 c1)) := hw1 _ H1.out
  have HU1 : Hid (∀ u, Wr w B u → Wr w1 B u) := fun u hu => hw1 u (hu.alloc _)
  have HB1 : Hid (Below B w w1) := HB.out.trans hb1
  have hbx1 : Box w1 w.heap.size _ _ := (ho1 w.heap.size (fun e => absurd (HN0.out _ e) (Nat.lt_irrefl _))).trans HBX.out
  have hc1 := hbx1.c1
  clear hb1 hw1 ho1 hbx1
  go_wp2_with fail
  refine (numbers_any HW1.out).mono ?_
  rintro e w2 ⟨rfl, hb2, hw2, _⟩
  have HB2 : Hid (Below B w w2) := HB1.out.trans hb2
  have HU2 : Hid (∀ u, Wr w B u → Wr w2 B u) := fun u hu => hw2 u (HU1.out u hu)
  clear hb2 hw2
  go_wp2
  go_end0
  exact ⟨rfl, HB2.out, HU2.out⟩
theorem opS_eq (x y : Int) : opS x y = wrap64 (x - y) := by
  unfold opS wrap64
  omega
theorem each_ok_eq {op : Int → Int → Int} {s t : Ten} (h : fitE s t = 0) : eachR op s t = (s.1, List.zipWith op s.2 t.2) := by rw [eachR, if_pos h]
theorem each_bad_eq {op : Int → Int → Int} {s t : Ten} {x : Int} (h : fitE s t = x) (hx : x ≠ 0) : eachR op s t = ([], []) := by rw [eachR, h, if_neg hx]
theorem opS_fun : (fun x y => wrap64 (x - y)) = opS := by
  funext x y
  exact (opS_eq x y).symm
theorem fit_lens {s t : Ten} (h : fitE s t = 0) : t.2.length = s.2.length ∧ 1 ≤ s.2.length ∧ s.2.length ≤ 64 := by
  obtain ⟨hs, ht, hd⟩ := fit_zero h
  have h1 := tok_len hs
  have h2 := tok_len ht
  rw [← hd] at h2
  have h3 := tok_pos hs
  omega
theorem OwnT.set2 {w : World} {B p : Nat} {x y : Value} {t : Ten} (h : OwnT w B x y t) (u v : Value) (hp : p < B) : OwnT ((w.setCell ⟨p, 0, none⟩ u).setCell ⟨p, 1, none⟩ v) B x y t := (h.setCell _ _ hp).setCell _ _ hp
theorem Box.other2 {w : World} {B p : Nat} {x y : Value} (h : Box w B x y) (u v : Value) (hp : B ≠ p) : Box ((w.setCell ⟨p, 0, none⟩ u).setCell ⟨p, 1, none⟩ v) B x y := (h.other _ _ hp).other _ _ hp
end Go.Proofs.Ytnphfepkjhlalaa
