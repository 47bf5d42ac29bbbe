/- Carried: J3. -/
import Derived.Test.YtheddpjaihhbdacGreatC04
namespace Go.Proofs.YtheddpjaihhbdacGreat
set_option linter.unusedVariables false
set_option linter.unusedSimpArgs false
set_option maxRecDepth 100000
open Go.RowKit

set_option maxHeartbeats 400000 in
theorem fill_own {v : Value} {d : List Int} {w : World} (n : Int) (h : Ints w v d) (hok : okd d = true) :
    Calls Tryz.prog 37 #[v, .int .i64 n] w fun e w' => ∃ x0 b1, e = .returned (.tuple #[.agg #[x0, .slice (some ⟨b1, 0, none⟩) (prd d).toNat (prd d).toNat], .int .i64 0]) ∧ Own w' w.heap.size x0 d ∧ Blk w' b1 (List.replicate (prd d).toNat n) ∧ (w.heap.size ≤ b1 ∧ ∀ k, x0.ownBlock = some k → k ≠ b1) ∧ Below w.heap.size w w' := by
  have hb : Below w.heap.size w (w.alloc (.cells #[.slice none 0 0, .slice none 0 0] 34)) := (Below.refl _ _).alloc (Nat.le_refl _) _
  have H : Hid (Ints (w.alloc (.cells #[.slice none 0 0, .slice none 0 0] 34)) v d) := h.later hb
  have HB : Hid (Below w.heap.size w (w.alloc (.cells #[.slice none 0 0, .slice none 0 0] 34))) := hb
  have HK : Hid (okd d = true) := hok
  obtain ⟨hl1, hl2, hin, hp⟩ := okd_parts hok
  have hp1 := prd_lo hin
  have HC : Hid ((prd d).toNat = prd d) := by show _ = _; omega
  obtain ⟨m, hm⟩ : ∃ m : Nat, prd d = m := ⟨(prd d).toNat, by omega⟩
  have HM : Hid (prd d = m) := hm
  have hm1 : 1 ≤ m := by omega
  have hm2 : m ≤ 64 := by omega
  have hmk := fun w => make_ints w m (by omega)
  clear h hok hb hin hp hp1 hm
  go_enter Tryz.func37, Tryz.ntmps37
  go_wp2_with fail
  refine (cells_ok H.out HK.out).mono ?_
  rw [HM.out]
  rintro e w1 ⟨rfl, hb1⟩
  have hsz := hb1.size
  simp at hsz
  have HB1 : Hid (Below w.heap.size w w1) := Below.after HB.out hb1
  have HH : Hid (Ints w1 v d) := H.out.later hb1
  have hbox : Hid (w1.heap[w.heap.size]? = some (.cells #[.slice none 0 0, .slice none 0 0] 34 (0, 0))) := (hb1.block w.heap.size (by simp)).trans (heap_alloc_new w _)
  clear hb1
  go_wp2
  clear hmk
  have HST : Hid (Blk (w1.alloc (.cells (ia (zer m)) 3)) w1.heap.size (fil m 0 n)) := by
    show Blk _ _ _
    rw [fil_zero]
    exact Blk.new w1 _
  go_loopw [23] (fun i w' => ∃ j : Nat, j ≤ m ∧ i = .int .i64 j ∧ Blk w' w1.heap.size (fil m j n) ∧ Below w1.heap.size w1 w') (fun i _ => m - (intOf i).toNat)
  case atStart => exact ⟨0, by omega, rfl, HST.out, (Below.refl _ _).alloc (Nat.le_refl _) _⟩
  case round =>
    obtain ⟨j, hj, rfl, hB, hbel⟩ := hrel
    have HB3 : Hid (Blk wr w1.heap.size (fil m j n)) := hB
    have HBL3 : Hid (Below w1.heap.size w1 wr) := hbel
    clear hB hbel
    by_cases hltj : j < m
    · have hf := HB3.out.frozen j
      obtain ⟨x, hc⟩ : ∃ x, wr.cell? ⟨w1.heap.size, j, none⟩ = some x := ⟨_, HB3.out.cell j (by rw [fil_length _ _ _ hj]; exact hltj)⟩
      go_wp2
      refine ⟨⟨j + 1, by omega, by go_num, ?_, HBL3.out.setCell (Nat.le_refl _) _⟩, by simp [intOf]; omega⟩
      have := HB3.out.set j n
      rw [fil_set _ _ _ hltj] at this
      exact this
    · have hj' : j = m := by omega
      subst hj'
      have hws := HBL3.out.size
      go_wp2_with fail
      refine (clone_own (HH.out.later HBL3.out) hl1).mono ?_
      rintro e w2 ⟨v0, rfl, ho0, hb2⟩
      have hi0 := ho0.ints
      have hf0 := ho0.frm
      obtain ⟨va, vc, rfl⟩ := hi0.shape
      have HI0 : Hid (Ints w2 (.slice va d.length vc) d) := hi0
      have HO0 : Hid (Own w2 wr.heap.size (.slice va d.length vc) d) := ho0
      have hlt0 := HB3.out.lt
      have HF0 : Hid (From wr.heap.size (.slice va d.length vc)) := hf0
      have HB4 : Hid (Below w1.heap.size w1 w2) := Below.after HBL3.out hb2
      have HB5 : Hid (Blk w2 w1.heap.size (List.replicate j n)) := by
        have := HB3.out.later hb2 HB3.out.lt
        rw [fil_all] at this
        exact this
      have hbx : w2.heap[w.heap.size]? = some (.cells #[.slice none 0 0, .slice none 0 0] 34 (0, 0)) := (HB4.out.block _ (by omega)).trans hbox.out
      have hx0 := cell_of_row w2 w.heap.size 0 _ _ _ hbx
      have hx1 := cell_of_row w2 w.heap.size 1 _ _ _ hbx
      have hy0 := frozen_of_row w2 w.heap.size 0 _ _ hbx
      have hy1 := frozen_of_row w2 w.heap.size 1 _ _ hbx
      simp at hx0 hx1
      have hs1 := heap_setCell_same w2 w.heap.size 0 _ 34 (.slice va d.length vc) hbx
      have hs2 := heap_setCell_same _ w.heap.size 1 _ 34 (.slice (some ⟨w1.heap.size, 0, none⟩) j j) hs1
      have HR0 : Hid (((w2.setCell ⟨w.heap.size, 0, none⟩ (.slice va d.length vc)).setCell ⟨w.heap.size, 1, none⟩ (.slice (some ⟨w1.heap.size, 0, none⟩) j j)).cell? ⟨w.heap.size, 0, none⟩ = some (.slice va d.length vc)) := by
        show _ = _
        rw [cell_of_row _ w.heap.size 0 _ _ _ hs2]
        rfl
      have HR1 : Hid (((w2.setCell ⟨w.heap.size, 0, none⟩ (.slice va d.length vc)).setCell ⟨w.heap.size, 1, none⟩ (.slice (some ⟨w1.heap.size, 0, none⟩) j j)).cell? ⟨w.heap.size, 1, none⟩ = some (.slice (some ⟨w1.heap.size, 0, none⟩) j j)) := by
        show _ = _
        rw [cell_of_row _ w.heap.size 1 _ _ _ hs2]
        rfl
      clear ho0 hi0 hf0 hb2 hbx hs1 hs2
      go_wp2
      have HJ : Hid ((prd d).toNat = j) := by show _ = _; rw [HM.out]; rfl
      clear HM HC
      have hr0 := HR0.out
      have hr1 := HR1.out
      refine bodyPost_ret (v := .tuple #[.agg #[.slice va d.length vc, .slice (some ⟨w1.heap.size, 0, none⟩) j j], .int .i64 0]) (by simp [results, Tryz.results37, go_sem, hr0, hr1]) rfl ⟨_, w1.heap.size, by rw [HJ.out], ?_, ?_, ⟨by omega, fun k hk => by have := HF0.out k hk; omega⟩, ?_⟩
      · exact (((HO0.out.setCell _ _ (fun k hk => by have := HF0.out k hk; simp; omega)).setCell _ _ (fun k hk => by have := HF0.out k hk; simp; omega))).mono (by omega)
      · rw [HJ.out]
        exact (HB5.out.setOther _ _ (by simp; omega)).setOther _ _ (by simp; omega)
      · exact ((Below.after HB1.out HB4.out).setCell (Nat.le_refl _) _).setCell (Nat.le_refl _) _
set_option maxHeartbeats 1000000 in
theorem rfill_own {v : Value} {d : List Int} {w : World} (n : Int) (h : Ints w v d) (hok : okd d = true) :
    Calls Tryz.prog 44 #[v, .int .i64 n] w fun e w' => ∃ x0 x1, e = .returned (.agg #[x0, x1]) ∧ OwnT w' w.heap.size x0 x1 (d, List.replicate (prd d).toNat n) ∧ Below w.heap.size w w' := by
  have hb : Below w.heap.size w (w.alloc (.cells #[.slice none 0 0, .slice none 0 0] 34)) := (Below.refl _ _).alloc (Nat.le_refl _) _
  have H : Hid (Ints (w.alloc (.cells #[.slice none 0 0, .slice none 0 0] 34)) v d) := h.later hb
  have HB : Hid (Below w.heap.size w (w.alloc (.cells #[.slice none 0 0, .slice none 0 0] 34))) := hb
  have HK : Hid (okd d = true) := hok
  obtain ⟨hl1, hl2, hin, hp⟩ := okd_parts hok
  have hp1 := prd_lo hin
  obtain ⟨m, hm⟩ : ∃ m : Nat, prd d = m := ⟨(prd d).toNat, by omega⟩
  have HM : Hid (prd d = m) := hm
  have HN : Hid ((prd d).toNat = m) := by show _ = _; omega
  have hm1 : 1 ≤ m := by omega
  have hm2 : m ≤ 64 := by omega
  obtain ⟨i3, hi, hz0, hz1, hz2⟩ := info3
  have HI : Hid (Tryz.prog.info? 3 = some i3) := hi
  have HZ0 : Hid (i3.zero = some (.int .i64 0)) := hz0
  have HZ1 : Hid (i3.size = 1) := hz1
  have HZ2 : Hid (i3.bytes = 8) := hz2
  clear h hok hb hin hp hp1 hm hi hz0 hz1 hz2
  rw [HN.out]
  go_enter Tryz.func44, Tryz.ntmps44
  go_wp2_with fail
  refine (copy_Own H.out).mono ?_
  rintro e w1 ⟨v0, rfl, ho0, hb1⟩
  have hi0 := ho0.ints
  have hf0 := ho0.frm
  have hsz := hb1.size
  simp at hsz
  have hv0 := hi0.old hl1
  obtain ⟨va, vc, rfl⟩ := hi0.shape
  have HB1 : Hid (Below w.heap.size w w1) := Below.after HB.out hb1
  have HD1 : Hid (Ints w1 v d) := H.out.later hb1
  have HST : Hid (Lay w w1 (w1.alloc (.cells #[.slice va d.length vc, .slice none 0 0] 34)) (.slice va d.length vc) (.slice none 0 0) d n 0) := by
    refine ⟨heap_alloc_new w1 _, ?_, World.ownsRow_nil _ _ _ _, hi0.later ((Below.refl _ _).alloc (Nat.le_refl _) _), (Below.refl _ _).alloc (Nat.le_refl _) _, by simp⟩
    rw [Below.heap_alloc _ _ _ (by omega)]
    exact (hb1.block w.heap.size (by simp)).trans (heap_alloc_new w _)
  have HO0 : Hid (Own w1 (w.alloc (.cells #[.slice none 0 0, .slice none 0 0] 34)).heap.size (.slice va d.length vc) d) := ho0
  have HF0 : Hid (From (w.alloc (.cells #[.slice none 0 0, .slice none 0 0] 34)).heap.size (.slice va d.length vc)) := hf0
  have HV0 : Hid (∀ k, (Value.slice va d.length vc).ownBlock = some k → k < w1.heap.size) := hv0
  clear hb1 hi0 hv0 hf0 ho0
  go_wp2
  go_loopw [6] (fun i w' => ∃ (j : Nat) (vj : Value), j ≤ m ∧ i = .int .i64 j ∧ Lay w w1 w' (.slice va d.length vc) vj d n j) (fun i _ => m - (intOf i).toNat)
  case atStart => exact ⟨0, _, by omega, rfl, HST.out⟩
  case round =>
    obtain ⟨j, vj, hj, rfl, hL⟩ := hrel
    have HL : Hid (Lay w w1 wr (.slice va d.length vc) vj d n j) := hL
    have hws := hL.size
    have hx0 := cell_of_row wr w1.heap.size 0 _ _ _ hL.box
    have hx1 := cell_of_row wr w1.heap.size 1 _ _ _ hL.box
    simp at hx0 hx1
    have HDR : Hid (Ints wr v d) := HD1.out.later hL.below
    by_cases hltj : j < m
    · have hfr1 := frozen_of_row wr w1.heap.size 1 _ _ hL.box
      obtain ⟨ja, jn, jc, rfl⟩ : ∃ a n c, vj = .slice a n c := by
        rcases hL.own.2 with ⟨rfl, _⟩ | ⟨g, cap, cur, rfl, _⟩
        · exact ⟨_, _, _, rfl⟩
        · exact ⟨_, _, _, rfl⟩
      clear hL
      go_wp2_with fail
      refine (rcells_ok HDR.out HK.out).mono ?_
      rw [HM.out]
      rintro e w' ⟨rfl, rfl⟩
      go_wp2_with (at_builtin; refine wpList_append_own _ rfl _ _ 23 rfl (w1.heap.size + 1) 3 i3 (.int .i64 0) 1 8 Tryz.underlying23 HI.out HZ0.out HZ1.out HZ2.out rfl (by decide) _ _ _ rfl (HL.out.own.alloc _) ⟨wr.heap.size, 0, none⟩ 1 1 [.int .i64 n] rfl rfl ?c1 ?c2 ?c3 ?c4 ?c5 ?_)
      case c1 => exact cell_one_new _ _ _
      case c2 => intro u hu; simp at hu; subst hu; rfl
      case c3 => unfold maxLen; omega
      case c4 => omega
      case c5 => simp; omega
      intro v1 w2 ho hg _
      have HL2 : Hid (Lay w w1 (w2.setCell ⟨w1.heap.size, 1, none⟩ v1) (.slice va d.length vc) v1 d n (j + 1)) := HL.out.next (by omega) HV0.out _ ho hg
      have hbel : Below (w1.heap.size + 1) wr w2 := ((Below.refl _ _).alloc hws _).grown hg (by simp; omega) (fun k hk => (HL.out.own.lt k hk).1)
      have hy1 : w2.cell? ⟨w1.heap.size, 1, none⟩ = some (.slice ja jn jc) := by
        rw [hbel.cell (p := ⟨w1.heap.size, 1, none⟩) (by simp)]
        exact hx1
      have hy2 : w2.frozen? ⟨w1.heap.size, 1, none⟩ = false := by
        rw [hbel.frozen (p := ⟨w1.heap.size, 1, none⟩) (by simp)]
        exact hfr1
      obtain ⟨qa, qn, qc, rfl⟩ : ∃ a n c, v1 = .slice a n c := by
        rcases ho.2 with ⟨rfl, _⟩ | ⟨g, cap, cur, rfl, _⟩
        · exact ⟨_, _, _, rfl⟩
        · exact ⟨_, _, _, rfl⟩
      clear ho hg hbel
      go_wp2
      go_roundw
      case rel => exact ⟨j + 1, _, by omega, by go_num, HL2.out⟩
      case measure => simp [intOf]; omega
    · have hj' : j = m := by omega
      subst hj'
      have HO : Hid (Ints wr vj (List.replicate j n)) := own_ints rfl hL.own (by simp; unfold big; omega)
      obtain ⟨ja, jc, e⟩ := HO.out.shape
      rw [List.length_replicate] at e
      subst e
      have hr0 := cell_of_row wr w.heap.size 0 _ _ _ hL.res
      have hr1 := cell_of_row wr w.heap.size 1 _ _ _ hL.res
      simp at hr0 hr1
      have hq0 := frozen_of_row wr w.heap.size 0 _ _ hL.res
      have hq1 := frozen_of_row wr w.heap.size 1 _ _ hL.res
      have hs1 := heap_setCell_same wr w.heap.size 0 _ 34 (.slice va d.length vc) hL.res
      have hs2 := heap_setCell_same _ w.heap.size 1 _ 34 (.slice ja j jc) hs1
      have HR0 : Hid (((wr.setCell ⟨w.heap.size, 0, none⟩ (.slice va d.length vc)).setCell ⟨w.heap.size, 1, none⟩ (.slice ja j jc)).cell? ⟨w.heap.size, 0, none⟩ = some (.slice va d.length vc)) := by
        show _ = _
        rw [cell_of_row _ w.heap.size 0 _ _ _ hs2]
        rfl
      have HR1 : Hid (((wr.setCell ⟨w.heap.size, 0, none⟩ (.slice va d.length vc)).setCell ⟨w.heap.size, 1, none⟩ (.slice ja j jc)).cell? ⟨w.heap.size, 1, none⟩ = some (.slice ja j jc)) := by
        show _ = _
        rw [cell_of_row _ w.heap.size 1 _ _ _ hs2]
        rfl
      clear hL hs1 hs2
      go_wp2_with fail
      refine (rcells_ok HDR.out HK.out).mono ?_
      rw [HM.out]
      rintro e w' ⟨rfl, rfl⟩
      go_wp2
      have hr0 := HR0.out
      have hr1 := HR1.out
      refine bodyPost_ret (v := .agg #[.slice va d.length vc, .slice ja j jc]) (by simp [results, Tryz.results44, go_sem, hr0, hr1]) rfl ⟨_, _, rfl, ⟨?_, ?_, ?_⟩, ?_⟩
      · exact (((HO0.out.later HL.out.below).setCell _ _ (fun k hk => by have := HF0.out k hk; simp at this; simp; omega)).setCell _ _ (fun k hk => by have := HF0.out k hk; simp at this; simp; omega)).mono (by simp)
      · have h1 : Own wr (w1.heap.size + 1) (.slice ja j jc) (List.replicate j n) := ⟨by rw [List.length_replicate]; exact HL.out.own, by simp; unfold big; omega⟩
        exact ((h1.setCell _ _ (fun k hk => by have := (HL.out.own.lt k hk).1; simp; omega)).setCell _ _ (fun k hk => by have := (HL.out.own.lt k hk).1; simp; omega)).mono (by omega)
      · intro k hk hk1
        have h1 := HV0.out k hk
        have h2 := (HL.out.own.lt k hk1).1
        omega
      · exact ((Below.after HB1.out HL.out.below).setCell (Nat.le_refl _) _).setCell (Nat.le_refl _) _
theorem It.nx {w : World} {I k : Nat} {s : ByteArray} (h : It w I s k) (hk : k < s.size) (x : Int) (hx : (s[k].toNat : Int) = x) (h1 : s[k].toNat < 128) (ty : TypeId) :
    (Instr.next (.pointer (some ⟨I, 0, none⟩)) true ty).run Tryz.prog w = .ok (.tuple #[.bool true, .int .i64 k, .int .i32 x]) (w.iterAt I s (k + 1)) := by
  subst hx
  rw [Lib.run_next_ascii_at w I s k ty h hk h1]
theorem It.nd {w : World} {I k : Nat} {s : ByteArray} (h : It w I s k) (hk : k = s.size) (ty : TypeId) :
    (Instr.next (.pointer (some ⟨I, 0, none⟩)) true ty).run Tryz.prog w = .ok (.tuple #[.bool false]) w :=
  Lib.run_next_end_at w I s k ty h (by omega)
theorem It.blk {w : World} {B I : Nat} {xs : List Int} {s : ByteArray} {p : Nat} (h : Blk w B xs) (hi : It w I s p) : I ≠ B := by
  rintro rfl
  have := h.symm.trans hi
  cases this
/-- What spells in which dims a place agrees. -/
def tieB (x : Int) : UInt8 := if x = 1 then 42 else 61
def tieT (d : List Int) : ByteArray := ⟨(d.map tieB).toArray⟩
theorem tieT_snoc (l : List Int) (x : Int) : tieT (l ++ [x]) = tieT l ++ ⟨#[tieB x]⟩ := by
  have h := ByteArray.mk_append_mk (l.map tieB) [tieB x]
  simp only [tieT, List.map_append, List.map_cons, List.map_nil]
  exact h.symm
theorem tieT_size (d : List Int) : (tieT d).size = d.length := by simp [tieT, ByteArray.size]
theorem tieT_get (d : List Int) (k : Nat) (h : k < d.length) (hs : k < (tieT d).size) : (tieT d)[k] = tieB d[k] := by
  show (tieT d).data[k] = _
  simp [tieT]
end Go.Proofs.YtheddpjaihhbdacGreat
