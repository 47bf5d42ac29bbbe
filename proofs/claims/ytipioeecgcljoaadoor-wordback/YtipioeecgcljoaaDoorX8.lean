/- Contract: package word's Lines. -/
import Derived.Test.YtipioeecgcljoaaDoorX7
import Derived.Test.YtipioeecgcljoaaDoorW10
namespace Go.Proofs.YtipioeecgcljoaaDoor
set_option linter.unusedVariables false
set_option linter.unusedSimpArgs false
set_option maxRecDepth 100000
open Go.RowKit

/-- A row of texts in a block of its own. -/
def sa (l : List ByteArray) : Array Value := (l.map Value.string).toArray
def RowS (w : World) (g : Nat) (l : List ByteArray) : Prop := w.heap[g]? = some (.cells (sa l) 9 (0, 0))
theorem sa_get (l : List ByteArray) (j : Nat) (h : j < l.length) : (sa l)[j]? = some (.string l[j]) := by simp [sa, h]
theorem RowS.cell {w : World} {g : Nat} {l : List ByteArray} (h : RowS w g l) (j : Nat) (hj : j < l.length) : w.cell? ⟨g, j, none⟩ = some (.string l[j]) := by
  rw [cell_of_row w g j (sa l) 9 (0, 0) h, sa_get l j hj]
theorem RowS.frozen {w : World} {g : Nat} {l : List ByteArray} (h : RowS w g l) (j : Nat) : w.frozen? ⟨g, j, none⟩ = false := frozen_of_row w g j (sa l) 9 h
theorem RowS.lt {w : World} {g : Nat} {l : List ByteArray} (h : RowS w g l) : g < w.heap.size := (Array.getElem?_eq_some_iff.1 h).1
theorem RowS.set {w : World} {g : Nat} {l : List ByteArray} (h : RowS w g l) (j : Nat) (y : ByteArray) : RowS (w.setCell ⟨g, j, none⟩ (.string y)) g (l.set j y) := by
  have := heap_setCell_same w g j (sa l) 9 (.string y) h
  show _ = _
  rw [this]
  simp [sa]
theorem RowS.later {w w' : World} {g : Nat} {l : List ByteArray} (h : RowS w g l) (hb : Below w.heap.size w w') : RowS w' g l := (hb.block g h.lt).trans h
theorem RowS.new (w : World) (l : List ByteArray) : RowS (w.alloc (.cells (sa l) 9)) w.heap.size l := heap_alloc_new w _
/-- The lines, the first k of them cut. -/
def mixL (P : List ByteArray) (k : Nat) : List ByteArray := (P.take k).map cutH ++ P.drop k
theorem mixL_len (P : List ByteArray) (k : Nat) : (mixL P k).length = P.length := by simp [mixL]; omega
theorem mixL_at (P : List ByteArray) (k : Nat) (h : k < P.length) (h2 : k < (mixL P k).length) : (mixL P k)[k] = P[k] := by
  simp only [mixL]
  rw [List.getElem_append_right (by simp; omega)]
  simp
  congr 1
  omega
theorem mixL_set (P : List ByteArray) (k : Nat) (h : k < P.length) : (mixL P k).set k (cutH P[k]) = mixL P (k + 1) := by
  have hl : ((P.take k).map cutH).length = k := by simp; omega
  rw [mixL, mixL, List.set_append_right _ _ (by omega), hl, Nat.sub_self, List.drop_eq_getElem_cons h, List.take_succ_eq_append_getElem h, List.set_cons_zero, List.map_append, List.append_assoc]
  rfl
theorem mixL_all (P : List ByteArray) : mixL P P.length = P.map cutH := by simp [mixL]
theorem mixL_zero (P : List ByteArray) : mixL P 0 = P := by simp [mixL]
theorem split_each (sep : ByteArray) : ∀ (k : Nat) (s : ByteArray), ∀ x ∈ Lib.splitB sep 0 k s, x.size ≤ s.size
  | 0, s, x, hx => by
    rw [Lib.splitB_zero] at hx
    simp at hx
    rw [hx]
    exact Nat.le_refl _
  | k + 1, s, x, hx => by
    rcases Lib.indexB_cases s sep with h | ⟨i, h, _⟩
    · rw [Lib.splitB_miss sep 0 (k + 1) s h] at hx
      simp at hx
      rw [hx]
      exact Nat.le_refl _
    · rw [Lib.splitB_hit sep 0 k s i h] at hx
      rcases List.mem_cons.1 hx with rfl | hx
      · rw [ByteArray.size_extract]; omega
      · have := split_each sep k _ x hx
        rw [ByteArray.size_extract] at this
        omega
theorem Holds.row {w : World} {g : Nat} {l : List ByteArray} (h : RowS w g l) (n c : Nat) (m : List ByteArray) (hn : m.length = n) (hm : ∀ j (h1 : j < m.length), ∃ h2 : j < l.length, l[j] = m[j]) : Holds w (.slice (some ⟨g, 0, none⟩) n c) m.length (cellsS m) := by
  refine ⟨_, c, by rw [hn], fun j u hu => ⟨g, 0, rfl, ?_⟩⟩
  rw [Nat.zero_add]
  have hj : j < m.length := by
    have := (List.getElem?_eq_some_iff.1 hu).1
    rw [cellsS_len] at this
    exact this
  rw [cellsS_at m j hj] at hu
  obtain ⟨h2, e⟩ := hm j hj
  rw [h.cell j h2, e]
  exact hu
set_option maxHeartbeats 8000000 in
theorem lines_long (s : ByteArray) (w : World) (h : 3000 < s.size) :
    Calls Tryd.prog 16 #[.string s] w fun e w' => e = .returned (.tuple #[.slice none 0 0, .int .i64 2]) ∧ w = w' := by
  have g1 : (3000 : Int) < ((s.size : Nat) : Int) := by omega
  go_enter Tryd.func16, Tryd.ntmps16
  go_wp2
  go_ret2
  exact ⟨rfl, rfl⟩
theorem split_to (s : ByteArray) (m : Int) (w : World) (hs : s.size ≤ 3000) (hm : w.cell? ⟨2, 0, none⟩ = some (.int .i64 m)) (P : List ByteArray) (hP : Lib.splitB nl 0 (Lib.countB s nl) s = P) :
    Calls Tryd.prog 30 #[.string s, .string ⟨#[10]⟩] w fun e w' => e = .returned (.slice (some ⟨w.heap.size, 0, none⟩) P.length P.length) ∧ w' = w.alloc (.cells (P.map Value.string).toArray 9) := by
  have h := Tryd.strings_Split s nl m w (by omega) hm (by decide)
  have hl := Lib.splitB_all nl (by decide) 0 (Lib.countB s nl) s rfl
  rw [hP] at h hl
  rw [← hl] at h
  exact h
theorem cut_to (x : ByteArray) (m : Int) (w : World) (hs : x.size ≤ 3000) (hm : w.cell? ⟨2, 0, none⟩ = some (.int .i64 m)) (y : ByteArray) (hy : cutH x = y) :
    Calls Tryd.prog 31 #[.string x, .string ⟨#[35]⟩] w fun e w' => (∃ u b, e = .returned (.tuple #[.string y, .string u, .bool b])) ∧ ∃ n, w' = w.drewN n := by
  refine (Tryd.strings_Cut x ⟨#[35]⟩ m w (by omega) hm).mono ?_
  rintro e w2 ⟨rfl, hn⟩
  exact ⟨⟨_, _, by rw [← hy, ← cut_hash]⟩, hn⟩
set_option maxHeartbeats 8000000 in
theorem lines_ok (s : ByteArray) (m : Int) (w : World) (h : s.size ≤ 3000) (hm : w.cell? ⟨2, 0, none⟩ = some (.int .i64 m)) :
    Calls Tryd.prog 16 #[.string s] w fun e w' => ∃ v, e = .returned (.tuple #[v, .int .i64 0]) ∧ Holds w' v (linesL s).length (cellsS (linesL s)) ∧ Below w.heap.size w w' := by
  have g1 : ¬ (3000 : Int) < ((s.size : Nat) : Int) := by omega
  obtain ⟨P, hP⟩ : ∃ P, Lib.splitB nl 0 (Lib.countB s nl) s = P := ⟨_, rfl⟩
  have HSP : Hid (∀ w : World, w.cell? ⟨2, 0, none⟩ = some (.int .i64 m) → Calls Tryd.prog 30 #[.string s, .string ⟨#[10]⟩] w fun e w' => e = .returned (.slice (some ⟨w.heap.size, 0, none⟩) P.length P.length) ∧ w' = w.alloc (.cells (P.map Value.string).toArray 9)) := fun w hm => split_to s m w h hm P hP
  have HL : Hid (linesL s = finL (P.map cutH)) := by show _ = _; rw [← hP]; exact linesL_split s
  have HM : Hid (w.cell? ⟨2, 0, none⟩ = some (.int .i64 m)) := hm
  have HPS : Hid (∀ x ∈ P, x.size ≤ 3000) := fun x hx => by
    rw [← hP] at hx
    have := split_each nl _ s x hx
    omega
  have hlen : P.length = Lib.countB s nl + 1 := by rw [← hP]; exact Lib.splitB_all nl (by decide) 0 _ s rfl
  have hcb := Lib.countB_le nl (by decide) s.size s (Nat.le_refl _)
  have hpl : 1 ≤ P.length ∧ P.length ≤ 3001 := by omega
  obtain ⟨hp1, hp2⟩ := hpl
  clear hP hm hlen hcb
  go_enter Tryd.func16, Tryd.ntmps16
  go_wp2_with (go_at_call 30; refine (HSP.out _ HM.out).mono ?_; rintro e w1 ⟨rfl, rfl⟩)
  obtain ⟨g, hg⟩ : ∃ g, w.heap.size = g := ⟨_, rfl⟩
  have HG : Hid (w.heap.size = g) := hg
  rw [hg]
  go_loopw [18] (fun i w' => ∃ (k : Nat), k ≤ P.length ∧ i = .int .i64 k ∧ Hid (RowS w' g (mixL P k)) ∧ Hid (Below w.heap.size w w')) (fun i _ => P.length - (intOf i).toNat)
  case atStart => exact ⟨0, Nat.zero_le _, rfl, by show RowS _ _ _; rw [mixL_zero, ← hg]; exact RowS.new w P, (Below.refl _ _).alloc (Nat.le_refl _) _⟩
  case round =>
    obtain ⟨k, hk, rfl, HR, HB⟩ := hrel
    have hml := mixL_len P k
    by_cases hlt : k < P.length
    · have hc := HR.out.cell k (by omega)
      rw [mixL_at P k hlt] at hc
      have hfz := HR.out.frozen k
      obtain ⟨x, hx⟩ : ∃ x, P[k] = x := ⟨_, rfl⟩
      have hxs := HPS.out x (by rw [← hx]; exact List.getElem_mem _)
      obtain ⟨y, hy⟩ : ∃ y, cutH x = y := ⟨_, rfl⟩
      have hys : y.size ≤ 3000 := by have h1 := cutN_le x; rw [← hy, cutH_size]; omega
      have HY : Hid (cutH P[k] = y) := by show _ = _; rw [hx, hy]
      have HCT : Hid (∀ w : World, w.cell? ⟨2, 0, none⟩ = some (.int .i64 m) → Calls Tryd.prog 31 #[.string x, .string ⟨#[35]⟩] w fun e w' => (∃ u b, e = .returned (.tuple #[.string y, .string u, .bool b])) ∧ ∃ n, w' = w.drewN n) := fun w hm => cut_to x m w hxs hm y hy
      have hmm := cell_later HB.out HM.out
      rw [hx] at hc
      clear hx hy
      go_wp2_with (first
        | (go_at_call 31; refine (HCT.out _ (cell_later HB.out HM.out)).mono ?_; rintro e w2 ⟨⟨u, b, rfl⟩, n, rfl⟩)
        | (go_at_call 32; refine (clone_to y _ (by omega)).mono ?_; rintro e w3 ⟨rfl, hb3⟩; have HR3 : Hid (RowS w3 g (mixL P k)) := RowS.later (w := wr.drewN n) HR.out hb3; have HB3 : Hid (Below w.heap.size w w3) := Below.after (drewNW HB.out n) hb3; have hc3 := HR3.out.cell k (by omega); have hf3 := HR3.out.frozen k; clear hb3))
      go_roundw
      case rel => exact ⟨k + 1, by omega, by go_num, by show RowS _ _ _; rw [← mixL_set P k hlt, HY.out]; exact HR3.out.set k y, HB3.out.setCell (by have := HG.out; simp; omega) _⟩
      case measure => simp [intOf]; omega
    · obtain rfl : k = P.length := by omega
      obtain ⟨q, hq⟩ : ∃ q, P.length = q + 1 := ⟨P.length - 1, by omega⟩
      obtain ⟨M, hM⟩ : ∃ M, P.map cutH = M := ⟨_, rfl⟩
      have HR2 : Hid (RowS wr g M) := by show RowS _ _ _; rw [← hM, ← mixL_all]; exact HR.out
      have hml2 : M.length = q + 1 := by rw [← hM, List.length_map, hq]
      have HLL : Hid (linesL s = finL M) := by show _ = _; rw [HL.out, hM]
      have hc := HR2.out.cell q (by omega)
      obtain ⟨z, hz⟩ : ∃ z, M[q]'(by omega) = z := ⟨_, rfl⟩
      have HF : Hid (M = M.take q ++ [z]) := by
        show _ = _
        rw [← hz, ← List.take_succ_eq_append_getElem (by omega), List.take_of_length_le (by omega)]
      have HF2 : Hid (finL M = if z.size = 0 then M.take q else M) := by
        have h := finL_snoc z (M.take q)
        rw [← HF.out] at h
        exact h
      have HML : Hid (M.length = q + 1) := hml2
      rw [hz] at hc
      have hq3 : q ≤ 3000 := by omega
      rw [hq]
      clear hz hM HR HL hml hml2 hlt hp1 hp2 hk hq HSP HPS
      by_cases hz0 : z.size = 0
      · have g7 : (z.toList == []) = true := by rw [Lib.toList_data, beq_iff_eq]; exact List.eq_nil_of_length_eq_zero (by rw [len_list]; exact hz0)
        have HE : Hid (linesL s = M.take q) := by show _ = _; rw [HLL.out, HF2.out, if_pos hz0]
        clear hz0
        go_wp2
        go_ret2
        exact ⟨_, rfl, by rw [HE.out]; exact Holds.row HR2.out q _ (M.take q) (by rw [List.length_take, HML.out]; omega) (fun j hj => ⟨by rw [List.length_take] at hj; omega, by rw [List.getElem_take]⟩), HB.out⟩
      · have g7 : (z.toList == []) = false := by rw [Lib.toList_data, beq_eq_false_iff_ne]; intro e; have := len_list z; rw [e] at this; simp at this; omega
        have HE : Hid (linesL s = M) := by show _ = _; rw [HLL.out, HF2.out, if_neg hz0]
        clear hz0
        go_wp2
        go_ret2
        exact ⟨_, rfl, by rw [HE.out]; exact Holds.row HR2.out (q + 1) _ M HML.out (fun j hj => ⟨hj, rfl⟩), HB.out⟩
theorem lines_to (s : ByteArray) (m : Int) (w : World) (hm : w.cell? ⟨2, 0, none⟩ = some (.int .i64 m)) :
    Calls Tryd.prog 16 #[.string s] w fun e w' => (∃ v, e = .returned (.tuple #[v, .int .i64 (if s.size ≤ 3000 then 0 else 2)]) ∧ Holds w' v (if s.size ≤ 3000 then linesL s else []).length (cellsS (if s.size ≤ 3000 then linesL s else []))) ∧ Below w.heap.size w w' := by
  by_cases h : s.size ≤ 3000
  · refine (lines_ok s m w h hm).mono ?_
    rintro e w2 ⟨v, rfl, hh, hb⟩
    exact ⟨⟨v, by rw [if_pos h], by rw [if_pos h]; exact hh⟩, hb⟩
  · refine (lines_long s w (by omega)).mono ?_
    rintro e w2 ⟨rfl, rfl⟩
    exact ⟨⟨_, by rw [if_neg h], by rw [if_neg h]; exact Holds.nil _⟩, Below.refl _ _⟩
end Go.Proofs.YtipioeecgcljoaaDoor
