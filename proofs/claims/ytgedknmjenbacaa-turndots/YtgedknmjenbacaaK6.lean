/- Contracts: CopyTensor, EqTensor; what is written over. -/
import Derived.Test.YtgedknmjenbacaaK5
namespace Go.Proofs.Ytgedknmjenbacaa
set_option linter.unusedVariables false
set_option linter.unusedSimpArgs false
open Go.RowKit

theorem copy_Own {v : Value} {d : List Int} {w : World} (h : Ints w v d) :
    Calls Try.prog 15 #[v] w fun e w' => ∃ v', e = .returned v' ∧ Own w' w.heap.size v' d ∧ Below w.heap.size w w' := by
  refine (copy_own h).mono ?_
  rintro e w' ⟨v', rfl, ho, hb⟩
  exact ⟨v', rfl, ⟨ho, h.len⟩, hb⟩
theorem Box.set0 {w : World} {B : Nat} {x y : Value} (h : Box w B x y) (u : Value) : Box (w.setCell ⟨B, 0, none⟩ u) B u y := by
  have h1 := heap_setCell_same w B 0 _ 31 u h
  show _ = _
  rw [h1]
  rfl
theorem Box.set1 {w : World} {B : Nat} {x y : Value} (h : Box w B x y) (u : Value) : Box (w.setCell ⟨B, 1, none⟩ u) B x u := by
  have h1 := heap_setCell_same w B 1 _ 31 u h
  show _ = _
  rw [h1]
  rfl

theorem Own.put {w : World} {B g n cap : Nat} {d : List Int} (h : Own w B (.slice (some ⟨g, 0, none⟩) n cap) d) (hn : d.length = n) (j : Nat) (hj : j < n) (x : Int) :
    w.cell? ⟨g, j, none⟩ = some (.int .i64 (d.getD j 0)) ∧ w.frozen? ⟨g, j, none⟩ = false ∧ Own (w.setCell ⟨g, j, none⟩ (.int .i64 x)) B (.slice (some ⟨g, 0, none⟩) n cap) (d.set j x) := by
  subst hn
  have h1 := h.row.cellAt j (by omega)
  have h2 := h.row.frozenAt j
  have h3 := (h.row.stored j (.int .i64 x)).1
  refine ⟨by rw [h1]; simp [hj], h2, ?_, by simpa using h.len⟩
  rw [List.map_set, List.length_set]
  exact h3

set_option maxHeartbeats 1000000 in
theorem copyT_any {a0 a1 : Value} {s : Ten} {w : World} (ha : Tens w a0 a1 s) :
    Calls Try.prog 7 #[.agg #[a0, a1]] w fun e w' => ∃ x0 x1, e = .returned (.agg #[x0, x1]) ∧ OwnT w' w.heap.size x0 x1 s ∧ Below w.heap.size w w' := by
  have hb : Below w.heap.size w (((w.alloc (.cells #[a0, a1] 31)).alloc (.cells #[.slice none 0 0, .slice none 0 0] 31)).alloc (.cells #[a0, a1] 31)) := (((Below.refl _ _).alloc (Nat.le_refl _) _).alloc (by simp) _).alloc (by simp; omega) _
  have HA : Hid (Tens (((w.alloc (.cells #[a0, a1] 31)).alloc (.cells #[.slice none 0 0, .slice none 0 0] 31)).alloc (.cells #[a0, a1] 31)) a0 a1 s) := ha.later hb
  have HB : Hid (Below w.heap.size w (((w.alloc (.cells #[a0, a1] 31)).alloc (.cells #[.slice none 0 0, .slice none 0 0] 31)).alloc (.cells #[a0, a1] 31))) := hb
  have HBA : Hid (Box (((w.alloc (.cells #[a0, a1] 31)).alloc (.cells #[.slice none 0 0, .slice none 0 0] 31)).alloc (.cells #[a0, a1] 31)) w.heap.size a0 a1) := ((Box.new w a0 a1).alloc _).alloc _
  have HBX : Hid (Box (((w.alloc (.cells #[a0, a1] 31)).alloc (.cells #[.slice none 0 0, .slice none 0 0] 31)).alloc (.cells #[a0, a1] 31)) (w.heap.size + 1) (.slice none 0 0) (.slice none 0 0)) := by
    have := (Box.new (w.alloc (.cells #[a0, a1] 31)) (.slice none 0 0) (.slice none 0 0)).alloc (.cells #[a0, a1] 31)
    simp only [World.size_alloc] at this
    exact this
  have HBT : Hid (Box (((w.alloc (.cells #[a0, a1] 31)).alloc (.cells #[.slice none 0 0, .slice none 0 0] 31)).alloc (.cells #[a0, a1] 31)) (w.heap.size + 1 + 1) a0 a1) := by
    have := Box.new ((w.alloc (.cells #[a0, a1] 31)).alloc (.cells #[.slice none 0 0, .slice none 0 0] 31)) a0 a1
    simp only [World.size_alloc] at this
    exact this
  have HA0 : Hid (Tens w a0 a1 s) := ha
  obtain ⟨aa, ac, rfl⟩ := ha.1.shape
  obtain ⟨ba, bc, rfl⟩ := ha.2.shape
  clear ha hb
  have hca0 := HBA.out.c0
  go_enter Try.func7, Try.ntmps7
  go_wp2_with fail
  refine (copy_Own HA.out.1).mono ?_
  rintro e w1 ⟨x0, rfl, ho0, hb1⟩
  simp only [World.size_alloc] at ho0
  have hs1 := hb1.size
  simp at hs1
  have hbt1 := HBT.out.later hb1
  have hba1 := (HBA.out.later hb1).other ⟨w.heap.size + 1 + 1, 0, none⟩ x0 (by simp; omega)
  have hbx1 := (HBX.out.later hb1).other ⟨w.heap.size + 1 + 1, 0, none⟩ x0 (by simp)
  have hbs1 := hbt1.set0 x0
  have hc0 := hbt1.c0
  have hc1 := hbt1.c1
  have hf0 := hbt1.f 0
  have hd1 := hba1.c1
  have HBX1 : Hid (Box (w1.setCell ⟨w.heap.size + 1 + 1, 0, none⟩ x0) (w.heap.size + 1) (.slice none 0 0) (.slice none 0 0)) := hbx1
  have HBS1 : Hid (Box (w1.setCell ⟨w.heap.size + 1 + 1, 0, none⟩ x0) (w.heap.size + 1 + 1) x0 (.slice ba s.2.length bc)) := hbs1
  have HO0 : Hid (Own (w1.setCell ⟨w.heap.size + 1 + 1, 0, none⟩ x0) (w.heap.size + 1 + 1 + 1) x0 s.1) := ho0.setCell _ _ (fun k hk => by have := ho0.frm k hk; simp; omega)
  have hbw : Below w.heap.size w (w1.setCell ⟨w.heap.size + 1 + 1, 0, none⟩ x0) := (Below.after HB.out hb1).setCell (by simp; omega) _
  have HBW : Hid (Below w.heap.size w (w1.setCell ⟨w.heap.size + 1 + 1, 0, none⟩ x0)) := hbw
  have hsz : (w1.setCell ⟨w.heap.size + 1 + 1, 0, none⟩ x0).heap.size = w1.heap.size := by simp
  obtain ⟨xa, xc, rfl⟩ := ho0.ints.shape
  clear ho0 hb1 hbt1 hba1 hbx1 hbs1 hbw
  go_wp2_with fail
  refine (copy_Own (HA0.out.2.later HBW.out)).mono ?_
  rintro e w2 ⟨x1, rfl, ho1, hb2⟩
  have hbs2 := HBS1.out.later hb2
  have hbx2 := HBX1.out.later hb2
  have HAP : Hid (∀ k, (Value.slice xa s.1.length xc).ownBlock = some k → x1.ownBlock ≠ some k) := fun k hk hk1 => by
    have h1 := HO0.out.lt k hk
    have h2 := ho1.frm k hk1
    omega
  have HO1 : Hid (Own w2 (w.heap.size + 1 + 1 + 1) x1 s.2) := ho1.mono (by rw [hsz]; omega)
  have HO2 : Hid (Own w2 (w.heap.size + 1 + 1 + 1) (.slice xa s.1.length xc) s.1) := HO0.out.later hb2
  have HBW2 : Hid (Below w.heap.size w w2) := Below.after HBW.out hb2
  obtain ⟨ya, yc, rfl⟩ := ho1.ints.shape
  have e0 := hbs2.c0
  have e1 := hbs2.c1
  have g1 := hbs2.f 1
  have hbs3 := hbs2.set1 (.slice ya s.2.length yc)
  have k0 := hbs3.c0
  have k1 := hbs3.c1
  have hbx3 := hbx2.other ⟨w.heap.size + 1 + 1, 1, none⟩ (.slice ya s.2.length yc) (by simp)
  have l0 := hbx3.c0
  have l1 := hbx3.c1
  have m0 := hbx3.f 0
  have m1 := hbx3.f 1
  have HBS : Hid (Box _ _ _ _) := hbx3.set (.slice xa s.1.length xc) (.slice ya s.2.length yc)
  clear ho1 hb2 hbs2 hbx2 hbs3 hbx3 hsz
  go_wp2
  have hr0 := HBS.out.c0
  have hr1 := HBS.out.c1
  refine bodyPost_ret (v := .agg #[.slice xa s.1.length xc, .slice ya s.2.length yc]) (by simp [results, Try.results7, go_sem, hr0, hr1]) rfl ⟨_, _, rfl, ?_, ?_⟩
  · have h1 : OwnT w2 (w.heap.size + 1 + 1 + 1) (.slice xa s.1.length xc) (.slice ya s.2.length yc) s := ⟨HO2.out, HO1.out, HAP.out⟩
    exact (((h1.setCell _ _ (by simp)).setCell _ _ (by simp)).setCell _ _ (by simp)).mono (by omega)
  · exact ((HBW2.out.setCell (by simp; omega) _).setCell (by simp) _).setCell (by simp) _

theorem eqt_to {v0 v1 u0 u1 : Value} {s t : Ten} {w : World} (h : Tens w v0 v1 s) (k : Tens w u0 u1 t) (e : s = t) :
    Calls Try.prog 12 #[.agg #[v0, v1], .agg #[u0, u1]] w fun e w' => e = .returned (.bool true) ∧ Below w.heap.size w w' := by
  subst e
  exact eqt_true h.1 h.2 k.1 k.2

/-- A list that may be written over, whatever it holds. -/
def Wr (w : World) (B : Nat) (v : Value) : Prop := v = .slice none 0 0 ∨ ∃ (g n cap : Nat) (cur : Array Value), v = .slice (some ⟨g, 0, none⟩) n cap ∧ B ≤ g ∧ n ≤ cap ∧ n ≤ big ∧ w.heap[g]? = some (.cells cur 3 (0, 0)) ∧ n ≤ cur.size
theorem Wr.setCell {w : World} {B : Nat} {v : Value} (h : Wr w B v) (k j : Nat) (u : Value) : Wr (w.setCell ⟨k, j, none⟩ u) B v := by
  rcases h with h | ⟨g, n, cap, cur, rfl, h1, h2, h3, h4, h5⟩
  · exact Or.inl h
  · by_cases e : g = k
    · subst e
      exact Or.inr ⟨g, n, cap, _, rfl, h1, h2, h3, heap_setCell_same w g j cur 3 u h4, by simpa using h5⟩
    · exact Or.inr ⟨g, n, cap, cur, rfl, h1, h2, h3, (heap_setCell_other w _ g u e).trans h4, h5⟩
theorem Wr.alloc {w : World} {B : Nat} {v : Value} (h : Wr w B v) (o : Obj) : Wr (w.alloc o) B v := by
  rcases h with h | ⟨g, n, cap, cur, rfl, h1, h2, h3, h4, h5⟩
  · exact Or.inl h
  · exact Or.inr ⟨g, n, cap, cur, rfl, h1, h2, h3, (Below.heap_alloc w o g (Array.getElem?_eq_some_iff.1 h4).1).trans h4, h5⟩
theorem Own.wr {w : World} {B : Nat} {v : Value} {d : List Int} (h : Own w B v d) : Wr w B v := by
  have hl := h.len
  rcases h.row.2 with ⟨h0, _⟩ | ⟨g, cap, cur, rfl, hb, hh, h1, h2, h3, h4⟩
  · exact Or.inl h0
  · exact Or.inr ⟨g, _, cap, cur, rfl, hb, h1, hl, hh, by omega⟩

set_option maxHeartbeats 400000 in
theorem numbers_any {w : World} {B : Nat} {v : Value} (h : Wr w B v) :
    Calls Try.prog 36 #[v] w fun e w' => e = .returned (.tuple #[]) ∧ Below B w w' ∧ (∀ u, Wr w B u → Wr w' B u) ∧ ∀ k, v.ownBlock ≠ some k → w'.heap[k]? = w.heap[k]? := by
  rcases h with rfl | ⟨g, n, cap, cur, rfl, hg, hcap, hl, hh, hcs⟩
  · go_enter Try.func36, Try.ntmps36
    go_wp2
    refine wp_loop_rounds 1 ?_
    rw [rounds_succ]
    go_wp2
    go_end0
    exact ⟨rfl, Below.refl _ _, fun _ h => h, fun _ _ => rfl⟩
  unfold big at hl
  have HH : Hid (w.heap[g]? = some (.cells cur 3 (0, 0))) := hh
  have HCS : Hid (n ≤ cur.size) := hcs
  clear hh hcs
  go_enter Try.func36, Try.ntmps36
  go_wp2
  go_loopw [2] (fun i w' => ∃ (j : Nat) (c : Array Value), j ≤ n ∧ i = .int .i64 j ∧ n ≤ c.size ∧ w'.heap[g]? = some (.cells c 3 (0, 0)) ∧ Below B w w' ∧ (∀ u, Wr w B u → Wr w' B u) ∧ ∀ k, k ≠ g → w'.heap[k]? = w.heap[k]?) (fun i _ => n - (intOf i).toNat)
  case atStart => exact ⟨0, cur, by omega, rfl, HCS.out, HH.out, Below.refl _ _, fun _ h => h, fun _ _ => rfl⟩
  case round =>
    obtain ⟨j, c, hj, rfl, hc, hh, hb, hw, ho⟩ := hrel
    have HO1 : Hid (∀ k, k ≠ g → wr.heap[k]? = w.heap[k]?) := ho
    have HH1 : Hid (wr.heap[g]? = some (.cells c 3 (0, 0))) := hh
    have HB1 : Hid (Below B w wr) := hb
    have HC1 : Hid (n ≤ c.size) := hc
    have HW1 : Hid (∀ u, Wr w B u → Wr wr B u) := hw
    clear hh hb hw hc ho
    by_cases hlt : j < n
    · have hf := frozen_of_row wr g j c 3 HH1.out
      obtain ⟨y, hcy⟩ : ∃ y, wr.cell? ⟨g, j, none⟩ = some y := by
        rw [cell_of_row wr g j c 3 (0, 0) HH1.out]
        have := HC1.out
        exact ⟨c[j]'(by omega), by simp⟩
      go_wp2
      refine ⟨⟨j + 1, _, by omega, by go_num, ?_, heap_setCell_same wr g j c 3 (.int .i64 (-99)) HH1.out, HB1.out.setCell hg _, fun u hu => (HW1.out u hu).setCell _ _ _, fun k hk => (heap_setCell_other wr _ k _ hk).trans (HO1.out k hk)⟩, by simp [intOf]; omega⟩
      simpa using HC1.out
    · go_wp2
      go_end0
      exact ⟨rfl, HB1.out, HW1.out, fun k hk => HO1.out k (fun e => hk (by rw [e]; rfl))⟩

set_option maxHeartbeats 400000 in
theorem spoil_any {w : World} {B : Nat} {v0 v1 : Value} {t : Ten} (h : OwnT w B v0 v1 t) (hB : B ≤ w.heap.size) :
    Calls Try.prog 13 #[.agg #[v0, v1]] w fun e w' => e = .returned (.tuple #[]) ∧ Below B w w' := by
  have HB : Hid (Below B w (w.alloc (.cells #[v0, v1] 31))) := (Below.refl _ _).alloc hB _
  have H0 : Hid (Wr (w.alloc (.cells #[v0, v1] 31)) B v0) := h.dims.wr.alloc _
  have H1 : Hid (Wr (w.alloc (.cells #[v0, v1] 31)) B v1) := h.data.wr.alloc _
  have HN0 : Hid (∀ k, v0.ownBlock = some k → k < w.heap.size) := h.dims.lt
  have HBX : Hid (Box (w.alloc (.cells #[v0, v1] 31)) w.heap.size v0 v1) := Box.new w v0 v1
  obtain ⟨xa, xc, rfl⟩ := h.dims.ints.shape
  obtain ⟨ya, yc, rfl⟩ := h.data.ints.shape
  clear h
  go_enter Try.func13, Try.ntmps13
  go_wp2_with fail
  refine (numbers_any H0.out).mono ?_
  rintro e w1 ⟨rfl, hb1, hw1, ho1⟩
  have HW1 : Hid (Wr w1 B (.slice ya t.2.length yc)) := hw1 _ H1.out
  have HB1 : Hid (Below B w w1) := HB.out.trans hb1
  have hbx1 : Box w1 w.heap.size _ _ := (ho1 w.heap.size (fun e => absurd (HN0.out _ e) (Nat.lt_irrefl _))).trans HBX.out
  have hc1 := hbx1.c1
  clear hb1 hw1 ho1 hbx1
  go_wp2_with fail
  refine (numbers_any HW1.out).mono ?_
  rintro e w2 ⟨rfl, hb2, _, _⟩
  have HB2 : Hid (Below B w w2) := HB1.out.trans hb2
  clear hb2
  go_wp2
  go_end0
  exact ⟨rfl, HB2.out⟩
end Go.Proofs.Ytgedknmjenbacaa
