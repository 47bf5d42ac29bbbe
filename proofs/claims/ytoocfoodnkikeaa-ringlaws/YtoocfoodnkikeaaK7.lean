/- Contracts of the page: Each, Scale. -/
import Derived.Test.YtoocfoodnkikeaaK6
import Derived.Deep.RegionHeld3
namespace Go.Proofs.Ytoocfoodnkikeaa
set_option linter.unusedVariables false
set_option linter.unusedSimpArgs false
open Go.RowKit

/-- All blocks but g are as they were. -/
structure But (g : Nat) (w w' : World) : Prop where
  os : w'.os = w.os
  tape : w'.tape = w.tape
  output : w'.output = w.output
  size : w'.heap.size = w.heap.size
  block : ∀ k, k ≠ g → w'.heap[k]? = w.heap[k]?
theorem But.refl (g : Nat) (w : World) : But g w w := ⟨rfl, rfl, rfl, rfl, fun _ _ => rfl⟩
theorem But.below {g N : Nat} {w0 w w' : World} (h : But g w w') (hb : Below N w0 w) (hN : N ≤ g) : Below N w0 w' :=
  hb.trans ⟨h.os, h.tape, h.output, by rw [h.size]; exact Nat.le_refl _, fun k hk => h.block k (by omega)⟩
theorem But.setCell {g j : Nat} {w w' : World} (h : But g w w') (u : Value) : But g w (w'.setCell ⟨g, j, none⟩ u) :=
  ⟨h.os, h.tape, h.output, by rw [← h.size]; simp, fun k hk => (heap_setCell_other _ _ _ _ hk).trans (h.block k hk)⟩
theorem But.drew {g : Nat} {w w' : World} (h : But g w w') : But g w w'.drew := ⟨h.os, h.tape, h.output, h.size, h.block⟩
theorem But.drewN {g : Nat} {w w' : World} (h : But g w w') (n : Nat) : But g w (w'.drewN n) := ⟨h.os, h.tape, h.output, h.size, h.block⟩
theorem But.box {g : Nat} {w w' : World} (h : But g w w') {B : Nat} {x y : Value} (hb : Box w B x y) (hB : B ≠ g) : Box w' B x y := (h.block B hB).trans hb
theorem But.cell {g : Nat} {w w' : World} {p : Addr} (h : But g w w') (hp : p.block ≠ g) : w'.cell? p = w.cell? p := World.cell?_of_block (w := w) (h.block p.block hp)
theorem Own.drewN {w : World} {B : Nat} {v : Value} {d : List Int} (h : Own w B v d) (n : Nat) : Own (w.drewN n) B v d := h.at fun _ _ => rfl
theorem Own.drew {w : World} {B : Nat} {v : Value} {d : List Int} (h : Own w B v d) : Own w.drew B v d := h.at fun _ _ => rfl
/-- l, its first j numbers by F. -/
def mix (F : Nat → Int) (l : List Int) (j : Nat) : List Int := (List.range l.length).map fun i => if i < j then F i else l.getD i 0
theorem mix_length (F : Nat → Int) (l : List Int) (j : Nat) : (mix F l j).length = l.length := by simp [mix]
theorem mix_zero (F : Nat → Int) (l : List Int) : mix F l 0 = l := by
  apply List.ext_getElem
  · simp [mix]
  · intro i h1 h2; simp [mix, h2]
theorem mix_set (F : Nat → Int) (l : List Int) (j : Nat) : (mix F l j).set j (F j) = mix F l (j + 1) := by
  apply List.ext_getElem
  · simp [mix]
  · intro i h1 h2
    simp only [List.getElem_set, mix, List.getElem_map, List.getElem_range]
    by_cases e : j = i
    · subst e; simp
    · rw [if_neg e]
      by_cases h : i < j
      · simp [h, show i < j + 1 from by omega]
      · simp [h, show ¬ i < j + 1 from by omega]
theorem mix_get (F : Nat → Int) (l : List Int) (j : Nat) (h : j < l.length) : (mix F l j).getD j 0 = l.getD j 0 := by simp [mix, h]
theorem mix_zip (op : Int → Int → Int) (a b : List Int) (h : b.length = a.length) : mix (fun i => op (a.getD i 0) (b.getD i 0)) a a.length = List.zipWith op a b := by
  apply List.ext_getElem
  · simp [mix]; omega
  · intro i h1 h2
    have h3 : i < a.length := by simpa [mix] using h1
    have h4 : i < b.length := by omega
    simp [mix, h3, h4]
theorem mix_map (f : Int → Int) (a : List Int) : mix (fun i => f (a.getD i 0)) a a.length = a.map f := by
  apply List.ext_getElem
  · simp [mix]
  · intro i h1 h2
    have h3 : i < a.length := by simpa [mix] using h1
    simp [mix, h3]
theorem Ints.cellD {w : World} {b off n c : Nat} {d : List Int} (HC : Hid (∀ i (h : i < d.length), w.cell? ⟨b, off + i, none⟩ = some (.int .i64 d[i]))) (i : Nat) (h : i < d.length) : w.cell? ⟨b, off + i, none⟩ = some (.int .i64 (d.getD i 0)) := by
  rw [show d.getD i 0 = d[i] by simp [h]]
  exact HC.out i h

set_option maxHeartbeats 4000000 in
theorem reach_add {a0 a1 b0 b1 : Value} {s t : Ten} {w : World} (ha : Tens w a0 a1 s) (hb' : Tens w b0 b1 t) (hlen : t.2.length = s.2.length) (hpos : 1 ≤ s.2.length) (h64 : s.2.length ≤ 64) :
    Calls Try.prog 15 #[.agg #[a0, a1], .agg #[b0, b1], .int .i64 0] w fun e w' => ∃ x0 x1, e = .returned (.agg #[x0, x1]) ∧ OwnT w' w.heap.size x0 x1 (s.1, List.zipWith (fun x y => wrap64 (x + y)) s.2 t.2) ∧ Below w.heap.size w w' := by
  have hb : Below w.heap.size w (((w.alloc (.cells #[a0, a1] 28)).alloc (.cells #[b0, b1] 28)).alloc (.cells #[.slice none 0 0, .slice none 0 0] 28)) := (((Below.refl _ _).alloc (Nat.le_refl _) _).alloc (by simp) _).alloc (by simp; omega) _
  have HB : Hid (Below w.heap.size w (((w.alloc (.cells #[a0, a1] 28)).alloc (.cells #[b0, b1] 28)).alloc (.cells #[.slice none 0 0, .slice none 0 0] 28))) := hb
  have HA : Hid (Tens (((w.alloc (.cells #[a0, a1] 28)).alloc (.cells #[b0, b1] 28)).alloc (.cells #[.slice none 0 0, .slice none 0 0] 28)) a0 a1 s) := ha.later hb
  have HBA : Hid (Box (((w.alloc (.cells #[a0, a1] 28)).alloc (.cells #[b0, b1] 28)).alloc (.cells #[.slice none 0 0, .slice none 0 0] 28)) w.heap.size a0 a1) := ((Box.new w a0 a1).alloc _).alloc _
  have HBB : Hid (Box (((w.alloc (.cells #[a0, a1] 28)).alloc (.cells #[b0, b1] 28)).alloc (.cells #[.slice none 0 0, .slice none 0 0] 28)) (w.heap.size + 1) b0 b1) := by
    have := (Box.new (w.alloc (.cells #[a0, a1] 28)) b0 b1).alloc (.cells #[.slice none 0 0, .slice none 0 0] 28)
    simp only [World.size_alloc] at this
    exact this
  have HBX : Hid (Box (((w.alloc (.cells #[a0, a1] 28)).alloc (.cells #[b0, b1] 28)).alloc (.cells #[.slice none 0 0, .slice none 0 0] 28)) (w.heap.size + 1 + 1) (.slice none 0 0) (.slice none 0 0)) := by
    have := Box.new ((w.alloc (.cells #[a0, a1] 28)).alloc (.cells #[b0, b1] 28)) (.slice none 0 0) (.slice none 0 0)
    simp only [World.size_alloc] at this
    exact this
  rcases ha.2.cases with ⟨e, _⟩ | ⟨ab, ao, ac, ea, _, ha1, _, HCA⟩
  · rw [e] at hpos; simp at hpos
  rcases hb'.2.cases with ⟨e, _⟩ | ⟨bb, bo, bc, eb, _, hb1, _, HCB⟩
  · rw [e] at hlen; simp at hlen; omega
  obtain ⟨n, hn⟩ : ∃ n : Nat, s.2.length = n := ⟨_, rfl⟩
  have HN : Hid (s.2.length = n) := hn
  have HN2 : Hid (t.2.length = n) := by show _ = _; omega
  have hn1 : 1 ≤ n := by omega
  have hn64 : n ≤ 64 := by omega
  have hab : ab < w.heap.size := World.block_lt_of_cell? _ _ (HCA.out 0 (by omega))
  have hbb : bb < w.heap.size := World.block_lt_of_cell? _ _ (HCB.out 0 (by omega))
  rw [hn] at ea ha1
  rw [hlen, hn] at eb hb1
  subst ea eb
  have HCA1 : Hid (∀ i, i < n → w.cell? ⟨ab, ao + i, none⟩ = some (.int .i64 (s.2.getD i 0))) := fun i h => Ints.cellD (n := 0) (c := 0) HCA i (by have := HN.out; omega)
  have HCB1 : Hid (∀ i, i < n → w.cell? ⟨bb, bo + i, none⟩ = some (.int .i64 (t.2.getD i 0))) := fun i h => Ints.cellD (n := 0) (c := 0) HCB i (by have := HN2.out; omega)
  clear ha hb' hb hlen hpos h64 hn HCA HCB
  go_enter Try.func15, Try.ntmps15
  go_wp2_with fail
  refine (copyT_any HA.out).mono ?_
  rintro e w1 ⟨x0, x1, rfl, ho, hb1'⟩
  simp only [World.size_alloc] at ho
  have hs1 := hb1'.size
  simp at hs1
  have HB1 : Hid (Below w.heap.size w w1) := Below.after HB.out hb1'
  obtain ⟨g, cap, ex⟩ := Joins.ownsRow_form ho.data.row (by have := HN.out; omega)
  have hgl := ho.data.lt
  have hgf := ho.data.frm
  have hcl : n ≤ cap := by
    rcases ho.data.row.2 with ⟨h0, _⟩ | ⟨g', cap', cur, he, _, _, h1, _⟩
    · rw [ex] at h0; simp at h0
    · rw [ex] at he
      simp only [Value.slice.injEq, Option.some.injEq, Addr.mk.injEq, and_true, true_and] at he
      have := HN.out
      omega
  subst ex
  have hg1 := hgl g rfl
  have hg2 := hgf g rfl
  have HO0 : Hid (Own w1 (w.heap.size + 1 + 1 + 1) x0 s.1) := ho.dims
  have HO1 : Hid (Own w1 (w.heap.size + 1 + 1 + 1) (.slice (some ⟨g, 0, none⟩) s.2.length cap) s.2) := ho.data
  have HOD : Hid (OwnT w1 (w.heap.size + 1 + 1 + 1) x0 (.slice (some ⟨g, 0, none⟩) s.2.length cap) s) := ho
  obtain ⟨xa, xc, rfl⟩ := ho.dims.ints.shape
  have HBA1 := HBA.out.later hb1'
  have HBB1 := HBB.out.later hb1'
  have HBX1 := HBX.out.later hb1'
  clear ho hb1' hgl hgf
  rw [HN.out]
  rw [HN.out] at HO1
  go_wp2
  have HOS : Hid (Own (w1.alloc (.cells #[.slice xa s.1.length xc, .slice (some ⟨g, 0, none⟩) n cap] 28)) (w.heap.size + 1 + 1 + 1) (.slice (some ⟨g, 0, none⟩) n cap) (mix (fun i => (fun x y => wrap64 (x + y)) (s.2.getD i 0) (t.2.getD i 0)) s.2 0)) := by
    show Own _ _ _ _
    rw [mix_zero]
    exact HO1.out.later ((Below.refl _ _).alloc (Nat.le_refl _) _)
  have HBAV : Hid (Box (w1.alloc (.cells #[.slice xa s.1.length xc, .slice (some ⟨g, 0, none⟩) n cap] 28)) w.heap.size _ _) := HBA1.alloc _
  have HBBV : Hid (Box (w1.alloc (.cells #[.slice xa s.1.length xc, .slice (some ⟨g, 0, none⟩) n cap] 28)) (w.heap.size + 1) _ _) := HBB1.alloc _
  have HBXV : Hid (Box (w1.alloc (.cells #[.slice xa s.1.length xc, .slice (some ⟨g, 0, none⟩) n cap] 28)) (w.heap.size + 1 + 1) _ _) := HBX1.alloc _
  have HBTV : Hid (Box (w1.alloc (.cells #[.slice xa s.1.length xc, .slice (some ⟨g, 0, none⟩) n cap] 28)) w1.heap.size _ _) := Box.new w1 (.slice xa s.1.length xc) (.slice (some ⟨g, 0, none⟩) n cap)
  have HBV : Hid (Below w.heap.size w (w1.alloc (.cells #[.slice xa s.1.length xc, .slice (some ⟨g, 0, none⟩) n cap] 28))) := HB1.out.alloc (by omega) _
  have hsv : (w1.alloc (.cells #[.slice xa s.1.length xc, .slice (some ⟨g, 0, none⟩) n cap] 28)).heap.size = w1.heap.size + 1 := by simp
  have HO0V : Hid (Own (w1.alloc (.cells #[.slice xa s.1.length xc, .slice (some ⟨g, 0, none⟩) n cap] 28)) (w.heap.size + 1 + 1 + 1) (.slice xa s.1.length xc) s.1) := HO0.out.later ((Below.refl _ _).alloc (Nat.le_refl _) _)
  generalize (w1.alloc (.cells #[.slice xa s.1.length xc, .slice (some ⟨g, 0, none⟩) n cap] 28)) = V at HOS HBAV HBBV HBXV HBTV HBV hsv HO0V ⊢
  clear HBA1 HBB1 HBX1 HO1 HO0
  go_loopw [8] (fun i w' => ∃ j : Nat, j ≤ n ∧ i = .int .i64 j ∧ Own w' (w.heap.size + 1 + 1 + 1) (.slice (some ⟨g, 0, none⟩) n cap) (mix (fun i => (fun x y => wrap64 (x + y)) (s.2.getD i 0) (t.2.getD i 0)) s.2 j) ∧ But g V w') (fun i _ => n - (intOf i).toNat)
  case atStart => exact ⟨0, by omega, rfl, HOS.out, But.refl _ _⟩
  case round =>
    obtain ⟨j, hj, rfl, hO, hbut⟩ := hrel
    have HO3 : Hid (Own wr (w.heap.size + 1 + 1 + 1) (.slice (some ⟨g, 0, none⟩) n cap) (mix (fun i => (fun x y => wrap64 (x + y)) (s.2.getD i 0) (t.2.getD i 0)) s.2 j)) := hO
    have HBT3 : Hid (But g V wr) := hbut
    have hct := (hbut.box HBTV.out (by omega)).c1
    have hct0 := (hbut.box HBTV.out (by omega)).c0
    clear hO hbut
    by_cases hlt : j < n
    · have hca := (HBT3.out.box HBAV.out (by omega)).c1
      have hcb := (HBT3.out.box HBBV.out (by omega)).c1
      have hx : wr.cell? ⟨ab, ao + j, none⟩ = some (.int .i64 (s.2.getD j 0)) := (HBT3.out.cell (by simp; omega)).trans ((HBV.out.cell (by simp; omega)).trans (HCA1.out j hlt))
      have hy : wr.cell? ⟨bb, bo + j, none⟩ = some (.int .i64 (t.2.getD j 0)) := (HBT3.out.cell (by simp; omega)).trans ((HBV.out.cell (by simp; omega)).trans (HCB1.out j hlt))
      obtain ⟨hc, hf, hp⟩ := HO3.out.put (by rw [mix_length]; exact HN.out) j hlt ((fun x y => wrap64 (x + y)) (s.2.getD j 0) (t.2.getD j 0))
      have HP : Hid (Own (wr.setCell ⟨g, j, none⟩ (.int .i64 ((fun x y => wrap64 (x + y)) (s.2.getD j 0) (t.2.getD j 0)))) (w.heap.size + 1 + 1 + 1) (.slice (some ⟨g, 0, none⟩) n cap) (mix (fun i => (fun x y => wrap64 (x + y)) (s.2.getD i 0) (t.2.getD i 0)) s.2 (j + 1))) := by
        rw [mix_set (fun i => (fun x y => wrap64 (x + y)) (s.2.getD i 0) (t.2.getD i 0))] at hp
        exact hp
      clear hp
      have hlt0 : (0 : Int) ≤ (j : Int) := by omega
      have hlt1 : (j : Int) < n := by omega
      go_wp2
      go_region
      go_wp2
      go_roundw
      case rel => exact ⟨j + 1, by omega, by go_num, HP.out.drew, (HBT3.out.setCell _).drew⟩
      case measure => simp [intOf]; omega
    · have hj' : j = n := by omega
      subst hj'
      have hbx := HBT3.out.box HBXV.out (by omega)
      have l0 := hbx.c0
      have l1 := hbx.c1
      have m0 := hbx.f 0
      have m1 := hbx.f 1
      have HBS : Hid (Box _ _ _ _) := hbx.set (.slice xa s.1.length xc) (.slice (some ⟨g, 0, none⟩) j cap)
      have HO4 : Hid (Own wr (w.heap.size + 1 + 1 + 1) (.slice (some ⟨g, 0, none⟩) j cap) (List.zipWith (fun x y => wrap64 (x + y)) s.2 t.2)) := by
        have h1 := HO3.out
        have h2 := mix_zip (fun x y => wrap64 (x + y)) s.2 t.2 (by rw [HN.out, HN2.out])
        rw [HN.out] at h2
        rw [h2] at h1
        exact h1
      have HO5 : Hid (Own wr (w.heap.size + 1 + 1 + 1) (.slice xa s.1.length xc) s.1) := HO0V.out.at fun k hk => HBT3.out.block k (fun e => HOD.out.apart k hk (by rw [e]; rfl))
      have HBE : Hid (Below w.heap.size w wr) := HBT3.out.below HBV.out (by omega)
      clear hbx
      go_wp2
      have hr0 := HBS.out.c0
      have hr1 := HBS.out.c1
      refine bodyPost_ret (v := .agg #[.slice xa s.1.length xc, .slice (some ⟨g, 0, none⟩) j cap]) (by simp [results, Try.results15, go_sem, hr0, hr1]) rfl ⟨_, _, rfl, ?_, ?_⟩
      · have h1 : OwnT wr (w.heap.size + 1 + 1 + 1) (.slice xa s.1.length xc) (.slice (some ⟨g, 0, none⟩) j cap) (s.1, List.zipWith (fun x y => wrap64 (x + y)) s.2 t.2) := ⟨HO5.out, HO4.out, fun k hk e => HOD.out.apart k hk e⟩
        exact ((h1.setCell _ _ (by simp)).setCell _ _ (by simp)).mono (by omega)
      · exact (HBE.out.setCell (by simp; omega) _).setCell (by simp; omega) _

set_option maxHeartbeats 4000000 in
theorem reach_sub {a0 a1 b0 b1 : Value} {s t : Ten} {w : World} (ha : Tens w a0 a1 s) (hb' : Tens w b0 b1 t) (hlen : t.2.length = s.2.length) (hpos : 1 ≤ s.2.length) (h64 : s.2.length ≤ 64) :
    Calls Try.prog 15 #[.agg #[a0, a1], .agg #[b0, b1], .int .i64 1] w fun e w' => ∃ x0 x1, e = .returned (.agg #[x0, x1]) ∧ OwnT w' w.heap.size x0 x1 (s.1, List.zipWith (fun x y => wrap64 (x - y)) s.2 t.2) ∧ Below w.heap.size w w' := by
  have hb : Below w.heap.size w (((w.alloc (.cells #[a0, a1] 28)).alloc (.cells #[b0, b1] 28)).alloc (.cells #[.slice none 0 0, .slice none 0 0] 28)) := (((Below.refl _ _).alloc (Nat.le_refl _) _).alloc (by simp) _).alloc (by simp; omega) _
  have HB : Hid (Below w.heap.size w (((w.alloc (.cells #[a0, a1] 28)).alloc (.cells #[b0, b1] 28)).alloc (.cells #[.slice none 0 0, .slice none 0 0] 28))) := hb
  have HA : Hid (Tens (((w.alloc (.cells #[a0, a1] 28)).alloc (.cells #[b0, b1] 28)).alloc (.cells #[.slice none 0 0, .slice none 0 0] 28)) a0 a1 s) := ha.later hb
  have HBA : Hid (Box (((w.alloc (.cells #[a0, a1] 28)).alloc (.cells #[b0, b1] 28)).alloc (.cells #[.slice none 0 0, .slice none 0 0] 28)) w.heap.size a0 a1) := ((Box.new w a0 a1).alloc _).alloc _
  have HBB : Hid (Box (((w.alloc (.cells #[a0, a1] 28)).alloc (.cells #[b0, b1] 28)).alloc (.cells #[.slice none 0 0, .slice none 0 0] 28)) (w.heap.size + 1) b0 b1) := by
    have := (Box.new (w.alloc (.cells #[a0, a1] 28)) b0 b1).alloc (.cells #[.slice none 0 0, .slice none 0 0] 28)
    simp only [World.size_alloc] at this
    exact this
  have HBX : Hid (Box (((w.alloc (.cells #[a0, a1] 28)).alloc (.cells #[b0, b1] 28)).alloc (.cells #[.slice none 0 0, .slice none 0 0] 28)) (w.heap.size + 1 + 1) (.slice none 0 0) (.slice none 0 0)) := by
    have := Box.new ((w.alloc (.cells #[a0, a1] 28)).alloc (.cells #[b0, b1] 28)) (.slice none 0 0) (.slice none 0 0)
    simp only [World.size_alloc] at this
    exact this
  rcases ha.2.cases with ⟨e, _⟩ | ⟨ab, ao, ac, ea, _, ha1, _, HCA⟩
  · rw [e] at hpos; simp at hpos
  rcases hb'.2.cases with ⟨e, _⟩ | ⟨bb, bo, bc, eb, _, hb1, _, HCB⟩
  · rw [e] at hlen; simp at hlen; omega
  obtain ⟨n, hn⟩ : ∃ n : Nat, s.2.length = n := ⟨_, rfl⟩
  have HN : Hid (s.2.length = n) := hn
  have HN2 : Hid (t.2.length = n) := by show _ = _; omega
  have hn1 : 1 ≤ n := by omega
  have hn64 : n ≤ 64 := by omega
  have hab : ab < w.heap.size := World.block_lt_of_cell? _ _ (HCA.out 0 (by omega))
  have hbb : bb < w.heap.size := World.block_lt_of_cell? _ _ (HCB.out 0 (by omega))
  rw [hn] at ea ha1
  rw [hlen, hn] at eb hb1
  subst ea eb
  have HCA1 : Hid (∀ i, i < n → w.cell? ⟨ab, ao + i, none⟩ = some (.int .i64 (s.2.getD i 0))) := fun i h => Ints.cellD (n := 0) (c := 0) HCA i (by have := HN.out; omega)
  have HCB1 : Hid (∀ i, i < n → w.cell? ⟨bb, bo + i, none⟩ = some (.int .i64 (t.2.getD i 0))) := fun i h => Ints.cellD (n := 0) (c := 0) HCB i (by have := HN2.out; omega)
  clear ha hb' hb hlen hpos h64 hn HCA HCB
  go_enter Try.func15, Try.ntmps15
  go_wp2_with fail
  refine (copyT_any HA.out).mono ?_
  rintro e w1 ⟨x0, x1, rfl, ho, hb1'⟩
  simp only [World.size_alloc] at ho
  have hs1 := hb1'.size
  simp at hs1
  have HB1 : Hid (Below w.heap.size w w1) := Below.after HB.out hb1'
  obtain ⟨g, cap, ex⟩ := Joins.ownsRow_form ho.data.row (by have := HN.out; omega)
  have hgl := ho.data.lt
  have hgf := ho.data.frm
  have hcl : n ≤ cap := by
    rcases ho.data.row.2 with ⟨h0, _⟩ | ⟨g', cap', cur, he, _, _, h1, _⟩
    · rw [ex] at h0; simp at h0
    · rw [ex] at he
      simp only [Value.slice.injEq, Option.some.injEq, Addr.mk.injEq, and_true, true_and] at he
      have := HN.out
      omega
  subst ex
  have hg1 := hgl g rfl
  have hg2 := hgf g rfl
  have HO0 : Hid (Own w1 (w.heap.size + 1 + 1 + 1) x0 s.1) := ho.dims
  have HO1 : Hid (Own w1 (w.heap.size + 1 + 1 + 1) (.slice (some ⟨g, 0, none⟩) s.2.length cap) s.2) := ho.data
  have HOD : Hid (OwnT w1 (w.heap.size + 1 + 1 + 1) x0 (.slice (some ⟨g, 0, none⟩) s.2.length cap) s) := ho
  obtain ⟨xa, xc, rfl⟩ := ho.dims.ints.shape
  have HBA1 := HBA.out.later hb1'
  have HBB1 := HBB.out.later hb1'
  have HBX1 := HBX.out.later hb1'
  clear ho hb1' hgl hgf
  rw [HN.out]
  rw [HN.out] at HO1
  go_wp2
  have HOS : Hid (Own (w1.alloc (.cells #[.slice xa s.1.length xc, .slice (some ⟨g, 0, none⟩) n cap] 28)) (w.heap.size + 1 + 1 + 1) (.slice (some ⟨g, 0, none⟩) n cap) (mix (fun i => (fun x y => wrap64 (x - y)) (s.2.getD i 0) (t.2.getD i 0)) s.2 0)) := by
    show Own _ _ _ _
    rw [mix_zero]
    exact HO1.out.later ((Below.refl _ _).alloc (Nat.le_refl _) _)
  have HBAV : Hid (Box (w1.alloc (.cells #[.slice xa s.1.length xc, .slice (some ⟨g, 0, none⟩) n cap] 28)) w.heap.size _ _) := HBA1.alloc _
  have HBBV : Hid (Box (w1.alloc (.cells #[.slice xa s.1.length xc, .slice (some ⟨g, 0, none⟩) n cap] 28)) (w.heap.size + 1) _ _) := HBB1.alloc _
  have HBXV : Hid (Box (w1.alloc (.cells #[.slice xa s.1.length xc, .slice (some ⟨g, 0, none⟩) n cap] 28)) (w.heap.size + 1 + 1) _ _) := HBX1.alloc _
  have HBTV : Hid (Box (w1.alloc (.cells #[.slice xa s.1.length xc, .slice (some ⟨g, 0, none⟩) n cap] 28)) w1.heap.size _ _) := Box.new w1 (.slice xa s.1.length xc) (.slice (some ⟨g, 0, none⟩) n cap)
  have HBV : Hid (Below w.heap.size w (w1.alloc (.cells #[.slice xa s.1.length xc, .slice (some ⟨g, 0, none⟩) n cap] 28))) := HB1.out.alloc (by omega) _
  have hsv : (w1.alloc (.cells #[.slice xa s.1.length xc, .slice (some ⟨g, 0, none⟩) n cap] 28)).heap.size = w1.heap.size + 1 := by simp
  have HO0V : Hid (Own (w1.alloc (.cells #[.slice xa s.1.length xc, .slice (some ⟨g, 0, none⟩) n cap] 28)) (w.heap.size + 1 + 1 + 1) (.slice xa s.1.length xc) s.1) := HO0.out.later ((Below.refl _ _).alloc (Nat.le_refl _) _)
  generalize (w1.alloc (.cells #[.slice xa s.1.length xc, .slice (some ⟨g, 0, none⟩) n cap] 28)) = V at HOS HBAV HBBV HBXV HBTV HBV hsv HO0V ⊢
  clear HBA1 HBB1 HBX1 HO1 HO0
  go_loopw [8] (fun i w' => ∃ j : Nat, j ≤ n ∧ i = .int .i64 j ∧ Own w' (w.heap.size + 1 + 1 + 1) (.slice (some ⟨g, 0, none⟩) n cap) (mix (fun i => (fun x y => wrap64 (x - y)) (s.2.getD i 0) (t.2.getD i 0)) s.2 j) ∧ But g V w') (fun i _ => n - (intOf i).toNat)
  case atStart => exact ⟨0, by omega, rfl, HOS.out, But.refl _ _⟩
  case round =>
    obtain ⟨j, hj, rfl, hO, hbut⟩ := hrel
    have HO3 : Hid (Own wr (w.heap.size + 1 + 1 + 1) (.slice (some ⟨g, 0, none⟩) n cap) (mix (fun i => (fun x y => wrap64 (x - y)) (s.2.getD i 0) (t.2.getD i 0)) s.2 j)) := hO
    have HBT3 : Hid (But g V wr) := hbut
    have hct := (hbut.box HBTV.out (by omega)).c1
    have hct0 := (hbut.box HBTV.out (by omega)).c0
    clear hO hbut
    by_cases hlt : j < n
    · have hca := (HBT3.out.box HBAV.out (by omega)).c1
      have hcb := (HBT3.out.box HBBV.out (by omega)).c1
      have hx : wr.cell? ⟨ab, ao + j, none⟩ = some (.int .i64 (s.2.getD j 0)) := (HBT3.out.cell (by simp; omega)).trans ((HBV.out.cell (by simp; omega)).trans (HCA1.out j hlt))
      have hy : wr.cell? ⟨bb, bo + j, none⟩ = some (.int .i64 (t.2.getD j 0)) := (HBT3.out.cell (by simp; omega)).trans ((HBV.out.cell (by simp; omega)).trans (HCB1.out j hlt))
      obtain ⟨hc, hf, hp⟩ := HO3.out.put (by rw [mix_length]; exact HN.out) j hlt ((fun x y => wrap64 (x - y)) (s.2.getD j 0) (t.2.getD j 0))
      have HP : Hid (Own (wr.setCell ⟨g, j, none⟩ (.int .i64 ((fun x y => wrap64 (x - y)) (s.2.getD j 0) (t.2.getD j 0)))) (w.heap.size + 1 + 1 + 1) (.slice (some ⟨g, 0, none⟩) n cap) (mix (fun i => (fun x y => wrap64 (x - y)) (s.2.getD i 0) (t.2.getD i 0)) s.2 (j + 1))) := by
        rw [mix_set (fun i => (fun x y => wrap64 (x - y)) (s.2.getD i 0) (t.2.getD i 0))] at hp
        exact hp
      clear hp
      have hlt0 : (0 : Int) ≤ (j : Int) := by omega
      have hlt1 : (j : Int) < n := by omega
      go_wp2
      go_region
      go_wp2
      go_roundw
      case rel => exact ⟨j + 1, by omega, by go_num, HP.out.drew, (HBT3.out.setCell _).drew⟩
      case measure => simp [intOf]; omega
    · have hj' : j = n := by omega
      subst hj'
      have hbx := HBT3.out.box HBXV.out (by omega)
      have l0 := hbx.c0
      have l1 := hbx.c1
      have m0 := hbx.f 0
      have m1 := hbx.f 1
      have HBS : Hid (Box _ _ _ _) := hbx.set (.slice xa s.1.length xc) (.slice (some ⟨g, 0, none⟩) j cap)
      have HO4 : Hid (Own wr (w.heap.size + 1 + 1 + 1) (.slice (some ⟨g, 0, none⟩) j cap) (List.zipWith (fun x y => wrap64 (x - y)) s.2 t.2)) := by
        have h1 := HO3.out
        have h2 := mix_zip (fun x y => wrap64 (x - y)) s.2 t.2 (by rw [HN.out, HN2.out])
        rw [HN.out] at h2
        rw [h2] at h1
        exact h1
      have HO5 : Hid (Own wr (w.heap.size + 1 + 1 + 1) (.slice xa s.1.length xc) s.1) := HO0V.out.at fun k hk => HBT3.out.block k (fun e => HOD.out.apart k hk (by rw [e]; rfl))
      have HBE : Hid (Below w.heap.size w wr) := HBT3.out.below HBV.out (by omega)
      clear hbx
      go_wp2
      have hr0 := HBS.out.c0
      have hr1 := HBS.out.c1
      refine bodyPost_ret (v := .agg #[.slice xa s.1.length xc, .slice (some ⟨g, 0, none⟩) j cap]) (by simp [results, Try.results15, go_sem, hr0, hr1]) rfl ⟨_, _, rfl, ?_, ?_⟩
      · have h1 : OwnT wr (w.heap.size + 1 + 1 + 1) (.slice xa s.1.length xc) (.slice (some ⟨g, 0, none⟩) j cap) (s.1, List.zipWith (fun x y => wrap64 (x - y)) s.2 t.2) := ⟨HO5.out, HO4.out, fun k hk e => HOD.out.apart k hk e⟩
        exact ((h1.setCell _ _ (by simp)).setCell _ _ (by simp)).mono (by omega)
      · exact (HBE.out.setCell (by simp; omega) _).setCell (by simp; omega) _

set_option maxHeartbeats 4000000 in
theorem reach_mul {a0 a1 b0 b1 : Value} {s t : Ten} {w : World} (ha : Tens w a0 a1 s) (hb' : Tens w b0 b1 t) (hlen : t.2.length = s.2.length) (hpos : 1 ≤ s.2.length) (h64 : s.2.length ≤ 64) :
    Calls Try.prog 15 #[.agg #[a0, a1], .agg #[b0, b1], .int .i64 2] w fun e w' => ∃ x0 x1, e = .returned (.agg #[x0, x1]) ∧ OwnT w' w.heap.size x0 x1 (s.1, List.zipWith (fun x y => wrap64 (x * y)) s.2 t.2) ∧ Below w.heap.size w w' := by
  have hb : Below w.heap.size w (((w.alloc (.cells #[a0, a1] 28)).alloc (.cells #[b0, b1] 28)).alloc (.cells #[.slice none 0 0, .slice none 0 0] 28)) := (((Below.refl _ _).alloc (Nat.le_refl _) _).alloc (by simp) _).alloc (by simp; omega) _
  have HB : Hid (Below w.heap.size w (((w.alloc (.cells #[a0, a1] 28)).alloc (.cells #[b0, b1] 28)).alloc (.cells #[.slice none 0 0, .slice none 0 0] 28))) := hb
  have HA : Hid (Tens (((w.alloc (.cells #[a0, a1] 28)).alloc (.cells #[b0, b1] 28)).alloc (.cells #[.slice none 0 0, .slice none 0 0] 28)) a0 a1 s) := ha.later hb
  have HBA : Hid (Box (((w.alloc (.cells #[a0, a1] 28)).alloc (.cells #[b0, b1] 28)).alloc (.cells #[.slice none 0 0, .slice none 0 0] 28)) w.heap.size a0 a1) := ((Box.new w a0 a1).alloc _).alloc _
  have HBB : Hid (Box (((w.alloc (.cells #[a0, a1] 28)).alloc (.cells #[b0, b1] 28)).alloc (.cells #[.slice none 0 0, .slice none 0 0] 28)) (w.heap.size + 1) b0 b1) := by
    have := (Box.new (w.alloc (.cells #[a0, a1] 28)) b0 b1).alloc (.cells #[.slice none 0 0, .slice none 0 0] 28)
    simp only [World.size_alloc] at this
    exact this
  have HBX : Hid (Box (((w.alloc (.cells #[a0, a1] 28)).alloc (.cells #[b0, b1] 28)).alloc (.cells #[.slice none 0 0, .slice none 0 0] 28)) (w.heap.size + 1 + 1) (.slice none 0 0) (.slice none 0 0)) := by
    have := Box.new ((w.alloc (.cells #[a0, a1] 28)).alloc (.cells #[b0, b1] 28)) (.slice none 0 0) (.slice none 0 0)
    simp only [World.size_alloc] at this
    exact this
  rcases ha.2.cases with ⟨e, _⟩ | ⟨ab, ao, ac, ea, _, ha1, _, HCA⟩
  · rw [e] at hpos; simp at hpos
  rcases hb'.2.cases with ⟨e, _⟩ | ⟨bb, bo, bc, eb, _, hb1, _, HCB⟩
  · rw [e] at hlen; simp at hlen; omega
  obtain ⟨n, hn⟩ : ∃ n : Nat, s.2.length = n := ⟨_, rfl⟩
  have HN : Hid (s.2.length = n) := hn
  have HN2 : Hid (t.2.length = n) := by show _ = _; omega
  have hn1 : 1 ≤ n := by omega
  have hn64 : n ≤ 64 := by omega
  have hab : ab < w.heap.size := World.block_lt_of_cell? _ _ (HCA.out 0 (by omega))
  have hbb : bb < w.heap.size := World.block_lt_of_cell? _ _ (HCB.out 0 (by omega))
  rw [hn] at ea ha1
  rw [hlen, hn] at eb hb1
  subst ea eb
  have HCA1 : Hid (∀ i, i < n → w.cell? ⟨ab, ao + i, none⟩ = some (.int .i64 (s.2.getD i 0))) := fun i h => Ints.cellD (n := 0) (c := 0) HCA i (by have := HN.out; omega)
  have HCB1 : Hid (∀ i, i < n → w.cell? ⟨bb, bo + i, none⟩ = some (.int .i64 (t.2.getD i 0))) := fun i h => Ints.cellD (n := 0) (c := 0) HCB i (by have := HN2.out; omega)
  clear ha hb' hb hlen hpos h64 hn HCA HCB
  go_enter Try.func15, Try.ntmps15
  go_wp2_with fail
  refine (copyT_any HA.out).mono ?_
  rintro e w1 ⟨x0, x1, rfl, ho, hb1'⟩
  simp only [World.size_alloc] at ho
  have hs1 := hb1'.size
  simp at hs1
  have HB1 : Hid (Below w.heap.size w w1) := Below.after HB.out hb1'
  obtain ⟨g, cap, ex⟩ := Joins.ownsRow_form ho.data.row (by have := HN.out; omega)
  have hgl := ho.data.lt
  have hgf := ho.data.frm
  have hcl : n ≤ cap := by
    rcases ho.data.row.2 with ⟨h0, _⟩ | ⟨g', cap', cur, he, _, _, h1, _⟩
    · rw [ex] at h0; simp at h0
    · rw [ex] at he
      simp only [Value.slice.injEq, Option.some.injEq, Addr.mk.injEq, and_true, true_and] at he
      have := HN.out
      omega
  subst ex
  have hg1 := hgl g rfl
  have hg2 := hgf g rfl
  have HO0 : Hid (Own w1 (w.heap.size + 1 + 1 + 1) x0 s.1) := ho.dims
  have HO1 : Hid (Own w1 (w.heap.size + 1 + 1 + 1) (.slice (some ⟨g, 0, none⟩) s.2.length cap) s.2) := ho.data
  have HOD : Hid (OwnT w1 (w.heap.size + 1 + 1 + 1) x0 (.slice (some ⟨g, 0, none⟩) s.2.length cap) s) := ho
  obtain ⟨xa, xc, rfl⟩ := ho.dims.ints.shape
  have HBA1 := HBA.out.later hb1'
  have HBB1 := HBB.out.later hb1'
  have HBX1 := HBX.out.later hb1'
  clear ho hb1' hgl hgf
  rw [HN.out]
  rw [HN.out] at HO1
  go_wp2
  have HOS : Hid (Own (w1.alloc (.cells #[.slice xa s.1.length xc, .slice (some ⟨g, 0, none⟩) n cap] 28)) (w.heap.size + 1 + 1 + 1) (.slice (some ⟨g, 0, none⟩) n cap) (mix (fun i => (fun x y => wrap64 (x * y)) (s.2.getD i 0) (t.2.getD i 0)) s.2 0)) := by
    show Own _ _ _ _
    rw [mix_zero]
    exact HO1.out.later ((Below.refl _ _).alloc (Nat.le_refl _) _)
  have HBAV : Hid (Box (w1.alloc (.cells #[.slice xa s.1.length xc, .slice (some ⟨g, 0, none⟩) n cap] 28)) w.heap.size _ _) := HBA1.alloc _
  have HBBV : Hid (Box (w1.alloc (.cells #[.slice xa s.1.length xc, .slice (some ⟨g, 0, none⟩) n cap] 28)) (w.heap.size + 1) _ _) := HBB1.alloc _
  have HBXV : Hid (Box (w1.alloc (.cells #[.slice xa s.1.length xc, .slice (some ⟨g, 0, none⟩) n cap] 28)) (w.heap.size + 1 + 1) _ _) := HBX1.alloc _
  have HBTV : Hid (Box (w1.alloc (.cells #[.slice xa s.1.length xc, .slice (some ⟨g, 0, none⟩) n cap] 28)) w1.heap.size _ _) := Box.new w1 (.slice xa s.1.length xc) (.slice (some ⟨g, 0, none⟩) n cap)
  have HBV : Hid (Below w.heap.size w (w1.alloc (.cells #[.slice xa s.1.length xc, .slice (some ⟨g, 0, none⟩) n cap] 28))) := HB1.out.alloc (by omega) _
  have hsv : (w1.alloc (.cells #[.slice xa s.1.length xc, .slice (some ⟨g, 0, none⟩) n cap] 28)).heap.size = w1.heap.size + 1 := by simp
  have HO0V : Hid (Own (w1.alloc (.cells #[.slice xa s.1.length xc, .slice (some ⟨g, 0, none⟩) n cap] 28)) (w.heap.size + 1 + 1 + 1) (.slice xa s.1.length xc) s.1) := HO0.out.later ((Below.refl _ _).alloc (Nat.le_refl _) _)
  generalize (w1.alloc (.cells #[.slice xa s.1.length xc, .slice (some ⟨g, 0, none⟩) n cap] 28)) = V at HOS HBAV HBBV HBXV HBTV HBV hsv HO0V ⊢
  clear HBA1 HBB1 HBX1 HO1 HO0
  go_loopw [8] (fun i w' => ∃ j : Nat, j ≤ n ∧ i = .int .i64 j ∧ Own w' (w.heap.size + 1 + 1 + 1) (.slice (some ⟨g, 0, none⟩) n cap) (mix (fun i => (fun x y => wrap64 (x * y)) (s.2.getD i 0) (t.2.getD i 0)) s.2 j) ∧ But g V w') (fun i _ => n - (intOf i).toNat)
  case atStart => exact ⟨0, by omega, rfl, HOS.out, But.refl _ _⟩
  case round =>
    obtain ⟨j, hj, rfl, hO, hbut⟩ := hrel
    have HO3 : Hid (Own wr (w.heap.size + 1 + 1 + 1) (.slice (some ⟨g, 0, none⟩) n cap) (mix (fun i => (fun x y => wrap64 (x * y)) (s.2.getD i 0) (t.2.getD i 0)) s.2 j)) := hO
    have HBT3 : Hid (But g V wr) := hbut
    have hct := (hbut.box HBTV.out (by omega)).c1
    have hct0 := (hbut.box HBTV.out (by omega)).c0
    clear hO hbut
    by_cases hlt : j < n
    · have hca := (HBT3.out.box HBAV.out (by omega)).c1
      have hcb := (HBT3.out.box HBBV.out (by omega)).c1
      have hx : wr.cell? ⟨ab, ao + j, none⟩ = some (.int .i64 (s.2.getD j 0)) := (HBT3.out.cell (by simp; omega)).trans ((HBV.out.cell (by simp; omega)).trans (HCA1.out j hlt))
      have hy : wr.cell? ⟨bb, bo + j, none⟩ = some (.int .i64 (t.2.getD j 0)) := (HBT3.out.cell (by simp; omega)).trans ((HBV.out.cell (by simp; omega)).trans (HCB1.out j hlt))
      obtain ⟨hc, hf, hp⟩ := HO3.out.put (by rw [mix_length]; exact HN.out) j hlt ((fun x y => wrap64 (x * y)) (s.2.getD j 0) (t.2.getD j 0))
      have HP : Hid (Own (wr.setCell ⟨g, j, none⟩ (.int .i64 ((fun x y => wrap64 (x * y)) (s.2.getD j 0) (t.2.getD j 0)))) (w.heap.size + 1 + 1 + 1) (.slice (some ⟨g, 0, none⟩) n cap) (mix (fun i => (fun x y => wrap64 (x * y)) (s.2.getD i 0) (t.2.getD i 0)) s.2 (j + 1))) := by
        rw [mix_set (fun i => (fun x y => wrap64 (x * y)) (s.2.getD i 0) (t.2.getD i 0))] at hp
        exact hp
      clear hp
      have hlt0 : (0 : Int) ≤ (j : Int) := by omega
      have hlt1 : (j : Int) < n := by omega
      go_wp2
      go_region
      go_wp2
      go_roundw
      case rel => exact ⟨j + 1, by omega, by go_num, HP.out.drew, (HBT3.out.setCell _).drew⟩
      case measure => simp [intOf]; omega
    · have hj' : j = n := by omega
      subst hj'
      have hbx := HBT3.out.box HBXV.out (by omega)
      have l0 := hbx.c0
      have l1 := hbx.c1
      have m0 := hbx.f 0
      have m1 := hbx.f 1
      have HBS : Hid (Box _ _ _ _) := hbx.set (.slice xa s.1.length xc) (.slice (some ⟨g, 0, none⟩) j cap)
      have HO4 : Hid (Own wr (w.heap.size + 1 + 1 + 1) (.slice (some ⟨g, 0, none⟩) j cap) (List.zipWith (fun x y => wrap64 (x * y)) s.2 t.2)) := by
        have h1 := HO3.out
        have h2 := mix_zip (fun x y => wrap64 (x * y)) s.2 t.2 (by rw [HN.out, HN2.out])
        rw [HN.out] at h2
        rw [h2] at h1
        exact h1
      have HO5 : Hid (Own wr (w.heap.size + 1 + 1 + 1) (.slice xa s.1.length xc) s.1) := HO0V.out.at fun k hk => HBT3.out.block k (fun e => HOD.out.apart k hk (by rw [e]; rfl))
      have HBE : Hid (Below w.heap.size w wr) := HBT3.out.below HBV.out (by omega)
      clear hbx
      go_wp2
      have hr0 := HBS.out.c0
      have hr1 := HBS.out.c1
      refine bodyPost_ret (v := .agg #[.slice xa s.1.length xc, .slice (some ⟨g, 0, none⟩) j cap]) (by simp [results, Try.results15, go_sem, hr0, hr1]) rfl ⟨_, _, rfl, ?_, ?_⟩
      · have h1 : OwnT wr (w.heap.size + 1 + 1 + 1) (.slice xa s.1.length xc) (.slice (some ⟨g, 0, none⟩) j cap) (s.1, List.zipWith (fun x y => wrap64 (x * y)) s.2 t.2) := ⟨HO5.out, HO4.out, fun k hk e => HOD.out.apart k hk e⟩
        exact ((h1.setCell _ _ (by simp)).setCell _ _ (by simp)).mono (by omega)
      · exact (HBE.out.setCell (by simp; omega) _).setCell (by simp; omega) _
end Go.Proofs.Ytoocfoodnkikeaa
