/- Carried: Ac, E0, K7, K8, L0. -/
import Derived.Test.YtheddpjaihhbdabGreatC28
namespace Go.Proofs.YtheddpjaihhbdabGreat
set_option linter.unusedVariables false
set_option linter.unusedSimpArgs false
set_option maxRecDepth 100000
open Go.RowKit

set_option maxHeartbeats 4000000 in
theorem reach_sub {a0 a1 b0 b1 : Value} {s t : Ten} {w : World} (ha : Tens w a0 a1 s) (hb' : Tens w b0 b1 t) (hlen : t.2.length = s.2.length) (hpos : 1 ≤ s.2.length) (h64 : s.2.length ≤ 64) :
    Calls Tryz.prog 45 #[.agg #[a0, a1], .agg #[b0, b1], .int .i64 1] w fun e w' => ∃ x0 x1, e = .returned (.agg #[x0, x1]) ∧ OwnT w' w.heap.size x0 x1 (s.1, List.zipWith (fun x y => wrap64 (x - y)) s.2 t.2) ∧ Below w.heap.size w w' := by
  have hb : Below w.heap.size w (((w.alloc (.cells #[a0, a1] 34)).alloc (.cells #[b0, b1] 34)).alloc (.cells #[.slice none 0 0, .slice none 0 0] 34)) := (((Below.refl _ _).alloc (Nat.le_refl _) _).alloc (by simp) _).alloc (by simp; omega) _
  have HB : Hid (Below w.heap.size w (((w.alloc (.cells #[a0, a1] 34)).alloc (.cells #[b0, b1] 34)).alloc (.cells #[.slice none 0 0, .slice none 0 0] 34))) := hb
  have HA : Hid (Tens (((w.alloc (.cells #[a0, a1] 34)).alloc (.cells #[b0, b1] 34)).alloc (.cells #[.slice none 0 0, .slice none 0 0] 34)) a0 a1 s) := ha.later hb
  have HBA : Hid (Box (((w.alloc (.cells #[a0, a1] 34)).alloc (.cells #[b0, b1] 34)).alloc (.cells #[.slice none 0 0, .slice none 0 0] 34)) w.heap.size a0 a1) := ((Box.new w a0 a1).alloc _).alloc _
  have HBB : Hid (Box (((w.alloc (.cells #[a0, a1] 34)).alloc (.cells #[b0, b1] 34)).alloc (.cells #[.slice none 0 0, .slice none 0 0] 34)) (w.heap.size + 1) b0 b1) := by
    have := (Box.new (w.alloc (.cells #[a0, a1] 34)) b0 b1).alloc (.cells #[.slice none 0 0, .slice none 0 0] 34)
    simp only [World.size_alloc] at this
    exact this
  have HBX : Hid (Box (((w.alloc (.cells #[a0, a1] 34)).alloc (.cells #[b0, b1] 34)).alloc (.cells #[.slice none 0 0, .slice none 0 0] 34)) (w.heap.size + 1 + 1) (.slice none 0 0) (.slice none 0 0)) := by
    have := Box.new ((w.alloc (.cells #[a0, a1] 34)).alloc (.cells #[b0, b1] 34)) (.slice none 0 0) (.slice none 0 0)
    simp only [World.size_alloc] at this
    exact this
  rcases ha.2.cases with ⟨e, _⟩ | ⟨ab, ao, ac, ea, _, ha1, _, HCA⟩
  · rw [e] at hpos; simp at hpos
  rcases hb'.2.cases with ⟨e, _⟩ | ⟨bb, bo, bc, eb, _, hb1, _, HCB⟩
  · rw [e] at hlen; simp at hlen; omega
  obtain ⟨n, hn⟩ : ∃ n : Nat, s.2.length = n := ⟨_, rfl⟩
  have HN : Hid (s.2.length = n) := hn
  have HN2 : Hid (t.2.length = n) := by show _ = _; omega
  have hn1 : 1 ≤ n := by omega
  have hn64 : n ≤ 64 := by omega
  have hab : ab < w.heap.size := World.block_lt_of_cell? _ _ (HCA.out 0 (by omega))
  have hbb : bb < w.heap.size := World.block_lt_of_cell? _ _ (HCB.out 0 (by omega))
  rw [hn] at ea ha1
  rw [hlen, hn] at eb hb1
  subst ea eb
  have HCA1 : Hid (∀ i, i < n → w.cell? ⟨ab, ao + i, none⟩ = some (.int .i64 (s.2.getD i 0))) := fun i h => Ints.cellD (n := 0) (c := 0) HCA i (by have := HN.out; omega)
  have HCB1 : Hid (∀ i, i < n → w.cell? ⟨bb, bo + i, none⟩ = some (.int .i64 (t.2.getD i 0))) := fun i h => Ints.cellD (n := 0) (c := 0) HCB i (by have := HN2.out; omega)
  clear ha hb' hb hlen hpos h64 hn HCA HCB
  go_enter Tryz.func45, Tryz.ntmps45
  go_wp2_with fail
  refine (copyT_any HA.out).mono ?_
  rintro e w1 ⟨x0, x1, rfl, ho, hb1'⟩
  simp only [World.size_alloc] at ho
  have hs1 := hb1'.size
  simp at hs1
  have HB1 : Hid (Below w.heap.size w w1) := Below.after HB.out hb1'
  obtain ⟨g, cap, ex⟩ := Joins.ownsRow_form ho.data.row (by have := HN.out; omega)
  have hgl := ho.data.lt
  have hgf := ho.data.frm
  have hcl : n ≤ cap := by
    rcases ho.data.row.2 with ⟨h0, _⟩ | ⟨g', cap', cur, he, _, _, h1, _⟩
    · rw [ex] at h0; simp at h0
    · rw [ex] at he
      simp only [Value.slice.injEq, Option.some.injEq, Addr.mk.injEq, and_true, true_and] at he
      have := HN.out
      omega
  subst ex
  have hg1 := hgl g rfl
  have hg2 := hgf g rfl
  have HO0 : Hid (Own w1 (w.heap.size + 1 + 1 + 1) x0 s.1) := ho.dims
  have HO1 : Hid (Own w1 (w.heap.size + 1 + 1 + 1) (.slice (some ⟨g, 0, none⟩) s.2.length cap) s.2) := ho.data
  have HOD : Hid (OwnT w1 (w.heap.size + 1 + 1 + 1) x0 (.slice (some ⟨g, 0, none⟩) s.2.length cap) s) := ho
  obtain ⟨xa, xc, rfl⟩ := ho.dims.ints.shape
  have HBA1 := HBA.out.later hb1'
  have HBB1 := HBB.out.later hb1'
  have HBX1 := HBX.out.later hb1'
  clear ho hb1' hgl hgf
  rw [HN.out]
  rw [HN.out] at HO1
  go_wp2
  have HOS : Hid (Own (w1.alloc (.cells #[.slice xa s.1.length xc, .slice (some ⟨g, 0, none⟩) n cap] 34)) (w.heap.size + 1 + 1 + 1) (.slice (some ⟨g, 0, none⟩) n cap) (mix (fun i => (fun x y => wrap64 (x - y)) (s.2.getD i 0) (t.2.getD i 0)) s.2 0)) := by
    show Own _ _ _ _
    rw [mix_zero]
    exact HO1.out.later ((Below.refl _ _).alloc (Nat.le_refl _) _)
  have HBAV : Hid (Box (w1.alloc (.cells #[.slice xa s.1.length xc, .slice (some ⟨g, 0, none⟩) n cap] 34)) w.heap.size _ _) := HBA1.alloc _
  have HBBV : Hid (Box (w1.alloc (.cells #[.slice xa s.1.length xc, .slice (some ⟨g, 0, none⟩) n cap] 34)) (w.heap.size + 1) _ _) := HBB1.alloc _
  have HBXV : Hid (Box (w1.alloc (.cells #[.slice xa s.1.length xc, .slice (some ⟨g, 0, none⟩) n cap] 34)) (w.heap.size + 1 + 1) _ _) := HBX1.alloc _
  have HBTV : Hid (Box (w1.alloc (.cells #[.slice xa s.1.length xc, .slice (some ⟨g, 0, none⟩) n cap] 34)) w1.heap.size _ _) := Box.new w1 (.slice xa s.1.length xc) (.slice (some ⟨g, 0, none⟩) n cap)
  have HBV : Hid (Below w.heap.size w (w1.alloc (.cells #[.slice xa s.1.length xc, .slice (some ⟨g, 0, none⟩) n cap] 34))) := HB1.out.alloc (by omega) _
  have hsv : (w1.alloc (.cells #[.slice xa s.1.length xc, .slice (some ⟨g, 0, none⟩) n cap] 34)).heap.size = w1.heap.size + 1 := by simp
  have HO0V : Hid (Own (w1.alloc (.cells #[.slice xa s.1.length xc, .slice (some ⟨g, 0, none⟩) n cap] 34)) (w.heap.size + 1 + 1 + 1) (.slice xa s.1.length xc) s.1) := HO0.out.later ((Below.refl _ _).alloc (Nat.le_refl _) _)
  generalize (w1.alloc (.cells #[.slice xa s.1.length xc, .slice (some ⟨g, 0, none⟩) n cap] 34)) = V at HOS HBAV HBBV HBXV HBTV HBV hsv HO0V ⊢
  clear HBA1 HBB1 HBX1 HO1 HO0
  go_loopw [8] (fun i w' => ∃ j : Nat, j ≤ n ∧ i = .int .i64 j ∧ Own w' (w.heap.size + 1 + 1 + 1) (.slice (some ⟨g, 0, none⟩) n cap) (mix (fun i => (fun x y => wrap64 (x - y)) (s.2.getD i 0) (t.2.getD i 0)) s.2 j) ∧ But g V w') (fun i _ => n - (intOf i).toNat)
  case atStart => exact ⟨0, by omega, rfl, HOS.out, But.refl _ _⟩
  case round =>
    obtain ⟨j, hj, rfl, hO, hbut⟩ := hrel
    have HO3 : Hid (Own wr (w.heap.size + 1 + 1 + 1) (.slice (some ⟨g, 0, none⟩) n cap) (mix (fun i => (fun x y => wrap64 (x - y)) (s.2.getD i 0) (t.2.getD i 0)) s.2 j)) := hO
    have HBT3 : Hid (But g V wr) := hbut
    have hct := (hbut.box HBTV.out (by omega)).c1
    have hct0 := (hbut.box HBTV.out (by omega)).c0
    clear hO hbut
    by_cases hlt : j < n
    · have hca := (HBT3.out.box HBAV.out (by omega)).c1
      have hcb := (HBT3.out.box HBBV.out (by omega)).c1
      have hx : wr.cell? ⟨ab, ao + j, none⟩ = some (.int .i64 (s.2.getD j 0)) := (HBT3.out.cell (by simp; omega)).trans ((HBV.out.cell (by simp; omega)).trans (HCA1.out j hlt))
      have hy : wr.cell? ⟨bb, bo + j, none⟩ = some (.int .i64 (t.2.getD j 0)) := (HBT3.out.cell (by simp; omega)).trans ((HBV.out.cell (by simp; omega)).trans (HCB1.out j hlt))
      obtain ⟨hc, hf, hp⟩ := HO3.out.put (by rw [mix_length]; exact HN.out) j hlt ((fun x y => wrap64 (x - y)) (s.2.getD j 0) (t.2.getD j 0))
      have HP : Hid (Own (wr.setCell ⟨g, j, none⟩ (.int .i64 ((fun x y => wrap64 (x - y)) (s.2.getD j 0) (t.2.getD j 0)))) (w.heap.size + 1 + 1 + 1) (.slice (some ⟨g, 0, none⟩) n cap) (mix (fun i => (fun x y => wrap64 (x - y)) (s.2.getD i 0) (t.2.getD i 0)) s.2 (j + 1))) := by
        rw [mix_set (fun i => (fun x y => wrap64 (x - y)) (s.2.getD i 0) (t.2.getD i 0))] at hp
        exact hp
      clear hp
      have hlt0 : (0 : Int) ≤ (j : Int) := by omega
      have hlt1 : (j : Int) < n := by omega
      go_wp2
      go_region
      go_wp2
      go_roundw
      case rel => exact ⟨j + 1, by omega, by go_num, HP.out.drew, (HBT3.out.setCell _).drew⟩
      case measure => simp [intOf]; omega
    · have hj' : j = n := by omega
      subst hj'
      have hbx := HBT3.out.box HBXV.out (by omega)
      have l0 := hbx.c0
      have l1 := hbx.c1
      have m0 := hbx.f 0
      have m1 := hbx.f 1
      have HBS : Hid (Box _ _ _ _) := hbx.set (.slice xa s.1.length xc) (.slice (some ⟨g, 0, none⟩) j cap)
      have HO4 : Hid (Own wr (w.heap.size + 1 + 1 + 1) (.slice (some ⟨g, 0, none⟩) j cap) (List.zipWith (fun x y => wrap64 (x - y)) s.2 t.2)) := by
        have h1 := HO3.out
        have h2 := mix_zip (fun x y => wrap64 (x - y)) s.2 t.2 (by rw [HN.out, HN2.out])
        rw [HN.out] at h2
        rw [h2] at h1
        exact h1
      have HO5 : Hid (Own wr (w.heap.size + 1 + 1 + 1) (.slice xa s.1.length xc) s.1) := HO0V.out.at fun k hk => HBT3.out.block k (fun e => HOD.out.apart k hk (by rw [e]; rfl))
      have HBE : Hid (Below w.heap.size w wr) := HBT3.out.below HBV.out (by omega)
      clear hbx
      go_wp2
      have hr0 := HBS.out.c0
      have hr1 := HBS.out.c1
      refine bodyPost_ret (v := .agg #[.slice xa s.1.length xc, .slice (some ⟨g, 0, none⟩) j cap]) (by simp [results, Tryz.results45, go_sem, hr0, hr1]) rfl ⟨_, _, rfl, ?_, ?_⟩
      · have h1 : OwnT wr (w.heap.size + 1 + 1 + 1) (.slice xa s.1.length xc) (.slice (some ⟨g, 0, none⟩) j cap) (s.1, List.zipWith (fun x y => wrap64 (x - y)) s.2 t.2) := ⟨HO5.out, HO4.out, fun k hk e => HOD.out.apart k hk e⟩
        exact ((h1.setCell _ _ (by simp)).setCell _ _ (by simp)).mono (by omega)
      · exact (HBE.out.setCell (by simp; omega) _).setCell (by simp; omega) _
set_option maxHeartbeats 4000000 in
theorem reach_mul {a0 a1 b0 b1 : Value} {s t : Ten} {w : World} (ha : Tens w a0 a1 s) (hb' : Tens w b0 b1 t) (hlen : t.2.length = s.2.length) (hpos : 1 ≤ s.2.length) (h64 : s.2.length ≤ 64) :
    Calls Tryz.prog 45 #[.agg #[a0, a1], .agg #[b0, b1], .int .i64 2] w fun e w' => ∃ x0 x1, e = .returned (.agg #[x0, x1]) ∧ OwnT w' w.heap.size x0 x1 (s.1, List.zipWith (fun x y => wrap64 (x * y)) s.2 t.2) ∧ Below w.heap.size w w' := by
  have hb : Below w.heap.size w (((w.alloc (.cells #[a0, a1] 34)).alloc (.cells #[b0, b1] 34)).alloc (.cells #[.slice none 0 0, .slice none 0 0] 34)) := (((Below.refl _ _).alloc (Nat.le_refl _) _).alloc (by simp) _).alloc (by simp; omega) _
  have HB : Hid (Below w.heap.size w (((w.alloc (.cells #[a0, a1] 34)).alloc (.cells #[b0, b1] 34)).alloc (.cells #[.slice none 0 0, .slice none 0 0] 34))) := hb
  have HA : Hid (Tens (((w.alloc (.cells #[a0, a1] 34)).alloc (.cells #[b0, b1] 34)).alloc (.cells #[.slice none 0 0, .slice none 0 0] 34)) a0 a1 s) := ha.later hb
  have HBA : Hid (Box (((w.alloc (.cells #[a0, a1] 34)).alloc (.cells #[b0, b1] 34)).alloc (.cells #[.slice none 0 0, .slice none 0 0] 34)) w.heap.size a0 a1) := ((Box.new w a0 a1).alloc _).alloc _
  have HBB : Hid (Box (((w.alloc (.cells #[a0, a1] 34)).alloc (.cells #[b0, b1] 34)).alloc (.cells #[.slice none 0 0, .slice none 0 0] 34)) (w.heap.size + 1) b0 b1) := by
    have := (Box.new (w.alloc (.cells #[a0, a1] 34)) b0 b1).alloc (.cells #[.slice none 0 0, .slice none 0 0] 34)
    simp only [World.size_alloc] at this
    exact this
  have HBX : Hid (Box (((w.alloc (.cells #[a0, a1] 34)).alloc (.cells #[b0, b1] 34)).alloc (.cells #[.slice none 0 0, .slice none 0 0] 34)) (w.heap.size + 1 + 1) (.slice none 0 0) (.slice none 0 0)) := by
    have := Box.new ((w.alloc (.cells #[a0, a1] 34)).alloc (.cells #[b0, b1] 34)) (.slice none 0 0) (.slice none 0 0)
    simp only [World.size_alloc] at this
    exact this
  rcases ha.2.cases with ⟨e, _⟩ | ⟨ab, ao, ac, ea, _, ha1, _, HCA⟩
  · rw [e] at hpos; simp at hpos
  rcases hb'.2.cases with ⟨e, _⟩ | ⟨bb, bo, bc, eb, _, hb1, _, HCB⟩
  · rw [e] at hlen; simp at hlen; omega
  obtain ⟨n, hn⟩ : ∃ n : Nat, s.2.length = n := ⟨_, rfl⟩
  have HN : Hid (s.2.length = n) := hn
  have HN2 : Hid (t.2.length = n) := by show _ = _; omega
  have hn1 : 1 ≤ n := by omega
  have hn64 : n ≤ 64 := by omega
  have hab : ab < w.heap.size := World.block_lt_of_cell? _ _ (HCA.out 0 (by omega))
  have hbb : bb < w.heap.size := World.block_lt_of_cell? _ _ (HCB.out 0 (by omega))
  rw [hn] at ea ha1
  rw [hlen, hn] at eb hb1
  subst ea eb
  have HCA1 : Hid (∀ i, i < n → w.cell? ⟨ab, ao + i, none⟩ = some (.int .i64 (s.2.getD i 0))) := fun i h => Ints.cellD (n := 0) (c := 0) HCA i (by have := HN.out; omega)
  have HCB1 : Hid (∀ i, i < n → w.cell? ⟨bb, bo + i, none⟩ = some (.int .i64 (t.2.getD i 0))) := fun i h => Ints.cellD (n := 0) (c := 0) HCB i (by have := HN2.out; omega)
  clear ha hb' hb hlen hpos h64 hn HCA HCB
  go_enter Tryz.func45, Tryz.ntmps45
  go_wp2_with fail
  refine (copyT_any HA.out).mono ?_
  rintro e w1 ⟨x0, x1, rfl, ho, hb1'⟩
  simp only [World.size_alloc] at ho
  have hs1 := hb1'.size
  simp at hs1
  have HB1 : Hid (Below w.heap.size w w1) := Below.after HB.out hb1'
  obtain ⟨g, cap, ex⟩ := Joins.ownsRow_form ho.data.row (by have := HN.out; omega)
  have hgl := ho.data.lt
  have hgf := ho.data.frm
  have hcl : n ≤ cap := by
    rcases ho.data.row.2 with ⟨h0, _⟩ | ⟨g', cap', cur, he, _, _, h1, _⟩
    · rw [ex] at h0; simp at h0
    · rw [ex] at he
      simp only [Value.slice.injEq, Option.some.injEq, Addr.mk.injEq, and_true, true_and] at he
      have := HN.out
      omega
  subst ex
  have hg1 := hgl g rfl
  have hg2 := hgf g rfl
  have HO0 : Hid (Own w1 (w.heap.size + 1 + 1 + 1) x0 s.1) := ho.dims
  have HO1 : Hid (Own w1 (w.heap.size + 1 + 1 + 1) (.slice (some ⟨g, 0, none⟩) s.2.length cap) s.2) := ho.data
  have HOD : Hid (OwnT w1 (w.heap.size + 1 + 1 + 1) x0 (.slice (some ⟨g, 0, none⟩) s.2.length cap) s) := ho
  obtain ⟨xa, xc, rfl⟩ := ho.dims.ints.shape
  have HBA1 := HBA.out.later hb1'
  have HBB1 := HBB.out.later hb1'
  have HBX1 := HBX.out.later hb1'
  clear ho hb1' hgl hgf
  rw [HN.out]
  rw [HN.out] at HO1
  go_wp2
  have HOS : Hid (Own (w1.alloc (.cells #[.slice xa s.1.length xc, .slice (some ⟨g, 0, none⟩) n cap] 34)) (w.heap.size + 1 + 1 + 1) (.slice (some ⟨g, 0, none⟩) n cap) (mix (fun i => (fun x y => wrap64 (x * y)) (s.2.getD i 0) (t.2.getD i 0)) s.2 0)) := by
    show Own _ _ _ _
    rw [mix_zero]
    exact HO1.out.later ((Below.refl _ _).alloc (Nat.le_refl _) _)
  have HBAV : Hid (Box (w1.alloc (.cells #[.slice xa s.1.length xc, .slice (some ⟨g, 0, none⟩) n cap] 34)) w.heap.size _ _) := HBA1.alloc _
  have HBBV : Hid (Box (w1.alloc (.cells #[.slice xa s.1.length xc, .slice (some ⟨g, 0, none⟩) n cap] 34)) (w.heap.size + 1) _ _) := HBB1.alloc _
  have HBXV : Hid (Box (w1.alloc (.cells #[.slice xa s.1.length xc, .slice (some ⟨g, 0, none⟩) n cap] 34)) (w.heap.size + 1 + 1) _ _) := HBX1.alloc _
  have HBTV : Hid (Box (w1.alloc (.cells #[.slice xa s.1.length xc, .slice (some ⟨g, 0, none⟩) n cap] 34)) w1.heap.size _ _) := Box.new w1 (.slice xa s.1.length xc) (.slice (some ⟨g, 0, none⟩) n cap)
  have HBV : Hid (Below w.heap.size w (w1.alloc (.cells #[.slice xa s.1.length xc, .slice (some ⟨g, 0, none⟩) n cap] 34))) := HB1.out.alloc (by omega) _
  have hsv : (w1.alloc (.cells #[.slice xa s.1.length xc, .slice (some ⟨g, 0, none⟩) n cap] 34)).heap.size = w1.heap.size + 1 := by simp
  have HO0V : Hid (Own (w1.alloc (.cells #[.slice xa s.1.length xc, .slice (some ⟨g, 0, none⟩) n cap] 34)) (w.heap.size + 1 + 1 + 1) (.slice xa s.1.length xc) s.1) := HO0.out.later ((Below.refl _ _).alloc (Nat.le_refl _) _)
  generalize (w1.alloc (.cells #[.slice xa s.1.length xc, .slice (some ⟨g, 0, none⟩) n cap] 34)) = V at HOS HBAV HBBV HBXV HBTV HBV hsv HO0V ⊢
  clear HBA1 HBB1 HBX1 HO1 HO0
  go_loopw [8] (fun i w' => ∃ j : Nat, j ≤ n ∧ i = .int .i64 j ∧ Own w' (w.heap.size + 1 + 1 + 1) (.slice (some ⟨g, 0, none⟩) n cap) (mix (fun i => (fun x y => wrap64 (x * y)) (s.2.getD i 0) (t.2.getD i 0)) s.2 j) ∧ But g V w') (fun i _ => n - (intOf i).toNat)
  case atStart => exact ⟨0, by omega, rfl, HOS.out, But.refl _ _⟩
  case round =>
    obtain ⟨j, hj, rfl, hO, hbut⟩ := hrel
    have HO3 : Hid (Own wr (w.heap.size + 1 + 1 + 1) (.slice (some ⟨g, 0, none⟩) n cap) (mix (fun i => (fun x y => wrap64 (x * y)) (s.2.getD i 0) (t.2.getD i 0)) s.2 j)) := hO
    have HBT3 : Hid (But g V wr) := hbut
    have hct := (hbut.box HBTV.out (by omega)).c1
    have hct0 := (hbut.box HBTV.out (by omega)).c0
    clear hO hbut
    by_cases hlt : j < n
    · have hca := (HBT3.out.box HBAV.out (by omega)).c1
      have hcb := (HBT3.out.box HBBV.out (by omega)).c1
      have hx : wr.cell? ⟨ab, ao + j, none⟩ = some (.int .i64 (s.2.getD j 0)) := (HBT3.out.cell (by simp; omega)).trans ((HBV.out.cell (by simp; omega)).trans (HCA1.out j hlt))
      have hy : wr.cell? ⟨bb, bo + j, none⟩ = some (.int .i64 (t.2.getD j 0)) := (HBT3.out.cell (by simp; omega)).trans ((HBV.out.cell (by simp; omega)).trans (HCB1.out j hlt))
      obtain ⟨hc, hf, hp⟩ := HO3.out.put (by rw [mix_length]; exact HN.out) j hlt ((fun x y => wrap64 (x * y)) (s.2.getD j 0) (t.2.getD j 0))
      have HP : Hid (Own (wr.setCell ⟨g, j, none⟩ (.int .i64 ((fun x y => wrap64 (x * y)) (s.2.getD j 0) (t.2.getD j 0)))) (w.heap.size + 1 + 1 + 1) (.slice (some ⟨g, 0, none⟩) n cap) (mix (fun i => (fun x y => wrap64 (x * y)) (s.2.getD i 0) (t.2.getD i 0)) s.2 (j + 1))) := by
        rw [mix_set (fun i => (fun x y => wrap64 (x * y)) (s.2.getD i 0) (t.2.getD i 0))] at hp
        exact hp
      clear hp
      have hlt0 : (0 : Int) ≤ (j : Int) := by omega
      have hlt1 : (j : Int) < n := by omega
      go_wp2
      go_region
      go_wp2
      go_roundw
      case rel => exact ⟨j + 1, by omega, by go_num, HP.out.drew, (HBT3.out.setCell _).drew⟩
      case measure => simp [intOf]; omega
    · have hj' : j = n := by omega
      subst hj'
      have hbx := HBT3.out.box HBXV.out (by omega)
      have l0 := hbx.c0
      have l1 := hbx.c1
      have m0 := hbx.f 0
      have m1 := hbx.f 1
      have HBS : Hid (Box _ _ _ _) := hbx.set (.slice xa s.1.length xc) (.slice (some ⟨g, 0, none⟩) j cap)
      have HO4 : Hid (Own wr (w.heap.size + 1 + 1 + 1) (.slice (some ⟨g, 0, none⟩) j cap) (List.zipWith (fun x y => wrap64 (x * y)) s.2 t.2)) := by
        have h1 := HO3.out
        have h2 := mix_zip (fun x y => wrap64 (x * y)) s.2 t.2 (by rw [HN.out, HN2.out])
        rw [HN.out] at h2
        rw [h2] at h1
        exact h1
      have HO5 : Hid (Own wr (w.heap.size + 1 + 1 + 1) (.slice xa s.1.length xc) s.1) := HO0V.out.at fun k hk => HBT3.out.block k (fun e => HOD.out.apart k hk (by rw [e]; rfl))
      have HBE : Hid (Below w.heap.size w wr) := HBT3.out.below HBV.out (by omega)
      clear hbx
      go_wp2
      have hr0 := HBS.out.c0
      have hr1 := HBS.out.c1
      refine bodyPost_ret (v := .agg #[.slice xa s.1.length xc, .slice (some ⟨g, 0, none⟩) j cap]) (by simp [results, Tryz.results45, go_sem, hr0, hr1]) rfl ⟨_, _, rfl, ?_, ?_⟩
      · have h1 : OwnT wr (w.heap.size + 1 + 1 + 1) (.slice xa s.1.length xc) (.slice (some ⟨g, 0, none⟩) j cap) (s.1, List.zipWith (fun x y => wrap64 (x * y)) s.2 t.2) := ⟨HO5.out, HO4.out, fun k hk e => HOD.out.apart k hk e⟩
        exact ((h1.setCell _ _ (by simp)).setCell _ _ (by simp)).mono (by omega)
      · exact (HBE.out.setCell (by simp; omega) _).setCell (by simp; omega) _
theorem sub_to {a0 a1 b0 b1 : Value} {s t : Ten} {w : World} (x : Int) (u : Ten) (ha : Tens w a0 a1 s) (hb' : Tens w b0 b1 t) (hx : fitE s t = x) (hu : eachR opS s t = u) :
    Calls Tryz.prog 58 #[.agg #[a0, a1], .agg #[b0, b1]] w fun e w' => ∃ x0 x1, e = .returned (.tuple #[.agg #[x0, x1], .int .i64 x]) ∧ OwnT w' w.heap.size x0 x1 u ∧ Below w.heap.size w w' := by
  subst hx hu
  exact sub_any ha hb'
theorem neg_to {a0 a1 : Value} {s : Ten} {w : World} (x : Int) (u : Ten) (ha : Tens w a0 a1 s) (hx : fitE s s = x) (hu : eachR opN s s = u) :
    Calls Tryz.prog 60 #[.agg #[a0, a1]] w fun e w' => ∃ x0 x1, e = .returned (.tuple #[.agg #[x0, x1], .int .i64 x]) ∧ OwnT w' w.heap.size x0 x1 u ∧ Below w.heap.size w w' := by
  subst hx hu
  exact neg_any ha
theorem scale_to {a0 a1 : Value} {s : Ten} {w : World} (n x : Int) (ha : Tens w a0 a1 s) (hx : tkE s = x) :
    Calls Tryz.prog 61 #[.agg #[a0, a1], .int .i64 n] w fun e w' => ∃ x0 x1, e = .returned (.tuple #[.agg #[x0, x1], .int .i64 x]) ∧ OwnT w' w.heap.size x0 x1 (sclR n s) ∧ Below w.heap.size w w' := by
  subst hx
  exact scale_any n ha
theorem reachA {a0 a1 b0 b1 : Value} {s t : Ten} {w : World} (ha : Tens w a0 a1 s) (hb' : Tens w b0 b1 t) (hf : fitE s t = 0) :
    Calls Tryz.prog 45 #[.agg #[a0, a1], .agg #[b0, b1], .int .i64 0] w fun e w' => ∃ x0 x1, e = .returned (.agg #[x0, x1]) ∧ OwnT w' w.heap.size x0 x1 (eachR opA s t) ∧ Below w.heap.size w w' := by
  obtain ⟨h1, h2, h3⟩ := fit_lens hf
  rw [each_ok_eq hf]
  exact reach_add ha hb' h1 h2 h3
theorem reachS {a0 a1 b0 b1 : Value} {s t : Ten} {w : World} (ha : Tens w a0 a1 s) (hb' : Tens w b0 b1 t) (hf : fitE s t = 0) :
    Calls Tryz.prog 45 #[.agg #[a0, a1], .agg #[b0, b1], .int .i64 1] w fun e w' => ∃ x0 x1, e = .returned (.agg #[x0, x1]) ∧ OwnT w' w.heap.size x0 x1 (eachR opS s t) ∧ Below w.heap.size w w' := by
  obtain ⟨h1, h2, h3⟩ := fit_lens hf
  rw [each_ok_eq hf, ← opS_fun]
  exact reach_sub ha hb' h1 h2 h3
theorem reachM {a0 a1 b0 b1 : Value} {s t : Ten} {w : World} (ha : Tens w a0 a1 s) (hb' : Tens w b0 b1 t) (hf : fitE s t = 0) :
    Calls Tryz.prog 45 #[.agg #[a0, a1], .agg #[b0, b1], .int .i64 2] w fun e w' => ∃ x0 x1, e = .returned (.agg #[x0, x1]) ∧ OwnT w' w.heap.size x0 x1 (eachR opM s t) ∧ Below w.heap.size w w' := by
  obtain ⟨h1, h2, h3⟩ := fit_lens hf
  rw [each_ok_eq hf]
  exact reach_mul ha hb' h1 h2 h3
end Go.Proofs.YtheddpjaihhbdabGreat
