/- Contracts: the page's Scale; Heavy; like; wakes. -/
import Derived.Test.YtoocfoodnkikeaaK7
namespace Go.Proofs.Ytoocfoodnkikeaa
set_option linter.unusedVariables false
set_option linter.unusedSimpArgs false
open Go.RowKit

set_option maxHeartbeats 4000000 in
theorem rscale_any {a0 a1 : Value} {s : Ten} {w : World} (m : Int) (ha : Tens w a0 a1 s) (hpos : 1 ≤ s.2.length) (h64 : s.2.length ≤ 64) :
    Calls Try.prog 23 #[.agg #[a0, a1], .int .i64 m] w fun e w' => ∃ x0 x1, e = .returned (.agg #[x0, x1]) ∧ OwnT w' w.heap.size x0 x1 (s.1, s.2.map (fun y => wrap64 (y * m))) ∧ Below w.heap.size w w' := by
  have hb : Below w.heap.size w ((w.alloc (.cells #[a0, a1] 28)).alloc (.cells #[.slice none 0 0, .slice none 0 0] 28)) := ((Below.refl _ _).alloc (Nat.le_refl _) _).alloc (by simp) _
  have HB : Hid (Below w.heap.size w ((w.alloc (.cells #[a0, a1] 28)).alloc (.cells #[.slice none 0 0, .slice none 0 0] 28))) := hb
  have HA : Hid (Tens ((w.alloc (.cells #[a0, a1] 28)).alloc (.cells #[.slice none 0 0, .slice none 0 0] 28)) a0 a1 s) := ha.later hb
  have HBX : Hid (Box ((w.alloc (.cells #[a0, a1] 28)).alloc (.cells #[.slice none 0 0, .slice none 0 0] 28)) (w.heap.size + 1) (.slice none 0 0) (.slice none 0 0)) := by
    have := Box.new (w.alloc (.cells #[a0, a1] 28)) (.slice none 0 0) (.slice none 0 0)
    simp only [World.size_alloc] at this
    exact this
  obtain ⟨n, hn⟩ : ∃ n : Nat, s.2.length = n := ⟨_, rfl⟩
  have HN : Hid (s.2.length = n) := hn
  have hn1 : 1 ≤ n := by omega
  have hn64 : n ≤ 64 := by omega
  clear ha hb hpos h64 hn
  go_enter Try.func23, Try.ntmps23
  go_wp2_with fail
  refine (copyT_any HA.out).mono ?_
  rintro e w1 ⟨x0, x1, rfl, ho, hb1'⟩
  simp only [World.size_alloc] at ho
  have hs1 := hb1'.size
  simp at hs1
  have HB1 : Hid (Below w.heap.size w w1) := Below.after HB.out hb1'
  obtain ⟨g, cap, ex⟩ := Joins.ownsRow_form ho.data.row (by have := HN.out; omega)
  have hgl := ho.data.lt
  have hgf := ho.data.frm
  have hcl : n ≤ cap := by
    rcases ho.data.row.2 with ⟨h0, _⟩ | ⟨g', cap', cur, he, _, _, h1, _⟩
    · rw [ex] at h0; simp at h0
    · rw [ex] at he
      simp only [Value.slice.injEq, Option.some.injEq, Addr.mk.injEq, and_true, true_and] at he
      have := HN.out
      omega
  subst ex
  have hg1 := hgl g rfl
  have hg2 := hgf g rfl
  have HO0 : Hid (Own w1 (w.heap.size + 1 + 1) x0 s.1) := ho.dims
  have HO1 : Hid (Own w1 (w.heap.size + 1 + 1) (.slice (some ⟨g, 0, none⟩) s.2.length cap) s.2) := ho.data
  have HOD : Hid (OwnT w1 (w.heap.size + 1 + 1) x0 (.slice (some ⟨g, 0, none⟩) s.2.length cap) s) := ho
  obtain ⟨xa, xc, rfl⟩ := ho.dims.ints.shape
  have HBX1 := HBX.out.later hb1'
  clear ho hb1' hgl hgf
  rw [HN.out]
  rw [HN.out] at HO1
  go_wp2
  have HOS : Hid (Own (w1.alloc (.cells #[.slice xa s.1.length xc, .slice (some ⟨g, 0, none⟩) n cap] 28)) (w.heap.size + 1 + 1) (.slice (some ⟨g, 0, none⟩) n cap) (mix (fun i => (fun y => wrap64 (y * m)) (s.2.getD i 0)) s.2 0)) := by
    show Own _ _ _ _
    rw [mix_zero]
    exact HO1.out.later ((Below.refl _ _).alloc (Nat.le_refl _) _)
  have HBXV : Hid (Box (w1.alloc (.cells #[.slice xa s.1.length xc, .slice (some ⟨g, 0, none⟩) n cap] 28)) (w.heap.size + 1) _ _) := HBX1.alloc _
  have HBTV : Hid (Box (w1.alloc (.cells #[.slice xa s.1.length xc, .slice (some ⟨g, 0, none⟩) n cap] 28)) w1.heap.size _ _) := Box.new w1 (.slice xa s.1.length xc) (.slice (some ⟨g, 0, none⟩) n cap)
  have HBV : Hid (Below w.heap.size w (w1.alloc (.cells #[.slice xa s.1.length xc, .slice (some ⟨g, 0, none⟩) n cap] 28))) := HB1.out.alloc (by omega) _
  have HO0V : Hid (Own (w1.alloc (.cells #[.slice xa s.1.length xc, .slice (some ⟨g, 0, none⟩) n cap] 28)) (w.heap.size + 1 + 1) (.slice xa s.1.length xc) s.1) := HO0.out.later ((Below.refl _ _).alloc (Nat.le_refl _) _)
  generalize (w1.alloc (.cells #[.slice xa s.1.length xc, .slice (some ⟨g, 0, none⟩) n cap] 28)) = V at HOS HBXV HBTV HBV HO0V ⊢
  clear HBX1 HO1 HO0
  go_loopw [6] (fun i w' => ∃ j : Nat, j ≤ n ∧ i = .int .i64 j ∧ Own w' (w.heap.size + 1 + 1) (.slice (some ⟨g, 0, none⟩) n cap) (mix (fun i => (fun y => wrap64 (y * m)) (s.2.getD i 0)) s.2 j) ∧ But g V w') (fun i _ => n - (intOf i).toNat)
  case atStart => exact ⟨0, by omega, rfl, HOS.out, But.refl _ _⟩
  case round =>
    obtain ⟨j, hj, rfl, hO, hbut⟩ := hrel
    have HO3 : Hid (Own wr (w.heap.size + 1 + 1) (.slice (some ⟨g, 0, none⟩) n cap) (mix (fun i => (fun y => wrap64 (y * m)) (s.2.getD i 0)) s.2 j)) := hO
    have HBT3 : Hid (But g V wr) := hbut
    have hct := (hbut.box HBTV.out (by omega)).c1
    have hct0 := (hbut.box HBTV.out (by omega)).c0
    clear hO hbut
    by_cases hlt : j < n
    · obtain ⟨hc, hf, hp⟩ := HO3.out.put (by rw [mix_length]; exact HN.out) j hlt ((fun y => wrap64 (y * m)) (s.2.getD j 0))
      rw [mix_get _ _ _ (by rw [HN.out]; exact hlt)] at hc
      have HP : Hid (Own (wr.setCell ⟨g, j, none⟩ (.int .i64 ((fun y => wrap64 (y * m)) (s.2.getD j 0)))) (w.heap.size + 1 + 1) (.slice (some ⟨g, 0, none⟩) n cap) (mix (fun i => (fun y => wrap64 (y * m)) (s.2.getD i 0)) s.2 (j + 1))) := by
        rw [mix_set (fun i => (fun y => wrap64 (y * m)) (s.2.getD i 0))] at hp
        exact hp
      clear hp
      have hlt0 : (0 : Int) ≤ (j : Int) := by omega
      have hlt1 : (j : Int) < n := by omega
      go_wp2
      go_region
      go_wp2
      go_roundw
      case rel => exact ⟨j + 1, by omega, by go_num, HP.out.drew, (HBT3.out.setCell _).drew⟩
      case measure => simp [intOf]; omega
    · have hj' : j = n := by omega
      subst hj'
      have hbx := HBT3.out.box HBXV.out (by omega)
      have l0 := hbx.c0
      have l1 := hbx.c1
      have m0 := hbx.f 0
      have m1 := hbx.f 1
      have HBS : Hid (Box _ _ _ _) := hbx.set (.slice xa s.1.length xc) (.slice (some ⟨g, 0, none⟩) j cap)
      have HO4 : Hid (Own wr (w.heap.size + 1 + 1) (.slice (some ⟨g, 0, none⟩) j cap) (s.2.map (fun y => wrap64 (y * m)))) := by
        have h1 := HO3.out
        have h2 := mix_map (fun y => wrap64 (y * m)) s.2
        rw [HN.out] at h2
        rw [h2] at h1
        exact h1
      have HO5 : Hid (Own wr (w.heap.size + 1 + 1) (.slice xa s.1.length xc) s.1) := HO0V.out.at fun k hk => HBT3.out.block k (fun e => HOD.out.apart k hk (by rw [e]; rfl))
      have HBE : Hid (Below w.heap.size w wr) := HBT3.out.below HBV.out (by omega)
      clear hbx
      go_wp2
      have hr0 := HBS.out.c0
      have hr1 := HBS.out.c1
      refine bodyPost_ret (v := .agg #[.slice xa s.1.length xc, .slice (some ⟨g, 0, none⟩) j cap]) (by simp [results, Try.results23, go_sem, hr0, hr1]) rfl ⟨_, _, rfl, ?_, ?_⟩
      · have h1 : OwnT wr (w.heap.size + 1 + 1) (.slice xa s.1.length xc) (.slice (some ⟨g, 0, none⟩) j cap) (s.1, s.2.map (fun y => wrap64 (y * m))) := ⟨HO5.out, HO4.out, fun k hk e => HOD.out.apart k hk e⟩
        exact ((h1.setCell _ _ (by simp)).setCell _ _ (by simp)).mono (by omega)
      · exact (HBE.out.setCell (by simp) _).setCell (by simp) _

set_option maxHeartbeats 4000000 in
theorem like_any {a0 a1 b0 b1 : Value} {s t : Ten} {w : World} (ha : Tens w a0 a1 s) (hb' : Tens w b0 b1 t) (hpos : 1 ≤ s.2.length) (h64 : s.2.length ≤ 64) :
    Calls Try.prog 25 #[.agg #[a0, a1], .agg #[b0, b1]] w fun e w' => ∃ x0 x1 d, e = .returned (.agg #[x0, x1]) ∧ d.length = s.2.length ∧ OwnT w' w.heap.size x0 x1 (s.1, d) ∧ Below w.heap.size w w' := by
  have hb : Below w.heap.size w (((w.alloc (.cells #[a0, a1] 28)).alloc (.cells #[b0, b1] 28)).alloc (.cells #[.slice none 0 0, .slice none 0 0] 28)) := (((Below.refl _ _).alloc (Nat.le_refl _) _).alloc (by simp) _).alloc (by simp; omega) _
  have HB : Hid (Below w.heap.size w (((w.alloc (.cells #[a0, a1] 28)).alloc (.cells #[b0, b1] 28)).alloc (.cells #[.slice none 0 0, .slice none 0 0] 28))) := hb
  have HA : Hid (Tens (((w.alloc (.cells #[a0, a1] 28)).alloc (.cells #[b0, b1] 28)).alloc (.cells #[.slice none 0 0, .slice none 0 0] 28)) a0 a1 s) := ha.later hb
  have HT2 : Hid (Ints w b1 t.2) := hb'.2
  have HBB : Hid (Box (((w.alloc (.cells #[a0, a1] 28)).alloc (.cells #[b0, b1] 28)).alloc (.cells #[.slice none 0 0, .slice none 0 0] 28)) (w.heap.size + 1) b0 b1) := by
    have := (Box.new (w.alloc (.cells #[a0, a1] 28)) b0 b1).alloc (.cells #[.slice none 0 0, .slice none 0 0] 28)
    simp only [World.size_alloc] at this
    exact this
  have HBX : Hid (Box (((w.alloc (.cells #[a0, a1] 28)).alloc (.cells #[b0, b1] 28)).alloc (.cells #[.slice none 0 0, .slice none 0 0] 28)) (w.heap.size + 1 + 1) (.slice none 0 0) (.slice none 0 0)) := by
    have := Box.new ((w.alloc (.cells #[a0, a1] 28)).alloc (.cells #[b0, b1] 28)) (.slice none 0 0) (.slice none 0 0)
    simp only [World.size_alloc] at this
    exact this
  have hlt2 := hb'.2.len
  unfold big at hlt2
  obtain ⟨n, hn⟩ : ∃ n : Nat, s.2.length = n := ⟨_, rfl⟩
  have HN : Hid (s.2.length = n) := hn
  have hn1 : 1 ≤ n := by omega
  have hn64 : n ≤ 64 := by omega
  obtain ⟨ba, bc, rfl⟩ := hb'.2.shape
  clear ha hb hpos h64 hn hb'
  go_enter Try.func25, Try.ntmps25
  go_wp2_with fail
  refine (copyT_any HA.out).mono ?_
  rintro e w1 ⟨x0, x1, rfl, ho, hb1'⟩
  simp only [World.size_alloc] at ho
  have hs1 := hb1'.size
  simp at hs1
  have HB1 : Hid (Below w.heap.size w w1) := Below.after HB.out hb1'
  obtain ⟨g, cap, ex⟩ := Joins.ownsRow_form ho.data.row (by have := HN.out; omega)
  have hgl := ho.data.lt
  have hgf := ho.data.frm
  have hcl : n ≤ cap := by
    rcases ho.data.row.2 with ⟨h0, _⟩ | ⟨g', cap', cur, he, _, _, h1, _⟩
    · rw [ex] at h0; simp at h0
    · rw [ex] at he
      simp only [Value.slice.injEq, Option.some.injEq, Addr.mk.injEq, and_true, true_and] at he
      have := HN.out
      omega
  subst ex
  have hg1 := hgl g rfl
  have hg2 := hgf g rfl
  have HOD : Hid (OwnT w1 (w.heap.size + 1 + 1 + 1) x0 (.slice (some ⟨g, 0, none⟩) s.2.length cap) s) := ho
  obtain ⟨xa, xc, rfl⟩ := ho.dims.ints.shape
  have HBX1 := HBX.out.later hb1'
  have HBB1 := HBB.out.later hb1'
  clear ho hb1' hgl hgf
  rw [HN.out]
  rw [HN.out] at HOD
  go_wp2
  have hvb : Below w1.heap.size w1 (w1.alloc (.cells #[.slice xa s.1.length xc, .slice (some ⟨g, 0, none⟩) n cap] 28)) := (Below.refl _ _).alloc (Nat.le_refl _) _
  have HOS : Hid (OwnT (w1.alloc (.cells #[.slice xa s.1.length xc, .slice (some ⟨g, 0, none⟩) n cap] 28)) (w.heap.size + 1 + 1 + 1) (.slice xa s.1.length xc) (.slice (some ⟨g, 0, none⟩) n cap) s) := HOD.out.later hvb
  have HBXV : Hid (Box (w1.alloc (.cells #[.slice xa s.1.length xc, .slice (some ⟨g, 0, none⟩) n cap] 28)) (w.heap.size + 1 + 1) _ _) := HBX1.alloc _
  have HBBV : Hid (Box (w1.alloc (.cells #[.slice xa s.1.length xc, .slice (some ⟨g, 0, none⟩) n cap] 28)) (w.heap.size + 1) _ _) := HBB1.alloc _
  have HBTV : Hid (Box (w1.alloc (.cells #[.slice xa s.1.length xc, .slice (some ⟨g, 0, none⟩) n cap] 28)) w1.heap.size _ _) := Box.new w1 (.slice xa s.1.length xc) (.slice (some ⟨g, 0, none⟩) n cap)
  have HBV : Hid (Below w.heap.size w (w1.alloc (.cells #[.slice xa s.1.length xc, .slice (some ⟨g, 0, none⟩) n cap] 28))) := HB1.out.alloc (by omega) _
  clear hvb
  generalize (w1.alloc (.cells #[.slice xa s.1.length xc, .slice (some ⟨g, 0, none⟩) n cap] 28)) = V at HOS HBXV HBBV HBTV HBV ⊢
  clear HBX1 HBB1 HOD
  go_loopw [6] (fun i w' => ∃ (j : Nat) (d : List Int), j ≤ n ∧ i = .int .i64 j ∧ d.length = n ∧ Own w' (w.heap.size + 1 + 1 + 1) (.slice (some ⟨g, 0, none⟩) n cap) d ∧ But g V w') (fun i _ => n - (intOf i).toNat)
  case atStart => exact ⟨0, s.2, by omega, rfl, HN.out, HOS.out.data, But.refl _ _⟩
  case round =>
    obtain ⟨j, d, hj, rfl, hdl, hO, hbut⟩ := hrel
    have HDL : Hid (d.length = n) := hdl
    have HO3 : Hid (Own wr (w.heap.size + 1 + 1 + 1) (.slice (some ⟨g, 0, none⟩) n cap) d) := hO
    have HBT3 : Hid (But g V wr) := hbut
    have hct := (hbut.box HBTV.out (by omega)).c1
    have hct0 := (hbut.box HBTV.out (by omega)).c0
    clear hO hbut hdl
    by_cases hlt : j < n
    · have hcb := (HBT3.out.box HBBV.out (by omega)).c1
      obtain ⟨hc, hf, _⟩ := HO3.out.put HDL.out j hlt 0
      have hlt0 : (0 : Int) ≤ (j : Int) := by omega
      have hlt1 : (j : Int) < n := by omega
      have hjj : (j : Int) * j ≤ 64 * 64 := Int.mul_le_mul (by omega) (by omega) (by omega) (by omega)
      have hjj0 : 0 ≤ (j : Int) * j := Int.mul_nonneg hlt0 hlt0
      by_cases hz : t.2.length = 0
      · have hz1 : (t.2.length : Int) = 0 := by omega
        have HP := HO3.out.put HDL.out j hlt ((j : Int) * j - 7)
        have HP1 : Hid (Own (wr.setCell ⟨g, j, none⟩ (.int .i64 ((j : Int) * j - 7))) (w.heap.size + 1 + 1 + 1) (.slice (some ⟨g, 0, none⟩) n cap) (d.set j ((j : Int) * j - 7))) := HP.2.2
        have hcb2 := ((HBT3.out.setCell (j := j) (.int .i64 ((j : Int) * j - 7))).box HBBV.out (by omega)).c1
        clear HP
        go_wp2
        go_roundw
        case rel => exact ⟨j + 1, _, by omega, by go_num, by rw [List.length_set]; exact HDL.out, HP1.out, HBT3.out.setCell _⟩
        case measure => simp [intOf]; omega
      · have hz1 : 0 < (t.2.length : Int) := by omega
        have HP := HO3.out.put HDL.out j hlt ((j : Int) * j - 7)
        have HP1 : Hid (Own (wr.setCell ⟨g, j, none⟩ (.int .i64 ((j : Int) * j - 7))) (w.heap.size + 1 + 1 + 1) (.slice (some ⟨g, 0, none⟩) n cap) (d.set j ((j : Int) * j - 7))) := HP.2.2
        have hbu := HBT3.out.setCell (j := j) (.int .i64 ((j : Int) * j - 7))
        have hcb2 := (hbu.box HBBV.out (by omega)).c1
        have hct2 := (hbu.box HBTV.out (by omega)).c1
        obtain ⟨hc2, hf2, _⟩ := HP1.out.put (by rw [List.length_set]; exact HDL.out) j hlt 0
        have HBU : Hid (But g V (wr.setCell ⟨g, j, none⟩ (.int .i64 ((j : Int) * j - 7)))) := hbu
        rcases HT2.out.cases with ⟨e, _⟩ | ⟨bb, bo, bc', eb, hb0, hb1, hb2, HCB⟩
        · rw [e] at hz; simp at hz
        simp only [Value.slice.injEq, true_and] at eb
        obtain ⟨rfl, rfl⟩ := eb
        have hbb : bb < w.heap.size := World.block_lt_of_cell? _ _ (HCB.out 0 hb0)
        have hq : j % t.2.length < t.2.length := Nat.mod_lt _ hb0
        have hy : (wr.setCell ⟨g, j, none⟩ (.int .i64 ((j : Int) * j - 7))).cell? ⟨bb, bo + j % t.2.length, none⟩ = some (.int .i64 (t.2.getD (j % t.2.length) 0)) := (hbu.cell (by simp; omega)).trans ((HBV.out.cell (by simp; omega)).trans (Ints.cellD (n := 0) (c := 0) HCB _ hq))
        have HPB : Hid (∀ x, Own ((wr.setCell ⟨g, j, none⟩ (.int .i64 ((j : Int) * j - 7))).setCell ⟨g, j, none⟩ (.int .i64 x)) (w.heap.size + 1 + 1 + 1) (.slice (some ⟨g, 0, none⟩) n cap) ((d.set j ((j : Int) * j - 7)).set j x)) := fun x => (HP1.out.put (by rw [List.length_set]; exact HDL.out) j hlt x).2.2
        clear HP hbu hb2
        have HPU : Hid (∀ x, But g V ((wr.setCell ⟨g, j, none⟩ (.int .i64 ((j : Int) * j - 7))).setCell ⟨g, j, none⟩ (.int .i64 x))) := fun x => HBU.out.setCell _
        go_wp2
        generalize (wr.setCell ⟨g, j, none⟩ (.int .i64 ((j : Int) * j - 7))) = V2 at hcb2 hct2 hc2 hf2 hy HPB HPU HBU ⊢
        clear hcb hc hf hct hct0 hjj hjj0 HP1
        go_region
        go_wp2
        go_roundw
        case rel => exact ⟨j + 1, _, by omega, by go_num, by rw [List.length_set, List.length_set]; exact HDL.out, (HPB.out _).drew, (HPU.out _).drew⟩
        case measure => simp [intOf]; omega
    · have hj' : j = n := by omega
      subst hj'
      have hbx := HBT3.out.box HBXV.out (by omega)
      have l0 := hbx.c0
      have l1 := hbx.c1
      have m0 := hbx.f 0
      have m1 := hbx.f 1
      have HBS : Hid (Box _ _ _ _) := hbx.set (.slice xa s.1.length xc) (.slice (some ⟨g, 0, none⟩) j cap)
      have HO5 : Hid (Own wr (w.heap.size + 1 + 1 + 1) (.slice xa s.1.length xc) s.1) := HOS.out.dims.at fun k hk => HBT3.out.block k (fun e => HOS.out.apart k hk (by rw [e]; rfl))
      have HBE : Hid (Below w.heap.size w wr) := HBT3.out.below HBV.out (by omega)
      clear hbx
      go_wp2
      have hr0 := HBS.out.c0
      have hr1 := HBS.out.c1
      refine bodyPost_ret (v := .agg #[.slice xa s.1.length xc, .slice (some ⟨g, 0, none⟩) j cap]) (by simp [results, Try.results25, go_sem, hr0, hr1]) rfl ⟨_, _, d, rfl, by rw [HDL.out, HN.out], ?_, ?_⟩
      · have h1 : OwnT wr (w.heap.size + 1 + 1 + 1) (.slice xa s.1.length xc) (.slice (some ⟨g, 0, none⟩) j cap) (s.1, d) := ⟨HO5.out, HO3.out, HOS.out.apart⟩
        exact ((h1.setCell _ _ (by simp)).setCell _ _ (by simp)).mono (by omega)
      · exact (HBE.out.setCell (by simp; omega) _).setCell (by simp; omega) _

theorem Ints.shape3 {w : World} {v : Value} {d : List Int} (h : Ints w v d) : ∃ a n c, v = .slice a n c := by
  obtain ⟨a, c, rfl⟩ := h.shape
  exact ⟨_, _, _, rfl⟩
theorem Blk.newer (w : World) (xs : List Int) (B : Nat) (hB : B = w.heap.size) : Blk (w.alloc (.cells (ia xs) 3)) B xs := by
  subst hB
  exact Blk.new w xs
theorem sub_to {a0 a1 b0 b1 : Value} {s t : Ten} {w : World} (x : Int) (u : Ten) (ha : Tens w a0 a1 s) (hb' : Tens w b0 b1 t) (hx : fitE s t = x) (hu : eachR opS s t = u) :
    Calls Try.prog 10 #[.agg #[a0, a1], .agg #[b0, b1]] w fun e w' => ∃ x0 x1, e = .returned (.tuple #[.agg #[x0, x1], .int .i64 x]) ∧ OwnT w' w.heap.size x0 x1 u ∧ Below w.heap.size w w' := by
  subst hx hu
  exact sub_any ha hb'
theorem dot_to {a0 a1 b0 b1 : Value} {s t : Ten} {w : World} (x y : Int) (ha : Tens w a0 a1 s) (hb' : Tens w b0 b1 t) (hx : fitE s t = x) (hy : dotV s t = y) :
    Calls Try.prog 12 #[.agg #[a0, a1], .agg #[b0, b1]] w fun e w' => e = .returned (.tuple #[.int .i64 y, .int .i64 x]) ∧ Below w.heap.size w w' := by
  subst hx hy
  exact dot_any ha hb'
theorem eqn_to {v v' : Value} {a b : List Int} {w : World} (x : Bool) (ha : Ints w v a) (hb : Ints w v' b) (hx : (a == b) = x) :
    Calls Try.prog 14 #[v, v'] w fun e w' => e = .returned (.bool x) ∧ ∃ n, w' = w.drewN n := by
  subst hx
  exact eqn_any ha hb

set_option maxHeartbeats 2000000 in
theorem wakes_any (w : World) : Calls Try.prog 20 #[] w fun e w' => e = .returned (.bool true) ∧ Below w.heap.size w w' := by
  have hb : Below w.heap.size w (((w.alloc (.cells #[.int .i64 2] 3)).alloc (.cells #[.int .i64 3, .int .i64 (-4)] 3)).alloc (.cells #[.slice (some ⟨w.heap.size, 0, none⟩) 1 1, .slice (some ⟨w.heap.size + 1, 0, none⟩) 2 2] 28)) := (((Below.refl _ _).alloc (Nat.le_refl _) _).alloc (by simp) _).alloc (by simp; omega) _
  have HB : Hid (Below w.heap.size w (((w.alloc (.cells #[.int .i64 2] 3)).alloc (.cells #[.int .i64 3, .int .i64 (-4)] 3)).alloc (.cells #[.slice (some ⟨w.heap.size, 0, none⟩) 1 1, .slice (some ⟨w.heap.size + 1, 0, none⟩) 2 2] 28))) := hb
  have k0 : Blk (((w.alloc (.cells #[.int .i64 2] 3)).alloc (.cells #[.int .i64 3, .int .i64 (-4)] 3)).alloc (.cells #[.slice (some ⟨w.heap.size, 0, none⟩) 1 1, .slice (some ⟨w.heap.size + 1, 0, none⟩) 2 2] 28)) w.heap.size [2] := (((Blk.newer w [2] _ rfl)).alloc _).alloc _
  have k1 : Blk (((w.alloc (.cells #[.int .i64 2] 3)).alloc (.cells #[.int .i64 3, .int .i64 (-4)] 3)).alloc (.cells #[.slice (some ⟨w.heap.size, 0, none⟩) 1 1, .slice (some ⟨w.heap.size + 1, 0, none⟩) 2 2] 28)) (w.heap.size + 1) [3, -4] := (Blk.newer (w.alloc (.cells #[.int .i64 2] 3)) [3, -4] (w.heap.size + 1) (by simp)).alloc _
  have HA : Hid (Tens (((w.alloc (.cells #[.int .i64 2] 3)).alloc (.cells #[.int .i64 3, .int .i64 (-4)] 3)).alloc (.cells #[.slice (some ⟨w.heap.size, 0, none⟩) 1 1, .slice (some ⟨w.heap.size + 1, 0, none⟩) 2 2] 28)) (.slice (some ⟨w.heap.size, 0, none⟩) 1 1) (.slice (some ⟨w.heap.size + 1, 0, none⟩) 2 2) ([2], [3, -4])) :=
    ⟨k0.ints 1 1 rfl (Nat.le_refl _) (by decide), k1.ints 2 2 rfl (Nat.le_refl _) (by decide)⟩
  have HBX : Hid (Box (((w.alloc (.cells #[.int .i64 2] 3)).alloc (.cells #[.int .i64 3, .int .i64 (-4)] 3)).alloc (.cells #[.slice (some ⟨w.heap.size, 0, none⟩) 1 1, .slice (some ⟨w.heap.size + 1, 0, none⟩) 2 2] 28)) (w.heap.size + 1 + 1) (.slice (some ⟨w.heap.size, 0, none⟩) 1 1) (.slice (some ⟨w.heap.size + 1, 0, none⟩) 2 2)) := by
    have := Box.new ((w.alloc (.cells #[.int .i64 2] 3)).alloc (.cells #[.int .i64 3, .int .i64 (-4)] 3)) (.slice (some ⟨w.heap.size, 0, none⟩) 1 1) (.slice (some ⟨w.heap.size + 1, 0, none⟩) 2 2)
    simp only [World.size_alloc] at this
    exact this
  clear hb k0 k1
  go_enter Try.func20, Try.ntmps20
  go_wp2_with fail
  refine (sub_to 0 ([2], [0, 0]) HA.out HA.out (by decide +kernel) (by decide +kernel)).mono ?_
  rintro e w1 ⟨x0, x1, rfl, ho, hb1⟩
  have HB1 : Hid (Below w.heap.size w w1) := Below.after HB.out hb1
  have hbn : Below w1.heap.size w1 (w1.alloc (.cells #[x0, x1] 28)) := (Below.refl _ _).alloc (Nat.le_refl _) _
  have HX : Hid (Tens (w1.alloc (.cells #[x0, x1] 28)) x0 x1 ([2], [0, 0])) := ho.tens.later hbn
  have HBX1 : Hid (Box (w1.alloc (.cells #[x0, x1] 28)) w1.heap.size x0 x1) := Box.new _ _ _
  have hbx := (HBX.out.later hb1).later hbn
  have e0 := hbx.c0
  have e1 := hbx.c1
  have HA1 : Hid (Tens (w1.alloc (.cells #[x0, x1] 28)) (.slice (some ⟨w.heap.size, 0, none⟩) 1 1) (.slice (some ⟨w.heap.size + 1, 0, none⟩) 2 2) ([2], [3, -4])) := (HA.out.later hb1).later hbn
  have HB2 : Hid (Below w.heap.size w (w1.alloc (.cells #[x0, x1] 28))) := Below.after HB1.out hbn
  obtain ⟨xa, xn, xc, rfl⟩ := ho.dims.ints.shape3
  obtain ⟨ya, yn, yc, rfl⟩ := ho.data.ints.shape3
  clear hb1 hbn ho hbx
  go_wp2_with fail
  refine (dot_to 0 25 HA1.out HA1.out (by decide +kernel) (by decide +kernel)).mono ?_
  rintro e w2 ⟨rfl, hb2⟩
  have HB3 : Hid (Below w.heap.size w w2) := Below.after HB2.out hb2
  have hbx := HBX1.out.later hb2
  have f1 := hbx.c1
  have hbn : Below w2.heap.size w2 (w2.alloc (.cells #[.int .i64 0, .int .i64 0] 3)) := (Below.refl _ _).alloc (Nat.le_refl _) _
  have HX2 : Hid (Ints (w2.alloc (.cells #[.int .i64 0, .int .i64 0] 3)) (.slice ya yn yc) [0, 0]) := (HX.out.later hb2).2.later hbn
  have HZ : Hid (Ints (w2.alloc (.cells #[.int .i64 0, .int .i64 0] 3)) (.slice (some ⟨w2.heap.size, 0, none⟩) 2 2) [0, 0]) := two_ints w2 0 0
  have HB4 : Hid (Below w.heap.size w (w2.alloc (.cells #[.int .i64 0, .int .i64 0] 3))) := Below.after HB3.out hbn
  clear hb2 hbn hbx
  go_wp2_with (go_at_call 17; refine (num_any _ _).mono ?_; rintro e w' ⟨rfl, rfl⟩)
  refine (eqn_to true HX2.out HZ.out (by decide)).mono ?_
  rintro e w3 ⟨rfl, n3, rfl⟩
  go_wp2
  go_ret
  exact ⟨rfl, Below.drewN HB4.out _⟩

set_option maxHeartbeats 400000 in
theorem heavy2_any {f0 f1 : Value} {T : List Ten} {L : List Int} {w : World} (h0 : TensL w f0 T) (h1 : Ints w f1 L) :
    Calls Try.prog 7 #[.agg #[f0, f1]] w fun e w' => ∃ b, e = .returned (.bool b) ∧ Below w.heap.size w w' := by
  have hb : Below w.heap.size w (w.alloc (.cells #[f0, f1] 25)) := (Below.refl _ _).alloc (Nat.le_refl _) _
  have H0 : Hid (TensL (w.alloc (.cells #[f0, f1] 25)) f0 T) := h0.later hb
  obtain ⟨na, nc, rfl⟩ := h1.shape
  obtain ⟨_, a0, c0, rfl, _⟩ := h0
  have hn := h1.len
  unfold big at hn
  clear h1
  have HB : Hid (Below w.heap.size w (w.alloc (.cells #[.slice a0 T.length c0, .slice na L.length nc] 25))) := hb
  clear hb
  go_enter Try.func7, Try.ntmps7
  go_wp2
  go_quiet (first | (go_at_call 28; exact Calls.quiet_of (tensw_any (H0.out.later (drew_below _)))))
  go_wp2
  go_ret
  exact ⟨_, rfl, Below.drewN HB.out _⟩

theorem lists_nil {w : World} : Calls Try.prog 36 #[.slice none 0 0] w fun e w' => e = .returned (.int .i64 0) ∧ w = w' :=
  lists_any (L := []) ⟨Nat.zero_le _, none, 0, rfl, Nat.le_refl _, fun i hi => by simp at hi⟩
theorem tensw_nil {w : World} : Calls Try.prog 28 #[.slice none 0 0] w fun e w' => e = .returned (.int .i64 0) ∧ ∃ n, w' = w.drewN n :=
  tensw_any (L := []) ⟨Nat.zero_le _, none, 0, rfl, Nat.le_refl _, fun i hi => by simp at hi⟩
set_option maxHeartbeats 400000 in
theorem heavy1_nil {w : World} :
    Calls Try.prog 26 #[.agg #[.slice none 0 0, .slice none 0 0, .slice none 0 0, .slice none 0 0]] w fun e w' => e = .returned (.bool false) ∧ Below w.heap.size w w' := by
  have HB : Hid (Below w.heap.size w (w.alloc (.cells #[.slice none 0 0, .slice none 0 0, .slice none 0 0, .slice none 0 0] 51))) := (Below.refl _ _).alloc (Nat.le_refl _) _
  go_enter Try.func26, Try.ntmps26
  go_wp2
  go_quiet (first | (go_at_call 36; exact quiet_eq lists_nil) | (go_at_call 28; exact Calls.quiet_of tensw_nil))
  go_wp2
  go_ret
  exact ⟨rfl, Below.drewN HB.out _⟩
end Go.Proofs.Ytoocfoodnkikeaa
