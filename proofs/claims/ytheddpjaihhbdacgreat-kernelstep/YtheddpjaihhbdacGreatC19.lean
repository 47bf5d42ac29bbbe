/- Carried: D3, J1, J2, J3, V2, V3, V7, V8, V9. -/
import Derived.Test.YtheddpjaihhbdacGreatC18
namespace Go.Proofs.YtheddpjaihhbdacGreat
set_option linter.unusedVariables false
set_option linter.unusedSimpArgs false
set_option maxRecDepth 100000
open Go.RowKit

set_option maxRecDepth 100000 in
set_option maxHeartbeats 4000000 in
theorem rmax_ok {a0 a1 : Value} {s : Ten} {w : World} (n m L : Nat) (ha : Tens w a0 a1 s) (hx : tok s = true) (hn1 : 1 ≤ n) (hn8 : n ≤ 8) (hm1 : 1 ≤ m) (hL : s.2.length = L) (hm : L = m * n) (hok : okd (lesD s.1 n) = true) (hpm : (prd (lesD s.1 n)).toNat = m) :
    Calls Tryz.prog 52 #[.agg #[a0, a1], .int .i64 n] w fun e w' => ∃ x0 x1, e = .returned (.agg #[x0, x1]) ∧ OwnT w' w.heap.size x0 x1 (lesD s.1 n, maxs n m s.2) ∧ Below w.heap.size w w' := by
  have hpos := tok_pos hx
  rw [hL] at hpos
  obtain ⟨aa, an, ac0, rfl⟩ := ha.1.shape3
  obtain ⟨ab, ao, ac, rfl, hac, hca⟩ := Own.getD ha.2 hL hpos.1
  have hb : Below w.heap.size w ((w.alloc (.cells #[.slice aa an ac0, .slice (some ⟨ab, ao, none⟩) L ac] 34)).alloc (.cells #[.slice none 0 0, .slice none 0 0] 34)) := (((Below.refl _ _).alloc (Nat.le_refl _) _).alloc (by simp) _)
  have HB : Hid (Below w.heap.size w ((w.alloc (.cells #[.slice aa an ac0, .slice (some ⟨ab, ao, none⟩) L ac] 34)).alloc (.cells #[.slice none 0 0, .slice none 0 0] 34))) := hb
  have HA : Hid (Tens ((w.alloc (.cells #[.slice aa an ac0, .slice (some ⟨ab, ao, none⟩) L ac] 34)).alloc (.cells #[.slice none 0 0, .slice none 0 0] 34)) (.slice aa an ac0) (.slice (some ⟨ab, ao, none⟩) L ac) s) := ha.later hb
  have HBA : Hid (Box ((w.alloc (.cells #[.slice aa an ac0, .slice (some ⟨ab, ao, none⟩) L ac] 34)).alloc (.cells #[.slice none 0 0, .slice none 0 0] 34)) w.heap.size (.slice aa an ac0) (.slice (some ⟨ab, ao, none⟩) L ac)) := (Box.new w _ _).alloc _
  have HBX : Hid (Box ((w.alloc (.cells #[.slice aa an ac0, .slice (some ⟨ab, ao, none⟩) L ac] 34)).alloc (.cells #[.slice none 0 0, .slice none 0 0] 34)) (w.heap.size + 1) (.slice none 0 0) (.slice none 0 0)) := by
    have := Box.new (w.alloc (.cells #[.slice aa an ac0, .slice (some ⟨ab, ao, none⟩) L ac] 34)) (.slice none 0 0) (.slice none 0 0)
    simp only [World.size_alloc] at this
    exact this
  have hab : ab < w.heap.size := World.block_lt_of_cell? _ _ (hca 0 (by omega))
  have HCD : Hid (∀ i, i < L → w.cell? ⟨ab, ao + i, none⟩ = some (.int .i64 (s.2.getD i 0))) := hca
  have HOK : Hid (okd s.1 = true) := tok_okd hx
  have HO2 : Hid (okd (lesD s.1 n) = true) := hok
  have HPM : Hid ((prd (lesD s.1 n)).toNat = m) := hpm
  have HLM : Hid (L = m * n) := hm
  have hL64 := hpos.2
  have hm64 : m ≤ 64 := by
    have : m * 1 ≤ m * n := Nat.mul_le_mul_left m hn1
    omega
  clear ha hb hca hx hok hpm hL hpos hm
  go_enter Tryz.func52, Tryz.ntmps52
  go_wp2_with fail
  refine (less_ok n HA.out.1 HOK.out hn1 hn8).mono ?_
  rintro e w1 ⟨x, rfl, ho, hb1⟩
  obtain ⟨la, ln, lc, rfl⟩ := ho.ints.shape3
  have HI : Hid (Ints w1 (.slice la ln lc) (lesD s.1 n)) := ho.ints
  have HB1 : Hid (Below w.heap.size w w1) := Below.after HB.out hb1
  have HBA1 : Hid (Box w1 w.heap.size (.slice aa an ac0) (.slice (some ⟨ab, ao, none⟩) L ac)) := HBA.out.later hb1
  have HBX1 : Hid (Box w1 (w.heap.size + 1) (.slice none 0 0) (.slice none 0 0)) := HBX.out.later hb1
  have hs1 := hb1.size
  simp at hs1
  clear ho hb1 HBA HBX HA
  go_wp2_with fail
  refine (rfill_own 0 HI.out HO2.out).mono ?_
  rw [HPM.out]
  rintro e w2 ⟨x0, x1, rfl, ho, hb2⟩
  have hs2 := hb2.size
  obtain ⟨xa, xn, xc, rfl⟩ := ho.dims.ints.shape3
  obtain ⟨g, cap, e1, hcap, hg1, hg2⟩ := ho.data.form (by simp; omega)
  simp only [List.length_replicate] at e1 hcap
  subst e1
  have HAP : Hid (∀ k, (Value.slice xa xn xc).ownBlock = some k → k ≠ g) := fun k hk e => ho.apart k hk (by rw [e]; rfl)
  have HB2 : Hid (Below w.heap.size w (w2.alloc (.cells #[.slice xa xn xc, .slice (some ⟨g, 0, none⟩) m cap] 34))) := Below.push (Below.after HB1.out hb2) _
  have HBA2 : Hid (Box (w2.alloc (.cells #[.slice xa xn xc, .slice (some ⟨g, 0, none⟩) m cap] 34)) w.heap.size (.slice aa an ac0) (.slice (some ⟨ab, ao, none⟩) L ac)) := (HBA1.out.later hb2).alloc _
  have HBX2 : Hid (Box (w2.alloc (.cells #[.slice xa xn xc, .slice (some ⟨g, 0, none⟩) m cap] 34)) (w.heap.size + 1) (.slice none 0 0) (.slice none 0 0)) := (HBX1.out.later hb2).alloc _
  have HBT2 : Hid (Box (w2.alloc (.cells #[.slice xa xn xc, .slice (some ⟨g, 0, none⟩) m cap] 34)) w2.heap.size (.slice xa xn xc) (.slice (some ⟨g, 0, none⟩) m cap)) := Box.new _ _ _
  have HOD : Hid (Own (w2.alloc (.cells #[.slice xa xn xc, .slice (some ⟨g, 0, none⟩) m cap] 34)) (w.heap.size + 1 + 1) (.slice xa xn xc) (lesD s.1 n)) := (ho.dims.mono hs1).later (Below.push (Below.refl _ _) _)
  have HOK2 : Hid (Own (w2.alloc (.cells #[.slice xa xn xc, .slice (some ⟨g, 0, none⟩) m cap] 34)) (w.heap.size + 1 + 1) (.slice (some ⟨g, 0, none⟩) m cap) (lay (mC n s.2) m 0)) := by
    show Own _ _ _ _
    rw [lay_zero]
    exact (ho.data.mono hs1).later (Below.push (Below.refl _ _) _)
  have hsv : (w2.alloc (.cells #[.slice xa xn xc, .slice (some ⟨g, 0, none⟩) m cap] 34)).heap.size = w2.heap.size + 1 := by simp
  clear ho hb2 HBA1 HBX1 HB1 HB HI
  go_wp2
  generalize (w2.alloc (.cells #[.slice xa xn xc, .slice (some ⟨g, 0, none⟩) m cap] 34)) = V at HB2 HBA2 HBX2 HBT2 HOD HOK2 hsv ⊢
  go_loopw [6] (fun i w' => ∃ j : Nat, j ≤ m ∧ i = .int .i64 j ∧ Own w' (w.heap.size + 1 + 1) (.slice (some ⟨g, 0, none⟩) m cap) (lay (mC n s.2) m j) ∧ Bu g V w') (fun i _ => m - (intOf i).toNat)
  case atStart => exact ⟨0, by omega, rfl, HOK2.out, Bu.refl _ _⟩
  case round =>
    obtain ⟨j, hj, rfl, hO, hbu⟩ := hrel
    have HOR : Hid (Own wr (w.heap.size + 1 + 1) (.slice (some ⟨g, 0, none⟩) m cap) (lay (mC n s.2) m j)) := hO
    have HBU : Hid (Bu g V wr) := hbu
    have HBW : Hid (Below w.heap.size w wr) := hbu.below HB2.out (by omega) (by omega)
    clear hO hbu
    have v1 := (HBU.out.box HBA2.out (by omega)).c1
    have v2 := (HBU.out.box HBT2.out (by omega)).c1
    by_cases hlt : j < m
    · obtain ⟨c, hc⟩ : ∃ c, j * n = c := ⟨_, rfl⟩
      have hcL : c + n ≤ L := by
        have : (j + 1) * n ≤ m * n := Nat.mul_le_mul_right n hlt
        rw [Nat.add_mul, hc] at this
        have := HLM.out
        omega
      have HFC : Hid (∀ i, i < n → wr.cell? ⟨ab, ao + c + i, none⟩ = some (.int .i64 ((chk n s.2 j).getD i 0))) := by
        intro i hi
        rw [chk_get hi, hc, Nat.add_assoc]
        exact cell_later HBW.out (HCD.out (c + i) (by omega))
      obtain ⟨f, hf⟩ : ∃ f, fsN (chk n s.2 j) n = f := ⟨_, rfl⟩
      have hfn : f < n := by rw [← hf]; exact (fsN_spec _ n hn1).1
      have HF : Hid (fsN (chk n s.2 j) n = f) := hf
      obtain ⟨x, hx⟩ : ∃ x, mC n s.2 j = x := ⟨_, rfl⟩
      have hvx : wr.cell? ⟨ab, ao + c + f, none⟩ = some (.int .i64 x) := by
        rw [HFC.out f hfn, chk_get hfn, ← hx, mC, show fC n s.2 j = f from hf]
      have HLJ : Hid ((lay (mC n s.2) m j).set j x = lay (mC n s.2) m (j + 1)) := by show _ = _; rw [← hx]; exact lay_set _ _ _
      have y0 : (j : Int) * n = (c : Int) := by rw [← hc]; simp
      have y1 : IntKind.i64.wrap ((j : Int) * n) = (c : Int) := by rw [y0]; exact wrap_small _ (by omega) (by omega)
      obtain ⟨e, he⟩ : ∃ e, c + n = e := ⟨_, rfl⟩
      have y2 : IntKind.i64.wrap ((c : Int) + n) = (e : Int) := by rw [wrap_small _ (by omega) (by omega)]; omega
      have hen : e - c = n := by omega
      have hc2 : n ≤ ac - c := by omega
      have z0 : (0 : Int) ≤ (j : Int) := by omega
      have z1 : (j : Int) < m := by omega
      have z2 : (0 : Int) ≤ (c : Int) := by omega
      have z3 : (c : Int) ≤ (e : Int) := by omega
      have z4 : (e : Int) ≤ (ac : Int) := by omega
      have z5 : (0 : Int) ≤ (f : Int) := by omega
      have z6 : (f : Int) < n := by omega
      have n3 : g ≠ w2.heap.size := by omega
      have n4 : w2.heap.size ≠ g := by omega
      have n5 : ab ≠ g := by omega
      have n6 : g ≠ ab := by omega
      clear hc hf hx y0
      go_wp2_with fail
      go_region_held3 (fun w' => w'.cell? ⟨w2.heap.size, 1, none⟩ = some (.slice (some ⟨g, 0, none⟩) m cap) ∧ w'.cell? ⟨ab, ao + c + f, none⟩ = some (.int .i64 x)) (go_keep)
        (first
          | (go_at_call 74; refine (first_to f hn1 (by omega) hc2 HF.out ?_).mono ?_; exact (fun i hi => cell_later (Below.refl _ _).drew (HFC.out i hi)); rintro r w4 ⟨rfl, hb4⟩; have HB4 : Hid (Below wr.heap.size wr w4) := Below.after (Below.refl _ _).drew hb4; have a_0 := cell_later HB4.out v2; have a_1 := cell_later HB4.out hvx; have HO6 : Hid (Own w4 (w.heap.size + 1 + 1) (.slice (some ⟨g, 0, none⟩) m cap) (lay (mC n s.2) m j)) := HOR.out.later HB4.out; have hc := (HO6.out.put (lay_length _ _ _) j hlt 0).1; have hf := (HO6.out.put (lay_length _ _ _) j hlt 0).2.1; clear hb4))
      have HS : Hid (Own (w4.setCell ⟨g, j, none⟩ (.int .i64 x)) (w.heap.size + 1 + 1) (.slice (some ⟨g, 0, none⟩) m cap) (lay (mC n s.2) m (j + 1))) := by
        have hS := (HO6.out.put (lay_length _ _ _) j hlt x).2.2
        rw [HLJ.out] at hS
        exact hS
      have HBS : Hid (Bu g V (w4.setCell ⟨g, j, none⟩ (.int .i64 x))) := (HBU.out.after HB4.out).setCell _
      clear hc hf a_0 a_1 v1 v2 hvx
      go_wp2
      go_roundw
      case rel => exact ⟨j + 1, by omega, by go_num, HS.out, HBS.out⟩
      case measure => simp [intOf]; omega
    · have hj' : j = m := by omega
      subst hj'
      have hbt := HBU.out.box HBT2.out (by omega)
      have t0 := hbt.c0
      have t1 := hbt.c1
      have hbx := HBU.out.box HBX2.out (by omega)
      have l0 := hbx.c0
      have l1 := hbx.c1
      have m0 := hbx.f 0
      have m1 := hbx.f 1
      have HBS : Hid (Box _ _ _ _) := hbx.set (.slice xa xn xc) (.slice (some ⟨g, 0, none⟩) j cap)
      have HO5 : Hid (Own wr (w.heap.size + 1 + 1) (.slice xa xn xc) (lesD s.1 n)) := HOD.out.at fun k hk => HBU.out.block k (HOD.out.lt k hk) (HAP.out k hk)
      have HK5 : Hid (Own wr (w.heap.size + 1 + 1) (.slice (some ⟨g, 0, none⟩) j cap) (maxs n j s.2)) := by
        have h := HOR.out
        rw [lay_all] at h
        exact h
      clear hbx hbt v1 v2
      go_wp2
      have hr0 := HBS.out.c0
      have hr1 := HBS.out.c1
      refine bodyPost_ret (v := .agg #[.slice xa xn xc, .slice (some ⟨g, 0, none⟩) j cap]) (by simp [results, Tryz.results52, go_sem, hr0, hr1]) rfl ⟨_, _, rfl, ?_, ?_⟩
      · have h1 : OwnT wr (w.heap.size + 1 + 1) (.slice xa xn xc) (.slice (some ⟨g, 0, none⟩) j cap) (lesD s.1 n, maxs n j s.2) := ⟨HO5.out, HK5.out, fun k hk e => by simp [Value.ownBlock] at e; exact HAP.out k hk e.symm⟩
        exact ((h1.setCell _ _ (by simp)).setCell _ _ (by simp)).mono (by omega)
      · exact (HBW.out.setCell (by simp) _).setCell (by simp) _
set_option maxRecDepth 100000 in
set_option maxHeartbeats 4000000 in
theorem rpick_ok {a0 a1 b0 b1 : Value} {s t : Ten} {w : World} (n m L : Nat) (ha : Tens w a0 a1 s) (ht : Tens w b0 b1 t) (hx : tok s = true) (hn1 : 1 ≤ n) (hn8 : n ≤ 8) (hm1 : 1 ≤ m) (hL : s.2.length = L) (hm : L = m * n) (htl : t.2.length = m) :
    Calls Tryz.prog 53 #[.agg #[a0, a1], .agg #[b0, b1], .int .i64 n] w fun e w' => ∃ x0 x1, e = .returned (.agg #[x0, x1]) ∧ OwnT w' w.heap.size x0 x1 (s.1, picks n s.2 t.2) ∧ Below w.heap.size w w' := by
  have hpos := tok_pos hx
  rw [hL] at hpos
  obtain ⟨aa, an, ac0, rfl⟩ := ha.1.shape3
  obtain ⟨ab, ao, ac, rfl, hac, hca⟩ := Own.getD ha.2 hL hpos.1
  obtain ⟨ba, bn, bc0, rfl⟩ := ht.1.shape3
  obtain ⟨bb, bo, bc, rfl, hbc, hcb⟩ := Own.getD ht.2 htl hm1
  have hb : Below w.heap.size w (((w.alloc (.cells #[.slice aa an ac0, .slice (some ⟨ab, ao, none⟩) L ac] 34)).alloc (.cells #[.slice ba bn bc0, .slice (some ⟨bb, bo, none⟩) m bc] 34)).alloc (.cells #[.slice none 0 0, .slice none 0 0] 34)) := ((((Below.refl _ _).alloc (Nat.le_refl _) _).alloc (by simp) _).alloc (by simp; omega) _)
  have HB : Hid (Below w.heap.size w (((w.alloc (.cells #[.slice aa an ac0, .slice (some ⟨ab, ao, none⟩) L ac] 34)).alloc (.cells #[.slice ba bn bc0, .slice (some ⟨bb, bo, none⟩) m bc] 34)).alloc (.cells #[.slice none 0 0, .slice none 0 0] 34))) := hb
  have HA : Hid (Tens (((w.alloc (.cells #[.slice aa an ac0, .slice (some ⟨ab, ao, none⟩) L ac] 34)).alloc (.cells #[.slice ba bn bc0, .slice (some ⟨bb, bo, none⟩) m bc] 34)).alloc (.cells #[.slice none 0 0, .slice none 0 0] 34)) (.slice aa an ac0) (.slice (some ⟨ab, ao, none⟩) L ac) s) := ha.later hb
  have HBA : Hid (Box (((w.alloc (.cells #[.slice aa an ac0, .slice (some ⟨ab, ao, none⟩) L ac] 34)).alloc (.cells #[.slice ba bn bc0, .slice (some ⟨bb, bo, none⟩) m bc] 34)).alloc (.cells #[.slice none 0 0, .slice none 0 0] 34)) w.heap.size (.slice aa an ac0) (.slice (some ⟨ab, ao, none⟩) L ac)) := ((Box.new w _ _).alloc _).alloc _
  have HBB : Hid (Box (((w.alloc (.cells #[.slice aa an ac0, .slice (some ⟨ab, ao, none⟩) L ac] 34)).alloc (.cells #[.slice ba bn bc0, .slice (some ⟨bb, bo, none⟩) m bc] 34)).alloc (.cells #[.slice none 0 0, .slice none 0 0] 34)) (w.heap.size + 1) (.slice ba bn bc0) (.slice (some ⟨bb, bo, none⟩) m bc)) := by
    have := (Box.new (w.alloc (.cells #[.slice aa an ac0, .slice (some ⟨ab, ao, none⟩) L ac] 34)) (.slice ba bn bc0) (.slice (some ⟨bb, bo, none⟩) m bc)).alloc (.cells #[.slice none 0 0, .slice none 0 0] 34)
    simp only [World.size_alloc] at this
    exact this
  have HBX : Hid (Box (((w.alloc (.cells #[.slice aa an ac0, .slice (some ⟨ab, ao, none⟩) L ac] 34)).alloc (.cells #[.slice ba bn bc0, .slice (some ⟨bb, bo, none⟩) m bc] 34)).alloc (.cells #[.slice none 0 0, .slice none 0 0] 34)) (w.heap.size + 1 + 1) (.slice none 0 0) (.slice none 0 0)) := by
    have := Box.new ((w.alloc (.cells #[.slice aa an ac0, .slice (some ⟨ab, ao, none⟩) L ac] 34)).alloc (.cells #[.slice ba bn bc0, .slice (some ⟨bb, bo, none⟩) m bc] 34)) (.slice none 0 0) (.slice none 0 0)
    simp only [World.size_alloc] at this
    exact this
  have hab : ab < w.heap.size := World.block_lt_of_cell? _ _ (hca 0 (by omega))
  have hbb : bb < w.heap.size := World.block_lt_of_cell? _ _ (hcb 0 (by omega))
  have HCD : Hid (∀ i, i < L → w.cell? ⟨ab, ao + i, none⟩ = some (.int .i64 (s.2.getD i 0))) := hca
  have HCB : Hid (∀ i, i < m → w.cell? ⟨bb, bo + i, none⟩ = some (.int .i64 (t.2.getD i 0))) := hcb
  have HOK : Hid (okd s.1 = true) := tok_okd hx
  have HPM : Hid ((prd s.1).toNat = L) := by have := tok_len hx; show _ = _; omega
  have HLS : Hid (s.2.length = L) := hL
  have HLM : Hid (L = m * n) := hm
  have hL64 := hpos.2
  have hL1 := hpos.1
  have hm64 : m ≤ 64 := by
    have : m * 1 ≤ m * n := Nat.mul_le_mul_left m hn1
    omega
  clear ha ht hb hca hcb hx hL hpos hm htl
  go_enter Tryz.func53, Tryz.ntmps53
  go_wp2_with fail
  refine (rfill_own 0 HA.out.1 HOK.out).mono ?_
  rw [HPM.out]
  rintro e w2 ⟨x0, x1, rfl, ho, hb2⟩
  have hs2 := hb2.size
  simp at hs2
  obtain ⟨xa, xn, xc, rfl⟩ := ho.dims.ints.shape3
  obtain ⟨g, cap, e1, hcap, hg1, hg2⟩ := ho.data.form (by simp; omega)
  simp only [List.length_replicate, World.size_alloc] at e1 hcap hg1
  subst e1
  have HAP : Hid (∀ k, (Value.slice xa xn xc).ownBlock = some k → k ≠ g) := fun k hk e => ho.apart k hk (by rw [e]; rfl)
  have HB2 : Hid (Below w.heap.size w (w2.alloc (.cells #[.slice xa xn xc, .slice (some ⟨g, 0, none⟩) L cap] 34))) := Below.push (Below.after HB.out hb2) _
  have HBA2 : Hid (Box (w2.alloc (.cells #[.slice xa xn xc, .slice (some ⟨g, 0, none⟩) L cap] 34)) w.heap.size (.slice aa an ac0) (.slice (some ⟨ab, ao, none⟩) L ac)) := (HBA.out.later hb2).alloc _
  have HBB2 : Hid (Box (w2.alloc (.cells #[.slice xa xn xc, .slice (some ⟨g, 0, none⟩) L cap] 34)) (w.heap.size + 1) (.slice ba bn bc0) (.slice (some ⟨bb, bo, none⟩) m bc)) := (HBB.out.later hb2).alloc _
  have HBX2 : Hid (Box (w2.alloc (.cells #[.slice xa xn xc, .slice (some ⟨g, 0, none⟩) L cap] 34)) (w.heap.size + 1 + 1) (.slice none 0 0) (.slice none 0 0)) := (HBX.out.later hb2).alloc _
  have HBT2 : Hid (Box (w2.alloc (.cells #[.slice xa xn xc, .slice (some ⟨g, 0, none⟩) L cap] 34)) w2.heap.size (.slice xa xn xc) (.slice (some ⟨g, 0, none⟩) L cap)) := Box.new _ _ _
  have HOD : Hid (Own (w2.alloc (.cells #[.slice xa xn xc, .slice (some ⟨g, 0, none⟩) L cap] 34)) (w.heap.size + 1 + 1 + 1) (.slice xa xn xc) s.1) := (ho.dims.mono (by simp)).later (Below.push (Below.refl _ _) _)
  have HOK2 : Hid (Own (w2.alloc (.cells #[.slice xa xn xc, .slice (some ⟨g, 0, none⟩) L cap] 34)) (w.heap.size + 1 + 1 + 1) (.slice (some ⟨g, 0, none⟩) L cap) (pkJ n s.2 t.2 0)) := by
    show Own _ _ _ _
    rw [pkJ_zero, HLS.out]
    exact (ho.data.mono (by simp)).later (Below.push (Below.refl _ _) _)
  have hsv : (w2.alloc (.cells #[.slice xa xn xc, .slice (some ⟨g, 0, none⟩) L cap] 34)).heap.size = w2.heap.size + 1 := by simp
  clear ho hb2 HBA HBX HBB HB HA
  go_wp2
  generalize (w2.alloc (.cells #[.slice xa xn xc, .slice (some ⟨g, 0, none⟩) L cap] 34)) = V at HB2 HBA2 HBB2 HBX2 HBT2 HOD HOK2 hsv ⊢
  go_loopw [8] (fun i w' => ∃ j : Nat, j ≤ m ∧ i = .int .i64 j ∧ Own w' (w.heap.size + 1 + 1 + 1) (.slice (some ⟨g, 0, none⟩) L cap) (pkJ n s.2 t.2 j) ∧ Bu g V w') (fun i _ => m - (intOf i).toNat)
  case atStart => exact ⟨0, by omega, rfl, HOK2.out, Bu.refl _ _⟩
  case round =>
    obtain ⟨j, hj, rfl, hO, hbu⟩ := hrel
    have HOR : Hid (Own wr (w.heap.size + 1 + 1 + 1) (.slice (some ⟨g, 0, none⟩) L cap) (pkJ n s.2 t.2 j)) := hO
    have HBU : Hid (Bu g V wr) := hbu
    have HBW : Hid (Below w.heap.size w wr) := hbu.below HB2.out (by omega) (by omega)
    clear hO hbu
    have v1 := (HBU.out.box HBA2.out (by omega)).c1
    have v2 := (HBU.out.box HBT2.out (by omega)).c1
    have v3 := (HBU.out.box HBB2.out (by omega)).c1
    by_cases hlt : j < m
    · obtain ⟨c, hc⟩ : ∃ c, j * n = c := ⟨_, rfl⟩
      have hcL : c + n ≤ L := by
        have : (j + 1) * n ≤ m * n := Nat.mul_le_mul_right n hlt
        rw [Nat.add_mul, hc] at this
        have := HLM.out
        omega
      have HFC : Hid (∀ i, i < n → wr.cell? ⟨ab, ao + c + i, none⟩ = some (.int .i64 ((chk n s.2 j).getD i 0))) := by
        intro i hi
        rw [chk_get hi, hc, Nat.add_assoc]
        exact cell_later HBW.out (HCD.out (c + i) (by omega))
      obtain ⟨f, hf⟩ : ∃ f, fsN (chk n s.2 j) n = f := ⟨_, rfl⟩
      have hfn : f < n := by rw [← hf]; exact (fsN_spec _ n hn1).1
      have HF : Hid (fsN (chk n s.2 j) n = f) := hf
      obtain ⟨x, hx⟩ : ∃ x, t.2.getD j 0 = x := ⟨_, rfl⟩
      have v4 : wr.cell? ⟨bb, bo + j, none⟩ = some (.int .i64 x) := by rw [← hx]; exact cell_later HBW.out (HCB.out j hlt)
      obtain ⟨T, hT⟩ : ∃ T, c + f = T := ⟨_, rfl⟩
      have HLJ : Hid ((pkJ n s.2 t.2 j).set T x = pkJ n s.2 t.2 (j + 1)) := by
        show _ = _
        have := pkJ_set n s.2 t.2 j hn1
        rw [hx, hc, show fC n s.2 j = f from hf, hT] at this
        exact this
      have y0 : (j : Int) * n = (c : Int) := by rw [← hc]; simp
      have y1 : IntKind.i64.wrap ((j : Int) * n) = (c : Int) := by rw [y0]; exact wrap_small _ (by omega) (by omega)
      obtain ⟨e, he⟩ : ∃ e, c + n = e := ⟨_, rfl⟩
      have y2 : IntKind.i64.wrap ((c : Int) + n) = (e : Int) := by rw [wrap_small _ (by omega) (by omega)]; omega
      have y3 : IntKind.i64.wrap ((c : Int) + f) = (T : Int) := by rw [wrap_small _ (by omega) (by omega)]; omega
      have hen : e - c = n := by omega
      have hc2 : n ≤ ac - c := by omega
      have hTL : T < L := by omega
      have hacc : ¬ ac = c := by omega
      have HPL : Hid ((pkJ n s.2 t.2 j).length = L) := by show _ = _; rw [pkJ_length]; exact HLS.out
      have z0 : (0 : Int) ≤ (j : Int) := by omega
      have z1 : (j : Int) < m := by omega
      have z2 : (0 : Int) ≤ (c : Int) := by omega
      have z3 : (c : Int) ≤ (e : Int) := by omega
      have z4 : (e : Int) ≤ (ac : Int) := by omega
      have z5 : (0 : Int) ≤ (T : Int) := by omega
      have z6 : (T : Int) < L := by omega
      have n3 : g ≠ w2.heap.size := by omega
      have n4 : w2.heap.size ≠ g := by omega
      have n5 : ab ≠ g := by omega
      have n6 : g ≠ ab := by omega
      have n7 : bb ≠ g := by omega
      have n8 : g ≠ bb := by omega
      have n9 : g ≠ w.heap.size := by omega
      have n10 : w.heap.size ≠ g := by omega
      have n11 : g ≠ w.heap.size + 1 := by omega
      have n12 : w.heap.size + 1 ≠ g := by omega
      clear hc hf hx y0 hT
      go_wp2_with fail
      go_region_held3 (fun w' => w'.cell? ⟨w2.heap.size, 1, none⟩ = some (.slice (some ⟨g, 0, none⟩) L cap) ∧ w'.cell? ⟨w.heap.size, 1, none⟩ = some (.slice (some ⟨ab, ao, none⟩) L ac) ∧ w'.cell? ⟨w.heap.size + 1, 1, none⟩ = some (.slice (some ⟨bb, bo, none⟩) m bc) ∧ w'.cell? ⟨bb, bo + j, none⟩ = some (.int .i64 x)) (go_keep)
        (first
          | (go_at_call 74; refine (first_to f hn1 (by omega) hc2 HF.out ?_).mono ?_; exact (fun i hi => cell_later (Below.refl _ _).drew (HFC.out i hi)); rintro r w4 ⟨rfl, hb4⟩; have HB4 : Hid (Below wr.heap.size wr w4) := Below.after (Below.refl _ _).drew hb4; have a_0 := cell_later HB4.out v2; have a_1 := cell_later HB4.out v1; have a_2 := cell_later HB4.out v3; have a_3 := cell_later HB4.out v4; have HO6 : Hid (Own w4 (w.heap.size + 1 + 1 + 1) (.slice (some ⟨g, 0, none⟩) L cap) (pkJ n s.2 t.2 j)) := HOR.out.later HB4.out; have hc := (HO6.out.put HPL.out T hTL 0).1; have hf := (HO6.out.put HPL.out T hTL 0).2.1; clear hb4))
      have HS : Hid (Own (w4.setCell ⟨g, T, none⟩ (.int .i64 x)) (w.heap.size + 1 + 1 + 1) (.slice (some ⟨g, 0, none⟩) L cap) (pkJ n s.2 t.2 (j + 1))) := by
        have hS := (HO6.out.put HPL.out T hTL x).2.2
        rw [HLJ.out] at hS
        exact hS
      have HBS : Hid (Bu g V (w4.setCell ⟨g, T, none⟩ (.int .i64 x))) := (HBU.out.after HB4.out).setCell _
      clear hc hf a_0 a_1 a_2 a_3 v1 v2 v3 v4
      go_wp2
      go_roundw
      case rel => exact ⟨j + 1, by omega, by go_num, HS.out, HBS.out⟩
      case measure => simp [intOf]; omega
    · have hj' : j = m := by omega
      subst hj'
      have hbt := HBU.out.box HBT2.out (by omega)
      have t0 := hbt.c0
      have t1 := hbt.c1
      have hbx := HBU.out.box HBX2.out (by omega)
      have l0 := hbx.c0
      have l1 := hbx.c1
      have m0 := hbx.f 0
      have m1 := hbx.f 1
      have HBS : Hid (Box _ _ _ _) := hbx.set (.slice xa xn xc) (.slice (some ⟨g, 0, none⟩) L cap)
      have HO5 : Hid (Own wr (w.heap.size + 1 + 1 + 1) (.slice xa xn xc) s.1) := HOD.out.at fun k hk => HBU.out.block k (HOD.out.lt k hk) (HAP.out k hk)
      have HK5 : Hid (Own wr (w.heap.size + 1 + 1 + 1) (.slice (some ⟨g, 0, none⟩) L cap) (picks n s.2 t.2)) := by
        have h := HOR.out
        rw [pkJ_all n j s.2 t.2 hn1 (by rw [HLS.out, HLM.out])] at h
        exact h
      clear hbx hbt v1 v2
      go_wp2
      have hr0 := HBS.out.c0
      have hr1 := HBS.out.c1
      refine bodyPost_ret (v := .agg #[.slice xa xn xc, .slice (some ⟨g, 0, none⟩) L cap]) (by simp [results, Tryz.results53, go_sem, hr0, hr1]) rfl ⟨_, _, rfl, ?_, ?_⟩
      · have h1 : OwnT wr (w.heap.size + 1 + 1 + 1) (.slice xa xn xc) (.slice (some ⟨g, 0, none⟩) L cap) (s.1, picks n s.2 t.2) := ⟨HO5.out, HK5.out, fun k hk e => by simp [Value.ownBlock] at e; exact HAP.out k hk e.symm⟩
        exact ((h1.setCell _ _ (by simp)).setCell _ _ (by simp)).mono (by omega)
      · exact (HBW.out.setCell (by simp; omega) _).setCell (by simp; omega) _
theorem fwE_bad {s : Ten} {n : Int} (h : tok s = false ∨ ¬ (1 ≤ n ∧ n ≤ 8)) : fwE s n = 1 := by
  rw [fwE, if_neg]
  rintro ⟨h1, h2⟩
  rcases h with h | h
  · rw [h] at h1; cases h1
  · exact h h2
theorem pkE_one {s t : Ten} {n : Int} (h : fwE s n = 1 ∨ tok t = false) : pkE s t n = 1 ∧ pkR s t n = ([], []) := by
  have e : pkE s t n = 1 := by rw [pkE, if_pos h]
  exact ⟨e, by rw [pkR, e]; rfl⟩
theorem TB.grown {w w' : World} {N B : Nat} {row : Option Nat} {x y : Value} {t : Ten} (h : TB w B x y t) (hg : w.grownBy w' row) (hr : ∀ k, row = some k → k < N) (hB : N ≤ B) (hx : From N x) (hy : From N y) : TB w' B x y t := by
  have ne : ∀ {z : Value} {d : List Int}, Ints w z d → From N z → Ints w' z d := fun hz hf => (Elt.grown ⟨hz, fun h0 e => by
    cases hrow : row with
    | none =>
      rw [hrow] at e
      rcases hz.cases with ⟨q, _⟩ | ⟨b, off, c, rfl, _⟩
      · rw [q] at h0; simp at h0
      · simp [Value.ownBlock] at e
    | some k =>
      have h1 := hr k hrow
      have h2 := hf k (by rw [e, hrow])
      omega⟩ hg (Or.inl rfl)).1
  refine ⟨(hg.block B h.box.lt (fun e => ?_)).trans h.box, ne h.ten.1 hx, ne h.ten.2 hy⟩
  have := hr B e.symm
  omega
theorem RowT.form {w : World} {B : Nat} {v : Value} {L : List Ten} {xs : List Value} (h : RowT w B v L xs) (h0 : 0 < L.length) : ∃ g cap, v = .slice (some ⟨g, 0, none⟩) L.length cap ∧ L.length ≤ cap ∧ B ≤ g ∧ g < w.heap.size := by
  rcases h.own.2 with ⟨_, h1⟩ | ⟨g, cap, cur, rfl, hb, hh, h1, _⟩
  · omega
  · exact ⟨g, cap, rfl, h1, hb, (Array.getElem?_eq_some_iff.1 hh).1⟩
theorem fit_bad {s t : Ten} (h : tok s = false ∨ tok t = false) : fitE s t = 1 ∧ eachR opG s t = ([], []) := by
  have e : fitE s t = 1 := by
    rcases h with h | h <;> simp [fitE, h]
  exact ⟨e, each_bad_eq e (by decide)⟩
set_option maxHeartbeats 1000000 in
theorem steps_ok {v : Value} {d : List Int} {w : World} (h : Ints w v d) (hok : okd d = true) :
    Calls Tryz.prog 92 #[v] w fun e w' => e = .returned (.tuple #[.slice (some ⟨w.heap.size, 0, none⟩) d.length d.length, .int .i64 0]) ∧ Blk w' w.heap.size (stp d) ∧ Below w.heap.size w w' := by
  have H : Hid (Ints w v d) := h
  have HK : Hid (okd d = true) := hok
  obtain ⟨hl1, hl2, hin, hp⟩ := okd_parts hok
  have HI : Hid (inr d = true) := hin
  obtain ⟨av, c, hv⟩ : ∃ a c, v = .slice a d.length c := by
    rcases h.cases with ⟨rfl, a1, c1, rfl⟩ | ⟨b1, o1, c1, rfl, h0, h1, h2, h3⟩
    · exact ⟨_, _, rfl⟩
    · exact ⟨_, _, rfl⟩
  subst hv
  clear h hok hin hp
  have hmk := fun w => make_ints w d.length (by omega)
  go_enter Tryz.func92, Tryz.ntmps92
  go_wp2_with (go_at_call 75; refine (spell_any H.out).mono ?_; rw [spT_ok HK.out, erf_ok HK.out]; rintro e w' ⟨rfl, rfl⟩)
  go_loopw [] (fun w' => ∃ k : Nat, k ≤ d.length ∧ Blk w' w.heap.size (stA d k) ∧ It w' (w.heap.size + 1) (txt d) k ∧ Below w.heap.size w w') (fun w' => d.length - w'.iterPos (w.heap.size + 1))
  case atStart =>
    refine ⟨0, Nat.zero_le _, ?_, ?_, ?_⟩
    · rw [stA_zero]; exact (Blk.new w _).alloc _
    · have := It.new (w.alloc (.cells (ia (zer d.length)) 3)) (txt d) 0
      simpa using this
    · exact ((Below.refl _ _).alloc (Nat.le_refl _) _).alloc (by simp) _
  case round =>
    obtain ⟨k, hk, hB, hI, hbel⟩ := hrel
    by_cases hlt : k < d.length
    · have hnx := fun ty => hI.next HI.out hlt ty
      have HB1 : Hid (Blk (wr.iterAt (w.heap.size + 1) (txt d) (k + 1)) w.heap.size (stA d k)) := hB.moved (by omega) _ _
      have HI1 : Hid (It (wr.iterAt (w.heap.size + 1) (txt d) (k + 1)) (w.heap.size + 1) (txt d) (k + 1)) := hI.moved _
      have HL1 : Hid (Below w.heap.size w (wr.iterAt (w.heap.size + 1) (txt d) (k + 1))) := Below.moved hbel (by omega) _ _
      have HP : Hid (wr.iterPos (w.heap.size + 1) = k) := hI.pos
      obtain ⟨g1, g2⟩ := inr_mem HI.out (List.getElem_mem hlt)
      clear hB hI hbel
      go_wp2
      clear hnx
      go_loopw [28] (fun i w' => ∃ j : Nat, j ≤ k ∧ i = .int .i64 j ∧ Blk w' w.heap.size (stI d k j) ∧ It w' (w.heap.size + 1) (txt d) (k + 1) ∧ Below w.heap.size w w') (fun i _ => k - (intOf i).toNat)
      case atStart => exact ⟨0, Nat.zero_le _, rfl, by rw [stI_zero]; exact HB1.out, HI1.out, HL1.out⟩
      case round =>
        obtain ⟨j, hj, rfl, hB, hI, hbel⟩ := hrel
        by_cases hjk : j < k
        · have hc : wr.cell? ⟨w.heap.size, j, none⟩ = some (.int .i64 (stE d k j)) := by
            rw [hB.cell j (by rw [stI_length]; omega), stI_get d k j hjk hlt]
          have hf := hB.frozen j
          have hs := stE_bd HI.out k j hjk (by omega)
          have HB2 : Hid (Blk wr w.heap.size (stI d k j)) := hB
          have HI2 : Hid (It wr (w.heap.size + 1) (txt d) (k + 1)) := hI
          have HL2 : Hid (Below w.heap.size w wr) := hbel
          clear hB hI hbel
          obtain ⟨hs1, hs2⟩ := hs
          have hm1 : 1 ≤ stE d k j * d[k] := by
            have := Int.mul_le_mul hs1 g1 (by omega) (by omega)
            omega
          have hm2 : stE d k j * d[k] ≤ 512 := by
            have := Int.mul_le_mul hs2 g2 (by omega) (by omega)
            omega
          go_wp2
          go_region_with (go_at_call 76; refine (size_any _ _ g1 g2).mono ?_; rintro e w' ⟨rfl, rfl⟩)
          all_goals
            go_wp2
            go_roundw
            case rel =>
              refine ⟨j + 1, by omega, by go_num, ?_, ?_, ?_⟩
              · have := HB2.out.set j (stE d k j * d[k])
                rw [stI_set d k j hjk hlt] at this
                exact this
              · exact HI2.out.set _ _ (by simp)
              · exact (HL2.out.setCell (p := ⟨w.heap.size, j, none⟩) (Nat.le_refl w.heap.size) (.int .i64 (stE d k j * d[k]))).drew
            case measure => simp [intOf]; omega
        · have hj' : j = k := by omega
          subst hj'
          have hf := hB.frozen j
          have hc : ∃ x, wr.cell? ⟨w.heap.size, j, none⟩ = some x := ⟨_, hB.cell j (by rw [stI_length]; omega)⟩
          obtain ⟨x, hc⟩ := hc
          have HB2 : Hid (Blk wr w.heap.size (stI d j j)) := hB
          have HI2 : Hid (It wr (w.heap.size + 1) (txt d) (j + 1)) := hI
          have HL2 : Hid (Below w.heap.size w wr) := hbel
          clear hB hI hbel
          go_wp2
          go_roundw
          case rel =>
            refine ⟨j + 1, by omega, ?_, ?_, ?_⟩
            · have := HB2.out.set j 1
              rw [stI_last d j] at this
              exact this
            · exact HI2.out.set _ _ (by simp)
            · exact HL2.out.setCell (Nat.le_refl _) _
          case measure =>
            rw [(HI2.out.set ⟨w.heap.size, j, none⟩ (.int .i64 1) (by simp)).pos, HP.out]
            omega
    · have hk' : k = d.length := by omega
      subst hk'
      have hnx := fun ty => hI.done ty
      have HB1 : Hid (Blk wr w.heap.size (stp d)) := hB
      have HL1 : Hid (Below w.heap.size w wr) := hbel
      clear hB hI hbel
      go_wp2
      go_ret2
      exact ⟨rfl, HB1.out, HL1.out⟩
set_option maxHeartbeats 1000000 in
theorem at_ok {v v' : Value} {d p : List Int} {w : World} (hd : Ints w v d) (hp : Ints w v' p) (hok : okd d = true) :
    Calls Tryz.prog 82 #[v, v'] w fun e w' => e = .returned (.tuple #[.int .i64 (atR d p), .int .i64 (atE d p)]) ∧ Below w.heap.size w w' := by
  have HA : Hid (Ints w v d) := hd
  have HP : Hid (Ints w v' p) := hp
  have HK : Hid (okd d = true) := hok
  obtain ⟨hl1, hl2, hin, hpr⟩ := okd_parts hok
  have HI : Hid (inr d = true) := hin
  obtain ⟨da, dc, rfl⟩ := hd.shape
  obtain ⟨pa, pc, rfl⟩ := hp.shape
  have hpl := hp.len
  unfold big at hpl
  clear hd hok hin hpr
  go_enter Tryz.func82, Tryz.ntmps82
  go_wp2
  refine wp_scope_jumps 0 (fun a' w' => (Below w.heap.size w w' ∧ Hid (aok d p = false)) ∧ ∃ (u0 u1 u2 u3 u4 u5 u6 u7 u8 u9 u10 u11 u12 u13 u14 u15 u16 u17 u18 u19 u20 u21 u22 u23 u24 u25 u26 u27 u28 u29 u30 u31 u32 u33 u34 u35 u36 u37 u38 u39 u40 u41 u42 u43 u44 u45 u46 u47 u48 u49 u50 u51 u52 u53 u54 : Value), a' = { tmps := #[u0, u1, u2, u3, u4, u5, u6, u7, u8, u9, u10, u11, u12, u13, u14, u15, u16, u17, u18, u19, u20, u21, u22, u23, u24, u25, u26, u27, u28, u29, u30, u31, u32, u33, u34, u35, u36, u37, u38, u39, u40, u41, u42, u43, u44, u45, u46, u47, u48, u49, u50, u51, u52, u53, u54], defers := [] }) (fun _ _ => 0) rfl ?_ ?_
  · go_wp2_with fail
    refine (spell_any HA.out).mono ?_
    rw [spT_ok HK.out, erf_ok HK.out]
    rintro e w' ⟨rfl, rfl⟩
    by_cases hl : p.length = d.length
    · have hne : ((p.length : Int) != (d.length : Int)) = false := by simp [hl]
      have HL : Hid (p.length = d.length) := hl
      obtain ⟨b, off, rfl, hcell⟩ : ∃ b off, pa = some ⟨b, off, none⟩ ∧ Hid (∀ i (h : i < p.length), w.cell? ⟨b, off + i, none⟩ = some (.int .i64 p[i])) := by
        rcases hp.cases with ⟨rfl, a1, c1, e⟩ | ⟨b1, o1, c1, e, h0, h1, h2, h3⟩
        · simp only [List.length_nil] at hl; omega
        · simp only [Value.slice.injEq, true_and] at e
          obtain ⟨rfl, rfl⟩ := e
          exact ⟨b1, o1, rfl, h3⟩
      clear hl hp
      go_wp2
      go_loopw [6] (fun t w' => ∃ k : Nat, k ≤ d.length ∧ t = .int .i64 (atN d p k) ∧ It w' w.heap.size (txt d) k ∧ Below w.heap.size w w' ∧ Hid (∀ j, j < k → 0 ≤ p.getD j 0 ∧ p.getD j 0 < d.getD j 0)) (fun _ w' => d.length - w'.iterPos w.heap.size)
      case atStart => exact ⟨0, Nat.zero_le _, rfl, It.new w (txt d) 0, (Below.refl _ _).alloc (Nat.le_refl _) _, fun j hj => by omega⟩
      case round =>
        obtain ⟨k, hk, rfl, hI, hbel, hpre⟩ := hrel
        by_cases hlt : k < d.length
        · have hnx := fun ty => hI.next HI.out hlt ty
          have hltp : k < p.length := by have := HL.out; omega
          obtain ⟨g1, g2⟩ := inr_mem HI.out (List.getElem_mem hlt)
          have hx := cell_later hbel (hcell.out k hltp)
          have HB1 : Hid (Below w.heap.size w (wr.iterAt w.heap.size (txt d) (k + 1))) := Below.moved hbel (Nat.le_refl _) _ _
          have HI1 : Hid (It (wr.iterAt w.heap.size (txt d) (k + 1)) w.heap.size (txt d) (k + 1)) := hI.moved _
          have HPP : Hid (wr.iterPos w.heap.size = k) := hI.pos
          have hx1 : (wr.iterAt w.heap.size (txt d) (k + 1)).cell? ⟨b, off + k, none⟩ = some (.int .i64 p[k]) := cell_later HB1.out (hcell.out k hltp)
          have ep : p.getD k 0 = p[k] := by simp [hltp]
          have ed : d.getD k 0 = d[k] := by simp [hlt]
          have hbd := atN_bd HI.out k hk hpre.out
          have hp2 := prd_hi (inr_take HI.out k) 2 (by simp; omega)
          have ea : atN d p (k + 1) = atN d p k * d[k] + p[k] := by rw [atN, ep, ed]
          have EA : Hid (atN d p (k + 1) = atN d p k * d[k] + p[k]) := ea
          obtain ⟨hb1, hb2⟩ := hbd
          have hb3 : atN d p k ≤ 64 := by omega
          have hm1 : 0 ≤ atN d p k * d[k] := Int.mul_nonneg hb1 (by omega)
          have hm2 : atN d p k * d[k] ≤ 512 := by
            have := Int.mul_le_mul hb3 g2 (by omega) (by omega)
            omega
          clear hI hbel hx hp2 hb2 ea
          by_cases hr : 0 ≤ p[k] ∧ p[k] < d[k]
          · obtain ⟨r1, r2⟩ := hr
            have HR : Hid (∀ j, j < k + 1 → 0 ≤ p.getD j 0 ∧ p.getD j 0 < d.getD j 0) := by
              intro j hj
              by_cases e : j = k
              · subst e; rw [ep, ed]; exact ⟨r1, r2⟩
              · exact hpre.out j (by omega)
            clear ep ed
            go_wp2
            clear hnx
            generalize wr.iterAt w.heap.size (txt d) (k + 1) = W1 at *
            go_quiet ((go_at_call 76; exact quiet_eq (size_any _ _ g1 g2)))
            go_wp2
            replace HB1 : Hid (Below w.heap.size w (W1.drewN nq)) := Below.drewN HB1.out _
            replace HI1 : Hid (It (W1.drewN nq) w.heap.size (txt d) (k + 1)) := HI1.out
            replace hx1 : (W1.drewN nq).cell? ⟨b, off + k, none⟩ = some (.int .i64 p[k]) := hx1
            generalize W1.drewN nq = W2 at *
            go_quiet ((go_at_call 76; exact quiet_eq (size_any _ _ g1 g2)))
            go_wp2
            go_roundw
            case rel => exact ⟨k + 1, by omega, by rw [EA.out], HI1.out, Below.drewN HB1.out _, HR.out⟩
            case measure =>
              have : (W2.drewN nq).iterPos w.heap.size = k + 1 := It.pos (s := txt d) HI1.out
              rw [this, HPP.out]
              omega
          · have HBD : Hid (aok d p = false) := aok_bad k hlt (by rw [ep, ed]; exact hr)
            clear ep ed
            by_cases r1 : p[k] < 0
            · go_wp2
              clear hnx
              generalize wr.iterAt w.heap.size (txt d) (k + 1) = W1 at *
              have r2 : decide (p[k] < 0) = true := by simp [r1]
              go_quiet ((go_at_call 76; exact quiet_eq (size_any _ _ g1 g2)))
              go_wp2
              go_step3
              exact ⟨rfl, ⟨Below.drewN HB1.out _, HBD⟩, _, _, _, _, _, _, _, _, _, _, _, _, _, _, _, _, _, _, _, _, _, _, _, _, _, _, _, _, _, _, _, _, _, _, _, _, _, _, _, _, _, _, _, _, _, _, _, _, _, _, _, _, _, _, _, rfl⟩
            · have r2 : d[k] ≤ p[k] := by omega
              have r3 : decide (p[k] < 0) = false := by simpa using r1
              go_wp2
              clear hnx
              generalize wr.iterAt w.heap.size (txt d) (k + 1) = W1 at *
              go_quiet ((go_at_call 76; exact quiet_eq (size_any _ _ g1 g2)))
              go_wp2
              go_step3
              exact ⟨rfl, ⟨Below.drewN HB1.out _, HBD⟩, _, _, _, _, _, _, _, _, _, _, _, _, _, _, _, _, _, _, _, _, _, _, _, _, _, _, _, _, _, _, _, _, _, _, _, _, _, _, _, _, _, _, _, _, _, _, _, _, _, _, _, _, _, _, _, rfl⟩
        · have hk' : k = d.length := by omega
          subst hk'
          have hnx := fun ty => hI.done ty
          have HB1 : Hid (Below w.heap.size w wr) := hbel
          have HO : Hid (aok d p = true) := by
            show _ = _
            simp [aok, HK.out, pok_mk HL.out hpre.out]
          clear hI hbel
          go_wp2
          rw [jump_ret]
          go_ret2
          exact ⟨by rw [atR, atE, HO.out]; rfl, HB1.out⟩
    · have hne : ((p.length : Int) != (d.length : Int)) = true := by simp; omega
      have HBD : Hid (aok d p = false) := aok_len hl
      clear hl hp
      go_wp2
      go_step3
      exact ⟨rfl, ⟨Below.refl _ _, HBD⟩, _, _, _, _, _, _, _, _, _, _, _, _, _, _, _, _, _, _, _, _, _, _, _, _, _, _, _, _, _, _, _, _, _, _, _, _, _, _, _, _, _, _, _, _, _, _, _, _, _, _, _, _, _, _, _, rfl⟩
  · rintro a w' ⟨⟨hb, hbad⟩, u0, u1, u2, u3, u4, u5, u6, u7, u8, u9, u10, u11, u12, u13, u14, u15, u16, u17, u18, u19, u20, u21, u22, u23, u24, u25, u26, u27, u28, u29, u30, u31, u32, u33, u34, u35, u36, u37, u38, u39, u40, u41, u42, u43, u44, u45, u46, u47, u48, u49, u50, u51, u52, u53, u54, rfl⟩
    go_wp2
    rw [jump_ret]
    go_ret2
    exact ⟨by rw [atR, atE, hbad.out]; rfl, hb⟩
set_option maxHeartbeats 1000000 in
theorem where_ok {v : Value} {d : List Int} {w : World} (n : Int) (hd : Ints w v d) (hok : okd d = true) (h0 : 0 ≤ n) (h1 : n < prd d) :
    Calls Tryz.prog 81 #[v, .int .i64 n] w fun e w' => ∃ B, w.heap.size ≤ B ∧ e = .returned (.tuple #[.slice (some ⟨B, 0, none⟩) d.length d.length, .int .i64 0]) ∧ Blk w' B (whr d n) ∧ Below w.heap.size w w' := by
  have HA : Hid (Ints w v d) := hd
  have HK : Hid (okd d = true) := hok
  obtain ⟨hl1, hl2, hin, hpr⟩ := okd_parts hok
  have HI : Hid (inr d = true) := hin
  obtain ⟨da, dc, rfl⟩ := hd.shape
  have hmk := fun w => make_ints w d.length (by omega)
  have h64 : n < 64 := by omega
  clear hd hok hin
  go_enter Tryz.func81, Tryz.ntmps81
  go_wp2_with fail
  refine (cells_ok HA.out HK.out).mono ?_
  rintro e w1 ⟨rfl, hb1⟩
  have HB1 : Hid (Below w.heap.size w w1) := hb1
  have HA1 : Hid (Ints w1 (.slice da d.length dc) d) := HA.out.later hb1
  have hz1 := hb1.size
  clear hb1
  go_wp2_with fail
  refine (steps_ok HA1.out HK.out).mono ?_
  rintro e w2 ⟨rfl, hk2, hb2⟩
  have HK2 : Hid (Blk w2 w1.heap.size (stp d)) := hk2
  have HB2 : Hid (Below w.heap.size w w2) := Below.after HB1.out hb2
  have hz2 := hb2.size
  have hz3 := hk2.lt
  clear hb2 hk2
  go_wp2
  clear hmk
  have HST : Hid (Blk (w2.alloc (.cells (ia (zer d.length)) 3)) w2.heap.size (whA d n 0)) := by
    show Blk _ _ _
    rw [whA_zero]
    exact Blk.new w2 _
  go_loopw [1, 39] (fun r i w' => ∃ k : Nat, k ≤ d.length ∧ i = .int .i64 k ∧ r = .int .i64 (whR d n k) ∧ Blk w' w2.heap.size (whA d n k) ∧ Below w2.heap.size w2 w') (fun _ i _ => d.length - (intOf i).toNat)
  case atStart => exact ⟨0, by omega, rfl, rfl, HST.out, (Below.refl _ _).alloc (Nat.le_refl _) _⟩
  case round =>
    obtain ⟨k, hk, rfl, rfl, hB, hbel⟩ := hrel
    have HB3 : Hid (Blk wr w2.heap.size (whA d n k)) := hB
    have HBL3 : Hid (Below w2.heap.size w2 wr) := hbel
    clear hB hbel
    by_cases hlt : k < d.length
    · have hf := HB3.out.frozen k
      obtain ⟨x, hc⟩ : ∃ x, wr.cell? ⟨w2.heap.size, k, none⟩ = some x := ⟨_, HB3.out.cell k (by rw [whA_length]; exact hlt)⟩
      have hs : wr.cell? ⟨w1.heap.size, k, none⟩ = some (.int .i64 (stE d d.length k)) := by
        rw [(HK2.out.later HBL3.out (by omega)).cell k (by rw [stp_length]; exact hlt), stp_get]
      obtain ⟨s1, s2⟩ := stE_bd2 HI.out hl2 k hlt
      obtain ⟨r1, r2⟩ := whR_bd HI.out hl2 h0 h64 k hk
      have hne : ¬ (stE d d.length k = 0) := by omega
      have hnb : (stE d d.length k == 0) = false := by simp; omega
      go_wp2
      refine ⟨⟨k + 1, by omega, by go_num, rfl, ?_, HBL3.out.setCell (Nat.le_refl _) _⟩, by simp [intOf]; omega⟩
      have := HB3.out.set k (whE d n k)
      rw [whA_set] at this
      exact this
    · have hk' : k = d.length := by omega
      subst hk'
      go_wp2
      go_ret2
      refine ⟨w2.heap.size, by omega, rfl, ?_, Below.after HB2.out HBL3.out⟩
      have := HB3.out
      rw [whA_all] at this
      exact this
set_option maxHeartbeats 1000000 in
theorem crossed_any {v : Value} {x y : Int} {w : World} (h : Ints w v [x, y]) :
    Calls Tryz.prog 80 #[v] w fun e w' => e = .returned (.slice (some ⟨w.heap.size, 0, none⟩) 2 2) ∧ Blk w' w.heap.size [y, x] ∧ Below w.heap.size w w' := by
  obtain ⟨b, off, c, rfl, hc, hcell⟩ : ∃ b off c, v = .slice (some ⟨b, off, none⟩) 2 c ∧ 2 ≤ c ∧ (w.cell? ⟨b, off + 0, none⟩ = some (.int .i64 x) ∧ w.cell? ⟨b, off + 1, none⟩ = some (.int .i64 y)) := by
    rcases h.cases with ⟨e, _⟩ | ⟨b, off, c, rfl, h0, h1, h2, HC⟩
    · cases e
    · exact ⟨b, off, c, rfl, h1, HC.out 0 (by simp), HC.out 1 (by simp)⟩
  have hmk : (Instr.makeSlice 23 (.int .i64 2) (.int .i64 2)).run Tryz.prog w = .ok (.slice (some ⟨w.heap.size, 0, none⟩) 2 2) (w.alloc (.cells (ia (zer 2)) 3)) := make_ints w 2 (by omega)
  obtain ⟨g0, g1⟩ := hcell
  have hb0 : Below w.heap.size w ((w.alloc (.cells (ia (zer 2)) 3)).iter ⟨#[49, 48]⟩ 0) := by
    rw [iter_alloc]
    exact ((Below.refl _ _).alloc (Nat.le_refl _) _).alloc (by simp) _
  have hI0 : It ((w.alloc (.cells (ia (zer 2)) 3)).iter ⟨#[49, 48]⟩ 0) (w.heap.size + 1) ⟨#[49, 48]⟩ 0 := by
    have := It.new (w.alloc (.cells (ia (zer 2)) 3)) ⟨#[49, 48]⟩ 0
    simpa using this
  have hB0 : Blk ((w.alloc (.cells (ia (zer 2)) 3)).iter ⟨#[49, 48]⟩ 0) w.heap.size [0, 0] := by
    rw [iter_alloc]
    exact (Blk.new w _).alloc _
  have hn0 := fun ty => hI0.nx (by decide) 49 (by decide) (by decide) ty
  clear h
  go_enter Tryz.func80, Tryz.ntmps80
  go_wp2
  have hI1 := hI0.moved 1
  have hB1 := hB0.moved (I := w.heap.size + 1) (by omega) ⟨#[49, 48]⟩ 1
  have hb1 := Below.moved hb0 (I := w.heap.size + 1) (by omega) ⟨#[49, 48]⟩ 1
  clear hI0 hB0 hb0 hmk
  refine wp_loop_rounds 3 ?_
  rw [rounds_succ]
  generalize hW1 : ((w.alloc (.cells (ia (zer 2)) 3)).iter ⟨#[49, 48]⟩ 0).iterAt (w.heap.size + 1) ⟨#[49, 48]⟩ 1 = W1 at *
  have c1 : W1.cell? ⟨b, off + 1, none⟩ = some (.int .i64 y) := cell_later hb1 g1
  have d0 : W1.cell? ⟨w.heap.size, 0, none⟩ = some (.int .i64 0) := hB1.cell 0 (by simp)
  have f0 := hB1.frozen 0
  go_wp2
  have hI2 := hI1.set ⟨w.heap.size, 0, none⟩ (.int .i64 y) (by simp)
  have hB2 : Blk (W1.setCell ⟨w.heap.size, 0, none⟩ (.int .i64 y)) w.heap.size [y, 0] := hB1.set 0 y
  have hb2 : Below w.heap.size w (W1.setCell ⟨w.heap.size, 0, none⟩ (.int .i64 y)) := hb1.setCell (Nat.le_refl _) _
  have hn1 := fun ty => hI2.nx (by decide) 48 (by decide) (by decide) ty
  have hI3 := hI2.moved 2
  have hB3 := hB2.moved (I := w.heap.size + 1) (by omega) ⟨#[49, 48]⟩ 2
  have hb3 := Below.moved hb2 (I := w.heap.size + 1) (by omega) ⟨#[49, 48]⟩ 2
  clear hI1 hB1 hb1 hI2 hB2 hb2 c1 d0 f0 hn0 hW1
  generalize (W1.setCell ⟨w.heap.size, 0, none⟩ (.int .i64 y)) = V1 at *
  rw [rounds_succ]
  generalize V1.iterAt (w.heap.size + 1) ⟨#[49, 48]⟩ 2 = W2 at *
  have c0 : W2.cell? ⟨b, off, none⟩ = some (.int .i64 x) := cell_later hb3 g0
  have d1 : W2.cell? ⟨w.heap.size, 1, none⟩ = some (.int .i64 0) := hB3.cell 1 (by simp)
  have f1 := hB3.frozen 1
  go_wp2
  have hI4 := hI3.set ⟨w.heap.size, 1, none⟩ (.int .i64 x) (by simp)
  have hB4 : Blk (W2.setCell ⟨w.heap.size, 1, none⟩ (.int .i64 x)) w.heap.size [y, x] := hB3.set 1 x
  have hb4 : Below w.heap.size w (W2.setCell ⟨w.heap.size, 1, none⟩ (.int .i64 x)) := hb3.setCell (Nat.le_refl _) _
  have hn2 := fun ty => hI4.nd (by decide) ty
  clear hI3 hB3 hb3 c0 d1 f1 hn1
  generalize (W2.setCell ⟨w.heap.size, 1, none⟩ (.int .i64 x)) = V2 at *
  rw [rounds_succ]
  go_wp2
  go_ret
  exact ⟨rfl, hB4, hb4⟩
theorem at_to {v v' : Value} {d p : List Int} {w : World} (x : Int) (hd : Ints w v d) (hp : Ints w v' p) (ha : aok d p = true) (hx : atV d p = x) :
    Calls Tryz.prog 82 #[v, v'] w fun e w' => e = .returned (.tuple #[.int .i64 x, .int .i64 0]) ∧ Below w.heap.size w w' := by
  have hok : okd d = true := by
    simp only [aok, Bool.and_eq_true] at ha
    exact ha.1
  have := at_ok hd hp hok
  rw [atR, atE, ha, if_pos rfl, if_pos rfl, hx] at this
  exact this
set_option maxRecDepth 100000 in
set_option maxHeartbeats 2000000 in
theorem turn_bad {a0 a1 : Value} {s : Ten} {w : World} (ha : Tens w a0 a1 s) (hx : tok s = false) :
    Calls Tryz.prog 63 #[.agg #[a0, a1]] w fun e w' => e = .returned (.tuple #[.agg #[.slice none 0 0, .slice none 0 0], .int .i64 1]) ∧ Below w.heap.size w w' := by
  have hb : Below w.heap.size w (((w.alloc (.cells #[a0, a1] 34)).alloc (.cells #[.slice none 0 0, .slice none 0 0] 34)).alloc (.cells #[.slice none 0 0, .slice none 0 0] 34)) := (((Below.refl _ _).alloc (Nat.le_refl _) _).alloc (by simp) _).alloc (by simp; omega) _
  have HA : Hid (Tens (((w.alloc (.cells #[a0, a1] 34)).alloc (.cells #[.slice none 0 0, .slice none 0 0] 34)).alloc (.cells #[.slice none 0 0, .slice none 0 0] 34)) a0 a1 s) := ha.later hb
  have HB : Hid (Below w.heap.size w (((w.alloc (.cells #[a0, a1] 34)).alloc (.cells #[.slice none 0 0, .slice none 0 0] 34)).alloc (.cells #[.slice none 0 0, .slice none 0 0] 34))) := hb
  have HBX : Hid (Box (((w.alloc (.cells #[a0, a1] 34)).alloc (.cells #[.slice none 0 0, .slice none 0 0] 34)).alloc (.cells #[.slice none 0 0, .slice none 0 0] 34)) (w.heap.size + 1) (.slice none 0 0) (.slice none 0 0)) := by
    have := (Box.new (w.alloc (.cells #[a0, a1] 34)) (.slice none 0 0) (.slice none 0 0)).alloc (.cells #[.slice none 0 0, .slice none 0 0] 34)
    simp only [World.size_alloc] at this
    exact this
  obtain ⟨aa, an, ac, rfl⟩ := ha.1.shape3
  obtain ⟨ba, bn, bc, rfl⟩ := ha.2.shape3
  have HT : Hid (tkE s = 1) := by show _ = _; simp [tkE, hx]
  clear ha hb hx
  go_enter Tryz.func63, Tryz.ntmps63
  go_wp2_with fail
  refine wp_scope_jumps 0 (Jg 58 2 (w.heap.size + 1) w) (fun _ _ => 0) rfl ?_ ?_
  · go_wp2_with fail
    refine (tensor_to 1 HA.out HT.out).mono ?_
    rintro e w2 ⟨rfl, hb2⟩
    have HB2 : Hid (Below w.heap.size w w2) := Below.after HB.out hb2
    have HBX2 : Hid (Box w2 (w.heap.size + 1) (.slice none 0 0) (.slice none 0 0)) := HBX.out.later hb2
    clear hb2
    go_wp2
    go_step3
    exact ⟨rfl, rfl, rfl, rfl, HBX2.out, HB2.out⟩
  · rintro a w' ⟨hd, hs, h4, hbx, hbe⟩
    obtain ⟨G, hg, e⟩ := act58 a hd hs
    rw [hg] at h4
    subst e
    rw [h4]
    have l0 := hbx.c0
    have l1 := hbx.c1
    have m0 := hbx.f 0
    have m1 := hbx.f 1
    have HBS : Hid (Box _ _ _ _) := hbx.set (.slice none 0 0) (.slice none 0 0)
    have HBE : Hid (Below w.heap.size w w') := hbe
    clear hg hd hs hbx h4 hbe
    go_wp2
    rw [jump_ret]
    have hr0 := HBS.out.c0
    have hr1 := HBS.out.c1
    exact bodyPost_ret (v := .tuple #[.agg #[.slice none 0 0, .slice none 0 0], .int .i64 1]) (by simp [results, Tryz.results63, go_sem, hr0, hr1]) rfl ⟨rfl, (HBE.out.setCell (by simp) _).setCell (by simp) _⟩
set_option maxRecDepth 100000 in
set_option maxHeartbeats 2000000 in
theorem turn_four {a0 a1 : Value} {s : Ten} {w : World} (ha : Tens w a0 a1 s) (hx : tok s = true) (h2 : s.1.length ≠ 2) :
    Calls Tryz.prog 63 #[.agg #[a0, a1]] w fun e w' => e = .returned (.tuple #[.agg #[.slice none 0 0, .slice none 0 0], .int .i64 4]) ∧ Below w.heap.size w w' := by
  have hb : Below w.heap.size w (((w.alloc (.cells #[a0, a1] 34)).alloc (.cells #[.slice none 0 0, .slice none 0 0] 34)).alloc (.cells #[.slice none 0 0, .slice none 0 0] 34)) := (((Below.refl _ _).alloc (Nat.le_refl _) _).alloc (by simp) _).alloc (by simp; omega) _
  have HA : Hid (Tens (((w.alloc (.cells #[a0, a1] 34)).alloc (.cells #[.slice none 0 0, .slice none 0 0] 34)).alloc (.cells #[.slice none 0 0, .slice none 0 0] 34)) a0 a1 s) := ha.later hb
  have HB : Hid (Below w.heap.size w (((w.alloc (.cells #[a0, a1] 34)).alloc (.cells #[.slice none 0 0, .slice none 0 0] 34)).alloc (.cells #[.slice none 0 0, .slice none 0 0] 34))) := hb
  have HBA : Hid (Box (((w.alloc (.cells #[a0, a1] 34)).alloc (.cells #[.slice none 0 0, .slice none 0 0] 34)).alloc (.cells #[.slice none 0 0, .slice none 0 0] 34)) w.heap.size a0 a1) := ((Box.new w a0 a1).alloc _).alloc _
  have HBX : Hid (Box (((w.alloc (.cells #[a0, a1] 34)).alloc (.cells #[.slice none 0 0, .slice none 0 0] 34)).alloc (.cells #[.slice none 0 0, .slice none 0 0] 34)) (w.heap.size + 1) (.slice none 0 0) (.slice none 0 0)) := by
    have := (Box.new (w.alloc (.cells #[a0, a1] 34)) (.slice none 0 0) (.slice none 0 0)).alloc (.cells #[.slice none 0 0, .slice none 0 0] 34)
    simp only [World.size_alloc] at this
    exact this
  obtain ⟨n, hn⟩ : ∃ n, s.1.length = n := ⟨_, rfl⟩
  have hne : ((n : Int) != 2) = true := by simp; omega
  obtain ⟨aa, ac, ea⟩ := ha.1.shape
  rw [hn] at ea
  subst ea
  obtain ⟨ba, bn, bc, rfl⟩ := ha.2.shape3
  have HT : Hid (tkE s = 0) := by show _ = _; simp [tkE, hx]
  clear ha hb hx h2 hn
  go_enter Tryz.func63, Tryz.ntmps63
  go_wp2_with fail
  refine wp_scope_jumps 1 (Jg 58 2 (w.heap.size + 1) w) (fun _ _ => 0) rfl ?_ ?_
  · go_wp2_with fail
    refine (tensor_to 0 HA.out HT.out).mono ?_
    rintro e w2 ⟨rfl, hb2⟩
    have hc0 := (HBA.out.later hb2).c0
    have HB2 : Hid (Below w.heap.size w w2) := Below.after HB.out hb2
    have HBX2 : Hid (Box w2 (w.heap.size + 1) (.slice none 0 0) (.slice none 0 0)) := HBX.out.later hb2
    clear hb2
    go_wp2
    go_step3
    exact ⟨rfl, rfl, rfl, rfl, HBX2.out, HB2.out⟩
  · rintro a w' ⟨hd, hs, h4, hbx, hbe⟩
    obtain ⟨G, hg, e⟩ := act58 a hd hs
    rw [hg] at h4
    subst e
    rw [h4]
    have l0 := hbx.c0
    have l1 := hbx.c1
    have m0 := hbx.f 0
    have m1 := hbx.f 1
    have HBS : Hid (Box _ _ _ _) := hbx.set (.slice none 0 0) (.slice none 0 0)
    have HBE : Hid (Below w.heap.size w w') := hbe
    clear hg hd hs hbx h4 hbe
    go_wp2
    rw [jump_ret]
    have hr0 := HBS.out.c0
    have hr1 := HBS.out.c1
    exact bodyPost_ret (v := .tuple #[.agg #[.slice none 0 0, .slice none 0 0], .int .i64 4]) (by simp [results, Tryz.results63, go_sem, hr0, hr1]) rfl ⟨rfl, (HBE.out.setCell (by simp) _).setCell (by simp) _⟩
end Go.Proofs.YtheddpjaihhbdacGreat
