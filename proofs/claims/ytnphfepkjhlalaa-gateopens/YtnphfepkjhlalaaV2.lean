/- Contract: the page's Max. -/
import Derived.Test.YtnphfepkjhlalaaV1
import Derived.Test.YtnphfepkjhlalaaU2
namespace Go.Proofs.Ytnphfepkjhlalaa
set_option linter.unusedVariables false
set_option linter.unusedSimpArgs false
open Go.RowKit

theorem first_to {b off n cap : Nat} {l : List Int} {w : World} (f : Nat) (h1 : 1 ≤ n) (h64 : n ≤ 64) (hcap : n ≤ cap) (hf : fsN l n = f)
    (hc : ∀ i, i < n → w.cell? ⟨b, off + i, none⟩ = some (.int .i64 (l.getD i 0))) :
    Calls Try.prog 34 #[.slice (some ⟨b, off, none⟩) n cap] w fun e w' => e = .returned (.int .i64 f) ∧ Below w.heap.size w w' := by
  subst hf
  refine (first_any h1 h64 hcap hc).mono ?_
  rintro e w' ⟨rfl, m, rfl⟩
  exact ⟨rfl, Below.drewN (Below.refl _ _) _⟩
theorem few_parts {s : Ten} {n : Int} (hf : fwE s n = 0) : ∃ (k m : Nat), n = k ∧ tok s = true ∧ 1 ≤ k ∧ k ≤ 8 ∧ 1 ≤ m ∧ s.2.length = m * k ∧ okd (lesD s.1 n) = true ∧ (prd (lesD s.1 n)).toNat = m ∧ mxR s n = (lesD s.1 n, maxs k m s.2) := by
  obtain ⟨hx, hn1, hn8, hd⟩ := fwE_zero hf
  obtain ⟨k, rfl⟩ : ∃ k : Nat, n = k := ⟨n.toNat, by omega⟩
  obtain ⟨m, hm1, hm, ho, hp⟩ := few_mul hx (by omega) hd
  have hq : s.2.length / k = m := by rw [hm]; exact Nat.mul_div_cancel _ (by omega)
  exact ⟨k, m, rfl, hx, by omega, by omega, hm1, hm, ho, hp, by rw [mxR, if_pos hf, mxM, Int.toNat_natCast, hq]⟩
set_option maxRecDepth 100000 in
set_option maxHeartbeats 4000000 in
theorem rmax_ok {a0 a1 : Value} {s : Ten} {w : World} (n m L : Nat) (ha : Tens w a0 a1 s) (hx : tok s = true) (hn1 : 1 ≤ n) (hn8 : n ≤ 8) (hm1 : 1 ≤ m) (hL : s.2.length = L) (hm : L = m * n) (hok : okd (lesD s.1 n) = true) (hpm : (prd (lesD s.1 n)).toNat = m) :
    Calls Try.prog 15 #[.agg #[a0, a1], .int .i64 n] w fun e w' => ∃ x0 x1, e = .returned (.agg #[x0, x1]) ∧ OwnT w' w.heap.size x0 x1 (lesD s.1 n, maxs n m s.2) ∧ Below w.heap.size w w' := by
  have hpos := tok_pos hx
  rw [hL] at hpos
  obtain ⟨aa, an, ac0, rfl⟩ := ha.1.shape3
  obtain ⟨ab, ao, ac, rfl, hac, hca⟩ := Own.getD ha.2 hL hpos.1
  have hb : Below w.heap.size w ((w.alloc (.cells #[.slice aa an ac0, .slice (some ⟨ab, ao, none⟩) L ac] 28)).alloc (.cells #[.slice none 0 0, .slice none 0 0] 28)) := (((Below.refl _ _).alloc (Nat.le_refl _) _).alloc (by simp) _)
  have HB : Hid (Below w.heap.size w ((w.alloc (.cells #[.slice aa an ac0, .slice (some ⟨ab, ao, none⟩) L ac] 28)).alloc (.cells #[.slice none 0 0, .slice none 0 0] 28))) := hb
  have HA : Hid (Tens ((w.alloc (.cells #[.slice aa an ac0, .slice (some ⟨ab, ao, none⟩) L ac] 28)).alloc (.cells #[.slice none 0 0, .slice none 0 0] 28)) (.slice aa an ac0) (.slice (some ⟨ab, ao, none⟩) L ac) s) := ha.later hb
  have HBA : Hid (Box ((w.alloc (.cells #[.slice aa an ac0, .slice (some ⟨ab, ao, none⟩) L ac] 28)).alloc (.cells #[.slice none 0 0, .slice none 0 0] 28)) w.heap.size (.slice aa an ac0) (.slice (some ⟨ab, ao, none⟩) L ac)) := (Box.new w _ _).alloc _
  have HBX : Hid (Box ((w.alloc (.cells #[.slice aa an ac0, .slice (some ⟨ab, ao, none⟩) L ac] 28)).alloc (.cells #[.slice none 0 0, .slice none 0 0] 28)) (w.heap.size + 1) (.slice none 0 0) (.slice none 0 0)) := by
    have := Box.new (w.alloc (.cells #[.slice aa an ac0, .slice (some ⟨ab, ao, none⟩) L ac] 28)) (.slice none 0 0) (.slice none 0 0)
    simp only [World.size_alloc] at this
    exact this
  have hab : ab < w.heap.size := World.block_lt_of_cell? _ _ (hca 0 (by omega))
  have HCD : Hid (∀ i, i < L → w.cell? ⟨ab, ao + i, none⟩ = some (.int .i64 (s.2.getD i 0))) := hca
  have HOK : Hid (okd s.1 = true) := tok_okd hx
  have HO2 : Hid (okd (lesD s.1 n) = true) := hok
  have HPM : Hid ((prd (lesD s.1 n)).toNat = m) := hpm
  have HLM : Hid (L = m * n) := hm
  have hL64 := hpos.2
  have hm64 : m ≤ 64 := by
    have : m * 1 ≤ m * n := Nat.mul_le_mul_left m hn1
    omega
  clear ha hb hca hx hok hpm hL hpos hm
  go_enter Try.func15, Try.ntmps15
  go_wp2_with fail
  refine (less_ok n HA.out.1 HOK.out hn1 hn8).mono ?_
  rintro e w1 ⟨x, rfl, ho, hb1⟩
  obtain ⟨la, ln, lc, rfl⟩ := ho.ints.shape3
  have HI : Hid (Ints w1 (.slice la ln lc) (lesD s.1 n)) := ho.ints
  have HB1 : Hid (Below w.heap.size w w1) := Below.after HB.out hb1
  have HBA1 : Hid (Box w1 w.heap.size (.slice aa an ac0) (.slice (some ⟨ab, ao, none⟩) L ac)) := HBA.out.later hb1
  have HBX1 : Hid (Box w1 (w.heap.size + 1) (.slice none 0 0) (.slice none 0 0)) := HBX.out.later hb1
  have hs1 := hb1.size
  simp at hs1
  clear ho hb1 HBA HBX HA
  go_wp2_with fail
  refine (rfill_own 0 HI.out HO2.out).mono ?_
  rw [HPM.out]
  rintro e w2 ⟨x0, x1, rfl, ho, hb2⟩
  have hs2 := hb2.size
  obtain ⟨xa, xn, xc, rfl⟩ := ho.dims.ints.shape3
  obtain ⟨g, cap, e1, hcap, hg1, hg2⟩ := ho.data.form (by simp; omega)
  simp only [List.length_replicate] at e1 hcap
  subst e1
  have HAP : Hid (∀ k, (Value.slice xa xn xc).ownBlock = some k → k ≠ g) := fun k hk e => ho.apart k hk (by rw [e]; rfl)
  have HB2 : Hid (Below w.heap.size w (w2.alloc (.cells #[.slice xa xn xc, .slice (some ⟨g, 0, none⟩) m cap] 28))) := Below.push (Below.after HB1.out hb2) _
  have HBA2 : Hid (Box (w2.alloc (.cells #[.slice xa xn xc, .slice (some ⟨g, 0, none⟩) m cap] 28)) w.heap.size (.slice aa an ac0) (.slice (some ⟨ab, ao, none⟩) L ac)) := (HBA1.out.later hb2).alloc _
  have HBX2 : Hid (Box (w2.alloc (.cells #[.slice xa xn xc, .slice (some ⟨g, 0, none⟩) m cap] 28)) (w.heap.size + 1) (.slice none 0 0) (.slice none 0 0)) := (HBX1.out.later hb2).alloc _
  have HBT2 : Hid (Box (w2.alloc (.cells #[.slice xa xn xc, .slice (some ⟨g, 0, none⟩) m cap] 28)) w2.heap.size (.slice xa xn xc) (.slice (some ⟨g, 0, none⟩) m cap)) := Box.new _ _ _
  have HOD : Hid (Own (w2.alloc (.cells #[.slice xa xn xc, .slice (some ⟨g, 0, none⟩) m cap] 28)) (w.heap.size + 1 + 1) (.slice xa xn xc) (lesD s.1 n)) := (ho.dims.mono hs1).later (Below.push (Below.refl _ _) _)
  have HOK2 : Hid (Own (w2.alloc (.cells #[.slice xa xn xc, .slice (some ⟨g, 0, none⟩) m cap] 28)) (w.heap.size + 1 + 1) (.slice (some ⟨g, 0, none⟩) m cap) (lay (mC n s.2) m 0)) := by
    show Own _ _ _ _
    rw [lay_zero]
    exact (ho.data.mono hs1).later (Below.push (Below.refl _ _) _)
  have hsv : (w2.alloc (.cells #[.slice xa xn xc, .slice (some ⟨g, 0, none⟩) m cap] 28)).heap.size = w2.heap.size + 1 := by simp
  clear ho hb2 HBA1 HBX1 HB1 HB HI
  go_wp2
  generalize (w2.alloc (.cells #[.slice xa xn xc, .slice (some ⟨g, 0, none⟩) m cap] 28)) = V at HB2 HBA2 HBX2 HBT2 HOD HOK2 hsv ⊢
  go_loopw [6] (fun i w' => ∃ j : Nat, j ≤ m ∧ i = .int .i64 j ∧ Own w' (w.heap.size + 1 + 1) (.slice (some ⟨g, 0, none⟩) m cap) (lay (mC n s.2) m j) ∧ Bu g V w') (fun i _ => m - (intOf i).toNat)
  case atStart => exact ⟨0, by omega, rfl, HOK2.out, Bu.refl _ _⟩
  case round =>
    obtain ⟨j, hj, rfl, hO, hbu⟩ := hrel
    have HOR : Hid (Own wr (w.heap.size + 1 + 1) (.slice (some ⟨g, 0, none⟩) m cap) (lay (mC n s.2) m j)) := hO
    have HBU : Hid (Bu g V wr) := hbu
    have HBW : Hid (Below w.heap.size w wr) := hbu.below HB2.out (by omega) (by omega)
    clear hO hbu
    have v1 := (HBU.out.box HBA2.out (by omega)).c1
    have v2 := (HBU.out.box HBT2.out (by omega)).c1
    by_cases hlt : j < m
    · obtain ⟨c, hc⟩ : ∃ c, j * n = c := ⟨_, rfl⟩
      have hcL : c + n ≤ L := by
        have : (j + 1) * n ≤ m * n := Nat.mul_le_mul_right n hlt
        rw [Nat.add_mul, hc] at this
        have := HLM.out
        omega
      have HFC : Hid (∀ i, i < n → wr.cell? ⟨ab, ao + c + i, none⟩ = some (.int .i64 ((chk n s.2 j).getD i 0))) := by
        intro i hi
        rw [chk_get hi, hc, Nat.add_assoc]
        exact cell_later HBW.out (HCD.out (c + i) (by omega))
      obtain ⟨f, hf⟩ : ∃ f, fsN (chk n s.2 j) n = f := ⟨_, rfl⟩
      have hfn : f < n := by rw [← hf]; exact (fsN_spec _ n hn1).1
      have HF : Hid (fsN (chk n s.2 j) n = f) := hf
      obtain ⟨x, hx⟩ : ∃ x, mC n s.2 j = x := ⟨_, rfl⟩
      have hvx : wr.cell? ⟨ab, ao + c + f, none⟩ = some (.int .i64 x) := by
        rw [HFC.out f hfn, chk_get hfn, ← hx, mC, show fC n s.2 j = f from hf]
      have HLJ : Hid ((lay (mC n s.2) m j).set j x = lay (mC n s.2) m (j + 1)) := by show _ = _; rw [← hx]; exact lay_set _ _ _
      have y0 : (j : Int) * n = (c : Int) := by rw [← hc]; simp
      have y1 : IntKind.i64.wrap ((j : Int) * n) = (c : Int) := by rw [y0]; exact wrap_small _ (by omega) (by omega)
      obtain ⟨e, he⟩ : ∃ e, c + n = e := ⟨_, rfl⟩
      have y2 : IntKind.i64.wrap ((c : Int) + n) = (e : Int) := by rw [wrap_small _ (by omega) (by omega)]; omega
      have hen : e - c = n := by omega
      have hc2 : n ≤ ac - c := by omega
      have z0 : (0 : Int) ≤ (j : Int) := by omega
      have z1 : (j : Int) < m := by omega
      have z2 : (0 : Int) ≤ (c : Int) := by omega
      have z3 : (c : Int) ≤ (e : Int) := by omega
      have z4 : (e : Int) ≤ (ac : Int) := by omega
      have z5 : (0 : Int) ≤ (f : Int) := by omega
      have z6 : (f : Int) < n := by omega
      have n3 : g ≠ w2.heap.size := by omega
      have n4 : w2.heap.size ≠ g := by omega
      have n5 : ab ≠ g := by omega
      have n6 : g ≠ ab := by omega
      clear hc hf hx y0
      go_wp2_with fail
      go_region_held3 (fun w' => w'.cell? ⟨w2.heap.size, 1, none⟩ = some (.slice (some ⟨g, 0, none⟩) m cap) ∧ w'.cell? ⟨ab, ao + c + f, none⟩ = some (.int .i64 x)) (go_keep)
        (first
          | (go_at_call 34; refine (first_to f hn1 (by omega) hc2 HF.out ?_).mono ?_; exact (fun i hi => cell_later (Below.refl _ _).drew (HFC.out i hi)); rintro r w4 ⟨rfl, hb4⟩; have HB4 : Hid (Below wr.heap.size wr w4) := Below.after (Below.refl _ _).drew hb4; have a_0 := cell_later HB4.out v2; have a_1 := cell_later HB4.out hvx; have HO6 : Hid (Own w4 (w.heap.size + 1 + 1) (.slice (some ⟨g, 0, none⟩) m cap) (lay (mC n s.2) m j)) := HOR.out.later HB4.out; have hc := (HO6.out.put (lay_length _ _ _) j hlt 0).1; have hf := (HO6.out.put (lay_length _ _ _) j hlt 0).2.1; clear hb4))
      have HS : Hid (Own (w4.setCell ⟨g, j, none⟩ (.int .i64 x)) (w.heap.size + 1 + 1) (.slice (some ⟨g, 0, none⟩) m cap) (lay (mC n s.2) m (j + 1))) := by
        have hS := (HO6.out.put (lay_length _ _ _) j hlt x).2.2
        rw [HLJ.out] at hS
        exact hS
      have HBS : Hid (Bu g V (w4.setCell ⟨g, j, none⟩ (.int .i64 x))) := (HBU.out.after HB4.out).setCell _
      clear hc hf a_0 a_1 v1 v2 hvx
      go_wp2
      go_roundw
      case rel => exact ⟨j + 1, by omega, by go_num, HS.out, HBS.out⟩
      case measure => simp [intOf]; omega
    · have hj' : j = m := by omega
      subst hj'
      have hbt := HBU.out.box HBT2.out (by omega)
      have t0 := hbt.c0
      have t1 := hbt.c1
      have hbx := HBU.out.box HBX2.out (by omega)
      have l0 := hbx.c0
      have l1 := hbx.c1
      have m0 := hbx.f 0
      have m1 := hbx.f 1
      have HBS : Hid (Box _ _ _ _) := hbx.set (.slice xa xn xc) (.slice (some ⟨g, 0, none⟩) j cap)
      have HO5 : Hid (Own wr (w.heap.size + 1 + 1) (.slice xa xn xc) (lesD s.1 n)) := HOD.out.at fun k hk => HBU.out.block k (HOD.out.lt k hk) (HAP.out k hk)
      have HK5 : Hid (Own wr (w.heap.size + 1 + 1) (.slice (some ⟨g, 0, none⟩) j cap) (maxs n j s.2)) := by
        have h := HOR.out
        rw [lay_all] at h
        exact h
      clear hbx hbt v1 v2
      go_wp2
      have hr0 := HBS.out.c0
      have hr1 := HBS.out.c1
      refine bodyPost_ret (v := .agg #[.slice xa xn xc, .slice (some ⟨g, 0, none⟩) j cap]) (by simp [results, Try.results15, go_sem, hr0, hr1]) rfl ⟨_, _, rfl, ?_, ?_⟩
      · have h1 : OwnT wr (w.heap.size + 1 + 1) (.slice xa xn xc) (.slice (some ⟨g, 0, none⟩) j cap) (lesD s.1 n, maxs n j s.2) := ⟨HO5.out, HK5.out, fun k hk e => by simp [Value.ownBlock] at e; exact HAP.out k hk e.symm⟩
        exact ((h1.setCell _ _ (by simp)).setCell _ _ (by simp)).mono (by omega)
      · exact (HBW.out.setCell (by simp) _).setCell (by simp) _
end Go.Proofs.Ytnphfepkjhlalaa
