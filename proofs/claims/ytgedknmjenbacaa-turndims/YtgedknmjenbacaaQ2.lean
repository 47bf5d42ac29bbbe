/- Contract: the page's Wide. -/
import Derived.Test.YtgedknmjenbacaaQ1
namespace Go.Proofs.Ytgedknmjenbacaa
set_option linter.unusedVariables false
set_option linter.unusedSimpArgs false
open Go.RowKit

set_option maxRecDepth 100000 in
set_option maxHeartbeats 4000000 in
theorem rwide_ok {a0 a1 v : Value} {s : Ten} {d : List Int} {w : World} (ha : Tens w a0 a1 s) (hd : Ints w v d) (hx : wiE s d = 0) :
    Calls Try.prog 22 #[.agg #[a0, a1], v] w fun e w' => ∃ x0 x1, e = .returned (.agg #[x0, x1]) ∧ OwnT w' w.heap.size x0 x1 (wiR s d) ∧ Below w.heap.size w w' := by
  have ht : tok s = true := by
    cases h : tok s with
    | true => rfl
    | false => rw [wiE, h] at hx; simp at hx
  have hw : wdr s.1 d = 0 := by rw [wiE, ht] at hx; exact hx
  obtain ⟨o1, o2, hwd⟩ := wdr_zero hw
  obtain ⟨hl1, hl3, hin, hp⟩ := okd_parts o2
  have hp1 := prd_lo hin
  obtain ⟨n, hn⟩ : ∃ n : Nat, prd d = n := ⟨(prd d).toNat, by omega⟩
  have hn1 : 1 ≤ n := by omega
  have hn64 : n ≤ 64 := by omega
  have hnt : (prd d).toNat = n := by omega
  obtain ⟨hp2, hp3⟩ := tok_pos ht
  obtain ⟨m, hm⟩ : ∃ m : Nat, s.2.length = m := ⟨_, rfl⟩
  have hm1 : 1 ≤ m := by omega
  have hm64 : m ≤ 64 := by omega
  have HPM : Hid (prd s.1 = m) := by show _ = _; rw [← tok_len ht, hm]
  have HL : Hid (∀ i, i < n → wmp s.1 d i < m) := fun i hi => by
    have h1 := (wmp_lt o1 o2 hwd i (by rw [hn]; omega)).2.2
    rw [HPM.out] at h1
    omega
  have HNT : Hid ((prd d).toNat = n) := hnt
  have HPD : Hid (prd d = n) := hn
  obtain ⟨hl1', hl3', _⟩ := okd_parts o1
  have O1 : Hid (okd s.1 = true) := o1
  have O2 : Hid (okd d = true) := o2
  have HWD : Hid (wid s.1 d = true) := hwd
  have hb : Below w.heap.size w ((w.alloc (.cells #[a0, a1] 31)).alloc (.cells #[.slice none 0 0, .slice none 0 0] 31)) := ((Below.refl _ _).alloc (Nat.le_refl _) _).alloc (by simp) _
  have HA0 : Hid (Tens w a0 a1 s) := ha
  have HD0 : Hid (Ints w v d) := hd
  have HD : Hid (Ints ((w.alloc (.cells #[a0, a1] 31)).alloc (.cells #[.slice none 0 0, .slice none 0 0] 31)) v d) := hd.later hb
  have HB : Hid (Below w.heap.size w ((w.alloc (.cells #[a0, a1] 31)).alloc (.cells #[.slice none 0 0, .slice none 0 0] 31))) := hb
  have HBA : Hid (Box ((w.alloc (.cells #[a0, a1] 31)).alloc (.cells #[.slice none 0 0, .slice none 0 0] 31)) w.heap.size a0 a1) := (Box.new w a0 a1).alloc _
  have HBX : Hid (Box ((w.alloc (.cells #[a0, a1] 31)).alloc (.cells #[.slice none 0 0, .slice none 0 0] 31)) (w.heap.size + 1) (.slice none 0 0) (.slice none 0 0)) := by
    have := Box.new (w.alloc (.cells #[a0, a1] 31)) (.slice none 0 0) (.slice none 0 0)
    simp only [World.size_alloc] at this
    exact this
  rcases ha.2.cases with ⟨e, _⟩ | ⟨ab, ao, ac, ea, hab0, ha1, _, HCA⟩
  · rw [e] at hm; simp at hm; omega
  have hab : ab < w.heap.size := World.block_lt_of_cell? _ _ (HCA.out 0 hab0)
  have HCD : Hid (∀ i, i < m → w.cell? ⟨ab, ao + i, none⟩ = some (.int .i64 (s.2.getD i 0))) := fun i hi => Ints.cellD (n := 0) (c := 0) HCA i (by rw [hm]; exact hi)
  rw [hm] at ea ha1
  subst ea
  obtain ⟨aa, an, ac', rfl⟩ := ha.1.shape3
  obtain ⟨da, dn, dc, rfl⟩ := hd.shape3
  rw [wiR, if_pos hx, hnt]
  clear ha hd hb hx ht hw o1 o2 hwd hin hp hp1 hn hnt hp2 hp3 hm hab0 HCA
  go_enter Try.func22, Try.ntmps22
  go_wp2_with fail
  refine (rfill_own 0 HD.out O2.out).mono ?_
  rw [HNT.out]
  rintro r w2 ⟨x0, x1, rfl, ho, hb2⟩
  have hs2 := hb2.size
  simp at hs2
  simp only [World.size_alloc] at ho
  obtain ⟨xa, xn, xc, rfl⟩ := ho.dims.ints.shape3
  obtain ⟨g, cap, ex, hcap, hg1, hg2⟩ := ho.data.form (by simp; omega)
  simp only [List.length_replicate] at ex hcap
  subst ex
  have hv : Below w2.heap.size w2 (w2.alloc (.cells #[.slice xa xn xc, .slice (some ⟨g, 0, none⟩) n cap] 31)) := (Below.refl _ _).alloc (Nat.le_refl _) _
  have HB2 : Hid (Below w.heap.size w (w2.alloc (.cells #[.slice xa xn xc, .slice (some ⟨g, 0, none⟩) n cap] 31))) := Below.after (Below.after HB.out hb2) hv
  have HBA2 : Hid (Box (w2.alloc (.cells #[.slice xa xn xc, .slice (some ⟨g, 0, none⟩) n cap] 31)) w.heap.size _ _) := (HBA.out.later hb2).alloc _
  have HBX2 : Hid (Box (w2.alloc (.cells #[.slice xa xn xc, .slice (some ⟨g, 0, none⟩) n cap] 31)) (w.heap.size + 1) _ _) := (HBX.out.later hb2).alloc _
  have HBT2 : Hid (Box (w2.alloc (.cells #[.slice xa xn xc, .slice (some ⟨g, 0, none⟩) n cap] 31)) w2.heap.size _ _) := Box.new _ _ _
  have HO2 : Hid (Own (w2.alloc (.cells #[.slice xa xn xc, .slice (some ⟨g, 0, none⟩) n cap] 31)) (w.heap.size + 1 + 1) (.slice xa xn xc) d) := ho.dims.later hv
  have HK2 : Hid (Own (w2.alloc (.cells #[.slice xa xn xc, .slice (some ⟨g, 0, none⟩) n cap] 31)) (w.heap.size + 1 + 1) (.slice (some ⟨g, 0, none⟩) n cap) (lay (fun i => s.2.getD (wmp s.1 d i) 0) n 0)) := by
    show Own _ _ _ _
    rw [lay_zero]
    exact ho.data.later hv
  have HAP : Hid (∀ k, (Value.slice xa xn xc).ownBlock = some k → k ≠ g) := fun k hk e => ho.apart k hk (by rw [e]; rfl)
  clear ho hb2 hv
  go_wp2
  have hsV : (w2.alloc (.cells #[.slice xa xn xc, .slice (some ⟨g, 0, none⟩) n cap] 31)).heap.size = w2.heap.size + 1 := by simp
  generalize (w2.alloc (.cells #[.slice xa xn xc, .slice (some ⟨g, 0, none⟩) n cap] 31)) = V at HB2 HBA2 HBX2 HBT2 HO2 HK2 hsV ⊢
  go_loopw [6] (fun i w' => ∃ j : Nat, j ≤ n ∧ i = .int .i64 j ∧ Own w' (w.heap.size + 1 + 1) (.slice (some ⟨g, 0, none⟩) n cap) (lay (fun i => s.2.getD (wmp s.1 d i) 0) n j) ∧ Bu g V w') (fun i _ => n - (intOf i).toNat)
  case atStart => exact ⟨0, by omega, rfl, HK2.out, Bu.refl _ _⟩
  case round =>
    obtain ⟨j, hj, rfl, hO, hbu⟩ := hrel
    have HOR : Hid (Own wr (w.heap.size + 1 + 1) (.slice (some ⟨g, 0, none⟩) n cap) (lay (fun i => s.2.getD (wmp s.1 d i) 0) n j)) := hO
    have HBU : Hid (Bu g V wr) := hbu
    have HBW : Hid (Below w.heap.size w wr) := hbu.below HB2.out (by omega) (by omega)
    have hsr := hbu.size
    have hba := hbu.box HBA2.out (by omega)
    have v0 := hba.c0
    have v1 := hba.c1
    have v2 := (hbu.box HBT2.out (by omega)).c1
    clear hO hbu hba
    have n1 : g ≠ w.heap.size := by omega
    have n2 : w.heap.size ≠ g := by omega
    have n3 : g ≠ w2.heap.size := by omega
    have n4 : w2.heap.size ≠ g := by omega
    by_cases hlt : j < n
    · have HJ : Hid ((j : Int) < prd d) := by show _ < _; rw [HPD.out]; omega
      have HWY : Hid _ := way_ok O1.out O2.out HWD.out j HJ.out
      have hwl := HL.out j hlt
      have hlj : (lay (fun i => s.2.getD (wmp s.1 d i) 0) n j).set j (s.2.getD (wmp s.1 d j) 0) = lay (fun i => s.2.getD (wmp s.1 d i) 0) n (j + 1) := lay_set (fun i => s.2.getD (wmp s.1 d i) 0) n j
      obtain ⟨T, hT⟩ : ∃ T, wmp s.1 d j = T := ⟨_, rfl⟩
      rw [hT] at hwl hlj
      have HWV : Hid (atV s.1 (nar s.1 (whr d j)) = (T : Nat)) := by show _ = _; rw [← hT]; exact HWY.out.2.2
      have HLJ : Hid ((lay (fun i => s.2.getD (wmp s.1 d i) 0) n j).set j (s.2.getD T 0) = lay (fun i => s.2.getD (wmp s.1 d i) 0) n (j + 1)) := hlj
      have HDL : Hid (d.length ≤ big) := HD0.out.len
      have z0 : (0 : Int) ≤ (j : Int) := by omega
      have z1 : (j : Int) < n := by omega
      have z2 : (0 : Int) ≤ (T : Int) := by omega
      have z3 : (T : Int) < m := by omega
      have v3 := cell_later HBW.out (HCD.out T hwl)
      have n5 : ab ≠ g := by omega
      have n6 : g ≠ ab := by omega
      clear hT hlj
      go_wp2_with fail
      go_region_held3 (fun w' => w'.cell? ⟨w.heap.size, 0, none⟩ = some (.slice aa an ac') ∧ w'.cell? ⟨w.heap.size, 1, none⟩ = some (.slice (some ⟨ab, ao, none⟩) m ac) ∧ w'.cell? ⟨w2.heap.size, 1, none⟩ = some (.slice (some ⟨g, 0, none⟩) n cap) ∧ w'.cell? ⟨ab, ao + T, none⟩ = some (.int .i64 (s.2.getD T 0))) (go_keep)
        (first
          | (go_at_call 42; refine (rwhere_ok (j : Int) (HD0.out.later (Below.after HBW.out (Below.refl _ _).drew)) O2.out (by omega) HJ.out).mono ?_; rintro r w4 ⟨rfl, hk4, hb4⟩; have HP4 : Hid (Ints w4 (.slice (some ⟨wr.heap.size, 0, none⟩) d.length d.length) (whr d j)) := hk4.ints _ _ (whr_length _ _).symm (Nat.le_refl _) HDL.out; have HB4 : Hid (Below wr.heap.size wr w4) := Below.after (Below.refl _ _).drew hb4; have a_0 := cell_later HB4.out v0; have a_1 := cell_later HB4.out v1; have a_2 := cell_later HB4.out v2; have a_3 := cell_later HB4.out v3; clear hk4 hb4)
          | (go_at_call 41; refine (rnar_ok (HA0.out.1.later (Below.after HBW.out HB4.out)) HP4.out HWY.out.1 hl1' hl3').mono ?_; rintro r w5 ⟨y, rfl, ho5, hb5⟩; have HB5 : Hid (Below wr.heap.size wr w5) := Below.after HB4.out hb5; have HP5 : Hid (Ints w5 y (nar s.1 (whr d j))) := ho5.ints; have b_0 := cell_later HB5.out v0; have b_1 := cell_later HB5.out v1; have b_2 := cell_later HB5.out v2; have b_3 := cell_later HB5.out v3; clear ho5 hb5)
          | (go_at_call 40; refine (rat_to (T : Nat) (HA0.out.1.later (Below.after HBW.out HB5.out)) HP5.out O1.out HWY.out.2.1 HWV.out).mono ?_; rintro r w6 ⟨rfl, hb6⟩; have HB6 : Hid (Below wr.heap.size wr w6) := Below.after HB5.out hb6; have c_0 := cell_later HB6.out v0; have c_1 := cell_later HB6.out v1; have c_2 := cell_later HB6.out v2; have c_3 := cell_later HB6.out v3; have HO6 : Hid (Own w6 (w.heap.size + 1 + 1) (.slice (some ⟨g, 0, none⟩) n cap) (lay (fun i => s.2.getD (wmp s.1 d i) 0) n j)) := HOR.out.later HB6.out; have hc := (HO6.out.put (lay_length _ _ _) j hlt 0).1; have hf := (HO6.out.put (lay_length _ _ _) j hlt 0).2.1; clear hb6))
      have HS : Hid (Own (w6.setCell ⟨g, j, none⟩ (.int .i64 (s.2.getD T 0))) (w.heap.size + 1 + 1) (.slice (some ⟨g, 0, none⟩) n cap) (lay (fun i => s.2.getD (wmp s.1 d i) 0) n (j + 1))) := by
        have hS := (HO6.out.put (lay_length _ _ _) j hlt (s.2.getD T 0)).2.2
        rw [HLJ.out] at hS
        exact hS
      have HBS : Hid (Bu g V (w6.setCell ⟨g, j, none⟩ (.int .i64 (s.2.getD T 0)))) := (HBU.out.after HB6.out).setCell _
      clear hc hf a_0 a_1 a_2 a_3 b_0 b_1 b_2 b_3 c_0 c_1 c_2 c_3 v0 v1 v2 v3
      go_wp2
      go_roundw
      case rel => exact ⟨j + 1, by omega, by go_num, HS.out, HBS.out⟩
      case measure => simp [intOf]; omega
    · have hj' : j = n := by omega
      subst hj'
      have hbt := HBU.out.box HBT2.out (by omega)
      have t0 := hbt.c0
      have t1 := hbt.c1
      have hbx := HBU.out.box HBX2.out (by omega)
      have l0 := hbx.c0
      have l1 := hbx.c1
      have m0 := hbx.f 0
      have m1 := hbx.f 1
      have HBS : Hid (Box _ _ _ _) := hbx.set (.slice xa xn xc) (.slice (some ⟨g, 0, none⟩) j cap)
      have HO5 : Hid (Own wr (w.heap.size + 1 + 1) (.slice xa xn xc) d) := HO2.out.at fun k hk => HBU.out.block k (HO2.out.lt k hk) (HAP.out k hk)
      have HK5 : Hid (Own wr (w.heap.size + 1 + 1) (.slice (some ⟨g, 0, none⟩) j cap) (laid (wmp s.1 d) s.2 j)) := by
        have h := HOR.out
        rw [lay_all] at h
        exact h
      clear hbx hbt
      go_wp2
      have hr0 := HBS.out.c0
      have hr1 := HBS.out.c1
      refine bodyPost_ret (v := .agg #[.slice xa xn xc, .slice (some ⟨g, 0, none⟩) j cap]) (by simp [results, Try.results22, go_sem, hr0, hr1]) rfl ⟨_, _, rfl, ?_, ?_⟩
      · have h1 : OwnT wr (w.heap.size + 1 + 1) (.slice xa xn xc) (.slice (some ⟨g, 0, none⟩) j cap) (d, laid (wmp s.1 d) s.2 j) := ⟨HO5.out, HK5.out, fun k hk e => HAP.out k hk (by simp [Value.ownBlock] at e; exact e.symm)⟩
        exact ((h1.setCell _ _ (by simp)).setCell _ _ (by simp)).mono (by omega)
      · exact (HBW.out.setCell (by simp) _).setCell (by simp) _
end Go.Proofs.Ytgedknmjenbacaa
