/- Carried: Q1. -/
import Derived.Test.YtheddpjaihhbdacGreatC25
namespace Go.Proofs.YtheddpjaihhbdacGreat
set_option linter.unusedVariables false
set_option linter.unusedSimpArgs false
set_option maxRecDepth 100000
open Go.RowKit

set_option maxHeartbeats 1000000 in
theorem rnar_ok {v v' : Value} {e p : List Int} {w : World} (he : Ints w v e) (hp : Ints w v' p) (hl : p.length = e.length) (h1 : 1 ≤ e.length) (h3 : e.length ≤ 3) :
    Calls Tryz.prog 72 #[v, v'] w fun r w' => ∃ x, r = .returned x ∧ Own w' w.heap.size x (nar e p) ∧ Below w.heap.size w w' := by
  rcases he.cases with ⟨q, _⟩ | ⟨eb, eo, ec, rfl, _, he1, _, HC⟩
  · rw [q] at h1; simp at h1
  have heb : eb < w.heap.size := World.block_lt_of_cell? _ _ (HC.out 0 (by omega))
  obtain ⟨n, hn⟩ : ∃ n, e.length = n := ⟨_, rfl⟩
  have HP : Hid (Ints w v' p) := hp
  have HL : Hid (p.length = n) := by show _ = _; omega
  have HN : Hid (e.length = n) := hn
  rw [hn]
  rw [hn] at h1 h3 he1
  clear he hp hl hn
  go_enter Tryz.func72, Tryz.ntmps72
  go_wp2_with fail
  refine (copy_Own HP.out).mono ?_
  rintro r w1 ⟨x, rfl, ho, hb1⟩
  have HB1 : Hid (Below w.heap.size w w1) := hb1
  have hs1 := hb1.size
  obtain ⟨g, cap, ex, hcap, hg1, hg2⟩ := ho.form (by have := HL.out; omega)
  rw [HL.out] at ex hcap
  subst ex
  have HO1 : Hid (Own w1 w.heap.size (.slice (some ⟨g, 0, none⟩) n cap) (narK e p 0)) := by
    show Own _ _ _ _
    rw [narK_zero (by rw [HL.out, HN.out])]
    exact ho
  clear ho hb1
  go_wp2
  go_loopw [6] (fun i w' => ∃ k : Nat, k ≤ n ∧ i = .int .i64 k ∧ Own w' w.heap.size (.slice (some ⟨g, 0, none⟩) n cap) (narK e p k) ∧ But g w1 w') (fun i _ => n - (intOf i).toNat)
  case atStart => exact ⟨0, by omega, rfl, HO1.out, But.refl _ _⟩
  case round =>
    obtain ⟨k, hk, rfl, hO, hbu⟩ := hrel
    have HOR : Hid (Own wr w.heap.size (.slice (some ⟨g, 0, none⟩) n cap) (narK e p k)) := hO
    have HBU : Hid (But g w1 wr) := hbu
    clear hO hbu
    by_cases hlt : k < n
    · have hke : k < e.length := by rw [HN.out]; exact hlt
      have hc : wr.cell? ⟨eb, eo + k, none⟩ = some (.int .i64 e[k]) := (HBU.out.cell (by simp; omega)).trans (cell_later HB1.out (HC.out k hke))
      have hq : e.getD k 0 = e[k] := by simp [hke]
      by_cases h1 : e[k] = 1
      · have hq1 : (e[k] == 1) = true := by simp [h1]
        have HNK : Hid ((narK e p k).set k 0 = narK e p (k + 1)) := narK_one (by rw [hq]; exact h1)
        obtain ⟨c1, c2, c3⟩ := HOR.out.put (by rw [narK_length, HN.out]) k hlt 0
        have HO3 : Hid (Own (wr.setCell ⟨g, k, none⟩ (.int .i64 0)) w.heap.size (.slice (some ⟨g, 0, none⟩) n cap) (narK e p (k + 1))) := by
          show Own _ _ _ _
          rw [← HNK.out]
          exact c3
        clear c3 hq h1
        go_wp2
        go_roundw
        case rel => exact ⟨k + 1, by omega, by go_num, HO3.out, HBU.out.setCell _⟩
        case measure => simp [intOf]; omega
      · have hq1 : (e[k] == 1) = false := by simp [h1]
        have HNK : Hid (narK e p k = narK e p (k + 1)) := narK_other (by rw [hq]; exact h1)
        clear hq h1
        go_wp2
        go_roundw
        case rel => exact ⟨k + 1, by omega, by go_num, by rw [← HNK.out]; exact HOR.out, HBU.out⟩
        case measure => simp [intOf]; omega
    · have hk' : k = n := by omega
      subst hk'
      have HR : Hid (Own wr w.heap.size (.slice (some ⟨g, 0, none⟩) k cap) (nar e p)) := by
        have h := HOR.out
        rw [show narK e p k = nar e p by rw [← HN.out, narK_all]] at h
        exact h
      go_wp2
      go_ret
      exact ⟨_, rfl, HR.out, HBU.out.below HB1.out hg1⟩
theorem rat_to {v v' : Value} {d p : List Int} {w : World} (x : Int) (hd : Ints w v d) (hp : Ints w v' p) (ho : okd d = true) (hpk : pok d p = true) (hx : atV d p = x) :
    Calls Tryz.prog 71 #[v, v'] w fun e w' => e = .returned (.int .i64 x) ∧ Below w.heap.size w w' := by
  subst hx
  refine (rat_ok hd hp ho hpk).mono ?_
  rintro e w' ⟨rfl, n, rfl⟩
  exact ⟨rfl, drew_below n⟩
/-- The page's way from a place to a place. -/
theorem way_ok {e d : List Int} (oe : okd e = true) (od : okd d = true) (hw : wid e d = true) (j : Nat) (hj : (j : Int) < prd d) :
    (whr d j).length = e.length ∧ pok e (nar e (whr d j)) = true ∧ atV e (nar e (whr d j)) = (wmp e d j : Nat) :=
  ⟨by rw [whr_length, wid_length hw], (wmp_lt oe od hw j hj).1, (wmp_lt oe od hw j hj).2.1.symm⟩
set_option maxRecDepth 100000 in
set_option maxHeartbeats 4000000 in
theorem rsum_ok {a0 a1 v : Value} {s : Ten} {d : List Int} {w : World} (ha : Tens w a0 a1 s) (hd : Ints w v d) (hx : suE s d = 0) :
    Calls Tryz.prog 50 #[.agg #[a0, a1], v] w fun e w' => ∃ x0 x1, e = .returned (.agg #[x0, x1]) ∧ OwnT w' w.heap.size x0 x1 (suR s d) ∧ Below w.heap.size w w' := by
  have ht : tok s = true := by
    cases h : tok s with
    | true => rfl
    | false => rw [suE, h] at hx; simp at hx
  have hw : wdr d s.1 = 0 := by rw [suE, ht] at hx; exact hx
  obtain ⟨o2, o1, hwd⟩ := wdr_zero hw
  obtain ⟨hl1, hl3, hin, hp⟩ := okd_parts o2
  have hp1 := prd_lo hin
  obtain ⟨n, hn⟩ : ∃ n : Nat, prd d = n := ⟨(prd d).toNat, by omega⟩
  have hn1 : 1 ≤ n := by omega
  have hn64 : n ≤ 64 := by omega
  have hnt : (prd d).toNat = n := by omega
  obtain ⟨hp2, hp3⟩ := tok_pos ht
  obtain ⟨m, hm⟩ : ∃ m : Nat, s.2.length = m := ⟨_, rfl⟩
  have hm1 : 1 ≤ m := by omega
  have hm64 : m ≤ 64 := by omega
  have HPM : Hid (prd s.1 = m) := by show _ = _; rw [← tok_len ht, hm]
  have HL : Hid (∀ i, i < m → wmp d s.1 i < n) := fun i hi => by
    have h1 := (wmp_lt o2 o1 hwd i (by rw [HPM.out]; omega)).2.2
    omega
  have HNT : Hid ((prd d).toNat = n) := hnt
  have O1 : Hid (okd s.1 = true) := o1
  have O2 : Hid (okd d = true) := o2
  have HWD : Hid (wid d s.1 = true) := hwd
  have hb : Below w.heap.size w ((w.alloc (.cells #[a0, a1] 34)).alloc (.cells #[.slice none 0 0, .slice none 0 0] 34)) := ((Below.refl _ _).alloc (Nat.le_refl _) _).alloc (by simp) _
  have HA0 : Hid (Tens w a0 a1 s) := ha
  have HD0 : Hid (Ints w v d) := hd
  have HD : Hid (Ints ((w.alloc (.cells #[a0, a1] 34)).alloc (.cells #[.slice none 0 0, .slice none 0 0] 34)) v d) := hd.later hb
  have HB : Hid (Below w.heap.size w ((w.alloc (.cells #[a0, a1] 34)).alloc (.cells #[.slice none 0 0, .slice none 0 0] 34))) := hb
  have HBA : Hid (Box ((w.alloc (.cells #[a0, a1] 34)).alloc (.cells #[.slice none 0 0, .slice none 0 0] 34)) w.heap.size a0 a1) := (Box.new w a0 a1).alloc _
  have HBX : Hid (Box ((w.alloc (.cells #[a0, a1] 34)).alloc (.cells #[.slice none 0 0, .slice none 0 0] 34)) (w.heap.size + 1) (.slice none 0 0) (.slice none 0 0)) := by
    have := Box.new (w.alloc (.cells #[a0, a1] 34)) (.slice none 0 0) (.slice none 0 0)
    simp only [World.size_alloc] at this
    exact this
  rcases ha.2.cases with ⟨e, _⟩ | ⟨ab, ao, ac, ea, hab0, ha1, _, HCA⟩
  · rw [e] at hm; simp at hm; omega
  have hab : ab < w.heap.size := World.block_lt_of_cell? _ _ (HCA.out 0 hab0)
  have HCD : Hid (∀ i, i < m → w.cell? ⟨ab, ao + i, none⟩ = some (.int .i64 (s.2.getD i 0))) := fun i hi => Ints.cellD (n := 0) (c := 0) HCA i (by rw [hm]; exact hi)
  rw [hm] at ea ha1
  subst ea
  obtain ⟨aa, an, ac', rfl⟩ := ha.1.shape3
  obtain ⟨da, dn, dc, rfl⟩ := hd.shape3
  rw [suR, if_pos hx, hnt, hm]
  clear ha hd hb hx ht hw o1 o2 hwd hin hp hp1 hn hnt hp2 hp3 hm hab0 HCA
  go_enter Tryz.func50, Tryz.ntmps50
  go_wp2_with fail
  refine (rfill_own 0 HD.out O2.out).mono ?_
  rw [HNT.out]
  rintro r w2 ⟨x0, x1, rfl, ho, hb2⟩
  have hs2 := hb2.size
  simp at hs2
  simp only [World.size_alloc] at ho
  obtain ⟨xa, xn, xc, rfl⟩ := ho.dims.ints.shape3
  obtain ⟨g, cap, ex, hcap, hg1, hg2⟩ := ho.data.form (by simp; omega)
  simp only [List.length_replicate] at ex hcap
  subst ex
  have hv : Below w2.heap.size w2 (w2.alloc (.cells #[.slice xa xn xc, .slice (some ⟨g, 0, none⟩) n cap] 34)) := (Below.refl _ _).alloc (Nat.le_refl _) _
  have HB2 : Hid (Below w.heap.size w (w2.alloc (.cells #[.slice xa xn xc, .slice (some ⟨g, 0, none⟩) n cap] 34))) := Below.after (Below.after HB.out hb2) hv
  have HBA2 : Hid (Box (w2.alloc (.cells #[.slice xa xn xc, .slice (some ⟨g, 0, none⟩) n cap] 34)) w.heap.size _ _) := (HBA.out.later hb2).alloc _
  have HBX2 : Hid (Box (w2.alloc (.cells #[.slice xa xn xc, .slice (some ⟨g, 0, none⟩) n cap] 34)) (w.heap.size + 1) _ _) := (HBX.out.later hb2).alloc _
  have HBT2 : Hid (Box (w2.alloc (.cells #[.slice xa xn xc, .slice (some ⟨g, 0, none⟩) n cap] 34)) w2.heap.size _ _) := Box.new _ _ _
  have HO2 : Hid (Own (w2.alloc (.cells #[.slice xa xn xc, .slice (some ⟨g, 0, none⟩) n cap] 34)) (w.heap.size + 1 + 1) (.slice xa xn xc) d) := ho.dims.later hv
  have HK2 : Hid (Own (w2.alloc (.cells #[.slice xa xn xc, .slice (some ⟨g, 0, none⟩) n cap] 34)) (w.heap.size + 1 + 1) (.slice (some ⟨g, 0, none⟩) n cap) (sums (wmp d s.1) s.2 n 0)) := by
    show Own _ _ _ _
    rw [sums_zero]
    exact ho.data.later hv
  have HAP : Hid (∀ k, (Value.slice xa xn xc).ownBlock = some k → k ≠ g) := fun k hk e => ho.apart k hk (by rw [e]; rfl)
  clear ho hb2 hv
  go_wp2
  have hsV : (w2.alloc (.cells #[.slice xa xn xc, .slice (some ⟨g, 0, none⟩) n cap] 34)).heap.size = w2.heap.size + 1 := by simp
  generalize (w2.alloc (.cells #[.slice xa xn xc, .slice (some ⟨g, 0, none⟩) n cap] 34)) = V at HB2 HBA2 HBX2 HBT2 HO2 HK2 hsV ⊢
  go_loopw [6] (fun i w' => ∃ j : Nat, j ≤ m ∧ i = .int .i64 j ∧ Own w' (w.heap.size + 1 + 1) (.slice (some ⟨g, 0, none⟩) n cap) (sums (wmp d s.1) s.2 n j) ∧ Bu g V w') (fun i _ => m - (intOf i).toNat)
  case atStart => exact ⟨0, by omega, rfl, HK2.out, Bu.refl _ _⟩
  case round =>
    obtain ⟨j, hj, rfl, hO, hbu⟩ := hrel
    have HOR : Hid (Own wr (w.heap.size + 1 + 1) (.slice (some ⟨g, 0, none⟩) n cap) (sums (wmp d s.1) s.2 n j)) := hO
    have HBU : Hid (Bu g V wr) := hbu
    have HBW : Hid (Below w.heap.size w wr) := hbu.below HB2.out (by omega) (by omega)
    have hsr := hbu.size
    have hba := hbu.box HBA2.out (by omega)
    have a0' := hba.c0
    have a1' := hba.c1
    have HBAR : Hid (Box wr w.heap.size _ _) := hba
    clear hO hbu hba
    by_cases hlt : j < m
    · have HJ : Hid ((j : Int) < prd s.1) := by show _ < _; rw [HPM.out]; omega
      have HWY : Hid _ := way_ok O2.out O1.out HWD.out j HJ.out
      go_wp2_with fail
      refine (rwhere_ok (j : Int) (HA0.out.1.later HBW.out) O1.out (by omega) HJ.out).mono ?_
      rintro r w4 ⟨rfl, hk4, hb4⟩
      have HP4 : Hid (Ints w4 (.slice (some ⟨wr.heap.size, 0, none⟩) s.1.length s.1.length) (whr s.1 j)) := hk4.ints _ _ (whr_length _ _).symm (Nat.le_refl _) (by have := HA0.out.1.len; exact this)
      have HB4 : Hid (Below wr.heap.size wr w4) := hb4
      clear hk4 hb4
      go_wp2_with fail
      refine (rnar_ok (HD0.out.later (Below.after HBW.out HB4.out)) HP4.out HWY.out.1 hl1 hl3).mono ?_
      rintro r w5 ⟨y, rfl, ho5, hb5⟩
      have HB5 : Hid (Below wr.heap.size wr w5) := Below.after HB4.out hb5
      have HP5 : Hid (Ints w5 y (nar d (whr s.1 j))) := ho5.ints
      clear ho5 hb5
      go_wp2_with fail
      refine (rat_to (wmp d s.1 j : Nat) (HD0.out.later (Below.after HBW.out HB5.out)) HP5.out O2.out HWY.out.2.1 HWY.out.2.2).mono ?_
      rintro r w6 ⟨rfl, hb6⟩
      have HB6 : Hid (Below wr.heap.size wr w6) := Below.after HB5.out hb6
      clear hb6
      have hwl := HL.out j hlt
      have HSS := sums_set (wmp d s.1) s.2 n j hwl
      have HSL := sums_length (wmp d s.1) s.2 n j
      obtain ⟨T, hT⟩ : ∃ T, wmp d s.1 j = T := ⟨_, rfl⟩
      rw [hT] at hwl HSS ⊢
      have HO6 : Hid (Own w6 (w.heap.size + 1 + 1) (.slice (some ⟨g, 0, none⟩) n cap) (sums (wmp d s.1) s.2 n j)) := HOR.out.later HB6.out
      have HBU6 : Hid (Bu g V w6) := HBU.out.after HB6.out
      have b1' := (HBAR.out.later HB6.out).c1
      have t1' := (HBU6.out.box HBT2.out (by omega)).c1
      have hy := cell_later (Below.after HBW.out HB6.out) (HCD.out j hlt)
      obtain ⟨hc, hf, hS⟩ := HO6.out.put HSL T hwl (wrap64 ((sums (wmp d s.1) s.2 n j).getD T 0 + s.2.getD j 0))
      rw [HSS] at hS
      have HS : Hid (Own (w6.setCell ⟨g, T, none⟩ (.int .i64 (wrap64 ((sums (wmp d s.1) s.2 n j).getD T 0 + s.2.getD j 0)))) (w.heap.size + 1 + 1) (.slice (some ⟨g, 0, none⟩) n cap) (sums (wmp d s.1) s.2 n (j + 1))) := hS
      have HBS : Hid (Bu g V (w6.setCell ⟨g, T, none⟩ (.int .i64 (wrap64 ((sums (wmp d s.1) s.2 n j).getD T 0 + s.2.getD j 0))))) := HBU6.out.setCell _
      clear hS HSS HSL hT a0' a1'
      go_wp2
      go_region
      go_wp2
      go_roundw
      case rel => exact ⟨j + 1, by omega, by go_num, HS.out.drew, HBS.out.drew⟩
      case measure => simp [intOf]; omega
    · have hj' : j = m := by omega
      subst hj'
      have hbt := HBU.out.box HBT2.out (by omega)
      have t0 := hbt.c0
      have t1 := hbt.c1
      have hbx := HBU.out.box HBX2.out (by omega)
      have l0 := hbx.c0
      have l1 := hbx.c1
      have m0 := hbx.f 0
      have m1 := hbx.f 1
      have HBS : Hid (Box _ _ _ _) := hbx.set (.slice xa xn xc) (.slice (some ⟨g, 0, none⟩) n cap)
      have HO5 : Hid (Own wr (w.heap.size + 1 + 1) (.slice xa xn xc) d) := HO2.out.at fun k hk => HBU.out.block k (HO2.out.lt k hk) (HAP.out k hk)
      clear hbx hbt
      go_wp2
      have hr0 := HBS.out.c0
      have hr1 := HBS.out.c1
      refine bodyPost_ret (v := .agg #[.slice xa xn xc, .slice (some ⟨g, 0, none⟩) n cap]) (by simp [results, Tryz.results50, go_sem, hr0, hr1]) rfl ⟨_, _, rfl, ?_, ?_⟩
      · have h1 : OwnT wr (w.heap.size + 1 + 1) (.slice xa xn xc) (.slice (some ⟨g, 0, none⟩) n cap) (d, sums (wmp d s.1) s.2 n j) := ⟨HO5.out, HOR.out, fun k hk e => HAP.out k hk (by simp [Value.ownBlock] at e; exact e.symm)⟩
        exact ((h1.setCell _ _ (by simp)).setCell _ _ (by simp)).mono (by omega)
      · exact (HBW.out.setCell (by simp) _).setCell (by simp) _
end Go.Proofs.YtheddpjaihhbdacGreat
