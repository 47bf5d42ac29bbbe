/- Carried: G4, H1, K4, K7, N0, N1, Q2, Q3. -/
import Derived.Test.YtheddpjaihhbdabGreatC27
namespace Go.Proofs.YtheddpjaihhbdabGreat
set_option linter.unusedVariables false
set_option linter.unusedSimpArgs false
set_option maxRecDepth 100000
open Go.RowKit

theorem sumd_to {a0 a1 v : Value} {s : Ten} {d : List Int} {w : World} (x : Int) (u : Ten) (ha : Tens w a0 a1 s) (hd : Ints w v d) (hx : suE s d = x) (hu : suR s d = u) :
    Calls Tryz.prog 66 #[.agg #[a0, a1], v] w fun e w' => ∃ x0 x1, e = .returned (.tuple #[.agg #[x0, x1], .int .i64 x]) ∧ OwnT w' w.heap.size x0 x1 u ∧ Below w.heap.size w w' := by
  subst hx hu
  exact sumd_any ha hd
theorem IntsL.vals {w : World} {ad : Addr} {D : List (List Int)} {n c : Nat} (h : IntsL w (.slice (some ad) n c) D) :
    n = D.length ∧ ∃ news : List Value, news.length = D.length ∧ (∀ j u, news[j]? = some u → w.cell? (ad.add j) = some u) ∧ (∀ i (h : i < D.length), ∃ y, news[i]? = some y ∧ Ints w y D[i]) ∧ ∀ u ∈ news, u.oneCell' = true := by
  obtain ⟨_, a, c', e, _, hrow⟩ := h
  simp only [Value.slice.injEq] at e
  obtain ⟨rfl, rfl, rfl⟩ := e
  refine ⟨rfl, ?_⟩
  have key : ∀ i : Nat, ∃ x, ∀ h : i < D.length, w.cell? (ad.add i) = some x ∧ Ints w x D[i] := by
    intro i
    by_cases hi : i < D.length
    · obtain ⟨b, off, x, ea, hc, hx⟩ := hrow i hi
      simp only [Option.some.injEq] at ea
      subst ea
      refine ⟨x, fun _ => ⟨?_, hx⟩⟩
      by_cases h0 : i = 0
      · subst h0; simpa [Addr.add] using hc
      · simpa [Addr.add, h0] using hc
    · exact ⟨undef, fun h => absurd h hi⟩
  refine ⟨(List.range D.length).map fun i => Classical.choose (key i), by simp, ?_, ?_, ?_⟩
  · intro j u hj
    simp only [List.getElem?_map, Option.map_eq_some_iff] at hj
    obtain ⟨k, hk, rfl⟩ := hj
    obtain ⟨hlt, rfl⟩ := List.getElem?_eq_some_iff.1 hk
    simp only [List.getElem_range]
    have hj : j < D.length := by simpa using hlt
    exact (Classical.choose_spec (key j) hj).1
  · intro i hi
    exact ⟨Classical.choose (key i), by simp [hi], (Classical.choose_spec (key i) hi).2⟩
  · intro u hu
    simp only [List.mem_map, List.mem_range] at hu
    obtain ⟨i, hi, rfl⟩ := hu
    obtain ⟨a, c, e⟩ := (Classical.choose_spec (key i) hi).2.shape
    rw [e]; rfl
theorem tr_zero {t : Ten} (h : trE t = 0) : tok t = true ∧ ∃ p q : Nat, t.1 = [(p : Int), (q : Int)] ∧ p ≤ 8 ∧ q ≤ 8 ∧ 1 ≤ p ∧ 1 ≤ q ∧ t.2.length = p * q := by
  cases ht : tok t with
  | false => rw [trE, ht] at h; simp at h
  | true =>
    refine ⟨rfl, ?_⟩
    by_cases h2 : t.1.length = 2
    · obtain ⟨x, y, hxy⟩ := two_of h2
      have hok := tok_okd ht
      rw [hxy] at hok
      obtain ⟨a, b, c, d⟩ := okd2 hok
      refine ⟨x.toNat, y.toNat, by rw [hxy, Int.toNat_of_nonneg (by omega), Int.toNat_of_nonneg (by omega)], by omega, by omega, by omega, by omega, ?_⟩
      have hl := tok_len ht
      rw [hxy] at hl
      obtain ⟨p, rfl⟩ : ∃ p : Nat, x = p := ⟨x.toNat, by omega⟩
      obtain ⟨q, rfl⟩ : ∃ q : Nat, y = q := ⟨y.toNat, by omega⟩
      have : prd [(p : Int), (q : Int)] = ((p * q : Nat) : Int) := by simp [prd]
      rw [this] at hl
      simpa using Int.ofNat.inj hl
    · rw [trE, ht, if_neg h2] at h
      simp at h
theorem trR_ok {t : Ten} {p q : Nat} (h : trE t = 0) (hd : t.1 = [(p : Int), (q : Int)]) : trR t = ([(q : Int), (p : Int)], tns p q t.2) := by
  rw [trR, if_pos h, hd]
  simp
set_option maxRecDepth 100000 in
set_option maxHeartbeats 4000000 in
theorem rwide_ok {a0 a1 v : Value} {s : Ten} {d : List Int} {w : World} (ha : Tens w a0 a1 s) (hd : Ints w v d) (hx : wiE s d = 0) :
    Calls Tryz.prog 49 #[.agg #[a0, a1], v] w fun e w' => ∃ x0 x1, e = .returned (.agg #[x0, x1]) ∧ OwnT w' w.heap.size x0 x1 (wiR s d) ∧ Below w.heap.size w w' := by
  have ht : tok s = true := by
    cases h : tok s with
    | true => rfl
    | false => rw [wiE, h] at hx; simp at hx
  have hw : wdr s.1 d = 0 := by rw [wiE, ht] at hx; exact hx
  obtain ⟨o1, o2, hwd⟩ := wdr_zero hw
  obtain ⟨hl1, hl3, hin, hp⟩ := okd_parts o2
  have hp1 := prd_lo hin
  obtain ⟨n, hn⟩ : ∃ n : Nat, prd d = n := ⟨(prd d).toNat, by omega⟩
  have hn1 : 1 ≤ n := by omega
  have hn64 : n ≤ 64 := by omega
  have hnt : (prd d).toNat = n := by omega
  obtain ⟨hp2, hp3⟩ := tok_pos ht
  obtain ⟨m, hm⟩ : ∃ m : Nat, s.2.length = m := ⟨_, rfl⟩
  have hm1 : 1 ≤ m := by omega
  have hm64 : m ≤ 64 := by omega
  have HPM : Hid (prd s.1 = m) := by show _ = _; rw [← tok_len ht, hm]
  have HL : Hid (∀ i, i < n → wmp s.1 d i < m) := fun i hi => by
    have h1 := (wmp_lt o1 o2 hwd i (by rw [hn]; omega)).2.2
    rw [HPM.out] at h1
    omega
  have HNT : Hid ((prd d).toNat = n) := hnt
  have HPD : Hid (prd d = n) := hn
  obtain ⟨hl1', hl3', _⟩ := okd_parts o1
  have O1 : Hid (okd s.1 = true) := o1
  have O2 : Hid (okd d = true) := o2
  have HWD : Hid (wid s.1 d = true) := hwd
  have hb : Below w.heap.size w ((w.alloc (.cells #[a0, a1] 34)).alloc (.cells #[.slice none 0 0, .slice none 0 0] 34)) := ((Below.refl _ _).alloc (Nat.le_refl _) _).alloc (by simp) _
  have HA0 : Hid (Tens w a0 a1 s) := ha
  have HD0 : Hid (Ints w v d) := hd
  have HD : Hid (Ints ((w.alloc (.cells #[a0, a1] 34)).alloc (.cells #[.slice none 0 0, .slice none 0 0] 34)) v d) := hd.later hb
  have HB : Hid (Below w.heap.size w ((w.alloc (.cells #[a0, a1] 34)).alloc (.cells #[.slice none 0 0, .slice none 0 0] 34))) := hb
  have HBA : Hid (Box ((w.alloc (.cells #[a0, a1] 34)).alloc (.cells #[.slice none 0 0, .slice none 0 0] 34)) w.heap.size a0 a1) := (Box.new w a0 a1).alloc _
  have HBX : Hid (Box ((w.alloc (.cells #[a0, a1] 34)).alloc (.cells #[.slice none 0 0, .slice none 0 0] 34)) (w.heap.size + 1) (.slice none 0 0) (.slice none 0 0)) := by
    have := Box.new (w.alloc (.cells #[a0, a1] 34)) (.slice none 0 0) (.slice none 0 0)
    simp only [World.size_alloc] at this
    exact this
  rcases ha.2.cases with ⟨e, _⟩ | ⟨ab, ao, ac, ea, hab0, ha1, _, HCA⟩
  · rw [e] at hm; simp at hm; omega
  have hab : ab < w.heap.size := World.block_lt_of_cell? _ _ (HCA.out 0 hab0)
  have HCD : Hid (∀ i, i < m → w.cell? ⟨ab, ao + i, none⟩ = some (.int .i64 (s.2.getD i 0))) := fun i hi => Ints.cellD (n := 0) (c := 0) HCA i (by rw [hm]; exact hi)
  rw [hm] at ea ha1
  subst ea
  obtain ⟨aa, an, ac', rfl⟩ := ha.1.shape3
  obtain ⟨da, dn, dc, rfl⟩ := hd.shape3
  rw [wiR, if_pos hx, hnt]
  clear ha hd hb hx ht hw o1 o2 hwd hin hp hp1 hn hnt hp2 hp3 hm hab0 HCA
  go_enter Tryz.func49, Tryz.ntmps49
  go_wp2_with fail
  refine (rfill_own 0 HD.out O2.out).mono ?_
  rw [HNT.out]
  rintro r w2 ⟨x0, x1, rfl, ho, hb2⟩
  have hs2 := hb2.size
  simp at hs2
  simp only [World.size_alloc] at ho
  obtain ⟨xa, xn, xc, rfl⟩ := ho.dims.ints.shape3
  obtain ⟨g, cap, ex, hcap, hg1, hg2⟩ := ho.data.form (by simp; omega)
  simp only [List.length_replicate] at ex hcap
  subst ex
  have hv : Below w2.heap.size w2 (w2.alloc (.cells #[.slice xa xn xc, .slice (some ⟨g, 0, none⟩) n cap] 34)) := (Below.refl _ _).alloc (Nat.le_refl _) _
  have HB2 : Hid (Below w.heap.size w (w2.alloc (.cells #[.slice xa xn xc, .slice (some ⟨g, 0, none⟩) n cap] 34))) := Below.after (Below.after HB.out hb2) hv
  have HBA2 : Hid (Box (w2.alloc (.cells #[.slice xa xn xc, .slice (some ⟨g, 0, none⟩) n cap] 34)) w.heap.size _ _) := (HBA.out.later hb2).alloc _
  have HBX2 : Hid (Box (w2.alloc (.cells #[.slice xa xn xc, .slice (some ⟨g, 0, none⟩) n cap] 34)) (w.heap.size + 1) _ _) := (HBX.out.later hb2).alloc _
  have HBT2 : Hid (Box (w2.alloc (.cells #[.slice xa xn xc, .slice (some ⟨g, 0, none⟩) n cap] 34)) w2.heap.size _ _) := Box.new _ _ _
  have HO2 : Hid (Own (w2.alloc (.cells #[.slice xa xn xc, .slice (some ⟨g, 0, none⟩) n cap] 34)) (w.heap.size + 1 + 1) (.slice xa xn xc) d) := ho.dims.later hv
  have HK2 : Hid (Own (w2.alloc (.cells #[.slice xa xn xc, .slice (some ⟨g, 0, none⟩) n cap] 34)) (w.heap.size + 1 + 1) (.slice (some ⟨g, 0, none⟩) n cap) (lay (fun i => s.2.getD (wmp s.1 d i) 0) n 0)) := by
    show Own _ _ _ _
    rw [lay_zero]
    exact ho.data.later hv
  have HAP : Hid (∀ k, (Value.slice xa xn xc).ownBlock = some k → k ≠ g) := fun k hk e => ho.apart k hk (by rw [e]; rfl)
  clear ho hb2 hv
  go_wp2
  have hsV : (w2.alloc (.cells #[.slice xa xn xc, .slice (some ⟨g, 0, none⟩) n cap] 34)).heap.size = w2.heap.size + 1 := by simp
  generalize (w2.alloc (.cells #[.slice xa xn xc, .slice (some ⟨g, 0, none⟩) n cap] 34)) = V at HB2 HBA2 HBX2 HBT2 HO2 HK2 hsV ⊢
  go_loopw [6] (fun i w' => ∃ j : Nat, j ≤ n ∧ i = .int .i64 j ∧ Own w' (w.heap.size + 1 + 1) (.slice (some ⟨g, 0, none⟩) n cap) (lay (fun i => s.2.getD (wmp s.1 d i) 0) n j) ∧ Bu g V w') (fun i _ => n - (intOf i).toNat)
  case atStart => exact ⟨0, by omega, rfl, HK2.out, Bu.refl _ _⟩
  case round =>
    obtain ⟨j, hj, rfl, hO, hbu⟩ := hrel
    have HOR : Hid (Own wr (w.heap.size + 1 + 1) (.slice (some ⟨g, 0, none⟩) n cap) (lay (fun i => s.2.getD (wmp s.1 d i) 0) n j)) := hO
    have HBU : Hid (Bu g V wr) := hbu
    have HBW : Hid (Below w.heap.size w wr) := hbu.below HB2.out (by omega) (by omega)
    have hsr := hbu.size
    have hba := hbu.box HBA2.out (by omega)
    have v0 := hba.c0
    have v1 := hba.c1
    have v2 := (hbu.box HBT2.out (by omega)).c1
    clear hO hbu hba
    have n1 : g ≠ w.heap.size := by omega
    have n2 : w.heap.size ≠ g := by omega
    have n3 : g ≠ w2.heap.size := by omega
    have n4 : w2.heap.size ≠ g := by omega
    by_cases hlt : j < n
    · have HJ : Hid ((j : Int) < prd d) := by show _ < _; rw [HPD.out]; omega
      have HWY : Hid _ := way_ok O1.out O2.out HWD.out j HJ.out
      have hwl := HL.out j hlt
      have hlj : (lay (fun i => s.2.getD (wmp s.1 d i) 0) n j).set j (s.2.getD (wmp s.1 d j) 0) = lay (fun i => s.2.getD (wmp s.1 d i) 0) n (j + 1) := lay_set (fun i => s.2.getD (wmp s.1 d i) 0) n j
      obtain ⟨T, hT⟩ : ∃ T, wmp s.1 d j = T := ⟨_, rfl⟩
      rw [hT] at hwl hlj
      have HWV : Hid (atV s.1 (nar s.1 (whr d j)) = (T : Nat)) := by show _ = _; rw [← hT]; exact HWY.out.2.2
      have HLJ : Hid ((lay (fun i => s.2.getD (wmp s.1 d i) 0) n j).set j (s.2.getD T 0) = lay (fun i => s.2.getD (wmp s.1 d i) 0) n (j + 1)) := hlj
      have HDL : Hid (d.length ≤ big) := HD0.out.len
      have z0 : (0 : Int) ≤ (j : Int) := by omega
      have z1 : (j : Int) < n := by omega
      have z2 : (0 : Int) ≤ (T : Int) := by omega
      have z3 : (T : Int) < m := by omega
      have v3 := cell_later HBW.out (HCD.out T hwl)
      have n5 : ab ≠ g := by omega
      have n6 : g ≠ ab := by omega
      clear hT hlj
      go_wp2_with fail
      go_region_held3 (fun w' => w'.cell? ⟨w.heap.size, 0, none⟩ = some (.slice aa an ac') ∧ w'.cell? ⟨w.heap.size, 1, none⟩ = some (.slice (some ⟨ab, ao, none⟩) m ac) ∧ w'.cell? ⟨w2.heap.size, 1, none⟩ = some (.slice (some ⟨g, 0, none⟩) n cap) ∧ w'.cell? ⟨ab, ao + T, none⟩ = some (.int .i64 (s.2.getD T 0))) (go_keep)
        (first
          | (go_at_call 73; refine (rwhere_ok (j : Int) (HD0.out.later (Below.after HBW.out (Below.refl _ _).drew)) O2.out (by omega) HJ.out).mono ?_; rintro r w4 ⟨rfl, hk4, hb4⟩; have HP4 : Hid (Ints w4 (.slice (some ⟨wr.heap.size, 0, none⟩) d.length d.length) (whr d j)) := hk4.ints _ _ (whr_length _ _).symm (Nat.le_refl _) HDL.out; have HB4 : Hid (Below wr.heap.size wr w4) := Below.after (Below.refl _ _).drew hb4; have a_0 := cell_later HB4.out v0; have a_1 := cell_later HB4.out v1; have a_2 := cell_later HB4.out v2; have a_3 := cell_later HB4.out v3; clear hk4 hb4)
          | (go_at_call 72; refine (rnar_ok (HA0.out.1.later (Below.after HBW.out HB4.out)) HP4.out HWY.out.1 hl1' hl3').mono ?_; rintro r w5 ⟨y, rfl, ho5, hb5⟩; have HB5 : Hid (Below wr.heap.size wr w5) := Below.after HB4.out hb5; have HP5 : Hid (Ints w5 y (nar s.1 (whr d j))) := ho5.ints; have b_0 := cell_later HB5.out v0; have b_1 := cell_later HB5.out v1; have b_2 := cell_later HB5.out v2; have b_3 := cell_later HB5.out v3; clear ho5 hb5)
          | (go_at_call 71; refine (rat_to (T : Nat) (HA0.out.1.later (Below.after HBW.out HB5.out)) HP5.out O1.out HWY.out.2.1 HWV.out).mono ?_; rintro r w6 ⟨rfl, hb6⟩; have HB6 : Hid (Below wr.heap.size wr w6) := Below.after HB5.out hb6; have c_0 := cell_later HB6.out v0; have c_1 := cell_later HB6.out v1; have c_2 := cell_later HB6.out v2; have c_3 := cell_later HB6.out v3; have HO6 : Hid (Own w6 (w.heap.size + 1 + 1) (.slice (some ⟨g, 0, none⟩) n cap) (lay (fun i => s.2.getD (wmp s.1 d i) 0) n j)) := HOR.out.later HB6.out; have hc := (HO6.out.put (lay_length _ _ _) j hlt 0).1; have hf := (HO6.out.put (lay_length _ _ _) j hlt 0).2.1; clear hb6))
      have HS : Hid (Own (w6.setCell ⟨g, j, none⟩ (.int .i64 (s.2.getD T 0))) (w.heap.size + 1 + 1) (.slice (some ⟨g, 0, none⟩) n cap) (lay (fun i => s.2.getD (wmp s.1 d i) 0) n (j + 1))) := by
        have hS := (HO6.out.put (lay_length _ _ _) j hlt (s.2.getD T 0)).2.2
        rw [HLJ.out] at hS
        exact hS
      have HBS : Hid (Bu g V (w6.setCell ⟨g, j, none⟩ (.int .i64 (s.2.getD T 0)))) := (HBU.out.after HB6.out).setCell _
      clear hc hf a_0 a_1 a_2 a_3 b_0 b_1 b_2 b_3 c_0 c_1 c_2 c_3 v0 v1 v2 v3
      go_wp2
      go_roundw
      case rel => exact ⟨j + 1, by omega, by go_num, HS.out, HBS.out⟩
      case measure => simp [intOf]; omega
    · have hj' : j = n := by omega
      subst hj'
      have hbt := HBU.out.box HBT2.out (by omega)
      have t0 := hbt.c0
      have t1 := hbt.c1
      have hbx := HBU.out.box HBX2.out (by omega)
      have l0 := hbx.c0
      have l1 := hbx.c1
      have m0 := hbx.f 0
      have m1 := hbx.f 1
      have HBS : Hid (Box _ _ _ _) := hbx.set (.slice xa xn xc) (.slice (some ⟨g, 0, none⟩) j cap)
      have HO5 : Hid (Own wr (w.heap.size + 1 + 1) (.slice xa xn xc) d) := HO2.out.at fun k hk => HBU.out.block k (HO2.out.lt k hk) (HAP.out k hk)
      have HK5 : Hid (Own wr (w.heap.size + 1 + 1) (.slice (some ⟨g, 0, none⟩) j cap) (laid (wmp s.1 d) s.2 j)) := by
        have h := HOR.out
        rw [lay_all] at h
        exact h
      clear hbx hbt
      go_wp2
      have hr0 := HBS.out.c0
      have hr1 := HBS.out.c1
      refine bodyPost_ret (v := .agg #[.slice xa xn xc, .slice (some ⟨g, 0, none⟩) j cap]) (by simp [results, Tryz.results49, go_sem, hr0, hr1]) rfl ⟨_, _, rfl, ?_, ?_⟩
      · have h1 : OwnT wr (w.heap.size + 1 + 1) (.slice xa xn xc) (.slice (some ⟨g, 0, none⟩) j cap) (d, laid (wmp s.1 d) s.2 j) := ⟨HO5.out, HK5.out, fun k hk e => HAP.out k hk (by simp [Value.ownBlock] at e; exact e.symm)⟩
        exact ((h1.setCell _ _ (by simp)).setCell _ _ (by simp)).mono (by omega)
      · exact (HBW.out.setCell (by simp) _).setCell (by simp) _
set_option maxRecDepth 100000 in
theorem lit56 (g : Nat → Value) : (g 0 :: g 1 :: g 2 :: g 3 :: g 4 :: g 5 :: g 6 :: g 7 :: g 8 :: g 9 :: g 10 :: g 11 :: g 12 :: g 13 :: g 14 :: g 15 :: g 16 :: g 17 :: g 18 :: g 19 :: g 20 :: g 21 :: g 22 :: g 23 :: g 24 :: g 25 :: g 26 :: g 27 :: g 28 :: g 29 :: g 30 :: g 31 :: g 32 :: g 33 :: g 34 :: g 35 :: g 36 :: g 37 :: g 38 :: g 39 :: g 40 :: g 41 :: g 42 :: g 43 :: g 44 :: g 45 :: g 46 :: g 47 :: g 48 :: g 49 :: g 50 :: g 51 :: g 52 :: g 53 :: g 54 :: g 55 :: []).toArray = ((List.range 56).map g).toArray := by rfl
set_option maxRecDepth 100000 in
theorem act56 (a : Act) (hd : a.defers = []) (hs : a.tmps.size = 56) : ∃ g : Nat → Value, (∀ i, a.tmps.getD i undef = g i) ∧ a = { tmps := (g 0 :: g 1 :: g 2 :: g 3 :: g 4 :: g 5 :: g 6 :: g 7 :: g 8 :: g 9 :: g 10 :: g 11 :: g 12 :: g 13 :: g 14 :: g 15 :: g 16 :: g 17 :: g 18 :: g 19 :: g 20 :: g 21 :: g 22 :: g 23 :: g 24 :: g 25 :: g 26 :: g 27 :: g 28 :: g 29 :: g 30 :: g 31 :: g 32 :: g 33 :: g 34 :: g 35 :: g 36 :: g 37 :: g 38 :: g 39 :: g 40 :: g 41 :: g 42 :: g 43 :: g 44 :: g 45 :: g 46 :: g 47 :: g 48 :: g 49 :: g 50 :: g 51 :: g 52 :: g 53 :: g 54 :: g 55 :: []).toArray, defers := [] } := by
  refine ⟨fun i => a.tmps.getD i undef, fun _ => rfl, ?_⟩
  have h := lit56 (fun i => a.tmps.getD i undef)
  have e : a.tmps = ((List.range 56).map (fun i => a.tmps.getD i undef)).toArray := by
    apply Array.ext
    · simp [hs]
    · intro i h1 h2
      simp [h1]
  exact (show a = Act.mk a.tmps a.defers from rfl).trans (by rw [hd]; exact congrArg (fun t => Act.mk t []) (e.trans h.symm))
theorem tinv_ik {p q i k : Nat} (hk : k < q) : tinv q p (i * q + k) = k * p + i := by
  unfold tinv
  rw [Nat.add_comm (i * q) k, Nat.add_mul_mod_self_right, Nat.mod_eq_of_lt hk, Nat.add_mul_div_right _ _ (by omega), Nat.div_eq_of_lt hk, Nat.zero_add]
structure FrQ (B : Nat) (Bt : Nat) (a : Act) : Prop where
  d : a.defers = []
  s : a.tmps.size = 56
  f1 : a.tmps.getD 1 undef = .pointer (some ⟨B, 0, none⟩)
  f2 : a.tmps.getD 2 undef = .pointer (some ⟨B + 1, 0, none⟩)
  f3 : a.tmps.getD 3 undef = .pointer (some ⟨Bt, 0, none⟩)
set_option maxRecDepth 100000 in
set_option maxHeartbeats 4000000 in
theorem rturn_ok {a0 a1 : Value} {p q : Nat} {l : List Int} {w : World} (ha : Tens w a0 a1 ([(p : Int), (q : Int)], l)) (hx : tok ([(p : Int), (q : Int)], l) = true) :
    Calls Tryz.prog 48 #[.agg #[a0, a1]] w fun e w' => ∃ x0 x1, e = .returned (.agg #[x0, x1]) ∧ OwnT w' w.heap.size x0 x1 ([(q : Int), (p : Int)], tns p q l) ∧ Below w.heap.size w w' := by
  have hok : okd [(p : Int), (q : Int)] = true := tok_okd hx
  obtain ⟨hp1, hp8, hq1, hq8⟩ := okd2 hok
  have hok2 : okd [(q : Int), (p : Int)] = true := okd2_mk ⟨hq1, hq8, hp1, hp8⟩
  obtain ⟨N, hN⟩ : ∃ N, p * q = N := ⟨_, rfl⟩
  have hl : l.length = N := by
    have h := tok_len hx
    have : prd [(p : Int), (q : Int)] = ((p * q : Nat) : Int) := by simp [prd]
    rw [this, hN] at h
    exact Int.ofNat.inj h
  have hpq : (prd [(q : Int), (p : Int)]).toNat = N := by
    have : prd [(q : Int), (p : Int)] = ((q * p : Nat) : Int) := by simp [prd]
    rw [this, Int.toNat_natCast, Nat.mul_comm, hN]
  obtain ⟨hn1, hn64⟩ := tok_pos hx
  simp only at hn1 hn64
  rw [hl] at hn1 hn64
  have HN : Hid (p * q = N) := hN
  have HPQ : Hid ((prd [(q : Int), (p : Int)]).toNat = N) := hpq
  have HOK2 : Hid (okd [(q : Int), (p : Int)] = true) := hok2
  have hb : Below w.heap.size w ((w.alloc (.cells #[a0, a1] 34)).alloc (.cells #[.slice none 0 0, .slice none 0 0] 34)) := ((Below.refl _ _).alloc (Nat.le_refl _) _).alloc (by simp) _
  have HB : Hid (Below w.heap.size w ((w.alloc (.cells #[a0, a1] 34)).alloc (.cells #[.slice none 0 0, .slice none 0 0] 34))) := hb
  have HBA : Hid (Box ((w.alloc (.cells #[a0, a1] 34)).alloc (.cells #[.slice none 0 0, .slice none 0 0] 34)) w.heap.size a0 a1) := (Box.new w a0 a1).alloc _
  have HBX : Hid (Box ((w.alloc (.cells #[a0, a1] 34)).alloc (.cells #[.slice none 0 0, .slice none 0 0] 34)) (w.heap.size + 1) (.slice none 0 0) (.slice none 0 0)) := by
    have := Box.new (w.alloc (.cells #[a0, a1] 34)) (.slice none 0 0) (.slice none 0 0)
    simp only [World.size_alloc] at this
    exact this
  have HL : Hid (l.length = N) := hl
  rcases ha.2.cases with ⟨e, _⟩ | ⟨ab, ao, ac, ea, hab0, ha1, _, HCA⟩
  · simp only at e; rw [e] at hl; simp at hl; omega
  simp only at HCA hab0 ha1 ea
  have hab : ab < w.heap.size := World.block_lt_of_cell? _ _ (HCA.out 0 hab0)
  have HCD : Hid (∀ i, i < N → w.cell? ⟨ab, ao + i, none⟩ = some (.int .i64 (l.getD i 0))) := fun i hi => Ints.cellD (n := 0) (c := 0) HCA i (by rw [hl]; exact hi)
  rw [hl] at ea ha1
  subst ea
  obtain ⟨db, dof, dc, ed, hdc, hd0, hd1⟩ : ∃ b off c, a0 = .slice (some ⟨b, off, none⟩) 2 c ∧ 2 ≤ c ∧ w.cell? ⟨b, off + 0, none⟩ = some (.int .i64 p) ∧ w.cell? ⟨b, off + 1, none⟩ = some (.int .i64 q) := by
    rcases ha.1.cases with ⟨e, _⟩ | ⟨b, off, c, e, h0, h1, h2, HC⟩
    · cases e
    · exact ⟨b, off, c, e, h1, HC.out 0 (by simp), HC.out 1 (by simp)⟩
  subst ed
  have hdb : db < w.heap.size := World.block_lt_of_cell? _ _ hd0
  have HE0 : Hid (w.cell? ⟨db, dof, none⟩ = some (.int .i64 p)) := hd0
  have HE1 : Hid (w.cell? ⟨db, dof + 1, none⟩ = some (.int .i64 q)) := hd1
  have hs0 : ((w.alloc (.cells #[.slice (some ⟨db, dof, none⟩) 2 dc, .slice (some ⟨ab, ao, none⟩) N ac] 34)).alloc (.cells #[.slice none 0 0, .slice none 0 0] 34)).heap.size = w.heap.size + 1 + 1 := by simp
  clear ha hb hx hok hok2 hN hl hpq hab0 HCA hd0 hd1
  go_enter Tryz.func48, Tryz.ntmps48
  go_wp2_with fail
  generalize ((w.alloc (.cells #[.slice (some ⟨db, dof, none⟩) 2 dc, .slice (some ⟨ab, ao, none⟩) N ac] 34)).alloc (.cells #[.slice none 0 0, .slice none 0 0] 34)) = U at HB HBA HBX hs0 ⊢
  refine wp_cut (fun a' w' => ∃ Bt x0 x1, FrQ w.heap.size Bt a' ∧ Box w' Bt x0 x1 ∧ OwnT w' (w.heap.size + 1 + 1) x0 x1 ([(q : Int), (p : Int)], List.replicate N 0) ∧ (w.heap.size + 1 + 1 ≤ Bt ∧ ∀ k, x1.ownBlock = some k → k ≠ Bt) ∧ Below U.heap.size U w') ?_ ?_
  · intro a5 w5 ⟨Bt, x0, x1, hf5, hbt, hot, ⟨hB1, hB2⟩, hb5⟩
    obtain ⟨G, hg, e⟩ := act56 a5 hf5.d hf5.s
    obtain ⟨hz1, hz2, g1, g2, g3⟩ := hf5
    rw [hg] at g1 g2 g3
    clear hz1 hz2
    subst e
    clear hg
    rw [g1, g2, g3]
    clear g1 g2 g3
    obtain ⟨xa, xn, xc, rfl⟩ := hot.dims.ints.shape3
    obtain ⟨g, cap, ex, hcap, hg1, hg2⟩ := hot.data.form (by simp; omega)
    simp only [List.length_replicate] at ex hcap
    subst ex
    have hgB : g ≠ Bt := hB2 g rfl
    have HBA5 : Hid (Box w5 w.heap.size _ _) := HBA.out.later hb5
    have HBX5 : Hid (Box w5 (w.heap.size + 1) _ _) := HBX.out.later hb5
    have HBT5 : Hid (Box w5 Bt _ _) := hbt
    have HB5 : Hid (Below w.heap.size w w5) := Below.after HB.out hb5
    have HO5 : Hid (Own w5 (w.heap.size + 1 + 1) (.slice xa xn xc) [(q : Int), (p : Int)]) := hot.dims
    have HK5 : Hid (Own w5 (w.heap.size + 1 + 1) (.slice (some ⟨g, 0, none⟩) N cap) (trn p q l 0)) := by
      show Own _ _ _ _
      rw [trn_zero, HN.out]
      exact hot.data
    have HAP : Hid (∀ k, (Value.slice xa xn xc).ownBlock = some k → k ≠ g) := fun k hk e => hot.apart k hk (by rw [e]; rfl)
    clear hot hbt hb5 hB2
    go_wp2
    go_loopw [4] (fun x w' => ∃ i : Nat, i ≤ p ∧ x = .int .i64 i ∧ Own w' (w.heap.size + 1 + 1) (.slice (some ⟨g, 0, none⟩) N cap) (trn p q l (i * q)) ∧ But g w5 w') (fun x _ => p - (intOf x).toNat)
    case atStart => exact ⟨0, by omega, rfl, by rw [Nat.zero_mul]; exact HK5.out, But.refl _ _⟩
    case round =>
      obtain ⟨wo, rfl⟩ : ∃ x, x = wr := ⟨_, rfl⟩
      obtain ⟨i, hi, rfl, hO, hbu⟩ := hrel
      have HOI : Hid (Own wo (w.heap.size + 1 + 1) (.slice (some ⟨g, 0, none⟩) N cap) (trn p q l (i * q))) := hO
      have HBU : Hid (But g w5 wo) := hbu
      have c0 := (hbu.box HBA5.out (by omega)).c0
      have d0 : wo.cell? ⟨db, dof, none⟩ = some (.int .i64 p) := (hbu.cell (by simp; omega)).trans (cell_later HB5.out HE0.out)
      clear hO hbu
      by_cases hlt : i < p
      · go_wp2
        go_loopw [5] (fun x w' => ∃ k : Nat, k ≤ q ∧ x = .int .i64 k ∧ Own w' (w.heap.size + 1 + 1) (.slice (some ⟨g, 0, none⟩) N cap) (trn p q l (i * q + k)) ∧ But g w5 w') (fun x _ => q - (intOf x).toNat)
        case atStart => exact ⟨0, by omega, rfl, HOI.out, HBU.out⟩
        case round =>
          obtain ⟨k, hk, rfl, hO, hbu⟩ := hrel
          have HOK' : Hid (Own wr (w.heap.size + 1 + 1) (.slice (some ⟨g, 0, none⟩) N cap) (trn p q l (i * q + k))) := hO
          have HBK : Hid (But g w5 wr) := hbu
          have v0 := (hbu.box HBA5.out (by omega)).c0
          have v1 := (hbu.box HBA5.out (by omega)).c1
          have v2 := (hbu.box HBT5.out (by omega)).c1
          have v3 : wr.cell? ⟨db, dof, none⟩ = some (.int .i64 p) := (hbu.cell (by simp; omega)).trans (cell_later HB5.out HE0.out)
          have v4 : wr.cell? ⟨db, dof + 1, none⟩ = some (.int .i64 q) := (hbu.cell (by simp; omega)).trans (cell_later HB5.out HE1.out)
          clear hO hbu c0 d0
          by_cases hlk : k < q
          · have hiq : i * q + k < p * q := by
              have h3 : (i + 1) * q ≤ p * q := Nat.mul_le_mul_right q hlt
              rw [Nat.add_mul, Nat.one_mul] at h3
              omega
            have hkp : k * p + i < p * q := by
              have h3 : (k + 1) * p ≤ q * p := Nat.mul_le_mul_right p hlk
              rw [Nat.add_mul, Nat.one_mul, Nat.mul_comm q p] at h3
              omega
            have HTS := trn_set p q l (i * q + k) hiq
            rw [tinv_ik hlk] at HTS
            rw [HN.out] at hiq hkp
            have y0 : (k : Int) * p = ((k * p : Nat) : Int) := by simp
            have y1 : (i : Int) * q = ((i * q : Nat) : Int) := by simp
            obtain ⟨kp, hkp'⟩ : ∃ x, k * p = x := ⟨_, rfl⟩
            obtain ⟨iq, hiq'⟩ : ∃ x, i * q = x := ⟨_, rfl⟩
            rw [hkp'] at HTS hkp y0
            rw [hiq'] at HTS hiq y1
            have z0 : IntKind.i64.wrap ((k : Int) * p) = (kp : Int) := by rw [y0]; exact wrap_small _ (by omega) (by omega)
            have z1 : IntKind.i64.wrap ((i : Int) * q) = (iq : Int) := by rw [y1]; exact wrap_small _ (by omega) (by omega)
            have z2 : IntKind.i64.wrap ((kp : Int) + i) = ((kp + i : Nat) : Int) := by rw [wrap_small _ (by omega) (by omega)]; simp
            have z3 : IntKind.i64.wrap ((iq : Int) + k) = ((iq + k : Nat) : Int) := by rw [wrap_small _ (by omega) (by omega)]; simp
            obtain ⟨T, hT⟩ : ∃ x, kp + i = x := ⟨_, rfl⟩
            obtain ⟨R, hR⟩ : ∃ x, iq + k = x := ⟨_, rfl⟩
            rw [hT] at z2 hkp HTS
            rw [hR] at z3 hiq HTS
            have v5 : wr.cell? ⟨ab, ao + R, none⟩ = some (.int .i64 (l.getD R 0)) := (HBK.out.cell (by simp; omega)).trans (cell_later HB5.out (HCD.out R hiq))
            have z4 : (0 : Int) ≤ (T : Int) := by omega
            have z5 : (T : Int) < N := by omega
            have z6 : (0 : Int) ≤ (R : Int) := by omega
            have z7 : (R : Int) < N := by omega
            have HOT : Hid (Own wr (w.heap.size + 1 + 1) (.slice (some ⟨g, 0, none⟩) N cap) (trn p q l R)) := by
              have h := HOK'.out
              rw [hiq', hR] at h
              exact h
            obtain ⟨f1, f2, f3⟩ := HOT.out.put (by rw [trn_length, HN.out]) T hkp (l.getD R 0)
            rw [HTS] at f3
            have HS : Hid (Own (wr.setCell ⟨g, T, none⟩ (.int .i64 (l.getD R 0))) (w.heap.size + 1 + 1) (.slice (some ⟨g, 0, none⟩) N cap) (trn p q l (i * q + (k + 1)))) := by
              show Own _ _ _ _
              rw [hiq', ← Nat.add_assoc, hR]
              exact f3
            have HBS : Hid (But g w5 (wr.setCell ⟨g, T, none⟩ (.int .i64 (l.getD R 0)))) := HBK.out.setCell _
            clear f3 HTS hiq' hkp' hT hR y0 y1
            have n1 : g ≠ w.heap.size := by omega
            have n2 : w.heap.size ≠ g := by omega
            have n3 : Bt ≠ g := Ne.symm hgB
            have n4 : g ≠ db := by omega
            have n5 : db ≠ g := by omega
            have n6 : g ≠ ab := by omega
            have n7 : ab ≠ g := by omega
            go_wp2_with fail
            go_region_held3 (fun w' => w'.cell? ⟨w.heap.size, 0, none⟩ = some (.slice (some ⟨db, dof, none⟩) 2 dc) ∧ w'.cell? ⟨w.heap.size, 1, none⟩ = some (.slice (some ⟨ab, ao, none⟩) N ac) ∧ w'.cell? ⟨Bt, 1, none⟩ = some (.slice (some ⟨g, 0, none⟩) N cap) ∧ w'.cell? ⟨db, dof, none⟩ = some (.int .i64 p) ∧ w'.cell? ⟨db, dof + 1, none⟩ = some (.int .i64 q) ∧ w'.cell? ⟨ab, ao + R, none⟩ = some (.int .i64 (l.getD R 0))) (go_keep) (fail)
            clear v0 v1 v2 v3 v4 v5 f1 f2
            go_wp2
            go_roundw
            case rel => exact ⟨k + 1, by omega, by go_num, HS.out.drew, HBS.out.drew⟩
            case measure => simp [intOf]; omega
          · have hk' : k = q := by omega
            subst hk'
            go_wp2
            go_roundw
            case rel =>
              refine ⟨i + 1, by omega, by go_num, ?_, HBK.out⟩
              rw [Nat.add_mul, Nat.one_mul]
              exact HOK'.out
            case measure => simp [intOf]; omega
      · have hi' : i = p := by omega
        subst hi'
        have hbt := HBU.out.box HBT5.out (by omega)
        have t0 := hbt.c0
        have t1 := hbt.c1
        have hbx := HBU.out.box HBX5.out (by omega)
        have l0 := hbx.c0
        have l1 := hbx.c1
        have m0 := hbx.f 0
        have m1 := hbx.f 1
        have HBS : Hid (Box _ _ _ _) := hbx.set (.slice xa xn xc) (.slice (some ⟨g, 0, none⟩) N cap)
        have HO6 : Hid (Own wo (w.heap.size + 1 + 1) (.slice xa xn xc) [(q : Int), (i : Int)]) := HO5.out.at fun k hk => HBU.out.block k (HAP.out k hk)
        have HK6 : Hid (Own wo (w.heap.size + 1 + 1) (.slice (some ⟨g, 0, none⟩) N cap) (tns i q l)) := by
          have h := HOI.out
          rw [trn_all] at h
          exact h
        have HBE : Hid (Below w.heap.size w wo) := HBU.out.below HB5.out (by omega)
        clear hbx hbt
        go_wp2
        have hr0 := HBS.out.c0
        have hr1 := HBS.out.c1
        refine bodyPost_ret (v := .agg #[.slice xa xn xc, .slice (some ⟨g, 0, none⟩) N cap]) (by simp [results, Tryz.results48, go_sem, hr0, hr1]) rfl ⟨_, _, rfl, ?_, ?_⟩
        · have h1 : OwnT wo (w.heap.size + 1 + 1) (.slice xa xn xc) (.slice (some ⟨g, 0, none⟩) N cap) ([(q : Int), (i : Int)], tns i q l) := ⟨HO6.out, HK6.out, fun k hk e => HAP.out k hk (by simp [Value.ownBlock] at e; exact e.symm)⟩
          exact ((h1.setCell _ _ (by simp)).setCell _ _ (by simp)).mono (by omega)
        · exact (HBE.out.setCell (by simp) _).setCell (by simp) _
  · intro J K' hJ hK'
    have HJ : Hid _ := hJ
    have HK' : Hid _ := hK'
    clear hJ hK'
    have l0 := HBA.out.c0
    have l1 := cell_later HB.out HE0.out
    have l2 := cell_later HB.out HE1.out
    have n1 := World.new_ne U _ l0
    have n2 := World.new_ne U _ l1
    have HTI : Hid (Ints (U.alloc (.cells #[.int .i64 q, .int .i64 p] 3)) (.slice (some ⟨w.heap.size + 1 + 1, 0, none⟩) 2 2) [(q : Int), (p : Int)]) := by
      have := two_ints U q p
      rw [hs0] at this
      exact this
    have HTB : Hid (Ints ((U.alloc (.cells #[.slice none 0 0, .slice none 0 0] 34)).alloc (.cells #[.int .i64 q, .int .i64 p] 3)) (.slice (some ⟨w.heap.size + 1 + 1 + 1, 0, none⟩) 2 2) [(q : Int), (p : Int)]) := by
      have := two_ints (U.alloc (.cells #[.slice none 0 0, .slice none 0 0] 34)) q p
      rw [World.size_alloc, hs0] at this
      exact this
    have HZ1 : Hid (Box (U.alloc (.cells #[.slice none 0 0, .slice none 0 0] 34)) (w.heap.size + 1 + 1) (.slice none 0 0) (.slice none 0 0)) := by
      have := Box.new U (.slice none 0 0) (.slice none 0 0)
      rw [hs0] at this
      exact this
    have HZ2 : Hid (Box ((U.alloc (.cells #[.int .i64 q, .int .i64 p] 3)).alloc (.cells #[.slice none 0 0, .slice none 0 0] 34)) (w.heap.size + 1 + 1 + 1) (.slice none 0 0) (.slice none 0 0)) := by
      have := Box.new (U.alloc (.cells #[.int .i64 q, .int .i64 p] 3)) (.slice none 0 0) (.slice none 0 0)
      rw [World.size_alloc, hs0] at this
      exact this
    have m1 : w.heap.size + 1 + 1 + 1 ≠ w.heap.size := by omega
    have m2 : w.heap.size + 1 + 1 + 1 ≠ db := by omega
    have m3 : w.heap.size + 1 + 1 ≠ w.heap.size := by omega
    have m4 : w.heap.size + 1 + 1 ≠ db := by omega
    have m5 : w.heap.size ≠ w.heap.size + 1 + 1 + 1 := by omega
    have m6 : db ≠ w.heap.size + 1 + 1 + 1 := by omega
    have m7 : w.heap.size ≠ w.heap.size + 1 + 1 := by omega
    have m8 : db ≠ w.heap.size + 1 + 1 := by omega
    go_region_held3 (fun w' => w'.cell? ⟨w.heap.size, 0, none⟩ = some (.slice (some ⟨db, dof, none⟩) 2 dc) ∧ w'.cell? ⟨db, dof, none⟩ = some (.int .i64 p) ∧ w'.cell? ⟨db, dof + 1, none⟩ = some (.int .i64 q)) (go_keep)
      (first | (go_at_call 44; refine (rfill_own (d := [(q : Int), (p : Int)]) 0 ?_ HOK2.out).mono ?_; exact Ints.later (Below.refl _ _).drew HTI.out; rw [HPQ.out]; rintro e w6 ⟨x0, x1, rfl, ho, hb6⟩; obtain ⟨xa, xn, xc, rfl⟩ := ho.dims.ints.shape3; obtain ⟨ya, yn, yc, rfl⟩ := ho.data.ints.shape3; have HQ6 : Hid (Below U.heap.size U w6) := Below.after (Below.push (Below.refl _ _) _).drew hb6; have HO6 : Hid (OwnT w6 (w.heap.size + 1 + 1) (.slice xa xn xc) (.slice ya yn yc) ([(q : Int), (p : Int)], List.replicate N 0)) := ho.mono (by simp; omega); have a_0 := cell_later HQ6.out l0; have a_1 := cell_later HQ6.out l1; have a_2 := cell_later HQ6.out l2; have hs6 := hb6.size; clear ho hb6) | (go_at_call 44; refine (rfill_own (d := [(q : Int), (p : Int)]) 0 ?_ HOK2.out).mono ?_; exact Ints.later (Below.refl _ _).drew HTB.out; rw [HPQ.out]; rintro e w6 ⟨x0, x1, rfl, ho, hb6⟩; obtain ⟨xa, xn, xc, rfl⟩ := ho.dims.ints.shape3; obtain ⟨ya, yn, yc, rfl⟩ := ho.data.ints.shape3; have HQ6 : Hid (Below U.heap.size U w6) := Below.after (Below.push (Below.push (Below.refl _ _) _) _).drew hb6; have HO6 : Hid (OwnT w6 (w.heap.size + 1 + 1 + 1) (.slice xa xn xc) (.slice ya yn yc) ([(q : Int), (p : Int)], List.replicate N 0)) := ho.mono (by simp; omega); have a_0 := cell_later HQ6.out l0; have a_1 := cell_later HQ6.out l1; have a_2 := cell_later HQ6.out l2; have hs6 := hb6.size; have hz : Box w6 (w.heap.size + 1 + 1) (.slice none 0 0) (.slice none 0 0) := Box.later hb6 (HZ1.out.alloc _); have z0 := hz.c0; have z1 := hz.c1; have z2 := hz.f 0; have z3 := hz.f 1; have HZ : Hid (Box w6 (w.heap.size + 1 + 1) (.slice none 0 0) (.slice none 0 0)) := hz; clear hz; clear ho hb6) | (go_at_call 44; refine (rfill_own (d := [(q : Int), (p : Int)]) 0 ?_ HOK2.out).mono ?_; exact Ints.later (Below.refl _ _).drew (HTI.out.later (Below.push (Below.refl _ _) _)); rw [HPQ.out]; rintro e w6 ⟨x0, x1, rfl, ho, hb6⟩; obtain ⟨xa, xn, xc, rfl⟩ := ho.dims.ints.shape3; obtain ⟨ya, yn, yc, rfl⟩ := ho.data.ints.shape3; have HQ6 : Hid (Below U.heap.size U w6) := Below.after (Below.push (Below.push (Below.refl _ _) _) _).drew hb6; have HO6 : Hid (OwnT w6 (w.heap.size + 1 + 1 + 1 + 1) (.slice xa xn xc) (.slice ya yn yc) ([(q : Int), (p : Int)], List.replicate N 0)) := ho.mono (by simp; omega); have a_0 := cell_later HQ6.out l0; have a_1 := cell_later HQ6.out l1; have a_2 := cell_later HQ6.out l2; have hs6 := hb6.size; have hz : Box w6 (w.heap.size + 1 + 1 + 1) (.slice none 0 0) (.slice none 0 0) := Box.later hb6 HZ2.out; have z0 := hz.c0; have z1 := hz.c1; have z2 := hz.f 0; have z3 := hz.f 1; have HZ : Hid (Box w6 (w.heap.size + 1 + 1 + 1) (.slice none 0 0) (.slice none 0 0)) := hz; clear hz; clear ho hb6))
    · have hsz := HQ6.out.size
      exact HK'.out _ _ (Met.intro (HJ.out _ _ ⟨_, _, _, ⟨rfl, rfl, rfl, rfl, rfl⟩, Box.new _ _ _, HO6.out.later (Below.push (Below.refl _ _) _), ⟨by omega, fun k hk => by have := HO6.out.data.lt k hk; omega⟩, Below.push HQ6.out _⟩))
    · exact HK'.out _ _ (Met.intro (HJ.out _ _ ⟨_, _, _, ⟨rfl, rfl, rfl, rfl, rfl⟩, HZ.out.set _ _, (HO6.out.set2 _ _ (by omega)).mono (by omega), ⟨by omega, fun k hk => by have := HO6.out.data.frm k hk; omega⟩, (HQ6.out.setCell (by simp; omega) _).setCell (by simp; omega) _⟩))
    · exact HK'.out _ _ (Met.intro (HJ.out _ _ ⟨_, _, _, ⟨rfl, rfl, rfl, rfl, rfl⟩, HZ.out.set _ _, (HO6.out.set2 _ _ (by omega)).mono (by omega), ⟨by omega, fun k hk => by have := HO6.out.data.frm k hk; omega⟩, (HQ6.out.setCell (by simp; omega) _).setCell (by simp; omega) _⟩))
structure EnvA (B : Nat) (f0 f1 f2 : Value) (T : List Ten) (D : List (List Int)) (w : World) : Prop where
  b0 : w.cell? ⟨B, 0, none⟩ = some f0
  b1 : w.cell? ⟨B, 1, none⟩ = some f1
  b2 : w.cell? ⟨B, 2, none⟩ = some f2
  hT : TensL w f0 T
  hD : IntsL w f2 D
theorem EnvA.later {B : Nat} {f0 f1 f2 : Value} {T : List Ten} {D : List (List Int)} {w w' : World} (h : EnvA B f0 f1 f2 T D w) (hb : Below w.heap.size w w') : EnvA B f0 f1 f2 T D w' :=
  ⟨cell_later hb h.b0, cell_later hb h.b1, cell_later hb h.b2, h.hT.later hb, h.hD.later hb⟩
theorem IntsL.row {w : World} {a : Option Addr} {n c : Nat} {L : List (List Int)} (h : IntsL w (.slice a n c) L) (i : Nat) (hi : i < L.length) :
    ∃ b off xa xn xc, a = some ⟨b, off, none⟩ ∧ w.cell? ⟨b, off + i, none⟩ = some (.slice xa xn xc) ∧ Hid (Ints w (.slice xa xn xc) L[i]) := by
  obtain ⟨_, a', c', e, _, hrow⟩ := h
  simp only [Value.slice.injEq] at e
  obtain ⟨rfl, rfl, rfl⟩ := e
  obtain ⟨b, off, x, ha, hc, hx⟩ := hrow i hi
  obtain ⟨xa, xn, xc, rfl⟩ := hx.shape3
  exact ⟨b, off, xa, xn, xc, ha, hc, hx⟩
theorem IntsL.shape {w : World} {v : Value} {L : List (List Int)} (h : IntsL w v L) : ∃ a n c, v = .slice a n c := by
  obtain ⟨_, a', c', e, hc, _⟩ := h
  exact ⟨_, _, _, e⟩
theorem wide_to {a0 a1 v : Value} {s : Ten} {d : List Int} {w : World} (x : Int) (u : Ten) (ha : Tens w a0 a1 s) (hd : Ints w v d) (hx : wiE s d = x) (hu : wiR s d = u) :
    Calls Tryz.prog 65 #[.agg #[a0, a1], v] w fun e w' => ∃ x0 x1, e = .returned (.tuple #[.agg #[x0, x1], .int .i64 x]) ∧ OwnT w' w.heap.size x0 x1 u ∧ Below w.heap.size w w' := by
  subst hx hu
  exact wide_any ha hd
theorem shape_to {a0 a1 v : Value} {s : Ten} {d : List Int} {w : World} (x : Int) (u : Ten) (ha : Tens w a0 a1 s) (hd : Ints w v d) (hx : shE s d = x) (hu : shR s d = u) :
    Calls Tryz.prog 64 #[.agg #[a0, a1], v] w fun e w' => ∃ x0 x1, e = .returned (.tuple #[.agg #[x0, x1], .int .i64 x]) ∧ OwnT w' w.heap.size x0 x1 u ∧ Below w.heap.size w w' := by
  subst hx hu
  exact shape_any ha hd
theorem rturn_to {a0 a1 : Value} {s : Ten} {w : World} (u : Ten) (ha : Tens w a0 a1 s) (hx : trE s = 0) (hu : trR s = u) :
    Calls Tryz.prog 48 #[.agg #[a0, a1]] w fun e w' => ∃ x0 x1, e = .returned (.agg #[x0, x1]) ∧ OwnT w' w.heap.size x0 x1 u ∧ Below w.heap.size w w' := by
  subst hu
  obtain ⟨ht, p, q, hd, _⟩ := tr_zero hx
  rw [trR_ok hx hd]
  obtain ⟨d, l⟩ := s
  simp only at hd
  subst hd
  exact rturn_ok ha ht
set_option maxHeartbeats 1000000 in
theorem sub_any {a0 a1 b0 b1 : Value} {s t : Ten} {w : World} (ha : Tens w a0 a1 s) (hb' : Tens w b0 b1 t) :
    Calls Tryz.prog 58 #[.agg #[a0, a1], .agg #[b0, b1]] w fun e w' => ∃ x0 x1, e = .returned (.tuple #[.agg #[x0, x1], .int .i64 (fitE s t)]) ∧ OwnT w' w.heap.size x0 x1 (eachR opS s t) ∧ Below w.heap.size w w' := by
  have hb : Below w.heap.size w (((w.alloc (.cells #[a0, a1] 34)).alloc (.cells #[b0, b1] 34)).alloc (.cells #[.slice none 0 0, .slice none 0 0] 34)) := (((Below.refl _ _).alloc (Nat.le_refl _) _).alloc (by simp) _).alloc (by simp; omega) _
  have HA : Hid (Tens (((w.alloc (.cells #[a0, a1] 34)).alloc (.cells #[b0, b1] 34)).alloc (.cells #[.slice none 0 0, .slice none 0 0] 34)) a0 a1 s) := ha.later hb
  have HT : Hid (Tens (((w.alloc (.cells #[a0, a1] 34)).alloc (.cells #[b0, b1] 34)).alloc (.cells #[.slice none 0 0, .slice none 0 0] 34)) b0 b1 t) := hb'.later hb
  have HB : Hid (Below w.heap.size w (((w.alloc (.cells #[a0, a1] 34)).alloc (.cells #[b0, b1] 34)).alloc (.cells #[.slice none 0 0, .slice none 0 0] 34))) := hb
  have HBX : Hid (Box (((w.alloc (.cells #[a0, a1] 34)).alloc (.cells #[b0, b1] 34)).alloc (.cells #[.slice none 0 0, .slice none 0 0] 34)) (w.heap.size + 1 + 1) (.slice none 0 0) (.slice none 0 0)) := by
    have := Box.new ((w.alloc (.cells #[a0, a1] 34)).alloc (.cells #[b0, b1] 34)) (.slice none 0 0) (.slice none 0 0)
    simp only [World.size_alloc] at this
    exact this
  clear ha hb' hb
  go_enter Tryz.func58, Tryz.ntmps58
  go_wp2_with fail
  refine (each_any (op := opS) deed_sub HA.out HT.out).mono ?_
  rintro e w1 ⟨x0, x1, rfl, ho, hb1⟩
  simp only [World.size_alloc] at ho
  have HO : Hid (OwnT w1 (w.heap.size + 1 + 1 + 1) x0 x1 (eachR opS s t)) := ho
  have HB1 : Hid (Below w.heap.size w w1) := Below.after HB.out hb1
  have hbx := HBX.out.later hb1
  have hx0' := hbx.c0
  have hx1 := hbx.c1
  have hf0 := hbx.f 0
  have hf1 := hbx.f 1
  obtain ⟨xa, xc, rfl⟩ := ho.dims.ints.shape
  obtain ⟨ya, yc, rfl⟩ := ho.data.ints.shape
  have HBS : Hid (Box _ _ _ _) := hbx.set (.slice xa (eachR opS s t).1.length xc) (.slice ya (eachR opS s t).2.length yc)
  clear hb1 hbx ho
  go_wp2
  have hr0 := HBS.out.c0
  have hr1 := HBS.out.c1
  refine bodyPost_ret (v := .tuple #[.agg #[.slice xa (eachR opS s t).1.length xc, .slice ya (eachR opS s t).2.length yc], .int .i64 (fitE s t)]) (by simp [results, Tryz.results58, go_sem, hr0, hr1]) rfl ⟨_, _, rfl, ?_, ?_⟩
  · exact ((HO.out.setCell _ _ (by simp)).setCell _ _ (by simp)).mono (by omega)
  · exact (HB1.out.setCell (by simp; omega) _).setCell (by simp; omega) _
set_option maxHeartbeats 1000000 in
theorem neg_any {a0 a1 : Value} {s : Ten} {w : World} (ha : Tens w a0 a1 s) :
    Calls Tryz.prog 60 #[.agg #[a0, a1]] w fun e w' => ∃ x0 x1, e = .returned (.tuple #[.agg #[x0, x1], .int .i64 (fitE s s)]) ∧ OwnT w' w.heap.size x0 x1 (eachR opN s s) ∧ Below w.heap.size w w' := by
  have hb : Below w.heap.size w ((w.alloc (.cells #[a0, a1] 34)).alloc (.cells #[.slice none 0 0, .slice none 0 0] 34)) := ((Below.refl _ _).alloc (Nat.le_refl _) _).alloc (by simp) _
  have HA : Hid (Tens ((w.alloc (.cells #[a0, a1] 34)).alloc (.cells #[.slice none 0 0, .slice none 0 0] 34)) a0 a1 s) := ha.later hb
  have HB : Hid (Below w.heap.size w ((w.alloc (.cells #[a0, a1] 34)).alloc (.cells #[.slice none 0 0, .slice none 0 0] 34))) := hb
  have HBX : Hid (Box ((w.alloc (.cells #[a0, a1] 34)).alloc (.cells #[.slice none 0 0, .slice none 0 0] 34)) (w.heap.size + 1) (.slice none 0 0) (.slice none 0 0)) := by
    have := Box.new (w.alloc (.cells #[a0, a1] 34)) (.slice none 0 0) (.slice none 0 0)
    simp only [World.size_alloc] at this
    exact this
  clear ha hb
  go_enter Tryz.func60, Tryz.ntmps60
  go_wp2_with fail
  refine (each_any (op := opN) deed_neg HA.out HA.out).mono ?_
  rintro e w1 ⟨x0, x1, rfl, ho, hb1⟩
  simp only [World.size_alloc] at ho
  have HO : Hid (OwnT w1 (w.heap.size + 1 + 1) x0 x1 (eachR opN s s)) := ho
  have HB1 : Hid (Below w.heap.size w w1) := Below.after HB.out hb1
  have hbx := HBX.out.later hb1
  have hx0' := hbx.c0
  have hx1 := hbx.c1
  have hf0 := hbx.f 0
  have hf1 := hbx.f 1
  obtain ⟨xa, xc, rfl⟩ := ho.dims.ints.shape
  obtain ⟨ya, yc, rfl⟩ := ho.data.ints.shape
  have HBS : Hid (Box _ _ _ _) := hbx.set (.slice xa (eachR opN s s).1.length xc) (.slice ya (eachR opN s s).2.length yc)
  clear hb1 hbx ho
  go_wp2
  have hr0 := HBS.out.c0
  have hr1 := HBS.out.c1
  refine bodyPost_ret (v := .tuple #[.agg #[.slice xa (eachR opN s s).1.length xc, .slice ya (eachR opN s s).2.length yc], .int .i64 (fitE s s)]) (by simp [results, Tryz.results60, go_sem, hr0, hr1]) rfl ⟨_, _, rfl, ?_, ?_⟩
  · exact ((HO.out.setCell _ _ (by simp)).setCell _ _ (by simp)).mono (by omega)
  · exact (HB1.out.setCell (by simp) _).setCell (by simp) _
set_option maxHeartbeats 1000000 in
theorem scale_any {a0 a1 : Value} {s : Ten} {w : World} (n : Int) (ha : Tens w a0 a1 s) :
    Calls Tryz.prog 61 #[.agg #[a0, a1], .int .i64 n] w fun e w' => ∃ x0 x1, e = .returned (.tuple #[.agg #[x0, x1], .int .i64 (tkE s)]) ∧ OwnT w' w.heap.size x0 x1 (sclR n s) ∧ Below w.heap.size w w' := by
  have hb : Below w.heap.size w ((w.alloc (.cells #[a0, a1] 34)).alloc (.cells #[.slice none 0 0, .slice none 0 0] 34)) := ((Below.refl _ _).alloc (Nat.le_refl _) _).alloc (by simp) _
  have HA : Hid (Tens ((w.alloc (.cells #[a0, a1] 34)).alloc (.cells #[.slice none 0 0, .slice none 0 0] 34)) a0 a1 s) := ha.later hb
  have HB : Hid (Below w.heap.size w ((w.alloc (.cells #[a0, a1] 34)).alloc (.cells #[.slice none 0 0, .slice none 0 0] 34))) := hb
  have HBA : Hid (Box ((w.alloc (.cells #[a0, a1] 34)).alloc (.cells #[.slice none 0 0, .slice none 0 0] 34)) w.heap.size a0 a1) := (Box.new w a0 a1).alloc _
  have HBX : Hid (Box ((w.alloc (.cells #[a0, a1] 34)).alloc (.cells #[.slice none 0 0, .slice none 0 0] 34)) (w.heap.size + 1) (.slice none 0 0) (.slice none 0 0)) := by
    have := Box.new (w.alloc (.cells #[a0, a1] 34)) (.slice none 0 0) (.slice none 0 0)
    simp only [World.size_alloc] at this
    exact this
  clear ha hb
  obtain ⟨u, hu, hu2, hF⟩ : ∃ u : Ten, fitE u s = tkE s ∧ eachR opM u s = sclR n s ∧ ∀ w1 : World, Ints w1 a0 s.1 → Calls Tryz.prog 37 #[a0, .int .i64 n] w1 fun e w' => ∃ y0 y1 x, e = .returned (.tuple #[.agg #[y0, y1], .int .i64 x]) ∧ Tens w' y0 y1 u ∧ Below w1.heap.size w1 w' := by
    cases ho : okd s.1 with
    | true =>
      refine ⟨(s.1, List.replicate (prd s.1).toNat n), fit_fill n ho, each_fill n ho, fun w1 h1 => (fill_ok n h1 ho).mono ?_⟩
      rintro e w' ⟨a0, c0, b1, rfl, hi, hk, hb⟩
      have hp := okd_parts ho
      have hp1 := prd_lo hp.2.2.1
      exact ⟨_, _, _, rfl, ⟨hi, hk.ints _ _ (by simp) (Nat.le_refl _) (by unfold big; omega)⟩, hb⟩
    | false =>
      have ht : tkE s = 1 := by simp [tkE, tok, ho]
      refine ⟨([], []), by rw [fit_none, ht], by rw [each_none, sclR]; simp [tok, ho], fun w1 h1 => (fill_bad n h1 ho).mono ?_⟩
      rintro e w' ⟨rfl, hb⟩
      exact ⟨_, _, _, rfl, ⟨Ints.nil _, Ints.nil _⟩, hb⟩
  have HU : Hid (fitE u s = tkE s) := hu
  have HU2 : Hid (eachR opM u s = sclR n s) := hu2
  have HF : Hid (∀ w1 : World, Ints w1 a0 s.1 → Calls Tryz.prog 37 #[a0, .int .i64 n] w1 fun e w' => ∃ y0 y1 x, e = .returned (.tuple #[.agg #[y0, y1], .int .i64 x]) ∧ Tens w' y0 y1 u ∧ Below w1.heap.size w1 w') := hF
  clear hu hu2 hF
  go_enter Tryz.func61, Tryz.ntmps61
  go_wp2_with fail
  refine (HF.out _ HA.out.1).mono ?_
  rintro e w1 ⟨y0, y1, ey, rfl, hty, hb1⟩
  have HB1 : Hid (Below w.heap.size w w1) := Below.after HB.out hb1
  have hs1 := hb1.size
  simp at hs1
  have hbn : Below w1.heap.size w1 (w1.alloc (.cells #[y0, y1] 34)) := (Below.refl _ _).alloc (Nat.le_refl _) _
  have hca := ((HBA.out.later hb1).later hbn).c0
  have hca1 := ((HBA.out.later hb1).later hbn).c1
  have HBX2 : Hid (Box _ (w.heap.size + 1) (.slice none 0 0) (.slice none 0 0)) := (HBX.out.later hb1).later hbn
  have HY : Hid (Tens _ y0 y1 u) := hty.later hbn
  have HA2 : Hid (Tens _ a0 a1 s) := (HA.out.later hb1).later hbn
  have HB2 : Hid (Below w.heap.size w _) := Below.after HB1.out hbn
  obtain ⟨_, _, rfl⟩ := hty.1.shape
  obtain ⟨_, _, rfl⟩ := hty.2.shape
  clear hty hb1 hbn
  go_wp2_with fail
  refine (each_any (op := opM) deed_mul HY.out HA2.out).mono ?_
  rw [HU.out, HU2.out]
  rintro e w2 ⟨x0, x1, rfl, ho, hb2⟩
  simp only [World.size_alloc] at ho
  have HO : Hid (OwnT w2 (w1.heap.size + 1) x0 x1 (sclR n s)) := ho
  have HB3 : Hid (Below w.heap.size w w2) := Below.after HB2.out hb2
  have hbx := HBX2.out.later hb2
  have hx0' := hbx.c0
  have hx1 := hbx.c1
  have hf0 := hbx.f 0
  have hf1 := hbx.f 1
  obtain ⟨xa, xc, rfl⟩ := ho.dims.ints.shape
  obtain ⟨ya, yc, rfl⟩ := ho.data.ints.shape
  have HBS : Hid (Box _ _ _ _) := hbx.set (.slice xa (sclR n s).1.length xc) (.slice ya (sclR n s).2.length yc)
  clear hb2 hbx ho
  go_wp2
  have hr0 := HBS.out.c0
  have hr1 := HBS.out.c1
  refine bodyPost_ret (v := .tuple #[.agg #[.slice xa (sclR n s).1.length xc, .slice ya (sclR n s).2.length yc], .int .i64 (tkE s)]) (by simp [results, Tryz.results61, go_sem, hr0, hr1]) rfl ⟨_, _, rfl, ?_, ?_⟩
  · exact ((HO.out.setCell _ _ (by simp; omega)).setCell _ _ (by simp; omega)).mono (by omega)
  · exact (HB3.out.setCell (by simp) _).setCell (by simp) _
set_option maxHeartbeats 4000000 in
theorem reach_add {a0 a1 b0 b1 : Value} {s t : Ten} {w : World} (ha : Tens w a0 a1 s) (hb' : Tens w b0 b1 t) (hlen : t.2.length = s.2.length) (hpos : 1 ≤ s.2.length) (h64 : s.2.length ≤ 64) :
    Calls Tryz.prog 45 #[.agg #[a0, a1], .agg #[b0, b1], .int .i64 0] w fun e w' => ∃ x0 x1, e = .returned (.agg #[x0, x1]) ∧ OwnT w' w.heap.size x0 x1 (s.1, List.zipWith (fun x y => wrap64 (x + y)) s.2 t.2) ∧ Below w.heap.size w w' := by
  have hb : Below w.heap.size w (((w.alloc (.cells #[a0, a1] 34)).alloc (.cells #[b0, b1] 34)).alloc (.cells #[.slice none 0 0, .slice none 0 0] 34)) := (((Below.refl _ _).alloc (Nat.le_refl _) _).alloc (by simp) _).alloc (by simp; omega) _
  have HB : Hid (Below w.heap.size w (((w.alloc (.cells #[a0, a1] 34)).alloc (.cells #[b0, b1] 34)).alloc (.cells #[.slice none 0 0, .slice none 0 0] 34))) := hb
  have HA : Hid (Tens (((w.alloc (.cells #[a0, a1] 34)).alloc (.cells #[b0, b1] 34)).alloc (.cells #[.slice none 0 0, .slice none 0 0] 34)) a0 a1 s) := ha.later hb
  have HBA : Hid (Box (((w.alloc (.cells #[a0, a1] 34)).alloc (.cells #[b0, b1] 34)).alloc (.cells #[.slice none 0 0, .slice none 0 0] 34)) w.heap.size a0 a1) := ((Box.new w a0 a1).alloc _).alloc _
  have HBB : Hid (Box (((w.alloc (.cells #[a0, a1] 34)).alloc (.cells #[b0, b1] 34)).alloc (.cells #[.slice none 0 0, .slice none 0 0] 34)) (w.heap.size + 1) b0 b1) := by
    have := (Box.new (w.alloc (.cells #[a0, a1] 34)) b0 b1).alloc (.cells #[.slice none 0 0, .slice none 0 0] 34)
    simp only [World.size_alloc] at this
    exact this
  have HBX : Hid (Box (((w.alloc (.cells #[a0, a1] 34)).alloc (.cells #[b0, b1] 34)).alloc (.cells #[.slice none 0 0, .slice none 0 0] 34)) (w.heap.size + 1 + 1) (.slice none 0 0) (.slice none 0 0)) := by
    have := Box.new ((w.alloc (.cells #[a0, a1] 34)).alloc (.cells #[b0, b1] 34)) (.slice none 0 0) (.slice none 0 0)
    simp only [World.size_alloc] at this
    exact this
  rcases ha.2.cases with ⟨e, _⟩ | ⟨ab, ao, ac, ea, _, ha1, _, HCA⟩
  · rw [e] at hpos; simp at hpos
  rcases hb'.2.cases with ⟨e, _⟩ | ⟨bb, bo, bc, eb, _, hb1, _, HCB⟩
  · rw [e] at hlen; simp at hlen; omega
  obtain ⟨n, hn⟩ : ∃ n : Nat, s.2.length = n := ⟨_, rfl⟩
  have HN : Hid (s.2.length = n) := hn
  have HN2 : Hid (t.2.length = n) := by show _ = _; omega
  have hn1 : 1 ≤ n := by omega
  have hn64 : n ≤ 64 := by omega
  have hab : ab < w.heap.size := World.block_lt_of_cell? _ _ (HCA.out 0 (by omega))
  have hbb : bb < w.heap.size := World.block_lt_of_cell? _ _ (HCB.out 0 (by omega))
  rw [hn] at ea ha1
  rw [hlen, hn] at eb hb1
  subst ea eb
  have HCA1 : Hid (∀ i, i < n → w.cell? ⟨ab, ao + i, none⟩ = some (.int .i64 (s.2.getD i 0))) := fun i h => Ints.cellD (n := 0) (c := 0) HCA i (by have := HN.out; omega)
  have HCB1 : Hid (∀ i, i < n → w.cell? ⟨bb, bo + i, none⟩ = some (.int .i64 (t.2.getD i 0))) := fun i h => Ints.cellD (n := 0) (c := 0) HCB i (by have := HN2.out; omega)
  clear ha hb' hb hlen hpos h64 hn HCA HCB
  go_enter Tryz.func45, Tryz.ntmps45
  go_wp2_with fail
  refine (copyT_any HA.out).mono ?_
  rintro e w1 ⟨x0, x1, rfl, ho, hb1'⟩
  simp only [World.size_alloc] at ho
  have hs1 := hb1'.size
  simp at hs1
  have HB1 : Hid (Below w.heap.size w w1) := Below.after HB.out hb1'
  obtain ⟨g, cap, ex⟩ := Joins.ownsRow_form ho.data.row (by have := HN.out; omega)
  have hgl := ho.data.lt
  have hgf := ho.data.frm
  have hcl : n ≤ cap := by
    rcases ho.data.row.2 with ⟨h0, _⟩ | ⟨g', cap', cur, he, _, _, h1, _⟩
    · rw [ex] at h0; simp at h0
    · rw [ex] at he
      simp only [Value.slice.injEq, Option.some.injEq, Addr.mk.injEq, and_true, true_and] at he
      have := HN.out
      omega
  subst ex
  have hg1 := hgl g rfl
  have hg2 := hgf g rfl
  have HO0 : Hid (Own w1 (w.heap.size + 1 + 1 + 1) x0 s.1) := ho.dims
  have HO1 : Hid (Own w1 (w.heap.size + 1 + 1 + 1) (.slice (some ⟨g, 0, none⟩) s.2.length cap) s.2) := ho.data
  have HOD : Hid (OwnT w1 (w.heap.size + 1 + 1 + 1) x0 (.slice (some ⟨g, 0, none⟩) s.2.length cap) s) := ho
  obtain ⟨xa, xc, rfl⟩ := ho.dims.ints.shape
  have HBA1 := HBA.out.later hb1'
  have HBB1 := HBB.out.later hb1'
  have HBX1 := HBX.out.later hb1'
  clear ho hb1' hgl hgf
  rw [HN.out]
  rw [HN.out] at HO1
  go_wp2
  have HOS : Hid (Own (w1.alloc (.cells #[.slice xa s.1.length xc, .slice (some ⟨g, 0, none⟩) n cap] 34)) (w.heap.size + 1 + 1 + 1) (.slice (some ⟨g, 0, none⟩) n cap) (mix (fun i => (fun x y => wrap64 (x + y)) (s.2.getD i 0) (t.2.getD i 0)) s.2 0)) := by
    show Own _ _ _ _
    rw [mix_zero]
    exact HO1.out.later ((Below.refl _ _).alloc (Nat.le_refl _) _)
  have HBAV : Hid (Box (w1.alloc (.cells #[.slice xa s.1.length xc, .slice (some ⟨g, 0, none⟩) n cap] 34)) w.heap.size _ _) := HBA1.alloc _
  have HBBV : Hid (Box (w1.alloc (.cells #[.slice xa s.1.length xc, .slice (some ⟨g, 0, none⟩) n cap] 34)) (w.heap.size + 1) _ _) := HBB1.alloc _
  have HBXV : Hid (Box (w1.alloc (.cells #[.slice xa s.1.length xc, .slice (some ⟨g, 0, none⟩) n cap] 34)) (w.heap.size + 1 + 1) _ _) := HBX1.alloc _
  have HBTV : Hid (Box (w1.alloc (.cells #[.slice xa s.1.length xc, .slice (some ⟨g, 0, none⟩) n cap] 34)) w1.heap.size _ _) := Box.new w1 (.slice xa s.1.length xc) (.slice (some ⟨g, 0, none⟩) n cap)
  have HBV : Hid (Below w.heap.size w (w1.alloc (.cells #[.slice xa s.1.length xc, .slice (some ⟨g, 0, none⟩) n cap] 34))) := HB1.out.alloc (by omega) _
  have hsv : (w1.alloc (.cells #[.slice xa s.1.length xc, .slice (some ⟨g, 0, none⟩) n cap] 34)).heap.size = w1.heap.size + 1 := by simp
  have HO0V : Hid (Own (w1.alloc (.cells #[.slice xa s.1.length xc, .slice (some ⟨g, 0, none⟩) n cap] 34)) (w.heap.size + 1 + 1 + 1) (.slice xa s.1.length xc) s.1) := HO0.out.later ((Below.refl _ _).alloc (Nat.le_refl _) _)
  generalize (w1.alloc (.cells #[.slice xa s.1.length xc, .slice (some ⟨g, 0, none⟩) n cap] 34)) = V at HOS HBAV HBBV HBXV HBTV HBV hsv HO0V ⊢
  clear HBA1 HBB1 HBX1 HO1 HO0
  go_loopw [8] (fun i w' => ∃ j : Nat, j ≤ n ∧ i = .int .i64 j ∧ Own w' (w.heap.size + 1 + 1 + 1) (.slice (some ⟨g, 0, none⟩) n cap) (mix (fun i => (fun x y => wrap64 (x + y)) (s.2.getD i 0) (t.2.getD i 0)) s.2 j) ∧ But g V w') (fun i _ => n - (intOf i).toNat)
  case atStart => exact ⟨0, by omega, rfl, HOS.out, But.refl _ _⟩
  case round =>
    obtain ⟨j, hj, rfl, hO, hbut⟩ := hrel
    have HO3 : Hid (Own wr (w.heap.size + 1 + 1 + 1) (.slice (some ⟨g, 0, none⟩) n cap) (mix (fun i => (fun x y => wrap64 (x + y)) (s.2.getD i 0) (t.2.getD i 0)) s.2 j)) := hO
    have HBT3 : Hid (But g V wr) := hbut
    have hct := (hbut.box HBTV.out (by omega)).c1
    have hct0 := (hbut.box HBTV.out (by omega)).c0
    clear hO hbut
    by_cases hlt : j < n
    · have hca := (HBT3.out.box HBAV.out (by omega)).c1
      have hcb := (HBT3.out.box HBBV.out (by omega)).c1
      have hx : wr.cell? ⟨ab, ao + j, none⟩ = some (.int .i64 (s.2.getD j 0)) := (HBT3.out.cell (by simp; omega)).trans ((HBV.out.cell (by simp; omega)).trans (HCA1.out j hlt))
      have hy : wr.cell? ⟨bb, bo + j, none⟩ = some (.int .i64 (t.2.getD j 0)) := (HBT3.out.cell (by simp; omega)).trans ((HBV.out.cell (by simp; omega)).trans (HCB1.out j hlt))
      obtain ⟨hc, hf, hp⟩ := HO3.out.put (by rw [mix_length]; exact HN.out) j hlt ((fun x y => wrap64 (x + y)) (s.2.getD j 0) (t.2.getD j 0))
      have HP : Hid (Own (wr.setCell ⟨g, j, none⟩ (.int .i64 ((fun x y => wrap64 (x + y)) (s.2.getD j 0) (t.2.getD j 0)))) (w.heap.size + 1 + 1 + 1) (.slice (some ⟨g, 0, none⟩) n cap) (mix (fun i => (fun x y => wrap64 (x + y)) (s.2.getD i 0) (t.2.getD i 0)) s.2 (j + 1))) := by
        rw [mix_set (fun i => (fun x y => wrap64 (x + y)) (s.2.getD i 0) (t.2.getD i 0))] at hp
        exact hp
      clear hp
      have hlt0 : (0 : Int) ≤ (j : Int) := by omega
      have hlt1 : (j : Int) < n := by omega
      go_wp2
      go_region
      go_wp2
      go_roundw
      case rel => exact ⟨j + 1, by omega, by go_num, HP.out.drew, (HBT3.out.setCell _).drew⟩
      case measure => simp [intOf]; omega
    · have hj' : j = n := by omega
      subst hj'
      have hbx := HBT3.out.box HBXV.out (by omega)
      have l0 := hbx.c0
      have l1 := hbx.c1
      have m0 := hbx.f 0
      have m1 := hbx.f 1
      have HBS : Hid (Box _ _ _ _) := hbx.set (.slice xa s.1.length xc) (.slice (some ⟨g, 0, none⟩) j cap)
      have HO4 : Hid (Own wr (w.heap.size + 1 + 1 + 1) (.slice (some ⟨g, 0, none⟩) j cap) (List.zipWith (fun x y => wrap64 (x + y)) s.2 t.2)) := by
        have h1 := HO3.out
        have h2 := mix_zip (fun x y => wrap64 (x + y)) s.2 t.2 (by rw [HN.out, HN2.out])
        rw [HN.out] at h2
        rw [h2] at h1
        exact h1
      have HO5 : Hid (Own wr (w.heap.size + 1 + 1 + 1) (.slice xa s.1.length xc) s.1) := HO0V.out.at fun k hk => HBT3.out.block k (fun e => HOD.out.apart k hk (by rw [e]; rfl))
      have HBE : Hid (Below w.heap.size w wr) := HBT3.out.below HBV.out (by omega)
      clear hbx
      go_wp2
      have hr0 := HBS.out.c0
      have hr1 := HBS.out.c1
      refine bodyPost_ret (v := .agg #[.slice xa s.1.length xc, .slice (some ⟨g, 0, none⟩) j cap]) (by simp [results, Tryz.results45, go_sem, hr0, hr1]) rfl ⟨_, _, rfl, ?_, ?_⟩
      · have h1 : OwnT wr (w.heap.size + 1 + 1 + 1) (.slice xa s.1.length xc) (.slice (some ⟨g, 0, none⟩) j cap) (s.1, List.zipWith (fun x y => wrap64 (x + y)) s.2 t.2) := ⟨HO5.out, HO4.out, fun k hk e => HOD.out.apart k hk e⟩
        exact ((h1.setCell _ _ (by simp)).setCell _ _ (by simp)).mono (by omega)
      · exact (HBE.out.setCell (by simp; omega) _).setCell (by simp; omega) _
end Go.Proofs.YtheddpjaihhbdabGreat
