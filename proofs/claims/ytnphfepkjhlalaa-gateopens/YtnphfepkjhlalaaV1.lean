/- Contracts: the page's Gate, first and less. -/
import Derived.Test.YtnphfepkjhlalaaU0
namespace Go.Proofs.Ytnphfepkjhlalaa
set_option linter.unusedVariables false
set_option linter.unusedSimpArgs false
open Go.RowKit

theorem mix_skip (F : Nat → Int) (l : List Int) (j : Nat) (h : F j = l.getD j 0) : mix F l j = mix F l (j + 1) := by
  simp only [mix]
  apply List.map_congr_left
  intro i hi
  by_cases e : i = j
  · subst e; simp [h]
  · by_cases h3 : i < j
    · simp [h3, show i < j + 1 from by omega]
    · simp [h3, show ¬ i < j + 1 from by omega]
theorem mix_gate (a b : List Int) (h : a.length = b.length) : mix (fun i => opG (a.getD i 0) (b.getD i 0)) b b.length = List.zipWith opG a b := by
  have := mix_zip (fun y x => opG x y) b a h
  rw [this]
  exact List.zipWith_comm.symm
set_option maxRecDepth 100000 in
set_option maxHeartbeats 4000000 in
theorem rgate_ok {a0 a1 b0 b1 : Value} {s t : Ten} {w : World} (ha : Tens w a0 a1 s) (hb' : Tens w b0 b1 t) (hlen : s.2.length = t.2.length) (hpos : 1 ≤ t.2.length) (h64 : t.2.length ≤ 64) :
    Calls Try.prog 10 #[.agg #[a0, a1], .agg #[b0, b1]] w fun e w' => ∃ x0 x1, e = .returned (.agg #[x0, x1]) ∧ OwnT w' w.heap.size x0 x1 (t.1, List.zipWith opG s.2 t.2) ∧ Below w.heap.size w w' := by
  have hb : Below w.heap.size w (((w.alloc (.cells #[a0, a1] 28)).alloc (.cells #[b0, b1] 28)).alloc (.cells #[.slice none 0 0, .slice none 0 0] 28)) := (((Below.refl _ _).alloc (Nat.le_refl _) _).alloc (by simp) _).alloc (by simp; omega) _
  have HB : Hid (Below w.heap.size w (((w.alloc (.cells #[a0, a1] 28)).alloc (.cells #[b0, b1] 28)).alloc (.cells #[.slice none 0 0, .slice none 0 0] 28))) := hb
  have HA : Hid (Tens (((w.alloc (.cells #[a0, a1] 28)).alloc (.cells #[b0, b1] 28)).alloc (.cells #[.slice none 0 0, .slice none 0 0] 28)) b0 b1 t) := hb'.later hb
  have HBA : Hid (Box (((w.alloc (.cells #[a0, a1] 28)).alloc (.cells #[b0, b1] 28)).alloc (.cells #[.slice none 0 0, .slice none 0 0] 28)) w.heap.size a0 a1) := ((Box.new w a0 a1).alloc _).alloc _
  have HBX : Hid (Box (((w.alloc (.cells #[a0, a1] 28)).alloc (.cells #[b0, b1] 28)).alloc (.cells #[.slice none 0 0, .slice none 0 0] 28)) (w.heap.size + 1 + 1) (.slice none 0 0) (.slice none 0 0)) := by
    have := Box.new ((w.alloc (.cells #[a0, a1] 28)).alloc (.cells #[b0, b1] 28)) (.slice none 0 0) (.slice none 0 0)
    simp only [World.size_alloc] at this
    exact this
  rcases ha.2.cases with ⟨e, _⟩ | ⟨ab, ao, ac, ea, _, ha1, _, HCA⟩
  · rw [e] at hlen; simp at hlen; omega
  obtain ⟨n, hn⟩ : ∃ n : Nat, t.2.length = n := ⟨_, rfl⟩
  have HN : Hid (t.2.length = n) := hn
  have HN2 : Hid (s.2.length = n) := by show _ = _; omega
  have hn1 : 1 ≤ n := by omega
  have hn64 : n ≤ 64 := by omega
  have hab : ab < w.heap.size := World.block_lt_of_cell? _ _ (HCA.out 0 (by omega))
  rw [hlen, hn] at ea ha1
  subst ea
  have HCA1 : Hid (∀ i, i < n → w.cell? ⟨ab, ao + i, none⟩ = some (.int .i64 (s.2.getD i 0))) := fun i h => Ints.cellD (n := 0) (c := 0) HCA i (by have := HN2.out; omega)
  obtain ⟨ba, bn, bc, rfl⟩ := hb'.1.shape3
  obtain ⟨ca, cn, cc, rfl⟩ := hb'.2.shape3
  clear ha hb' hb hlen hpos h64 hn HCA
  go_enter Try.func10, Try.ntmps10
  go_wp2_with fail
  refine (copyT_any HA.out).mono ?_
  rintro e w1 ⟨x0, x1, rfl, ho, hb1'⟩
  simp only [World.size_alloc] at ho
  have hs1 := hb1'.size
  simp at hs1
  have HB1 : Hid (Below w.heap.size w w1) := Below.after HB.out hb1'
  obtain ⟨g, cap, ex, hcl, hg2, hg1⟩ := ho.data.form (by have := HN.out; omega)
  rw [HN.out] at ex hcl
  subst ex
  have HO0 : Hid (Own w1 (w.heap.size + 1 + 1 + 1) x0 t.1) := ho.dims
  have HO1 : Hid (Own w1 (w.heap.size + 1 + 1 + 1) (.slice (some ⟨g, 0, none⟩) n cap) t.2) := ho.data
  have HAP : Hid (∀ k, x0.ownBlock = some k → k ≠ g) := fun k hk e => ho.apart k hk (by rw [e]; rfl)
  obtain ⟨xa, xc, rfl⟩ := ho.dims.ints.shape
  have HBA1 := HBA.out.later hb1'
  have HBX1 := HBX.out.later hb1'
  clear ho hb1'
  go_wp2
  have HOS : Hid (Own (w1.alloc (.cells #[.slice xa t.1.length xc, .slice (some ⟨g, 0, none⟩) n cap] 28)) (w.heap.size + 1 + 1 + 1) (.slice (some ⟨g, 0, none⟩) n cap) (mix (fun i => opG (s.2.getD i 0) (t.2.getD i 0)) t.2 0)) := by
    show Own _ _ _ _
    rw [mix_zero]
    exact HO1.out.later ((Below.refl _ _).alloc (Nat.le_refl _) _)
  have HBAV : Hid (Box (w1.alloc (.cells #[.slice xa t.1.length xc, .slice (some ⟨g, 0, none⟩) n cap] 28)) w.heap.size _ _) := HBA1.alloc _
  have HBXV : Hid (Box (w1.alloc (.cells #[.slice xa t.1.length xc, .slice (some ⟨g, 0, none⟩) n cap] 28)) (w.heap.size + 1 + 1) _ _) := HBX1.alloc _
  have HBTV : Hid (Box (w1.alloc (.cells #[.slice xa t.1.length xc, .slice (some ⟨g, 0, none⟩) n cap] 28)) w1.heap.size _ _) := Box.new w1 (.slice xa t.1.length xc) (.slice (some ⟨g, 0, none⟩) n cap)
  have HBV : Hid (Below w.heap.size w (w1.alloc (.cells #[.slice xa t.1.length xc, .slice (some ⟨g, 0, none⟩) n cap] 28))) := HB1.out.alloc (by omega) _
  have hsv : (w1.alloc (.cells #[.slice xa t.1.length xc, .slice (some ⟨g, 0, none⟩) n cap] 28)).heap.size = w1.heap.size + 1 := by simp
  have HO0V : Hid (Own (w1.alloc (.cells #[.slice xa t.1.length xc, .slice (some ⟨g, 0, none⟩) n cap] 28)) (w.heap.size + 1 + 1 + 1) (.slice xa t.1.length xc) t.1) := HO0.out.later ((Below.refl _ _).alloc (Nat.le_refl _) _)
  generalize (w1.alloc (.cells #[.slice xa t.1.length xc, .slice (some ⟨g, 0, none⟩) n cap] 28)) = V at HOS HBAV HBXV HBTV HBV hsv HO0V ⊢
  clear HBA1 HBX1 HO1 HO0
  go_loopw [6] (fun i w' => ∃ j : Nat, j ≤ n ∧ i = .int .i64 j ∧ Own w' (w.heap.size + 1 + 1 + 1) (.slice (some ⟨g, 0, none⟩) n cap) (mix (fun i => opG (s.2.getD i 0) (t.2.getD i 0)) t.2 j) ∧ But g V w') (fun i _ => n - (intOf i).toNat)
  case atStart => exact ⟨0, by omega, rfl, HOS.out, But.refl _ _⟩
  case round =>
    obtain ⟨j, hj, rfl, hO, hbut⟩ := hrel
    have HO3 : Hid (Own wr (w.heap.size + 1 + 1 + 1) (.slice (some ⟨g, 0, none⟩) n cap) (mix (fun i => opG (s.2.getD i 0) (t.2.getD i 0)) t.2 j)) := hO
    have HBT3 : Hid (But g V wr) := hbut
    have hct := (hbut.box HBTV.out (by omega)).c1
    have hct0 := (hbut.box HBTV.out (by omega)).c0
    clear hO hbut
    by_cases hlt : j < n
    · have hca := (HBT3.out.box HBAV.out (by omega)).c1
      have hx : wr.cell? ⟨ab, ao + j, none⟩ = some (.int .i64 (s.2.getD j 0)) := (HBT3.out.cell (by simp; omega)).trans ((HBV.out.cell (by simp; omega)).trans (HCA1.out j hlt))
      have hlt0 : (0 : Int) ≤ (j : Int) := by omega
      have hlt1 : (j : Int) < n := by omega
      obtain ⟨x, hxx⟩ : ∃ x, s.2.getD j 0 = x := ⟨_, rfl⟩
      have HXX : Hid (s.2.getD j 0 = x) := hxx
      rw [hxx] at hx
      clear hxx
      by_cases hp : x ≤ 0
      · obtain ⟨hc, hf, hp'⟩ := HO3.out.put (by rw [mix_length]; exact HN.out) j hlt 0
        have HP : Hid (Own (wr.setCell ⟨g, j, none⟩ (.int .i64 0)) (w.heap.size + 1 + 1 + 1) (.slice (some ⟨g, 0, none⟩) n cap) (mix (fun i => opG (s.2.getD i 0) (t.2.getD i 0)) t.2 (j + 1))) := by
          have e : opG (s.2.getD j 0) (t.2.getD j 0) = 0 := by rw [HXX.out]; exact if_neg (by omega)
          have h2 := mix_set (fun i => opG (s.2.getD i 0) (t.2.getD i 0)) t.2 j
          rw [e] at h2
          rw [h2] at hp'
          exact hp'
        clear hp'
        go_wp2
        go_roundw
        case rel => exact ⟨j + 1, by omega, by go_num, HP.out, HBT3.out.setCell _⟩
        case measure => simp [intOf]; omega
      · have HP : Hid (Own wr (w.heap.size + 1 + 1 + 1) (.slice (some ⟨g, 0, none⟩) n cap) (mix (fun i => opG (s.2.getD i 0) (t.2.getD i 0)) t.2 (j + 1))) := by
          have e : opG (s.2.getD j 0) (t.2.getD j 0) = t.2.getD j 0 := by rw [HXX.out]; exact if_pos (by omega)
          have h2 := mix_skip (fun i => opG (s.2.getD i 0) (t.2.getD i 0)) t.2 j e
          rw [← h2]
          exact HO3.out
        go_wp2
        go_roundw
        case rel => exact ⟨j + 1, by omega, by go_num, HP.out, HBT3.out⟩
        case measure => simp [intOf]; omega
    · have hj' : j = n := by omega
      subst hj'
      have hbx := HBT3.out.box HBXV.out (by omega)
      have l0 := hbx.c0
      have l1 := hbx.c1
      have m0 := hbx.f 0
      have m1 := hbx.f 1
      have HBS : Hid (Box _ _ _ _) := hbx.set (.slice xa t.1.length xc) (.slice (some ⟨g, 0, none⟩) j cap)
      have HO4 : Hid (Own wr (w.heap.size + 1 + 1 + 1) (.slice (some ⟨g, 0, none⟩) j cap) (List.zipWith opG s.2 t.2)) := by
        have h1 := HO3.out
        have h2 := mix_gate s.2 t.2 (by rw [HN.out, HN2.out])
        rw [HN.out] at h2
        rw [h2] at h1
        exact h1
      have HO5 : Hid (Own wr (w.heap.size + 1 + 1 + 1) (.slice xa t.1.length xc) t.1) := HO0V.out.at fun k hk => HBT3.out.block k (HAP.out k hk)
      have HBE : Hid (Below w.heap.size w wr) := HBT3.out.below HBV.out (by omega)
      clear hbx
      go_wp2
      have hr0 := HBS.out.c0
      have hr1 := HBS.out.c1
      refine bodyPost_ret (v := .agg #[.slice xa t.1.length xc, .slice (some ⟨g, 0, none⟩) j cap]) (by simp [results, Try.results10, go_sem, hr0, hr1]) rfl ⟨_, _, rfl, ?_, ?_⟩
      · have h1 : OwnT wr (w.heap.size + 1 + 1 + 1) (.slice xa t.1.length xc) (.slice (some ⟨g, 0, none⟩) j cap) (t.1, List.zipWith opG s.2 t.2) := ⟨HO5.out, HO4.out, fun k hk e => by simp [Value.ownBlock] at e; exact HAP.out k hk e.symm⟩
        exact ((h1.setCell _ _ (by simp)).setCell _ _ (by simp)).mono (by omega)
      · exact (HBE.out.setCell (by simp; omega) _).setCell (by simp; omega) _

theorem fsN_le (l : List Int) (n i : Nat) (hn : 1 ≤ n) (h : i ≤ n) : fsN l i < n := by
  cases i with
  | zero => simp [fsN]; omega
  | succ i => have := (fsN_spec l (i + 1) (by omega)).1; omega
set_option maxRecDepth 100000 in
set_option maxHeartbeats 1000000 in
theorem first_any {b off n cap : Nat} {l : List Int} {w : World} (h1 : 1 ≤ n) (h64 : n ≤ 64) (hcap : n ≤ cap)
    (hc : ∀ i, i < n → w.cell? ⟨b, off + i, none⟩ = some (.int .i64 (l.getD i 0))) :
    Calls Try.prog 34 #[.slice (some ⟨b, off, none⟩) n cap] w fun e w' => e = .returned (.int .i64 (fsN l n)) ∧ ∃ m, w' = w.drewN m := by
  have HC : Hid (∀ i, i < n → w.cell? ⟨b, off + i, none⟩ = some (.int .i64 (l.getD i 0))) := hc
  clear hc
  go_enter Try.func34, Try.ntmps34
  go_wp2
  go_loopw [3, 4] (fun k i w' => ∃ j : Nat, j ≤ n ∧ i = .int .i64 j ∧ k = .int .i64 (fsN l j) ∧ ∃ m, w' = w.drewN m) (fun _ i _ => n - (intOf i).toNat)
  case atStart => exact ⟨0, by omega, rfl, rfl, 0, rfl⟩
  case round =>
    obtain ⟨j, hj, rfl, rfl, m, rfl⟩ := hrel
    by_cases hlt : j < n
    · have hk := fsN_le l n j h1 hj
      have e : fsN l (j + 1) = if l.getD (fsN l j) 0 < l.getD j 0 then j else fsN l j := rfl
      obtain ⟨k, hkk⟩ : ∃ k, fsN l j = k := ⟨_, rfl⟩
      rw [hkk] at hk e ⊢
      have c1 := HC.out j hlt
      have c2 := HC.out k hk
      obtain ⟨x, hx⟩ : ∃ x, l.getD j 0 = x := ⟨_, rfl⟩
      obtain ⟨y, hy⟩ : ∃ x, l.getD k 0 = x := ⟨_, rfl⟩
      rw [hx] at c1 e
      rw [hy] at c2 e
      have z0 : (0 : Int) ≤ (j : Int) := by omega
      have z1 : (j : Int) < n := by omega
      have z2 : (0 : Int) ≤ (k : Int) := by omega
      have z3 : (k : Int) < n := by omega
      have d1 := cell_later (drew_below m) c1
      have d2 := cell_later (drew_below m) c2
      clear hx hy hkk
      by_cases hp : y < x
      · rw [if_pos hp] at e
        have HE : Hid (fsN l (j + 1) = j) := e
        clear e c1 c2
        generalize hW : w.drewN m = W at d1 d2 ⊢
        have hp2 : x > y := hp
        go_wp2_with fail
        go_quiet (fail)
        go_wp2
        subst hW
        go_roundw
        case rel => exact ⟨j + 1, by omega, by go_num, by rw [HE.out], m + nq, World.drewN_drewN _ _ _⟩
        case measure => simp [intOf]; omega
      · rw [if_neg hp] at e
        have HE : Hid (fsN l (j + 1) = k) := e
        clear e c1 c2
        generalize hW : w.drewN m = W at d1 d2 ⊢
        have hp2 : ¬ x > y := hp
        go_wp2_with fail
        go_quiet (fail)
        go_wp2
        subst hW
        go_roundw
        case rel => exact ⟨j + 1, by omega, by go_num, by rw [HE.out], m + nq, World.drewN_drewN _ _ _⟩
        case measure => simp [intOf]; omega
    · have hj' : j = n := by omega
      subst hj'
      go_wp2
      go_ret
      exact ⟨rfl, m, rfl⟩

set_option maxRecDepth 100000 in
set_option maxHeartbeats 1000000 in
theorem less_ok {v : Value} {d : List Int} {w : World} (n : Nat) (h : Ints w v d) (hd : okd d = true) (h1 : 1 ≤ n) (h8 : n ≤ 8) :
    Calls Try.prog 33 #[v, .int .i64 n] w fun e w' => ∃ x, e = .returned x ∧ Own w' w.heap.size x (lesD d n) ∧ Below w.heap.size w w' := by
  obtain ⟨k1, k3, _, _⟩ := okd_parts hd
  obtain ⟨l1, l8⟩ := lastD_bd hd
  have H : Hid (Ints w v d) := h
  obtain ⟨va, vn, vc, rfl⟩ := h.shape3
  obtain ⟨D, hD⟩ : ∃ D, d.length = D + 1 := ⟨d.length - 1, by omega⟩
  have HD : Hid (d.length = D + 1) := hD
  have HLD : Hid (lastD d = d.getD D 0) := by show _ = _; simp [lastD, hD]
  have HLE : Hid (lesD d n = d.set D (d.getD D 0 / n)) := by show _ = _; rw [lesD, HLD.out, hD]; rfl
  rw [HLD.out] at l1 l8
  rw [hD] at k3
  clear h hd hD k1
  go_enter Try.func33, Try.ntmps33
  go_wp2_with fail
  refine (copy_Own H.out).mono ?_
  rintro e w1 ⟨x, rfl, ho, hb⟩
  obtain ⟨g, cap, rfl, hcap, hg1, hg2⟩ := ho.form (by rw [HD.out]; omega)
  rw [HD.out] at hcap ho ⊢
  have HB : Hid (Below w.heap.size w w1) := hb
  obtain ⟨q, hq⟩ : ∃ q, d.getD D 0 = q := ⟨_, rfl⟩
  rw [hq] at l1 l8
  obtain ⟨r, hr⟩ : ∃ r, q / (n : Int) = r := ⟨_, rfl⟩
  have r1 : 0 ≤ r := by rw [← hr]; exact Int.ediv_nonneg (by omega) (by omega)
  have r2 : r ≤ 8 := by rw [← hr]; exact Int.le_trans (Int.ediv_le_self _ (by omega)) l8
  obtain ⟨hc, hf, hp⟩ := ho.put HD.out D (by omega) r
  rw [hq] at hc
  have HP : Hid (Own (w1.setCell ⟨g, D, none⟩ (.int .i64 r)) w.heap.size (.slice (some ⟨g, 0, none⟩) (D + 1) cap) (lesD d n)) := by
    show Own _ _ _ _
    rw [HLE.out, hq, hr]
    exact hp
  have hn0 : ¬ (n : Int) = 0 := by omega
  have hn00 : ¬ n = 0 := by omega
  have hw : IntKind.i64.wrap (((D + 1 : Nat) : Int) - 1) = (D : Int) := by rw [wrap_small _ (by omega) (by omega)]; omega
  have hqt : Int.tdiv q n = r := by rw [← hr]; exact Int.tdiv_eq_ediv_of_nonneg (by omega)
  have z0 : (0 : Int) ≤ (D : Int) := by omega
  have z1 : (D : Int) < ((D + 1 : Nat) : Int) := by omega
  have hwr : IntKind.i64.wrap r = r := wrap_small _ (by omega) (by omega)
  have hwq : IntKind.i64.wrap (q.tdiv n) = r := by rw [hqt]; exact hwr
  clear ho hb hp hq hr
  go_wp2
  go_ret
  exact ⟨_, rfl, HP.out, HB.out.setCell hg1 _⟩
end Go.Proofs.Ytnphfepkjhlalaa
