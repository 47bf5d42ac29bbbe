/- Contract: the law's square. -/
import Derived.Test.YtgnicnaiaijdcaaDoorZ4
namespace Go.Proofs.YtgnicnaiaijdcaaDoor
set_option linter.unusedVariables false
set_option linter.unusedSimpArgs false
open Go.RowKit

theorem rg_rep (N : Nat) : Rg (List.replicate N 3) := by
  intro x hx
  rw [List.eq_of_mem_replicate hx]
  decide

set_option maxRecDepth 100000 in
set_option maxHeartbeats 4000000 in
theorem square_ok {a0 a1 : Value} {s : Ten} {w : World} (n : Nat) (h1 : 1 ≤ n) (h8 : n ≤ 8) (ha : Tens w a0 a1 s) :
    Calls Tryd.prog 22 #[.agg #[a0, a1], .int .i64 n] w fun e w' => ∃ x0 x1 X, e = .returned (.agg #[x0, x1]) ∧ X.length = n * n ∧ Rg X ∧ OwnT w' w.heap.size x0 x1 ([(n : Int), (n : Int)], X) ∧ Below w.heap.size w w' := by
  have HO : Hid (okd [(n : Int), (n : Int)] = true) := okd2_mk ⟨by omega, by omega, by omega, by omega⟩
  obtain ⟨N, hN⟩ : ∃ N, n * n = N := ⟨_, rfl⟩
  have hN64 := mul64 h8 h8
  have hN1 := Nat.mul_pos h1 h1
  rw [hN] at hN64 hN1
  have HN : Hid (n * n = N) := hN
  have hnn : IntKind.i64.wrap ((n : Int) * n) = (N : Int) := by
    have e : (n : Int) * n = ((n * n : Nat) : Int) := by simp
    rw [e, hN]
    exact wrap_small _ (by omega) (by omega)
  have HPQ : Hid ((prd [(n : Int), (n : Int)]).toNat = N) := by show _ = _; rw [prd2, hN]
  obtain ⟨aa, an, ac, rfl⟩ := ha.1.shape3
  obtain ⟨ba, bc, rfl⟩ := ha.2.shape
  obtain ⟨K, hK⟩ : ∃ K, s.2.length = K := ⟨_, rfl⟩
  have hKb : K ≤ 17592186044416 := by
    have := ha.2.len
    unfold big at this
    omega
  have HCD : Hid (∀ i, i < K → ∃ b o, ba = some ⟨b, o, none⟩ ∧ w.cell? ⟨b, o + i, none⟩ = some (.int .i64 (s.2.getD i 0))) := fun i hi => by
    rcases ha.2.cases with ⟨e, _⟩ | ⟨b, o, c, e, h0, h1, h2, HC⟩
    · rw [e] at hK; simp at hK; omega
    · simp only [Value.slice.injEq] at e
      obtain ⟨rfl, _, _⟩ := e
      exact ⟨b, o, rfl, Ints.cellD (n := 0) (c := 0) HC i (by rw [hK]; exact hi)⟩
  rw [hK] at ha ⊢
  have HA : Hid (Tens w (.slice aa an ac) (.slice ba K bc) s) := ha
  have hbc : K ≤ bc := by
    rcases ha.2.cases with ⟨e, _⟩ | ⟨b, o, c, e, h0, h1, h2, HC⟩
    · rw [e] at hK; simp at hK; omega
    · simp only [Value.slice.injEq] at e
      omega
  obtain ⟨U, hU⟩ : ∃ U, U = (((w.alloc (.cells #[(.slice aa an ac), (.slice ba K bc)] 28)).alloc (.cells #[.slice none 0 0, .slice none 0 0] 28)).alloc (.cells #[.int .i64 n, .int .i64 n] 3)) := ⟨_, rfl⟩
  have HB : Hid (Below w.heap.size w U) := by show Below _ _ _; rw [hU]; exact (((Below.refl _ _).alloc (Nat.le_refl _) _).alloc (by simp) _).alloc (by simp; omega) _
  have HBA : Hid (Box U w.heap.size (.slice aa an ac) (.slice ba K bc)) := by show Box _ _ _ _; rw [hU]; exact ((Box.new w _ _).alloc _).alloc _
  have HBR : Hid (Box U (w.heap.size + 1) (.slice none 0 0) (.slice none 0 0)) := by
    show Box _ _ _ _
    have := (Box.new (w.alloc (.cells #[(.slice aa an ac), (.slice ba K bc)] 28)) (.slice none 0 0) (.slice none 0 0)).alloc (.cells #[.int .i64 n, .int .i64 n] 3)
    simp only [World.size_alloc] at this
    rw [hU]
    exact this
  have HI : Hid (Ints U (.slice (some ⟨w.heap.size + 1 + 1, 0, none⟩) 2 2) [(n : Int), (n : Int)]) := by
    show Ints _ _ _
    have := two_ints ((w.alloc (.cells #[(.slice aa an ac), (.slice ba K bc)] 28)).alloc (.cells #[.slice none 0 0, .slice none 0 0] 28)) n n
    simp only [World.size_alloc] at this
    rw [hU]
    exact this
  have hU0 : U.heap.size = w.heap.size + 1 + 1 + 1 := by rw [hU]; simp
  clear ha hN hK
  go_enter Tryd.func22, Tryd.ntmps22
  go_wp2_with fail
  rw [← hU]
  clear hU
  refine (rfill_own 3 HI.out HO.out).mono ?_
  rw [HPQ.out]
  rintro e w2 ⟨x0, x1, rfl, ho, hb2⟩
  have hs := hb2.size
  obtain ⟨xg, xc, rfl, hxc, hxg1, hxg2⟩ := ho.dims.form (by simp)
  obtain ⟨b1, cap, e1, hcap, hb1, hb12⟩ := ho.data.form (by simp; omega)
  simp only [List.length_replicate] at e1 hcap
  subst e1
  have hxb : xg ≠ b1 := fun e => ho.apart xg rfl (by rw [e]; rfl)
  have HB2 : Hid (Below w.heap.size w (w2.alloc (.cells #[(.slice (some ⟨xg, 0, none⟩) 2 xc), (.slice (some ⟨b1, 0, none⟩) N cap)] 28))) := Below.push (Below.after HB.out hb2) _
  have HA2 : Hid (Box (w2.alloc (.cells #[(.slice (some ⟨xg, 0, none⟩) 2 xc), (.slice (some ⟨b1, 0, none⟩) N cap)] 28)) w.heap.size (.slice aa an ac) (.slice ba K bc)) := (HBA.out.later hb2).alloc _
  have HR2 : Hid (Box (w2.alloc (.cells #[(.slice (some ⟨xg, 0, none⟩) 2 xc), (.slice (some ⟨b1, 0, none⟩) N cap)] 28)) (w.heap.size + 1) (.slice none 0 0) (.slice none 0 0)) := (HBR.out.later hb2).alloc _
  have HX2 : Hid (Box (w2.alloc (.cells #[(.slice (some ⟨xg, 0, none⟩) 2 xc), (.slice (some ⟨b1, 0, none⟩) N cap)] 28)) w2.heap.size (.slice (some ⟨xg, 0, none⟩) 2 xc) (.slice (some ⟨b1, 0, none⟩) N cap)) := Box.new _ _ _
  have HO2 : Hid (Own (w2.alloc (.cells #[(.slice (some ⟨xg, 0, none⟩) 2 xc), (.slice (some ⟨b1, 0, none⟩) N cap)] 28)) U.heap.size (.slice (some ⟨xg, 0, none⟩) 2 xc) [(n : Int), (n : Int)]) := ho.dims.later (Below.push (Below.refl _ _) _)
  have HK2 : Hid (Own (w2.alloc (.cells #[(.slice (some ⟨xg, 0, none⟩) 2 xc), (.slice (some ⟨b1, 0, none⟩) N cap)] 28)) U.heap.size (.slice (some ⟨b1, 0, none⟩) N cap) (List.replicate N 3)) := ho.data.later (Below.push (Below.refl _ _) _)
  clear ho hb2 HB HBA HBR HI
  go_wp2
  generalize (w2.alloc (.cells #[(.slice (some ⟨xg, 0, none⟩) 2 xc), (.slice (some ⟨b1, 0, none⟩) N cap)] 28)) = W at HB2 HA2 HR2 HX2 HO2 HK2 ⊢
  obtain ⟨T, hT⟩ : ∃ T, w2.heap.size = T := ⟨_, rfl⟩
  rw [hT] at HX2 hs hxg2 hb12 ⊢
  clear hT
  go_loopw [6] (fun i w' => ∃ j : Nat, j ≤ N ∧ i = .int .i64 j ∧ (∃ X, X.length = N ∧ Rg X ∧ Own w' U.heap.size (.slice (some ⟨b1, 0, none⟩) N cap) X) ∧ But b1 W w') (fun i _ => N - (intOf i).toNat)
  case atStart => exact ⟨0, by omega, rfl, ⟨_, by simp, rg_rep N, HK2.out⟩, But.refl _ _⟩
  case round =>
    obtain ⟨j, hj, rfl, ⟨X, hXl, hXr, hX⟩, hbu⟩ := hrel
    have HKR : Hid (Own wr U.heap.size (.slice (some ⟨b1, 0, none⟩) N cap) X) := hX
    have HXR : Hid (X.length = N ∧ Rg X) := ⟨hXl, hXr⟩
    have HBU : Hid (But b1 W wr) := hbu
    have hA3 := hbu.box HA2.out (by omega)
    have u1 := hA3.c1
    have HEND : Hid (∀ (X' : List Int), X' = X → True) := fun _ _ => trivial
    clear hX hXl hXr hbu hA3 HEND
    by_cases hlt : j < N ∧ 0 < K
    · obtain ⟨hlt, hK0⟩ := hlt
      obtain ⟨R, hR⟩ : ∃ R, j % K = R := ⟨_, rfl⟩
      have hRK : R < K := by rw [← hR]; exact Nat.mod_lt _ hK0
      obtain ⟨ab, ao, rfl, hcd⟩ := HCD.out R hRK
      have hab : ab < w.heap.size := World.block_lt_of_cell? _ _ hcd
      have v0 : wr.cell? ⟨ab, ao + R, none⟩ = some (.int .i64 (s.2.getD R 0)) := (HBU.out.cell (by simp; omega)).trans (cell_later HB2.out hcd)
      have u2 := (HBU.out.box HX2.out (by omega)).c1
      have e1 : (j : Int).tmod (K : Int) = (R : Int) := by
        rw [Int.tmod_eq_emod_of_nonneg (by omega), ← hR]
        simp
      have e2 : IntKind.i64.wrap ((j : Int).tmod (K : Int)) = (R : Int) := by rw [e1]; exact wrap_small _ (by omega) (by omega)
      have e3 : IntKind.i64.wrap (R : Int) = (R : Int) := wrap_small _ (by omega) (by omega)
      have r0 : ¬ K = 0 := by omega
      have r1 : ¬ (K : Int) = 0 := by omega
      have r2 : ((K : Int) == 0) = false := by simp; omega
      have r3 : (K == 0) = false := by simp; omega
      have r4 : decide ((K : Int) = 0) = false := by simp; omega
      have z1 : (0 : Int) ≤ (R : Int) := by omega
      have z2 : (R : Int) < K := by omega
      obtain ⟨y, hy⟩ : ∃ y, s.2.getD R 0 = y := ⟨_, rfl⟩
      rw [hy] at v0
      obtain ⟨f1, f2, f3⟩ := HKR.out.put HXR.out.1 j hlt (wrap64 (y + j))
      have HP : Hid (Own (wr.setCell ⟨b1, j, none⟩ (.int .i64 (wrap64 (y + j)))) U.heap.size (.slice (some ⟨b1, 0, none⟩) N cap) (X.set j (wrap64 (y + j)))) := f3
      have HRX : Hid ((X.set j (wrap64 (y + j))).length = N ∧ Rg (X.set j (wrap64 (y + j)))) := ⟨by rw [List.length_set]; exact HXR.out.1, HXR.out.2.set j _ (wrap64_in _)⟩
      have n1 : b1 ≠ w.heap.size := by omega
      have n2 : w.heap.size ≠ b1 := by omega
      have n3 : b1 ≠ T := by omega
      have n4 : T ≠ b1 := by omega
      have n5 : b1 ≠ ab := by omega
      have n6 : ab ≠ b1 := by omega
      have g1 : decide ((j : Int) < N) = true := by simp; omega
      have g2 : decide (0 < (K : Int)) = true := by simp; omega
      clear f3 hy hcd hR
      go_wp2_with fail
      go_region_held3 (fun w' => w'.cell? ⟨w.heap.size, 1, none⟩ = some (.slice (some ⟨ab, ao, none⟩) K bc) ∧ w'.cell? ⟨T, 1, none⟩ = some (.slice (some ⟨b1, 0, none⟩) N cap) ∧ w'.cell? ⟨ab, ao + R, none⟩ = some (.int .i64 y)) (go_keep) (fail)
      clear v0 u1 u2 f1 f2
      go_wp2
      go_roundw
      case rel => exact ⟨j + 1, by omega, by go_num, ⟨_, HRX.out.1, HRX.out.2, HP.out.drew⟩, (HBU.out.setCell _).drew⟩
      case measure => simp [intOf]; omega
    · have hX8 := HBU.out.box HX2.out (by omega)
      have t0 := hX8.c0
      have t1 := hX8.c1
      have hbx := HBU.out.box HR2.out (by omega)
      have l0 := hbx.c0
      have l1 := hbx.c1
      have m0 := hbx.f 0
      have m1 := hbx.f 1
      have HBS : Hid (Box _ _ _ _) := hbx.set (.slice (some ⟨xg, 0, none⟩) 2 xc) (.slice (some ⟨b1, 0, none⟩) N cap)
      have HO8 : Hid (Own wr U.heap.size (.slice (some ⟨xg, 0, none⟩) 2 xc) [(n : Int), (n : Int)]) := HO2.out.at fun k hk => by
        simp [Value.ownBlock] at hk
        exact HBU.out.block k (by omega)
      have HBW : Hid (Below w.heap.size w wr) := HBU.out.below HB2.out (by omega)
      clear hbx hX8
      by_cases hlj : j < N
      · have hK0 : K = 0 := by omega
        subst hK0
        have g1 : decide ((j : Int) < N) = true := by simp; omega
        go_wp2
        have hr0 := HBS.out.c0
        have hr1 := HBS.out.c1
        refine bodyPost_ret (v := .agg #[(.slice (some ⟨xg, 0, none⟩) 2 xc), (.slice (some ⟨b1, 0, none⟩) N cap)]) (by simp [results, Tryd.results22, go_sem, hr0, hr1]) rfl ⟨_, _, X, rfl, by rw [HN.out]; exact HXR.out.1, HXR.out.2, ?_, ?_⟩
        · have h1 : OwnT wr U.heap.size (.slice (some ⟨xg, 0, none⟩) 2 xc) (.slice (some ⟨b1, 0, none⟩) N cap) ([(n : Int), (n : Int)], X) := ⟨HO8.out, HKR.out, fun k hk e => by simp [Value.ownBlock] at hk e; omega⟩
          exact (h1.set2 _ _ (by omega)).mono (by omega)
        · exact (HBW.out.setCell (by simp) _).setCell (by simp) _
      · have g1 : decide ((j : Int) < N) = false := by simp; omega
        go_wp2
        have hr0 := HBS.out.c0
        have hr1 := HBS.out.c1
        refine bodyPost_ret (v := .agg #[(.slice (some ⟨xg, 0, none⟩) 2 xc), (.slice (some ⟨b1, 0, none⟩) N cap)]) (by simp [results, Tryd.results22, go_sem, hr0, hr1]) rfl ⟨_, _, X, rfl, by rw [HN.out]; exact HXR.out.1, HXR.out.2, ?_, ?_⟩
        · have h1 : OwnT wr U.heap.size (.slice (some ⟨xg, 0, none⟩) 2 xc) (.slice (some ⟨b1, 0, none⟩) N cap) ([(n : Int), (n : Int)], X) := ⟨HO8.out, HKR.out, fun k hk e => by simp [Value.ownBlock] at hk e; omega⟩
          exact (h1.set2 _ _ (by omega)).mono (by omega)
        · exact (HBW.out.setCell (by simp) _).setCell (by simp) _
end Go.Proofs.YtgnicnaiaijdcaaDoor
