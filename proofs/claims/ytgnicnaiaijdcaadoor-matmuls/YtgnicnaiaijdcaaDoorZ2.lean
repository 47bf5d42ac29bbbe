/- Contract: the page's One. -/
import Derived.Test.YtgnicnaiaijdcaaDoorZ1
namespace Go.Proofs.YtgnicnaiaijdcaaDoor
set_option linter.unusedVariables false
set_option linter.unusedSimpArgs false
open Go.RowKit

set_option maxRecDepth 100000 in
set_option maxHeartbeats 2000000 in
theorem rone_ok {w : World} (n : Nat) (h1 : 1 ≤ n) (h8 : n ≤ 8) :
    Calls Tryd.prog 16 #[.int .i64 n] w fun e w' => ∃ x0 x1, e = .returned (.agg #[x0, x1]) ∧ OwnT w' w.heap.size x0 x1 ([(n : Int), (n : Int)], onl n) ∧ Below w.heap.size w w' := by
  have HO : Hid (okd [(n : Int), (n : Int)] = true) := okd2_mk ⟨by omega, by omega, by omega, by omega⟩
  obtain ⟨N, hN⟩ : ∃ N, n * n = N := ⟨_, rfl⟩
  have hN64 := mul64 h8 h8
  have hN1 := Nat.mul_pos h1 h1
  rw [hN] at hN64 hN1
  have HN : Hid (n * n = N) := hN
  have HPQ : Hid ((prd [(n : Int), (n : Int)]).toNat = N) := by show _ = _; rw [prd2, hN]
  have hb : Below w.heap.size w ((w.alloc (.cells #[.slice none 0 0, .slice none 0 0] 28)).alloc (.cells #[.int .i64 n, .int .i64 n] 3)) := ((Below.refl _ _).alloc (Nat.le_refl _) _).alloc (by simp) _
  have HB : Hid (Below w.heap.size w ((w.alloc (.cells #[.slice none 0 0, .slice none 0 0] 28)).alloc (.cells #[.int .i64 n, .int .i64 n] 3))) := hb
  have HBX : Hid (Box ((w.alloc (.cells #[.slice none 0 0, .slice none 0 0] 28)).alloc (.cells #[.int .i64 n, .int .i64 n] 3)) w.heap.size (.slice none 0 0) (.slice none 0 0)) := (Box.new w _ _).alloc _
  have HI : Hid (Ints ((w.alloc (.cells #[.slice none 0 0, .slice none 0 0] 28)).alloc (.cells #[.int .i64 n, .int .i64 n] 3)) (.slice (some ⟨w.heap.size + 1, 0, none⟩) 2 2) [(n : Int), (n : Int)]) := by
    have := two_ints (w.alloc (.cells #[.slice none 0 0, .slice none 0 0] 28)) n n
    rw [World.size_alloc] at this
    exact this
  clear hb hN
  go_enter Tryd.func16, Tryd.ntmps16
  go_wp2_with fail
  refine (rfill_own 0 HI.out HO.out).mono ?_
  rw [HPQ.out]
  rintro e w2 ⟨x0, x1, rfl, ho, hb2⟩
  have hs := hb2.size
  simp at hs
  obtain ⟨xg, xc, rfl, hxc, hxg1, hxg2⟩ := ho.dims.form (by simp)
  simp only [World.size_alloc] at hxg1
  obtain ⟨b1, cap, e1, hcap, hb1, hb12⟩ := ho.data.form (by simp; omega)
  simp only [List.length_replicate, World.size_alloc] at e1 hcap hb1
  subst e1
  have hxb : xg ≠ b1 := fun e => ho.apart xg rfl (by rw [e]; rfl)
  have HB2 : Hid (Below w.heap.size w (w2.alloc (.cells #[.slice (some ⟨xg, 0, none⟩) 2 xc, .slice (some ⟨b1, 0, none⟩) N cap] 28))) := Below.push (Below.after HB.out hb2) _
  have HR2 : Hid (Box (w2.alloc (.cells #[.slice (some ⟨xg, 0, none⟩) 2 xc, .slice (some ⟨b1, 0, none⟩) N cap] 28)) w.heap.size (.slice none 0 0) (.slice none 0 0)) := (HBX.out.later hb2).alloc _
  have HX2 : Hid (Box (w2.alloc (.cells #[.slice (some ⟨xg, 0, none⟩) 2 xc, .slice (some ⟨b1, 0, none⟩) N cap] 28)) w2.heap.size (.slice (some ⟨xg, 0, none⟩) 2 xc) (.slice (some ⟨b1, 0, none⟩) N cap)) := Box.new _ _ _
  have HO2 : Hid (Own (w2.alloc (.cells #[.slice (some ⟨xg, 0, none⟩) 2 xc, .slice (some ⟨b1, 0, none⟩) N cap] 28)) (w.heap.size + 1) (.slice (some ⟨xg, 0, none⟩) 2 xc) [(n : Int), (n : Int)]) := (ho.dims.mono (by simp)).later (Below.push (Below.refl _ _) _)
  have HK2 : Hid (Own (w2.alloc (.cells #[.slice (some ⟨xg, 0, none⟩) 2 xc, .slice (some ⟨b1, 0, none⟩) N cap] 28)) (w.heap.size + 1) (.slice (some ⟨b1, 0, none⟩) N cap) (onp n 0)) := by
    show Own _ _ _ _
    rw [onp_zero, HN.out]
    exact (ho.data.mono (by simp)).later (Below.push (Below.refl _ _) _)
  clear ho hb2 HB HBX HI
  go_wp2
  generalize (w2.alloc (.cells #[.slice (some ⟨xg, 0, none⟩) 2 xc, .slice (some ⟨b1, 0, none⟩) N cap] 28)) = W at HB2 HR2 HX2 HO2 HK2 ⊢
  go_loopw [4] (fun i w' => ∃ j : Nat, j ≤ n ∧ i = .int .i64 j ∧ Own w' (w.heap.size + 1) (.slice (some ⟨b1, 0, none⟩) N cap) (onp n j) ∧ But b1 W w') (fun i _ => n - (intOf i).toNat)
  case atStart => exact ⟨0, by omega, rfl, HK2.out, But.refl _ _⟩
  case round =>
    obtain ⟨j, hj, rfl, hB, hbu⟩ := hrel
    have HKR : Hid (Own wr (w.heap.size + 1) (.slice (some ⟨b1, 0, none⟩) N cap) (onp n j)) := hB
    have HBU : Hid (But b1 W wr) := hbu
    clear hB hbu
    by_cases hlt : j < n
    · have hiq : j * n + j < n * n := rc_lt hlt hlt
      rw [HN.out] at hiq
      have HS : Hid ((onp n j).set (j * n + j) 1 = onp n (j + 1)) := onp_set n j hlt
      have u0 := (HBU.out.box HX2.out (by omega)).c1
      have y0 : (j : Int) * n = ((j * n : Nat) : Int) := by simp
      obtain ⟨jn, hjn⟩ : ∃ x, j * n = x := ⟨_, rfl⟩
      rw [hjn] at hiq HS y0
      have z0 : IntKind.i64.wrap ((j : Int) * n) = (jn : Int) := by rw [y0]; exact wrap_small _ (by omega) (by omega)
      have z1 : IntKind.i64.wrap ((jn : Int) + j) = ((jn + j : Nat) : Int) := by rw [wrap_small _ (by omega) (by omega)]; simp
      obtain ⟨T, hT⟩ : ∃ x, jn + j = x := ⟨_, rfl⟩
      rw [hT] at hiq HS z1
      have z4 : (0 : Int) ≤ (T : Int) := by omega
      have z5 : (T : Int) < N := by omega
      obtain ⟨f1, f2, f3⟩ := HKR.out.put (by rw [onp_length, HN.out]) T hiq 1
      rw [HS.out] at f3
      have HP : Hid (Own (wr.setCell ⟨b1, T, none⟩ (.int .i64 1)) (w.heap.size + 1) (.slice (some ⟨b1, 0, none⟩) N cap) (onp n (j + 1))) := f3
      clear hjn hT y0 f3
      go_wp2
      go_roundw
      case rel => exact ⟨j + 1, by omega, by go_num, HP.out, HBU.out.setCell _⟩
      case measure => simp [intOf]; omega
    · have hj' : j = n := by omega
      subst hj'
      have hX8 := HBU.out.box HX2.out (by omega)
      have t0 := hX8.c0
      have t1 := hX8.c1
      have hbx := HBU.out.box HR2.out (by omega)
      have l0 := hbx.c0
      have l1 := hbx.c1
      have m0 := hbx.f 0
      have m1 := hbx.f 1
      have HBS : Hid (Box _ _ _ _) := hbx.set (.slice (some ⟨xg, 0, none⟩) 2 xc) (.slice (some ⟨b1, 0, none⟩) N cap)
      have HO8 : Hid (Own wr (w.heap.size + 1) (.slice (some ⟨xg, 0, none⟩) 2 xc) [(j : Int), (j : Int)]) := HO2.out.at fun k hk => by
        simp [Value.ownBlock] at hk
        exact HBU.out.block k (by omega)
      have HK8 : Hid (Own wr (w.heap.size + 1) (.slice (some ⟨b1, 0, none⟩) N cap) (onl j)) := by
        have h := HKR.out
        rw [onp_all] at h
        exact h
      have HBW : Hid (Below w.heap.size w wr) := HBU.out.below HB2.out (by omega)
      clear hbx hX8
      go_wp2
      have hr0 := HBS.out.c0
      have hr1 := HBS.out.c1
      refine bodyPost_ret (v := .agg #[.slice (some ⟨xg, 0, none⟩) 2 xc, .slice (some ⟨b1, 0, none⟩) N cap]) (by simp [results, Tryd.results16, go_sem, hr0, hr1]) rfl ⟨_, _, rfl, ?_, ?_⟩
      · have h1 : OwnT wr (w.heap.size + 1) (.slice (some ⟨xg, 0, none⟩) 2 xc) (.slice (some ⟨b1, 0, none⟩) N cap) ([(j : Int), (j : Int)], onl j) := ⟨HO8.out, HK8.out, fun k hk e => by simp [Value.ownBlock] at hk e; omega⟩
        exact ((h1.setCell _ _ (by simp)).setCell _ _ (by simp)).mono (by omega)
      · exact (HBW.out.setCell (by simp) _).setCell (by simp) _
end Go.Proofs.YtgnicnaiaijdcaaDoor
