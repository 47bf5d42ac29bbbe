/- Contract: graduslaw5's wakes. -/
import Derived.Test.YtnphfepkjhlalaaG8
import Derived.Test.YtnphfepkjhlalaaAd
namespace Go.Proofs.Ytnphfepkjhlalaa
set_option linter.unusedVariables false
set_option linter.unusedSimpArgs false
open Go.RowKit

set_option maxRecDepth 100000 in
set_option maxHeartbeats 4000000 in
theorem wakes5_any {w : World} : Calls Try.prog 22 #[] w fun e w' => e = .returned (.bool true) ∧ Below w.heap.size w w' := by
  obtain ⟨u, hu⟩ : ∃ u, mxR ([3], [1, 3, 3]) 3 = u := ⟨_, rfl⟩
  obtain ⟨v, hv⟩ : ∃ v, pkR ([3], [1, 3, 3]) ([1], [9]) 3 = v := ⟨_, rfl⟩
  have HO : Hid (fwE ([3], [1, 3, 3]) 3 = 0 ∧ mxR ([3], [1, 3, 3]) 3 = u) := ⟨by decide +kernel, hu⟩
  have HE : Hid (pkE ([3], [1, 3, 3]) ([1], [9]) 3 = 0 ∧ pkR ([3], [1, 3, 3]) ([1], [9]) 3 = v) := ⟨by decide +kernel, hv⟩
  have h1 : u.2 = [3] := by rw [← hu]; decide +kernel
  have h2 : v.2 = [0, 9, 0] := by rw [← hv]; decide +kernel
  clear hu hv
  have HMU : Hid (u.2 = [3]) := h1
  have HMV : Hid (v.2 = [0, 9, 0]) := h2
  clear h1 h2
  obtain ⟨U, hU⟩ : ∃ U, U = ((w.alloc (.cells #[.int .i64 3] 3)).alloc (.cells #[.int .i64 1, .int .i64 3, .int .i64 3] 3)).alloc (.cells #[.slice (some ⟨w.heap.size, 0, none⟩) 1 1, .slice (some ⟨w.heap.size + 1, 0, none⟩) 3 3] 28) := ⟨_, rfl⟩
  have HA : Hid (Tens U (.slice (some ⟨w.heap.size, 0, none⟩) 1 1) (.slice (some ⟨w.heap.size + 1, 0, none⟩) 3 3) ([3], [1, 3, 3])) := by
    show Tens _ _ _ _
    rw [hU]
    exact (lit_tens w [3] [1, 3, 3] 1 3 rfl rfl (by decide) (by decide)).later (Below.push (Below.refl _ _) _)
  have HBA : Hid (Box U (w.heap.size + 1 + 1) (.slice (some ⟨w.heap.size, 0, none⟩) 1 1) (.slice (some ⟨w.heap.size + 1, 0, none⟩) 3 3)) := by
    show Box _ _ _ _
    have := Box.new ((w.alloc (.cells #[.int .i64 3] 3)).alloc (.cells #[.int .i64 1, .int .i64 3, .int .i64 3] 3)) (.slice (some ⟨w.heap.size, 0, none⟩) 1 1) (.slice (some ⟨w.heap.size + 1, 0, none⟩) 3 3)
    simp only [World.size_alloc] at this
    rw [hU]
    exact this
  have HB : Hid (Below w.heap.size w U) := by show Below _ _ _; rw [hU]; exact Below.push (Below.push (Below.push (Below.refl _ _) _) _) _
  go_enter Try.func22, Try.ntmps22
  go_wp2_with fail
  rw [← hU]
  clear hU
  refine (max_to 3 0 u HA.out HO.out.1 HO.out.2).mono ?_
  rintro e w2 ⟨x0, x1, rfl, ho, hb2⟩
  obtain ⟨xa, xn, xc, rfl⟩ := ho.dims.ints.shape3
  obtain ⟨ya, yn, yc, rfl⟩ := ho.data.ints.shape3
  obtain ⟨V, hV⟩ : ∃ V, V = w2.alloc (.cells #[.slice xa xn xc, .slice ya yn yc] 28) := ⟨_, rfl⟩
  have HV : Hid (Below U.heap.size U V) := by show Below _ _ _; rw [hV]; exact Below.push hb2 _
  have HL : Hid (Live V [(w2.heap.size, .slice xa xn xc, .slice ya yn yc, u)]) := by show Live _ _; rw [hV]; exact Live.push (L := []) trivial ho.tens
  have hsV : V.heap.size = w2.heap.size + 1 := by rw [hV]; simp
  have q0 := (HBA.out.later HV.out).c0
  have q1 := (HBA.out.later HV.out).c1
  rw [hV] at q0 q1
  obtain ⟨W, hW⟩ : ∃ W, W = (V.alloc (.cells #[.int .i64 1] 3)).alloc (.cells #[.int .i64 9] 3) := ⟨_, rfl⟩
  have HW : Hid (Below V.heap.size V W) := by show Below _ _ _; rw [hW]; exact Below.push (Below.push (Below.refl _ _) _) _
  have HT : Hid (Tens W (.slice (some ⟨w2.heap.size + 1, 0, none⟩) 1 1) (.slice (some ⟨w2.heap.size + 1 + 1, 0, none⟩) 1 1) ([1], [9])) := by
    show Tens _ _ _ _
    have := lit_tens V [1] [9] 1 1 rfl rfl (by decide) (by decide)
    rw [hsV] at this
    rw [hW]
    exact this
  rw [hV] at hW
  clear ho hb2
  go_wp2_with fail
  rw [← hW]
  clear hW q0 q1 hV hsV
  refine (pick_to 3 0 v (HA.out.later (Below.after HV.out HW.out)) HT.out HE.out.1 HE.out.2).mono ?_
  rintro e w3 ⟨x0, x1, rfl, ho, hb3⟩
  obtain ⟨za, zn, zc, rfl⟩ := ho.dims.ints.shape3
  obtain ⟨va, vn, vc, rfl⟩ := ho.data.ints.shape3
  obtain ⟨X, hX⟩ : ∃ X, X = w3.alloc (.cells #[.slice za zn zc, .slice va vn vc] 28) := ⟨_, rfl⟩
  obtain ⟨Y, hY⟩ : ∃ Y, Y = X.alloc (.cells #[.int .i64 3] 3) := ⟨_, rfl⟩
  have hsX : X.heap.size = w3.heap.size + 1 := by rw [hX]; simp
  have HX : Hid (Below w3.heap.size w3 X) := by show Below _ _ _; rw [hX]; exact Below.push (Below.refl _ _) _
  have HXV : Hid (Below V.heap.size V X) := Below.after HW.out (Below.after hb3 HX.out)
  have HXY : Hid (Below X.heap.size X Y) := by show Below _ _ _; rw [hY]; exact Below.push (Below.refl _ _) _
  have HLX : Hid (Live Y [(w2.heap.size, .slice xa xn xc, .slice ya yn yc, u)]) := (HL.out.later HXV.out).later HXY.out
  have HLY : Hid (Live Y [(w3.heap.size, .slice za zn zc, .slice va vn vc, v)]) := by
    show Live _ _
    refine Live.later HXY.out ?_
    rw [hX]
    exact Live.push (L := []) trivial ho.tens
  have HZ : Hid (Ints Y (.slice (some ⟨w3.heap.size + 1, 0, none⟩) 1 1) [3]) := by
    show Ints _ _ _
    have := (Blk.newer X [3] (w3.heap.size + 1) (by omega)).ints 1 1 rfl (Nat.le_refl _) (by decide)
    rw [hY]
    exact this
  have HB3 : Hid (Below w.heap.size w Y) := Below.after (Below.after HB.out (Below.after HV.out HXV.out)) HXY.out
  have k0 := (HL.out.later HXV.out).1.box.c0
  have k1 := (HL.out.later HXV.out).1.box.c1
  rw [hX] at k0 k1 hY
  clear ho hb3 hX hsX
  go_wp2_with (go_at_call 11; refine (num_any _ _).mono ?_; rintro e w' ⟨rfl, rfl⟩)
  rw [← hY]
  clear hY k0 k1
  refine (eqn_bl HLX.out.1.ten.2 HZ.out HMU.out).mono ?_
  rintro e w9 ⟨rfl, hb9⟩
  have HB9 : Hid (Below w.heap.size w w9) := Below.after HB3.out hb9
  have HL9 : Hid (Live w9 [(w3.heap.size, .slice za zn zc, .slice va vn vc, v)]) := HLY.out.later hb9
  have k0 := HL9.out.1.box.c0
  have k1 := HL9.out.1.box.c1
  have HY9 : Hid (Ints (w9.alloc (.cells #[.int .i64 0, .int .i64 9, .int .i64 0] 3)) (.slice (some ⟨w9.heap.size, 0, none⟩) 3 3) [0, 9, 0]) := (Blk.new w9 [0, 9, 0]).ints 3 3 rfl (Nat.le_refl _) (by decide)
  clear hb9
  go_wp2_with fail
  refine (eqn_bl (HL9.out.1.ten.2.later (Below.push (Below.refl _ _) _)) HY9.out HMV.out).mono ?_
  rintro e w10 ⟨rfl, hb10⟩
  have HB10 : Hid (Below w.heap.size w w10) := Below.after (Below.push HB9.out _) hb10
  clear hb10
  go_wp2
  go_ret
  exact ⟨rfl, HB10.out⟩
end Go.Proofs.Ytnphfepkjhlalaa
