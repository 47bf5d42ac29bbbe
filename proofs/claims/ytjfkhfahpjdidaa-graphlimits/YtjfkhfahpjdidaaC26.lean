/- Carried: A3, A4, A5, A6, B1, B2. -/
import Derived.Test.YtjfkhfahpjdidaaC25
namespace Go.Proofs.Ytjfkhfahpjdidaa
set_option linter.unusedVariables false
set_option linter.unusedSimpArgs false
set_option maxRecDepth 100000
open Go.RowKit

set_option maxHeartbeats 4000000 in
theorem value_k8 {vd a0 a1 : Value} {d : List Int} {s : Ten} {w : World} {P off c : Nat} (n : Int) (hc : 1 ≤ c) (ha : Tens w a0 a1 s) (p0 : w.cell? ⟨P, off, none⟩ = some a0) (p1 : w.cell? ⟨P, off + 1, none⟩ = some a1) (hd : Ints w vd d) :
    Calls Try.prog 48 #[.int .i64 8, .int .i64 n, vd, .slice (some ⟨P, off, none⟩) 1 c] w fun e w' => ∃ x0 x1, e = .returned (.tuple #[.agg #[x0, x1], .int .i64 (vE 8 n d s no)]) ∧ OwnT w' w.heap.size x0 x1 (vR 8 n d s no) ∧ Below w.heap.size w w' := by
  obtain ⟨da, dn, dc, rfl⟩ := hd.shape3
  obtain ⟨aa, an, ac, rfl⟩ := ha.1.shape3
  obtain ⟨ba, bn, bc, rfl⟩ := ha.2.shape3
  have hne : ¬ w.heap.size = P := by have := cell_lt p0; omega
  have hne2 : ¬ P = w.heap.size := fun h => hne h.symm
  obtain ⟨U, hU⟩ : ∃ U, U = w.alloc (.cells #[.slice none 0 0, .slice none 0 0] 70) := ⟨_, rfl⟩
  have hb : Below w.heap.size w U := by rw [hU]; exact (Below.refl _ _).alloc (Nat.le_refl _) _
  have HB : Hid (Below w.heap.size w U) := hb
  have HD : Hid (Ints U (.slice da dn dc) d) := hd.later hb
  have HBX : Hid (Box U w.heap.size (.slice none 0 0) (.slice none 0 0)) := by show Box _ _ _ _; rw [hU]; exact Box.new w _ _
  have hsU : w.heap.size + 1 ≤ U.heap.size := by rw [hU]; simp
  have HA : Hid (Tens U (.slice aa an ac) (.slice ba bn bc) s) := ha.later hb
  replace p0 := cell_at hb p0
  replace p1 := cell_at hb p1
  obtain ⟨x, hx⟩ : ∃ x, vE 8 n d s no = x := ⟨_, rfl⟩
  obtain ⟨u, hu⟩ : ∃ u, vR 8 n d s no = u := ⟨_, rfl⟩
  rw [hx, hu]
  have HX : Hid (vE 8 n d s no = x) := hx
  have HU : Hid (vR 8 n d s no = u) := hu
  clear hx hu hd hb ha
  go_enter Try.func48, Try.ntmps48
  go_upto_region 1 with fail
  rw [← hU]
  clear hU
  go_wp2_with fail
  refine (scale_to n x HA.out HX.out).mono ?_
  rintro e w2 ⟨x0, x1, rfl, ho, hb2⟩
  have hu2 : sclR n s = u := HU.out
  rw [hu2] at ho
  have HBU : Hid (Below U.heap.size U w2) := hb2
  obtain ⟨xa, xn, xc, rfl⟩ := ho.dims.ints.shape3
  obtain ⟨ya, yn, yc, rfl⟩ := ho.data.ints.shape3
  have hbx := HBX.out.later HBU.out
  have l0 := hbx.c0
  have l1 := hbx.c1
  have m0 := hbx.f 0
  have m1 := hbx.f 1
  have HBS : Hid (Box _ _ _ _) := hbx.set (.slice xa xn xc) (.slice ya yn yc)
  have HO : Hid (OwnT w2 (w.heap.size + 1) (.slice xa xn xc) (.slice ya yn yc) u) := ho.mono hsU
  have HBW : Hid (Below w.heap.size w w2) := Below.after HB.out HBU.out
  clear hbx ho hb2
  go_wp2
  have hr0 := HBS.out.c0
  have hr1 := HBS.out.c1
  refine bodyPost_ret (v := .tuple #[.agg #[.slice xa xn xc, .slice ya yn yc], .int .i64 x]) (by simp [results, Try.results48, go_sem, hr0, hr1]) rfl ⟨_, _, rfl, ?_, ?_⟩
  · exact (HO.out.set2 _ _ (by omega)).mono (by omega)
  · exact (HBW.out.setCell (by simp) _).setCell (by simp) _
set_option maxHeartbeats 4000000 in
theorem value_k9 {vd a0 a1 b0 b1 : Value} {d : List Int} {s t : Ten} {w : World} {P off c : Nat} (n : Int) (hc : 2 ≤ c) (ha : Tens w a0 a1 s) (ht : Tens w b0 b1 t) (p0 : w.cell? ⟨P, off, none⟩ = some a0) (p1 : w.cell? ⟨P, off + 1, none⟩ = some a1) (p2 : w.cell? ⟨P, off + 2, none⟩ = some b0) (p3 : w.cell? ⟨P, off + 3, none⟩ = some b1) (hd : Ints w vd d) :
    Calls Try.prog 48 #[.int .i64 9, .int .i64 n, vd, .slice (some ⟨P, off, none⟩) 2 c] w fun e w' => ∃ x0 x1, e = .returned (.tuple #[.agg #[x0, x1], .int .i64 (vE 9 n d s t)]) ∧ OwnT w' w.heap.size x0 x1 (vR 9 n d s t) ∧ Below w.heap.size w w' := by
  obtain ⟨da, dn, dc, rfl⟩ := hd.shape3
  obtain ⟨aa, an, ac, rfl⟩ := ha.1.shape3
  obtain ⟨ba, bn, bc, rfl⟩ := ha.2.shape3
  have hne : ¬ w.heap.size = P := by have := cell_lt p0; omega
  have hne2 : ¬ P = w.heap.size := fun h => hne h.symm
  obtain ⟨ea, en, ec, rfl⟩ := ht.1.shape3
  obtain ⟨fa, fn, fc, rfl⟩ := ht.2.shape3
  obtain ⟨U, hU⟩ : ∃ U, U = w.alloc (.cells #[.slice none 0 0, .slice none 0 0] 70) := ⟨_, rfl⟩
  have hb : Below w.heap.size w U := by rw [hU]; exact (Below.refl _ _).alloc (Nat.le_refl _) _
  have HB : Hid (Below w.heap.size w U) := hb
  have HD : Hid (Ints U (.slice da dn dc) d) := hd.later hb
  have HBX : Hid (Box U w.heap.size (.slice none 0 0) (.slice none 0 0)) := by show Box _ _ _ _; rw [hU]; exact Box.new w _ _
  have hsU : w.heap.size + 1 ≤ U.heap.size := by rw [hU]; simp
  have HA : Hid (Tens U (.slice aa an ac) (.slice ba bn bc) s) := ha.later hb
  replace p0 := cell_at hb p0
  replace p1 := cell_at hb p1
  have HT : Hid (Tens U (.slice ea en ec) (.slice fa fn fc) t) := ht.later hb
  replace p2 := cell_at hb p2
  replace p3 := cell_at hb p3
  obtain ⟨x, hx⟩ : ∃ x, vE 9 n d s t = x := ⟨_, rfl⟩
  obtain ⟨u, hu⟩ : ∃ u, vR 9 n d s t = u := ⟨_, rfl⟩
  rw [hx, hu]
  have HX : Hid (vE 9 n d s t = x) := hx
  have HU : Hid (vR 9 n d s t = u) := hu
  clear hx hu hd hb ha ht
  go_enter Try.func48, Try.ntmps48
  go_upto_region 1 with fail
  rw [← hU]
  clear hU
  go_wp2_with fail
  go_region_held3 (fun w' => w'.cell? ⟨P, off, none⟩ = some (.slice aa an ac) ∧ w'.cell? ⟨P, off + 1, none⟩ = some (.slice ba bn bc) ∧ w'.cell? ⟨P, off + 2, none⟩ = some (.slice ea en ec) ∧ w'.cell? ⟨P, off + 3, none⟩ = some (.slice fa fn fc)) (go_keep) (first | (go_at_call 57; refine (mul_to_1 x u ?_ ?_ HX.out HU.out).mono ?_; exact HA.out.later (Below.refl _ _).drew; exact HT.out.later (Below.refl _ _).drew; rintro r w2 ⟨x0, x1, rfl, ho, hb2⟩; have HBU : Hid (Below U.heap.size U w2) := Below.after (Below.refl _ _).drew hb2; obtain ⟨xa, xn, xc, rfl⟩ := ho.dims.ints.shape3; obtain ⟨ya, yn, yc, rfl⟩ := ho.data.ints.shape3; have hbx := HBX.out.later HBU.out; have l0 := hbx.c0; have l1 := hbx.c1; have m0 := hbx.f 0; have m1 := hbx.f 1; have HBS : Hid (Box _ _ _ _) := hbx.set (.slice xa xn xc) (.slice ya yn yc); have HO : Hid (OwnT w2 (w.heap.size + 1) (.slice xa xn xc) (.slice ya yn yc) u) := ho.mono hsU; have HBW : Hid (Below w.heap.size w w2) := Below.after HB.out HBU.out; have a_0 := cell_at HBU.out p0; have a_1 := cell_at HBU.out p1; have a_2 := cell_at HBU.out p2; have a_3 := cell_at HBU.out p3; clear hbx ho hb2))
  clear a_0 a_1 a_2 a_3 p0 p1 p2 p3
  go_wp2
  have hr0 := HBS.out.c0
  have hr1 := HBS.out.c1
  refine bodyPost_ret (v := .tuple #[.agg #[.slice xa xn xc, .slice ya yn yc], .int .i64 x]) (by simp [results, Try.results48, go_sem, hr0, hr1]) rfl ⟨_, _, rfl, ?_, ?_⟩
  · exact (HO.out.set2 _ _ (by omega)).mono (by omega)
  · exact (HBW.out.setCell (by simp) _).setCell (by simp) _
set_option maxHeartbeats 4000000 in
theorem value_k10 {vd a0 a1 : Value} {d : List Int} {s : Ten} {w : World} {P off c : Nat} (n : Int) (hc : 1 ≤ c) (ha : Tens w a0 a1 s) (p0 : w.cell? ⟨P, off, none⟩ = some a0) (p1 : w.cell? ⟨P, off + 1, none⟩ = some a1) (hd : Ints w vd d) :
    Calls Try.prog 48 #[.int .i64 10, .int .i64 n, vd, .slice (some ⟨P, off, none⟩) 1 c] w fun e w' => ∃ x0 x1, e = .returned (.tuple #[.agg #[x0, x1], .int .i64 (vE 10 n d s no)]) ∧ OwnT w' w.heap.size x0 x1 (vR 10 n d s no) ∧ Below w.heap.size w w' := by
  obtain ⟨da, dn, dc, rfl⟩ := hd.shape3
  obtain ⟨aa, an, ac, rfl⟩ := ha.1.shape3
  obtain ⟨ba, bn, bc, rfl⟩ := ha.2.shape3
  have hne : ¬ w.heap.size = P := by have := cell_lt p0; omega
  have hne2 : ¬ P = w.heap.size := fun h => hne h.symm
  obtain ⟨U, hU⟩ : ∃ U, U = w.alloc (.cells #[.slice none 0 0, .slice none 0 0] 70) := ⟨_, rfl⟩
  have hb : Below w.heap.size w U := by rw [hU]; exact (Below.refl _ _).alloc (Nat.le_refl _) _
  have HB : Hid (Below w.heap.size w U) := hb
  have HD : Hid (Ints U (.slice da dn dc) d) := hd.later hb
  have HBX : Hid (Box U w.heap.size (.slice none 0 0) (.slice none 0 0)) := by show Box _ _ _ _; rw [hU]; exact Box.new w _ _
  have hsU : w.heap.size + 1 ≤ U.heap.size := by rw [hU]; simp
  have HA : Hid (Tens U (.slice aa an ac) (.slice ba bn bc) s) := ha.later hb
  replace p0 := cell_at hb p0
  replace p1 := cell_at hb p1
  obtain ⟨x, hx⟩ : ∃ x, vE 10 n d s no = x := ⟨_, rfl⟩
  obtain ⟨u, hu⟩ : ∃ u, vR 10 n d s no = u := ⟨_, rfl⟩
  rw [hx, hu]
  have HX : Hid (vE 10 n d s no = x) := hx
  have HU : Hid (vR 10 n d s no = u) := hu
  clear hx hu hd hb ha
  go_enter Try.func48, Try.ntmps48
  go_upto_region 1 with fail
  rw [← hU]
  clear hU
  go_wp2_with fail
  refine (turn_to x u HA.out HX.out HU.out).mono ?_
  rintro e w2 ⟨x0, x1, rfl, ho, hb2⟩
  have HBU : Hid (Below U.heap.size U w2) := hb2
  obtain ⟨xa, xn, xc, rfl⟩ := ho.dims.ints.shape3
  obtain ⟨ya, yn, yc, rfl⟩ := ho.data.ints.shape3
  have hbx := HBX.out.later HBU.out
  have l0 := hbx.c0
  have l1 := hbx.c1
  have m0 := hbx.f 0
  have m1 := hbx.f 1
  have HBS : Hid (Box _ _ _ _) := hbx.set (.slice xa xn xc) (.slice ya yn yc)
  have HO : Hid (OwnT w2 (w.heap.size + 1) (.slice xa xn xc) (.slice ya yn yc) u) := ho.mono hsU
  have HBW : Hid (Below w.heap.size w w2) := Below.after HB.out HBU.out
  clear hbx ho hb2
  go_wp2
  have hr0 := HBS.out.c0
  have hr1 := HBS.out.c1
  refine bodyPost_ret (v := .tuple #[.agg #[.slice xa xn xc, .slice ya yn yc], .int .i64 x]) (by simp [results, Try.results48, go_sem, hr0, hr1]) rfl ⟨_, _, rfl, ?_, ?_⟩
  · exact (HO.out.set2 _ _ (by omega)).mono (by omega)
  · exact (HBW.out.setCell (by simp) _).setCell (by simp) _
set_option maxHeartbeats 4000000 in
theorem value_k11 {vd a0 a1 : Value} {d : List Int} {s : Ten} {w : World} {P off c : Nat} (n : Int) (hc : 1 ≤ c) (ha : Tens w a0 a1 s) (p0 : w.cell? ⟨P, off, none⟩ = some a0) (p1 : w.cell? ⟨P, off + 1, none⟩ = some a1) (hd : Ints w vd d) :
    Calls Try.prog 48 #[.int .i64 11, .int .i64 n, vd, .slice (some ⟨P, off, none⟩) 1 c] w fun e w' => ∃ x0 x1, e = .returned (.tuple #[.agg #[x0, x1], .int .i64 (vE 11 n d s no)]) ∧ OwnT w' w.heap.size x0 x1 (vR 11 n d s no) ∧ Below w.heap.size w w' := by
  obtain ⟨da, dn, dc, rfl⟩ := hd.shape3
  obtain ⟨aa, an, ac, rfl⟩ := ha.1.shape3
  obtain ⟨ba, bn, bc, rfl⟩ := ha.2.shape3
  have hne : ¬ w.heap.size = P := by have := cell_lt p0; omega
  have hne2 : ¬ P = w.heap.size := fun h => hne h.symm
  obtain ⟨U, hU⟩ : ∃ U, U = w.alloc (.cells #[.slice none 0 0, .slice none 0 0] 70) := ⟨_, rfl⟩
  have hb : Below w.heap.size w U := by rw [hU]; exact (Below.refl _ _).alloc (Nat.le_refl _) _
  have HB : Hid (Below w.heap.size w U) := hb
  have HD : Hid (Ints U (.slice da dn dc) d) := hd.later hb
  have HBX : Hid (Box U w.heap.size (.slice none 0 0) (.slice none 0 0)) := by show Box _ _ _ _; rw [hU]; exact Box.new w _ _
  have hsU : w.heap.size + 1 ≤ U.heap.size := by rw [hU]; simp
  have HA : Hid (Tens U (.slice aa an ac) (.slice ba bn bc) s) := ha.later hb
  replace p0 := cell_at hb p0
  replace p1 := cell_at hb p1
  obtain ⟨x, hx⟩ : ∃ x, vE 11 n d s no = x := ⟨_, rfl⟩
  obtain ⟨u, hu⟩ : ∃ u, vR 11 n d s no = u := ⟨_, rfl⟩
  rw [hx, hu]
  have HX : Hid (vE 11 n d s no = x) := hx
  have HU : Hid (vR 11 n d s no = u) := hu
  clear hx hu hd hb ha
  go_enter Try.func48, Try.ntmps48
  go_upto_region 1 with fail
  rw [← hU]
  clear hU
  go_wp2_with fail
  refine (shape_to x u HA.out HD.out HX.out HU.out).mono ?_
  rintro e w2 ⟨x0, x1, rfl, ho, hb2⟩
  have HBU : Hid (Below U.heap.size U w2) := hb2
  obtain ⟨xa, xn, xc, rfl⟩ := ho.dims.ints.shape3
  obtain ⟨ya, yn, yc, rfl⟩ := ho.data.ints.shape3
  have hbx := HBX.out.later HBU.out
  have l0 := hbx.c0
  have l1 := hbx.c1
  have m0 := hbx.f 0
  have m1 := hbx.f 1
  have HBS : Hid (Box _ _ _ _) := hbx.set (.slice xa xn xc) (.slice ya yn yc)
  have HO : Hid (OwnT w2 (w.heap.size + 1) (.slice xa xn xc) (.slice ya yn yc) u) := ho.mono hsU
  have HBW : Hid (Below w.heap.size w w2) := Below.after HB.out HBU.out
  clear hbx ho hb2
  go_wp2
  have hr0 := HBS.out.c0
  have hr1 := HBS.out.c1
  refine bodyPost_ret (v := .tuple #[.agg #[.slice xa xn xc, .slice ya yn yc], .int .i64 x]) (by simp [results, Try.results48, go_sem, hr0, hr1]) rfl ⟨_, _, rfl, ?_, ?_⟩
  · exact (HO.out.set2 _ _ (by omega)).mono (by omega)
  · exact (HBW.out.setCell (by simp) _).setCell (by simp) _
set_option maxHeartbeats 4000000 in
theorem value_k12 {vd a0 a1 : Value} {d : List Int} {s : Ten} {w : World} {P off c : Nat} (n : Int) (hc : 1 ≤ c) (ha : Tens w a0 a1 s) (p0 : w.cell? ⟨P, off, none⟩ = some a0) (p1 : w.cell? ⟨P, off + 1, none⟩ = some a1) (hd : Ints w vd d) :
    Calls Try.prog 48 #[.int .i64 12, .int .i64 n, vd, .slice (some ⟨P, off, none⟩) 1 c] w fun e w' => ∃ x0 x1, e = .returned (.tuple #[.agg #[x0, x1], .int .i64 (vE 12 n d s no)]) ∧ OwnT w' w.heap.size x0 x1 (vR 12 n d s no) ∧ Below w.heap.size w w' := by
  obtain ⟨da, dn, dc, rfl⟩ := hd.shape3
  obtain ⟨aa, an, ac, rfl⟩ := ha.1.shape3
  obtain ⟨ba, bn, bc, rfl⟩ := ha.2.shape3
  have hne : ¬ w.heap.size = P := by have := cell_lt p0; omega
  have hne2 : ¬ P = w.heap.size := fun h => hne h.symm
  obtain ⟨U, hU⟩ : ∃ U, U = w.alloc (.cells #[.slice none 0 0, .slice none 0 0] 70) := ⟨_, rfl⟩
  have hb : Below w.heap.size w U := by rw [hU]; exact (Below.refl _ _).alloc (Nat.le_refl _) _
  have HB : Hid (Below w.heap.size w U) := hb
  have HD : Hid (Ints U (.slice da dn dc) d) := hd.later hb
  have HBX : Hid (Box U w.heap.size (.slice none 0 0) (.slice none 0 0)) := by show Box _ _ _ _; rw [hU]; exact Box.new w _ _
  have hsU : w.heap.size + 1 ≤ U.heap.size := by rw [hU]; simp
  have HA : Hid (Tens U (.slice aa an ac) (.slice ba bn bc) s) := ha.later hb
  replace p0 := cell_at hb p0
  replace p1 := cell_at hb p1
  obtain ⟨x, hx⟩ : ∃ x, vE 12 n d s no = x := ⟨_, rfl⟩
  obtain ⟨u, hu⟩ : ∃ u, vR 12 n d s no = u := ⟨_, rfl⟩
  rw [hx, hu]
  have HX : Hid (vE 12 n d s no = x) := hx
  have HU : Hid (vR 12 n d s no = u) := hu
  clear hx hu hd hb ha
  go_enter Try.func48, Try.ntmps48
  go_upto_region 1 with fail
  rw [← hU]
  clear hU
  go_wp2_with fail
  refine (wide_to x u HA.out HD.out HX.out HU.out).mono ?_
  rintro e w2 ⟨x0, x1, rfl, ho, hb2⟩
  have HBU : Hid (Below U.heap.size U w2) := hb2
  obtain ⟨xa, xn, xc, rfl⟩ := ho.dims.ints.shape3
  obtain ⟨ya, yn, yc, rfl⟩ := ho.data.ints.shape3
  have hbx := HBX.out.later HBU.out
  have l0 := hbx.c0
  have l1 := hbx.c1
  have m0 := hbx.f 0
  have m1 := hbx.f 1
  have HBS : Hid (Box _ _ _ _) := hbx.set (.slice xa xn xc) (.slice ya yn yc)
  have HO : Hid (OwnT w2 (w.heap.size + 1) (.slice xa xn xc) (.slice ya yn yc) u) := ho.mono hsU
  have HBW : Hid (Below w.heap.size w w2) := Below.after HB.out HBU.out
  clear hbx ho hb2
  go_wp2
  have hr0 := HBS.out.c0
  have hr1 := HBS.out.c1
  refine bodyPost_ret (v := .tuple #[.agg #[.slice xa xn xc, .slice ya yn yc], .int .i64 x]) (by simp [results, Try.results48, go_sem, hr0, hr1]) rfl ⟨_, _, rfl, ?_, ?_⟩
  · exact (HO.out.set2 _ _ (by omega)).mono (by omega)
  · exact (HBW.out.setCell (by simp) _).setCell (by simp) _
set_option maxHeartbeats 4000000 in
theorem value_k13 {vd a0 a1 : Value} {d : List Int} {s : Ten} {w : World} {P off c : Nat} (n : Int) (hc : 1 ≤ c) (ha : Tens w a0 a1 s) (p0 : w.cell? ⟨P, off, none⟩ = some a0) (p1 : w.cell? ⟨P, off + 1, none⟩ = some a1) (hd : Ints w vd d) :
    Calls Try.prog 48 #[.int .i64 13, .int .i64 n, vd, .slice (some ⟨P, off, none⟩) 1 c] w fun e w' => ∃ x0 x1, e = .returned (.tuple #[.agg #[x0, x1], .int .i64 (vE 13 n d s no)]) ∧ OwnT w' w.heap.size x0 x1 (vR 13 n d s no) ∧ Below w.heap.size w w' := by
  obtain ⟨da, dn, dc, rfl⟩ := hd.shape3
  obtain ⟨aa, an, ac, rfl⟩ := ha.1.shape3
  obtain ⟨ba, bn, bc, rfl⟩ := ha.2.shape3
  have hne : ¬ w.heap.size = P := by have := cell_lt p0; omega
  have hne2 : ¬ P = w.heap.size := fun h => hne h.symm
  obtain ⟨U, hU⟩ : ∃ U, U = w.alloc (.cells #[.slice none 0 0, .slice none 0 0] 70) := ⟨_, rfl⟩
  have hb : Below w.heap.size w U := by rw [hU]; exact (Below.refl _ _).alloc (Nat.le_refl _) _
  have HB : Hid (Below w.heap.size w U) := hb
  have HD : Hid (Ints U (.slice da dn dc) d) := hd.later hb
  have HBX : Hid (Box U w.heap.size (.slice none 0 0) (.slice none 0 0)) := by show Box _ _ _ _; rw [hU]; exact Box.new w _ _
  have hsU : w.heap.size + 1 ≤ U.heap.size := by rw [hU]; simp
  have HA : Hid (Tens U (.slice aa an ac) (.slice ba bn bc) s) := ha.later hb
  replace p0 := cell_at hb p0
  replace p1 := cell_at hb p1
  obtain ⟨x, hx⟩ : ∃ x, vE 13 n d s no = x := ⟨_, rfl⟩
  obtain ⟨u, hu⟩ : ∃ u, vR 13 n d s no = u := ⟨_, rfl⟩
  rw [hx, hu]
  have HX : Hid (vE 13 n d s no = x) := hx
  have HU : Hid (vR 13 n d s no = u) := hu
  clear hx hu hd hb ha
  go_enter Try.func48, Try.ntmps48
  go_upto_region 1 with fail
  rw [← hU]
  clear hU
  go_wp2_with fail
  refine (sumd_to x u HA.out HD.out HX.out HU.out).mono ?_
  rintro e w2 ⟨x0, x1, rfl, ho, hb2⟩
  have HBU : Hid (Below U.heap.size U w2) := hb2
  obtain ⟨xa, xn, xc, rfl⟩ := ho.dims.ints.shape3
  obtain ⟨ya, yn, yc, rfl⟩ := ho.data.ints.shape3
  have hbx := HBX.out.later HBU.out
  have l0 := hbx.c0
  have l1 := hbx.c1
  have m0 := hbx.f 0
  have m1 := hbx.f 1
  have HBS : Hid (Box _ _ _ _) := hbx.set (.slice xa xn xc) (.slice ya yn yc)
  have HO : Hid (OwnT w2 (w.heap.size + 1) (.slice xa xn xc) (.slice ya yn yc) u) := ho.mono hsU
  have HBW : Hid (Below w.heap.size w w2) := Below.after HB.out HBU.out
  clear hbx ho hb2
  go_wp2
  have hr0 := HBS.out.c0
  have hr1 := HBS.out.c1
  refine bodyPost_ret (v := .tuple #[.agg #[.slice xa xn xc, .slice ya yn yc], .int .i64 x]) (by simp [results, Try.results48, go_sem, hr0, hr1]) rfl ⟨_, _, rfl, ?_, ?_⟩
  · exact (HO.out.set2 _ _ (by omega)).mono (by omega)
  · exact (HBW.out.setCell (by simp) _).setCell (by simp) _
set_option maxHeartbeats 4000000 in
theorem value_k14 {vd a0 a1 : Value} {d : List Int} {s : Ten} {w : World} {P off c : Nat} (n : Int) (hc : 1 ≤ c) (ha : Tens w a0 a1 s) (p0 : w.cell? ⟨P, off, none⟩ = some a0) (p1 : w.cell? ⟨P, off + 1, none⟩ = some a1) (hd : Ints w vd d) :
    Calls Try.prog 48 #[.int .i64 14, .int .i64 n, vd, .slice (some ⟨P, off, none⟩) 1 c] w fun e w' => ∃ x0 x1, e = .returned (.tuple #[.agg #[x0, x1], .int .i64 (vE 14 n d s no)]) ∧ OwnT w' w.heap.size x0 x1 (vR 14 n d s no) ∧ Below w.heap.size w w' := by
  obtain ⟨da, dn, dc, rfl⟩ := hd.shape3
  obtain ⟨aa, an, ac, rfl⟩ := ha.1.shape3
  obtain ⟨ba, bn, bc, rfl⟩ := ha.2.shape3
  have hne : ¬ w.heap.size = P := by have := cell_lt p0; omega
  have hne2 : ¬ P = w.heap.size := fun h => hne h.symm
  obtain ⟨U, hU⟩ : ∃ U, U = w.alloc (.cells #[.slice none 0 0, .slice none 0 0] 70) := ⟨_, rfl⟩
  have hb : Below w.heap.size w U := by rw [hU]; exact (Below.refl _ _).alloc (Nat.le_refl _) _
  have HB : Hid (Below w.heap.size w U) := hb
  have HD : Hid (Ints U (.slice da dn dc) d) := hd.later hb
  have HBX : Hid (Box U w.heap.size (.slice none 0 0) (.slice none 0 0)) := by show Box _ _ _ _; rw [hU]; exact Box.new w _ _
  have hsU : w.heap.size + 1 ≤ U.heap.size := by rw [hU]; simp
  have HA : Hid (Tens U (.slice aa an ac) (.slice ba bn bc) s) := ha.later hb
  replace p0 := cell_at hb p0
  replace p1 := cell_at hb p1
  obtain ⟨x, hx⟩ : ∃ x, vE 14 n d s no = x := ⟨_, rfl⟩
  obtain ⟨u, hu⟩ : ∃ u, vR 14 n d s no = u := ⟨_, rfl⟩
  rw [hx, hu]
  have HX : Hid (vE 14 n d s no = x) := hx
  have HU : Hid (vR 14 n d s no = u) := hu
  clear hx hu hd hb ha
  go_enter Try.func48, Try.ntmps48
  go_upto_region 1 with fail
  rw [← hU]
  clear hU
  go_wp2_with fail
  refine (relu_to x u HA.out HX.out HU.out).mono ?_
  rintro e w2 ⟨x0, x1, rfl, ho, hb2⟩
  have HBU : Hid (Below U.heap.size U w2) := hb2
  obtain ⟨xa, xn, xc, rfl⟩ := ho.dims.ints.shape3
  obtain ⟨ya, yn, yc, rfl⟩ := ho.data.ints.shape3
  have hbx := HBX.out.later HBU.out
  have l0 := hbx.c0
  have l1 := hbx.c1
  have m0 := hbx.f 0
  have m1 := hbx.f 1
  have HBS : Hid (Box _ _ _ _) := hbx.set (.slice xa xn xc) (.slice ya yn yc)
  have HO : Hid (OwnT w2 (w.heap.size + 1) (.slice xa xn xc) (.slice ya yn yc) u) := ho.mono hsU
  have HBW : Hid (Below w.heap.size w w2) := Below.after HB.out HBU.out
  clear hbx ho hb2
  go_wp2
  have hr0 := HBS.out.c0
  have hr1 := HBS.out.c1
  refine bodyPost_ret (v := .tuple #[.agg #[.slice xa xn xc, .slice ya yn yc], .int .i64 x]) (by simp [results, Try.results48, go_sem, hr0, hr1]) rfl ⟨_, _, rfl, ?_, ?_⟩
  · exact (HO.out.set2 _ _ (by omega)).mono (by omega)
  · exact (HBW.out.setCell (by simp) _).setCell (by simp) _
set_option maxHeartbeats 4000000 in
theorem value_k15 {vd a0 a1 : Value} {d : List Int} {s : Ten} {w : World} {P off c : Nat} (n : Int) (hc : 1 ≤ c) (ha : Tens w a0 a1 s) (p0 : w.cell? ⟨P, off, none⟩ = some a0) (p1 : w.cell? ⟨P, off + 1, none⟩ = some a1) (hd : Ints w vd d) :
    Calls Try.prog 48 #[.int .i64 15, .int .i64 n, vd, .slice (some ⟨P, off, none⟩) 1 c] w fun e w' => ∃ x0 x1, e = .returned (.tuple #[.agg #[x0, x1], .int .i64 (vE 15 n d s no)]) ∧ OwnT w' w.heap.size x0 x1 (vR 15 n d s no) ∧ Below w.heap.size w w' := by
  obtain ⟨da, dn, dc, rfl⟩ := hd.shape3
  obtain ⟨aa, an, ac, rfl⟩ := ha.1.shape3
  obtain ⟨ba, bn, bc, rfl⟩ := ha.2.shape3
  have hne : ¬ w.heap.size = P := by have := cell_lt p0; omega
  have hne2 : ¬ P = w.heap.size := fun h => hne h.symm
  obtain ⟨U, hU⟩ : ∃ U, U = w.alloc (.cells #[.slice none 0 0, .slice none 0 0] 70) := ⟨_, rfl⟩
  have hb : Below w.heap.size w U := by rw [hU]; exact (Below.refl _ _).alloc (Nat.le_refl _) _
  have HB : Hid (Below w.heap.size w U) := hb
  have HD : Hid (Ints U (.slice da dn dc) d) := hd.later hb
  have HBX : Hid (Box U w.heap.size (.slice none 0 0) (.slice none 0 0)) := by show Box _ _ _ _; rw [hU]; exact Box.new w _ _
  have hsU : w.heap.size + 1 ≤ U.heap.size := by rw [hU]; simp
  have HA : Hid (Tens U (.slice aa an ac) (.slice ba bn bc) s) := ha.later hb
  replace p0 := cell_at hb p0
  replace p1 := cell_at hb p1
  obtain ⟨x, hx⟩ : ∃ x, vE 15 n d s no = x := ⟨_, rfl⟩
  obtain ⟨u, hu⟩ : ∃ u, vR 15 n d s no = u := ⟨_, rfl⟩
  rw [hx, hu]
  have HX : Hid (vE 15 n d s no = x) := hx
  have HU : Hid (vR 15 n d s no = u) := hu
  clear hx hu hd hb ha
  go_enter Try.func48, Try.ntmps48
  go_upto_region 1 with fail
  rw [← hU]
  clear hU
  go_wp2_with fail
  refine (max_to n x u HA.out HX.out HU.out).mono ?_
  rintro e w2 ⟨x0, x1, rfl, ho, hb2⟩
  have HBU : Hid (Below U.heap.size U w2) := hb2
  obtain ⟨xa, xn, xc, rfl⟩ := ho.dims.ints.shape3
  obtain ⟨ya, yn, yc, rfl⟩ := ho.data.ints.shape3
  have hbx := HBX.out.later HBU.out
  have l0 := hbx.c0
  have l1 := hbx.c1
  have m0 := hbx.f 0
  have m1 := hbx.f 1
  have HBS : Hid (Box _ _ _ _) := hbx.set (.slice xa xn xc) (.slice ya yn yc)
  have HO : Hid (OwnT w2 (w.heap.size + 1) (.slice xa xn xc) (.slice ya yn yc) u) := ho.mono hsU
  have HBW : Hid (Below w.heap.size w w2) := Below.after HB.out HBU.out
  clear hbx ho hb2
  go_wp2
  have hr0 := HBS.out.c0
  have hr1 := HBS.out.c1
  refine bodyPost_ret (v := .tuple #[.agg #[.slice xa xn xc, .slice ya yn yc], .int .i64 x]) (by simp [results, Try.results48, go_sem, hr0, hr1]) rfl ⟨_, _, rfl, ?_, ?_⟩
  · exact (HO.out.set2 _ _ (by omega)).mono (by omega)
  · exact (HBW.out.setCell (by simp) _).setCell (by simp) _
set_option maxHeartbeats 4000000 in
theorem value_k16 {vd a0 a1 b0 b1 : Value} {d : List Int} {s t : Ten} {w : World} {P off c : Nat} (n : Int) (hc : 2 ≤ c) (ha : Tens w a0 a1 s) (ht : Tens w b0 b1 t) (p0 : w.cell? ⟨P, off, none⟩ = some a0) (p1 : w.cell? ⟨P, off + 1, none⟩ = some a1) (p2 : w.cell? ⟨P, off + 2, none⟩ = some b0) (p3 : w.cell? ⟨P, off + 3, none⟩ = some b1) (hd : Ints w vd d) :
    Calls Try.prog 48 #[.int .i64 16, .int .i64 n, vd, .slice (some ⟨P, off, none⟩) 2 c] w fun e w' => ∃ x0 x1, e = .returned (.tuple #[.agg #[x0, x1], .int .i64 (vE 16 n d s t)]) ∧ OwnT w' w.heap.size x0 x1 (vR 16 n d s t) ∧ Below w.heap.size w w' := by
  obtain ⟨da, dn, dc, rfl⟩ := hd.shape3
  obtain ⟨aa, an, ac, rfl⟩ := ha.1.shape3
  obtain ⟨ba, bn, bc, rfl⟩ := ha.2.shape3
  have hne : ¬ w.heap.size = P := by have := cell_lt p0; omega
  have hne2 : ¬ P = w.heap.size := fun h => hne h.symm
  obtain ⟨ea, en, ec, rfl⟩ := ht.1.shape3
  obtain ⟨fa, fn, fc, rfl⟩ := ht.2.shape3
  obtain ⟨U, hU⟩ : ∃ U, U = w.alloc (.cells #[.slice none 0 0, .slice none 0 0] 70) := ⟨_, rfl⟩
  have hb : Below w.heap.size w U := by rw [hU]; exact (Below.refl _ _).alloc (Nat.le_refl _) _
  have HB : Hid (Below w.heap.size w U) := hb
  have HD : Hid (Ints U (.slice da dn dc) d) := hd.later hb
  have HBX : Hid (Box U w.heap.size (.slice none 0 0) (.slice none 0 0)) := by show Box _ _ _ _; rw [hU]; exact Box.new w _ _
  have hsU : w.heap.size + 1 ≤ U.heap.size := by rw [hU]; simp
  have HA : Hid (Tens U (.slice aa an ac) (.slice ba bn bc) s) := ha.later hb
  replace p0 := cell_at hb p0
  replace p1 := cell_at hb p1
  have HT : Hid (Tens U (.slice ea en ec) (.slice fa fn fc) t) := ht.later hb
  replace p2 := cell_at hb p2
  replace p3 := cell_at hb p3
  obtain ⟨x, hx⟩ : ∃ x, vE 16 n d s t = x := ⟨_, rfl⟩
  obtain ⟨u, hu⟩ : ∃ u, vR 16 n d s t = u := ⟨_, rfl⟩
  rw [hx, hu]
  have HX : Hid (vE 16 n d s t = x) := hx
  have HU : Hid (vR 16 n d s t = u) := hu
  clear hx hu hd hb ha ht
  go_enter Try.func48, Try.ntmps48
  go_upto_region 1 with fail
  rw [← hU]
  clear hU
  go_wp2_with fail
  go_region_held3 (fun w' => w'.cell? ⟨P, off, none⟩ = some (.slice aa an ac) ∧ w'.cell? ⟨P, off + 1, none⟩ = some (.slice ba bn bc) ∧ w'.cell? ⟨P, off + 2, none⟩ = some (.slice ea en ec) ∧ w'.cell? ⟨P, off + 3, none⟩ = some (.slice fa fn fc)) (go_keep) (first | (go_at_call 64; refine (step_to x u ?_ ?_ HX.out HU.out).mono ?_; exact HA.out.later (Below.refl _ _).drew; exact HT.out.later (Below.refl _ _).drew; rintro r w2 ⟨x0, x1, rfl, ho, hb2⟩; have HBU : Hid (Below U.heap.size U w2) := Below.after (Below.refl _ _).drew hb2; obtain ⟨xa, xn, xc, rfl⟩ := ho.dims.ints.shape3; obtain ⟨ya, yn, yc, rfl⟩ := ho.data.ints.shape3; have hbx := HBX.out.later HBU.out; have l0 := hbx.c0; have l1 := hbx.c1; have m0 := hbx.f 0; have m1 := hbx.f 1; have HBS : Hid (Box _ _ _ _) := hbx.set (.slice xa xn xc) (.slice ya yn yc); have HO : Hid (OwnT w2 (w.heap.size + 1) (.slice xa xn xc) (.slice ya yn yc) u) := ho.mono hsU; have HBW : Hid (Below w.heap.size w w2) := Below.after HB.out HBU.out; have a_0 := cell_at HBU.out p0; have a_1 := cell_at HBU.out p1; have a_2 := cell_at HBU.out p2; have a_3 := cell_at HBU.out p3; clear hbx ho hb2))
  clear a_0 a_1 a_2 a_3 p0 p1 p2 p3
  go_wp2
  have hr0 := HBS.out.c0
  have hr1 := HBS.out.c1
  refine bodyPost_ret (v := .tuple #[.agg #[.slice xa xn xc, .slice ya yn yc], .int .i64 x]) (by simp [results, Try.results48, go_sem, hr0, hr1]) rfl ⟨_, _, rfl, ?_, ?_⟩
  · exact (HO.out.set2 _ _ (by omega)).mono (by omega)
  · exact (HBW.out.setCell (by simp) _).setCell (by simp) _
set_option maxHeartbeats 4000000 in
theorem value_k17 {vd a0 a1 b0 b1 : Value} {d : List Int} {s t : Ten} {w : World} {P off c : Nat} (n : Int) (hc : 2 ≤ c) (ha : Tens w a0 a1 s) (ht : Tens w b0 b1 t) (p0 : w.cell? ⟨P, off, none⟩ = some a0) (p1 : w.cell? ⟨P, off + 1, none⟩ = some a1) (p2 : w.cell? ⟨P, off + 2, none⟩ = some b0) (p3 : w.cell? ⟨P, off + 3, none⟩ = some b1) (hd : Ints w vd d) :
    Calls Try.prog 48 #[.int .i64 17, .int .i64 n, vd, .slice (some ⟨P, off, none⟩) 2 c] w fun e w' => ∃ x0 x1, e = .returned (.tuple #[.agg #[x0, x1], .int .i64 (vE 17 n d s t)]) ∧ OwnT w' w.heap.size x0 x1 (vR 17 n d s t) ∧ Below w.heap.size w w' := by
  obtain ⟨da, dn, dc, rfl⟩ := hd.shape3
  obtain ⟨aa, an, ac, rfl⟩ := ha.1.shape3
  obtain ⟨ba, bn, bc, rfl⟩ := ha.2.shape3
  have hne : ¬ w.heap.size = P := by have := cell_lt p0; omega
  have hne2 : ¬ P = w.heap.size := fun h => hne h.symm
  obtain ⟨ea, en, ec, rfl⟩ := ht.1.shape3
  obtain ⟨fa, fn, fc, rfl⟩ := ht.2.shape3
  obtain ⟨U, hU⟩ : ∃ U, U = w.alloc (.cells #[.slice none 0 0, .slice none 0 0] 70) := ⟨_, rfl⟩
  have hb : Below w.heap.size w U := by rw [hU]; exact (Below.refl _ _).alloc (Nat.le_refl _) _
  have HB : Hid (Below w.heap.size w U) := hb
  have HD : Hid (Ints U (.slice da dn dc) d) := hd.later hb
  have HBX : Hid (Box U w.heap.size (.slice none 0 0) (.slice none 0 0)) := by show Box _ _ _ _; rw [hU]; exact Box.new w _ _
  have hsU : w.heap.size + 1 ≤ U.heap.size := by rw [hU]; simp
  have HA : Hid (Tens U (.slice aa an ac) (.slice ba bn bc) s) := ha.later hb
  replace p0 := cell_at hb p0
  replace p1 := cell_at hb p1
  have HT : Hid (Tens U (.slice ea en ec) (.slice fa fn fc) t) := ht.later hb
  replace p2 := cell_at hb p2
  replace p3 := cell_at hb p3
  obtain ⟨x, hx⟩ : ∃ x, vE 17 n d s t = x := ⟨_, rfl⟩
  obtain ⟨u, hu⟩ : ∃ u, vR 17 n d s t = u := ⟨_, rfl⟩
  rw [hx, hu]
  have HX : Hid (vE 17 n d s t = x) := hx
  have HU : Hid (vR 17 n d s t = u) := hu
  clear hx hu hd hb ha ht
  go_enter Try.func48, Try.ntmps48
  go_upto_region 1 with fail
  rw [← hU]
  clear hU
  go_wp2_with fail
  go_region_held3 (fun w' => w'.cell? ⟨P, off, none⟩ = some (.slice aa an ac) ∧ w'.cell? ⟨P, off + 1, none⟩ = some (.slice ba bn bc) ∧ w'.cell? ⟨P, off + 2, none⟩ = some (.slice ea en ec) ∧ w'.cell? ⟨P, off + 3, none⟩ = some (.slice fa fn fc)) (go_keep) (first | (go_at_call 65; refine (pick_to n x u ?_ ?_ HX.out HU.out).mono ?_; exact HA.out.later (Below.refl _ _).drew; exact HT.out.later (Below.refl _ _).drew; rintro r w2 ⟨x0, x1, rfl, ho, hb2⟩; have HBU : Hid (Below U.heap.size U w2) := Below.after (Below.refl _ _).drew hb2; obtain ⟨xa, xn, xc, rfl⟩ := ho.dims.ints.shape3; obtain ⟨ya, yn, yc, rfl⟩ := ho.data.ints.shape3; have hbx := HBX.out.later HBU.out; have l0 := hbx.c0; have l1 := hbx.c1; have m0 := hbx.f 0; have m1 := hbx.f 1; have HBS : Hid (Box _ _ _ _) := hbx.set (.slice xa xn xc) (.slice ya yn yc); have HO : Hid (OwnT w2 (w.heap.size + 1) (.slice xa xn xc) (.slice ya yn yc) u) := ho.mono hsU; have HBW : Hid (Below w.heap.size w w2) := Below.after HB.out HBU.out; have a_0 := cell_at HBU.out p0; have a_1 := cell_at HBU.out p1; have a_2 := cell_at HBU.out p2; have a_3 := cell_at HBU.out p3; clear hbx ho hb2))
  clear a_0 a_1 a_2 a_3 p0 p1 p2 p3
  go_wp2
  have hr0 := HBS.out.c0
  have hr1 := HBS.out.c1
  refine bodyPost_ret (v := .tuple #[.agg #[.slice xa xn xc, .slice ya yn yc], .int .i64 x]) (by simp [results, Try.results48, go_sem, hr0, hr1]) rfl ⟨_, _, rfl, ?_, ?_⟩
  · exact (HO.out.set2 _ _ (by omega)).mono (by omega)
  · exact (HBW.out.setCell (by simp) _).setCell (by simp) _
theorem TensL.one {w : World} {v : Value} {s : Ten} (h : TensL w v [s]) : ∃ P off c x y, v = .slice (some ⟨P, off, none⟩) 1 c ∧ 1 ≤ c ∧ w.cell? ⟨P, off, none⟩ = some x ∧ w.cell? ⟨P, off + 1, none⟩ = some y ∧ Tens w x y s := by
  obtain ⟨_, a, c, rfl, hc, HC⟩ := h
  obtain ⟨b, off, x, y, rfl, c0, c1, ht⟩ := HC 0 (by simp)
  exact ⟨b, off, c, x, y, rfl, hc, by simpa using c0, by simpa using c1, ht⟩
theorem TensL.two {w : World} {v : Value} {s t : Ten} (h : TensL w v [s, t]) : ∃ P off c x y p q, v = .slice (some ⟨P, off, none⟩) 2 c ∧ 2 ≤ c ∧ w.cell? ⟨P, off, none⟩ = some x ∧ w.cell? ⟨P, off + 1, none⟩ = some y ∧ w.cell? ⟨P, off + 2, none⟩ = some p ∧ w.cell? ⟨P, off + 3, none⟩ = some q ∧ Tens w x y s ∧ Tens w p q t := by
  obtain ⟨_, a, c, rfl, hc, HC⟩ := h
  obtain ⟨b, off, x, y, rfl, c0, c1, ht⟩ := HC 0 (by simp)
  obtain ⟨b', off', p, q, e, c2, c3, hu⟩ := HC 1 (by simp)
  simp only [Option.some.injEq, Addr.mk.injEq, and_true] at e
  obtain ⟨rfl, rfl⟩ := e
  exact ⟨b, off, c, x, y, p, q, rfl, hc, by simpa using c0, by simpa using c1, by simpa using c2, by simpa using c3, ht, hu⟩
set_option maxHeartbeats 1000000 in
theorem value_k1 {vd vl : Value} {w : World} (n : Int) :
    Calls Try.prog 48 #[.int .i64 1, .int .i64 n, vd, vl] w fun e w' => ∃ x0 x1, e = .returned (.tuple #[.agg #[x0, x1], .int .i64 1]) ∧ OwnT w' w.heap.size x0 x1 ([], []) ∧ Below w.heap.size w w' := by
  obtain ⟨U, hU⟩ : ∃ U, U = w.alloc (.cells #[.slice none 0 0, .slice none 0 0] 70) := ⟨_, rfl⟩
  have HB : Hid (Below w.heap.size w U) := by show Below _ _ _; rw [hU]; exact (Below.refl _ _).alloc (Nat.le_refl _) _
  have hbx : Box U w.heap.size (.slice none 0 0) (.slice none 0 0) := by rw [hU]; exact Box.new w _ _
  have l0 := hbx.c0
  have l1 := hbx.c1
  have m0 := hbx.f 0
  have m1 := hbx.f 1
  have HBS : Hid (Box _ _ _ _) := hbx.set (.slice none 0 0) (.slice none 0 0)
  clear hbx
  go_enter Try.func48, Try.ntmps48
  go_upto_region 1 with fail
  rw [← hU]
  clear hU
  go_wp2
  have hr0 := HBS.out.c0
  have hr1 := HBS.out.c1
  refine bodyPost_ret (v := .tuple #[.agg #[.slice none 0 0, .slice none 0 0], .int .i64 1]) (by simp [results, Try.results48, go_sem, hr0, hr1]) rfl ⟨_, _, rfl, OwnT.nil _ _, ?_⟩
  exact (HB.out.setCell (by simp) _).setCell (by simp) _
set_option maxHeartbeats 1000000 in
theorem value_k2 {vd vl : Value} {w : World} (n : Int) :
    Calls Try.prog 48 #[.int .i64 2, .int .i64 n, vd, vl] w fun e w' => ∃ x0 x1, e = .returned (.tuple #[.agg #[x0, x1], .int .i64 1]) ∧ OwnT w' w.heap.size x0 x1 ([], []) ∧ Below w.heap.size w w' := by
  obtain ⟨U, hU⟩ : ∃ U, U = w.alloc (.cells #[.slice none 0 0, .slice none 0 0] 70) := ⟨_, rfl⟩
  have HB : Hid (Below w.heap.size w U) := by show Below _ _ _; rw [hU]; exact (Below.refl _ _).alloc (Nat.le_refl _) _
  have hbx : Box U w.heap.size (.slice none 0 0) (.slice none 0 0) := by rw [hU]; exact Box.new w _ _
  have l0 := hbx.c0
  have l1 := hbx.c1
  have m0 := hbx.f 0
  have m1 := hbx.f 1
  have HBS : Hid (Box _ _ _ _) := hbx.set (.slice none 0 0) (.slice none 0 0)
  clear hbx
  go_enter Try.func48, Try.ntmps48
  go_upto_region 1 with fail
  rw [← hU]
  clear hU
  go_wp2
  have hr0 := HBS.out.c0
  have hr1 := HBS.out.c1
  refine bodyPost_ret (v := .tuple #[.agg #[.slice none 0 0, .slice none 0 0], .int .i64 1]) (by simp [results, Try.results48, go_sem, hr0, hr1]) rfl ⟨_, _, rfl, OwnT.nil _ _, ?_⟩
  exact (HB.out.setCell (by simp) _).setCell (by simp) _
theorem len0 {α : Type} {l : List α} {m : Nat} (h : l.length = m) (hm : m = 0) : l = [] := List.eq_nil_of_length_eq_zero (by omega)
theorem len1 {α : Type} {l : List α} (h : l.length = 1) : ∃ x, l = [x] := by
  match l, h with
  | [x], _ => exact ⟨x, rfl⟩
theorem len2 {α : Type} {l : List α} (h : l.length = 2) : ∃ x y, l = [x, y] := by
  match l, h with
  | [x, y], _ => exact ⟨x, y, rfl⟩
theorem value_any {vd v : Value} {d : List Int} {L : List Ten} {w : World} (k n : Int) (h : 1 ≤ k ∧ k ≤ 17) (hm : L.length = many k.toNat) (hd : Ints w vd d) (hl : TensL w v L) :
    Calls Try.prog 48 #[.int .i64 k, .int .i64 n, vd, v] w fun e w' => ∃ x0 x1, e = .returned (.tuple #[.agg #[x0, x1], .int .i64 (vE k.toNat n d (L.getD 0 no) (L.getD 1 no))]) ∧ OwnT w' w.heap.size x0 x1 (vR k.toNat n d (L.getD 0 no) (L.getD 1 no)) ∧ Below w.heap.size w w' := by
  have hk : k = 1 ∨ k = 2 ∨ k = 3 ∨ k = 4 ∨ k = 5 ∨ k = 6 ∨ k = 7 ∨ k = 8 ∨ k = 9 ∨ k = 10 ∨ k = 11 ∨ k = 12 ∨ k = 13 ∨ k = 14 ∨ k = 15 ∨ k = 16 ∨ k = 17 := by omega
  rcases hk with rfl | rfl | rfl | rfl | rfl | rfl | rfl | rfl | rfl | rfl | rfl | rfl | rfl | rfl | rfl | rfl | rfl
  · obtain rfl := len0 hm rfl
    exact value_k1 n
  · obtain rfl := len0 hm rfl
    exact value_k2 n
  · obtain rfl := len0 hm rfl
    exact value_k3 n hd
  · obtain ⟨s, t, rfl⟩ := len2 hm
    obtain ⟨P, off, c, x, y, p, q, rfl, hc, c0, c1, c2, c3, ht, hu⟩ := hl.two
    exact value_k4 n hc ht hu c0 c1 c2 c3 hd
  · obtain ⟨s, t, rfl⟩ := len2 hm
    obtain ⟨P, off, c, x, y, p, q, rfl, hc, c0, c1, c2, c3, ht, hu⟩ := hl.two
    exact value_k5 n hc ht hu c0 c1 c2 c3 hd
  · obtain ⟨s, t, rfl⟩ := len2 hm
    obtain ⟨P, off, c, x, y, p, q, rfl, hc, c0, c1, c2, c3, ht, hu⟩ := hl.two
    exact value_k6 n hc ht hu c0 c1 c2 c3 hd
  · obtain ⟨s, rfl⟩ := len1 hm
    obtain ⟨P, off, c, x, y, rfl, hc, c0, c1, ht⟩ := hl.one
    exact value_k7 n hc ht c0 c1 hd
  · obtain ⟨s, rfl⟩ := len1 hm
    obtain ⟨P, off, c, x, y, rfl, hc, c0, c1, ht⟩ := hl.one
    exact value_k8 n hc ht c0 c1 hd
  · obtain ⟨s, t, rfl⟩ := len2 hm
    obtain ⟨P, off, c, x, y, p, q, rfl, hc, c0, c1, c2, c3, ht, hu⟩ := hl.two
    exact value_k9 n hc ht hu c0 c1 c2 c3 hd
  · obtain ⟨s, rfl⟩ := len1 hm
    obtain ⟨P, off, c, x, y, rfl, hc, c0, c1, ht⟩ := hl.one
    exact value_k10 n hc ht c0 c1 hd
  · obtain ⟨s, rfl⟩ := len1 hm
    obtain ⟨P, off, c, x, y, rfl, hc, c0, c1, ht⟩ := hl.one
    exact value_k11 n hc ht c0 c1 hd
  · obtain ⟨s, rfl⟩ := len1 hm
    obtain ⟨P, off, c, x, y, rfl, hc, c0, c1, ht⟩ := hl.one
    exact value_k12 n hc ht c0 c1 hd
  · obtain ⟨s, rfl⟩ := len1 hm
    obtain ⟨P, off, c, x, y, rfl, hc, c0, c1, ht⟩ := hl.one
    exact value_k13 n hc ht c0 c1 hd
  · obtain ⟨s, rfl⟩ := len1 hm
    obtain ⟨P, off, c, x, y, rfl, hc, c0, c1, ht⟩ := hl.one
    exact value_k14 n hc ht c0 c1 hd
  · obtain ⟨s, rfl⟩ := len1 hm
    obtain ⟨P, off, c, x, y, rfl, hc, c0, c1, ht⟩ := hl.one
    exact value_k15 n hc ht c0 c1 hd
  · obtain ⟨s, t, rfl⟩ := len2 hm
    obtain ⟨P, off, c, x, y, p, q, rfl, hc, c0, c1, c2, c3, ht, hu⟩ := hl.two
    exact value_k16 n hc ht hu c0 c1 c2 c3 hd
  · obtain ⟨s, t, rfl⟩ := len2 hm
    obtain ⟨P, off, c, x, y, p, q, rfl, hc, c0, c1, c2, c3, ht, hu⟩ := hl.two
    exact value_k17 n hc ht hu c0 c1 c2 c3 hd
theorem frm_parts {k n : Int} {d : List Int} {c : Nat} (h : frm k n d c = true) : (1 ≤ k ∧ k ≤ 17) ∧ c = many k.toNat ∧ dok k.toNat d = true ∧ nok k.toNat n = true := by
  simp only [frm, frmN, Bool.and_eq_true, decide_eq_true_eq] at h
  exact ⟨h.1, h.2.1.1, h.2.1.2, h.2.2⟩
theorem infoT' : (Try.prog.info? 70).map (fun i => (i.zero, i.size, i.bytes)) = some (some (.agg #[.slice none 0 0, .slice none 0 0]), 2, 48) := by kernel_rfl
theorem infoT : ∃ i, Try.prog.info? 70 = some i ∧ i.zero = some (.agg #[.slice none 0 0, .slice none 0 0]) ∧ i.size = 2 ∧ i.bytes = 48 := by
  have h := infoT'
  cases e : Try.prog.info? 70 with
  | none => rw [e] at h; simp at h
  | some i => rw [e] at h; simp at h; exact ⟨i, rfl, h⟩
theorem infoI' : (Try.prog.info? 23).map (fun i => (i.zero, i.size, i.bytes)) = some (some (.slice none 0 0), 1, 24) := by kernel_rfl
theorem infoI : ∃ i, Try.prog.info? 23 = some i ∧ i.zero = some (.slice none 0 0) ∧ i.size = 1 ∧ i.bytes = 24 := by
  have h := infoI'
  cases e : Try.prog.info? 23 with
  | none => rw [e] at h; simp at h
  | some i => rw [e] at h; simp at h; exact ⟨i, rfl, h⟩
theorem RowT.none (w : World) (B : Nat) : RowT w B (.slice none 0 0) [] [] := ⟨World.ownsRow_nil _ _ _ _, fun i h => by simp at h⟩
theorem Row.none (w : World) (B : Nat) : Row w B (.slice none 0 0) [] [] := ⟨World.ownsRow_nil _ _ _ _, fun i h => by simp at h⟩
theorem take_snocT {α : Type} (l : List α) (k : Nat) (h : k < l.length) : l.take (k + 1) = l.take k ++ [l[k]] := by
  rw [List.take_succ_eq_append_getElem h]
theorem Own.elt {w : World} {B : Nat} {x : Value} {d : List Int} {r : Option Nat} (h : Own w B x d) (hr : ∀ k, r = some k → k < B) : Elt w r x d := by
  refine ⟨h.ints, fun _ e => ?_⟩
  cases hx : x.ownBlock with
  | none =>
    rename_i hpos
    rcases h.ints.cases with ⟨q, _⟩ | ⟨b, off, c, rfl, _, _, _, _⟩
    · rw [q] at hpos; simp at hpos
    · simp [Value.ownBlock] at hx
  | some k =>
    have h1 := h.frm k hx
    have h2 := hr k (by rw [← e, hx])
    omega
theorem Elt.older {w w' : World} {x : Value} {d : List Int} {r : Option Nat} (h : Ints w x d) (hb : Below w.heap.size w w') (hr : ∀ k, r = some k → w.heap.size ≤ k) : Elt w' r x d := by
  refine ⟨h.later hb, fun h0 e => ?_⟩
  rcases h.cases with ⟨q, _⟩ | ⟨b, off, c, rfl, _, _, _, HC⟩
  · rw [q] at h0; simp at h0
  · have h1 := World.block_lt_of_cell? _ _ (HC.out 0 h0)
    have h2 := hr b e.symm
    simp only at h1
    omega
theorem make_tens (n : Nat) (h : n ≤ 1000000000) :
    ∃ arr : Array Value, arr.size = n * 2 ∧ ∀ w : World, (Instr.makeSlice 68 (.int .i64 n) (.int .i64 n)).run Try.prog w = .ok (.slice (some ⟨w.heap.size, 0, none⟩) n n) (w.alloc (.cells arr 70)) := by
  obtain ⟨i, h1, h2, h3, h4⟩ := infoT
  refine ⟨_, size_madeCells (Value.cells (.agg #[.slice none 0 0, .slice none 0 0])) _, fun w => ?_⟩
  have := run_make (P := Try.prog) w 68 70 i (.agg #[.slice none 0 0, .slice none 0 0]) Try.underlying68 h1 h2 .i64 .i64 n n (by omega) (by omega) (by rw [h4]; omega) (by omega)
  rw [h3, Int.toNat_natCast] at this
  exact this
/-- The first k of the zeros are laid. -/
structure ZB (w : World) (Z n k : Nat) (Ls : List (List Int)) : Prop where
  blk : ∃ arr : Array Value, w.heap[Z]? = some (.cells arr 70 (0, 0)) ∧ arr.size = n * 2
  elt : ∀ i (h : i < Ls.length), i < k → ∃ x y, w.cell? ⟨Z, i * 2, none⟩ = some x ∧ w.cell? ⟨Z, i * 2 + 1, none⟩ = some y ∧ OwnT w (Z + 1) x y (zT Ls[i])
theorem ZB.lt {w : World} {Z n k : Nat} {Ls : List (List Int)} (h : ZB w Z n k Ls) : Z < w.heap.size := by
  obtain ⟨arr, ha, hs⟩ := h.blk
  exact (Array.getElem?_eq_some_iff.1 ha).1
theorem ZB.later {w w' : World} {Z n k : Nat} {Ls : List (List Int)} (hb : Below w.heap.size w w') (h : ZB w Z n k Ls) : ZB w' Z n k Ls := by
  have hlt := h.lt
  obtain ⟨arr, ha, hs⟩ := h.blk
  refine ⟨⟨arr, (hb.block Z hlt).trans ha, hs⟩, fun i h1 h2 => ?_⟩
  obtain ⟨x, y, c0, c1, ho⟩ := h.elt i h1 h2
  exact ⟨x, y, cell_later hb c0, cell_later hb c1, ho.later hb⟩
theorem ZB.cell {w : World} {Z n k : Nat} {Ls : List (List Int)} (h : ZB w Z n k Ls) (j : Nat) (hj : j < n * 2) : (∃ u, w.cell? ⟨Z, j, none⟩ = some u) ∧ w.frozen? ⟨Z, j, none⟩ = false := by
  obtain ⟨arr, ha, hs⟩ := h.blk
  refine ⟨⟨arr[j]'(by omega), ?_⟩, ?_⟩
  · rw [cell_of_row w Z j arr _ _ ha, Array.getElem?_eq_getElem (by omega)]
  · exact frozen_of_row w Z j arr _ ha
theorem ZB.put {w : World} {Z n k : Nat} {Ls : List (List Int)} {x y : Value} (h : ZB w Z n k Ls) (hk : k < Ls.length) (hn : Ls.length = n) (ho : OwnT w (Z + 1) x y (zT Ls[k])) :
    ZB ((w.setCell ⟨Z, k * 2, none⟩ x).setCell ⟨Z, k * 2 + 1, none⟩ y) Z n (k + 1) Ls := by
  obtain ⟨arr, ha, hs⟩ := h.blk
  have e1 := heap_setCell_same w Z (k * 2) arr 70 x ha
  have e2 := heap_setCell_same _ Z (k * 2 + 1) _ 70 y e1
  refine ⟨⟨_, e2, by simp [hs]⟩, fun i h1 h2 => ?_⟩
  by_cases hi : i = k
  · subst hi
    refine ⟨x, y, ?_, ?_, (ho.setCell _ _ (by simp)).setCell _ _ (by simp)⟩
    · rw [cell_of_row _ Z _ _ _ _ e2]
      have q1 : i * 2 < arr.size := by omega
      simp [Array.getElem?_setIfInBounds, q1]
    · rw [cell_of_row _ Z _ _ _ _ e2]
      have q1 : i * 2 + 1 < arr.size := by omega
      simp [Array.getElem?_setIfInBounds, q1]
  · obtain ⟨x', y', c0, c1, ho'⟩ := h.elt i h1 (by omega)
    refine ⟨x', y', ?_, ?_, (ho'.setCell _ _ (by simp)).setCell _ _ (by simp)⟩
    · rw [cell_of_row w Z _ _ _ _ ha] at c0
      rw [cell_of_row _ Z _ _ _ _ e2, Array.getElem?_setIfInBounds_ne (by omega), Array.getElem?_setIfInBounds_ne (by omega)]
      exact c0
    · rw [cell_of_row w Z _ _ _ _ ha] at c1
      rw [cell_of_row _ Z _ _ _ _ e2, Array.getElem?_setIfInBounds_ne (by omega), Array.getElem?_setIfInBounds_ne (by omega)]
      exact c1
theorem ZB.tensL {w : World} {Z n : Nat} {Ls : List (List Int)} (h : ZB w Z n n Ls) (hn : Ls.length = n) (hb : n ≤ big) : TensL w (.slice (some ⟨Z, 0, none⟩) n n) (Ls.map zT) := by
  refine ⟨by simp [hn]; exact hb, _, n, by rw [List.length_map, hn], by simp [hn], fun i hi => ?_⟩
  rw [List.length_map] at hi
  obtain ⟨x, y, c0, c1, ho⟩ := h.elt i hi (by omega)
  refine ⟨Z, 0, x, y, rfl, by simpa using c0, by simpa using c1, ?_⟩
  rw [List.getElem_map]
  exact ⟨ho.dims.ints, ho.data.ints⟩
set_option maxHeartbeats 4000000 in
theorem dims_any {vd v : Value} {d : List Int} {L : List (List Int)} {w : World} (k n : Int) (hd : Ints w vd d) (hl : IntsL w v L) (h2 : L.length ≤ 2) :
    Calls Try.prog 36 #[.int .i64 k, .int .i64 n, vd, v] w fun e w' => ∃ x, e = .returned (.tuple #[x, .int .i64 (diE k n d L)]) ∧ Own w' w.heap.size x (diR k n d L) ∧ Below w.heap.size w w' := by
  obtain ⟨_, va, vc, ev, hvc, hcell⟩ := hl
  obtain ⟨m, hm⟩ : ∃ m, L.length = m := ⟨_, rfl⟩
  rw [hm] at ev h2 hvc
  subst ev
  have HM : Hid (L.length = m) := hm
  have HD : Hid (Ints w vd d) := hd
  have HL : Hid (∀ i (h : i < L.length), ∃ b off x, va = some ⟨b, off, none⟩ ∧ w.cell? ⟨b, off + i, none⟩ = some x ∧ Ints w x L[i]) := hcell
  clear hd hm hcell
  cases hf : frm k n d m with
  | false =>
    have HF : Hid (frE k n d m = 1) := by show _ = _; rw [frE, hf]; rfl
    have HE : Hid (diE k n d L = 1 ∧ diR k n d L = []) := by show _ ∧ _; simp [diE, diR, HM.out, hf]
    clear hf
    go_enter Try.func36, Try.ntmps36
    go_wp2_with fail
    refine (form_any k n m (by unfold big; omega) HD.out 1 HF.out).mono ?_
    rintro e w1 ⟨rfl, hb1⟩
    have HB1 : Hid (Below w.heap.size w w1) := hb1
    clear hb1
    go_wp2
    go_ret2
    exact ⟨_, by rw [HE.out.1]; rfl, by rw [HE.out.2]; exact Own.nil _ _, HB1.out⟩
  | true =>
    have HF : Hid (frE k n d m = 0) := by show _ = _; rw [frE, hf]; rfl
    obtain ⟨⟨hk1, hk2⟩, hc, hdk, _⟩ := frm_parts hf
    have HC : Hid (L.length = many k.toNat) := by show _ = _; rw [HM.out]; exact hc
    by_cases h3 : k < 3
    · have HE : Hid (diE k n d L = 0 ∧ diR k n d L = d) := by show _ ∧ _; simp [diE, diR, HM.out, hf, h3]
      have hok : okd d = true := by
        have : k = 1 ∨ k = 2 := by omega
        rcases this with rfl | rfl <;> exact hdk
      have HK : Hid (1 ≤ d.length) := (okd_parts hok).1
      clear hf hc hdk hok
      have hk12 : k = 1 ∨ k = 2 := by omega
      clear h3 hk1 hk2
      rcases hk12 with rfl | rfl <;>
      · go_enter Try.func36, Try.ntmps36
        go_wp2_with fail
        refine (form_any _ n m (by unfold big; omega) HD.out 0 HF.out).mono ?_
        rintro e w1 ⟨rfl, hb1⟩
        have HB1 : Hid (Below w.heap.size w w1) := hb1
        clear hb1
        go_wp2_with fail
        refine (clone_own (HD.out.later HB1.out) HK.out).mono ?_
        rintro e w2 ⟨x, rfl, ho, hb2⟩
        have HO : Hid (Own w2 w.heap.size x d) := ho.mono HB1.out.size
        have HB2 : Hid (Below w.heap.size w w2) := Below.after HB1.out hb2
        clear ho hb2
        go_wp2
        go_ret2
        exact ⟨_, by rw [HE.out.1]; rfl, by rw [HE.out.2]; exact HO.out, HB2.out⟩
    · have n1 : ¬ k = 1 := by omega
      have n2 : ¬ k = 2 := by omega
      have b1 : (k == 1) = false := by simpa using n1
      have b2 : (k == 2) = false := by simpa using n2
      have HE : Hid (diE k n d L = (if L.all okd = true then vE k.toNat n d ((L.map zT).getD 0 no) ((L.map zT).getD 1 no) else 1) ∧ diR k n d L = (if L.all okd = true then (vR k.toNat n d ((L.map zT).getD 0 no) ((L.map zT).getD 1 no)).1 else [])) := by show _ ∧ _; simp only [diE, diR, HM.out, hf, if_true, if_neg h3]; exact ⟨trivial, trivial⟩
      have HV : Hid (∀ {w : World} {u : Value} (hd : Ints w vd d) (hl : TensL w u (L.map zT)), Calls Try.prog 48 #[.int .i64 k, .int .i64 n, vd, u] w fun e w' => ∃ x0 x1, e = .returned (.tuple #[.agg #[x0, x1], .int .i64 (vE k.toNat n d ((L.map zT).getD 0 no) ((L.map zT).getD 1 no))]) ∧ OwnT w' w.heap.size x0 x1 (vR k.toNat n d ((L.map zT).getD 0 no) ((L.map zT).getD 1 no)) ∧ Below w.heap.size w w') := by
        intro w u hd hl
        exact value_any k n ⟨hk1, hk2⟩ (by rw [List.length_map]; exact HC.out) hd hl
      obtain ⟨arr, harr, hmk⟩ := make_tens m (by omega)
      have HARR : Hid (arr.size = m * 2) := harr
      clear hf hc hdk hk1 hk2 h3 harr
      go_enter Try.func36, Try.ntmps36
      go_wp2_with fail
      refine (form_any _ n m (by unfold big; omega) HD.out 0 HF.out).mono ?_
      rintro e w1 ⟨rfl, hb1⟩
      have HB1 : Hid (Below w.heap.size w w1) := hb1
      have hs1 := hb1.size
      have HZ1 : Hid (ZB (w1.alloc (.cells arr 70)) w1.heap.size m 0 L) := ⟨⟨arr, heap_alloc_new w1 _, HARR.out⟩, fun i h1 h2 => by omega⟩
      have HB2 : Hid (Below w.heap.size w (w1.alloc (.cells arr 70))) := hb1.alloc hs1 _
      clear hb1
      go_upto_region 6 with fail
      generalize hU : w1.alloc (.cells arr 70) = U at HZ1 HB2 ⊢
      clear hU hmk HARR
      obtain ⟨Z, hZ⟩ : ∃ Z, w1.heap.size = Z := ⟨_, rfl⟩
      rw [hZ] at HZ1 hs1 ⊢
      have HIN : Hid (∀ {w' : World}, Below w.heap.size w w' → Ints w' vd d) := fun hb => HD.out.later hb
      clear hZ HB1
      go_wp2
      go_loopw [37] (fun i w' => ∃ (j : Nat), j ≤ m ∧ i = .int .i64 j ∧ Hid (ZB w' Z m j L) ∧ Hid (Below w.heap.size w w') ∧ Hid (∀ q (h : q < L.length), q < j → okd L[q] = true)) (fun i _ => m - (intOf i).toNat)
      case atStart => exact ⟨0, Nat.zero_le _, rfl, HZ1, HB2, fun q h1 h2 => by omega⟩
      case round =>
        obtain ⟨j, hj, rfl, HZ, HB, HK⟩ := hrel
        by_cases hlt : j < m
        · have hlt' : j < L.length := by rw [HM.out]; exact hlt
          obtain ⟨b, off, x, rfl, c0, hx⟩ := HL.out j hlt'
          have d0 := cell_later HB.out c0
          have HX : Hid (Ints wr x L[j]) := hx.later HB.out
          obtain ⟨xa, xn, xc, rfl⟩ := hx.shape3
          have hsz := HB.out.size
          have hzl := HZ.out.lt
          clear c0 hx
          cases hok : okd L[j] with
          | false =>
            have HF2 : Hid (erf L[j] = 1) := erf_bad hok
            have HE2 : Hid (diE k n d L = 1 ∧ diR k n d L = []) := by
              show _ ∧ _
              have : ¬ L.all okd = true := by
                rw [List.all_eq_true]
                intro h
                have := h L[j] (List.getElem_mem hlt')
                rw [hok] at this
                cases this
              rw [HE.out.1, HE.out.2, if_neg this, if_neg this]
              exact ⟨rfl, rfl⟩
            clear hok
            go_wp2_with fail
            refine (fill_to 0 1 _ HX.out HF2.out rfl).mono ?_
            rintro e w2 ⟨x0, x1, rfl, ho, hb2⟩
            obtain ⟨pa, pn, pc, rfl⟩ := ho.dims.ints.shape3
            obtain ⟨qa, qn, qc, rfl⟩ := ho.data.ints.shape3
            have HB3 : Hid (Below w.heap.size w (w2.alloc (.cells #[.slice pa pn pc, .slice qa qn qc] 70))) := Below.push (Below.after HB.out hb2) _
            clear ho hb2
            go_wp2
            go_ret2
            exact ⟨_, by rw [HE2.out.1]; rfl, by rw [HE2.out.2]; exact Own.nil _ _, HB3.out⟩
          | true =>
            have HF2 : Hid (erf L[j] = 0) := erf_ok hok
            have HO0 : Hid (okd L[j] = true) := hok
            have HV3 : Hid (vR 3 0 L[j] no no = zT L[j]) := by show _ = _; simp [vR, hok, zT]
            clear hok
            go_wp2_with fail
            refine (fill_to 0 0 _ HX.out HF2.out HV3.out).mono ?_
            rintro e w2 ⟨x0, x1, rfl, ho, hb2⟩
            obtain ⟨pa, pn, pc, rfl⟩ := ho.dims.ints.shape3
            obtain ⟨qa, qn, qc, rfl⟩ := ho.data.ints.shape3
            have ho2 : OwnT w2 (Z + 1) (.slice pa pn pc) (.slice qa qn qc) (zT L[j]) := ho.mono hzl
            go_upto_region 10 with fail
            obtain ⟨U2, hU2⟩ : ∃ U2, U2 = w2.alloc (.cells #[.slice pa pn pc, .slice qa qn qc] 70) := ⟨_, rfl⟩
            have hb3 : Below wr.heap.size wr U2 := by rw [hU2]; exact Below.push hb2 _
            have hbx : Box U2 w2.heap.size (.slice pa pn pc) (.slice qa qn qc) := by rw [hU2]; exact Box.new w2 _ _
            have ho3 : OwnT U2 (Z + 1) (.slice pa pn pc) (.slice qa qn qc) (zT L[j]) := by rw [hU2]; exact ho2.later (Below.push (Below.refl _ _) _)
            rw [← hU2]
            have hz3 := HZ.out.later hb3
            obtain ⟨⟨u0, z0⟩, f0⟩ := hz3.cell (j * 2) (by omega)
            obtain ⟨⟨u1, z1⟩, f1⟩ := hz3.cell (j * 2 + 1) (by omega)
            have l0 := hbx.c0
            have l1 := hbx.c1
            have HZ4 : Hid (ZB ((U2.setCell ⟨Z, j * 2, none⟩ (.slice pa pn pc)).setCell ⟨Z, j * 2 + 1, none⟩ (.slice qa qn qc)) Z m (j + 1) L) := hz3.put hlt' HM.out ho3
            have HB4 : Hid (Below w.heap.size w ((U2.setCell ⟨Z, j * 2, none⟩ (.slice pa pn pc)).setCell ⟨Z, j * 2 + 1, none⟩ (.slice qa qn qc))) := ((Below.after HB.out hb3).setCell hs1 _).setCell hs1 _
            clear hU2 hb3 hbx ho3 ho2 ho hb2 hz3
            go_wp2
            go_roundw
            case rel =>
              refine ⟨j + 1, by omega, by go_num, HZ4.out, HB4.out, fun q h1 h2 => ?_⟩
              by_cases e : q = j
              · subst e; exact HO0.out
              · exact HK.out q h1 (by omega)
            case measure => simp [intOf]; omega
        · obtain rfl : j = m := by omega
          have hall : L.all okd = true := by
            rw [List.all_eq_true]
            intro t ht
            obtain ⟨q, hq, rfl⟩ := List.getElem_of_mem ht
            exact HK.out q hq (by rw [← HM.out]; exact hq)
          have HE2 : Hid (diE k n d L = vE k.toNat n d ((L.map zT).getD 0 no) ((L.map zT).getD 1 no) ∧ diR k n d L = (vR k.toNat n d ((L.map zT).getD 0 no) ((L.map zT).getD 1 no)).1) := by
            show _ ∧ _
            rw [HE.out.1, HE.out.2, if_pos hall, if_pos hall]
            exact ⟨rfl, rfl⟩
          clear hall HE
          obtain ⟨x, hx⟩ : ∃ x, vE k.toNat n d ((L.map zT).getD 0 no) ((L.map zT).getD 1 no) = x := ⟨_, rfl⟩
          obtain ⟨u, hu⟩ : ∃ u, vR k.toNat n d ((L.map zT).getD 0 no) ((L.map zT).getD 1 no) = u := ⟨_, rfl⟩
          rw [hx, hu] at HE2 HV
          clear hx hu
          have HT : Hid (TensL wr (.slice (some ⟨Z, 0, none⟩) j j) (L.map zT)) := HZ.out.tensL HM.out (by unfold big; omega)
          have hsz := HB.out.size
          go_wp2_with fail
          refine (HV.out (HIN.out HB.out) HT.out).mono ?_
          rintro e w2 ⟨x0, x1, rfl, ho, hb2⟩
          obtain ⟨pa, pn, pc, rfl⟩ := ho.dims.ints.shape3
          obtain ⟨qa, qn, qc, rfl⟩ := ho.data.ints.shape3
          have HO : Hid (Own (w2.alloc (.cells #[.slice pa pn pc, .slice qa qn qc] 70)) w.heap.size (.slice pa pn pc) u.1) := (ho.dims.mono hsz).later (Below.push (Below.refl _ _) _)
          have HB3 : Hid (Below w.heap.size w (w2.alloc (.cells #[.slice pa pn pc, .slice qa qn qc] 70))) := Below.push (Below.after HB.out hb2) _
          clear ho hb2
          go_wp2
          go_ret2
          exact ⟨_, by rw [HE2.out.1]; rfl, by rw [HE2.out.2]; exact HO.out, HB3.out⟩
theorem frm_partsM {k n : Int} {d : List Int} {c : Nat} (h : frm k n d c = true) : (1 ≤ k ∧ k ≤ 17) ∧ c = many k.toNat ∧ dok k.toNat d = true ∧ nok k.toNat n = true := by
  simp only [frm, frmN, Bool.and_eq_true, decide_eq_true_eq] at h
  exact ⟨h.1, h.2.1.1, h.2.1.2, h.2.2⟩
theorem many_3 {k : Nat} (h : k ≤ 3) : many k = 0 := by rw [many, if_pos h]
theorem di_no {k n : Int} {d : List Int} {P : List (List Int)} (h : ¬ may k n d P = true) : diE k n d P = 1 ∧ diR k n d P = [] := by
  cases hf : frm k n d P.length with
  | false => simp [diE, diR, hf]
  | true =>
    obtain ⟨hk, hc, _, _⟩ := frm_partsM hf
    have ha : ¬ P.all okd = true := fun ha => h (by rw [may, hf, ha]; rfl)
    have h3 : ¬ k < 3 := by
      intro h3
      have : P = [] := List.eq_nil_of_length_eq_zero (by rw [hc]; exact many_3 (by omega))
      subst this
      exact ha rfl
    simp only [diE, diR, hf, if_true, if_neg h3, if_neg ha]
    exact ⟨trivial, trivial⟩
theorem di_yes {k n : Int} {d : List Int} {P : List (List Int)} (h : may k n d P = true) :
    diE k n d P = (if inf k.toNat n d (P.getD 0 []) (P.getD 1 []) then 0 else 4) ∧ diR k n d P = (if inf k.toNat n d (P.getD 0 []) (P.getD 1 []) then inD k.toNat n d (P.getD 0 []) (P.getD 1 []) else []) := by
  simp only [may, Bool.and_eq_true] at h
  obtain ⟨hf, ha⟩ := h
  obtain ⟨hk, hc, hd, hn⟩ := frm_partsM hf
  by_cases h3 : k < 3
  · have hk' : k = 1 ∨ k = 2 := by omega
    rcases hk' with rfl | rfl <;> simp [diE, diR, hf, inf, inD]
  · have hz0 : ((P.map zT).getD 0 no).1 = P.getD 0 [] := by cases P <;> rfl
    have hz1 : ((P.map zT).getD 1 no).1 = P.getD 1 [] := by
      match P with
      | [] => rfl
      | [a] => rfl
      | a :: b :: c => rfl
    have hs : many k.toNat = 0 ∨ tok ((P.map zT).getD 0 no) = true := by
      match P, hc, ha with
      | [], hc, _ => exact Or.inl hc.symm
      | a :: c, hc, ha =>
        refine Or.inr (tok_zT ?_)
        simp at ha
        exact ha.1
    have ht : many k.toNat ≤ 1 ∨ tok ((P.map zT).getD 1 no) = true := by
      match P, hc, ha with
      | [], hc, _ => exact Or.inl (by simp at hc; omega)
      | [a], hc, _ => exact Or.inl (by simp at hc; omega)
      | a :: b :: c, hc, ha =>
        refine Or.inr (tok_zT ?_)
        simp at ha
        exact ha.2.1
    obtain ⟨h1, h2⟩ := vE_inf (k := k.toNat) (by omega) (by omega) hd hn hs ht
    rw [hz0, hz1] at h1 h2
    simp only [diE, diR, hf, if_true, if_neg h3, if_pos ha]
    refine ⟨h1, ?_⟩
    rw [h2]
    cases inf k.toNat n d (P.getD 0 []) (P.getD 1 []) <;> rfl
def manyI (k : Int) : Int := if 1 ≤ k ∧ k ≤ 17 then (many k.toNat : Int) else -1
set_option maxHeartbeats 400000 in
theorem many_k1 (w : World) : Calls Try.prog 37 #[.int .i64 1] w fun e w' => e = .returned (.int .i64 (manyI 1)) ∧ w = w' := by
  go_enter Try.func37, Try.ntmps37
  go_wp2
  go_ret
  exact ⟨rfl, rfl⟩
set_option maxHeartbeats 400000 in
theorem many_k2 (w : World) : Calls Try.prog 37 #[.int .i64 2] w fun e w' => e = .returned (.int .i64 (manyI 2)) ∧ w = w' := by
  go_enter Try.func37, Try.ntmps37
  go_wp2
  go_ret
  exact ⟨rfl, rfl⟩
set_option maxHeartbeats 400000 in
theorem many_k3 (w : World) : Calls Try.prog 37 #[.int .i64 3] w fun e w' => e = .returned (.int .i64 (manyI 3)) ∧ w = w' := by
  go_enter Try.func37, Try.ntmps37
  go_wp2
  go_ret
  exact ⟨rfl, rfl⟩
set_option maxHeartbeats 400000 in
theorem many_k4 (w : World) : Calls Try.prog 37 #[.int .i64 4] w fun e w' => e = .returned (.int .i64 (manyI 4)) ∧ w = w' := by
  go_enter Try.func37, Try.ntmps37
  go_wp2
  go_ret
  exact ⟨rfl, rfl⟩
set_option maxHeartbeats 400000 in
theorem many_k5 (w : World) : Calls Try.prog 37 #[.int .i64 5] w fun e w' => e = .returned (.int .i64 (manyI 5)) ∧ w = w' := by
  go_enter Try.func37, Try.ntmps37
  go_wp2
  go_ret
  exact ⟨rfl, rfl⟩
set_option maxHeartbeats 400000 in
theorem many_k6 (w : World) : Calls Try.prog 37 #[.int .i64 6] w fun e w' => e = .returned (.int .i64 (manyI 6)) ∧ w = w' := by
  go_enter Try.func37, Try.ntmps37
  go_wp2
  go_ret
  exact ⟨rfl, rfl⟩
set_option maxHeartbeats 400000 in
theorem many_k7 (w : World) : Calls Try.prog 37 #[.int .i64 7] w fun e w' => e = .returned (.int .i64 (manyI 7)) ∧ w = w' := by
  go_enter Try.func37, Try.ntmps37
  go_wp2_with (go_at_call 28; refine (between_t _ _ _ _ (by decide) (by decide)).mono ?_; rintro e w2 ⟨rfl, rfl⟩)
  go_ret
  exact ⟨rfl, rfl⟩
set_option maxHeartbeats 400000 in
theorem many_k8 (w : World) : Calls Try.prog 37 #[.int .i64 8] w fun e w' => e = .returned (.int .i64 (manyI 8)) ∧ w = w' := by
  go_enter Try.func37, Try.ntmps37
  go_wp2_with (go_at_call 28; refine (between_t _ _ _ _ (by decide) (by decide)).mono ?_; rintro e w2 ⟨rfl, rfl⟩)
  go_ret
  exact ⟨rfl, rfl⟩
set_option maxHeartbeats 400000 in
theorem many_k9 (w : World) : Calls Try.prog 37 #[.int .i64 9] w fun e w' => e = .returned (.int .i64 (manyI 9)) ∧ w = w' := by
  go_enter Try.func37, Try.ntmps37
  go_wp2
  go_ret
  exact ⟨rfl, rfl⟩
set_option maxHeartbeats 400000 in
theorem many_k10 (w : World) : Calls Try.prog 37 #[.int .i64 10] w fun e w' => e = .returned (.int .i64 (manyI 10)) ∧ w = w' := by
  go_enter Try.func37, Try.ntmps37
  go_wp2_with (go_at_call 28; refine (between_t _ _ _ _ (by decide) (by decide)).mono ?_; rintro e w2 ⟨rfl, rfl⟩)
  go_ret
  exact ⟨rfl, rfl⟩
set_option maxHeartbeats 400000 in
theorem many_k11 (w : World) : Calls Try.prog 37 #[.int .i64 11] w fun e w' => e = .returned (.int .i64 (manyI 11)) ∧ w = w' := by
  go_enter Try.func37, Try.ntmps37
  go_wp2_with (go_at_call 28; refine (between_t _ _ _ _ (by decide) (by decide)).mono ?_; rintro e w2 ⟨rfl, rfl⟩)
  go_ret
  exact ⟨rfl, rfl⟩
set_option maxHeartbeats 400000 in
theorem many_k12 (w : World) : Calls Try.prog 37 #[.int .i64 12] w fun e w' => e = .returned (.int .i64 (manyI 12)) ∧ w = w' := by
  go_enter Try.func37, Try.ntmps37
  go_wp2_with (go_at_call 28; refine (between_t _ _ _ _ (by decide) (by decide)).mono ?_; rintro e w2 ⟨rfl, rfl⟩)
  go_ret
  exact ⟨rfl, rfl⟩
set_option maxHeartbeats 400000 in
theorem many_k13 (w : World) : Calls Try.prog 37 #[.int .i64 13] w fun e w' => e = .returned (.int .i64 (manyI 13)) ∧ w = w' := by
  go_enter Try.func37, Try.ntmps37
  go_wp2_with (go_at_call 28; refine (between_t _ _ _ _ (by decide) (by decide)).mono ?_; rintro e w2 ⟨rfl, rfl⟩)
  go_ret
  exact ⟨rfl, rfl⟩
set_option maxHeartbeats 400000 in
theorem many_k14 (w : World) : Calls Try.prog 37 #[.int .i64 14] w fun e w' => e = .returned (.int .i64 (manyI 14)) ∧ w = w' := by
  go_enter Try.func37, Try.ntmps37
  go_wp2_with (go_at_call 28; refine (between_t _ _ _ _ (by decide) (by decide)).mono ?_; rintro e w2 ⟨rfl, rfl⟩)
  go_ret
  exact ⟨rfl, rfl⟩
set_option maxHeartbeats 400000 in
theorem many_k15 (w : World) : Calls Try.prog 37 #[.int .i64 15] w fun e w' => e = .returned (.int .i64 (manyI 15)) ∧ w = w' := by
  go_enter Try.func37, Try.ntmps37
  go_wp2_with (go_at_call 28; refine (between_t _ _ _ _ (by decide) (by decide)).mono ?_; rintro e w2 ⟨rfl, rfl⟩)
  go_ret
  exact ⟨rfl, rfl⟩
end Go.Proofs.Ytjfkhfahpjdidaa
