/- Contracts: kernel's value, of any kind; kernel's Do. -/
import Derived.Test.YtheddpjaihhbdabGreatA3
namespace Go.Proofs.YtheddpjaihhbdabGreat
set_option linter.unusedVariables false
set_option linter.unusedSimpArgs false
set_option maxRecDepth 100000
open Go.RowKit

theorem TensL.one {w : World} {v : Value} {s : Ten} (h : TensL w v [s]) : ∃ P off c x y, v = .slice (some ⟨P, off, none⟩) 1 c ∧ 1 ≤ c ∧ w.cell? ⟨P, off, none⟩ = some x ∧ w.cell? ⟨P, off + 1, none⟩ = some y ∧ Tens w x y s := by
  obtain ⟨_, a, c, rfl, hc, HC⟩ := h
  obtain ⟨b, off, x, y, rfl, c0, c1, ht⟩ := HC 0 (by simp)
  exact ⟨b, off, c, x, y, rfl, hc, by simpa using c0, by simpa using c1, ht⟩
theorem TensL.two {w : World} {v : Value} {s t : Ten} (h : TensL w v [s, t]) : ∃ P off c x y p q, v = .slice (some ⟨P, off, none⟩) 2 c ∧ 2 ≤ c ∧ w.cell? ⟨P, off, none⟩ = some x ∧ w.cell? ⟨P, off + 1, none⟩ = some y ∧ w.cell? ⟨P, off + 2, none⟩ = some p ∧ w.cell? ⟨P, off + 3, none⟩ = some q ∧ Tens w x y s ∧ Tens w p q t := by
  obtain ⟨_, a, c, rfl, hc, HC⟩ := h
  obtain ⟨b, off, x, y, rfl, c0, c1, ht⟩ := HC 0 (by simp)
  obtain ⟨b', off', p, q, e, c2, c3, hu⟩ := HC 1 (by simp)
  simp only [Option.some.injEq, Addr.mk.injEq, and_true] at e
  obtain ⟨rfl, rfl⟩ := e
  exact ⟨b, off, c, x, y, p, q, rfl, hc, by simpa using c0, by simpa using c1, by simpa using c2, by simpa using c3, ht, hu⟩
set_option maxHeartbeats 1000000 in
theorem value_k1 {vd vl : Value} {w : World} (n : Int) :
    Calls Tryz.prog 38 #[.int .i64 1, .int .i64 n, vd, vl] w fun e w' => ∃ x0 x1, e = .returned (.tuple #[.agg #[x0, x1], .int .i64 1]) ∧ OwnT w' w.heap.size x0 x1 ([], []) ∧ Below w.heap.size w w' := by
  obtain ⟨U, hU⟩ : ∃ U, U = w.alloc (.cells #[.slice none 0 0, .slice none 0 0] 34) := ⟨_, rfl⟩
  have HB : Hid (Below w.heap.size w U) := by show Below _ _ _; rw [hU]; exact (Below.refl _ _).alloc (Nat.le_refl _) _
  have hbx : Box U w.heap.size (.slice none 0 0) (.slice none 0 0) := by rw [hU]; exact Box.new w _ _
  have l0 := hbx.c0
  have l1 := hbx.c1
  have m0 := hbx.f 0
  have m1 := hbx.f 1
  have HBS : Hid (Box _ _ _ _) := hbx.set (.slice none 0 0) (.slice none 0 0)
  clear hbx
  go_enter Tryz.func38, Tryz.ntmps38
  go_upto_region 1 with fail
  rw [← hU]
  clear hU
  go_wp2
  have hr0 := HBS.out.c0
  have hr1 := HBS.out.c1
  refine bodyPost_ret (v := .tuple #[.agg #[.slice none 0 0, .slice none 0 0], .int .i64 1]) (by simp [results, Tryz.results38, go_sem, hr0, hr1]) rfl ⟨_, _, rfl, OwnT.nil _ _, ?_⟩
  exact (HB.out.setCell (by simp) _).setCell (by simp) _
set_option maxHeartbeats 1000000 in
theorem value_k2 {vd vl : Value} {w : World} (n : Int) :
    Calls Tryz.prog 38 #[.int .i64 2, .int .i64 n, vd, vl] w fun e w' => ∃ x0 x1, e = .returned (.tuple #[.agg #[x0, x1], .int .i64 1]) ∧ OwnT w' w.heap.size x0 x1 ([], []) ∧ Below w.heap.size w w' := by
  obtain ⟨U, hU⟩ : ∃ U, U = w.alloc (.cells #[.slice none 0 0, .slice none 0 0] 34) := ⟨_, rfl⟩
  have HB : Hid (Below w.heap.size w U) := by show Below _ _ _; rw [hU]; exact (Below.refl _ _).alloc (Nat.le_refl _) _
  have hbx : Box U w.heap.size (.slice none 0 0) (.slice none 0 0) := by rw [hU]; exact Box.new w _ _
  have l0 := hbx.c0
  have l1 := hbx.c1
  have m0 := hbx.f 0
  have m1 := hbx.f 1
  have HBS : Hid (Box _ _ _ _) := hbx.set (.slice none 0 0) (.slice none 0 0)
  clear hbx
  go_enter Tryz.func38, Tryz.ntmps38
  go_upto_region 1 with fail
  rw [← hU]
  clear hU
  go_wp2
  have hr0 := HBS.out.c0
  have hr1 := HBS.out.c1
  refine bodyPost_ret (v := .tuple #[.agg #[.slice none 0 0, .slice none 0 0], .int .i64 1]) (by simp [results, Tryz.results38, go_sem, hr0, hr1]) rfl ⟨_, _, rfl, OwnT.nil _ _, ?_⟩
  exact (HB.out.setCell (by simp) _).setCell (by simp) _
theorem len0 {α : Type} {l : List α} {m : Nat} (h : l.length = m) (hm : m = 0) : l = [] := List.eq_nil_of_length_eq_zero (by omega)
theorem len1 {α : Type} {l : List α} (h : l.length = 1) : ∃ x, l = [x] := by
  match l, h with
  | [x], _ => exact ⟨x, rfl⟩
theorem len2 {α : Type} {l : List α} (h : l.length = 2) : ∃ x y, l = [x, y] := by
  match l, h with
  | [x, y], _ => exact ⟨x, y, rfl⟩
theorem value_any {vd v : Value} {d : List Int} {L : List Ten} {w : World} (k n : Int) (h : 1 ≤ k ∧ k ≤ 17) (hm : L.length = many k.toNat) (hd : Ints w vd d) (hl : TensL w v L) :
    Calls Tryz.prog 38 #[.int .i64 k, .int .i64 n, vd, v] w fun e w' => ∃ x0 x1, e = .returned (.tuple #[.agg #[x0, x1], .int .i64 (vE k.toNat n d (L.getD 0 no) (L.getD 1 no))]) ∧ OwnT w' w.heap.size x0 x1 (vR k.toNat n d (L.getD 0 no) (L.getD 1 no)) ∧ Below w.heap.size w w' := by
  have hk : k = 1 ∨ k = 2 ∨ k = 3 ∨ k = 4 ∨ k = 5 ∨ k = 6 ∨ k = 7 ∨ k = 8 ∨ k = 9 ∨ k = 10 ∨ k = 11 ∨ k = 12 ∨ k = 13 ∨ k = 14 ∨ k = 15 ∨ k = 16 ∨ k = 17 := by omega
  rcases hk with rfl | rfl | rfl | rfl | rfl | rfl | rfl | rfl | rfl | rfl | rfl | rfl | rfl | rfl | rfl | rfl | rfl
  · obtain rfl := len0 hm rfl
    exact value_k1 n
  · obtain rfl := len0 hm rfl
    exact value_k2 n
  · obtain rfl := len0 hm rfl
    exact value_k3 n hd
  · obtain ⟨s, t, rfl⟩ := len2 hm
    obtain ⟨P, off, c, x, y, p, q, rfl, hc, c0, c1, c2, c3, ht, hu⟩ := hl.two
    exact value_k4 n hc ht hu c0 c1 c2 c3 hd
  · obtain ⟨s, t, rfl⟩ := len2 hm
    obtain ⟨P, off, c, x, y, p, q, rfl, hc, c0, c1, c2, c3, ht, hu⟩ := hl.two
    exact value_k5 n hc ht hu c0 c1 c2 c3 hd
  · obtain ⟨s, t, rfl⟩ := len2 hm
    obtain ⟨P, off, c, x, y, p, q, rfl, hc, c0, c1, c2, c3, ht, hu⟩ := hl.two
    exact value_k6 n hc ht hu c0 c1 c2 c3 hd
  · obtain ⟨s, rfl⟩ := len1 hm
    obtain ⟨P, off, c, x, y, rfl, hc, c0, c1, ht⟩ := hl.one
    exact value_k7 n hc ht c0 c1 hd
  · obtain ⟨s, rfl⟩ := len1 hm
    obtain ⟨P, off, c, x, y, rfl, hc, c0, c1, ht⟩ := hl.one
    exact value_k8 n hc ht c0 c1 hd
  · obtain ⟨s, t, rfl⟩ := len2 hm
    obtain ⟨P, off, c, x, y, p, q, rfl, hc, c0, c1, c2, c3, ht, hu⟩ := hl.two
    exact value_k9 n hc ht hu c0 c1 c2 c3 hd
  · obtain ⟨s, rfl⟩ := len1 hm
    obtain ⟨P, off, c, x, y, rfl, hc, c0, c1, ht⟩ := hl.one
    exact value_k10 n hc ht c0 c1 hd
  · obtain ⟨s, rfl⟩ := len1 hm
    obtain ⟨P, off, c, x, y, rfl, hc, c0, c1, ht⟩ := hl.one
    exact value_k11 n hc ht c0 c1 hd
  · obtain ⟨s, rfl⟩ := len1 hm
    obtain ⟨P, off, c, x, y, rfl, hc, c0, c1, ht⟩ := hl.one
    exact value_k12 n hc ht c0 c1 hd
  · obtain ⟨s, rfl⟩ := len1 hm
    obtain ⟨P, off, c, x, y, rfl, hc, c0, c1, ht⟩ := hl.one
    exact value_k13 n hc ht c0 c1 hd
  · obtain ⟨s, rfl⟩ := len1 hm
    obtain ⟨P, off, c, x, y, rfl, hc, c0, c1, ht⟩ := hl.one
    exact value_k14 n hc ht c0 c1 hd
  · obtain ⟨s, rfl⟩ := len1 hm
    obtain ⟨P, off, c, x, y, rfl, hc, c0, c1, ht⟩ := hl.one
    exact value_k15 n hc ht c0 c1 hd
  · obtain ⟨s, t, rfl⟩ := len2 hm
    obtain ⟨P, off, c, x, y, p, q, rfl, hc, c0, c1, c2, c3, ht, hu⟩ := hl.two
    exact value_k16 n hc ht hu c0 c1 c2 c3 hd
  · obtain ⟨s, t, rfl⟩ := len2 hm
    obtain ⟨P, off, c, x, y, p, q, rfl, hc, c0, c1, c2, c3, ht, hu⟩ := hl.two
    exact value_k17 n hc ht hu c0 c1 c2 c3 hd
theorem frm_parts {k n : Int} {d : List Int} {c : Nat} (h : frm k n d c = true) : (1 ≤ k ∧ k ≤ 17) ∧ c = many k.toNat ∧ dok k.toNat d = true ∧ nok k.toNat n = true := by
  simp only [frm, frmN, Bool.and_eq_true, decide_eq_true_eq] at h
  exact ⟨h.1, h.2.1.1, h.2.1.2, h.2.2⟩
set_option maxHeartbeats 1000000 in
theorem do_any {vd v : Value} {d : List Int} {L : List Ten} {w : World} (k n : Int) (hd : Ints w vd d) (hl : TensL w v L) :
    Calls Tryz.prog 20 #[.int .i64 k, .int .i64 n, vd, v] w fun e w' => ∃ x0 x1, e = .returned (.tuple #[.agg #[x0, x1], .int .i64 (doE k n d L)]) ∧ OwnT w' w.heap.size x0 x1 (doR k n d L) ∧ Below w.heap.size w w' := by
  have hbig := hl.1
  obtain ⟨va, vc, ev⟩ : ∃ va vc, v = .slice va L.length vc := by obtain ⟨_, a, c, e, _⟩ := hl; exact ⟨a, c, e⟩
  obtain ⟨m, hm⟩ : ∃ m, L.length = m := ⟨_, rfl⟩
  rw [hm] at ev hbig
  subst ev
  have HM : Hid (L.length = m) := hm
  obtain ⟨U, hU⟩ : ∃ U, U = w.alloc (.cells #[.slice none 0 0, .slice none 0 0] 34) := ⟨_, rfl⟩
  have hb : Below w.heap.size w U := by rw [hU]; exact (Below.refl _ _).alloc (Nat.le_refl _) _
  have HB : Hid (Below w.heap.size w U) := hb
  have HD : Hid (Ints U vd d) := hd.later hb
  have HL : Hid (TensL U (.slice va m vc) L) := hl.later hb
  have HBX : Hid (Box U w.heap.size (.slice none 0 0) (.slice none 0 0)) := by show Box _ _ _ _; rw [hU]; exact Box.new w _ _
  have hsU : w.heap.size + 1 ≤ U.heap.size := by rw [hU]; simp
  have HG : Hid (m ≤ big) := hbig
  clear hd hl hb hm hbig
  cases hf : frm k n d m with
  | false =>
    have HF : Hid (frE k n d m = 1) := by show _ = _; rw [frE, hf]; rfl
    have HE : Hid (doE k n d L = 1 ∧ doR k n d L = ([], [])) := by show _ ∧ _; simp [doE, doR, HM.out, hf]
    clear hf
    go_enter Tryz.func20, Tryz.ntmps20
    go_wp2_with fail
    rw [← hU]
    clear hU
    refine (form_any k n m HG.out HD.out 1 HF.out).mono ?_
    rintro e w1 ⟨rfl, hb1⟩
    have HB1 : Hid (Below w.heap.size w w1) := Below.after HB.out hb1
    have hbx := HBX.out.later hb1
    have l0 := hbx.c0
    have l1 := hbx.c1
    have m0 := hbx.f 0
    have m1 := hbx.f 1
    have HBS : Hid (Box _ _ _ _) := hbx.set (.slice none 0 0) (.slice none 0 0)
    clear hbx hb1
    go_wp2
    have hr0 := HBS.out.c0
    have hr1 := HBS.out.c1
    refine bodyPost_ret (v := .tuple #[.agg #[.slice none 0 0, .slice none 0 0], .int .i64 1]) (by simp [results, Tryz.results20, go_sem, hr0, hr1]) rfl ⟨_, _, by rw [HE.out.1], ?_, ?_⟩
    · rw [HE.out.2]; exact OwnT.nil _ _
    · exact (HB1.out.setCell (by simp) _).setCell (by simp) _
  | true =>
    have HF : Hid (frE k n d m = 0) := by show _ = _; rw [frE, hf]; rfl
    obtain ⟨hk, hc, _, _⟩ := frm_parts hf
    have HC : Hid ((1 ≤ k ∧ k ≤ 17) ∧ L.length = many k.toNat) := ⟨hk, by rw [HM.out]; exact hc⟩
    have HE : Hid (doE k n d L = vE k.toNat n d (L.getD 0 no) (L.getD 1 no) ∧ doR k n d L = vR k.toNat n d (L.getD 0 no) (L.getD 1 no)) := by show _ ∧ _; simp [doE, doR, HM.out, hf]
    rw [HE.out.1, HE.out.2]
    obtain ⟨x, hx⟩ : ∃ x, vE k.toNat n d (L.getD 0 no) (L.getD 1 no) = x := ⟨_, rfl⟩
    obtain ⟨u, hu⟩ : ∃ u, vR k.toNat n d (L.getD 0 no) (L.getD 1 no) = u := ⟨_, rfl⟩
    have HV : Hid (∀ {w : World} (hd : Ints w vd d) (hl : TensL w (.slice va m vc) L), Calls Tryz.prog 38 #[.int .i64 k, .int .i64 n, vd, .slice va m vc] w fun e w' => ∃ x0 x1, e = .returned (.tuple #[.agg #[x0, x1], .int .i64 x]) ∧ OwnT w' w.heap.size x0 x1 u ∧ Below w.heap.size w w') := by
      intro w hd hl
      have := value_any k n HC.out.1 HC.out.2 hd hl
      rw [hx, hu] at this
      exact this
    rw [hx, hu]
    clear hf hk hc HE hx hu HC
    go_enter Tryz.func20, Tryz.ntmps20
    go_wp2_with fail
    rw [← hU]
    clear hU
    refine (form_any k n m HG.out HD.out 0 HF.out).mono ?_
    rintro e w1 ⟨rfl, hb1⟩
    have HB1 : Hid (Below U.heap.size U w1) := hb1
    have hs1 := hb1.size
    clear hb1
    go_wp2_with fail
    refine (HV.out (HD.out.later HB1.out) (HL.out.later HB1.out)).mono ?_
    rintro e w2 ⟨x0, x1, rfl, ho, hb2⟩
    obtain ⟨xa, xn, xc, rfl⟩ := ho.dims.ints.shape3
    obtain ⟨ya, yn, yc, rfl⟩ := ho.data.ints.shape3
    have HBU : Hid (Below U.heap.size U w2) := Below.after HB1.out hb2
    have hbx := HBX.out.later HBU.out
    have l0 := hbx.c0
    have l1 := hbx.c1
    have m0 := hbx.f 0
    have m1 := hbx.f 1
    have HBS : Hid (Box _ _ _ _) := hbx.set (.slice xa xn xc) (.slice ya yn yc)
    have HO : Hid (OwnT w2 (w.heap.size + 1) (.slice xa xn xc) (.slice ya yn yc) u) := ho.mono (by omega)
    have HBW : Hid (Below w.heap.size w w2) := Below.after HB.out HBU.out
    clear hbx ho hb2
    go_wp2
    have hr0 := HBS.out.c0
    have hr1 := HBS.out.c1
    refine bodyPost_ret (v := .tuple #[.agg #[.slice xa xn xc, .slice ya yn yc], .int .i64 x]) (by simp [results, Tryz.results20, go_sem, hr0, hr1]) rfl ⟨_, _, rfl, ?_, ?_⟩
    · exact (HO.out.set2 _ _ (by omega)).mono (by omega)
    · exact (HBW.out.setCell (by simp) _).setCell (by simp) _
end Go.Proofs.YtheddpjaihhbdabGreat
