/- Contract: the page's Power. -/
import Derived.Test.YtgnicnaiaijdcaaDoorZ2
import Derived.Test.YtgnicnaiaijdcaaDoorY4
import Derived.Laws.BitsLemmas
namespace Go.Proofs.YtgnicnaiaijdcaaDoor
set_option linter.unusedVariables false
set_option linter.unusedSimpArgs false
open Go.RowKit

theorem Ints.at {w w' : World} {v : Value} {d : List Int} (h : Ints w v d) (hk : ∀ k, v.ownBlock = some k → w'.heap[k]? = w.heap[k]?) : Ints w' v d := by
  rcases h with ⟨rfl, rfl⟩ | ⟨a, c, rfl, h1, h2, h3⟩
  · exact Ints.nil _
  · refine Or.inr ⟨a, c, rfl, h1, h2, fun i hi => ?_⟩
    obtain ⟨b, off, rfl, hc⟩ := h3 i hi
    refine ⟨b, off, rfl, ?_⟩
    rw [World.cell?_of_block (w := w) (a := ⟨b, off + i, none⟩) (hk b rfl)]
    exact hc
theorem i64_and1 (n : Int) : bits .and .i64 n 1 = n % 2 := by
  have h1 : (BitVec.ofInt 64 1).toNat = 2 ^ 1 - 1 := by decide
  have key : (BitVec.ofInt 64 n &&& BitVec.ofInt 64 1).toNat = (n % ((2 ^ 64 : Nat) : Int)).toNat % 2 ^ 1 := by
    rw [BitVec.toNat_and, BitVec.toNat_ofInt, h1, Nat.and_two_pow_sub_one_eq_mod]
  show IntKind.i64.wrap ((BitVec.ofInt 64 n &&& BitVec.ofInt 64 1).toNat : Nat) = n % 2
  rw [key, IntKind.wrap_i64]
  omega
theorem Tens.set2 {w : World} {v0 v1 : Value} {t : Ten} (h : Tens w v0 v1 t) (p : Nat) (u v : Value) (h0 : ∀ k, v0.ownBlock = some k → k ≠ p) (h1 : ∀ k, v1.ownBlock = some k → k ≠ p) : Tens ((w.setCell ⟨p, 0, none⟩ u).setCell ⟨p, 1, none⟩ v) v0 v1 t :=
  ⟨h.1.at fun k hk => (heap_setCell_other _ _ k v (h0 k hk)).trans (heap_setCell_other _ _ k u (h0 k hk)), h.2.at fun k hk => (heap_setCell_other _ _ k v (h1 k hk)).trans (heap_setCell_other _ _ k u (h1 k hk))⟩
theorem OwnT.set2' {w : World} {B p : Nat} {x y : Value} {t : Ten} (h : OwnT w B x y t) (u v : Value) (h0 : ∀ k, x.ownBlock = some k → k ≠ p) (h1 : ∀ k, y.ownBlock = some k → k ≠ p) : OwnT ((w.setCell ⟨p, 0, none⟩ u).setCell ⟨p, 1, none⟩ v) B x y t :=
  h.at (fun k hk => (heap_setCell_other _ _ k v (h0 k hk)).trans (heap_setCell_other _ _ k u (h0 k hk))) (fun k hk => (heap_setCell_other _ _ k v (h1 k hk)).trans (heap_setCell_other _ _ k u (h1 k hk)))

/-- How it stands at the head of a round: so much of the power left. -/
structure Rp (w w' : World) (T p : Nat) (l : List Int) (n m : Nat) (x0 x1 y0 y1 : Value) (c r : List Int) : Prop where
  bA : Box w' w.heap.size x0 x1
  tA : Tens w' x0 x1 ([(p : Int), (p : Int)], c)
  nA : ∀ k, x0.ownBlock = some k → k ≠ w.heap.size ∧ k ≠ T
  nA' : ∀ k, x1.ownBlock = some k → k ≠ w.heap.size ∧ k ≠ T
  bT : Box w' T y0 y1
  oT : OwnT w' (w.heap.size + 1 + 1) y0 y1 ([(p : Int), (p : Int)], r)
  nT : ∀ k, y0.ownBlock = some k → k ≠ T
  nT' : ∀ k, y1.ownBlock = some k → k ≠ T
  bR : Box w' (w.heap.size + 1) (.slice none 0 0) (.slice none 0 0)
  bel : Below w.heap.size w w'
  lc : c.length = p * p
  gc : Rg c
  lr : r.length = p * p
  gr : Rg r
  eq : mxl p p p r (mpw p c m) = mpw p l n
theorem pw_even (p : Nat) (l c r : List Int) (n m : Nat) (hc : c.length = p * p) (hg : Rg c) (h : mxl p p p r (mpw p c m) = mpw p l n) (he : m % 2 = 0) : mxl p p p r (mpw p (mxl p p p c c) (m / 2)) = mpw p l n := by
  rw [mpw_sq p c hc hg, show 2 * (m / 2) = m by omega]
  exact h
theorem pw_one (p : Nat) (l c r : List Int) (n m : Nat) (hc : c.length = p * p) (hg : Rg c) (h : mxl p p p r (mpw p c m) = mpw p l n) (he : m % 2 = 1) : mxl p p p (mxl p p p r c) (mpw p c (m - 1)) = mpw p l n := by
  rw [← h, mx_assoc]
  have e : m = 1 + (m - 1) := by omega
  have h1 : mpw p c m = mxl p p p c (mpw p c (m - 1)) := by
    conv => lhs; rw [e]
    rw [mpw_add, mpw_one p c hc hg]
  rw [h1]
theorem pw_odd (p : Nat) (l c r : List Int) (n m : Nat) (hc : c.length = p * p) (hg : Rg c) (h : mxl p p p r (mpw p c m) = mpw p l n) (he : m % 2 = 1) : mxl p p p (mxl p p p r c) (mpw p (mxl p p p c c) (m / 2)) = mpw p l n := by
  rw [mpw_sq p c hc hg, ← h, mx_assoc]
  have e : m = 1 + 2 * (m / 2) := by omega
  have h1 : mpw p c m = mxl p p p c (mpw p c (2 * (m / 2))) := by
    conv => lhs; rw [e]
    rw [mpw_add, mpw_one p c hc hg]
  rw [h1]

set_option maxRecDepth 100000 in
set_option maxHeartbeats 4000000 in
theorem rpow_ok {a0 a1 : Value} {p : Nat} {l : List Int} {w : World} (n : Nat) (hn : n ≤ 1073741824) (ha : Tens w a0 a1 ([(p : Int), (p : Int)], l)) (hx : tok ([(p : Int), (p : Int)], l) = true) (hr : Rg l) :
    Calls Tryd.prog 19 #[.agg #[a0, a1], .int .i64 n] w fun e w' => ∃ x0 x1, e = .returned (.agg #[x0, x1]) ∧ OwnT w' w.heap.size x0 x1 ([(p : Int), (p : Int)], mpw p l n) ∧ Below w.heap.size w w' := by
  obtain ⟨hp1, hp8, _, _, hl⟩ := tok2 hx
  have HL : Hid (l.length = p * p) := hl
  have HR : Hid (Rg l) := hr
  obtain ⟨db, dof, dc, ab, ao, ac, A⟩ := ha.mat hl (Nat.mul_pos hp1 hp1)
  have ea0 := A.e0
  have ea1 := A.e1
  have hdc := A.hdc
  have hdb := A.hdb
  have hab := A.hab
  have HD0 : Hid (w.cell? ⟨db, dof, none⟩ = some (.int .i64 p)) := A.c0
  clear A
  obtain ⟨Nq, hNq⟩ : ∃ N, p * p = N := ⟨_, rfl⟩
  rw [hNq] at ea1
  clear hNq
  subst ea0 ea1
  obtain ⟨U, hU⟩ : ∃ U, U = ((w.alloc (.cells #[(.slice (some ⟨db, dof, none⟩) 2 dc), (.slice (some ⟨ab, ao, none⟩) Nq ac)] 28)).alloc (.cells #[.slice none 0 0, .slice none 0 0] 28)) := ⟨_, rfl⟩
  have hb : Below w.heap.size w U := by rw [hU]; exact ((Below.refl _ _).alloc (Nat.le_refl _) _).alloc (by simp) _
  have HA : Hid (Tens w (.slice (some ⟨db, dof, none⟩) 2 dc) (.slice (some ⟨ab, ao, none⟩) Nq ac) ([(p : Int), (p : Int)], l)) := ha
  have HB : Hid (Below w.heap.size w U) := hb
  have HBA : Hid (Box U w.heap.size (.slice (some ⟨db, dof, none⟩) 2 dc) (.slice (some ⟨ab, ao, none⟩) Nq ac)) := by show Box _ _ _ _; rw [hU]; exact (Box.new w _ _).alloc _
  have HBR : Hid (Box U (w.heap.size + 1) (.slice none 0 0) (.slice none 0 0)) := by
    show Box _ _ _ _
    have := Box.new (w.alloc (.cells #[(.slice (some ⟨db, dof, none⟩) 2 dc), (.slice (some ⟨ab, ao, none⟩) Nq ac)] 28)) (.slice none 0 0) (.slice none 0 0)
    simp only [World.size_alloc] at this
    rw [hU]
    exact this
  have hU0 : U.heap.size = w.heap.size + 1 + 1 := by rw [hU]; simp
  have c1 : ((w.alloc (.cells #[(.slice (some ⟨db, dof, none⟩) 2 dc), (.slice (some ⟨ab, ao, none⟩) Nq ac)] 28)).alloc (.cells #[.slice none 0 0, .slice none 0 0] 28)).cell? ⟨db, dof, none⟩ = some (.int .i64 p) := by rw [← hU]; exact cell_later HB.out HD0.out
  clear ha hb hx hl hr
  go_enter Tryd.func19, Tryd.ntmps19
  go_wp2_with fail
  rw [← hU]
  clear hU
  refine (rone_ok p hp1 hp8).mono ?_
  rintro e w3 ⟨y0, y1, rfl, ho, hb3⟩
  obtain ⟨ya, yn, yc, rfl⟩ := ho.dims.ints.shape3
  obtain ⟨va, vn, vc, rfl⟩ := ho.data.ints.shape3
  have hs3 := hb3.size
  have HQ : Hid (Below U.heap.size U (w3.alloc (.cells #[(.slice ya yn yc), (.slice va vn vc)] 28))) := Below.push hb3 _
  have HP : Hid (Rp w (w3.alloc (.cells #[(.slice ya yn yc), (.slice va vn vc)] 28)) w3.heap.size p l n n (.slice (some ⟨db, dof, none⟩) 2 dc) (.slice (some ⟨ab, ao, none⟩) Nq ac) (.slice ya yn yc) (.slice va vn vc) l (onl p)) := by
    refine ⟨HBA.out.later HQ.out, HA.out.later (Below.after HB.out HQ.out), fun k hk => ?_, fun k hk => ?_, Box.new _ _ _, (ho.mono (by omega)).later (Below.push (Below.refl _ _) _), fun k hk => ?_, fun k hk => ?_, HBR.out.later HQ.out, Below.after HB.out HQ.out, HL.out, HR.out, onl_length p, onl_rg p, one_left p p _ (mpw_length p l n) (mpw_rg p l n)⟩
    · simp [Value.ownBlock] at hk
      omega
    · simp [Value.ownBlock] at hk
      omega
    · have := ho.dims.lt k hk
      omega
    · have := ho.data.lt k hk
      omega
  have hT2 : w.heap.size + 1 + 1 ≤ w3.heap.size := by omega
  clear ho hb3 c1
  go_wp2
  generalize (w3.alloc (.cells #[(.slice ya yn yc), (.slice va vn vc)] 28)) = W at HP HQ ⊢
  obtain ⟨T, hT⟩ : ∃ T, w3.heap.size = T := ⟨_, rfl⟩
  rw [hT] at HP hT2 ⊢
  clear hT HQ HBA HBR
  go_loopw [1] (fun x w' => ∃ m : Nat, m ≤ n ∧ x = .int .i64 m ∧ ∃ x0 x1 y0 y1 c r, Rp w w' T p l n m x0 x1 y0 y1 c r) (fun x _ => (intOf x).toNat)
  case atStart => exact ⟨n, Nat.le_refl _, rfl, _, _, _, _, _, _, HP.out⟩
  case round =>
    obtain ⟨m, hm, rfl, x0, x1, y0, y1, c, r, hP⟩ := hrel
    have HP : Hid (Rp w wr T p l n m x0 x1 y0 y1 c r) := hP
    obtain ⟨xa, xn, xc, rfl⟩ := hP.tA.1.shape3
    obtain ⟨za, zn, zc, rfl⟩ := hP.tA.2.shape3
    obtain ⟨ya, yn, yc, rfl⟩ := hP.oT.dims.ints.shape3
    obtain ⟨va, vn, vc, rfl⟩ := hP.oT.data.ints.shape3
    have c0 := hP.bA.c0
    have c1 := hP.bA.c1
    have c2 := hP.bT.c0
    have c3 := hP.bT.c1
    clear hP
    by_cases h0 : 0 < m
    · obtain ⟨H, hH⟩ : ∃ H, m / 2 = H := ⟨_, rfl⟩
      obtain ⟨D, hD⟩ : ∃ D, m % 2 = D := ⟨_, rfl⟩
      have hbit : bits .and .i64 (m : Int) 1 = (D : Int) := by
        have h := i64_and1 m
        rw [h, ← hD]
        omega
      have HTC : Hid (tok ([(p : Int), (p : Int)], c) = true) := tok2_mk hp1 hp8 hp1 hp8 HP.out.lc
      have HTR : Hid (tok ([(p : Int), (p : Int)], r) = true) := tok2_mk hp1 hp8 hp1 hp8 HP.out.lr
      have hd2 : D < 2 := by omega
      have HHE : Hid (((m : Int) / 2) = ((H : Nat) : Int)) := by show _ = _; rw [← hH]; simp
      rcases Nat.lt_or_ge D 1 with hd | hd
      · obtain rfl : D = 0 := by omega
        go_wp2_with fail
        refine (rmat_ok HP.out.tA HP.out.tA HTC.out HTC.out).mono ?_
        rintro e w8 ⟨g0, g1, rfl, ho, hb8⟩
        obtain ⟨fa, fn, fc, rfl⟩ := ho.dims.ints.shape3
        obtain ⟨ga, gn, gc, rfl⟩ := ho.data.ints.shape3
        have hTl := HP.out.bT.lt
        have hA8 := HP.out.bA.later hb8
        have z0 := hA8.c0
        have z1 := hA8.c1
        have z2 := hA8.f 0
        have z3 := hA8.f 1
        have HQ8 : Hid (Rp w ((w8.setCell ⟨w.heap.size, 0, none⟩ (.slice fa fn fc)).setCell ⟨w.heap.size, 1, none⟩ (.slice ga gn gc)) T p l n H (.slice fa fn fc) (.slice ga gn gc) (.slice ya yn yc) (.slice va vn vc) (mxl p p p c c) r) := by
          refine ⟨hA8.set _ _, (ho.set2 _ _ (by omega)).tens, fun k hk => ?_, fun k hk => ?_, (HP.out.bT.later hb8).other2 _ _ (by omega), (HP.out.oT.later hb8).set2 _ _ (by omega), HP.out.nT, HP.out.nT', (HP.out.bR.later hb8).other2 _ _ (by omega), ((Below.after HP.out.bel hb8).setCell (by simp) _).setCell (by simp) _, mxl_length _ _ _ _ _, mxl_rg _ _ _ _ _, HP.out.lr, HP.out.gr, ?_⟩
          · have := ho.dims.frm k hk
            omega
          · have := ho.data.frm k hk
            omega
          · have := pw_even p l c r n m HP.out.lc HP.out.gc HP.out.eq (by omega)
            rw [show m / 2 = H by omega] at this
            exact this
        clear ho hb8 hA8 c0 c1 c2 c3
        go_wp2
        refine ⟨⟨H, by omega, by rw [HHE.out], _, _, _, _, _, _, HQ8.out⟩, ?_⟩
        have e1 : (intOf (Value.int .i64 ((m : Int) / 2))).toNat = H := by rw [HHE.out]; rfl
        have e2 : (intOf (Value.int .i64 (m : Int))).toNat = m := rfl
        rw [e1, e2]
        omega
      · obtain rfl : D = 1 := by omega
        go_wp2_with fail
        refine (rmat_ok HP.out.oT.tens HP.out.tA HTR.out HTC.out).mono ?_
        rintro e w6 ⟨g0, g1, rfl, ho, hb6⟩
        obtain ⟨ha, hn, hc, rfl⟩ := ho.dims.ints.shape3
        obtain ⟨ka, kn, kc, rfl⟩ := ho.data.ints.shape3
        have hTl := HP.out.bT.lt
        have hT6 := HP.out.bT.later hb6
        have u0 := hT6.c0
        have u1 := hT6.c1
        have u2 := hT6.f 0
        have u3 := hT6.f 1
        have HQ : Hid (Rp w ((w6.setCell ⟨T, 0, none⟩ (.slice ha hn hc)).setCell ⟨T, 1, none⟩ (.slice ka kn kc)) T p l n (m - 1) (.slice xa xn xc) (.slice za zn zc) (.slice ha hn hc) (.slice ka kn kc) c (mxl p p p r c)) := by
          refine ⟨(HP.out.bA.later hb6).other2 _ _ (by omega), (HP.out.tA.later hb6).set2 T _ _ (fun k hk => (HP.out.nA k hk).2) (fun k hk => (HP.out.nA' k hk).2), HP.out.nA, HP.out.nA', hT6.set _ _, (ho.set2 _ _ (by omega)).mono (by omega), fun k hk => ?_, fun k hk => ?_, (HP.out.bR.later hb6).other2 _ _ (by omega), ((Below.after HP.out.bel hb6).setCell (by simp; omega) _).setCell (by simp; omega) _, HP.out.lc, HP.out.gc, mxl_length _ _ _ _ _, mxl_rg _ _ _ _ _, pw_one p l c r n m HP.out.lc HP.out.gc HP.out.eq (by omega)⟩
          · have := ho.dims.frm k hk
            omega
          · have := ho.data.frm k hk
            omega
        have v0 := HQ.out.bA.c0
        have v1 := HQ.out.bA.c1
        clear ho hb6 hT6 c0 c1 c2 c3
        go_wp2_with fail
        generalize ((w6.setCell ⟨T, 0, none⟩ (.slice ha hn hc)).setCell ⟨T, 1, none⟩ (.slice ka kn kc)) = W7 at HQ v0 v1 ⊢
        clear u0 u1 u2 u3
        refine (rmat_ok HQ.out.tA HQ.out.tA HTC.out HTC.out).mono ?_
        rintro e w8 ⟨g0, g1, rfl, ho, hb8⟩
        obtain ⟨fa, fn, fc, rfl⟩ := ho.dims.ints.shape3
        obtain ⟨ga, gn, gc, rfl⟩ := ho.data.ints.shape3
        have hTl := HQ.out.bT.lt
        have hA8 := HQ.out.bA.later hb8
        have z0 := hA8.c0
        have z1 := hA8.c1
        have z2 := hA8.f 0
        have z3 := hA8.f 1
        have HQ8 : Hid (Rp w ((w8.setCell ⟨w.heap.size, 0, none⟩ (.slice fa fn fc)).setCell ⟨w.heap.size, 1, none⟩ (.slice ga gn gc)) T p l n H (.slice fa fn fc) (.slice ga gn gc) (.slice ha hn hc) (.slice ka kn kc) (mxl p p p c c) (mxl p p p r c)) := by
          refine ⟨hA8.set _ _, (ho.set2 _ _ (by omega)).tens, fun k hk => ?_, fun k hk => ?_, (HQ.out.bT.later hb8).other2 _ _ (by omega), (HQ.out.oT.later hb8).set2 _ _ (by omega), HQ.out.nT, HQ.out.nT', (HQ.out.bR.later hb8).other2 _ _ (by omega), ((Below.after HQ.out.bel hb8).setCell (by simp) _).setCell (by simp) _, mxl_length _ _ _ _ _, mxl_rg _ _ _ _ _, HQ.out.lr, HQ.out.gr, ?_⟩
          · have := ho.dims.frm k hk
            omega
          · have := ho.data.frm k hk
            omega
          · have := pw_even p l c (mxl p p p r c) n (m - 1) HQ.out.lc HQ.out.gc HQ.out.eq (by omega)
            rw [show (m - 1) / 2 = H by omega] at this
            exact this
        clear ho hb8 hA8 v0 v1
        go_wp2
        refine ⟨⟨H, by omega, by rw [HHE.out], _, _, _, _, _, _, HQ8.out⟩, ?_⟩
        have e1 : (intOf (Value.int .i64 ((m : Int) / 2))).toNat = H := by rw [HHE.out]; rfl
        have e2 : (intOf (Value.int .i64 (m : Int))).toNat = m := rfl
        rw [e1, e2]
        omega
    · have hm0 : m = 0 := by omega
      subst hm0
      have hbR := HP.out.bR
      have l0 := hbR.c0
      have l1 := hbR.c1
      have m0 := hbR.f 0
      have m1 := hbR.f 1
      have HBS : Hid (Box _ _ _ _) := hbR.set (.slice ya yn yc) (.slice va vn vc)
      have HER : Hid (r = mpw p l n) := by
        have h := HP.out.eq
        have h2 : mxl p p p r (mpw p c 0) = r := one_right p p r HP.out.lr HP.out.gr
        exact h2.symm.trans h
      clear hbR
      go_wp2
      have hr0 := HBS.out.c0
      have hr1 := HBS.out.c1
      refine bodyPost_ret (v := .agg #[(.slice ya yn yc), (.slice va vn vc)]) (by simp [results, Tryd.results19, go_sem, hr0, hr1]) rfl ⟨_, _, rfl, ?_, ?_⟩
      · rw [← HER.out]
        exact (HP.out.oT.set2 _ _ (by omega)).mono (by omega)
      · exact (HP.out.bel.setCell (by simp) _).setCell (by simp) _
end Go.Proofs.YtgnicnaiaijdcaaDoor
