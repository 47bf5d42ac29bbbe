/- Contract: mat's Power, of what has one. -/
import Derived.Test.YtgnicnaiaijdcaaDoorY3
namespace Go.Proofs.YtgnicnaiaijdcaaDoor
set_option linter.unusedVariables false
set_option linter.unusedSimpArgs false
open Go.RowKit

theorem OwnT.at {w w' : World} {B : Nat} {v0 v1 : Value} {t : Ten} (h : OwnT w B v0 v1 t) (h0 : ∀ k, v0.ownBlock = some k → w'.heap[k]? = w.heap[k]?) (h1 : ∀ k, v1.ownBlock = some k → w'.heap[k]? = w.heap[k]?) : OwnT w' B v0 v1 t :=
  ⟨h.dims.at h0, h.data.at h1, h.apart⟩
theorem heap_iterAt_other (w : World) (I k : Nat) (s : ByteArray) (q : Nat) (h : k ≠ I) : (w.iterAt I s q).heap[k]? = w.heap[k]? := by
  simp only [World.iterAt, Array.getElem?_setIfInBounds]
  rw [if_neg (by omega)]
theorem Box.moved {w : World} {B I : Nat} {x y : Value} (h : Box w B x y) (hi : B ≠ I) (s : ByteArray) (q : Nat) : Box (w.iterAt I s q) B x y := (heap_iterAt_other w I B s q hi).trans h
theorem It.later {w w' : World} {I p : Nat} {s : ByteArray} (hb : Below w.heap.size w w') (h : It w I s p) : It w' I s p := (hb.block I h.lt).trans h
/-- What the digits ahead of one spell, and one more. -/
theorem spell_next (n k t : Nat) (ht : t ≤ k) : n / 2 ^ (k + 1 - (t + 1)) = 2 * (n / 2 ^ (k + 1 - t)) + (n / 2 ^ (k - t)) % 2 := by
  have e1 : k + 1 - (t + 1) = k - t := by omega
  have e2 : k + 1 - t = k - t + 1 := by omega
  rw [e1, e2, Nat.pow_succ, ← Nat.div_div_eq_div_mul]
  omega
theorem mu_sq {p : Nat} {x : List Int} (hp1 : 1 ≤ p) (hp8 : p ≤ 8) (hl : x.length = p * p) : muE ([(p : Int), (p : Int)], x) ([(p : Int), (p : Int)], x) = 0 ∧ muR ([(p : Int), (p : Int)], x) ([(p : Int), (p : Int)], x) = ([(p : Int), (p : Int)], mxl p p p x x) := by
  have h := tok2_mk (l := x) hp1 hp8 hp1 hp8 hl
  exact ⟨muE_ok h h, muR_ok h h⟩
theorem mu_two {p : Nat} {x y : List Int} (hp1 : 1 ≤ p) (hp8 : p ≤ 8) (hl : x.length = p * p) (hm : y.length = p * p) : muE ([(p : Int), (p : Int)], x) ([(p : Int), (p : Int)], y) = 0 ∧ muR ([(p : Int), (p : Int)], x) ([(p : Int), (p : Int)], y) = ([(p : Int), (p : Int)], mxl p p p x y) := by
  have h := tok2_mk (l := x) hp1 hp8 hp1 hp8 hl
  have h' := tok2_mk (l := y) hp1 hp8 hp1 hp8 hm
  exact ⟨muE_ok h h', muR_ok h h'⟩

/-- How it stands at the head of a round: so many digits gone. -/
structure Pw (w w' : World) (I p : Nat) (l : List Int) (n k t : Nat) : Prop where
  it : It w' I (bt n k) t
  bel : Below w.heap.size w w'
  bx : ∃ x0 x1, Box w' (w.heap.size + 1 + 1) x0 x1 ∧ OwnT w' (w.heap.size + 1 + 1 + 1) x0 x1 ([(p : Int), (p : Int)], mpw p l (n / 2 ^ (k + 1 - t))) ∧ (∀ j, x0.ownBlock = some j → j ≠ I) ∧ ∀ j, x1.ownBlock = some j → j ≠ I
  rs : Box w' (w.heap.size + 1) (.slice none 0 0) (.slice none 0 0)

set_option maxRecDepth 100000 in
set_option maxHeartbeats 4000000 in
theorem pow_ok {a0 a1 : Value} {p : Nat} {l : List Int} {w : World} (n : Nat) (hn : n ≤ 1073741824) (hg : w.cell? ⟨2, 1, none⟩ = some (.int .u8 1)) (ha : Tens w a0 a1 ([(p : Int), (p : Int)], l)) (hx : tok ([(p : Int), (p : Int)], l) = true) :
    Calls Tryd.prog 17 #[.agg #[a0, a1], .int .i64 n] w fun e w' => ∃ x0 x1, e = .returned (.tuple #[.agg #[x0, x1], .int .i64 0]) ∧ OwnT w' w.heap.size x0 x1 ([(p : Int), (p : Int)], mpw p l n) ∧ Below w.heap.size w w' := by
  obtain ⟨hp1, hp8, _, _, hl⟩ := tok2 hx
  have HL : Hid (l.length = p * p) := hl
  have HG : Hid (w.cell? ⟨2, 1, none⟩ = some (.int .u8 1)) := hg
  have HK : Hid (tkE ([(p : Int), (p : Int)], l) = 0) := by show _ = _; simp [tkE, hx]
  obtain ⟨db, dof, dc, ab, ao, ac, A⟩ := ha.mat hl (Nat.mul_pos hp1 hp1)
  have ea0 := A.e0
  have ea1 := A.e1
  have hdc := A.hdc
  have hdb := A.hdb
  have HD0 : Hid (w.cell? ⟨db, dof, none⟩ = some (.int .i64 p)) := A.c0
  have HD1 : Hid (w.cell? ⟨db, dof + 1, none⟩ = some (.int .i64 p)) := A.c1
  clear A
  obtain ⟨Nq, hNq⟩ : ∃ N, p * p = N := ⟨_, rfl⟩
  rw [hNq] at ea1
  clear hNq
  subst ea0 ea1
  obtain ⟨U, hU⟩ : ∃ U, U = (((w.alloc (.cells #[(.slice (some ⟨db, dof, none⟩) 2 dc), (.slice (some ⟨ab, ao, none⟩) Nq ac)] 28)).alloc (.cells #[.slice none 0 0, .slice none 0 0] 28)).alloc (.cells #[.slice none 0 0, .slice none 0 0] 28)) := ⟨_, rfl⟩
  have hb : Below w.heap.size w U := by rw [hU]; exact (((Below.refl _ _).alloc (Nat.le_refl _) _).alloc (by simp) _).alloc (by simp; omega) _
  have HA : Hid (Tens w (.slice (some ⟨db, dof, none⟩) 2 dc) (.slice (some ⟨ab, ao, none⟩) Nq ac) ([(p : Int), (p : Int)], l)) := ha
  have HB : Hid (Below w.heap.size w U) := hb
  have HBA : Hid (Box U w.heap.size (.slice (some ⟨db, dof, none⟩) 2 dc) (.slice (some ⟨ab, ao, none⟩) Nq ac)) := by show Box _ _ _ _; rw [hU]; exact ((Box.new w _ _).alloc _).alloc _
  have HBR : Hid (Box U (w.heap.size + 1) (.slice none 0 0) (.slice none 0 0)) := by
    show Box _ _ _ _
    have := (Box.new (w.alloc (.cells #[(.slice (some ⟨db, dof, none⟩) 2 dc), (.slice (some ⟨ab, ao, none⟩) Nq ac)] 28)) (.slice none 0 0) (.slice none 0 0)).alloc (.cells #[.slice none 0 0, .slice none 0 0] 28)
    simp only [World.size_alloc] at this
    rw [hU]
    exact this
  have HBX : Hid (Box U (w.heap.size + 1 + 1) (.slice none 0 0) (.slice none 0 0)) := by
    show Box _ _ _ _
    have := Box.new ((w.alloc (.cells #[(.slice (some ⟨db, dof, none⟩) 2 dc), (.slice (some ⟨ab, ao, none⟩) Nq ac)] 28)).alloc (.cells #[.slice none 0 0, .slice none 0 0] 28)) (.slice none 0 0) (.slice none 0 0)
    simp only [World.size_alloc] at this
    rw [hU]
    exact this
  have hU0 : U.heap.size = w.heap.size + 1 + 1 + 1 := by rw [hU]; simp
  have g0 : decide ((n : Int) < 0) = false := by simp
  have g1 : decide (1073741824 < (n : Int)) = false := by simp; omega
  have k0 := HBA.out.c0
  have k1 := HBA.out.c1
  have HN : Hid (n ≤ 1073741824) := hn
  clear ha hb hx hl hg hn
  go_enter Tryd.func17, Tryd.ntmps17
  go_wp2_with fail
  refine wp_scope_jumps 0 (fun _ _ => False) (fun _ _ => 0) rfl ?_ ?_
  · go_wp2_with fail
    rw [← hU]
    clear hU
    refine (tensor_to 0 (HA.out.later HB.out) HK.out).mono ?_
    rintro e w2 ⟨rfl, hb2⟩
    have HB2 : Hid (Below U.heap.size U w2) := hb2
    have c0 := cell_later hb2 HBA.out.c0
    have c1 := cell_later (Below.after HB.out hb2) HD0.out
    have c2 := cell_later (Below.after HB.out hb2) HD1.out
    clear hb2 k0 k1
    go_wp2_with fail
    go_quiet (fail)
    go_wp2_with fail
    refine (one_ok p hp1 hp8).mono ?_
    rintro e w3 ⟨x0, x1, rfl, ho, hb3⟩
    have hs2 := HB2.out.size
    have HO3 : Hid (OwnT w3 (w.heap.size + 1 + 1 + 1) x0 x1 ([(p : Int), (p : Int)], onl p)) := ho.mono (by simp; omega)
    have HB3 : Hid (Below U.heap.size U w3) := Below.after HB2.out (Below.after (Below.drewN (Below.refl _ _) _) hb3)
    obtain ⟨xa, xn, xc, rfl⟩ := ho.dims.ints.shape3
    obtain ⟨ya, yn, yc, rfl⟩ := ho.data.ints.shape3
    have hbx := HBX.out.later HB3.out
    have z0 := hbx.c0
    have z1 := hbx.c1
    have z2 := hbx.f 0
    have z3 := hbx.f 1
    have HX4 : Hid (Box _ (w.heap.size + 1 + 1) (.slice xa xn xc) (.slice ya yn yc)) := hbx.set (.slice xa xn xc) (.slice ya yn yc)
    have HA4 : Hid (Box _ w.heap.size (.slice (some ⟨db, dof, none⟩) 2 dc) (.slice (some ⟨ab, ao, none⟩) Nq ac)) := (HBA.out.later HB3.out).other2 (p := w.heap.size + 1 + 1) (.slice xa xn xc) (.slice ya yn yc) (by omega)
    have HR4 : Hid (Box _ (w.heap.size + 1) (.slice none 0 0) (.slice none 0 0)) := (HBR.out.later HB3.out).other2 (p := w.heap.size + 1 + 1) (.slice xa xn xc) (.slice ya yn yc) (by omega)
    have HO4 : Hid (OwnT _ (w.heap.size + 1 + 1 + 1) (.slice xa xn xc) (.slice ya yn yc) ([(p : Int), (p : Int)], onl p)) := HO3.out.set2 (p := w.heap.size + 1 + 1) (.slice xa xn xc) (.slice ya yn yc) (by omega)
    have HB4 : Hid (Below w.heap.size w _) := ((Below.after HB.out HB3.out).setCell (p := ⟨w.heap.size + 1 + 1, 0, none⟩) (by simp; omega) (.slice xa xn xc)).setCell (p := ⟨w.heap.size + 1 + 1, 1, none⟩) (by simp; omega) (.slice ya yn yc)
    clear c0 c1 c2 ho hb3 hbx HO3
    go_wp2_with fail
    generalize ((w3.setCell ⟨w.heap.size + 1 + 1, 0, none⟩ (.slice xa xn xc)).setCell ⟨w.heap.size + 1 + 1, 1, none⟩ (.slice ya yn yc)) = V at HX4 HA4 HR4 HO4 HB4 ⊢
    clear z0 z1 z2 z3 HB3 HB2 HBA HBR HBX HB
    refine (formatInt n HN.out (cell_later HB4.out HG.out)).mono ?_
    rintro e w5 ⟨k, hk, hk2, rfl, hb5⟩
    have HP : Hid (Pw w (w5.iter (bt n k) 0) w5.heap.size p l n k 0) := by
      have hi : Below V.heap.size V (w5.iter (bt n k) 0) := by
        rw [iter_alloc]
        exact Below.push hb5 _
      have e0 : n / 2 ^ (k + 1 - 0) = 0 := by
        rw [Nat.sub_zero, Nat.pow_succ, ← Nat.div_div_eq_div_mul]
        obtain ⟨m, hm⟩ : ∃ m, n / 2 ^ k = m := ⟨_, rfl⟩
        rw [hm] at hk2 ⊢
        omega
      refine ⟨It.new _ _ _, Below.after HB4.out hi, ⟨_, _, HX4.out.later hi, ?_, fun j hj => ?_, fun j hj => ?_⟩, HR4.out.later hi⟩
      · rw [e0]
        exact HO4.out.later hi
      · have := HO4.out.dims.lt j hj
        have := hb5.size
        omega
      · have := HO4.out.data.lt j hj
        have := hb5.size
        omega
    have HAI : Hid (Box (w5.iter (bt n k) 0) w.heap.size (.slice (some ⟨db, dof, none⟩) 2 dc) (.slice (some ⟨ab, ao, none⟩) Nq ac)) := by
      show Box _ _ _ _
      rw [iter_alloc]
      exact (HA4.out.later hb5).alloc _
    have hIw : w.heap.size + 1 + 1 < w5.heap.size := by
      have := HX4.out.lt
      have := hb5.size
      omega
    obtain ⟨I, hI⟩ : ∃ I, w5.heap.size = I := ⟨_, rfl⟩
    clear hb5 HX4 HA4 HR4 HO4 HB4
    rw [hI] at HP hIw
    go_wp2
    rw [hI] at *
    generalize w5.iter (bt n k) 0 = W0 at HP HAI ⊢
    clear hI
    go_loopw [8] (fun _ w' => ∃ t : Nat, t ≤ k + 1 ∧ Pw w w' I p l n k t ∧ Box w' w.heap.size (.slice (some ⟨db, dof, none⟩) 2 dc) (.slice (some ⟨ab, ao, none⟩) Nq ac)) (fun _ w' => k + 1 - w'.iterPos I)
    case atStart => exact ⟨0, by omega, HP.out, HAI.out⟩
    case round =>
      obtain ⟨t, ht, hP, hbA⟩ := hrel
      by_cases hlt : t < k + 1
      · have hsz : t < (bt n k).size := by rw [bt_size]; exact hlt
        obtain ⟨D, hD⟩ : ∃ D, (n / 2 ^ (k - t)) % 2 = D := ⟨_, rfl⟩
        have hd2 : D < 2 := by omega
        have hv := spell_next n k t (by omega)
        rw [hD] at hv
        have hbg := bt_get n k t hsz
        rw [hD] at hbg
        have h128 : (bt n k)[t].toNat < 128 := by omega
        obtain ⟨hit, hbel, ⟨x0, x1, hbX, hoX, hn0, hn1⟩, hbR⟩ := hP
        have HPP : Hid (wr.iterPos I = t) := hit.pos
        obtain ⟨V, hV⟩ : ∃ V, n / 2 ^ (k + 1 - t) = V := ⟨_, rfl⟩
        rw [hV] at hoX hv
        have HV : Hid (n / 2 ^ (k + 1 - (t + 1)) = 2 * V + D) := hv
        obtain ⟨xa, xn, xc, rfl⟩ := hoX.dims.ints.shape3
        obtain ⟨ya, yn, yc, rfl⟩ := hoX.data.ints.shape3
        have HIT1 : Hid (It (wr.iterAt I (bt n k) (t + 1)) I (bt n k) (t + 1)) := hit.moved _
        have HBE1 : Hid (Below w.heap.size w (wr.iterAt I (bt n k) (t + 1))) := Below.moved hbel (by omega) _ _
        have hbX1 := hbX.moved (I := I) (by omega) (bt n k) (t + 1)
        have HBX1 : Hid (Box (wr.iterAt I (bt n k) (t + 1)) (w.heap.size + 1 + 1) (.slice xa xn xc) (.slice ya yn yc)) := hbX1
        have HBR1 : Hid (Box (wr.iterAt I (bt n k) (t + 1)) (w.heap.size + 1) (.slice none 0 0) (.slice none 0 0)) := hbR.moved (by omega) _ _
        have HBA1 : Hid (Box (wr.iterAt I (bt n k) (t + 1)) w.heap.size (.slice (some ⟨db, dof, none⟩) 2 dc) (.slice (some ⟨ab, ao, none⟩) Nq ac)) := hbA.moved (by omega) _ _
        have HOX1 : Hid (OwnT (wr.iterAt I (bt n k) (t + 1)) (w.heap.size + 1 + 1 + 1) (.slice xa xn xc) (.slice ya yn yc) ([(p : Int), (p : Int)], mpw p l V)) := hoX.at (fun j hj => heap_iterAt_other _ _ _ _ _ (hn0 j hj)) (fun j hj => heap_iterAt_other _ _ _ _ _ (hn1 j hj))
        have HM1 : Hid (muE ([(p : Int), (p : Int)], mpw p l V) ([(p : Int), (p : Int)], mpw p l V) = 0 ∧ muR ([(p : Int), (p : Int)], mpw p l V) ([(p : Int), (p : Int)], mpw p l V) = ([(p : Int), (p : Int)], mpw p l (2 * V))) := by
          have h := mu_sq hp1 hp8 (mpw_length p l V)
          refine ⟨h.1, h.2.trans ?_⟩
          rw [← mpw_add, show V + V = 2 * V by omega]
        have HM2 : Hid (muE ([(p : Int), (p : Int)], mpw p l (2 * V)) ([(p : Int), (p : Int)], l) = 0 ∧ muR ([(p : Int), (p : Int)], mpw p l (2 * V)) ([(p : Int), (p : Int)], l) = ([(p : Int), (p : Int)], mpw p l (2 * V + 1))) := mu_two hp1 hp8 (mpw_length p l (2 * V)) HL.out
        have c0 := hbX1.c0
        have c1 := hbX1.c1
        clear hbel hbX hoX hn0 hn1 hbR hbX1 hbA hv hV
        rcases Nat.lt_or_ge D 1 with hd | hd
        · obtain rfl : D = 0 := by omega
          have hnx := fun ty => hit.nx hsz 48 (by omega) h128 ty
          clear hit hbg h128 hD
          go_wp2_with fail
          clear hnx hsz
          generalize wr.iterAt I (bt n k) (t + 1) = W1 at HIT1 HBE1 HBX1 HBR1 HBA1 HOX1 c0 c1 ⊢
          refine (mul_to 0 _ HOX1.out.tens HOX1.out.tens HM1.out.1 HM1.out.2).mono ?_
          rintro e w6 ⟨y0, y1, rfl, ho, hb6⟩
          obtain ⟨za, zn, zc, rfl⟩ := ho.dims.ints.shape3
          obtain ⟨va, vn, vc, rfl⟩ := ho.data.ints.shape3
          have hIl := HIT1.out.lt
          have HO6 : Hid (OwnT w6 W1.heap.size (.slice za zn zc) (.slice va vn vc) ([(p : Int), (p : Int)], mpw p l (2 * V))) := ho
          have HQ6 : Hid (Below W1.heap.size W1 w6) := hb6
          have hX6 := HBX1.out.later hb6
          have z0 := hX6.c0
          have z1 := hX6.c1
          have z2 := hX6.f 0
          have z3 := hX6.f 1
          have HX6 : Hid (Box w6 (w.heap.size + 1 + 1) (.slice xa xn xc) (.slice ya yn yc)) := hX6
          clear ho hb6 hX6 c0 c1
          go_wp2
          go_roundw
          case rel =>
            refine ⟨t + 1, by omega, ⟨((HIT1.out.later HQ6.out).set _ _ (by simp; omega)).set _ _ (by simp; omega), ((Below.after HBE1.out HQ6.out).setCell (by simp; omega) _).setCell (by simp; omega) _, ⟨_, _, HX6.out.set _ _, ?_, fun j hj => ?_, fun j hj => ?_⟩, (HBR1.out.later HQ6.out).other2 _ _ (by omega)⟩, (HBA1.out.later HQ6.out).other2 _ _ (by omega)⟩
            · rw [HV.out]
              exact (HO6.out.set2 _ _ (by omega)).mono (by omega)
            · have := HO6.out.dims.frm j hj
              omega
            · have := HO6.out.data.frm j hj
              omega
          case measure =>
            have : ((w6.setCell ⟨w.heap.size + 1 + 1, 0, none⟩ (.slice za zn zc)).setCell ⟨w.heap.size + 1 + 1, 1, none⟩ (.slice va vn vc)).iterPos I = t + 1 := It.pos (((HIT1.out.later HQ6.out).set _ _ (by simp; omega)).set _ _ (by simp; omega))
            rw [this, HPP.out]
            omega
        · obtain rfl : D = 1 := by omega
          have hnx := fun ty => hit.nx hsz 49 (by omega) h128 ty
          clear hit hbg h128 hD
          go_wp2_with fail
          clear hnx hsz
          generalize wr.iterAt I (bt n k) (t + 1) = W1 at HIT1 HBE1 HBX1 HBR1 HBA1 HOX1 c0 c1 ⊢
          refine (mul_to 0 _ HOX1.out.tens HOX1.out.tens HM1.out.1 HM1.out.2).mono ?_
          rintro e w6 ⟨y0, y1, rfl, ho, hb6⟩
          obtain ⟨za, zn, zc, rfl⟩ := ho.dims.ints.shape3
          obtain ⟨va, vn, vc, rfl⟩ := ho.data.ints.shape3
          have hIl := HIT1.out.lt
          have hX6 := HBX1.out.later hb6
          have z0 := hX6.c0
          have z1 := hX6.c1
          have z2 := hX6.f 0
          have z3 := hX6.f 1
          have HX7 : Hid (Box _ (w.heap.size + 1 + 1) (.slice za zn zc) (.slice va vn vc)) := hX6.set (.slice za zn zc) (.slice va vn vc)
          have HA7 : Hid (Box _ w.heap.size (.slice (some ⟨db, dof, none⟩) 2 dc) (.slice (some ⟨ab, ao, none⟩) Nq ac)) := (HBA1.out.later hb6).other2 (p := w.heap.size + 1 + 1) (.slice za zn zc) (.slice va vn vc) (by omega)
          have HR7 : Hid (Box _ (w.heap.size + 1) (.slice none 0 0) (.slice none 0 0)) := (HBR1.out.later hb6).other2 (p := w.heap.size + 1 + 1) (.slice za zn zc) (.slice va vn vc) (by omega)
          have HI7 : Hid (It _ I (bt n k) (t + 1)) := ((HIT1.out.later hb6).set ⟨w.heap.size + 1 + 1, 0, none⟩ (.slice za zn zc) (by simp; omega)).set ⟨w.heap.size + 1 + 1, 1, none⟩ (.slice va vn vc) (by simp; omega)
          have HO7 : Hid (OwnT _ W1.heap.size (.slice za zn zc) (.slice va vn vc) ([(p : Int), (p : Int)], mpw p l (2 * V))) := ho.set2 (p := w.heap.size + 1 + 1) (.slice za zn zc) (.slice va vn vc) (by omega)
          have HB7 : Hid (Below w.heap.size w _) := ((Below.after HBE1.out hb6).setCell (p := ⟨w.heap.size + 1 + 1, 0, none⟩) (by simp; omega) (.slice za zn zc)).setCell (p := ⟨w.heap.size + 1 + 1, 1, none⟩) (by simp; omega) (.slice va vn vc)
          have hs7 : ((w6.setCell ⟨w.heap.size + 1 + 1, 0, none⟩ (.slice za zn zc)).setCell ⟨w.heap.size + 1 + 1, 1, none⟩ (.slice va vn vc)).heap.size = w6.heap.size := by simp
          have u0 := HX7.out.c0
          have u1 := HX7.out.c1
          have u2 := HA7.out.c0
          have u3 := HA7.out.c1
          have hs6 := hb6.size
          clear ho hb6 hX6 c0 c1
          go_wp2_with fail
          generalize ((w6.setCell ⟨w.heap.size + 1 + 1, 0, none⟩ (.slice za zn zc)).setCell ⟨w.heap.size + 1 + 1, 1, none⟩ (.slice va vn vc)) = W7 at HX7 HA7 HR7 HI7 HO7 HB7 hs7 u0 u1 u2 u3 ⊢
          clear z0 z1 z2 z3
          refine (mul_to 0 _ HO7.out.tens (HA.out.later HB7.out) HM2.out.1 HM2.out.2).mono ?_
          rintro e w8 ⟨y0, y1, rfl, ho, hb8⟩
          obtain ⟨fa, fn, fc, rfl⟩ := ho.dims.ints.shape3
          obtain ⟨ga, gn, gc, rfl⟩ := ho.data.ints.shape3
          have HO8 : Hid (OwnT w8 W7.heap.size (.slice fa fn fc) (.slice ga gn gc) ([(p : Int), (p : Int)], mpw p l (2 * V + 1))) := ho
          have HQ8 : Hid (Below W7.heap.size W7 w8) := hb8
          have hX8 := HX7.out.later hb8
          have z0 := hX8.c0
          have z1 := hX8.c1
          have z2 := hX8.f 0
          have z3 := hX8.f 1
          have HX8 : Hid (Box w8 (w.heap.size + 1 + 1) (.slice za zn zc) (.slice va vn vc)) := hX8
          clear ho hb8 hX8 u0 u1 u2 u3
          go_wp2
          go_roundw
          case rel =>
            refine ⟨t + 1, by omega, ⟨((HI7.out.later HQ8.out).set _ _ (by simp; omega)).set _ _ (by simp; omega), ((Below.after HB7.out HQ8.out).setCell (by simp; omega) _).setCell (by simp; omega) _, ⟨_, _, HX8.out.set _ _, ?_, fun j hj => ?_, fun j hj => ?_⟩, (HR7.out.later HQ8.out).other2 _ _ (by omega)⟩, (HA7.out.later HQ8.out).other2 _ _ (by omega)⟩
            · rw [HV.out]
              exact (HO8.out.set2 _ _ (by omega)).mono (by omega)
            · have := HO8.out.dims.frm j hj
              omega
            · have := HO8.out.data.frm j hj
              omega
          case measure =>
            have : ((w8.setCell ⟨w.heap.size + 1 + 1, 0, none⟩ (.slice fa fn fc)).setCell ⟨w.heap.size + 1 + 1, 1, none⟩ (.slice ga gn gc)).iterPos I = t + 1 := It.pos (((HI7.out.later HQ8.out).set _ _ (by simp; omega)).set _ _ (by simp; omega))
            rw [this, HPP.out]
            omega
      · have ht' : t = k + 1 := by omega
        subst ht'
        obtain ⟨hit, hbel, ⟨x0, x1, hbX, hoX, hn0, hn1⟩, hbR⟩ := hP
        rw [Nat.sub_self, Nat.pow_zero, Nat.div_one] at hoX
        obtain ⟨xa, xn, xc, rfl⟩ := hoX.dims.ints.shape3
        obtain ⟨ya, yn, yc, rfl⟩ := hoX.data.ints.shape3
        have hnx := fun ty => hit.nd (by rw [bt_size]) ty
        have c0 := hbX.c0
        have c1 := hbX.c1
        have l0 := hbR.c0
        have l1 := hbR.c1
        have m0 := hbR.f 0
        have m1 := hbR.f 1
        have HBS : Hid (Box _ _ _ _) := hbR.set (.slice xa xn xc) (.slice ya yn yc)
        have HOX : Hid (OwnT wr (w.heap.size + 1 + 1 + 1) (.slice xa xn xc) (.slice ya yn yc) ([(p : Int), (p : Int)], mpw p l n)) := hoX
        have HBE : Hid (Below w.heap.size w wr) := hbel
        clear hit hbel hbX hoX hn0 hn1 hbR
        go_wp2
        rw [jump_ret]
        have hr0 := HBS.out.c0
        have hr1 := HBS.out.c1
        refine bodyPost_ret (v := .tuple #[.agg #[(.slice xa xn xc), (.slice ya yn yc)], .int .i64 0]) (by simp [results, Tryd.results17, go_sem, hr0, hr1]) rfl ⟨_, _, rfl, ?_, ?_⟩
        · exact (HOX.out.set2 _ _ (by omega)).mono (by omega)
        · exact (HBE.out.setCell (by simp) _).setCell (by simp) _
  · intro a w' h
    exact h.elim
end Go.Proofs.YtgnicnaiaijdcaaDoor
