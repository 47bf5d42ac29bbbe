/- TurnBack: its inner loop. -/
import Derived.Test.YtgedknmjenbacaaN1
namespace Go.Proofs.Ytgedknmjenbacaa
set_option linter.unusedVariables false
set_option linter.unusedSimpArgs false
open Go.RowKit

structure FrB (B i Ba : Nat) (ds : Value) (a : Act) : Prop where
  d : a.defers = []
  s : a.tmps.size = 102
  f1 : a.tmps.getD 1 undef = .pointer (some ⟨B, 0, none⟩)
  f3 : a.tmps.getD 3 undef = .int .i64 i
  f4 : a.tmps.getD 4 undef = .pointer (some ⟨Ba, 0, none⟩)
  f5 : a.tmps.getD 5 undef = ds

set_option maxRecDepth 1000000 in
set_option maxHeartbeats 8000000 in
theorem bloop2 {B i Ba n c : Nat} {da : Option Addr} {a0 a1 : Value} {t : Ten} {L : List (List Int)} {W : World} {Q : Exit → Act → World → Prop}
    (hn20 : n ≤ 20)
    (HE : Hid (TB W Ba a0 a1 t ∧ IntsL W (.slice da n c) L))
    (hexit : ∀ a' w', FrB B i Ba (.slice da n c) a' → Below W.heap.size W w' → Q (.exit 2) a' w')
    (a : Act) (w : World) (ha : FrB B i Ba (.slice da n c) a) (hs : a.tmps.getD 6 undef = .int .i64 0) (hb : Below W.heap.size W w) :
    Code.wp Try.prog (.loop (((Try.f5.body.map loopsIn).getD []).getD 1 .skip)) Q a w := by
  refine wp_loop (fun a' w' => FrB B i Ba (.slice da n c) a' ∧ (∃ k : Nat, k ≤ n ∧ a'.tmps.getD 6 undef = .int .i64 k) ∧ Below W.heap.size W w') (fun a' _ => n - slotNat a' 6) ⟨ha, ⟨0, by omega, hs⟩, hb⟩ ?_
  clear hs ha hb
  clear a w
  intro a w ⟨hf, ⟨k, hk, hs⟩, hb⟩
  obtain ⟨G, hg, e⟩ := act102 a hf.d hf.s
  obtain ⟨hz1, hz2, g1, g3, g4, g5⟩ := hf
  rw [hg] at g1 g3 g4 g5 hs
  clear hz1 hz2
  subst e
  clear hg
  rw [g1, g3, g4, g5, hs]
  have HEX : Hid (∀ a' w', FrB B i Ba (.slice da n c) a' → Below W.heap.size W w' → Q (.exit 2) a' w') := hexit
  have HB : Hid (Below W.heap.size W w) := hb
  have HTB : Hid (TB w Ba a0 a1 t) := HE.out.1.later hb
  have HLS : Hid (IntsL w (.slice da n c) L) := HE.out.2.later hb
  obtain ⟨hnL, hnc⟩ := HE.out.2.len
  have HNL : Hid (n = L.length) := hnL
  clear hexit hb hnL g1 g3 g4 g5 hs
  conv => arg 2; whnf
  by_cases hlt : k < n
  · obtain ⟨db, dof, xa, xn, xc, rfl, hr, HX⟩ := HLS.out.row k (by have := HNL.out; omega)
    obtain ⟨d, hd⟩ : ∃ d, L[k]'(by have := HNL.out; omega) = d := ⟨_, rfl⟩
    rw [hd] at HX
    clear hd
    have v0 := HTB.out.box.c0
    have v1 := HTB.out.box.c1
    obtain ⟨aa, an, ac, rfl⟩ := HTB.out.ten.1.shape3
    obtain ⟨ba, bn, bc, rfl⟩ := HTB.out.ten.2.shape3
    go_upto_region 11 with fail
    refine wp_cut (fun a' w' => FrB B i Ba (.slice (some ⟨db, dof, none⟩) n c) a' ∧ a'.tmps.getD 6 undef = .int .i64 k ∧ a'.tmps.getD 8 undef = .int .i64 (wiE t d) ∧ (∃ Bw y0 y1, a'.tmps.getD 7 undef = .pointer (some ⟨Bw, 0, none⟩) ∧ TB w' Bw y0 y1 (wiR t d)) ∧ Below w.heap.size w w') ?_ ?_
    · intro a5 w5 ⟨hf5, h6, h8, ⟨Bw, y0, y1, h7, htw⟩, hb5⟩
      obtain ⟨G5, hg5, e5⟩ := act102 a5 hf5.d hf5.s
      obtain ⟨hz1, hz2, g1, g3, g4, g5⟩ := hf5
      rw [hg5] at g1 g3 g4 g5 h6 h7 h8
      clear hz1 hz2
      subst e5
      clear hg5
      rw [g1, g3, g4, g5, h6, h7, h8]
      clear g1 g3 g4 g5 h6 h7 h8
      rename_i K1 hK1
      apply hK1
      clear hK1
      have HTW : Hid (TB w5 Bw y0 y1 (wiR t d)) := htw
      have HTA : Hid (TB w5 Ba _ _ t) := HTB.out.later hb5
      have HB5 : Hid (Below W.heap.size W w5) := Below.after HB.out hb5
      clear htw hb5 v0 v1 hr HTB HLS HX HB
      by_cases hx : wiE t d = 0
      · have HSU : Hid (suE (wiR t d) t.1 = 0) := su_wi hx
        obtain ⟨q, hq1, hq2, ⟨hm1, hm64⟩, hn64⟩ := back_law hx
        have HR : Hid (suR (wiR t d) t.1 = (t.1, t.2.map fun y => wrap64 (y * (q : Nat)))) := hq2
        obtain ⟨m, hm⟩ : ∃ m, t.2.length = m := ⟨_, rfl⟩
        obtain ⟨N, hN⟩ : ∃ N, (wiR t d).2.length = N := ⟨_, rfl⟩
        have HML : Hid (t.2.length = m) := hm
        have HNW : Hid ((wiR t d).2.length = N) := hN
        rw [hm] at hq1 hm1 hm64
        rw [hN] at hq1 hn64
        have hbn : bn = m := by
          obtain ⟨_, _, e⟩ := HTA.out.ten.2.shape
          simp only [Value.slice.injEq] at e
          rw [e.2.1, HML.out]
        subst hbn
        obtain ⟨ya, yn, yc, rfl⟩ := HTW.out.ten.1.shape3
        obtain ⟨za, zn, zc, rfl⟩ := HTW.out.ten.2.shape3
        have hzn : zn = N := by
          obtain ⟨_, _, e⟩ := HTW.out.ten.2.shape
          simp only [Value.slice.injEq] at e
          rw [e.2.1, HNW.out]
        subst hzn
        have hmod : (zn : Int).tmod (bn : Int) = 0 := by
          rw [hq1]
          simp
        have hquo : (zn : Int).tdiv (bn : Int) = (q : Int) := by
          rw [hq1, Int.natCast_mul]
          exact Int.mul_tdiv_cancel _ (by omega)
        have hm0 : ((bn : Int) == 0) = false := by simp; omega
        have hq64 : q ≤ 64 := by
          have h1 : q * 1 ≤ q * bn := Nat.mul_le_mul_left q hm1
          omega
        rw [hx]
        clear hx hq2 hm hN hq1
        have c0 := HTA.out.box.c0
        have c1 := HTA.out.box.c1
        have c2 := HTW.out.box.c0
        have c3 := HTW.out.box.c1
        go_wp2_with (go_at_call 11; refine (num_any _ _).mono ?_; rintro e w' ⟨rfl, rfl⟩)
        refine (sumd_to 0 _ HTW.out.ten HTA.out.ten.1 HSU.out HR.out).mono ?_
        rintro e w6 ⟨u0, u1, rfl, ho, hb6⟩
        obtain ⟨ua, un, uc, rfl⟩ := ho.dims.ints.shape3
        obtain ⟨va, vn, vc, rfl⟩ := ho.data.ints.shape3
        have hvn : vn = bn := by
          obtain ⟨_, _, e⟩ := ho.data.ints.shape
          simp only [Value.slice.injEq, List.length_map] at e
          rw [e.2.1, HML.out]
        subst hvn
        have hv : Below w6.heap.size w6 (w6.alloc (.cells #[.slice ua un uc, .slice va vn vc] 31)) := Below.push (Below.refl _ _) _
        have HL6 : Hid (Live (w6.alloc (.cells #[.slice ua un uc, .slice va vn vc] 31)) [(w6.heap.size, .slice ua un uc, .slice va vn vc, (t.1, t.2.map fun y => wrap64 (y * (q : Nat)))), (Ba, _, _, t), (Bw, _, _, wiR t d)]) := ⟨⟨Box.new _ _ _, ho.tens.later hv⟩, (HTA.out.later hb6).later hv, (HTW.out.later hb6).later hv, trivial⟩
        have HB6 : Hid (Below W.heap.size W (w6.alloc (.cells #[.slice ua un uc, .slice va vn vc] 31))) := Below.after (Below.after HB5.out hb6) hv
        clear ho hb6 hv c0 c1 c2 c3
        have e1 := HL6.out.1.box.c1
        have e3 := HL6.out.2.1.box.c1
        have e5 := HL6.out.2.2.1.box.c1
        go_upto_region 16 with (go_at_call 11; refine (num_any _ _).mono ?_; rintro e w' ⟨rfl, rfl⟩)
        have e0 := HL6.out.1.box.c0
        have e2 := HL6.out.2.1.box.c0
        have hwq : IntKind.i64.wrap ((zn : Int).tdiv (vn : Int)) = (q : Int) := by rw [hquo]; exact wrap_small _ (by omega) (by omega)
        have hwq2 : IntKind.i64.wrap (q : Int) = (q : Int) := wrap_small _ (by omega) (by omega)
        have hne0 : ¬ ((vn : Int) = 0) := by omega
        have hne1 : ¬ (vn = 0) := by omega
        have hne2 : (vn == 0) = false := by simp; omega
        have hne3 : decide ((vn : Int) = 0) = false := by simp; omega
        generalize (w6.alloc (.cells #[.slice ua un uc, .slice va vn vc] 31)) = V at HL6 HB6 e0 e1 e2 e3 e5 ⊢
        go_region_held3 (fun w' => w'.cell? ⟨w6.heap.size, 0, none⟩ = some (.slice ua un uc) ∧ w'.cell? ⟨w6.heap.size, 1, none⟩ = some (.slice va vn vc) ∧ w'.cell? ⟨Ba, 0, none⟩ = some (.slice aa an ac) ∧ w'.cell? ⟨Ba, 1, none⟩ = some (.slice ba vn bc) ∧ w'.cell? ⟨Bw, 1, none⟩ = some (.slice za zn zc)) (go_keep)
          (first
            | (go_at_call 27; refine (rscale_any (s := t) (q : Int) ?_ (by rw [HML.out]; omega) (by rw [HML.out]; omega)).mono ?_; exact HL6.out.2.1.ten.later (Below.refl _ _).drew; rintro e w7 ⟨p0, p1, rfl, ho, hb7⟩; obtain ⟨pa, pn, pc, rfl⟩ := ho.dims.ints.shape3; obtain ⟨ra, rn, rc, rfl⟩ := ho.data.ints.shape3; have HQ7 : Hid (Below V.heap.size V w7) := Below.after (Below.refl _ _).drew hb7; have HO7 : Hid (Tens w7 (.slice pa pn pc) (.slice ra rn rc) (t.1, t.2.map fun y => wrap64 (y * (q : Nat)))) := ho.tens; have a_0 := cell_later HQ7.out e0; have a_1 := cell_later HQ7.out e1; have a_2 := cell_later HQ7.out e2; have a_3 := cell_later HQ7.out e3; have a_5 := cell_later HQ7.out e5; clear ho hb7)
            | (go_at_call 12; refine (eqt_to (s := (t.1, t.2.map fun y => wrap64 (y * (q : Nat)))) (t := (t.1, t.2.map fun y => wrap64 (y * (q : Nat)))) ?_ ?_ rfl).mono ?_; exact HL6.out.1.ten.later HQ7.out; exact HO7.out; rintro e w8 ⟨rfl, hb8⟩; have HQ8 : Hid (Below V.heap.size V w8) := Below.after HQ7.out hb8; have b_0 := cell_later HQ8.out e0; have b_1 := cell_later HQ8.out e1; have b_2 := cell_later HQ8.out e2; have b_3 := cell_later HQ8.out e3; have b_5 := cell_later HQ8.out e5; clear hb8))
        clear a_0 a_1 a_2 a_3 a_5 b_0 b_1 b_2 b_3 b_5 e0 e1 e2 e3 e5
        go_wp2
        refine ⟨⟨⟨rfl, rfl, rfl, rfl, rfl, rfl⟩, ⟨k + 1, by omega, ?_⟩, Below.after HB6.out HQ8.out⟩, ?_⟩
        · show Value.int .i64 _ = _
          go_num
        · show n - (intOf (Value.int .i64 _)).toNat < n - (intOf (Value.int .i64 _)).toNat
          simp [intOf]
          omega
      · have hne : (wiE t d != 0) = true := by simp [hx]
        obtain ⟨x, hxx⟩ : ∃ x, wiE t d = x := ⟨_, rfl⟩
        rw [hxx] at hne ⊢
        clear hx hxx
        go_wp2_with (go_at_call 11; refine (num_any _ _).mono ?_; rintro e w' ⟨rfl, rfl⟩)
        refine ⟨⟨⟨rfl, rfl, rfl, rfl, rfl, rfl⟩, ⟨k + 1, by omega, ?_⟩, HB5.out⟩, ?_⟩
        · show Value.int .i64 _ = _
          go_num
        · show n - (intOf (Value.int .i64 _)).toNat < n - (intOf (Value.int .i64 _)).toNat
          simp [intOf]
          omega
    · intro J K' hJ hK'
      have HJ : Hid _ := hJ
      have HK' : Hid _ := hK'
      clear hJ hK'
      have n1 := World.new_ne w _ v0
      have n2 := World.new_ne w _ hr
      have z0 : (0 : Int) ≤ (k : Int) := by omega
      have z1 : (k : Int) < n := by omega
      have HZ1 : Hid (Box (w.alloc (.cells #[.slice none 0 0, .slice none 0 0] 31)) w.heap.size (.slice none 0 0) (.slice none 0 0)) := Box.new _ _ _
      go_region_held3 (fun w' => w'.cell? ⟨Ba, 0, none⟩ = some (.slice aa an ac) ∧ w'.cell? ⟨Ba, 1, none⟩ = some (.slice ba bn bc) ∧ w'.cell? ⟨db, dof + k, none⟩ = some (.slice xa xn xc)) (go_keep)
        (first
          | (go_at_call 17; refine (wide_to (s := t) (d := d) (wiE t d) (wiR t d) ?_ ?_ rfl rfl).mono ?_; exact HTB.out.ten.later (Below.refl _ _).drew; exact HX.out.later (Below.refl _ _).drew; rintro e w7 ⟨y0, y1, rfl, ho, hb7⟩; obtain ⟨ya, yn, yc, rfl⟩ := ho.dims.ints.shape3; obtain ⟨za, zn, zc, rfl⟩ := ho.data.ints.shape3; have HQ7 : Hid (Below w.heap.size w w7) := Below.after (Below.refl _ _).drew hb7; have HO7 : Hid (OwnT w7 w.heap.size (.slice ya yn yc) (.slice za zn zc) (wiR t d)) := ho; have a_0 := cell_later HQ7.out v0; have a_1 := cell_later HQ7.out v1; have a_2 := cell_later HQ7.out hr; clear ho hb7)
          | (go_at_call 17; refine (wide_to (s := t) (d := d) (wiE t d) (wiR t d) ?_ ?_ rfl rfl).mono ?_; exact HTB.out.ten.later (Below.push (Below.refl _ _) _).drew; exact HX.out.later (Below.push (Below.refl _ _) _).drew; rintro e w7 ⟨y0, y1, rfl, ho, hb7⟩; obtain ⟨ya, yn, yc, rfl⟩ := ho.dims.ints.shape3; obtain ⟨za, zn, zc, rfl⟩ := ho.data.ints.shape3; have HQ7 : Hid (Below w.heap.size w w7) := Below.after (Below.push (Below.refl _ _) _).drew hb7; have HO7 : Hid (OwnT w7 (w.heap.size + 1) (.slice ya yn yc) (.slice za zn zc) (wiR t d)) := (by show OwnT _ _ _ _ _; simpa using ho); have hz : Box w7 w.heap.size (.slice none 0 0) (.slice none 0 0) := Box.later hb7 HZ1.out; have q0 := hz.c0; have q1 := hz.c1; have q2 := hz.f 0; have q3 := hz.f 1; have HZ : Hid (Box w7 w.heap.size (.slice none 0 0) (.slice none 0 0)) := hz; have a_0 := cell_later HQ7.out v0; have a_1 := cell_later HQ7.out v1; have a_2 := cell_later HQ7.out hr; clear ho hb7 hz))
      · exact HK'.out _ _ (Met.intro (HJ.out _ _ ⟨⟨rfl, rfl, rfl, rfl, rfl, rfl⟩, rfl, rfl, ⟨_, _, _, rfl, Box.new _ _ _, HO7.out.tens.later (Below.push (Below.refl _ _) _)⟩, Below.push HQ7.out _⟩))
      · exact HK'.out _ _ (Met.intro (HJ.out _ _ ⟨⟨rfl, rfl, rfl, rfl, rfl, rfl⟩, rfl, rfl, ⟨_, _, _, rfl, HZ.out.set _ _, ((HO7.out.setCell _ _ (by simp)).setCell _ _ (by simp)).tens⟩, (HQ7.out.setCell (Nat.le_refl _) _).setCell (Nat.le_refl _) _⟩))
  · go_wp2
    exact HEX.out _ _ ⟨rfl, rfl, rfl, rfl, rfl, rfl⟩ HB.out
end Go.Proofs.Ytgedknmjenbacaa
