/- RingScales: its inner loop. -/
import Derived.Test.YtoocfoodnkikeaaAc
namespace Go.Proofs.Ytoocfoodnkikeaa
set_option linter.unusedVariables false
set_option linter.unusedSimpArgs false
open Go.RowKit

/-- What the inner loop reads. -/
structure EnvI (B tb tof i Ba g : Nat) (f0 xv yv a0 a1 : Value) (t : Ten) (ns : List Int) (w : World) : Prop where
  b0 : w.cell? ⟨B, 0, none⟩ = some f0
  c1 : w.cell? ⟨tb, tof + i * 2, none⟩ = some xv
  c2 : w.cell? ⟨tb, tof + i * 2 + 1, none⟩ = some yv
  tt : Tens w xv yv t
  ba : Box w Ba a0 a1
  ta : Tens w a0 a1 t
  ns : ∀ j (h : j < ns.length), w.cell? ⟨g, j, none⟩ = some (.int .i64 ns[j])
theorem EnvI.later {B tb tof i Ba g : Nat} {f0 xv yv a0 a1 : Value} {t : Ten} {ns : List Int} {w w' : World} (h : EnvI B tb tof i Ba g f0 xv yv a0 a1 t ns w) (hb : Below w.heap.size w w') : EnvI B tb tof i Ba g f0 xv yv a0 a1 t ns w' :=
  ⟨cell_later hb h.b0, cell_later hb h.c1, cell_later hb h.c2, h.tt.later hb, h.ba.later hb, h.ta.later hb, fun j hj => cell_later hb (h.ns j hj)⟩
structure FrI (B g gcap n i Ba : Nat) (bad : Int) (a : Act) : Prop where
  d : a.defers = []
  s : a.tmps.size = 125
  f1 : a.tmps.getD 1 undef = .pointer (some ⟨B, 0, none⟩)
  f3 : a.tmps.getD 3 undef = .slice (some ⟨g, 0, none⟩) n gcap
  f4 : a.tmps.getD 4 undef = .int .i64 i
  f5 : a.tmps.getD 5 undef = .pointer (some ⟨Ba, 0, none⟩)
  f10 : a.tmps.getD 10 undef = .int .i64 bad

set_option maxRecDepth 1000000 in
set_option maxHeartbeats 8000000 in
theorem sloop2 {B g gcap n i Ba tb tof c0 lT : Nat} {xv yv a0 a1 : Value} {t : Ten} {ns : List Int} {W : World} {Q : Exit → Act → World → Prop}
    (hn : ns.length = n) (hn0 : n ≤ 17592186043909) (hcap : n ≤ gcap) (hi : i < lT) (hlT : lT ≤ c0) (hT0 : lT ≤ 17592186044416)
    (HE : Hid (EnvI B tb tof i Ba g (.slice (some ⟨tb, tof, none⟩) lT c0) xv yv a0 a1 t ns W))
    (hexit : ∀ a' w', FrI B g gcap n i Ba (tkE t) a' → Below W.heap.size W w' → Q (.exit 2) a' w')
    (a : Act) (w : World) (ha : FrI B g gcap n i Ba (tkE t) a) (hs : a.tmps.getD 13 undef = .int .i64 0) (hb : Below W.heap.size W w) :
    Code.wp Try.prog (.loop (((Try.f4.body.map loopsIn).getD []).getD 1 .skip)) Q a w := by
  refine wp_loop (fun a' w' => FrI B g gcap n i Ba (tkE t) a' ∧ (∃ k : Nat, k ≤ n ∧ k ≤ 11 ∧ a'.tmps.getD 13 undef = .int .i64 k) ∧ Below W.heap.size W w') (fun a' _ => 11 - slotNat a' 13) ⟨ha, ⟨0, by omega, by omega, hs⟩, hb⟩ ?_
  clear hs ha hb
  clear a w
  intro a w ⟨hf, ⟨k, hk, hk6, hs⟩, hb⟩
  obtain ⟨G, hg, e⟩ := act125 a hf.d hf.s
  obtain ⟨hz1, hz2, g1, g3, g4, g5, g10⟩ := hf
  rw [hg] at g1 g3 g4 g5 g10 hs
  clear hz1 hz2
  subst e
  clear hg
  rw [g1, g3, g4, g5, g10, hs]
  have HEX : Hid (∀ a' w', FrI B g gcap n i Ba (tkE t) a' → Below W.heap.size W w' → Q (.exit 2) a' w') := hexit
  have HB : Hid (Below W.heap.size W w) := hb
  have HEW : Hid (EnvI B tb tof i Ba g (.slice (some ⟨tb, tof, none⟩) lT c0) xv yv a0 a1 t ns w) := HE.out.later hb
  have HNS : Hid (ns.length = n) := hn
  clear hexit hb hn g1 g3 g4 g5 g10 hs
  conv => arg 2; whnf
  by_cases hlt : k < n
  · by_cases hlt6 : k < 11
    · have hc3 : w.cell? ⟨g, k, none⟩ = some (.int .i64 (ns.getD k 0)) := by
        have h : k < ns.length := by rw [HNS.out]; exact hlt
        rw [show ns.getD k 0 = ns[k] by simp [h]]
        exact HEW.out.ns k h
      have hca0 := HEW.out.ba.c0
      have hca1 := HEW.out.ba.c1
      go_upto_region 19 with fail
      refine wp_cut (fun a' w' => FrI B g gcap n i Ba (tkE t) a' ∧ a'.tmps.getD 13 undef = .int .i64 k ∧ a'.tmps.getD 15 undef = .int .i64 (tkE t) ∧ (∃ By y0 y1, a'.tmps.getD 14 undef = .pointer (some ⟨By, 0, none⟩) ∧ Box w' By y0 y1 ∧ Tens w' y0 y1 (sclR (ns.getD k 0) t)) ∧ Below w.heap.size w w') ?_ ?_
      · intro a5 w5 ⟨hf5, h13, h15, ⟨By, y0, y1, h14, hby, hty⟩, hb5⟩
        obtain ⟨G5, hg5, e5⟩ := act125 a5 hf5.d hf5.s
        obtain ⟨hz1, hz2, g1, g3, g4, g5, g10⟩ := hf5
        rw [hg5] at g1 g3 g4 g5 g10 h13 h14 h15
        clear hz1 hz2
        subst e5
        clear hg5
        rw [g1, g3, g4, g5, g10, h13, h14, h15]
        clear g1 g3 g4 g5 g10 h13 h14 h15
        have HE5 : Hid (EnvI B tb tof i Ba g (.slice (some ⟨tb, tof, none⟩) lT c0) xv yv a0 a1 t ns w5) := HEW.out.later hb5
        have HBY5 : Hid (Box w5 By y0 y1) := hby
        have HTY5 : Hid (Tens w5 y0 y1 (sclR (ns.getD k 0) t)) := hty
        have HB5 : Hid (Below W.heap.size W w5) := Below.after HB.out hb5
        clear hby hty hb5 hca0 hca1 hc3 HEW HB
        cases ht : tok t with
        | false =>
          have HK0 : Hid (tkE t = 1) := by show _ = _; simp [tkE, ht]
          have HSC : Hid (sclR (ns.getD k 0) t = ([], [])) := by show _ = _; simp [sclR, ht]
          clear ht
          rw [HK0.out]
          go_wp2
          have hv : Below w5.heap.size w5 (w5.alloc (.cells #[.slice none 0 0, .slice none 0 0] 28)) := Below.push (Below.refl _ _) _
          have HEV : Hid (EnvI B tb tof i Ba g (.slice (some ⟨tb, tof, none⟩) lT c0) xv yv a0 a1 t ns (w5.alloc (.cells #[.slice none 0 0, .slice none 0 0] 28))) := HE5.out.later hv
          have HBY : Hid (Box (w5.alloc (.cells #[.slice none 0 0, .slice none 0 0] 28)) By y0 y1) := HBY5.out.later hv
          have HTY : Hid (Tens (w5.alloc (.cells #[.slice none 0 0, .slice none 0 0] 28)) y0 y1 (sclR (ns.getD k 0) t)) := HTY5.out.later hv
          have HBZ : Hid (Box (w5.alloc (.cells #[.slice none 0 0, .slice none 0 0] 28)) w5.heap.size (.slice none 0 0) (.slice none 0 0)) := Box.new _ _ _
          have HTZ : Hid (Tens (w5.alloc (.cells #[.slice none 0 0, .slice none 0 0] 28)) (.slice none 0 0) (.slice none 0 0) ([], [])) := ⟨Ints.nil _, Ints.nil _⟩
          have HEQ : Hid (sclR (ns.getD k 0) t = ([], [])) := HSC
          have HBV : Hid (Below W.heap.size W (w5.alloc (.cells #[.slice none 0 0, .slice none 0 0] 28))) := Below.after HB5.out hv
          clear hv HE5 HBY5 HTY5 HB5
          generalize (w5.alloc (.cells #[.slice none 0 0, .slice none 0 0] 28)) = V at HEV HBY HTY HBZ HTZ HBV ⊢
          have l1 := HEV.out.b0
          have l2 := HEV.out.c1
          have l3 := HEV.out.c2
          have l4 := HEV.out.ba.c0
          have l5 := HEV.out.ba.c1
          have l6 := HBY.out.c0
          have l7 := HBY.out.c1
          have l8 := HBZ.out.c0
          have l9 := HBZ.out.c1
          have hi0 : (0 : Int) ≤ (i : Int) := by omega
          have hi1 : (i : Int) < lT := by omega
          go_region_held3 (fun w' => w'.cell? ⟨B, 0, none⟩ = some (.slice (some ⟨tb, tof, none⟩) lT c0) ∧ w'.cell? ⟨tb, tof + i * 2, none⟩ = some xv ∧ w'.cell? ⟨tb, tof + i * 2 + 1, none⟩ = some yv ∧ w'.cell? ⟨Ba, 0, none⟩ = some a0 ∧ w'.cell? ⟨Ba, 1, none⟩ = some a1 ∧ w'.cell? ⟨By, 0, none⟩ = some y0 ∧ w'.cell? ⟨By, 1, none⟩ = some y1 ∧ w'.cell? ⟨w5.heap.size, 0, none⟩ = some (.slice none 0 0) ∧ w'.cell? ⟨w5.heap.size, 1, none⟩ = some (.slice none 0 0)) (refine ⟨?_, ?_, ?_, ?_, ?_, ?_, ?_, ?_, ?_⟩ <;> assumption)
            (first
              | (go_at_call 17; refine (num_any _ _).mono ?_; rintro e w' ⟨rfl, rfl⟩)
              | (go_at_call_of 18 (Value.agg #[y0, y1]); refine (eqt_to (HTY.out.later (Below.refl _ _).drew) (HTZ.out.later (Below.refl _ _).drew) HEQ.out).mono ?_; rintro e w' ⟨rfl, hbq⟩; have HQ : Hid (Below V.heap.size V w') := Below.after (Below.refl _ _).drew hbq; have m1 := cell_later HQ.out l1; have m2 := cell_later HQ.out l2; have m3 := cell_later HQ.out l3; have m4 := cell_later HQ.out l4; have m5 := cell_later HQ.out l5; have m6 := cell_later HQ.out l6; have m7 := cell_later HQ.out l7; have m8 := cell_later HQ.out l8; have m9 := cell_later HQ.out l9; clear hbq)
              | (go_at_call_of 18 (Value.agg #[a0, a1]); refine (eqt_to (HEV.out.ta.later HQ.out) (HEV.out.tt.later HQ.out) rfl).mono ?_; rintro e w' ⟨rfl, hbq⟩; have HQ2 : Hid (Below V.heap.size V w') := Below.after HQ.out hbq; have p1 := cell_later HQ2.out l1; have p2 := cell_later HQ2.out l2; have p3 := cell_later HQ2.out l3; have p4 := cell_later HQ2.out l4; have p5 := cell_later HQ2.out l5; have p6 := cell_later HQ2.out l6; have p7 := cell_later HQ2.out l7; have p8 := cell_later HQ2.out l8; have p9 := cell_later HQ2.out l9; clear hbq))
          go_wp2
          refine ⟨⟨⟨rfl, rfl, rfl, rfl, rfl, rfl, by rw [HK0.out]; rfl⟩, ⟨k + 1, by omega, by omega, ?_⟩, Below.after HBV.out HQ2.out⟩, ?_⟩
          · show Value.int .i64 _ = _
            go_num
          · show 11 - (intOf (Value.int .i64 _)).toNat < 11 - (intOf (Value.int .i64 _)).toNat
            simp [intOf]
            omega
        | true =>
          have HK0 : Hid (tkE t = 0) := by show _ = _; simp [tkE, ht]
          have HSC : Hid (sclR (ns.getD k 0) t = (t.1, t.2.map (fun y => wrap64 (y * ns.getD k 0)))) := by
            show _ = _
            simp only [sclR, ht, if_true, Int.mul_comm]
          have htp := tok_pos ht
          have HTP : Hid (1 ≤ t.2.length ∧ t.2.length ≤ 64) := htp
          clear ht htp
          rw [HK0.out]
          have q0 := HE5.out.ba.c0
          have q1 := HE5.out.ba.c1
          have q2 : w5.cell? ⟨g, k, none⟩ = some (.int .i64 (ns.getD k 0)) := by
            have h : k < ns.length := by rw [HNS.out]; exact hlt
            rw [show ns.getD k 0 = ns[k] by simp [h]]
            exact HE5.out.ns k h
          go_upto_region 22 with fail
          refine wp_cut (fun a' w' => FrI B g gcap n i Ba 0 a' ∧ a'.tmps.getD 13 undef = .int .i64 k ∧ a'.tmps.getD 15 undef = .int .i64 0 ∧ a'.tmps.getD 14 undef = .pointer (some ⟨By, 0, none⟩) ∧ (∃ Bz z0 z1, a'.tmps.getD 16 undef = .pointer (some ⟨Bz, 0, none⟩) ∧ Box w' Bz z0 z1 ∧ Tens w' z0 z1 (t.1, t.2.map (fun y => wrap64 (y * ns.getD k 0)))) ∧ Below w5.heap.size w5 w') ?_ ?_
          · intro a6 V ⟨hf6, h13, h15, h14, ⟨Bz, z0, z1, h16, hbz, htz⟩, hb6⟩
            obtain ⟨G6, hg6, e6⟩ := act125 a6 hf6.d hf6.s
            obtain ⟨hz1, hz2, g1, g3, g4, g5, g10⟩ := hf6
            rw [hg6] at g1 g3 g4 g5 g10 h13 h14 h15 h16
            clear hz1 hz2
            subst e6
            clear hg6
            rw [g1, g3, g4, g5, g10, h13, h14, h15, h16]
            clear g1 g3 g4 g5 g10 h13 h14 h15 h16
            have HEV : Hid (EnvI B tb tof i Ba g (.slice (some ⟨tb, tof, none⟩) lT c0) xv yv a0 a1 t ns V) := HE5.out.later hb6
            have HBY : Hid (Box V By y0 y1) := HBY5.out.later hb6
            have HTY : Hid (Tens V y0 y1 (sclR (ns.getD k 0) t)) := HTY5.out.later hb6
            have HBZ : Hid (Box V Bz z0 z1) := hbz
            have HTZ : Hid (Tens V z0 z1 (t.1, t.2.map (fun y => wrap64 (y * ns.getD k 0)))) := htz
            have HEQ := HSC
            have HBV : Hid (Below W.heap.size W V) := Below.after HB5.out hb6
            clear hb6 hbz htz HE5 HBY5 HTY5 HB5 q0 q1 q2
            go_wp2
            have l1 := HEV.out.b0
            have l2 := HEV.out.c1
            have l3 := HEV.out.c2
            have l4 := HEV.out.ba.c0
            have l5 := HEV.out.ba.c1
            have l6 := HBY.out.c0
            have l7 := HBY.out.c1
            have l8 := HBZ.out.c0
            have l9 := HBZ.out.c1
            have hi0 : (0 : Int) ≤ (i : Int) := by omega
            have hi1 : (i : Int) < lT := by omega
            go_region_held3 (fun w' => w'.cell? ⟨B, 0, none⟩ = some (.slice (some ⟨tb, tof, none⟩) lT c0) ∧ w'.cell? ⟨tb, tof + i * 2, none⟩ = some xv ∧ w'.cell? ⟨tb, tof + i * 2 + 1, none⟩ = some yv ∧ w'.cell? ⟨Ba, 0, none⟩ = some a0 ∧ w'.cell? ⟨Ba, 1, none⟩ = some a1 ∧ w'.cell? ⟨By, 0, none⟩ = some y0 ∧ w'.cell? ⟨By, 1, none⟩ = some y1 ∧ w'.cell? ⟨Bz, 0, none⟩ = some z0 ∧ w'.cell? ⟨Bz, 1, none⟩ = some z1) (refine ⟨?_, ?_, ?_, ?_, ?_, ?_, ?_, ?_, ?_⟩ <;> assumption)
              (first
                | (go_at_call 17; refine (num_any _ _).mono ?_; rintro e w' ⟨rfl, rfl⟩)
                | (go_at_call_of 18 (Value.agg #[y0, y1]); refine (eqt_to (HTY.out.later (Below.refl _ _).drew) (HTZ.out.later (Below.refl _ _).drew) HEQ.out).mono ?_; rintro e w' ⟨rfl, hbq⟩; have HQ : Hid (Below V.heap.size V w') := Below.after (Below.refl _ _).drew hbq; have m1 := cell_later HQ.out l1; have m2 := cell_later HQ.out l2; have m3 := cell_later HQ.out l3; have m4 := cell_later HQ.out l4; have m5 := cell_later HQ.out l5; have m6 := cell_later HQ.out l6; have m7 := cell_later HQ.out l7; have m8 := cell_later HQ.out l8; have m9 := cell_later HQ.out l9; clear hbq)
                | (go_at_call_of 18 (Value.agg #[a0, a1]); refine (eqt_to (HEV.out.ta.later HQ.out) (HEV.out.tt.later HQ.out) rfl).mono ?_; rintro e w' ⟨rfl, hbq⟩; have HQ2 : Hid (Below V.heap.size V w') := Below.after HQ.out hbq; have p1 := cell_later HQ2.out l1; have p2 := cell_later HQ2.out l2; have p3 := cell_later HQ2.out l3; have p4 := cell_later HQ2.out l4; have p5 := cell_later HQ2.out l5; have p6 := cell_later HQ2.out l6; have p7 := cell_later HQ2.out l7; have p8 := cell_later HQ2.out l8; have p9 := cell_later HQ2.out l9; clear hbq))
            go_wp2
            refine ⟨⟨⟨rfl, rfl, rfl, rfl, rfl, rfl, by rw [HK0.out]; rfl⟩, ⟨k + 1, by omega, by omega, ?_⟩, Below.after HBV.out HQ2.out⟩, ?_⟩
            · show Value.int .i64 _ = _
              go_num
            · show 11 - (intOf (Value.int .i64 _)).toNat < 11 - (intOf (Value.int .i64 _)).toNat
              simp [intOf]
              omega
          · intro J K' hJ hK'
            have HJ : Hid _ := hJ
            have HK' : Hid _ := hK'
            clear hJ hK'
            have hv : Below w5.heap.size w5 (w5.alloc (.cells #[.slice none 0 0, .slice none 0 0] 28)) := Below.push (Below.refl _ _) _
            have HTA : Hid (Tens (w5.alloc (.cells #[.slice none 0 0, .slice none 0 0] 28)) a0 a1 t) := HE5.out.ta.later hv
            have v0 := cell_later hv q0
            have v1 := cell_later hv q1
            have v2 := cell_later hv q2
            have hzb := Box.new w5 (.slice none 0 0) (.slice none 0 0)
            have HZB : Hid (Box (w5.alloc (.cells #[.slice none 0 0, .slice none 0 0] 28)) w5.heap.size (.slice none 0 0) (.slice none 0 0)) := hzb
            have v3 := hzb.c0
            have v4 := hzb.c1
            have v5 := hzb.f 0
            have v6 := hzb.f 1
            have n1 := World.new_ne w5 _ q0
            have n2 := World.new_ne w5 _ q2
            have HV : Hid (Below w5.heap.size w5 (w5.alloc (.cells #[.slice none 0 0, .slice none 0 0] 28))) := hv
            have hsV : (w5.alloc (.cells #[.slice none 0 0, .slice none 0 0] 28)).heap.size = w5.heap.size + 1 := by simp
            clear hzb hv q0 q1 q2
            generalize (w5.alloc (.cells #[.slice none 0 0, .slice none 0 0] 28)) = V at HTA v0 v1 v2 v3 v4 v5 v6 HZB HV hsV ⊢
            go_region_held3 (fun w' => w'.cell? ⟨Ba, 0, none⟩ = some a0 ∧ w'.cell? ⟨Ba, 1, none⟩ = some a1 ∧ w'.cell? ⟨g, k, none⟩ = some (.int .i64 (ns.getD k 0))) (go_keep)
              (first
                | (go_at_call 23; refine (rscale_any (ns.getD k 0) (HTA.out.later (Below.refl _ _).drew) HTP.out.1 HTP.out.2).mono ?_; rintro e w' ⟨y0', y1', rfl, ho, hbq⟩; obtain ⟨xa, xn, xc, rfl⟩ := ho.dims.ints.shape3; obtain ⟨ya, yn, yc, rfl⟩ := ho.data.ints.shape3; have HQ : Hid (Below V.heap.size V w') := Below.after (Below.refl _ _).drew hbq; have HOT : Hid (OwnT w' V.heap.size (.slice xa xn xc) (.slice ya yn yc) (t.1, t.2.map (fun y => wrap64 (y * ns.getD k 0)))) := ho; have k0 := cell_later HQ.out v0; have k1 := cell_later HQ.out v1; have k2 := cell_later HQ.out v2; have hz := HZB.out.later HQ.out; have z0 := hz.c0; have z1 := hz.c1; have z2 := hz.f 0; have z3 := hz.f 1; have HZ : Hid (Box w' w5.heap.size (.slice none 0 0) (.slice none 0 0)) := hz; clear ho hbq hz))
            exact HK'.out _ _ (Met.intro (HJ.out _ _ ⟨⟨rfl, rfl, rfl, rfl, rfl, rfl, rfl⟩, rfl, rfl, rfl, ⟨_, _, _, rfl, HZ.out.set _ _, ((HOT.out.setCell _ _ (by simp; omega)).setCell _ _ (by simp; omega)).tens⟩, ((Below.after HV.out HQ.out).setCell (Nat.le_refl _) _).setCell (Nat.le_refl _) _⟩))
      · intro J K' hJ hK'
        have HJ : Hid _ := hJ
        have HK' : Hid _ := hK'
        clear hJ hK'
        have n1 := World.new_ne w _ hca0
        have n2 := World.new_ne w _ hc3
        go_region_held3 (fun w' => w'.cell? ⟨Ba, 0, none⟩ = some a0 ∧ w'.cell? ⟨Ba, 1, none⟩ = some a1 ∧ w'.cell? ⟨g, k, none⟩ = some (.int .i64 (ns.getD k 0))) (go_keep)
          (first
            | (go_at_call 24; refine (scale_to (ns.getD k 0) (tkE t) (HEW.out.ta.later (Below.refl _ _).drew) rfl).mono ?_; rintro e w' ⟨y0, y1, rfl, ho, hbq⟩; obtain ⟨xa, xn, xc, rfl⟩ := ho.dims.ints.shape3; obtain ⟨ya, yn, yc, rfl⟩ := ho.data.ints.shape3; have HQ : Hid (Below w.heap.size w w') := Below.after (Below.refl _ _).drew hbq; have HT1 : Hid (Tens w' (.slice xa xn xc) (.slice ya yn yc) (sclR (ns.getD k 0) t)) := ho.tens; have k0 := cell_later HQ.out hca0; have k1 := cell_later HQ.out hca1; have k2 := cell_later HQ.out hc3; clear ho hbq)
            | (go_at_call 24; refine (scale_to (ns.getD k 0) (tkE t) (HEW.out.ta.later (Below.push (Below.refl _ _) _).drew) rfl).mono ?_; rintro e w' ⟨y0, y1, rfl, ho, hbq⟩; obtain ⟨xa, xn, xc, rfl⟩ := ho.dims.ints.shape3; obtain ⟨ya, yn, yc, rfl⟩ := ho.data.ints.shape3; have HQ : Hid (Below w.heap.size w w') := Below.after (Below.push (Below.refl _ _) _).drew hbq; have HT1 : Hid (Tens w' (.slice xa xn xc) (.slice ya yn yc) (sclR (ns.getD k 0) t)) := ho.tens; have HOT : Hid (OwnT w' (w.heap.size + 1) (.slice xa xn xc) (.slice ya yn yc) (sclR (ns.getD k 0) t)) := (by show OwnT _ _ _ _ _; simpa using ho); have k0 := cell_later HQ.out hca0; have k1 := cell_later HQ.out hca1; have k2 := cell_later HQ.out hc3; have hz : Box w' w.heap.size (.slice none 0 0) (.slice none 0 0) := Box.later hbq (Box.new w _ _); have z0 := hz.c0; have z1 := hz.c1; have z2 := hz.f 0; have z3 := hz.f 1; have HZ : Hid (Box w' w.heap.size (.slice none 0 0) (.slice none 0 0)) := hz; clear ho hbq hz))
        · exact HK'.out _ _ (Met.intro (HJ.out _ _ ⟨⟨rfl, rfl, rfl, rfl, rfl, rfl, rfl⟩, rfl, rfl, ⟨_, _, _, rfl, Box.new _ _ _, HT1.out.later (Below.push (Below.refl _ _) _)⟩, Below.push HQ.out _⟩))
        · exact HK'.out _ _ (Met.intro (HJ.out _ _ ⟨⟨rfl, rfl, rfl, rfl, rfl, rfl, rfl⟩, rfl, rfl, ⟨_, _, _, rfl, HZ.out.set _ _, ((HOT.out.setCell _ _ (by simp)).setCell _ _ (by simp)).tens⟩, (HQ.out.setCell (Nat.le_refl _) _).setCell (Nat.le_refl _) _⟩))
    · go_wp2
      exact HEX.out _ _ ⟨rfl, rfl, rfl, rfl, rfl, rfl, rfl⟩ HB.out
  · go_wp2
    exact HEX.out _ _ ⟨rfl, rfl, rfl, rfl, rfl, rfl, rfl⟩ HB.out
end Go.Proofs.Ytoocfoodnkikeaa
