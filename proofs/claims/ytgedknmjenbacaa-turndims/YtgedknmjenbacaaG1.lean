/- TurnDims: the great tests of its inner loop. -/
import Derived.Test.YtgedknmjenbacaaA1
namespace Go.Proofs.Ytgedknmjenbacaa
set_option linter.unusedVariables false
set_option linter.unusedSimpArgs false
open Go.RowKit

/-- What the frame holds when the answers are held against the page's. -/
structure FrG (B i Ba k Bs Bw Bu Bp Bq Br : Nat) (may : Bool) (ds dv : Value) (e1 e2 e3 b1 b2 b3 : Int) (a : Act) : Prop where
  d : a.defers = []
  s : a.tmps.size = 212
  f1 : a.tmps.getD 1 undef = .pointer (some ⟨B, 0, none⟩)
  f3 : a.tmps.getD 3 undef = .int .i64 i
  f4 : a.tmps.getD 4 undef = .pointer (some ⟨Ba, 0, none⟩)
  f5 : a.tmps.getD 5 undef = .bool may
  f10 : a.tmps.getD 10 undef = ds
  f11 : a.tmps.getD 11 undef = .int .i64 k
  f12 : a.tmps.getD 12 undef = dv
  f13 : a.tmps.getD 13 undef = .pointer (some ⟨Bs, 0, none⟩)
  f14 : a.tmps.getD 14 undef = .int .i64 e1
  f15 : a.tmps.getD 15 undef = .pointer (some ⟨Bw, 0, none⟩)
  f16 : a.tmps.getD 16 undef = .int .i64 e2
  f17 : a.tmps.getD 17 undef = .pointer (some ⟨Bu, 0, none⟩)
  f18 : a.tmps.getD 18 undef = .int .i64 e3
  f19 : a.tmps.getD 19 undef = .int .i64 b1
  f20 : a.tmps.getD 20 undef = .int .i64 b2
  f21 : a.tmps.getD 21 undef = .int .i64 b3
  f22 : a.tmps.getD 22 undef = .pointer (some ⟨Bp, 0, none⟩)
  f23 : a.tmps.getD 23 undef = .pointer (some ⟨Bq, 0, none⟩)
  f24 : a.tmps.getD 24 undef = .pointer (some ⟨Br, 0, none⟩)
/-- What it holds in each round. -/
structure FrH (B i Ba : Nat) (may : Bool) (ds : Value) (a : Act) : Prop where
  d : a.defers = []
  s : a.tmps.size = 212
  f1 : a.tmps.getD 1 undef = .pointer (some ⟨B, 0, none⟩)
  f3 : a.tmps.getD 3 undef = .int .i64 i
  f4 : a.tmps.getD 4 undef = .pointer (some ⟨Ba, 0, none⟩)
  f5 : a.tmps.getD 5 undef = .bool may
  f10 : a.tmps.getD 10 undef = ds

set_option maxRecDepth 1000000 in
set_option maxHeartbeats 8000000 in
theorem greg36 {B i Ba k Bs Bw Bu Bp Bq Br tb tof c0 lT db dof n c : Nat} {may : Bool} {dv xi yi xv s0 s1 w0 w1 u0 u1 p0 p1 r0 r1 r2 r3 r4 r5 : Value} {e1 e2 e3 : Int} {S V U t : Ten} {d : List Int} {w : World} {Q : Exit → Act → World → Prop}
    (hi : i < lT) (hlT : lT ≤ c0) (hT0 : lT ≤ 17592186044416) (hk : k < n) (hn20 : n ≤ 20) (hnc : n ≤ c)
    (HC : Hid (w.cell? ⟨B, 0, none⟩ = some (.slice (some ⟨tb, tof, none⟩) lT c0) ∧ w.cell? ⟨tb, tof + i * 2, none⟩ = some xi ∧ w.cell? ⟨tb, tof + i * 2 + 1, none⟩ = some yi ∧ w.cell? ⟨db, dof + k, none⟩ = some xv))
    (HTI : Hid (Tens w xi yi t)) (HD : Hid (Ints w dv d)) (HX : Hid (Ints w xv d))
    (HL : Hid (Live w [(Bs, s0, s1, S), (Bw, w0, w1, V), (Bu, u0, u1, U), (Ba, p0, p1, t), (Bp, r0, r1, S), (Bq, r2, r3, V), (Br, r4, r5, U)]))
    (HQ : Hid (∀ a' w', FrH B i Ba may (.slice (some ⟨db, dof, none⟩) n c) a' → a'.tmps.getD 11 undef = .int .i64 k → a'.tmps.getD 12 undef = dv → a'.tmps.getD 13 undef = .pointer (some ⟨Bs, 0, none⟩) → a'.tmps.getD 15 undef = .pointer (some ⟨Bw, 0, none⟩) → a'.tmps.getD 17 undef = .pointer (some ⟨Bu, 0, none⟩) → a'.tmps.getD 186 undef = .bool false → Below w.heap.size w w' → Q .normal a' w'))
    (a : Act) (ha : FrG B i Ba k Bs Bw Bu Bp Bq Br may (.slice (some ⟨db, dof, none⟩) n c) dv e1 e2 e3 e1 e2 e3 a) :
    Code.wp Try.prog ((((Try.f3.body.map regs).getD []).getD 34 (0, .skip)).2) Q a w := by
  obtain ⟨G, hg, e⟩ := act212 a ha.d ha.s
  obtain ⟨hz1, hz2, g1, g3, g4, g5, g10, g11, g12, g13, g14, g15, g16, g17, g18, g19, g20, g21, g22, g23, g24⟩ := ha
  rw [hg] at g1 g3 g4 g5 g10 g11 g12 g13 g14 g15 g16 g17 g18 g19 g20 g21 g22 g23 g24
  clear hz1 hz2
  subst e
  clear hg
  rw [g1, g3, g4, g5, g10, g11, g12, g13, g14, g15, g16, g17, g18, g19, g20, g21, g22, g23, g24]
  clear g1 g3 g4 g5 g10 g11 g12 g13 g14 g15 g16 g17 g18 g19 g20 g21 g22 g23 g24
  have l0 : w.cell? ⟨B, 0, none⟩ = some (.slice (some ⟨tb, tof, none⟩) lT c0) := HC.out.1
  have l1 : w.cell? ⟨tb, tof + i * 2, none⟩ = some (xi) := HC.out.2.1
  have l2 : w.cell? ⟨tb, tof + i * 2 + 1, none⟩ = some (yi) := HC.out.2.2.1
  have l3 : w.cell? ⟨db, dof + k, none⟩ = some (xv) := HC.out.2.2.2
  have l4 : w.cell? ⟨Bs, 0, none⟩ = some (s0) := HL.out.1.box.c0
  have l5 : w.cell? ⟨Bs, 1, none⟩ = some (s1) := HL.out.1.box.c1
  have l6 : w.cell? ⟨Bw, 0, none⟩ = some (w0) := HL.out.2.1.box.c0
  have l7 : w.cell? ⟨Bw, 1, none⟩ = some (w1) := HL.out.2.1.box.c1
  have l8 : w.cell? ⟨Bu, 0, none⟩ = some (u0) := HL.out.2.2.1.box.c0
  have l9 : w.cell? ⟨Bu, 1, none⟩ = some (u1) := HL.out.2.2.1.box.c1
  have l10 : w.cell? ⟨Ba, 0, none⟩ = some (p0) := HL.out.2.2.2.1.box.c0
  have l11 : w.cell? ⟨Ba, 1, none⟩ = some (p1) := HL.out.2.2.2.1.box.c1
  have l12 : w.cell? ⟨Bp, 0, none⟩ = some (r0) := HL.out.2.2.2.2.1.box.c0
  have l13 : w.cell? ⟨Bp, 1, none⟩ = some (r1) := HL.out.2.2.2.2.1.box.c1
  have l14 : w.cell? ⟨Bq, 0, none⟩ = some (r2) := HL.out.2.2.2.2.2.1.box.c0
  have l15 : w.cell? ⟨Bq, 1, none⟩ = some (r3) := HL.out.2.2.2.2.2.1.box.c1
  have l16 : w.cell? ⟨Br, 0, none⟩ = some (r4) := HL.out.2.2.2.2.2.2.1.box.c0
  have l17 : w.cell? ⟨Br, 1, none⟩ = some (r5) := HL.out.2.2.2.2.2.2.1.box.c1
  have z1 : (0 : Int) ≤ (i : Int) := by omega
  have z2 : (i : Int) < lT := by omega
  have z3 : (0 : Int) ≤ (k : Int) := by omega
  have z4 : (k : Int) < n := by omega
  conv => arg 2; whnf
  go_region_held3 (fun w' => w'.cell? ⟨B, 0, none⟩ = some (.slice (some ⟨tb, tof, none⟩) lT c0) ∧ w'.cell? ⟨tb, tof + i * 2, none⟩ = some (xi) ∧ w'.cell? ⟨tb, tof + i * 2 + 1, none⟩ = some (yi) ∧ w'.cell? ⟨db, dof + k, none⟩ = some (xv) ∧ w'.cell? ⟨Bs, 0, none⟩ = some (s0) ∧ w'.cell? ⟨Bs, 1, none⟩ = some (s1) ∧ w'.cell? ⟨Bw, 0, none⟩ = some (w0) ∧ w'.cell? ⟨Bw, 1, none⟩ = some (w1) ∧ w'.cell? ⟨Bu, 0, none⟩ = some (u0) ∧ w'.cell? ⟨Bu, 1, none⟩ = some (u1) ∧ w'.cell? ⟨Ba, 0, none⟩ = some (p0) ∧ w'.cell? ⟨Ba, 1, none⟩ = some (p1) ∧ w'.cell? ⟨Bp, 0, none⟩ = some (r0) ∧ w'.cell? ⟨Bp, 1, none⟩ = some (r1) ∧ w'.cell? ⟨Bq, 0, none⟩ = some (r2) ∧ w'.cell? ⟨Bq, 1, none⟩ = some (r3) ∧ w'.cell? ⟨Br, 0, none⟩ = some (r4) ∧ w'.cell? ⟨Br, 1, none⟩ = some (r5)) (go_keep)
    (first
      | (go_at_call 11; refine (num_any _ _).mono ?_; rintro e w' ⟨rfl, rfl⟩)
      | (go_at_call_of 12 (Value.agg #[s0, s1]); refine (eqt_to (HL.out.1.ten.later (Below.refl _ _).drew) (HL.out.2.2.2.2.1.ten.later (Below.refl _ _).drew) rfl).mono ?_; rintro e w' ⟨rfl, hbq⟩; have HQ0 : Hid (Below w.heap.size w w') := Below.after (Below.refl _ _).drew hbq; have a_0 := cell_later HQ0.out l0; have a_1 := cell_later HQ0.out l1; have a_2 := cell_later HQ0.out l2; have a_3 := cell_later HQ0.out l3; have a_4 := cell_later HQ0.out l4; have a_5 := cell_later HQ0.out l5; have a_6 := cell_later HQ0.out l6; have a_7 := cell_later HQ0.out l7; have a_8 := cell_later HQ0.out l8; have a_9 := cell_later HQ0.out l9; have a_10 := cell_later HQ0.out l10; have a_11 := cell_later HQ0.out l11; have a_12 := cell_later HQ0.out l12; have a_13 := cell_later HQ0.out l13; have a_14 := cell_later HQ0.out l14; have a_15 := cell_later HQ0.out l15; have a_16 := cell_later HQ0.out l16; have a_17 := cell_later HQ0.out l17; clear hbq)
      | (go_at_call_of 12 (Value.agg #[w0, w1]); refine (eqt_to (HL.out.2.1.ten.later HQ0.out) (HL.out.2.2.2.2.2.1.ten.later HQ0.out) rfl).mono ?_; rintro e w' ⟨rfl, hbq⟩; have HQ1 : Hid (Below w.heap.size w w') := Below.after HQ0.out hbq; have b_0 := cell_later HQ1.out l0; have b_1 := cell_later HQ1.out l1; have b_2 := cell_later HQ1.out l2; have b_3 := cell_later HQ1.out l3; have b_4 := cell_later HQ1.out l4; have b_5 := cell_later HQ1.out l5; have b_6 := cell_later HQ1.out l6; have b_7 := cell_later HQ1.out l7; have b_8 := cell_later HQ1.out l8; have b_9 := cell_later HQ1.out l9; have b_10 := cell_later HQ1.out l10; have b_11 := cell_later HQ1.out l11; have b_12 := cell_later HQ1.out l12; have b_13 := cell_later HQ1.out l13; have b_14 := cell_later HQ1.out l14; have b_15 := cell_later HQ1.out l15; have b_16 := cell_later HQ1.out l16; have b_17 := cell_later HQ1.out l17; clear hbq; clear a_0 a_1 a_2 a_3 a_4 a_5 a_6 a_7 a_8 a_9 a_10 a_11 a_12 a_13 a_14 a_15 a_16 a_17)
      | (go_at_call_of 12 (Value.agg #[u0, u1]); refine (eqt_to (HL.out.2.2.1.ten.later HQ1.out) (HL.out.2.2.2.2.2.2.1.ten.later HQ1.out) rfl).mono ?_; rintro e w' ⟨rfl, hbq⟩; have HQ2 : Hid (Below w.heap.size w w') := Below.after HQ1.out hbq; have c_0 := cell_later HQ2.out l0; have c_1 := cell_later HQ2.out l1; have c_2 := cell_later HQ2.out l2; have c_3 := cell_later HQ2.out l3; have c_4 := cell_later HQ2.out l4; have c_5 := cell_later HQ2.out l5; have c_6 := cell_later HQ2.out l6; have c_7 := cell_later HQ2.out l7; have c_8 := cell_later HQ2.out l8; have c_9 := cell_later HQ2.out l9; have c_10 := cell_later HQ2.out l10; have c_11 := cell_later HQ2.out l11; have c_12 := cell_later HQ2.out l12; have c_13 := cell_later HQ2.out l13; have c_14 := cell_later HQ2.out l14; have c_15 := cell_later HQ2.out l15; have c_16 := cell_later HQ2.out l16; have c_17 := cell_later HQ2.out l17; clear hbq; clear b_0 b_1 b_2 b_3 b_4 b_5 b_6 b_7 b_8 b_9 b_10 b_11 b_12 b_13 b_14 b_15 b_16 b_17)
      | (go_at_call 24; refine (eqn_bl (HD.out.later HQ2.out) (HX.out.later HQ2.out) rfl).mono ?_; rintro e w' ⟨rfl, hbq⟩; have HQ3 : Hid (Below w.heap.size w w') := Below.after HQ2.out hbq; have d_0 := cell_later HQ3.out l0; have d_1 := cell_later HQ3.out l1; have d_2 := cell_later HQ3.out l2; have d_3 := cell_later HQ3.out l3; have d_4 := cell_later HQ3.out l4; have d_5 := cell_later HQ3.out l5; have d_6 := cell_later HQ3.out l6; have d_7 := cell_later HQ3.out l7; have d_8 := cell_later HQ3.out l8; have d_9 := cell_later HQ3.out l9; have d_10 := cell_later HQ3.out l10; have d_11 := cell_later HQ3.out l11; have d_12 := cell_later HQ3.out l12; have d_13 := cell_later HQ3.out l13; have d_14 := cell_later HQ3.out l14; have d_15 := cell_later HQ3.out l15; have d_16 := cell_later HQ3.out l16; have d_17 := cell_later HQ3.out l17; clear hbq; clear c_0 c_1 c_2 c_3 c_4 c_5 c_6 c_7 c_8 c_9 c_10 c_11 c_12 c_13 c_14 c_15 c_16 c_17)
      | (go_at_call_of 12 (Value.agg #[p0, p1]); refine (eqt_to (HL.out.2.2.2.1.ten.later HQ3.out) (HTI.out.later HQ3.out) rfl).mono ?_; rintro e w' ⟨rfl, hbq⟩; have HQ4 : Hid (Below w.heap.size w w') := Below.after HQ3.out hbq; have e_0 := cell_later HQ4.out l0; have e_1 := cell_later HQ4.out l1; have e_2 := cell_later HQ4.out l2; have e_3 := cell_later HQ4.out l3; have e_4 := cell_later HQ4.out l4; have e_5 := cell_later HQ4.out l5; have e_6 := cell_later HQ4.out l6; have e_7 := cell_later HQ4.out l7; have e_8 := cell_later HQ4.out l8; have e_9 := cell_later HQ4.out l9; have e_10 := cell_later HQ4.out l10; have e_11 := cell_later HQ4.out l11; have e_12 := cell_later HQ4.out l12; have e_13 := cell_later HQ4.out l13; have e_14 := cell_later HQ4.out l14; have e_15 := cell_later HQ4.out l15; have e_16 := cell_later HQ4.out l16; have e_17 := cell_later HQ4.out l17; clear hbq; clear d_0 d_1 d_2 d_3 d_4 d_5 d_6 d_7 d_8 d_9 d_10 d_11 d_12 d_13 d_14 d_15 d_16 d_17))
  exact HQ.out _ _ ⟨rfl, rfl, rfl, rfl, rfl, rfl, rfl⟩ rfl rfl rfl rfl rfl rfl HQ4.out

set_option maxRecDepth 1000000 in
set_option maxHeartbeats 8000000 in
theorem greg41 {B i Ba k tb tof c0 lT db dof n c : Nat} {may : Bool} {dv xi yi xv p0 p1 : Value} {t : Ten} {d : List Int} {w : World} {Q : Exit → Act → World → Prop}
    (hi : i < lT) (hlT : lT ≤ c0) (hT0 : lT ≤ 17592186044416) (hk : k < n) (hn20 : n ≤ 20) (hnc : n ≤ c)
    (HC : Hid (w.cell? ⟨B, 0, none⟩ = some (.slice (some ⟨tb, tof, none⟩) lT c0) ∧ w.cell? ⟨tb, tof + i * 2, none⟩ = some xi ∧ w.cell? ⟨tb, tof + i * 2 + 1, none⟩ = some yi ∧ w.cell? ⟨db, dof + k, none⟩ = some xv))
    (HTI : Hid (Tens w xi yi t)) (HD : Hid (Ints w dv d)) (HX : Hid (Ints w xv d)) (HL : Hid (TB w Ba p0 p1 t))
    (HQ : Hid (∀ a' w', FrH B i Ba may (.slice (some ⟨db, dof, none⟩) n c) a' → a'.tmps.getD 11 undef = .int .i64 k → a'.tmps.getD 210 undef = .bool false → Below w.heap.size w w' → Q .normal a' w'))
    (a : Act) (ha : FrH B i Ba may (.slice (some ⟨db, dof, none⟩) n c) a) (h11 : a.tmps.getD 11 undef = .int .i64 k) (h12 : a.tmps.getD 12 undef = dv) :
    Code.wp Try.prog ((((Try.f3.body.map regs).getD []).getD 39 (0, .skip)).2) Q a w := by
  obtain ⟨G, hg, e⟩ := act212 a ha.d ha.s
  obtain ⟨hz1, hz2, g1, g3, g4, g5, g10⟩ := ha
  rw [hg] at g1 g3 g4 g5 g10 h11 h12
  clear hz1 hz2
  subst e
  clear hg
  rw [g1, g3, g4, g5, g10, h11, h12]
  clear g1 g3 g4 g5 g10 h11 h12
  have l0 : w.cell? ⟨B, 0, none⟩ = some (.slice (some ⟨tb, tof, none⟩) lT c0) := HC.out.1
  have l1 : w.cell? ⟨tb, tof + i * 2, none⟩ = some (xi) := HC.out.2.1
  have l2 : w.cell? ⟨tb, tof + i * 2 + 1, none⟩ = some (yi) := HC.out.2.2.1
  have l3 : w.cell? ⟨db, dof + k, none⟩ = some (xv) := HC.out.2.2.2
  have l10 : w.cell? ⟨Ba, 0, none⟩ = some (p0) := HL.out.box.c0
  have l11 : w.cell? ⟨Ba, 1, none⟩ = some (p1) := HL.out.box.c1
  have z1 : (0 : Int) ≤ (i : Int) := by omega
  have z2 : (i : Int) < lT := by omega
  have z3 : (0 : Int) ≤ (k : Int) := by omega
  have z4 : (k : Int) < n := by omega
  conv => arg 2; whnf
  go_region_held3 (fun w' => w'.cell? ⟨B, 0, none⟩ = some (.slice (some ⟨tb, tof, none⟩) lT c0) ∧ w'.cell? ⟨tb, tof + i * 2, none⟩ = some (xi) ∧ w'.cell? ⟨tb, tof + i * 2 + 1, none⟩ = some (yi) ∧ w'.cell? ⟨db, dof + k, none⟩ = some (xv) ∧ w'.cell? ⟨Ba, 0, none⟩ = some (p0) ∧ w'.cell? ⟨Ba, 1, none⟩ = some (p1)) (go_keep)
    (first
      | (go_at_call 24; refine (eqn_bl (HD.out.later (Below.refl _ _).drew) (HX.out.later (Below.refl _ _).drew) rfl).mono ?_; rintro e w' ⟨rfl, hbq⟩; have HQ0 : Hid (Below w.heap.size w w') := Below.after (Below.refl _ _).drew hbq; have a_0 := cell_later HQ0.out l0; have a_1 := cell_later HQ0.out l1; have a_2 := cell_later HQ0.out l2; have a_3 := cell_later HQ0.out l3; have a_10 := cell_later HQ0.out l10; have a_11 := cell_later HQ0.out l11; clear hbq)
      | (go_at_call_of 12 (Value.agg #[p0, p1]); refine (eqt_to (HL.out.ten.later HQ0.out) (HTI.out.later HQ0.out) rfl).mono ?_; rintro e w' ⟨rfl, hbq⟩; have HQ1 : Hid (Below w.heap.size w w') := Below.after HQ0.out hbq; have b_0 := cell_later HQ1.out l0; have b_1 := cell_later HQ1.out l1; have b_2 := cell_later HQ1.out l2; have b_3 := cell_later HQ1.out l3; have b_10 := cell_later HQ1.out l10; have b_11 := cell_later HQ1.out l11; clear hbq; clear a_0 a_1 a_2 a_3 a_10 a_11))
  exact HQ.out _ _ ⟨rfl, rfl, rfl, rfl, rfl, rfl, rfl⟩ rfl rfl HQ1.out

set_option maxHeartbeats 400000 in
theorem spoil_wk {w : World} {B n0 n1 c0 c1 : Nat} {p0 p1 : Option Addr} (h0 : Wr w B (.slice p0 n0 c0)) (h1 : Wr w B (.slice p1 n1 c1)) (hB : B ≤ w.heap.size) :
    Calls Try.prog 13 #[.agg #[.slice p0 n0 c0, .slice p1 n1 c1]] w fun e w' => e = .returned (.tuple #[]) ∧ Below B w w' ∧ (∀ u, Wr w B u → Wr w' B u) ∧ ∀ j, j < w.heap.size → (Value.slice p0 n0 c0).ownBlock ≠ some j → (Value.slice p1 n1 c1).ownBlock ≠ some j → w'.heap[j]? = w.heap[j]? := by
  have HB : Hid (Below B w (w.alloc (.cells #[.slice p0 n0 c0, .slice p1 n1 c1] 31))) := (Below.refl _ _).alloc hB _
  have H0 : Hid (Wr (w.alloc (.cells #[.slice p0 n0 c0, .slice p1 n1 c1] 31)) B (.slice p0 n0 c0)) := h0.alloc _
  have H1 : Hid (Wr (w.alloc (.cells #[.slice p0 n0 c0, .slice p1 n1 c1] 31)) B (.slice p1 n1 c1)) := h1.alloc _
  have HN0 : Hid (∀ k, (Value.slice p0 n0 c0).ownBlock = some k → k < w.heap.size) := h0.lt
  have HBX : Hid (Box (w.alloc (.cells #[.slice p0 n0 c0, .slice p1 n1 c1] 31)) w.heap.size (.slice p0 n0 c0) (.slice p1 n1 c1)) := Box.new w _ _
  clear h0 h1
  go_enter Try.func13, Try.ntmps13
  go_wp2_with fail
  refine (numbers_any H0.out).mono ?_
  rintro e w1 ⟨rfl, hb1, hw1, ho1⟩
  have HW1 : Hid (Wr w1 B (.slice p1 n1 c1)) := hw1 _ H1.out
  have HU1 : Hid (∀ u, Wr w B u → Wr w1 B u) := fun u hu => hw1 u (hu.alloc _)
  have HB1 : Hid (Below B w w1) := HB.out.trans hb1
  have hbx1 : Box w1 w.heap.size _ _ := (ho1 w.heap.size (fun e => absurd (HN0.out _ e) (Nat.lt_irrefl _))).trans HBX.out
  have hc1 := hbx1.c1
  have HK1 : Hid (∀ j, j < w.heap.size → (Value.slice p0 n0 c0).ownBlock ≠ some j → w1.heap[j]? = w.heap[j]?) := fun j hj hn => (ho1 j hn).trans (Below.heap_alloc w _ j hj)
  clear hb1 hw1 ho1 hbx1
  go_wp2_with fail
  refine (numbers_any HW1.out).mono ?_
  rintro e w2 ⟨rfl, hb2, hw2, ho2⟩
  have HB2 : Hid (Below B w w2) := HB1.out.trans hb2
  have HU2 : Hid (∀ u, Wr w B u → Wr w2 B u) := fun u hu => hw2 u (HU1.out u hu)
  have HK2 : Hid (∀ j, j < w.heap.size → (Value.slice p0 n0 c0).ownBlock ≠ some j → (Value.slice p1 n1 c1).ownBlock ≠ some j → w2.heap[j]? = w.heap[j]?) := fun j hj hn hm => (ho2 j hm).trans (HK1.out j hj hn)
  clear hb2 hw2 ho2
  go_wp2
  go_end0
  exact ⟨rfl, HB2.out, HU2.out, HK2.out⟩
end Go.Proofs.Ytgedknmjenbacaa
