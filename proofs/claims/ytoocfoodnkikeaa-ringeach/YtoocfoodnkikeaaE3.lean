/- RingEach: its great test. -/
import Derived.Test.YtoocfoodnkikeaaE1
namespace Go.Proofs.Ytoocfoodnkikeaa
set_option linter.unusedVariables false
set_option linter.unusedSimpArgs false
open Go.RowKit

/-- What the frame holds when the answers are held against the page's. -/
structure FrT (B i k Ba Bb Bx By Bm Bp Bq Br : Nat) (bad dot b15 d16 : Int) (a : Act) : Prop where
  d : a.defers = []
  s : a.tmps.size = 190
  f1 : a.tmps.getD 1 undef = .pointer (some ⟨B, 0, none⟩)
  f3 : a.tmps.getD 3 undef = .int .i64 i
  f4 : a.tmps.getD 4 undef = .int .i64 k
  f5 : a.tmps.getD 5 undef = .pointer (some ⟨Ba, 0, none⟩)
  f6 : a.tmps.getD 6 undef = .pointer (some ⟨Bb, 0, none⟩)
  f7 : a.tmps.getD 7 undef = .pointer (some ⟨Bx, 0, none⟩)
  f8 : a.tmps.getD 8 undef = .int .i64 bad
  f9 : a.tmps.getD 9 undef = .pointer (some ⟨By, 0, none⟩)
  f10 : a.tmps.getD 10 undef = .int .i64 bad
  f11 : a.tmps.getD 11 undef = .pointer (some ⟨Bm, 0, none⟩)
  f12 : a.tmps.getD 12 undef = .int .i64 bad
  f13 : a.tmps.getD 13 undef = .int .i64 dot
  f14 : a.tmps.getD 14 undef = .int .i64 bad
  f15 : a.tmps.getD 15 undef = .int .i64 b15
  f16 : a.tmps.getD 16 undef = .int .i64 d16
  f17 : a.tmps.getD 17 undef = .pointer (some ⟨Bp, 0, none⟩)
  f18 : a.tmps.getD 18 undef = .pointer (some ⟨Bq, 0, none⟩)
  f19 : a.tmps.getD 19 undef = .pointer (some ⟨Br, 0, none⟩)

set_option maxRecDepth 1000000 in
set_option maxHeartbeats 8000000 in
theorem ereg22 {B i k tb tof c0 lT Ba Bb Bx By Bm Bp Bq Br : Nat} {bad dot : Int} {xi yi xk yk x0 x1 y0 y1 m0 m1 p0 p1 q0 q1 r0 r1 r2 r3 r4 r5 : Value} {s t u v z : Ten} {w : World} {Q : Exit → Act → World → Prop}
    (hi : i < lT) (hk : k < lT) (hlT : lT ≤ c0) (hT0 : lT ≤ 17592186044416)
    (HC : Hid (w.cell? ⟨B, 0, none⟩ = some (.slice (some ⟨tb, tof, none⟩) lT c0) ∧ w.cell? ⟨tb, tof + i * 2, none⟩ = some xi ∧ w.cell? ⟨tb, tof + i * 2 + 1, none⟩ = some yi ∧ w.cell? ⟨tb, tof + k * 2, none⟩ = some xk ∧ w.cell? ⟨tb, tof + k * 2 + 1, none⟩ = some yk))
    (HTI : Hid (Tens w xi yi s)) (HTK : Hid (Tens w xk yk t))
    (HL : Hid (Live w [(Bx, x0, x1, u), (By, y0, y1, v), (Bm, m0, m1, z), (Ba, p0, p1, s), (Bb, q0, q1, t), (Bp, r0, r1, u), (Bq, r2, r3, v), (Br, r4, r5, z)]))
    (HQ : Hid (∀ a' w', FrE B i k a' → a'.tmps.getD 5 undef = .pointer (some ⟨Ba, 0, none⟩) → a'.tmps.getD 6 undef = .pointer (some ⟨Bb, 0, none⟩) → a'.tmps.getD 7 undef = .pointer (some ⟨Bx, 0, none⟩) → a'.tmps.getD 11 undef = .pointer (some ⟨Bm, 0, none⟩) → a'.tmps.getD 166 undef = .bool false → Below w.heap.size w w' → Q .normal a' w'))
    (a : Act) (ha : FrT B i k Ba Bb Bx By Bm Bp Bq Br bad dot bad dot a) :
    Code.wp Try.prog ((((Try.f3.body.map regs).getD []).getD 20 (0, .skip)).2) Q a w := by
  obtain ⟨G, hg, e⟩ := act190 a ha.d ha.s
  obtain ⟨hz1, hz2, g1, g3, g4, g5, g6, g7, g8, g9, g10, g11, g12, g13, g14, g15, g16, g17, g18, g19⟩ := ha
  rw [hg] at g1 g3 g4 g5 g6 g7 g8 g9 g10 g11 g12 g13 g14 g15 g16 g17 g18 g19
  clear hz1 hz2
  subst e
  clear hg
  rw [g1, g3, g4, g5, g6, g7, g8, g9, g10, g11, g12, g13, g14, g15, g16, g17, g18, g19]
  clear g1 g3 g4 g5 g6 g7 g8 g9 g10 g11 g12 g13 g14 g15 g16 g17 g18 g19
  have l0 : w.cell? ⟨B, 0, none⟩ = some (.slice (some ⟨tb, tof, none⟩) lT c0) := HC.out.1
  have l1 : w.cell? ⟨tb, tof + i * 2, none⟩ = some (xi) := HC.out.2.1
  have l2 : w.cell? ⟨tb, tof + i * 2 + 1, none⟩ = some (yi) := HC.out.2.2.1
  have l3 : w.cell? ⟨tb, tof + k * 2, none⟩ = some (xk) := HC.out.2.2.2.1
  have l4 : w.cell? ⟨tb, tof + k * 2 + 1, none⟩ = some (yk) := HC.out.2.2.2.2
  have l5 : w.cell? ⟨Bx, 0, none⟩ = some (x0) := HL.out.1.box.c0
  have l6 : w.cell? ⟨Bx, 1, none⟩ = some (x1) := HL.out.1.box.c1
  have l7 : w.cell? ⟨By, 0, none⟩ = some (y0) := HL.out.2.1.box.c0
  have l8 : w.cell? ⟨By, 1, none⟩ = some (y1) := HL.out.2.1.box.c1
  have l9 : w.cell? ⟨Bm, 0, none⟩ = some (m0) := HL.out.2.2.1.box.c0
  have l10 : w.cell? ⟨Bm, 1, none⟩ = some (m1) := HL.out.2.2.1.box.c1
  have l11 : w.cell? ⟨Ba, 0, none⟩ = some (p0) := HL.out.2.2.2.1.box.c0
  have l12 : w.cell? ⟨Ba, 1, none⟩ = some (p1) := HL.out.2.2.2.1.box.c1
  have l13 : w.cell? ⟨Bb, 0, none⟩ = some (q0) := HL.out.2.2.2.2.1.box.c0
  have l14 : w.cell? ⟨Bb, 1, none⟩ = some (q1) := HL.out.2.2.2.2.1.box.c1
  have l15 : w.cell? ⟨Bp, 0, none⟩ = some (r0) := HL.out.2.2.2.2.2.1.box.c0
  have l16 : w.cell? ⟨Bp, 1, none⟩ = some (r1) := HL.out.2.2.2.2.2.1.box.c1
  have l17 : w.cell? ⟨Bq, 0, none⟩ = some (r2) := HL.out.2.2.2.2.2.2.1.box.c0
  have l18 : w.cell? ⟨Bq, 1, none⟩ = some (r3) := HL.out.2.2.2.2.2.2.1.box.c1
  have l19 : w.cell? ⟨Br, 0, none⟩ = some (r4) := HL.out.2.2.2.2.2.2.2.1.box.c0
  have l20 : w.cell? ⟨Br, 1, none⟩ = some (r5) := HL.out.2.2.2.2.2.2.2.1.box.c1
  have z1 : (0 : Int) ≤ (i : Int) := by omega
  have z2 : (i : Int) < lT := by omega
  have z3 : (0 : Int) ≤ (k : Int) := by omega
  have z4 : (k : Int) < lT := by omega
  conv => arg 2; whnf
  dsimp only [List.append]
  go_region_held3 (fun w' => w'.cell? ⟨B, 0, none⟩ = some (.slice (some ⟨tb, tof, none⟩) lT c0) ∧ w'.cell? ⟨tb, tof + i * 2, none⟩ = some (xi) ∧ w'.cell? ⟨tb, tof + i * 2 + 1, none⟩ = some (yi) ∧ w'.cell? ⟨tb, tof + k * 2, none⟩ = some (xk) ∧ w'.cell? ⟨tb, tof + k * 2 + 1, none⟩ = some (yk) ∧ w'.cell? ⟨Bx, 0, none⟩ = some (x0) ∧ w'.cell? ⟨Bx, 1, none⟩ = some (x1) ∧ w'.cell? ⟨By, 0, none⟩ = some (y0) ∧ w'.cell? ⟨By, 1, none⟩ = some (y1) ∧ w'.cell? ⟨Bm, 0, none⟩ = some (m0) ∧ w'.cell? ⟨Bm, 1, none⟩ = some (m1) ∧ w'.cell? ⟨Ba, 0, none⟩ = some (p0) ∧ w'.cell? ⟨Ba, 1, none⟩ = some (p1) ∧ w'.cell? ⟨Bb, 0, none⟩ = some (q0) ∧ w'.cell? ⟨Bb, 1, none⟩ = some (q1) ∧ w'.cell? ⟨Bp, 0, none⟩ = some (r0) ∧ w'.cell? ⟨Bp, 1, none⟩ = some (r1) ∧ w'.cell? ⟨Bq, 0, none⟩ = some (r2) ∧ w'.cell? ⟨Bq, 1, none⟩ = some (r3) ∧ w'.cell? ⟨Br, 0, none⟩ = some (r4) ∧ w'.cell? ⟨Br, 1, none⟩ = some (r5)) (refine ⟨?_, ?_, ?_, ?_, ?_, ?_, ?_, ?_, ?_, ?_, ?_, ?_, ?_, ?_, ?_, ?_, ?_, ?_, ?_, ?_, ?_⟩ <;> assumption)
    (first
      | (go_at_call 17; refine (num_any _ _).mono ?_; rintro e w' ⟨rfl, rfl⟩)
      | (go_at_call_of 18 (Value.agg #[x0, x1]); refine (eqt_to (HL.out.1.ten.later (Below.refl _ _).drew) (HL.out.2.2.2.2.2.1.ten.later (Below.refl _ _).drew) rfl).mono ?_; rintro e w' ⟨rfl, hbq⟩; have HQ0 : Hid (Below w.heap.size w w') := Below.after (Below.refl _ _).drew hbq; have a_0 := cell_later HQ0.out l0; have a_1 := cell_later HQ0.out l1; have a_2 := cell_later HQ0.out l2; have a_3 := cell_later HQ0.out l3; have a_4 := cell_later HQ0.out l4; have a_5 := cell_later HQ0.out l5; have a_6 := cell_later HQ0.out l6; have a_7 := cell_later HQ0.out l7; have a_8 := cell_later HQ0.out l8; have a_9 := cell_later HQ0.out l9; have a_10 := cell_later HQ0.out l10; have a_11 := cell_later HQ0.out l11; have a_12 := cell_later HQ0.out l12; have a_13 := cell_later HQ0.out l13; have a_14 := cell_later HQ0.out l14; have a_15 := cell_later HQ0.out l15; have a_16 := cell_later HQ0.out l16; have a_17 := cell_later HQ0.out l17; have a_18 := cell_later HQ0.out l18; have a_19 := cell_later HQ0.out l19; have a_20 := cell_later HQ0.out l20; clear hbq)
      | (go_at_call_of 18 (Value.agg #[y0, y1]); refine (eqt_to (HL.out.2.1.ten.later HQ0.out) (HL.out.2.2.2.2.2.2.1.ten.later HQ0.out) rfl).mono ?_; rintro e w' ⟨rfl, hbq⟩; have HQ1 : Hid (Below w.heap.size w w') := Below.after HQ0.out hbq; have b_0 := cell_later HQ1.out l0; have b_1 := cell_later HQ1.out l1; have b_2 := cell_later HQ1.out l2; have b_3 := cell_later HQ1.out l3; have b_4 := cell_later HQ1.out l4; have b_5 := cell_later HQ1.out l5; have b_6 := cell_later HQ1.out l6; have b_7 := cell_later HQ1.out l7; have b_8 := cell_later HQ1.out l8; have b_9 := cell_later HQ1.out l9; have b_10 := cell_later HQ1.out l10; have b_11 := cell_later HQ1.out l11; have b_12 := cell_later HQ1.out l12; have b_13 := cell_later HQ1.out l13; have b_14 := cell_later HQ1.out l14; have b_15 := cell_later HQ1.out l15; have b_16 := cell_later HQ1.out l16; have b_17 := cell_later HQ1.out l17; have b_18 := cell_later HQ1.out l18; have b_19 := cell_later HQ1.out l19; have b_20 := cell_later HQ1.out l20; clear hbq; clear a_0 a_1 a_2 a_3 a_4 a_5 a_6 a_7 a_8 a_9 a_10 a_11 a_12 a_13 a_14 a_15 a_16 a_17 a_18 a_19 a_20)
      | (go_at_call_of 18 (Value.agg #[m0, m1]); refine (eqt_to (HL.out.2.2.1.ten.later HQ1.out) (HL.out.2.2.2.2.2.2.2.1.ten.later HQ1.out) rfl).mono ?_; rintro e w' ⟨rfl, hbq⟩; have HQ2 : Hid (Below w.heap.size w w') := Below.after HQ1.out hbq; have c_0 := cell_later HQ2.out l0; have c_1 := cell_later HQ2.out l1; have c_2 := cell_later HQ2.out l2; have c_3 := cell_later HQ2.out l3; have c_4 := cell_later HQ2.out l4; have c_5 := cell_later HQ2.out l5; have c_6 := cell_later HQ2.out l6; have c_7 := cell_later HQ2.out l7; have c_8 := cell_later HQ2.out l8; have c_9 := cell_later HQ2.out l9; have c_10 := cell_later HQ2.out l10; have c_11 := cell_later HQ2.out l11; have c_12 := cell_later HQ2.out l12; have c_13 := cell_later HQ2.out l13; have c_14 := cell_later HQ2.out l14; have c_15 := cell_later HQ2.out l15; have c_16 := cell_later HQ2.out l16; have c_17 := cell_later HQ2.out l17; have c_18 := cell_later HQ2.out l18; have c_19 := cell_later HQ2.out l19; have c_20 := cell_later HQ2.out l20; clear hbq; clear b_0 b_1 b_2 b_3 b_4 b_5 b_6 b_7 b_8 b_9 b_10 b_11 b_12 b_13 b_14 b_15 b_16 b_17 b_18 b_19 b_20)
      | (go_at_call_of 18 (Value.agg #[p0, p1]); refine (eqt_to (HL.out.2.2.2.1.ten.later HQ2.out) (HTI.out.later HQ2.out) rfl).mono ?_; rintro e w' ⟨rfl, hbq⟩; have HQ3 : Hid (Below w.heap.size w w') := Below.after HQ2.out hbq; have d_0 := cell_later HQ3.out l0; have d_1 := cell_later HQ3.out l1; have d_2 := cell_later HQ3.out l2; have d_3 := cell_later HQ3.out l3; have d_4 := cell_later HQ3.out l4; have d_5 := cell_later HQ3.out l5; have d_6 := cell_later HQ3.out l6; have d_7 := cell_later HQ3.out l7; have d_8 := cell_later HQ3.out l8; have d_9 := cell_later HQ3.out l9; have d_10 := cell_later HQ3.out l10; have d_11 := cell_later HQ3.out l11; have d_12 := cell_later HQ3.out l12; have d_13 := cell_later HQ3.out l13; have d_14 := cell_later HQ3.out l14; have d_15 := cell_later HQ3.out l15; have d_16 := cell_later HQ3.out l16; have d_17 := cell_later HQ3.out l17; have d_18 := cell_later HQ3.out l18; have d_19 := cell_later HQ3.out l19; have d_20 := cell_later HQ3.out l20; clear hbq; clear c_0 c_1 c_2 c_3 c_4 c_5 c_6 c_7 c_8 c_9 c_10 c_11 c_12 c_13 c_14 c_15 c_16 c_17 c_18 c_19 c_20)
      | (go_at_call_of 18 (Value.agg #[q0, q1]); refine (eqt_to (HL.out.2.2.2.2.1.ten.later HQ3.out) (HTK.out.later HQ3.out) rfl).mono ?_; rintro e w' ⟨rfl, hbq⟩; have HQ4 : Hid (Below w.heap.size w w') := Below.after HQ3.out hbq; have e_0 := cell_later HQ4.out l0; have e_1 := cell_later HQ4.out l1; have e_2 := cell_later HQ4.out l2; have e_3 := cell_later HQ4.out l3; have e_4 := cell_later HQ4.out l4; have e_5 := cell_later HQ4.out l5; have e_6 := cell_later HQ4.out l6; have e_7 := cell_later HQ4.out l7; have e_8 := cell_later HQ4.out l8; have e_9 := cell_later HQ4.out l9; have e_10 := cell_later HQ4.out l10; have e_11 := cell_later HQ4.out l11; have e_12 := cell_later HQ4.out l12; have e_13 := cell_later HQ4.out l13; have e_14 := cell_later HQ4.out l14; have e_15 := cell_later HQ4.out l15; have e_16 := cell_later HQ4.out l16; have e_17 := cell_later HQ4.out l17; have e_18 := cell_later HQ4.out l18; have e_19 := cell_later HQ4.out l19; have e_20 := cell_later HQ4.out l20; clear hbq; clear d_0 d_1 d_2 d_3 d_4 d_5 d_6 d_7 d_8 d_9 d_10 d_11 d_12 d_13 d_14 d_15 d_16 d_17 d_18 d_19 d_20))
  exact HQ.out _ _ ⟨rfl, rfl, rfl, rfl, rfl⟩ rfl rfl rfl rfl rfl HQ4.out
end Go.Proofs.Ytoocfoodnkikeaa
