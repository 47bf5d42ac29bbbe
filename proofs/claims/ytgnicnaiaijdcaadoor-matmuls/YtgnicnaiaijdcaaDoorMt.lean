/- MatMuls: its great test. -/
import Derived.Test.YtgnicnaiaijdcaaDoorE1
namespace Go.Proofs.YtgnicnaiaijdcaaDoor
set_option linter.unusedVariables false
set_option linter.unusedSimpArgs false
open Go.RowKit

/-- What the frame holds when the answer is held against the page's. -/
structure FrT (B i k Ba Bb Bx Bw : Nat) (e0 bad : Int) (a : Act) : Prop where
  d : a.defers = []
  s : a.tmps.size = 235
  f1 : a.tmps.getD 1 undef = .pointer (some ⟨B, 0, none⟩)
  f3 : a.tmps.getD 3 undef = .int .i64 i
  f4 : a.tmps.getD 4 undef = .int .i64 k
  f5 : a.tmps.getD 5 undef = .pointer (some ⟨Ba, 0, none⟩)
  f6 : a.tmps.getD 6 undef = .pointer (some ⟨Bb, 0, none⟩)
  f7 : a.tmps.getD 7 undef = .pointer (some ⟨Bx, 0, none⟩)
  f8 : a.tmps.getD 8 undef = .int .i64 e0
  f9 : a.tmps.getD 9 undef = .int .i64 bad
  f10 : a.tmps.getD 10 undef = .pointer (some ⟨Bw, 0, none⟩)

set_option maxRecDepth 1000000 in
set_option maxHeartbeats 8000000 in
theorem mreg17 {B i k tb tof c0 lT Ba Bb Bx Bw : Nat} {e0 : Int} {xi yi xk yk x0 x1 r0 r1 p0 p1 q0 q1 : Value} {s t u : Ten} {w : World} {Q : Exit → Act → World → Prop}
    (hi : i < lT) (hk : k < lT) (hlT : lT ≤ c0) (hT0 : lT ≤ 17592186044416)
    (HC : Hid (w.cell? ⟨B, 0, none⟩ = some (.slice (some ⟨tb, tof, none⟩) lT c0) ∧ w.cell? ⟨tb, tof + i * 2, none⟩ = some xi ∧ w.cell? ⟨tb, tof + i * 2 + 1, none⟩ = some yi ∧ w.cell? ⟨tb, tof + k * 2, none⟩ = some xk ∧ w.cell? ⟨tb, tof + k * 2 + 1, none⟩ = some yk))
    (HTI : Hid (Tens w xi yi s)) (HTK : Hid (Tens w xk yk t))
    (HL : Hid (Live w [(Bx, x0, x1, u), (Bw, r0, r1, u), (Ba, p0, p1, s), (Bb, q0, q1, t)]))
    (HQ : Hid (∀ a' w', FrE B i k a' → a'.tmps.getD 7 undef = .pointer (some ⟨Bx, 0, none⟩) → a'.tmps.getD 124 undef = .bool false → Below w.heap.size w w' → Q .normal a' w'))
    (a : Act) (ha : FrT B i k Ba Bb Bx Bw e0 e0 a) :
    Code.wp Tryd.prog ((((Tryd.f3.body.map regs).getD []).getD 15 (0, .skip)).2) Q a w := by
  obtain ⟨G, hg, e⟩ := act235 a ha.d ha.s
  obtain ⟨hz1, hz2, g1, g3, g4, g5, g6, g7, g8, g9, g10⟩ := ha
  rw [hg] at g1 g3 g4 g5 g6 g7 g8 g9 g10
  clear hz1 hz2
  subst e
  clear hg
  rw [g1, g3, g4, g5, g6, g7, g8, g9, g10]
  clear g1 g3 g4 g5 g6 g7 g8 g9 g10
  have l0 : w.cell? ⟨B, 0, none⟩ = some (.slice (some ⟨tb, tof, none⟩) lT c0) := HC.out.1
  have l1 : w.cell? ⟨tb, tof + i * 2, none⟩ = some xi := HC.out.2.1
  have l2 : w.cell? ⟨tb, tof + i * 2 + 1, none⟩ = some yi := HC.out.2.2.1
  have l3 : w.cell? ⟨tb, tof + k * 2, none⟩ = some xk := HC.out.2.2.2.1
  have l4 : w.cell? ⟨tb, tof + k * 2 + 1, none⟩ = some yk := HC.out.2.2.2.2
  have l5 : w.cell? ⟨Bx, 0, none⟩ = some x0 := HL.out.1.box.c0
  have l6 : w.cell? ⟨Bx, 1, none⟩ = some x1 := HL.out.1.box.c1
  have l7 : w.cell? ⟨Bw, 0, none⟩ = some r0 := HL.out.2.1.box.c0
  have l8 : w.cell? ⟨Bw, 1, none⟩ = some r1 := HL.out.2.1.box.c1
  have l9 : w.cell? ⟨Ba, 0, none⟩ = some p0 := HL.out.2.2.1.box.c0
  have l10 : w.cell? ⟨Ba, 1, none⟩ = some p1 := HL.out.2.2.1.box.c1
  have l11 : w.cell? ⟨Bb, 0, none⟩ = some q0 := HL.out.2.2.2.1.box.c0
  have l12 : w.cell? ⟨Bb, 1, none⟩ = some q1 := HL.out.2.2.2.1.box.c1
  have z1 : (0 : Int) ≤ (i : Int) := by omega
  have z2 : (i : Int) < lT := by omega
  have z3 : (0 : Int) ≤ (k : Int) := by omega
  have z4 : (k : Int) < lT := by omega
  conv => arg 2; whnf
  go_region_held3 (fun w' => w'.cell? ⟨B, 0, none⟩ = some (.slice (some ⟨tb, tof, none⟩) lT c0) ∧ w'.cell? ⟨tb, tof + i * 2, none⟩ = some xi ∧ w'.cell? ⟨tb, tof + i * 2 + 1, none⟩ = some yi ∧ w'.cell? ⟨tb, tof + k * 2, none⟩ = some xk ∧ w'.cell? ⟨tb, tof + k * 2 + 1, none⟩ = some yk ∧ w'.cell? ⟨Bx, 0, none⟩ = some x0 ∧ w'.cell? ⟨Bx, 1, none⟩ = some x1 ∧ w'.cell? ⟨Bw, 0, none⟩ = some r0 ∧ w'.cell? ⟨Bw, 1, none⟩ = some r1 ∧ w'.cell? ⟨Ba, 0, none⟩ = some p0 ∧ w'.cell? ⟨Ba, 1, none⟩ = some p1 ∧ w'.cell? ⟨Bb, 0, none⟩ = some q0 ∧ w'.cell? ⟨Bb, 1, none⟩ = some q1) (refine ⟨?_, ?_, ?_, ?_, ?_, ?_, ?_, ?_, ?_, ?_, ?_, ?_, ?_⟩ <;> assumption)
    (first
      | (go_at_call 11; refine (num_any _ _).mono ?_; rintro e w' ⟨rfl, rfl⟩)
      | (go_at_call_of 12 (Value.agg #[x0, x1]); refine (eqt_to (HL.out.1.ten.later (Below.refl _ _).drew) (HL.out.2.1.ten.later (Below.refl _ _).drew) rfl).mono ?_; rintro e w' ⟨rfl, hbq⟩; have HQ0 : Hid (Below w.heap.size w w') := Below.after (Below.refl _ _).drew hbq; have a_0 := cell_later HQ0.out l0; have a_1 := cell_later HQ0.out l1; have a_2 := cell_later HQ0.out l2; have a_3 := cell_later HQ0.out l3; have a_4 := cell_later HQ0.out l4; have a_5 := cell_later HQ0.out l5; have a_6 := cell_later HQ0.out l6; have a_7 := cell_later HQ0.out l7; have a_8 := cell_later HQ0.out l8; have a_9 := cell_later HQ0.out l9; have a_10 := cell_later HQ0.out l10; have a_11 := cell_later HQ0.out l11; have a_12 := cell_later HQ0.out l12; clear hbq)
      | (go_at_call_of 12 (Value.agg #[p0, p1]); refine (eqt_to (HL.out.2.2.1.ten.later HQ0.out) (HTI.out.later HQ0.out) rfl).mono ?_; rintro e w' ⟨rfl, hbq⟩; have HQ1 : Hid (Below w.heap.size w w') := Below.after HQ0.out hbq; have b_0 := cell_later HQ1.out l0; have b_1 := cell_later HQ1.out l1; have b_2 := cell_later HQ1.out l2; have b_3 := cell_later HQ1.out l3; have b_4 := cell_later HQ1.out l4; have b_5 := cell_later HQ1.out l5; have b_6 := cell_later HQ1.out l6; have b_7 := cell_later HQ1.out l7; have b_8 := cell_later HQ1.out l8; have b_9 := cell_later HQ1.out l9; have b_10 := cell_later HQ1.out l10; have b_11 := cell_later HQ1.out l11; have b_12 := cell_later HQ1.out l12; clear hbq; clear a_0 a_1 a_2 a_3 a_4 a_5 a_6 a_7 a_8 a_9 a_10 a_11 a_12)
      | (go_at_call_of 12 (Value.agg #[q0, q1]); refine (eqt_to (HL.out.2.2.2.1.ten.later HQ1.out) (HTK.out.later HQ1.out) rfl).mono ?_; rintro e w' ⟨rfl, hbq⟩; have HQ2 : Hid (Below w.heap.size w w') := Below.after HQ1.out hbq; have c_0 := cell_later HQ2.out l0; have c_1 := cell_later HQ2.out l1; have c_2 := cell_later HQ2.out l2; have c_3 := cell_later HQ2.out l3; have c_4 := cell_later HQ2.out l4; have c_5 := cell_later HQ2.out l5; have c_6 := cell_later HQ2.out l6; have c_7 := cell_later HQ2.out l7; have c_8 := cell_later HQ2.out l8; have c_9 := cell_later HQ2.out l9; have c_10 := cell_later HQ2.out l10; have c_11 := cell_later HQ2.out l11; have c_12 := cell_later HQ2.out l12; clear hbq; clear b_0 b_1 b_2 b_3 b_4 b_5 b_6 b_7 b_8 b_9 b_10 b_11 b_12))
  exact HQ.out _ _ ⟨rfl, rfl, rfl, rfl, rfl⟩ rfl rfl HQ2.out
end Go.Proofs.YtgnicnaiaijdcaaDoor
