/- MatMuls: its two regions of powers. -/
import Derived.Test.YtgnicnaiaijdcaaDoorMt
namespace Go.Proofs.YtgnicnaiaijdcaaDoor
set_option linter.unusedVariables false
set_option linter.unusedSimpArgs false
open Go.RowKit

/-- What the frame holds in the loop over powers. -/
structure FrN (B g gcap n k i : Nat) (a : Act) : Prop where
  d : a.defers = []
  s : a.tmps.size = 235
  f1 : a.tmps.getD 1 undef = .pointer (some ⟨B, 0, none⟩)
  f11 : a.tmps.getD 11 undef = .slice (some ⟨g, 0, none⟩) n gcap
  f12 : a.tmps.getD 12 undef = .int .i64 k
  f17 : a.tmps.getD 17 undef = .int .i64 i
structure FrP (B g gcap n k i Ba By : Nat) (e0 : Int) (a : Act) : Prop where
  d : a.defers = []
  s : a.tmps.size = 235
  f1 : a.tmps.getD 1 undef = .pointer (some ⟨B, 0, none⟩)
  f11 : a.tmps.getD 11 undef = .slice (some ⟨g, 0, none⟩) n gcap
  f12 : a.tmps.getD 12 undef = .int .i64 k
  f17 : a.tmps.getD 17 undef = .int .i64 i
  f18 : a.tmps.getD 18 undef = .pointer (some ⟨Ba, 0, none⟩)
  f19 : a.tmps.getD 19 undef = .pointer (some ⟨By, 0, none⟩)
  f20 : a.tmps.getD 20 undef = .int .i64 e0
structure FrV (B g gcap n k i Ba By Bz : Nat) (e0 bad : Int) (a : Act) : Prop where
  d : a.defers = []
  s : a.tmps.size = 235
  f1 : a.tmps.getD 1 undef = .pointer (some ⟨B, 0, none⟩)
  f11 : a.tmps.getD 11 undef = .slice (some ⟨g, 0, none⟩) n gcap
  f12 : a.tmps.getD 12 undef = .int .i64 k
  f17 : a.tmps.getD 17 undef = .int .i64 i
  f18 : a.tmps.getD 18 undef = .pointer (some ⟨Ba, 0, none⟩)
  f19 : a.tmps.getD 19 undef = .pointer (some ⟨By, 0, none⟩)
  f20 : a.tmps.getD 20 undef = .int .i64 e0
  f21 : a.tmps.getD 21 undef = .int .i64 bad
  f22 : a.tmps.getD 22 undef = .pointer (some ⟨Bz, 0, none⟩)

set_option maxRecDepth 1000000 in
set_option maxHeartbeats 8000000 in
theorem mreg35 {B g gcap n k i Ba : Nat} {e0 nk : Int} {t u : Ten} {x0 x1 : Value} {w : World} {Q : Exit → Act → World → Prop}
    (hk : k < n) (hcap : n ≤ gcap) (hn0 : n ≤ 17592186044416)
    (hc : w.cell? ⟨g, k, none⟩ = some (.int .i64 nk))
    (HG : Hid (w.cell? ⟨2, 1, none⟩ = some (.int .u8 1)))
    (HL : Hid (Live w [(Ba, x0, x1, t)]))
    (HE : Hid (poE t nk = e0 ∧ poR t nk = u))
    (HQ : Hid (∀ a' w' By y0 y1, FrP B g gcap n k i Ba By e0 a' → Live w' [(By, y0, y1, u), (Ba, x0, x1, t)] → Below w.heap.size w w' → Q .normal a' w'))
    (a : Act) (ha : FrN B g gcap n k i a) (h18 : a.tmps.getD 18 undef = .pointer (some ⟨Ba, 0, none⟩)) :
    Code.wp Tryd.prog ((((Tryd.f3.body.map regs).getD []).getD 33 (0, .skip)).2) Q a w := by
  obtain ⟨G, hg, e⟩ := act235 a ha.d ha.s
  obtain ⟨hz1, hz2, g1, g11, g12, g17⟩ := ha
  rw [hg] at g1 g11 g12 g17 h18
  clear hz1 hz2
  subst e
  clear hg
  rw [g1, g11, g12, g17, h18]
  clear g1 g11 g12 g17 h18
  have l0 := HL.out.1.box.c0
  have l1 := HL.out.1.box.c1
  have n1 := World.new_ne w _ l0
  have n2 := World.new_ne w _ hc
  have z1 : (0 : Int) ≤ (k : Int) := by omega
  have z2 : (k : Int) < n := by omega
  conv => arg 2; whnf
  go_region_held3 (fun w' => w'.cell? ⟨Ba, 0, none⟩ = some x0 ∧ w'.cell? ⟨Ba, 1, none⟩ = some x1 ∧ w'.cell? ⟨g, k, none⟩ = some (.int .i64 nk)) (go_keep)
    (first
      | (go_at_call 17; refine (pow_to nk e0 u (cell_later (Below.refl _ _).drew HG.out) (HL.out.1.ten.later (Below.refl _ _).drew) HE.out.1 HE.out.2).mono ?_; rintro e w' ⟨y0, y1, rfl, ho, hbq⟩; obtain ⟨xa, xn, xc, rfl⟩ := ho.dims.ints.shape3; obtain ⟨ya, yn, yc, rfl⟩ := ho.data.ints.shape3; have HQ0 : Hid (Below w.heap.size w w') := Below.after (Below.refl _ _).drew hbq; have HT1 : Hid (Tens w' (.slice xa xn xc) (.slice ya yn yc) u) := ho.tens; have k0 := cell_later HQ0.out l0; have k1 := cell_later HQ0.out l1; have k2 := cell_later HQ0.out hc; clear ho hbq)
      | (go_at_call 17; refine (pow_to nk e0 u (cell_later (Below.push (Below.refl _ _) _).drew HG.out) (HL.out.1.ten.later (Below.push (Below.refl _ _) _).drew) HE.out.1 HE.out.2).mono ?_; rintro e w' ⟨y0, y1, rfl, ho, hbq⟩; obtain ⟨xa, xn, xc, rfl⟩ := ho.dims.ints.shape3; obtain ⟨ya, yn, yc, rfl⟩ := ho.data.ints.shape3; have HQ0 : Hid (Below w.heap.size w w') := Below.after (Below.push (Below.refl _ _) _).drew hbq; have HT1 : Hid (Tens w' (.slice xa xn xc) (.slice ya yn yc) u) := ho.tens; have HOT : Hid (OwnT w' (w.heap.size + 1) (.slice xa xn xc) (.slice ya yn yc) u) := (by show OwnT _ _ _ _ _; simpa using ho); have k0 := cell_later HQ0.out l0; have k1 := cell_later HQ0.out l1; have k2 := cell_later HQ0.out hc; have hz : Box w' w.heap.size (.slice none 0 0) (.slice none 0 0) := Box.later hbq (Box.new w _ _); have z0 := hz.c0; have z1 := hz.c1; have z2 := hz.f 0; have z3 := hz.f 1; have HZ : Hid (Box w' w.heap.size (.slice none 0 0) (.slice none 0 0)) := hz; clear hz; clear ho hbq))
  · exact HQ.out _ _ _ _ _ ⟨rfl, rfl, rfl, rfl, rfl, rfl, rfl, rfl, rfl⟩ ⟨⟨Box.new _ _ _, HT1.out.later (Below.push (Below.refl _ _) _)⟩, (HL.out.later (Below.push HQ0.out _)).1, trivial⟩ (Below.push HQ0.out _)
  · have HB1 : Below w.heap.size w _ := (HQ0.out.setCell (p := ⟨w.heap.size, 0, none⟩) (Nat.le_refl _) (.slice xa xn xc)).setCell (p := ⟨w.heap.size, 1, none⟩) (Nat.le_refl _) (.slice ya yn yc)
    exact HQ.out _ _ _ _ _ ⟨rfl, rfl, rfl, rfl, rfl, rfl, rfl, rfl, rfl⟩ ⟨⟨HZ.out.set _ _, ((HOT.out.setCell _ _ (by simp)).setCell _ _ (by simp)).tens⟩, (HL.out.later HB1).1, trivial⟩ HB1

set_option maxRecDepth 1000000 in
set_option maxHeartbeats 8000000 in
theorem mreg41 {B g gcap n k i Ba By Bz m p : Nat} {e0 bad : Int} {l : List Int} {x0 x1 : Value} {V w : World} {Q : Exit → Act → World → Prop}
    (hk : k < n) (hcap : n ≤ gcap) (hn0 : n ≤ 17592186044416) (hm : m ≤ 1073741824)
    (hc : w.cell? ⟨g, k, none⟩ = some (.int .i64 m)) (hc0 : w.cell? ⟨Ba, 0, none⟩ = some x0) (hc1 : w.cell? ⟨Ba, 1, none⟩ = some x1)
    (n1 : Bz ≠ Ba) (n2 : Bz ≠ g)
    (HT : Hid (Tens w x0 x1 ([(p : Int), (p : Int)], l))) (HX : Hid (tok ([(p : Int), (p : Int)], l) = true)) (HR : Hid (Rg l))
    (HZ : Hid (Box w Bz (.slice none 0 0) (.slice none 0 0))) (HV : Hid (Below V.heap.size V w)) (hV : V.heap.size = Bz)
    (HQ : Hid (∀ a' w' r0 r1, FrV B g gcap n k i Ba By Bz e0 0 a' → Live w' [(Bz, r0, r1, ([(p : Int), (p : Int)], mpw p l m))] → Below V.heap.size V w' → Q .normal a' w'))
    (a : Act) (ha : FrV B g gcap n k i Ba By Bz e0 bad a) :
    Code.wp Tryd.prog ((((Tryd.f3.body.map regs).getD []).getD 39 (0, .skip)).2) Q a w := by
  obtain ⟨G, hg, e⟩ := act235 a ha.d ha.s
  obtain ⟨hz1, hz2, g1, g11, g12, g17, g18, g19, g20, g21, g22⟩ := ha
  rw [hg] at g1 g11 g12 g17 g18 g19 g20 g21 g22
  clear hz1 hz2
  subst e
  clear hg
  rw [g1, g11, g12, g17, g18, g19, g20, g21, g22]
  clear g1 g11 g12 g17 g18 g19 g20 g21 g22
  have q0 := HZ.out.c0
  have q1 := HZ.out.c1
  have q2 := HZ.out.f 0
  have q3 := HZ.out.f 1
  have hlt := HZ.out.lt
  have z1 : (0 : Int) ≤ (k : Int) := by omega
  have z2 : (k : Int) < n := by omega
  conv => arg 2; whnf
  go_region_held3 (fun w' => w'.cell? ⟨Ba, 0, none⟩ = some x0 ∧ w'.cell? ⟨Ba, 1, none⟩ = some x1 ∧ w'.cell? ⟨g, k, none⟩ = some (.int .i64 m)) (go_keep)
    (first
      | (go_at_call 19; refine (rpow_ok m hm (HT.out.later (Below.refl _ _).drew) HX.out HR.out).mono ?_; rintro e w' ⟨y0, y1, rfl, ho, hbq⟩; obtain ⟨xa, xn, xc, rfl⟩ := ho.dims.ints.shape3; obtain ⟨ya, yn, yc, rfl⟩ := ho.data.ints.shape3; have HQ0 : Hid (Below w.heap.size w w') := Below.after (Below.refl _ _).drew hbq; have HOT : Hid (OwnT w' w.heap.size (.slice xa xn xc) (.slice ya yn yc) ([(p : Int), (p : Int)], mpw p l m)) := ho; have k0 := cell_later HQ0.out hc0; have k1 := cell_later HQ0.out hc1; have k2 := cell_later HQ0.out hc; have hz := HZ.out.later HQ0.out; have z0 := hz.c0; have z3 := hz.c1; have z4 := hz.f 0; have z5 := hz.f 1; have HZ1 : Hid (Box w' Bz (.slice none 0 0) (.slice none 0 0)) := hz; clear ho hbq hz))
  exact HQ.out _ _ _ _ ⟨rfl, rfl, rfl, rfl, rfl, rfl, rfl, rfl, rfl, rfl, rfl⟩ ⟨⟨HZ1.out.set _ _, ((HOT.out.setCell _ _ (by simp; omega)).setCell _ _ (by simp; omega)).tens⟩, trivial⟩ (((Below.after HV.out HQ0.out).setCell (by simp; omega) _).setCell (by simp; omega) _)
end Go.Proofs.YtgnicnaiaijdcaaDoor
