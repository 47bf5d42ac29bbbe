/- TurnDims: two small regions of its inner loop. -/
import Derived.Test.YtgedknmjenbacaaG1
namespace Go.Proofs.Ytgedknmjenbacaa
set_option linter.unusedVariables false
set_option linter.unusedSimpArgs false
open Go.RowKit

set_option maxRecDepth 1000000 in
set_option maxHeartbeats 8000000 in
theorem greg30 {B i Ba k Bs Bw Bu Bp Bq Br db dof n c N m bc : Nat} {may bb : Bool} {ba : Option Addr} {dv p0 : Value} {e1 e2 e3 b1 b2 b3 : Int} {d : List Int} {w : World} {Q : Exit → Act → World → Prop}
    (hbb : ((N : Int) == (m : Int)) = bb) (HP : Hid (prd d = N)) (HOK : Hid (okd d = true))
    (HD : Hid (Ints w dv d)) (HB : Hid (Box w Ba p0 (.slice ba m bc)))
    (HQ : Hid (∀ a' w', FrG B i Ba k Bs Bw Bu Bp Bq Br may (.slice (some ⟨db, dof, none⟩) n c) dv e1 e2 e3 b1 b2 b3 a' → a'.tmps.getD 114 undef = .bool bb → Below w.heap.size w w' → Q .normal a' w'))
    (a : Act) (ha : FrG B i Ba k Bs Bw Bu Bp Bq Br may (.slice (some ⟨db, dof, none⟩) n c) dv e1 e2 e3 b1 b2 b3 a) :
    Code.wp Try.prog ((((Try.f3.body.map regs).getD []).getD 28 (0, .skip)).2) Q a w := by
  obtain ⟨G, hg, e⟩ := act212 a ha.d ha.s
  obtain ⟨hz1, hz2, g1, g3, g4, g5, g10, g11, g12, g13, g14, g15, g16, g17, g18, g19, g20, g21, g22, g23, g24⟩ := ha
  rw [hg] at g1 g3 g4 g5 g10 g11 g12 g13 g14 g15 g16 g17 g18 g19 g20 g21 g22 g23 g24
  clear hz1 hz2
  subst e
  clear hg
  rw [g1, g3, g4, g5, g10, g11, g12, g13, g14, g15, g16, g17, g18, g19, g20, g21, g22, g23, g24]
  clear g1 g3 g4 g5 g10 g11 g12 g13 g14 g15 g16 g17 g18 g19 g20 g21 g22 g23 g24
  have l0 := HB.out.c1
  conv => arg 2; whnf
  go_region_held3 (fun w' => w'.cell? ⟨Ba, 1, none⟩ = some (.slice ba m bc)) (go_keep)
    (first
      | (go_at_call 20; refine (rcells_ok (d := d) ?_ HOK.out).mono ?_; exact HD.out.later (Below.refl _ _).drew; rw [HP.out]; rintro e w' ⟨rfl, rfl⟩))
  exact HQ.out _ _ ⟨rfl, rfl, rfl, rfl, rfl, rfl, rfl, rfl, rfl, rfl, rfl, rfl, rfl, rfl, rfl, rfl, rfl, rfl, rfl, rfl, rfl⟩ rfl (Below.refl _ _).drew

set_option maxRecDepth 1000000 in
set_option maxHeartbeats 8000000 in
theorem greg31 {B i Ba k Bs Bw Bu Bp Bq Br db dof n c m bc dn dc : Nat} {may : Bool} {ba dva : Option Addr} {p0 z0 z1 : Value} {e1 e2 e3 b1 b2 b3 : Int} {w : World} {Q : Exit → Act → World → Prop}
    (hne : Bp ≠ Ba) (HB : Hid (Box w Ba p0 (.slice ba m bc))) (HZ : Hid (Box w Bp z0 z1))
    (HQ : Hid (∀ a', FrG B i Ba k Bs Bw Bu Bp Bq Br may (.slice (some ⟨db, dof, none⟩) n c) (.slice dva dn dc) e1 e2 e3 0 b2 b3 a' → Q .normal a' ((w.setCell ⟨Bp, 0, none⟩ (.slice dva dn dc)).setCell ⟨Bp, 1, none⟩ (.slice ba m bc)).drew))
    (a : Act) (ha : FrG B i Ba k Bs Bw Bu Bp Bq Br may (.slice (some ⟨db, dof, none⟩) n c) (.slice dva dn dc) e1 e2 e3 b1 b2 b3 a) :
    Code.wp Try.prog ((((Try.f3.body.map regs).getD []).getD 29 (0, .skip)).2) Q a w := by
  obtain ⟨G, hg, e⟩ := act212 a ha.d ha.s
  obtain ⟨hz1, hz2, g1, g3, g4, g5, g10, g11, g12, g13, g14, g15, g16, g17, g18, g19, g20, g21, g22, g23, g24⟩ := ha
  rw [hg] at g1 g3 g4 g5 g10 g11 g12 g13 g14 g15 g16 g17 g18 g19 g20 g21 g22 g23 g24
  clear hz1 hz2
  subst e
  clear hg
  rw [g1, g3, g4, g5, g10, g11, g12, g13, g14, g15, g16, g17, g18, g19, g20, g21, g22, g23, g24]
  clear g1 g3 g4 g5 g10 g11 g12 g13 g14 g15 g16 g17 g18 g19 g20 g21 g22 g23 g24
  have l0 := HB.out.c1
  have q0 := HZ.out.c0
  have q1 := HZ.out.c1
  have q2 := HZ.out.f 0
  have q3 := HZ.out.f 1
  have n1 := Ne.symm hne
  conv => arg 2; whnf
  go_region_held3 (fun w' => w'.cell? ⟨Ba, 1, none⟩ = some (.slice ba m bc)) (go_keep) (fail)
  exact HQ.out _ ⟨rfl, rfl, rfl, rfl, rfl, rfl, rfl, rfl, rfl, rfl, rfl, rfl, rfl, rfl, rfl, rfl, rfl, rfl, rfl, rfl, rfl⟩
end Go.Proofs.Ytgedknmjenbacaa
