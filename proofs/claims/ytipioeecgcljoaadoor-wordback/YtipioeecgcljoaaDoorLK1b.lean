/- The law on words back: a region that draws. -/
import Derived.Test.YtipioeecgcljoaaDoorLK1
namespace Go.Proofs.YtipioeecgcljoaaDoor
set_option linter.unusedVariables false
set_option linter.unusedSimpArgs false
set_option maxRecDepth 100000
open Go.RowKit

set_option maxRecDepth 1000000 in
set_option maxHeartbeats 16000000 in
theorem breg29 {B i ln lc mc k lb lo mb mo pb po nS cS p : Nat} {x t : ByteArray} {w : World} {Q : Exit → Act → World → Prop}
    (hk : k < ln) (hi : i < nS) (hx : x.size ≤ 500) (hp : p + t.size ≤ x.size) (he : x.extract p (p + t.size) = t) (hln : ln ≤ 1000000) (l0 : w.cell? ⟨B, 0, none⟩ = some (.slice (some ⟨pb, po, none⟩) nS cS)) (l1 : w.cell? ⟨pb, po + i, none⟩ = some (.string x)) (l2 : w.cell? ⟨mb, mo + k * 2, none⟩ = some (.string t)) (l3 : w.cell? ⟨lb, lo + k * 2, none⟩ = some (.string t)) (l4 : w.cell? ⟨lb, lo + k * 2 + 1, none⟩ = some (.int .i64 p))
    (HQ : Hid (∀ a' w', FrB4 B i ln lc mc (some ⟨lb, lo, none⟩) (some ⟨mb, mo, none⟩) k a' → a'.tmps.getD 230 undef = .bool false → Below w.heap.size w w' → Q .normal a' w'))
    (a : Act) (ha : FrB4 B i ln lc mc (some ⟨lb, lo, none⟩) (some ⟨mb, mo, none⟩) k a) :
    Code.wp Tryd.prog ((((Tryd.f5.body.map regs).getD []).getD 27 (0, .skip)).2) Q a w := by
  obtain ⟨G, hg, e⟩ := act232 a ha.d ha.s
  obtain ⟨hz1, hz2, g1, g12, g13, g18, g21⟩ := ha
  rw [hg] at g1 g12 g13 g18 g21 
  clear hz1 hz2
  subst e
  clear hg
  rw [g1, g12, g13, g18, g21]
  clear g1 g12 g13 g18 g21 
  have z0 : (0 : Int) ≤ (k : Int) := by omega
  have z1 : (k : Int) < ln := by omega
  have z2 : (0 : Int) ≤ (i : Int) := by omega
  have z3 : (i : Int) < nS := by omega
  have z4 : (0 : Int) ≤ (p : Int) := by omega
  have z5 : ¬ (p : Int) < 0 := by omega
  have z5b : decide ((p : Int) < 0) = false := by simp
  have z6 : IntKind.i64.wrap ((p : Int) + (t.size : Int)) = (p : Int) + (t.size : Int) := wrap_small _ (by omega) (by omega)
  have z7 : (p : Int) ≤ (p : Int) + (t.size : Int) := by omega
  have z8 : (p : Int) + (t.size : Int) ≤ (x.size : Int) := by omega
  have z9 : ¬ (x.size : Int) < (p : Int) + (t.size : Int) := by omega
  have z9b : decide ((x.size : Int) < (p : Int) + (t.size : Int)) = false := by simp; omega
  have ge : (t.toList != t.toList) = false := by simp
  clear hp
  conv => arg 2; whnf
  dsimp only [List.append]
  go_region_held3 (fun w' => w'.cell? ⟨B, 0, none⟩ = some (.slice (some ⟨pb, po, none⟩) nS cS) ∧ w'.cell? ⟨pb, po + i, none⟩ = some (.string x) ∧ w'.cell? ⟨mb, mo + k * 2, none⟩ = some (.string t) ∧ w'.cell? ⟨lb, lo + k * 2, none⟩ = some (.string t) ∧ w'.cell? ⟨lb, lo + k * 2 + 1, none⟩ = some (.int .i64 p)) (refine ⟨?_, ?_, ?_, ?_, ?_⟩ <;> first | assumption | go_keep) (fail)
  refine HQ.out _ _ ⟨rfl, rfl, rfl, rfl, rfl, rfl, rfl⟩ ?_ (Below.refl _ _).drew
  conv => lhs; whnf
  rw [show ((p : Int) + (t.size : Int)).toNat = p + t.size by omega, he, beq_self_eq_true]
  rfl
end Go.Proofs.YtipioeecgcljoaaDoor
