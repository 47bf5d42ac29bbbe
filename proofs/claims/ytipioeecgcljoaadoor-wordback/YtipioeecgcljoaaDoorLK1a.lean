/- The law on words back: a region that draws. -/
import Derived.Test.YtipioeecgcljoaaDoorLK1
namespace Go.Proofs.YtipioeecgcljoaaDoor
set_option linter.unusedVariables false
set_option linter.unusedSimpArgs false
set_option maxRecDepth 100000
open Go.RowKit

set_option maxRecDepth 1000000 in
set_option maxHeartbeats 8000000 in
theorem breg22_0 {B i ln lc k lb lo : Nat} {sv t : ByteArray} {w : World} {Q : Exit → Act → World → Prop}
    (hk : k < ln) (hj : k % 3 = 0) (hs : sv.size ≤ 600000) (ht : t.size ≤ 600) (hkb : k ≤ 1000000) (l0 : w.cell? ⟨lb, lo + k * 2, none⟩ = some (.string t))
    (HQ : Hid (∀ a' w', FrB3 B i ln lc (some ⟨lb, lo, none⟩) (sv ++ t ++ ⟨#[32]⟩) k a' → Below w.heap.size w w' → Q .normal a' w'))
    (a : Act) (ha : FrB3 B i ln lc (some ⟨lb, lo, none⟩) sv k a) :
    Code.wp Tryd.prog ((((Tryd.f5.body.map regs).getD []).getD 20 (0, .skip)).2) Q a w := by
  obtain ⟨G, hg, e⟩ := act232 a ha.d ha.s
  obtain ⟨hz1, hz2, g1, g12, g13, g16, g17⟩ := ha
  rw [hg] at g1 g12 g13 g16 g17 
  clear hz1 hz2
  subst e
  clear hg
  rw [g1, g12, g13, g16, g17]
  clear g1 g12 g13 g16 g17 
  have q3 : (k : Int).tmod 3 = 0 := by
    have h : (k : Int).tmod ((3 : Nat) : Int) = ((k % 3 : Nat) : Int) := rfl
    rw [hj] at h
    exact h
  have z0 : (0 : Int) ≤ (k : Int) := by omega
  have z1 : (k : Int) < ln := by omega
  have hts : (sv ++ t).size = sv.size + t.size := app_size sv t
  have m0 := World.new_ne w _ l0
  have b1 : ¬ 9223372036854775807 < sv.size + t.size := by omega
  have b2 : ¬ 9223372036854775807 < sv.size + t.size + 1 := by omega
  have m1 := cell_later (Below.push (Below.refl w.heap.size w) (.cells #[.string ⟨#[32]⟩, .string ⟨#[32, 32]⟩, .string ⟨#[9]⟩] 9)) l0
  clear hj
  conv => arg 2; whnf
  go_region
  all_goals exact HQ.out _ _ ⟨rfl, rfl, rfl, rfl, rfl, rfl, rfl⟩ (Below.push (Below.refl _ _).drew _)
end Go.Proofs.YtipioeecgcljoaaDoor
