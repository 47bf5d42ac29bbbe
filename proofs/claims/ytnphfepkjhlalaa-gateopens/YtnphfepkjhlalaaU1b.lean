/- GateDots: its loop that lays other numbers. -/
import Derived.Test.YtnphfepkjhlalaaU1
namespace Go.Proofs.Ytnphfepkjhlalaa
set_option linter.unusedVariables false
set_option linter.unusedSimpArgs false
open Go.RowKit

structure FrU4 (B i Ba n Bm Bb k : Nat) (a : Act) : Prop where
  d : a.defers = []
  s : a.tmps.size = 249
  f1 : a.tmps.getD 1 undef = .pointer (some ⟨B, 0, none⟩)
  f3 : a.tmps.getD 3 undef = .int .i64 i
  f4 : a.tmps.getD 4 undef = .pointer (some ⟨Ba, 0, none⟩)
  f12 : a.tmps.getD 12 undef = .int .i64 n
  f13 : a.tmps.getD 13 undef = .pointer (some ⟨Bm, 0, none⟩)
  f15 : a.tmps.getD 15 undef = .pointer (some ⟨Bb, 0, none⟩)
  f16 : a.tmps.getD 16 undef = .int .i64 k
theorem ureg27_id : (((Try.f4.body.map regs).getD []).getD 24 (0, .skip)).1 = 27 := by decide +kernel
set_option maxRecDepth 1000000 in
set_option maxHeartbeats 8000000 in
theorem ureg27 {B i Ba n Bm Bb j m g cap O : Nat} {l : List Int} {W w : World} {Q : Exit → Act → World → Prop}
    (hlt : j < m) (hcap : m ≤ cap) (hn64 : m ≤ 64) (hgB : g ≠ Bb)
    (c1 : w.cell? ⟨Bb, 1, none⟩ = some (.slice (some ⟨g, 0, none⟩) m cap))
    (HBU : Hid (But g W w)) (HL : Hid (l.length = m)) (HO : Hid (Own w O (.slice (some ⟨g, 0, none⟩) m cap) l))
    (HQ : Hid (∀ a' w', FrU4 B i Ba n Bm Bb j a' → But g W w' → (∃ l : List Int, l.length = m ∧ Own w' O (.slice (some ⟨g, 0, none⟩) m cap) l) → Q .normal a' w'))
    (a : Act) (ha : FrU4 B i Ba n Bm Bb j a) :
    Code.wp Try.prog ((((Try.f4.body.map regs).getD []).getD 24 (0, .skip)).2) Q a w := by
  obtain ⟨G, hg, e⟩ := act249 a ha.d ha.s
  obtain ⟨hz1, hz2, g1, g3, g4, g12, g13, g15, g16⟩ := ha
  rw [hg] at g1 g3 g4 g12 g13 g15 g16 
  clear hz1 hz2
  subst e
  clear hg
  rw [g1, g3, g4, g12, g13, g15, g16]
  clear g1 g3 g4 g12 g13 g15 g16
  obtain ⟨hc, hf, _⟩ := HO.out.put HL.out j hlt 0
  have z0 : (0 : Int) ≤ (j : Int) := by omega
  have z1 : (j : Int) < m := by omega
  have n3 : Bb ≠ g := Ne.symm hgB
  have HPB : Hid (∀ x, Own (w.setCell ⟨g, j, none⟩ (.int .i64 x)) O (.slice (some ⟨g, 0, none⟩) m cap) (l.set j x)) := fun x => (HO.out.put HL.out j hlt x).2.2
  have HPU : Hid (∀ x, But g W (w.setCell ⟨g, j, none⟩ (.int .i64 x))) := fun x => HBU.out.setCell _
  have HPL : Hid (∀ x, (l.set j x).length = m) := fun x => by rw [List.length_set]; exact HL.out
  conv => arg 2; whnf
  refine wp_region_noPanic ?_
  go_region_with (fail)
  all_goals refine NoPanic.normal ?_
  all_goals exact HQ.out _ _ ⟨rfl, rfl, rfl, rfl, rfl, rfl, rfl, rfl, rfl⟩ (HPU.out _).drew ⟨_, HPL.out _, (HPB.out _).drew⟩
set_option maxRecDepth 1000000 in
set_option maxHeartbeats 8000000 in
theorem uloop4 {B i Ba n Bm Bb m g cap O : Nat} {x0 : Value} {W : World} {Q : Exit → Act → World → Prop}
    (hn64 : m ≤ 64) (hcap : m ≤ cap) (hgB : g ≠ Bb)
    (HBX : Hid (Box W Bb x0 (.slice (some ⟨g, 0, none⟩) m cap)))
    (HO : Hid (∃ l : List Int, l.length = m ∧ Own W O (.slice (some ⟨g, 0, none⟩) m cap) l))
    (hexit : ∀ a' w' k, FrU4 B i Ba n Bm Bb k a' → But g W w' → (∃ l : List Int, l.length = m ∧ Own w' O (.slice (some ⟨g, 0, none⟩) m cap) l) → Q (.exit 6) a' w')
    (a : Act) (ha : FrU4 B i Ba n Bm Bb 0 a) :
    Code.wp Try.prog (.loop (((Try.f4.body.map loopsIn).getD []).getD 3 .skip)) Q a W := by
  refine wp_loop (fun a' w' => (∃ j : Nat, j ≤ m ∧ FrU4 B i Ba n Bm Bb j a') ∧ But g W w' ∧ ∃ l : List Int, l.length = m ∧ Own w' O (.slice (some ⟨g, 0, none⟩) m cap) l) (fun a' _ => m - slotNat a' 16) ⟨⟨0, by omega, ha⟩, But.refl _ _, HO.out⟩ ?_
  clear ha HO
  clear a
  intro a w ⟨⟨j, hj, hf⟩, hbu, l, hl, ho⟩
  obtain ⟨G, hg, e⟩ := act249 a hf.d hf.s
  obtain ⟨hz1, hz2, g1, g3, g4, g12, g13, g15, g16⟩ := hf
  rw [hg] at g1 g3 g4 g12 g13 g15 g16 
  clear hz1 hz2
  subst e
  clear hg
  rw [g1, g3, g4, g12, g13, g15, g16]
  clear g1 g3 g4 g12 g13 g15 g16
  have HEX : Hid (∀ a' w' k, FrU4 B i Ba n Bm Bb k a' → But g W w' → (∃ l : List Int, l.length = m ∧ Own w' O (.slice (some ⟨g, 0, none⟩) m cap) l) → Q (.exit 6) a' w') := hexit
  have HBU : Hid (But g W w) := hbu
  have HL : Hid (l.length = m) := hl
  have HO : Hid (Own w O (.slice (some ⟨g, 0, none⟩) m cap) l) := ho
  have hbx := hbu.box HBX.out (Ne.symm hgB)
  have c1 := hbx.c1
  clear hexit hbu hl ho hbx
  conv => arg 2; whnf
  by_cases hlt : j < m
  · go_upto_region 27 with fail
    refine ureg27 (j := j) hlt hcap hn64 hgB c1 HBU HL HO ?_ _ ⟨rfl, rfl, rfl, rfl, rfl, rfl, rfl, rfl, rfl⟩
    intro a5 w5 hf5 hbu5 hl5
    obtain ⟨G5, hg5, e5⟩ := act249 a5 hf5.d hf5.s
    obtain ⟨hz1, hz2, g1, g3, g4, g12, g13, g15, g16⟩ := hf5
    rw [hg5] at g1 g3 g4 g12 g13 g15 g16 
    clear hz1 hz2
    subst e5
    clear hg5
    rw [g1, g3, g4, g12, g13, g15, g16]
    clear g1 g3 g4 g12 g13 g15 g16
    have HBU5 : Hid (But g W w5) := hbu5
    have HL5 : Hid _ := hl5
    clear hbu5 hl5
    go_wp2
    refine ⟨⟨⟨j + 1, by omega, rfl, rfl, rfl, rfl, rfl, rfl, rfl, rfl, ?_⟩, HBU5.out, HL5.out⟩, ?_⟩
    · show Value.int .i64 _ = _
      go_num
    · show m - (intOf (Value.int .i64 _)).toNat < m - (intOf (Value.int .i64 _)).toNat
      simp [intOf]
      omega
  · go_wp2
    exact HEX.out _ _ j ⟨rfl, rfl, rfl, rfl, rfl, rfl, rfl, rfl, rfl⟩ HBU.out ⟨l, HL.out, HO.out⟩
end Go.Proofs.Ytnphfepkjhlalaa
