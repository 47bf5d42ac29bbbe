/- TurnDots: its innermost loop (numbers written over). -/
import Derived.Test.YtgedknmjenbacaaN1
namespace Go.Proofs.Ytgedknmjenbacaa
set_option linter.unusedVariables false
set_option linter.unusedSimpArgs false
open Go.RowKit

structure FrA (B i Ba k Bw Bb : Nat) (ds : Value) (a : Act) : Prop where
  d : a.defers = []
  s : a.tmps.size = 176
  f1 : a.tmps.getD 1 undef = .pointer (some ⟨B, 0, none⟩)
  f3 : a.tmps.getD 3 undef = .int .i64 i
  f4 : a.tmps.getD 4 undef = .pointer (some ⟨Ba, 0, none⟩)
  f9 : a.tmps.getD 9 undef = ds
  f10 : a.tmps.getD 10 undef = .int .i64 k
  f11 : a.tmps.getD 11 undef = .pointer (some ⟨Bw, 0, none⟩)
  f13 : a.tmps.getD 13 undef = .pointer (some ⟨Bb, 0, none⟩)

def regs : Code → List (Nat × Code)
  | .loop c => regs c
  | .seq a b => regs a ++ regs b
  | .block _ c => regs c
  | .scope c => regs c
  | .cond _ a b => regs a ++ regs b
  | .region i o b => [(i, .region i o b)]
  | _ => []
set_option maxRecDepth 1000000 in
set_option maxHeartbeats 8000000 in
theorem areg22 {B i Ba k Bw Bb n g cap j O : Nat} {ds : Value} {l : List Int} {W w : World} {Q : Exit → Act → World → Prop}
    (hlt : j < n) (hcap : n ≤ cap) (hn64 : n ≤ 64) (hgB : g ≠ Bb)
    (c1 : w.cell? ⟨Bb, 1, none⟩ = some (.slice (some ⟨g, 0, none⟩) n cap))
    (HBU : Hid (But g W w)) (HL : Hid (l.length = n)) (HO : Hid (Own w O (.slice (some ⟨g, 0, none⟩) n cap) l))
    (HQ : Hid (∀ a' w', FrA B i Ba k Bw Bb ds a' → a'.tmps.getD 14 undef = .int .i64 j → But g W w' → (∃ l : List Int, l.length = n ∧ Own w' O (.slice (some ⟨g, 0, none⟩) n cap) l) → Q .normal a' w'))
    (a : Act) (ha : FrA B i Ba k Bw Bb ds a) (hs : a.tmps.getD 14 undef = .int .i64 j) :
    Code.wp Try.prog ((((Try.f4.body.map regs).getD []).getD 19 (0, .skip)).2) Q a w := by
  obtain ⟨G, hg, e⟩ := act176 a ha.d ha.s
  obtain ⟨hz1, hz2, g1, g3, g4, g9, g10, g11, g13⟩ := ha
  rw [hg] at g1 g3 g4 g9 g10 g11 g13 hs
  clear hz1 hz2
  subst e
  clear hg
  rw [g1, g3, g4, g9, g10, g11, g13, hs]
  clear g1 g3 g4 g9 g10 g11 g13 hs
  obtain ⟨hc, hf, _⟩ := HO.out.put HL.out j hlt 0
  have z0 : (0 : Int) ≤ (j : Int) := by omega
  have z1 : (j : Int) < n := by omega
  have n3 : Bb ≠ g := Ne.symm hgB
  have HPB : Hid (∀ x, Own (w.setCell ⟨g, j, none⟩ (.int .i64 x)) O (.slice (some ⟨g, 0, none⟩) n cap) (l.set j x)) := fun x => (HO.out.put HL.out j hlt x).2.2
  have HPU : Hid (∀ x, But g W (w.setCell ⟨g, j, none⟩ (.int .i64 x))) := fun x => HBU.out.setCell _
  have HPL : Hid (∀ x, (l.set j x).length = n) := fun x => by rw [List.length_set]; exact HL.out
  conv => arg 2; whnf
  refine wp_region_noPanic ?_
  go_region_with (fail)
  all_goals refine NoPanic.normal ?_
  all_goals exact HQ.out _ _ ⟨rfl, rfl, rfl, rfl, rfl, rfl, rfl, rfl, rfl⟩ rfl (HPU.out _).drew ⟨_, HPL.out _, (HPB.out _).drew⟩
set_option maxRecDepth 1000000 in
set_option maxHeartbeats 8000000 in
theorem aloop3 {B i Ba k Bw Bb n g cap O : Nat} {ds x0 : Value} {W : World} {Q : Exit → Act → World → Prop}
    (hn64 : n ≤ 64) (hcap : n ≤ cap) (hgB : g ≠ Bb)
    (HBX : Hid (Box W Bb x0 (.slice (some ⟨g, 0, none⟩) n cap)))
    (HO : Hid (∃ l : List Int, l.length = n ∧ Own W O (.slice (some ⟨g, 0, none⟩) n cap) l))
    (hexit : ∀ a' w', FrA B i Ba k Bw Bb ds a' → But g W w' → (∃ l : List Int, l.length = n ∧ Own w' O (.slice (some ⟨g, 0, none⟩) n cap) l) → Q (.exit 4) a' w')
    (a : Act) (ha : FrA B i Ba k Bw Bb ds a) (hs : a.tmps.getD 14 undef = .int .i64 0) :
    Code.wp Try.prog (.loop (((Try.f4.body.map loopsIn).getD []).getD 2 .skip)) Q a W := by
  refine wp_loop (fun a' w' => FrA B i Ba k Bw Bb ds a' ∧ (∃ j : Nat, j ≤ n ∧ a'.tmps.getD 14 undef = .int .i64 j) ∧ But g W w' ∧ ∃ l : List Int, l.length = n ∧ Own w' O (.slice (some ⟨g, 0, none⟩) n cap) l) (fun a' _ => n - slotNat a' 14) ⟨ha, ⟨0, by omega, hs⟩, But.refl _ _, HO.out⟩ ?_
  clear hs ha HO
  clear a
  intro a w ⟨hf, ⟨j, hj, hs⟩, hbu, l, hl, ho⟩
  obtain ⟨G, hg, e⟩ := act176 a hf.d hf.s
  obtain ⟨hz1, hz2, g1, g3, g4, g9, g10, g11, g13⟩ := hf
  rw [hg] at g1 g3 g4 g9 g10 g11 g13 hs
  clear hz1 hz2
  subst e
  clear hg
  rw [g1, g3, g4, g9, g10, g11, g13, hs]
  have HEX : Hid (∀ a' w', FrA B i Ba k Bw Bb ds a' → But g W w' → (∃ l : List Int, l.length = n ∧ Own w' O (.slice (some ⟨g, 0, none⟩) n cap) l) → Q (.exit 4) a' w') := hexit
  have HBU : Hid (But g W w) := hbu
  have HL : Hid (l.length = n) := hl
  have HO : Hid (Own w O (.slice (some ⟨g, 0, none⟩) n cap) l) := ho
  have hbx := hbu.box HBX.out (Ne.symm hgB)
  have c1 := hbx.c1
  clear hexit hbu hl ho hbx g1 g3 g4 g9 g10 g11 g13 hs
  conv => arg 2; whnf
  by_cases hlt : j < n
  · go_upto_region 22 with fail
    refine areg22 (j := j) hlt hcap hn64 hgB c1 HBU HL HO ?_ _ ⟨rfl, rfl, rfl, rfl, rfl, rfl, rfl, rfl, rfl⟩ rfl
    intro a5 w5 hf5 h14 hbu5 hl5
    obtain ⟨G5, hg5, e5⟩ := act176 a5 hf5.d hf5.s
    obtain ⟨hz1, hz2, g1, g3, g4, g9, g10, g11, g13⟩ := hf5
    rw [hg5] at g1 g3 g4 g9 g10 g11 g13 h14
    clear hz1 hz2
    subst e5
    clear hg5
    rw [g1, g3, g4, g9, g10, g11, g13, h14]
    clear g1 g3 g4 g9 g10 g11 g13 h14
    have HBU5 : Hid (But g W w5) := hbu5
    have HL5 : Hid _ := hl5
    clear hbu5 hl5
    go_wp2
    refine ⟨⟨⟨rfl, rfl, rfl, rfl, rfl, rfl, rfl, rfl, rfl⟩, ⟨j + 1, by omega, ?_⟩, HBU5.out, HL5.out⟩, ?_⟩
    · show Value.int .i64 _ = _
      go_num
    · show n - (intOf (Value.int .i64 _)).toNat < n - (intOf (Value.int .i64 _)).toNat
      simp [intOf]
      omega
  · go_wp2
    exact HEX.out _ _ ⟨rfl, rfl, rfl, rfl, rfl, rfl, rfl, rfl, rfl⟩ HBU.out ⟨l, HL.out, HO.out⟩
end Go.Proofs.Ytgedknmjenbacaa
