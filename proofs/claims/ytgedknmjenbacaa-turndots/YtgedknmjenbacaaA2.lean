/- TurnDots: two regions of its inner loop (Wide; Shape). -/
import Derived.Test.YtgedknmjenbacaaA1
namespace Go.Proofs.Ytgedknmjenbacaa
set_option linter.unusedVariables false
set_option linter.unusedSimpArgs false
open Go.RowKit

structure FrA2 (B i Ba : Nat) (ds : Value) (a : Act) : Prop where
  d : a.defers = []
  s : a.tmps.size = 176
  f1 : a.tmps.getD 1 undef = .pointer (some ⟨B, 0, none⟩)
  f3 : a.tmps.getD 3 undef = .int .i64 i
  f4 : a.tmps.getD 4 undef = .pointer (some ⟨Ba, 0, none⟩)
  f9 : a.tmps.getD 9 undef = ds

set_option maxRecDepth 1000000 in
set_option maxHeartbeats 8000000 in
theorem areg16 {B i Ba k n c db dof xn xc an ac bn bc : Nat} {xa aa ba : Option Addr} {t : Ten} {d : List Int} {w : World} {Q : Exit → Act → World → Prop}
    (hlt : k < n) (hn20 : n ≤ 20) (hnc : n ≤ c)
    (HTB : Hid (TB w Ba (.slice aa an ac) (.slice ba bn bc) t)) (hr : w.cell? ⟨db, dof + k, none⟩ = some (.slice xa xn xc)) (HX : Hid (Ints w (.slice xa xn xc) d))
    (HQ : Hid (∀ a' w', FrA2 B i Ba (.slice (some ⟨db, dof, none⟩) n c) a' → a'.tmps.getD 10 undef = .int .i64 k → a'.tmps.getD 12 undef = .int .i64 (wiE t d) → (∃ Bw y0 y1, a'.tmps.getD 11 undef = .pointer (some ⟨Bw, 0, none⟩) ∧ TB w' Bw y0 y1 (wiR t d)) → Below w.heap.size w w' → Q .normal a' w'))
    (a : Act) (ha : FrA2 B i Ba (.slice (some ⟨db, dof, none⟩) n c) a) (hs : a.tmps.getD 10 undef = .int .i64 k) :
    Code.wp Try.prog ((((Try.f4.body.map regs).getD []).getD 14 (0, .skip)).2) Q a w := by
  obtain ⟨G, hg, e⟩ := act176 a ha.d ha.s
  obtain ⟨hz1, hz2, g1, g3, g4, g9⟩ := ha
  rw [hg] at g1 g3 g4 g9 hs
  clear hz1 hz2
  subst e
  clear hg
  rw [g1, g3, g4, g9, hs]
  clear g1 g3 g4 g9 hs
  have v0 := HTB.out.box.c0
  have v1 := HTB.out.box.c1
  have n1 := World.new_ne w _ v0
  have n2 := World.new_ne w _ hr
  have z0 : (0 : Int) ≤ (k : Int) := by omega
  have z1 : (k : Int) < n := by omega
  have HZ1 : Hid (Box (w.alloc (.cells #[.slice none 0 0, .slice none 0 0] 31)) w.heap.size (.slice none 0 0) (.slice none 0 0)) := Box.new _ _ _
  conv => arg 2; whnf
  go_region_held3 (fun w' => w'.cell? ⟨Ba, 0, none⟩ = some (.slice aa an ac) ∧ w'.cell? ⟨Ba, 1, none⟩ = some (.slice ba bn bc) ∧ w'.cell? ⟨db, dof + k, none⟩ = some (.slice xa xn xc)) (go_keep)
        (first
          | (go_at_call 17; refine (wide_to (s := t) (d := d) (wiE t d) (wiR t d) ?_ ?_ rfl rfl).mono ?_; exact HTB.out.ten.later (Below.refl _ _).drew; exact HX.out.later (Below.refl _ _).drew; rintro e w7 ⟨y0, y1, rfl, ho, hb7⟩; obtain ⟨ya, yn, yc, rfl⟩ := ho.dims.ints.shape3; obtain ⟨za, zn, zc, rfl⟩ := ho.data.ints.shape3; have HQ7 : Hid (Below w.heap.size w w7) := Below.after (Below.refl _ _).drew hb7; have HO7 : Hid (OwnT w7 w.heap.size (.slice ya yn yc) (.slice za zn zc) (wiR t d)) := ho; have a_0 := cell_later HQ7.out v0; have a_1 := cell_later HQ7.out v1; have a_2 := cell_later HQ7.out hr; clear ho hb7)
          | (go_at_call 17; refine (wide_to (s := t) (d := d) (wiE t d) (wiR t d) ?_ ?_ rfl rfl).mono ?_; exact HTB.out.ten.later (Below.push (Below.refl _ _) _).drew; exact HX.out.later (Below.push (Below.refl _ _) _).drew; rintro e w7 ⟨y0, y1, rfl, ho, hb7⟩; obtain ⟨ya, yn, yc, rfl⟩ := ho.dims.ints.shape3; obtain ⟨za, zn, zc, rfl⟩ := ho.data.ints.shape3; have HQ7 : Hid (Below w.heap.size w w7) := Below.after (Below.push (Below.refl _ _) _).drew hb7; have HO7 : Hid (OwnT w7 (w.heap.size + 1) (.slice ya yn yc) (.slice za zn zc) (wiR t d)) := (by show OwnT _ _ _ _ _; simpa using ho); have hz : Box w7 w.heap.size (.slice none 0 0) (.slice none 0 0) := Box.later hb7 HZ1.out; have q0 := hz.c0; have q1 := hz.c1; have q2 := hz.f 0; have q3 := hz.f 1; have HZ : Hid (Box w7 w.heap.size (.slice none 0 0) (.slice none 0 0)) := hz; have a_0 := cell_later HQ7.out v0; have a_1 := cell_later HQ7.out v1; have a_2 := cell_later HQ7.out hr; clear ho hb7 hz))
  · exact HQ.out _ _ ⟨rfl, rfl, rfl, rfl, rfl, rfl⟩ rfl rfl ⟨_, _, _, rfl, Box.new _ _ _, HO7.out.tens.later (Below.push (Below.refl _ _) _)⟩ (Below.push HQ7.out _)
  · exact HQ.out _ _ ⟨rfl, rfl, rfl, rfl, rfl, rfl⟩ rfl rfl ⟨_, _, _, rfl, HZ.out.set _ _, ((HO7.out.setCell _ _ (by simp)).setCell _ _ (by simp)).tens⟩ ((HQ7.out.setCell (Nat.le_refl _) _).setCell (Nat.le_refl _) _)

set_option maxRecDepth 1000000 in
set_option maxHeartbeats 8000000 in
theorem areg28 {B i Ba k n c db dof xn xc an ac bn bc : Nat} {xa aa ba : Option Addr} {t : Ten} {d : List Int} {w : World} {Q : Exit → Act → World → Prop}
    (hlt : k < n) (hn20 : n ≤ 20) (hnc : n ≤ c)
    (HTB : Hid (TB w Ba (.slice aa an ac) (.slice ba bn bc) t)) (hr : w.cell? ⟨db, dof + k, none⟩ = some (.slice xa xn xc)) (HX : Hid (Ints w (.slice xa xn xc) d))
    (HQ : Hid (∀ a' w', FrA2 B i Ba (.slice (some ⟨db, dof, none⟩) n c) a' → a'.tmps.getD 10 undef = .int .i64 k → a'.tmps.getD 12 undef = .int .i64 (shE t d) → (∃ Bw y0 y1, a'.tmps.getD 21 undef = .pointer (some ⟨Bw, 0, none⟩) ∧ TB w' Bw y0 y1 (shR t d)) → Below w.heap.size w w' → Q .normal a' w'))
    (a : Act) (ha : FrA2 B i Ba (.slice (some ⟨db, dof, none⟩) n c) a) (hs : a.tmps.getD 10 undef = .int .i64 k) :
    Code.wp Try.prog ((((Try.f4.body.map regs).getD []).getD 26 (0, .skip)).2) Q a w := by
  obtain ⟨G, hg, e⟩ := act176 a ha.d ha.s
  obtain ⟨hz1, hz2, g1, g3, g4, g9⟩ := ha
  rw [hg] at g1 g3 g4 g9 hs
  clear hz1 hz2
  subst e
  clear hg
  rw [g1, g3, g4, g9, hs]
  clear g1 g3 g4 g9 hs
  have v0 := HTB.out.box.c0
  have v1 := HTB.out.box.c1
  have n1 := World.new_ne w _ v0
  have n2 := World.new_ne w _ hr
  have z0 : (0 : Int) ≤ (k : Int) := by omega
  have z1 : (k : Int) < n := by omega
  have HZ1 : Hid (Box (w.alloc (.cells #[.slice none 0 0, .slice none 0 0] 31)) w.heap.size (.slice none 0 0) (.slice none 0 0)) := Box.new _ _ _
  conv => arg 2; whnf
  go_region_held3 (fun w' => w'.cell? ⟨Ba, 0, none⟩ = some (.slice aa an ac) ∧ w'.cell? ⟨Ba, 1, none⟩ = some (.slice ba bn bc) ∧ w'.cell? ⟨db, dof + k, none⟩ = some (.slice xa xn xc)) (go_keep)
        (first
          | (go_at_call 16; refine (shape_to (s := t) (d := d) (shE t d) (shR t d) ?_ ?_ rfl rfl).mono ?_; exact HTB.out.ten.later (Below.refl _ _).drew; exact HX.out.later (Below.refl _ _).drew; rintro e w7 ⟨y0, y1, rfl, ho, hb7⟩; obtain ⟨ya, yn, yc, rfl⟩ := ho.dims.ints.shape3; obtain ⟨za, zn, zc, rfl⟩ := ho.data.ints.shape3; have HQ7 : Hid (Below w.heap.size w w7) := Below.after (Below.refl _ _).drew hb7; have HO7 : Hid (OwnT w7 w.heap.size (.slice ya yn yc) (.slice za zn zc) (shR t d)) := ho; have a_0 := cell_later HQ7.out v0; have a_1 := cell_later HQ7.out v1; have a_2 := cell_later HQ7.out hr; clear ho hb7)
          | (go_at_call 16; refine (shape_to (s := t) (d := d) (shE t d) (shR t d) ?_ ?_ rfl rfl).mono ?_; exact HTB.out.ten.later (Below.push (Below.refl _ _) _).drew; exact HX.out.later (Below.push (Below.refl _ _) _).drew; rintro e w7 ⟨y0, y1, rfl, ho, hb7⟩; obtain ⟨ya, yn, yc, rfl⟩ := ho.dims.ints.shape3; obtain ⟨za, zn, zc, rfl⟩ := ho.data.ints.shape3; have HQ7 : Hid (Below w.heap.size w w7) := Below.after (Below.push (Below.refl _ _) _).drew hb7; have HO7 : Hid (OwnT w7 (w.heap.size + 1) (.slice ya yn yc) (.slice za zn zc) (shR t d)) := (by show OwnT _ _ _ _ _; simpa using ho); have hz : Box w7 w.heap.size (.slice none 0 0) (.slice none 0 0) := Box.later hb7 HZ1.out; have q0 := hz.c0; have q1 := hz.c1; have q2 := hz.f 0; have q3 := hz.f 1; have HZ : Hid (Box w7 w.heap.size (.slice none 0 0) (.slice none 0 0)) := hz; have a_0 := cell_later HQ7.out v0; have a_1 := cell_later HQ7.out v1; have a_2 := cell_later HQ7.out hr; clear ho hb7 hz))
  · exact HQ.out _ _ ⟨rfl, rfl, rfl, rfl, rfl, rfl⟩ rfl rfl ⟨_, _, _, rfl, Box.new _ _ _, HO7.out.tens.later (Below.push (Below.refl _ _) _)⟩ (Below.push HQ7.out _)
  · exact HQ.out _ _ ⟨rfl, rfl, rfl, rfl, rfl, rfl⟩ rfl rfl ⟨_, _, _, rfl, HZ.out.set _ _, ((HO7.out.setCell _ _ (by simp)).setCell _ _ (by simp)).tens⟩ ((HQ7.out.setCell (Nat.le_refl _) _).setCell (Nat.le_refl _) _)
end Go.Proofs.Ytgedknmjenbacaa
