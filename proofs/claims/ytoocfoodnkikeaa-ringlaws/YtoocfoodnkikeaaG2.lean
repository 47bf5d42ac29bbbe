/- RingLaws: contracts of tensors of one dims; its second region. -/
import Derived.Test.YtoocfoodnkikeaaG1
namespace Go.Proofs.Ytoocfoodnkikeaa
set_option linter.unusedVariables false
set_option linter.unusedSimpArgs false
open Go.RowKit

/-- Of these dims, each list of so many numbers is a tensor. -/
def Okn (D : List Int) (n : Nat) : Prop := ∀ l : List Int, l.length = n → tok (D, l) = true
theorem okn_of {s : Ten} (h : tok s = true) : Okn s.1 s.2.length := fun l hl => by
  simp only [tok, Bool.and_eq_true, decide_eq_true_eq] at h ⊢
  exact ⟨h.1, by rw [hl]; exact h.2⟩
theorem fit_l {D l l' : List Int} {n : Nat} (h : Okn D n) (h1 : l.length = n) (h2 : l'.length = n) : fitE (D, l) (D, l') = 0 := by simp [fitE, h l h1, h l' h2]
theorem add_l {a0 a1 b0 b1 : Value} {D l l' : List Int} {n : Nat} {w : World} (h : Okn D n) (ha : Tens w a0 a1 (D, l)) (hb : Tens w b0 b1 (D, l')) (h1 : l.length = n) (h2 : l'.length = n) :
    Calls Try.prog 9 #[.agg #[a0, a1], .agg #[b0, b1]] w fun e w' => ∃ x0 x1, e = .returned (.tuple #[.agg #[x0, x1], .int .i64 0]) ∧ OwnT w' w.heap.size x0 x1 (D, List.zipWith opA l l') ∧ Below w.heap.size w w' :=
  add_to 0 _ ha hb (fit_l h h1 h2) (by rw [eachR, if_pos (fit_l h h1 h2)])
theorem sub_l {a0 a1 b0 b1 : Value} {D l l' : List Int} {n : Nat} {w : World} (h : Okn D n) (ha : Tens w a0 a1 (D, l)) (hb : Tens w b0 b1 (D, l')) (h1 : l.length = n) (h2 : l'.length = n) :
    Calls Try.prog 10 #[.agg #[a0, a1], .agg #[b0, b1]] w fun e w' => ∃ x0 x1, e = .returned (.tuple #[.agg #[x0, x1], .int .i64 0]) ∧ OwnT w' w.heap.size x0 x1 (D, List.zipWith opS l l') ∧ Below w.heap.size w w' :=
  sub_to 0 _ ha hb (fit_l h h1 h2) (by rw [eachR, if_pos (fit_l h h1 h2)])
theorem mul_l {a0 a1 b0 b1 : Value} {D l l' : List Int} {n : Nat} {w : World} (h : Okn D n) (ha : Tens w a0 a1 (D, l)) (hb : Tens w b0 b1 (D, l')) (h1 : l.length = n) (h2 : l'.length = n) :
    Calls Try.prog 11 #[.agg #[a0, a1], .agg #[b0, b1]] w fun e w' => ∃ x0 x1, e = .returned (.tuple #[.agg #[x0, x1], .int .i64 0]) ∧ OwnT w' w.heap.size x0 x1 (D, List.zipWith opM l l') ∧ Below w.heap.size w w' :=
  mulu_to 0 _ ha hb (fit_l h h1 h2) (by rw [eachR, if_pos (fit_l h h1 h2)])
theorem neg_l {a0 a1 : Value} {D l : List Int} {n : Nat} {w : World} (h : Okn D n) (ha : Tens w a0 a1 (D, l)) (h1 : l.length = n) :
    Calls Try.prog 21 #[.agg #[a0, a1]] w fun e w' => ∃ x0 x1, e = .returned (.tuple #[.agg #[x0, x1], .int .i64 0]) ∧ OwnT w' w.heap.size x0 x1 (D, List.zipWith opN l l) ∧ Below w.heap.size w w' :=
  neg_to 0 _ ha (fit_l h h1 h1) (by rw [eachR, if_pos (fit_l h h1 h1)])
theorem scale_l {a0 a1 : Value} {D l : List Int} {n : Nat} {w : World} (m : Int) (h : Okn D n) (ha : Tens w a0 a1 (D, l)) (h1 : l.length = n) :
    Calls Try.prog 24 #[.agg #[a0, a1], .int .i64 m] w fun e w' => ∃ x0 x1, e = .returned (.tuple #[.agg #[x0, x1], .int .i64 0]) ∧ OwnT w' w.heap.size x0 x1 (D, l.map fun y => wrap64 (m * y)) ∧ Below w.heap.size w w' := by
  have h2 : sclR m (D, l) = (D, l.map fun y => wrap64 (m * y)) := by simp [sclR, h l h1]
  rw [← h2]
  exact scale_to m 0 ha (by simp [tkE, h l h1])
theorem dot_l {a0 a1 b0 b1 : Value} {D l l' : List Int} {n : Nat} {w : World} (x : Int) (h : Okn D n) (ha : Tens w a0 a1 (D, l)) (hb : Tens w b0 b1 (D, l')) (h1 : l.length = n) (h2 : l'.length = n) (hx : ttl (List.zipWith opM l l') = x) :
    Calls Try.prog 12 #[.agg #[a0, a1], .agg #[b0, b1]] w fun e w' => e = .returned (.tuple #[.int .i64 x, .int .i64 0]) ∧ Below w.heap.size w w' :=
  dot_to 0 x ha hb (fit_l h h1 h2) (by rw [dotV, if_pos (fit_l h h1 h2)]; exact hx)

set_option maxRecDepth 1000000 in
set_option maxHeartbeats 8000000 in
theorem lreg8 {B i Ba Bb Bd : Nat} {xi yi xj yj xk yk : Value} {s t u : Ten} {W w : World} {Q : Exit → Act → World → Prop}
    (HP : Hid (1 ≤ s.2.length ∧ s.2.length ≤ 64)) (HTW : Hid (Tens W xi yi s)) (HBW : Hid (Below W.heap.size W w))
    (HL : Hid (Live w [(Ba, xi, yi, s), (Bb, xj, yj, t), (Bd, xk, yk, u)]))
    (n1 : Ba ≠ Bb) (n2 : Ba ≠ Bd) (n3 : Bb ≠ Bd) (o1 : W.heap.size ≤ Bb) (o2 : W.heap.size ≤ Bd)
    (HQ : Hid (∀ a' w' b0 b1 d0 d1 db dd, FrL B i a' → a'.tmps.getD 4 undef = .pointer (some ⟨Ba, 0, none⟩) → a'.tmps.getD 5 undef = .pointer (some ⟨Bb, 0, none⟩) → a'.tmps.getD 6 undef = .pointer (some ⟨Bd, 0, none⟩) → db.length = s.2.length → dd.length = s.2.length → Live w' [(Ba, xi, yi, s), (Bb, b0, b1, (s.1, db)), (Bd, d0, d1, (s.1, dd))] → Below W.heap.size W w' → Q .normal a' w'))
    (a : Act) (ha : FrL B i a) (h4 : a.tmps.getD 4 undef = .pointer (some ⟨Ba, 0, none⟩)) (h5 : a.tmps.getD 5 undef = .pointer (some ⟨Bb, 0, none⟩)) (h6 : a.tmps.getD 6 undef = .pointer (some ⟨Bd, 0, none⟩)) :
    Code.wp Try.prog ((((Try.f5.body.map regs).getD []).getD 7 (0, .skip)).2) Q a w := by
  obtain ⟨G, hg, e⟩ := act251 a ha.d ha.s
  obtain ⟨hz1, hz2, g1, g3⟩ := ha
  rw [hg] at g1 g3 h4 h5 h6
  clear hz1 hz2
  subst e
  clear hg
  rw [g1, g3, h4, h5, h6]
  clear g1 g3 h4 h5 h6
  have l0 := HL.out.1.box.c0
  have l1 := HL.out.1.box.c1
  have l2 := HL.out.2.1.box.c0
  have l3 := HL.out.2.1.box.c1
  have l4 := HL.out.2.2.1.box.c0
  have l5 := HL.out.2.2.1.box.c1
  have n4 := Ne.symm n1
  have n5 := Ne.symm n2
  have n6 := Ne.symm n3
  have LB : Hid (Bb < w.heap.size) := HL.out.2.1.box.lt
  have LD : Hid (Bd < w.heap.size) := HL.out.2.2.1.box.lt
  conv => arg 2; whnf
  go_region_with
    (first
      | (go_at_call_of 25 (Value.agg #[xj, yj]); refine (like_any (HL.out.1.ten.later (Below.refl _ _).drew) (HL.out.2.1.ten.later (Below.refl _ _).drew) HP.out.1 HP.out.2).mono ?_; rintro e w1 ⟨x, y, db, rfl, hdb, ho, hbq⟩; obtain ⟨xa1, xn1, xc1, rfl⟩ := ho.dims.ints.shape3; obtain ⟨ya1, yn1, yc1, rfl⟩ := ho.data.ints.shape3; have HQ1 : Hid (Below w.heap.size w w1) := Below.after (Below.refl _ _).drew hbq; have HO1 : Hid (OwnT w1 w.heap.size (.slice xa1 xn1 xc1) (.slice ya1 yn1 yc1) (s.1, db)) := ho; have HDB : Hid (db.length = s.2.length) := hdb; have k0 := cell_later HQ1.out l0; have k1 := cell_later HQ1.out l1; have k2 := cell_later HQ1.out l2; have k3 := cell_later HQ1.out l3; have k4 := cell_later HQ1.out l4; have k5 := cell_later HQ1.out l5; clear ho hbq hdb)
      | (go_at_call_of 25 (Value.agg #[xk, yk]); refine (like_any (HL.out.1.ten.later HQ1.out) (HL.out.2.2.1.ten.later HQ1.out) HP.out.1 HP.out.2).mono ?_; rintro e w2 ⟨x, y, dd, rfl, hdd, ho, hbq⟩; obtain ⟨xa2, xn2, xc2, rfl⟩ := ho.dims.ints.shape3; obtain ⟨ya2, yn2, yc2, rfl⟩ := ho.data.ints.shape3; have HQ2 : Hid (Below w.heap.size w w2) := Below.after HQ1.out hbq; have HO2 : Hid (OwnT w2 w.heap.size (.slice xa2 xn2 xc2) (.slice ya2 yn2 yc2) (s.1, dd)) := ho.mono HQ1.out.size; have HO3 : Hid (OwnT w2 w.heap.size (.slice xa1 xn1 xc1) (.slice ya1 yn1 yc1) (s.1, db)) := HO1.out.later hbq; have HDD : Hid (dd.length = s.2.length) := hdd; have k0 := cell_later HQ2.out l0; have k1 := cell_later HQ2.out l1; have hp := HL.out.2.1.box.later HQ2.out; have hq := HL.out.2.2.1.box.later HQ2.out; have z1 := hp.c0; have z2 := hp.c1; have z3 := hp.f 0; have z4 := hp.f 1; have z5 := hq.c0; have z6 := hq.c1; have z7 := hq.f 0; have z8 := hq.f 1; have GB : Hid (Box w2 Bb xj yj) := hp; have GD : Hid (Box w2 Bd xk yk) := hq; clear ho hbq hdd hp hq))
  all_goals
    have HBE := (((((Below.after HBW.out HQ2.out).setCell (p := ⟨Bb, 0, none⟩) o1 (.slice xa1 xn1 xc1)).setCell (p := ⟨Bb, 1, none⟩) o1 (.slice ya1 yn1 yc1)).setCell (p := ⟨Bd, 0, none⟩) o2 (.slice xa2 xn2 xc2)).setCell (p := ⟨Bd, 1, none⟩) o2 (.slice ya2 yn2 yc2))
    refine HQ.out _ _ (.slice xa1 xn1 xc1) (.slice ya1 yn1 yc1) (.slice xa2 xn2 xc2) (.slice ya2 yn2 yc2) _ _ ⟨rfl, rfl, rfl, rfl⟩ rfl rfl rfl HDB.out HDD.out ⟨⟨?_, ?_⟩, ⟨?_, ?_⟩, ⟨?_, ?_⟩, trivial⟩ HBE
    · exact ((HL.out.1.box.later HQ2.out).other2 _ _ n1).other2 _ _ n2
    · exact HTW.out.later HBE
    · exact (GB.out.set _ _).other2 _ _ n3
    · exact ((HO3.out.set2 _ _ LB.out).set2 _ _ LD.out).tens
    · exact (GD.out.other2 _ _ n6).set _ _
    · exact ((HO2.out.set2 _ _ LB.out).set2 _ _ LD.out).tens
end Go.Proofs.Ytoocfoodnkikeaa
