/- RingEach: the page's three answers; its last test. -/
import Derived.Test.YtoocfoodnkikeaaE3
namespace Go.Proofs.Ytoocfoodnkikeaa
set_option linter.unusedVariables false
set_option linter.unusedSimpArgs false
open Go.RowKit

set_option maxRecDepth 1000000 in
set_option maxHeartbeats 8000000 in
theorem ereg20 {B i k Ba Bb Bx By Bm Bp Bq Br : Nat} {bad dot b15 d16 : Int} {p0 p1 q0 q1 : Value} {s t : Ten} {w : World} {Q : Exit → Act → World → Prop}
    (HF : Hid (fitE s t = 0)) (HL : Hid (Live w [(Ba, p0, p1, s), (Bb, q0, q1, t)]))
    (HBP : Hid (Box w Bp (.slice none 0 0) (.slice none 0 0))) (HBQ : Hid (Box w Bq (.slice none 0 0) (.slice none 0 0))) (HBR : Hid (Box w Br (.slice none 0 0) (.slice none 0 0)))
    (n1 : Bp ≠ Bq) (n2 : Bp ≠ Br) (n3 : Bq ≠ Br) (n4 : Bp ≠ Ba) (n5 : Bp ≠ Bb) (n6 : Bq ≠ Ba) (n7 : Bq ≠ Bb) (n8 : Br ≠ Ba) (n9 : Br ≠ Bb) (o1 : Bp ≤ Bq) (o2 : Bp ≤ Br)
    (HQ : Hid (∀ a' w' r0 r1 r2 r3 r4 r5, FrT B i k Ba Bb Bx By Bm Bp Bq Br bad dot b15 d16 a' → Live w' [(Bp, r0, r1, eachR opA s t), (Bq, r2, r3, eachR opS s t), (Br, r4, r5, eachR opM s t)] → Below Bp w w' → Q .normal a' w'))
    (a : Act) (ha : FrT B i k Ba Bb Bx By Bm Bp Bq Br bad dot b15 d16 a) :
    Code.wp Try.prog ((((Try.f3.body.map regs).getD []).getD 18 (0, .skip)).2) Q a w := by
  obtain ⟨G, hg, e⟩ := act190 a ha.d ha.s
  obtain ⟨hz1, hz2, g1, g3, g4, g5, g6, g7, g8, g9, g10, g11, g12, g13, g14, g15, g16, g17, g18, g19⟩ := ha
  rw [hg] at g1 g3 g4 g5 g6 g7 g8 g9 g10 g11 g12 g13 g14 g15 g16 g17 g18 g19
  clear hz1 hz2
  subst e
  clear hg
  rw [g1, g3, g4, g5, g6, g7, g8, g9, g10, g11, g12, g13, g14, g15, g16, g17, g18, g19]
  clear g1 g3 g4 g5 g6 g7 g8 g9 g10 g11 g12 g13 g14 g15 g16 g17 g18 g19
  have l0 := HL.out.1.box.c0
  have l1 := HL.out.1.box.c1
  have l2 := HL.out.2.1.box.c0
  have l3 := HL.out.2.1.box.c1
  have LP : Hid (Bp < w.heap.size) := HBP.out.lt
  have LQ : Hid (Bq < w.heap.size) := HBQ.out.lt
  have LR : Hid (Br < w.heap.size) := HBR.out.lt
  conv => arg 2; whnf
  go_region_held3 (fun w' => w'.cell? ⟨Ba, 0, none⟩ = some p0 ∧ w'.cell? ⟨Ba, 1, none⟩ = some p1 ∧ w'.cell? ⟨Bb, 0, none⟩ = some q0 ∧ w'.cell? ⟨Bb, 1, none⟩ = some q1) (go_keep)
    (first
      | (go_at_call_of 15 (Value.int .i64 0); refine (reachA (HL.out.1.ten.later (Below.refl _ _).drew) (HL.out.2.1.ten.later (Below.refl _ _).drew) HF.out).mono ?_; rintro e w1 ⟨x, y, rfl, ho, hbq⟩; obtain ⟨xa0, xn0, xc0, rfl⟩ := ho.dims.ints.shape3; obtain ⟨ya0, yn0, yc0, rfl⟩ := ho.data.ints.shape3; have HQ0 : Hid (Below w.heap.size w w1) := Below.after (Below.refl _ _).drew hbq; have HO0 : Hid (OwnT w1 w.heap.size (.slice xa0 xn0 xc0) (.slice ya0 yn0 yc0) (eachR opA s t)) := ho.mono (Nat.le_refl _); have a_0 := cell_later HQ0.out l0; have a_1 := cell_later HQ0.out l1; have a_2 := cell_later HQ0.out l2; have a_3 := cell_later HQ0.out l3; clear hbq ho)
      | (go_at_call_of 15 (Value.int .i64 1); refine (reachS (HL.out.1.ten.later HQ0.out) (HL.out.2.1.ten.later HQ0.out) HF.out).mono ?_; rintro e w2 ⟨x, y, rfl, ho, hbq⟩; obtain ⟨xa1, xn1, xc1, rfl⟩ := ho.dims.ints.shape3; obtain ⟨ya1, yn1, yc1, rfl⟩ := ho.data.ints.shape3; have HQ1 : Hid (Below w.heap.size w w2) := Below.after HQ0.out hbq; have HO1 : Hid (OwnT w2 w.heap.size (.slice xa1 xn1 xc1) (.slice ya1 yn1 yc1) (eachR opS s t)) := ho.mono (HQ0.out.size); have HP10 := HO0.out.later hbq; have b_0 := cell_later HQ1.out l0; have b_1 := cell_later HQ1.out l1; have b_2 := cell_later HQ1.out l2; have b_3 := cell_later HQ1.out l3; clear hbq ho; clear a_0 a_1 a_2 a_3)
      | (go_at_call_of 15 (Value.int .i64 2); refine (reachM (HL.out.1.ten.later HQ1.out) (HL.out.2.1.ten.later HQ1.out) HF.out).mono ?_; rintro e w3 ⟨x, y, rfl, ho, hbq⟩; obtain ⟨xa2, xn2, xc2, rfl⟩ := ho.dims.ints.shape3; obtain ⟨ya2, yn2, yc2, rfl⟩ := ho.data.ints.shape3; have HQ2 : Hid (Below w.heap.size w w3) := Below.after HQ1.out hbq; have HO2 : Hid (OwnT w3 w.heap.size (.slice xa2 xn2 xc2) (.slice ya2 yn2 yc2) (eachR opM s t)) := ho.mono (HQ1.out.size); have HP20 := HP10.later hbq; have HP21 := HO1.out.later hbq; have c_0 := cell_later HQ2.out l0; have c_1 := cell_later HQ2.out l1; have c_2 := cell_later HQ2.out l2; have c_3 := cell_later HQ2.out l3; have hp := HBP.out.later HQ2.out; have hq := HBQ.out.later HQ2.out; have hr := HBR.out.later HQ2.out; have z1 := hp.c0; have z2 := hp.c1; have z3 := hp.f 0; have z4 := hp.f 1; have z5 := hq.c0; have z6 := hq.c1; have z7 := hq.f 0; have z8 := hq.f 1; have y1 := hr.c0; have y2 := hr.c1; have y3 := hr.f 0; have y4 := hr.f 1; have GP : Hid (Box w3 Bp (.slice none 0 0) (.slice none 0 0)) := hp; have GQ : Hid (Box w3 Bq (.slice none 0 0) (.slice none 0 0)) := hq; have GR : Hid (Box w3 Br (.slice none 0 0) (.slice none 0 0)) := hr; clear hp hq hr; clear hbq ho; clear b_0 b_1 b_2 b_3))
  refine HQ.out _ _ (.slice xa0 xn0 xc0) (.slice ya0 yn0 yc0) (.slice xa1 xn1 xc1) (.slice ya1 yn1 yc1) (.slice xa2 xn2 xc2) (.slice ya2 yn2 yc2) ⟨rfl, rfl, rfl, rfl, rfl, rfl, rfl, rfl, rfl, rfl, rfl, rfl, rfl, rfl, rfl, rfl, rfl, rfl, rfl, rfl⟩ ⟨⟨?_, ?_⟩, ⟨?_, ?_⟩, ⟨?_, ?_⟩, trivial⟩ ?_
  · exact ((GP.out.set _ _).other2 _ _ n1).other2 _ _ n2
  · exact (((HP20.set2 _ _ LP.out).set2 _ _ LQ.out).set2 _ _ LR.out).tens
  · exact ((GQ.out.other2 _ _ (Ne.symm n1)).set _ _).other2 _ _ n3
  · exact (((HP21.set2 _ _ LP.out).set2 _ _ LQ.out).set2 _ _ LR.out).tens
  · exact ((GR.out.other2 _ _ (Ne.symm n2)).other2 _ _ (Ne.symm n3)).set _ _
  · exact (((HO2.out.set2 _ _ LP.out).set2 _ _ LQ.out).set2 _ _ LR.out).tens
  · exact ((((((HQ2.out.mono (Nat.le_of_lt LP.out)).setCell (Nat.le_refl _) _).setCell (Nat.le_refl _) _).setCell o1 _).setCell o1 _).setCell o2 _).setCell o2 _

set_option maxRecDepth 1000000 in
set_option maxHeartbeats 8000000 in
theorem ereg26 {B i k tb tof c0 lT Ba Bb : Nat} {xi yi xk yk p0 p1 q0 q1 : Value} {s t : Ten} {w : World} {Q : Exit → Act → World → Prop}
    (hi : i < lT) (hk : k < lT) (hlT : lT ≤ c0) (hT0 : lT ≤ 17592186044416)
    (HC : Hid (w.cell? ⟨B, 0, none⟩ = some (.slice (some ⟨tb, tof, none⟩) lT c0) ∧ w.cell? ⟨tb, tof + i * 2, none⟩ = some xi ∧ w.cell? ⟨tb, tof + i * 2 + 1, none⟩ = some yi ∧ w.cell? ⟨tb, tof + k * 2, none⟩ = some xk ∧ w.cell? ⟨tb, tof + k * 2 + 1, none⟩ = some yk))
    (HTI : Hid (Tens w xi yi s)) (HTK : Hid (Tens w xk yk t)) (HL : Hid (Live w [(Ba, p0, p1, s), (Bb, q0, q1, t)]))
    (HQ : Hid (∀ a' w', FrE B i k a' → a'.tmps.getD 188 undef = .bool false → Below w.heap.size w w' → Q .normal a' w'))
    (a : Act) (ha : FrE B i k a) (h5 : a.tmps.getD 5 undef = .pointer (some ⟨Ba, 0, none⟩)) (h6 : a.tmps.getD 6 undef = .pointer (some ⟨Bb, 0, none⟩)) :
    Code.wp Try.prog ((((Try.f3.body.map regs).getD []).getD 24 (0, .skip)).2) Q a w := by
  obtain ⟨G, hg, e⟩ := act190 a ha.d ha.s
  obtain ⟨hz1, hz2, g1, g3, g4⟩ := ha
  rw [hg] at g1 g3 g4 h5 h6
  clear hz1 hz2
  subst e
  clear hg
  rw [g1, g3, g4, h5, h6]
  clear g1 g3 g4 h5 h6
  have l0 : w.cell? ⟨B, 0, none⟩ = some (.slice (some ⟨tb, tof, none⟩) lT c0) := HC.out.1
  have l1 : w.cell? ⟨tb, tof + i * 2, none⟩ = some (xi) := HC.out.2.1
  have l2 : w.cell? ⟨tb, tof + i * 2 + 1, none⟩ = some (yi) := HC.out.2.2.1
  have l3 : w.cell? ⟨tb, tof + k * 2, none⟩ = some (xk) := HC.out.2.2.2.1
  have l4 : w.cell? ⟨tb, tof + k * 2 + 1, none⟩ = some (yk) := HC.out.2.2.2.2
  have l5 : w.cell? ⟨Ba, 0, none⟩ = some (p0) := HL.out.1.box.c0
  have l6 : w.cell? ⟨Ba, 1, none⟩ = some (p1) := HL.out.1.box.c1
  have l7 : w.cell? ⟨Bb, 0, none⟩ = some (q0) := HL.out.2.1.box.c0
  have l8 : w.cell? ⟨Bb, 1, none⟩ = some (q1) := HL.out.2.1.box.c1
  have z1 : (0 : Int) ≤ (i : Int) := by omega
  have z2 : (i : Int) < lT := by omega
  have z3 : (0 : Int) ≤ (k : Int) := by omega
  have z4 : (k : Int) < lT := by omega
  conv => arg 2; whnf
  go_region_held3 (fun w' => w'.cell? ⟨B, 0, none⟩ = some (.slice (some ⟨tb, tof, none⟩) lT c0) ∧ w'.cell? ⟨tb, tof + i * 2, none⟩ = some (xi) ∧ w'.cell? ⟨tb, tof + i * 2 + 1, none⟩ = some (yi) ∧ w'.cell? ⟨tb, tof + k * 2, none⟩ = some (xk) ∧ w'.cell? ⟨tb, tof + k * 2 + 1, none⟩ = some (yk) ∧ w'.cell? ⟨Ba, 0, none⟩ = some (p0) ∧ w'.cell? ⟨Ba, 1, none⟩ = some (p1) ∧ w'.cell? ⟨Bb, 0, none⟩ = some (q0) ∧ w'.cell? ⟨Bb, 1, none⟩ = some (q1)) (refine ⟨?_, ?_, ?_, ?_, ?_, ?_, ?_, ?_, ?_⟩ <;> assumption)
    (first
      | (go_at_call_of 18 (Value.agg #[p0, p1]); refine (eqt_to (HL.out.1.ten.later (Below.refl _ _).drew) (HTI.out.later (Below.refl _ _).drew) rfl).mono ?_; rintro e w' ⟨rfl, hbq⟩; have HQ0 : Hid (Below w.heap.size w w') := Below.after (Below.refl _ _).drew hbq; have a_0 := cell_later HQ0.out l0; have a_1 := cell_later HQ0.out l1; have a_2 := cell_later HQ0.out l2; have a_3 := cell_later HQ0.out l3; have a_4 := cell_later HQ0.out l4; have a_5 := cell_later HQ0.out l5; have a_6 := cell_later HQ0.out l6; have a_7 := cell_later HQ0.out l7; have a_8 := cell_later HQ0.out l8; clear hbq)
      | (go_at_call_of 18 (Value.agg #[q0, q1]); refine (eqt_to (HL.out.2.1.ten.later HQ0.out) (HTK.out.later HQ0.out) rfl).mono ?_; rintro e w' ⟨rfl, hbq⟩; have HQ1 : Hid (Below w.heap.size w w') := Below.after HQ0.out hbq; have b_0 := cell_later HQ1.out l0; have b_1 := cell_later HQ1.out l1; have b_2 := cell_later HQ1.out l2; have b_3 := cell_later HQ1.out l3; have b_4 := cell_later HQ1.out l4; have b_5 := cell_later HQ1.out l5; have b_6 := cell_later HQ1.out l6; have b_7 := cell_later HQ1.out l7; have b_8 := cell_later HQ1.out l8; clear hbq; clear a_0 a_1 a_2 a_3 a_4 a_5 a_6 a_7 a_8))
  exact HQ.out _ _ ⟨rfl, rfl, rfl, rfl, rfl⟩ rfl HQ1.out
set_option maxHeartbeats 400000 in
theorem spoil_wk {w : World} {B n0 n1 c0 c1 : Nat} {p0 p1 : Option Addr} (h0 : Wr w B (.slice p0 n0 c0)) (h1 : Wr w B (.slice p1 n1 c1)) (hB : B ≤ w.heap.size) :
    Calls Try.prog 19 #[.agg #[.slice p0 n0 c0, .slice p1 n1 c1]] w fun e w' => e = .returned (.tuple #[]) ∧ Below B w w' ∧ (∀ u, Wr w B u → Wr w' B u) ∧ ∀ j, j < w.heap.size → (Value.slice p0 n0 c0).ownBlock ≠ some j → (Value.slice p1 n1 c1).ownBlock ≠ some j → w'.heap[j]? = w.heap[j]? := by
  have HB : Hid (Below B w (w.alloc (.cells #[.slice p0 n0 c0, .slice p1 n1 c1] 28))) := (Below.refl _ _).alloc hB _
  have H0 : Hid (Wr (w.alloc (.cells #[.slice p0 n0 c0, .slice p1 n1 c1] 28)) B (.slice p0 n0 c0)) := h0.alloc _
  have H1 : Hid (Wr (w.alloc (.cells #[.slice p0 n0 c0, .slice p1 n1 c1] 28)) B (.slice p1 n1 c1)) := h1.alloc _
  have HN0 : Hid (∀ k, (Value.slice p0 n0 c0).ownBlock = some k → k < w.heap.size) := h0.lt
  have HBX : Hid (Box (w.alloc (.cells #[.slice p0 n0 c0, .slice p1 n1 c1] 28)) w.heap.size (.slice p0 n0 c0) (.slice p1 n1 c1)) := Box.new w _ _
  clear h0 h1
  go_enter Try.func19, Try.ntmps19
  go_wp2_with fail
  refine (numbers_any H0.out).mono ?_
  rintro e w1 ⟨rfl, hb1, hw1, ho1⟩
  have HW1 : Hid (Wr w1 B (.slice p1 n1 c1)) := hw1 _ H1.out
  have HU1 : Hid (∀ u, Wr w B u → Wr w1 B u) := fun u hu => hw1 u (hu.alloc _)
  have HB1 : Hid (Below B w w1) := HB.out.trans hb1
  have hbx1 : Box w1 w.heap.size _ _ := (ho1 w.heap.size (fun e => absurd (HN0.out _ e) (Nat.lt_irrefl _))).trans HBX.out
  have hc1 := hbx1.c1
  have HK1 : Hid (∀ j, j < w.heap.size → (Value.slice p0 n0 c0).ownBlock ≠ some j → w1.heap[j]? = w.heap[j]?) := fun j hj hn => (ho1 j hn).trans (Below.heap_alloc w _ j hj)
  clear hb1 hw1 ho1 hbx1
  go_wp2_with fail
  refine (numbers_any HW1.out).mono ?_
  rintro e w2 ⟨rfl, hb2, hw2, ho2⟩
  have HB2 : Hid (Below B w w2) := HB1.out.trans hb2
  have HU2 : Hid (∀ u, Wr w B u → Wr w2 B u) := fun u hu => hw2 u (HU1.out u hu)
  have HK2 : Hid (∀ j, j < w.heap.size → (Value.slice p0 n0 c0).ownBlock ≠ some j → (Value.slice p1 n1 c1).ownBlock ≠ some j → w2.heap[j]? = w.heap[j]?) := fun j hj hn hm => (ho2 j hm).trans (HK1.out j hj hn)
  clear hb2 hw2 ho2
  go_wp2
  go_end0
  exact ⟨rfl, HB2.out, HU2.out, HK2.out⟩
end Go.Proofs.Ytoocfoodnkikeaa
