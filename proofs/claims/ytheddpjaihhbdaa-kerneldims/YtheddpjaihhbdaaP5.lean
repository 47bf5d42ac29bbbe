/- KernelDims: its other loops. -/
import Derived.Test.YtheddpjaihhbdaaP4
namespace Go.Proofs.Ytheddpjaihhbdaa
set_option linter.unusedVariables false
set_option linter.unusedSimpArgs false
set_option maxRecDepth 100000
open Go.RowKit

set_option maxRecDepth 1000000 in
set_option maxHeartbeats 16000000 in
theorem dloop3 {B kd i nT cT nD cD tb tO : Nat} {pD : Option Addr} {T : List Ten} {ds : List (List Int)} {W : World} {Q : Exit → Act → World → Prop}
    (h4 : 4 ≤ kd) (h17 : kd ≤ 17) (hi : i < nT) (hi5 : i < 5) (hcT : nT ≤ cT) (hTb : nT ≤ 17592186044416) (hDb : nD ≤ 17592186044416) (HTS : Hid (TensL W (.slice (some ⟨tb, tO, none⟩) nT cT) T)) (HCB : Hid (W.cell? ⟨B, 0, none⟩ = some (.slice (some ⟨tb, tO, none⟩) nT cT))) (HCD : Hid (W.cell? ⟨B, 2, none⟩ = some (.slice pD nD cD))) (HDS : Hid (IntsL W (.slice pD nD cD) ds))
    (hexit : ∀ a' w' n, FrD3 B kd i n a' → Below W.heap.size W w' → Q (.exit 4) a' w')
    (a : Act) (w : World) (ha : FrD3 B kd i 0 a) (hb : Below W.heap.size W w) :
    Code.wp Try.prog (.loop (((Try.f3.body.map loopsIn).getD []).getD 2 .skip)) Q a w := by
  refine wp_loop (fun a' w' => (∃ n : Nat, n ≤ 4 ∧ FrD3 B kd i n a') ∧ Below W.heap.size W w') (fun a' _ => 4 - slotNat a' 5) ⟨⟨0, by omega, ha⟩, hb⟩ ?_
  clear ha hb
  clear a w
  intro a w ⟨⟨n, hn4, hf⟩, hb⟩
  obtain ⟨G, hg, e⟩ := act125 a hf.d hf.s
  obtain ⟨hz1, hz2, g1, g3, g4, g5⟩ := hf
  rw [hg] at g1 g3 g4 g5 
  clear hz1 hz2
  subst e
  clear hg
  rw [g1, g3, g4, g5]
  clear g1 g3 g4 g5 
  have HEX : Hid (∀ a' w' n, FrD3 B kd i n a' → Below W.heap.size W w' → Q (.exit 4) a' w') := hexit
  have HB : Hid (Below W.heap.size W w) := hb
  have HTSw : Hid (TensL w (.slice (some ⟨tb, tO, none⟩) nT cT) T) := HTS.out.later hb
  have HCBw : Hid (w.cell? ⟨B, 0, none⟩ = some (.slice (some ⟨tb, tO, none⟩) nT cT)) := cell_later hb HCB.out
  have HCDw : Hid (w.cell? ⟨B, 2, none⟩ = some (.slice pD nD cD)) := cell_later hb HCD.out
  have HDSw : Hid (IntsL w (.slice pD nD cD) ds) := HDS.out.later hb
  clear hexit hb HTS HCB HCD HDS
  conv => arg 2; whnf
  by_cases hlt : n < 4
  · obtain ⟨b0, o0, s, fa, fn, fc, ga, gn, gc, ea, hr0, hr1, HA, HC⟩ := HTSw.out.rowN i hi
    simp only [Option.some.injEq, Addr.mk.injEq, and_true] at ea
    obtain ⟨rfl, rfl⟩ := ea
    obtain ⟨j, hj⟩ : ∃ j, (i + n) % nT = j := ⟨_, rfl⟩
    obtain ⟨b0, o0, t, ha, hn, hc, ya, yn, yc, ea, hr2, hr3, HU, _⟩ := HTSw.out.rowN j (by rw [← hj]; exact Nat.mod_lt _ (by omega))
    simp only [Option.some.injEq, Addr.mk.injEq, and_true] at ea
    obtain ⟨rfl, rfl⟩ := ea
    have HC1 : Hid (TensL w (.slice (some ⟨tb, tO + i * 2, none⟩) 1 (cT - i)) [s]) := HC _ (by omega)
    have z10 : (i : Int) + 1 ≤ cT := by omega
    have z11 : ¬ cT = i := by omega
    have z12 : ¬ (cT : Int) = i := by omega
    have z13 : (i : Int) ≤ (i : Int) + 1 := by omega
    have z15 : (i : Int) ≤ cT := by omega
    have z6 : (0 : Int) ≤ (i : Int) := by omega
    have hcb := HCBw.out
    clear HC
    go_upto_region 13 with fail
    refine dreg13 (s := s) (t := t) hi hi5 hlt hj hTb hcb hr0 hr1 hr2 hr3 HA HU ?_ _ ⟨rfl, rfl, rfl, rfl, rfl, rfl, rfl⟩
    intro a7 w7 q hf7 h7 hL7 hb7
    obtain ⟨G7, hg7, e7⟩ := act125 a7 hf7.d hf7.s
    obtain ⟨hz1, hz2, g1, g3, g4, g5, g6⟩ := hf7
    rw [hg7] at g1 g3 g4 g5 g6 h7
    clear hz1 hz2
    subst e7
    clear hg7
    rw [g1, g3, g4, g5, g6, h7]
    clear g1 g3 g4 g5 g6 h7
    have HL7 : Hid (TensL w7 (.slice (some ⟨q, 0, none⟩) 2 2) [s, t]) := hL7
    have HB7 : Hid (Below w.heap.size w w7) := hb7
    clear hb7 hL7 hcb hr0 hr1 hr2 hr3
    go_wp2
    refine dloop4 (W := w7) (L1 := [s]) (L2 := [s, t]) h4 h17 hlt hDb ⟨HC1.out.later HB7.out, by simp⟩ ⟨HL7.out, by simp⟩ (cell_later HB7.out HCDw.out) (HDSw.out.later HB7.out) ?_ _ _ ⟨rfl, rfl, rfl, rfl, rfl, rfl, rfl, rfl, rfl⟩ (Below.refl _ _)
    intro a9 w9 y9 hf9 hb9
    obtain ⟨G9, hg9, e9⟩ := act125 a9 hf9.d hf9.s
    obtain ⟨hz1, hz2, g1, g3, g4, g5, g6, g7, g8⟩ := hf9
    rw [hg9] at g1 g3 g4 g5
    clear hz1 hz2 g6 g7 g8
    subst e9
    clear hg9
    rw [g1, g3, g4, g5]
    clear g1 g3 g4 g5
    have HBZ : Hid (Below W.heap.size W w9) := Below.after HB.out (Below.after HB7.out hb9)
    clear hb9
    go_wp2
    refine ⟨⟨⟨n + 1, by omega, rfl, rfl, rfl, rfl, rfl, ?_⟩, HBZ.out⟩, ?_⟩
    · show Value.int .i64 _ = _
      go_num
    · show 4 - (intOf (Value.int .i64 _)).toNat < 4 - (intOf (Value.int .i64 _)).toNat
      simp [intOf]
      omega
  · go_wp2
    exact HEX.out _ _ n ⟨rfl, rfl, rfl, rfl, rfl, rfl⟩ HB.out
set_option maxRecDepth 1000000 in
set_option maxHeartbeats 16000000 in
theorem dloop2 {B kd nT cT nD cD : Nat} {pT pD : Option Addr} {T : List Ten} {ds : List (List Int)} {W : World} {Q : Exit → Act → World → Prop}
    (h4 : 4 ≤ kd) (h17 : kd ≤ 17) (hcT : nT ≤ cT) (hTb : nT ≤ 17592186044416) (hDb : nD ≤ 17592186044416) (HTS : Hid (TensL W (.slice pT nT cT) T)) (HCB : Hid (W.cell? ⟨B, 0, none⟩ = some (.slice pT nT cT))) (HCD : Hid (W.cell? ⟨B, 2, none⟩ = some (.slice pD nD cD))) (HDS : Hid (IntsL W (.slice pD nD cD) ds))
    (hexit : ∀ a' w' i, FrD2 B kd i a' → Below W.heap.size W w' → Q (.exit 2) a' w')
    (a : Act) (w : World) (ha : FrD2 B kd 0 a) (hb : Below W.heap.size W w) :
    Code.wp Try.prog (.loop (((Try.f3.body.map loopsIn).getD []).getD 1 .skip)) Q a w := by
  refine wp_loop (fun a' w' => (∃ i : Nat, i ≤ 5 ∧ FrD2 B kd i a') ∧ Below W.heap.size W w') (fun a' _ => 5 - slotNat a' 4) ⟨⟨0, by omega, ha⟩, hb⟩ ?_
  clear ha hb
  clear a w
  intro a w ⟨⟨i, hi5, hf⟩, hb⟩
  obtain ⟨G, hg, e⟩ := act125 a hf.d hf.s
  obtain ⟨hz1, hz2, g1, g3, g4⟩ := hf
  rw [hg] at g1 g3 g4 
  clear hz1 hz2
  subst e
  clear hg
  rw [g1, g3, g4]
  clear g1 g3 g4 
  have HEX : Hid (∀ a' w' i, FrD2 B kd i a' → Below W.heap.size W w' → Q (.exit 2) a' w') := hexit
  have HB : Hid (Below W.heap.size W w) := hb
  have HTSw : Hid (TensL w (.slice pT nT cT) T) := HTS.out.later hb
  have HCBw : Hid (w.cell? ⟨B, 0, none⟩ = some (.slice pT nT cT)) := cell_later hb HCB.out
  have HCDw : Hid (w.cell? ⟨B, 2, none⟩ = some (.slice pD nD cD)) := cell_later hb HCD.out
  have HDSw : Hid (IntsL w (.slice pD nD cD) ds) := HDS.out.later hb
  clear hexit hb HTS HCB HCD HDS
  have hcb := HCBw.out
  conv => arg 2; whnf
  by_cases hlt : i < nT
  · by_cases hlt5 : i < 5
    · obtain ⟨tb, tO, s, fa, fn, fc, ga, gn, gc, ea, _, _, _, _⟩ := HTSw.out.rowN i hlt
      subst ea
      have hg5 : decide ((i : Int) < 5) = true := by simp; omega
      go_wp2
      refine dloop3 (W := w) h4 h17 hlt hlt5 hcT hTb hDb HTSw.out HCBw.out HCDw.out HDSw.out ?_ _ _ ⟨rfl, rfl, rfl, rfl, rfl, rfl⟩ (Below.refl _ _)
      intro a9 w9 y9 hf9 hb9
      obtain ⟨G9, hg9, e9⟩ := act125 a9 hf9.d hf9.s
      obtain ⟨hz1, hz2, g1, g3, g4, g5⟩ := hf9
      rw [hg9] at g1 g3 g4
      clear hz1 hz2 g5
      subst e9
      clear hg9
      rw [g1, g3, g4]
      clear g1 g3 g4
      have HBZ : Hid (Below W.heap.size W w9) := Below.after HB.out hb9
      clear hb9 hcb
      go_wp2
      refine ⟨⟨⟨i + 1, by omega, rfl, rfl, rfl, rfl, ?_⟩, HBZ.out⟩, ?_⟩
      · show Value.int .i64 _ = _
        go_num
      · show 5 - (intOf (Value.int .i64 _)).toNat < 5 - (intOf (Value.int .i64 _)).toNat
        simp [intOf]
        omega
    · have hg5 : decide ((i : Int) < 5) = false := by simp; omega
      go_wp2
      exact HEX.out _ _ i ⟨rfl, rfl, rfl, rfl, rfl⟩ HB.out
  · go_wp2
    exact HEX.out _ _ i ⟨rfl, rfl, rfl, rfl, rfl⟩ HB.out
set_option maxRecDepth 1000000 in
set_option maxHeartbeats 16000000 in
theorem dloop1 {B nT cT nD cD : Nat} {pT pD : Option Addr} {T : List Ten} {ds : List (List Int)} {W : World} {Q : Exit → Act → World → Prop}
    (hcT : nT ≤ cT) (hTb : nT ≤ 17592186044416) (hDb : nD ≤ 17592186044416) (HTS : Hid (TensL W (.slice pT nT cT) T)) (HCB : Hid (W.cell? ⟨B, 0, none⟩ = some (.slice pT nT cT))) (HCD : Hid (W.cell? ⟨B, 2, none⟩ = some (.slice pD nD cD))) (HDS : Hid (IntsL W (.slice pD nD cD) ds))
    (hexit : ∀ a' w' kd, FrD1 B kd a' → Below W.heap.size W w' → Q (.exit 0) a' w')
    (a : Act) (w : World) (ha : FrD1 B 4 a) (hb : Below W.heap.size W w) :
    Code.wp Try.prog (.loop (((Try.f3.body.map loopsIn).getD []).getD 0 .skip)) Q a w := by
  refine wp_loop (fun a' w' => (∃ kd : Nat, (4 ≤ kd ∧ kd ≤ 18) ∧ FrD1 B kd a') ∧ Below W.heap.size W w') (fun a' _ => 18 - slotNat a' 3) ⟨⟨4, by omega, ha⟩, hb⟩ ?_
  clear ha hb
  clear a w
  intro a w ⟨⟨kd, ⟨h4, h18⟩, hf⟩, hb⟩
  obtain ⟨G, hg, e⟩ := act125 a hf.d hf.s
  obtain ⟨hz1, hz2, g1, g3⟩ := hf
  rw [hg] at g1 g3 
  clear hz1 hz2
  subst e
  clear hg
  rw [g1, g3]
  clear g1 g3 
  have HEX : Hid (∀ a' w' kd, FrD1 B kd a' → Below W.heap.size W w' → Q (.exit 0) a' w') := hexit
  have HB : Hid (Below W.heap.size W w) := hb
  have HTSw : Hid (TensL w (.slice pT nT cT) T) := HTS.out.later hb
  have HCBw : Hid (w.cell? ⟨B, 0, none⟩ = some (.slice pT nT cT)) := cell_later hb HCB.out
  have HCDw : Hid (w.cell? ⟨B, 2, none⟩ = some (.slice pD nD cD)) := cell_later hb HCD.out
  have HDSw : Hid (IntsL w (.slice pD nD cD) ds) := HDS.out.later hb
  clear hexit hb HTS HCB HCD HDS
  conv => arg 2; whnf
  by_cases hlt : kd ≤ 17
  · have hle : (kd : Int) ≤ 17 := by omega
    go_wp2
    refine dloop2 (W := w) h4 hlt hcT hTb hDb HTSw.out HCBw.out HCDw.out HDSw.out ?_ _ _ ⟨rfl, rfl, rfl, rfl, rfl⟩ (Below.refl _ _)
    intro a9 w9 y9 hf9 hb9
    obtain ⟨G9, hg9, e9⟩ := act125 a9 hf9.d hf9.s
    obtain ⟨hz1, hz2, g1, g3, g4⟩ := hf9
    rw [hg9] at g1 g3
    clear hz1 hz2 g4
    subst e9
    clear hg9
    rw [g1, g3]
    clear g1 g3
    have HBZ : Hid (Below W.heap.size W w9) := Below.after HB.out hb9
    clear hb9
    go_wp2
    refine ⟨⟨⟨kd + 1, by omega, rfl, rfl, rfl, ?_⟩, HBZ.out⟩, ?_⟩
    · show Value.int .i64 _ = _
      go_num
    · show 18 - (intOf (Value.int .i64 _)).toNat < 18 - (intOf (Value.int .i64 _)).toNat
      simp [intOf]
      omega
  · have hle : ¬ (kd : Int) ≤ 17 := by omega
    go_wp2
    exact HEX.out _ _ kd ⟨rfl, rfl, rfl, rfl⟩ HB.out
end Go.Proofs.Ytheddpjaihhbdaa
