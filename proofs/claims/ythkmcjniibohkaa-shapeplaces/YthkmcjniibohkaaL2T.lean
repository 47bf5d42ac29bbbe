/- ShapePlaces, dims that may be: its loop over places. -/
import Derived.Test.YthkmcjniibohkaaAct
namespace Go.Proofs.Ythkmcjniibohkaa
set_option linter.unusedVariables false
set_option linter.unusedSimpArgs false
open Go.RowKit

structure Fr3 (B g gcap n q k : Nat) (vd vl : Value) (m : Int) (x y : Int) (a : Act) : Prop where
  fr : Fr B g gcap n q vd vl true 0 m a
  f14 : a.tmps.getD 14 undef = .int .i64 k
  f15 : a.tmps.getD 15 undef = .int .i64 x
  f16 : a.tmps.getD 16 undef = .int .i64 y
  f17 : a.tmps.getD 17 undef = .int .i64 1
  f18 : a.tmps.getD 18 undef = .int .i64 0

set_option maxRecDepth 1000000 in
set_option maxHeartbeats 4000000 in
theorem loop3T {B g gcap q k c1 pb pof yc dc db dof : Nat} {x y : Int} {ya : Option Addr} {vl : Value} {n : Nat} {m : Int} {P : List (List Int)} {d p : List Int} {W : World} {Q : Exit → Act → World → Prop}
    (hP : P.length ≤ 17592186044416) (hcP : P.length ≤ c1) (hk : k < P.length) (HO : Hid (okd d = true)) (HL : Hid (p.length = d.length)) (hdc : d.length ≤ dc) (hpc : p.length ≤ yc) (hpl : p.length ≤ 3)
    (H1 : Hid (W.cell? ⟨B, 1, none⟩ = some (.slice (some ⟨pb, pof, none⟩) P.length c1)))
    (H2 : Hid (W.cell? ⟨pb, pof + k, none⟩ = some (.slice ya p.length yc))) (HY : Hid (Ints W (.slice ya p.length yc) p))
    (HDC : Hid (∀ i (h : i < d.length), W.cell? ⟨db, dof + i, none⟩ = some (.int .i64 d[i])))
    (hexit : ∀ a' w', Fr3 B g gcap n q k (.slice (some ⟨db, dof, none⟩) d.length dc) vl m x y a' → a'.tmps.getD 19 undef = .bool (pok d p) → Below W.heap.size W w' → Q (.exit 4) a' w')
    (a : Act) (w : World) (ha : Fr3 B g gcap n q k (.slice (some ⟨db, dof, none⟩) d.length dc) vl m x y a) (hs : a.tmps.getD 19 undef = .bool true) (ht : a.tmps.getD 20 undef = .int .i64 0) (hb : Below W.heap.size W w) :
    Code.wp Try.prog (.loop (((Try.f3.body.map loopsIn).getD []).getD 2 .skip)) Q a w := by
  refine wp_loop (fun a' w' => Fr3 B g gcap n q k (.slice (some ⟨db, dof, none⟩) d.length dc) vl m x y a' ∧ (∃ j : Nat, j ≤ d.length ∧ a'.tmps.getD 19 undef = .bool (pinTo d p j) ∧ a'.tmps.getD 20 undef = .int .i64 j) ∧ Below W.heap.size W w') (fun a' _ => d.length - slotNat a' 20) ⟨ha, ⟨0, by omega, hs, ht⟩, hb⟩ ?_
  clear hs ht ha hb
  clear a w
  intro a w ⟨hf, ⟨j, hj, hs, ht⟩, hb⟩
  obtain ⟨G, hg, e⟩ := act371 a hf.fr.d hf.fr.s
  obtain ⟨⟨hz1, hz2, g1, g3, g4, g5, g6, g9, g11, g12⟩, g14, g15, g16, g17, g18⟩ := hf
  rw [hg] at g1 g3 g4 g5 g6 g9 g11 g12 g14 g15 g16 g17 g18 hs ht
  clear hz1 hz2
  subst e
  clear hg
  rw [g1, g3, g4, g5, g6, g9, g11, g12, g14, g15, g16, g17, g18, hs, ht]
  have HEX : Hid (∀ a' w', Fr3 B g gcap n q k (.slice (some ⟨db, dof, none⟩) d.length dc) vl m x y a' → a'.tmps.getD 19 undef = .bool (pok d p) → Below W.heap.size W w' → Q (.exit 4) a' w') := hexit
  have HB : Hid (Below W.heap.size W w) := hb
  have h1 := cell_later hb H1.out
  have h2 := cell_later hb H2.out
  clear hexit hb g1 g3 g4 g5 g6 g9 g11 g12 g14 g15 g16 g17 g18 hs ht
  conv => arg 2; whnf
  by_cases hlt : j < d.length
  · cases hpi : pinTo d p j with
    | true =>
      have HPI : Hid (pinTo d p j = true) := hpi
      have hltp : j < p.length := by have := HL.out; omega
      obtain ⟨yb, yof, rfl, _, hyc⟩ := HY.out.row (by omega)
      have h3 := cell_later HB.out (hyc.out j hltp)
      have h4 := cell_later HB.out (HDC.out j hlt)
      obtain ⟨g1, g2⟩ := inr_mem (okd_parts HO.out).2.2.1 (List.getElem_mem hlt)
      have hwr : IntKind.i64.wrap (d[j] - 1) = d[j] - 1 := wrap_small _ (by omega) (by omega)
      have HNB : Hid ((decide (0 ≤ p[j]) && decide (p[j] ≤ d[j] - 1)) = pin d p j) := by
        show _ = _
        rw [pin, show p.getD j 0 = p[j] by simp [hltp], show d.getD j 0 = d[j] by simp [hlt]]
        congr 1
        by_cases e : p[j] < d[j]
        · simp [e]; omega
        · simp [e]; omega
      have HNX : Hid (pinTo d p (j + 1) = pin d p j) := by show _ = _; rw [pinTo_succ, hpi]; rfl
      clear hpi hyc
      go_wp2
      go_quiet ((go_at_call 18; exact quiet_eq (numb_to _ _ _ _ HNB.out)))
      go_wp2
      refine ⟨⟨⟨⟨rfl, rfl, rfl, rfl, rfl, rfl, rfl, rfl, rfl, rfl⟩, rfl, rfl, rfl, rfl, rfl⟩, ⟨j + 1, by omega, ?_, ?_⟩, Below.drewN HB.out _⟩, ?_⟩
      · rw [HNX.out]; rfl
      · show Value.int .i64 _ = _
        go_num
      · show d.length - (intOf (Value.int .i64 _)).toNat < d.length - (intOf (Value.int .i64 _)).toNat
        simp [intOf]
        omega
    | false =>
      have HPI : Hid (pok d p = false) := pinTo_no hj hpi
      clear hpi
      go_wp2
      exact HEX.out _ _ ⟨⟨rfl, rfl, rfl, rfl, rfl, rfl, rfl, rfl, rfl, rfl⟩, rfl, rfl, rfl, rfl, rfl⟩ (by rw [HPI.out]; rfl) HB.out
  · have hj' : j = d.length := by omega
    have HPI : Hid (pinTo d p j = pok d p) := by show _ = _; rw [hj']; exact pinTo_pok HL.out
    clear hj'
    go_wp2
    exact HEX.out _ _ ⟨⟨rfl, rfl, rfl, rfl, rfl, rfl, rfl, rfl, rfl, rfl⟩, rfl, rfl, rfl, rfl, rfl⟩ (by rw [← HPI.out]; rfl) HB.out

set_option maxRecDepth 1000000 in
set_option maxHeartbeats 4000000 in
theorem loop2T {B g gcap q c0 c1 c3 : Nat} {f3 vd vl : Value} {a0 a1 : Option Addr} {D P : List (List Int)} {T : List (List Int × List Int)} {N d : List Int} {W : World} {Q : Exit → Act → World → Prop}
    (hD : D.length ≤ 17592186044416) (hcD : D.length ≤ c0) (hP : P.length ≤ 17592186044416) (hcP : P.length ≤ c1) (hN : N.length ≤ 17592186043904) (hgc : 6 + N.length ≤ gcap)
    (HE : Hid (Env B g (.slice a0 D.length c0) (.slice a1 P.length c1) f3 D P T (six ++ N) W)) (HV : Hid (Ints W vd d)) (HO : Hid (okd d = true)) {m : Nat} (HM : Hid (prd d = m)) (hm1 : 1 ≤ m) (hm2 : m ≤ 64)
    (hexit : ∀ a' w', Fr B g gcap (6 + N.length) q vd vl true 0 m a' → Below W.heap.size W w' → Q (.exit 2) a' w')
    (a : Act) (w : World) (ha : Fr B g gcap (6 + N.length) q vd vl true 0 m a) (hs : a.tmps.getD 14 undef = .int .i64 0) (hb : Below W.heap.size W w) :
    Code.wp Try.prog (.loop (((Try.f3.body.map loopsIn).getD []).getD 1 .skip)) Q a w := by
  refine wp_loop (fun a' w' => Fr B g gcap (6 + N.length) q vd vl true 0 m a' ∧ (∃ k : Nat, k ≤ P.length ∧ k ≤ 6 ∧ a'.tmps.getD 14 undef = .int .i64 k) ∧ Below W.heap.size W w') (fun a' _ => 6 - slotNat a' 14) ⟨ha, ⟨0, by omega, by omega, hs⟩, hb⟩ ?_
  clear hs ha hb
  clear a w
  intro a w ⟨hf, ⟨k, hk, hk6, hs⟩, hb⟩
  obtain ⟨G, hg, e⟩ := act371 a hf.d hf.s
  obtain ⟨hz1, hz2, g1, g3, g4, g5, g6, g9, g11, g12⟩ := hf
  rw [hg] at g1 g3 g4 g5 g6 g9 g11 g12 hs
  clear hz1 hz2
  subst e
  clear hg
  rw [g1, g3, g4, g5, g6, g9, g11, g12, hs]
  have HEX : Hid (∀ a' w', Fr B g gcap (6 + N.length) q vd vl true 0 m a' → Below W.heap.size W w' → Q (.exit 2) a' w') := hexit
  have HB : Hid (Below W.heap.size W w) := hb
  have HEW := HE.out.later hb
  clear hexit hb g1 g3 g4 g5 g6 g9 g11 g12 hs
  conv => arg 2; whnf
  by_cases hlt : k < P.length
  · by_cases hlt6 : k < 6
    · have hb1 := HEW.b1
      obtain ⟨pb, pof, ya, yc, rfl, hcy, HY⟩ := HEW.hP.row k hlt
      have HV1 : Hid (Ints w vd d) := HV.out.later HB.out
      obtain ⟨hl1, hl2, _, _⟩ := okd_parts HO.out
      obtain ⟨da, dc, rfl⟩ := HV1.out.shape
      obtain ⟨db, dof, rfl, hdc, HDC⟩ := HV1.out.row hl1
      have hpl := HY.out.len
      unfold big at hpl
      clear HEW
      by_cases hl : P[k].length = d.length
      · have hle : ((P[k].length : Int) == (d.length : Int)) = true := by simp [hl]
        have HL : Hid (P[k].length = d.length) := hl
        have hyc : P[k].length ≤ yc := by
          obtain ⟨_, _, rfl, h, _⟩ := HY.out.row (by omega)
          exact h
        clear hl
        go_wp2_with fail
        refine (at_ok HV1.out HY.out HO.out).mono ?_
        rintro e w2 ⟨rfl, hb2⟩
        have HB2 : Hid (Below W.heap.size W w2) := Below.after HB.out hb2
        have H12 : Hid _ := cell_later hb2 hb1
        have H22 : Hid _ := cell_later hb2 hcy
        have h12 := H12.out
        have h22 := H22.out
        have HY2 : Hid (Ints w2 (.slice ya P[k].length yc) P[k]) := HY.out.later hb2
        have HV2 : Hid (Ints w2 (.slice (some ⟨db, dof, none⟩) d.length dc) d) := HV1.out.later hb2
        have HDC2 : Hid (∀ i (h : i < d.length), w2.cell? ⟨db, dof + i, none⟩ = some (.int .i64 d[i])) := fun i h => cell_later hb2 (HDC.out i h)
        clear hb2 hb1 hcy HDC
        go_wp2
        refine loop3T (p := P[k]) (W := w2) (vl := vl) hP hcP hlt HO HL hdc hyc (by have := HL.out; omega) H12 H22 HY2 HDC2 ?_ _ _ ⟨⟨rfl, rfl, rfl, rfl, rfl, rfl, rfl, rfl, rfl, rfl⟩, rfl, rfl, rfl, rfl, rfl⟩ rfl rfl (Below.refl _ _)
        intro a3 w3 hf3 hs3 hb3
        obtain ⟨G3, hg3, e3⟩ := act371 a3 hf3.fr.d hf3.fr.s
        obtain ⟨⟨hz1, hz2, g1, g3, g4, g5, g6, g9, g11, g12⟩, g14, g15, g16, g17, g18⟩ := hf3
        rw [hg3] at g1 g3 g4 g5 g6 g9 g11 g12 g14 g15 g16 g17 g18 hs3
        clear hz1 hz2
        subst e3
        clear hg3
        rw [g1, g3, g4, g5, g6, g9, g11, g12, g14, g15, g16, g17, g18, hs3]
        replace h12 := cell_later hb3 h12
        replace h22 := cell_later hb3 h22
        have HY3 : Hid (Ints w3 (.slice ya P[k].length yc) P[k]) := HY2.out.later hb3
        have HV3 : Hid (Ints w3 (.slice (some ⟨db, dof, none⟩) d.length dc) d) := HV2.out.later hb3
        have HB3 : Hid (Below W.heap.size W w3) := Below.after HB2.out hb3
        clear hb3 g1 g3 g4 g5 g6 g9 g11 g12 g14 g15 g16 g17 g18 hs3
        cases hpk : pok d P[k] with
        | true =>
          obtain ⟨e1, e2⟩ := atR_yes HO.out hpk
          have HPK : Hid (pok d P[k] = true) := hpk
          rw [e1, e2]
          clear e1 e2 hpk
          go_wp2_with fail
          refine (rat_ok HV3.out HY3.out HO.out HPK.out).mono ?_
          rintro e w4 ⟨rfl, nn, rfl⟩
          go_wp2_with (go_at_call 14; refine (num_any _ _).mono ?_; rintro e w' ⟨rfl, rfl⟩)
          refine ⟨⟨⟨rfl, rfl, rfl, rfl, rfl, rfl, rfl, rfl, rfl, rfl⟩, ⟨k + 1, by omega, by omega, ?_⟩, Below.drewN HB3.out _⟩, ?_⟩
          · show Value.int .i64 _ = _
            go_num
          · show 6 - (intOf (Value.int .i64 _)).toNat < 6 - (intOf (Value.int .i64 _)).toNat
            simp [intOf]
            omega
        | false =>
          obtain ⟨e1, e2⟩ := atR_no hpk
          rw [e1, e2]
          clear e1 e2 hpk
          go_wp2_with (go_at_call 14; refine (num_any _ _).mono ?_; rintro e w' ⟨rfl, rfl⟩)
          refine ⟨⟨⟨rfl, rfl, rfl, rfl, rfl, rfl, rfl, rfl, rfl, rfl⟩, ⟨k + 1, by omega, by omega, ?_⟩, HB3.out⟩, ?_⟩
          · show Value.int .i64 _ = _
            go_num
          · show 6 - (intOf (Value.int .i64 _)).toNat < 6 - (intOf (Value.int .i64 _)).toNat
            simp [intOf]
            omega
      · have hle : ((P[k].length : Int) == (d.length : Int)) = false := by simp; omega
        have hpk : pok d P[k] = false := by
          cases e : pok d P[k] with
          | false => rfl
          | true => exact absurd (pok_len e) hl
        have E12 : Hid (atR d P[k] = 0 ∧ atE d P[k] = 1) := atR_no hpk
        clear hl hpk
        go_wp2_with fail
        refine (at_ok HV1.out HY.out HO.out).mono ?_
        rw [E12.out.1, E12.out.2]
        rintro e w2 ⟨rfl, hb2⟩
        have HB2 : Hid (Below W.heap.size W w2) := Below.after HB.out hb2
        have h12 := cell_later hb2 hb1
        have h22 := cell_later hb2 hcy
        clear hb2 hb1 hcy HDC E12
        go_wp2
        refine wp_loop_rounds 1 ?_
        rw [rounds_succ]
        go_wp2_with (go_at_call 14; refine (num_any _ _).mono ?_; rintro e w' ⟨rfl, rfl⟩)
        refine ⟨⟨⟨rfl, rfl, rfl, rfl, rfl, rfl, rfl, rfl, rfl, rfl⟩, ⟨k + 1, by omega, by omega, ?_⟩, HB2.out⟩, ?_⟩
        · show Value.int .i64 _ = _
          go_num
        · show 6 - (intOf (Value.int .i64 _)).toNat < 6 - (intOf (Value.int .i64 _)).toNat
          simp [intOf]
          omega
    · have hb1 := HEW.b1
      clear HEW
      go_wp2
      exact HEX.out _ _ ⟨rfl, rfl, rfl, rfl, rfl, rfl, rfl, rfl, rfl, rfl⟩ HB.out
  · have hb1 := HEW.b1
    clear HEW
    go_wp2
    exact HEX.out _ _ ⟨rfl, rfl, rfl, rfl, rfl, rfl, rfl, rfl, rfl, rfl⟩ HB.out

end Go.Proofs.Ythkmcjniibohkaa
