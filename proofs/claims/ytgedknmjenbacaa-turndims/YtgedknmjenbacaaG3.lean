/- TurnDims: its inner loop. -/
import Derived.Test.YtgedknmjenbacaaG2
namespace Go.Proofs.Ytgedknmjenbacaa
set_option linter.unusedVariables false
set_option linter.unusedSimpArgs false
open Go.RowKit

theorem Tens.set2 {w : World} {p : Nat} {x y : Value} {t : Ten} (h : Tens w x y t) (u v : Value) (hn : ∀ j, (x.ownBlock = some j ∨ y.ownBlock = some j) → j ≠ p) : Tens ((w.setCell ⟨p, 0, none⟩ u).setCell ⟨p, 1, none⟩ v) x y t :=
  ⟨(h.1.setCell _ _ (fun k hk => hn k (Or.inl hk))).setCell _ _ (fun k hk => hn k (Or.inl hk)), (h.2.setCell _ _ (fun k hk => hn k (Or.inr hk))).setCell _ _ (fun k hk => hn k (Or.inr hk))⟩
theorem rwider_bl {v v' : Value} {a b : List Int} {w : World} (x : Bool) (ha : Ints w v a) (hb : Ints w v' b) (hx : wid a b = x) :
    Calls Try.prog 21 #[v, v'] w fun e w' => e = .returned (.bool x) ∧ Below w.heap.size w w' := by
  subst hx
  refine (rwider_any ha hb).mono ?_
  rintro e w' ⟨rfl, n, rfl⟩
  exact ⟨rfl, drew_below n⟩

set_option maxRecDepth 1000000 in
set_option maxHeartbeats 16000000 in
theorem gloop2 {B i Ba n c tb tof c0 lT : Nat} {may : Bool} {da : Option Addr} {p0 p1 xi yi : Value} {t : Ten} {L : List (List Int)} {W : World} {Q : Exit → Act → World → Prop}
    (hi : i < lT) (hlT : lT ≤ c0) (hT0 : lT ≤ 17592186044416) (hn20 : n ≤ 20) (HMay : Hid (tok t = may))
    (HE : Hid (TB W Ba p0 p1 t ∧ IntsL W (.slice da n c) L ∧ Tens W xi yi t ∧ W.cell? ⟨B, 0, none⟩ = some (.slice (some ⟨tb, tof, none⟩) lT c0) ∧ W.cell? ⟨tb, tof + i * 2, none⟩ = some xi ∧ W.cell? ⟨tb, tof + i * 2 + 1, none⟩ = some yi))
    (hexit : ∀ a' w', FrH B i Ba may (.slice da n c) a' → Below W.heap.size W w' → Q (.exit 2) a' w')
    (a : Act) (w : World) (ha : FrH B i Ba may (.slice da n c) a) (hs : a.tmps.getD 11 undef = .int .i64 0) (hb : Below W.heap.size W w) :
    Code.wp Try.prog (.loop (((Try.f3.body.map loopsIn).getD []).getD 1 .skip)) Q a w := by
  refine wp_loop (fun a' w' => FrH B i Ba may (.slice da n c) a' ∧ (∃ k : Nat, k ≤ n ∧ a'.tmps.getD 11 undef = .int .i64 k) ∧ Below W.heap.size W w') (fun a' _ => n - slotNat a' 11) ⟨ha, ⟨0, by omega, hs⟩, hb⟩ ?_
  clear hs ha hb
  clear a w
  intro a w ⟨hf, ⟨k, hk, hs⟩, hb⟩
  obtain ⟨G, hg, e⟩ := act212 a hf.d hf.s
  obtain ⟨hz1, hz2, g1, g3, g4, g5, g10⟩ := hf
  rw [hg] at g1 g3 g4 g5 g10 hs
  clear hz1 hz2
  subst e
  clear hg
  rw [g1, g3, g4, g5, g10, hs]
  have HEX : Hid (∀ a' w', FrH B i Ba may (.slice da n c) a' → Below W.heap.size W w' → Q (.exit 2) a' w') := hexit
  have HB : Hid (Below W.heap.size W w) := hb
  have HTB : Hid (TB w Ba p0 p1 t) := HE.out.1.later hb
  have HLS : Hid (IntsL w (.slice da n c) L) := HE.out.2.1.later hb
  have HTI : Hid (Tens w xi yi t) := HE.out.2.2.1.later hb
  have HC0 : Hid (w.cell? ⟨B, 0, none⟩ = some (.slice (some ⟨tb, tof, none⟩) lT c0) ∧ w.cell? ⟨tb, tof + i * 2, none⟩ = some xi ∧ w.cell? ⟨tb, tof + i * 2 + 1, none⟩ = some yi) := ⟨cell_later hb HE.out.2.2.2.1, cell_later hb HE.out.2.2.2.2.1, cell_later hb HE.out.2.2.2.2.2⟩
  obtain ⟨hnL, hnc⟩ := HE.out.2.1.len
  have HNL : Hid (n = L.length) := hnL
  clear hexit hb hnL g1 g3 g4 g5 g10 hs
  conv => arg 2; whnf
  by_cases hlt : k < n
  · obtain ⟨db, dof, xa, xn, xc, rfl, hr, HX⟩ := HLS.out.row k (by have := HNL.out; omega)
    obtain ⟨d, hd⟩ : ∃ d, L[k]'(by have := HNL.out; omega) = d := ⟨_, rfl⟩
    rw [hd] at HX
    clear hd
    obtain ⟨aa, an, ac, rfl⟩ := HTB.out.ten.1.shape3
    obtain ⟨m, hm⟩ : ∃ m, t.2.length = m := ⟨_, rfl⟩
    have HML : Hid (t.2.length = m) := hm
    obtain ⟨ba, bc, eb⟩ := HTB.out.ten.2.shape
    rw [hm] at eb
    subst eb
    clear hm
    have HC : Hid (w.cell? ⟨B, 0, none⟩ = some (.slice (some ⟨tb, tof, none⟩) lT c0) ∧ w.cell? ⟨tb, tof + i * 2, none⟩ = some xi ∧ w.cell? ⟨tb, tof + i * 2 + 1, none⟩ = some yi ∧ w.cell? ⟨db, dof + k, none⟩ = some (.slice xa xn xc)) := ⟨HC0.out.1, HC0.out.2.1, HC0.out.2.2, hr⟩
    obtain ⟨x1, hx1⟩ : ∃ x, shE t d = x := ⟨_, rfl⟩
    obtain ⟨x2, hx2⟩ : ∃ x, wiE t d = x := ⟨_, rfl⟩
    obtain ⟨x3, hx3⟩ : ∃ x, suE t d = x := ⟨_, rfl⟩
    have HX1' : Hid (shE t d = x1) := hx1
    have HX2' : Hid (wiE t d = x2) := hx2
    have HX3' : Hid (suE t d = x3) := hx3
    clear hx1 hx2 hx3 HC0
    go_wp2_with fail
    refine (copy_Own HX.out).mono ?_
    rintro e w1 ⟨dv, rfl, ho, hb1⟩
    obtain ⟨dva, dn, dc, rfl⟩ := ho.ints.shape3
    have HD1 : Hid (Ints w1 (.slice dva dn dc) d) := ho.ints
    have HT1 : Hid (TB w1 Ba (.slice aa an ac) (.slice ba m bc) t) := HTB.out.later hb1
    have HB1 : Hid (Below w.heap.size w w1) := hb1
    clear ho hb1 hr
    have c1 := HT1.out.box.c0
    have c2 := HT1.out.box.c1
    go_wp2_with fail
    refine (shape_to x1 (shR t d) HT1.out.ten HD1.out HX1'.out rfl).mono ?_
    rintro e w2 ⟨x, y, rfl, ho, hb2⟩
    obtain ⟨sa, sn, sc, rfl⟩ := ho.dims.ints.shape3
    obtain ⟨ra, rn, rc, rfl⟩ := ho.data.ints.shape3
    have hp2 := Below.push hb2 (.cells #[.slice sa sn sc, .slice ra rn rc] 31)
    have HW2 : Hid (Wr (w2.alloc (.cells #[.slice sa sn sc, .slice ra rn rc] 31)) w1.heap.size (.slice sa sn sc) ∧ Wr (w2.alloc (.cells #[.slice sa sn sc, .slice ra rn rc] 31)) w1.heap.size (.slice ra rn rc)) := ⟨ho.dims.wr.alloc _, ho.data.wr.alloc _⟩
    have HL2 : Hid (Live (w2.alloc (.cells #[.slice sa sn sc, .slice ra rn rc] 31)) [(w2.heap.size, .slice sa sn sc, .slice ra rn rc, shR t d), (Ba, .slice aa an ac, .slice ba m bc, t)]) := Live.push (L := [(Ba, .slice aa an ac, .slice ba m bc, t)]) ⟨HT1.out.later hb2, trivial⟩ ho.tens
    have HB2 : Hid (Below w1.heap.size w1 (w2.alloc (.cells #[.slice sa sn sc, .slice ra rn rc] 31))) := hp2
    clear ho hb2 hp2 c1 c2
    have c1 := HL2.out.2.1.box.c0
    have c2 := HL2.out.2.1.box.c1
    go_wp2_with fail
    refine (wide_to x2 (wiR t d) HL2.out.2.1.ten (HD1.out.later HB2.out) HX2'.out rfl).mono ?_
    rintro e w3 ⟨x, y, rfl, ho, hb3⟩
    obtain ⟨ea, en, ec, rfl⟩ := ho.dims.ints.shape3
    obtain ⟨fa, fn, fc, rfl⟩ := ho.data.ints.shape3
    have hp3 := Below.push hb3 (.cells #[.slice ea en ec, .slice fa fn fc] 31)
    have hs3 := HB2.out.size
    have HX3 : Hid ((Value.slice sa sn sc).ownBlock ≠ some w3.heap.size ∧ (Value.slice ra rn rc).ownBlock ≠ some w3.heap.size) := ⟨fun e => absurd ((HW2.out.1.later hb3).lt _ e) (Nat.lt_irrefl _), fun e => absurd ((HW2.out.2.later hb3).lt _ e) (Nat.lt_irrefl _)⟩
    have HW3 : Hid ((Wr (w3.alloc (.cells #[.slice ea en ec, .slice fa fn fc] 31)) w1.heap.size (.slice sa sn sc) ∧ Wr (w3.alloc (.cells #[.slice ea en ec, .slice fa fn fc] 31)) w1.heap.size (.slice ra rn rc)) ∧ Wr (w3.alloc (.cells #[.slice ea en ec, .slice fa fn fc] 31)) w1.heap.size (.slice ea en ec) ∧ Wr (w3.alloc (.cells #[.slice ea en ec, .slice fa fn fc] 31)) w1.heap.size (.slice fa fn fc)) := ⟨⟨HW2.out.1.later hp3, HW2.out.2.later hp3⟩, (ho.dims.wr.alloc _).mono hs3, (ho.data.wr.alloc _).mono hs3⟩
    have HL3 : Hid (Live (w3.alloc (.cells #[.slice ea en ec, .slice fa fn fc] 31)) _) := (HL2.out.later hb3).push ho.tens
    have HB3 : Hid (Below w1.heap.size w1 (w3.alloc (.cells #[.slice ea en ec, .slice fa fn fc] 31))) := Below.after HB2.out hp3
    clear ho hb3 hp3 hs3 HL2 HB2 HW2 c1 c2
    have c1 := HL3.out.2.2.1.box.c0
    have c2 := HL3.out.2.2.1.box.c1
    go_wp2_with fail
    refine (sumd_to x3 (suR t d) HL3.out.2.2.1.ten (HD1.out.later HB3.out) HX3'.out rfl).mono ?_
    rintro e w4 ⟨x, y, rfl, ho, hb4⟩
    obtain ⟨ua, un, uc, rfl⟩ := ho.dims.ints.shape3
    obtain ⟨va, vn, vc, rfl⟩ := ho.data.ints.shape3
    have hp4 := Below.push hb4 (.cells #[.slice ua un uc, .slice va vn vc] 31)
    have hs4 := HB3.out.size
    have HX4 : Hid (((Value.slice sa sn sc).ownBlock ≠ some w4.heap.size ∧ (Value.slice ra rn rc).ownBlock ≠ some w4.heap.size) ∧ (Value.slice ea en ec).ownBlock ≠ some w4.heap.size ∧ (Value.slice fa fn fc).ownBlock ≠ some w4.heap.size) := ⟨⟨fun e => absurd ((HW3.out.1.1.later hb4).lt _ e) (Nat.lt_irrefl _), fun e => absurd ((HW3.out.1.2.later hb4).lt _ e) (Nat.lt_irrefl _)⟩, fun e => absurd ((HW3.out.2.1.later hb4).lt _ e) (Nat.lt_irrefl _), fun e => absurd ((HW3.out.2.2.later hb4).lt _ e) (Nat.lt_irrefl _)⟩
    have HW4 : Hid ((Wr (w4.alloc (.cells #[.slice ua un uc, .slice va vn vc] 31)) w1.heap.size (.slice sa sn sc) ∧ Wr (w4.alloc (.cells #[.slice ua un uc, .slice va vn vc] 31)) w1.heap.size (.slice ra rn rc)) ∧ (Wr (w4.alloc (.cells #[.slice ua un uc, .slice va vn vc] 31)) w1.heap.size (.slice ea en ec) ∧ Wr (w4.alloc (.cells #[.slice ua un uc, .slice va vn vc] 31)) w1.heap.size (.slice fa fn fc)) ∧ Wr (w4.alloc (.cells #[.slice ua un uc, .slice va vn vc] 31)) w1.heap.size (.slice ua un uc) ∧ Wr (w4.alloc (.cells #[.slice ua un uc, .slice va vn vc] 31)) w1.heap.size (.slice va vn vc)) := ⟨⟨HW3.out.1.1.later hp4, HW3.out.1.2.later hp4⟩, ⟨HW3.out.2.1.later hp4, HW3.out.2.2.later hp4⟩, (ho.dims.wr.alloc _).mono hs4, (ho.data.wr.alloc _).mono hs4⟩
    have HL4 : Hid (Live (w4.alloc (.cells #[.slice ua un uc, .slice va vn vc] 31)) _) := (HL3.out.later hb4).push ho.tens
    have HB4 : Hid (Below w1.heap.size w1 (w4.alloc (.cells #[.slice ua un uc, .slice va vn vc] 31))) := Below.after HB3.out hp4
    have HD4 : Hid (Ints (w4.alloc (.cells #[.slice ua un uc, .slice va vn vc] 31)) (.slice dva dn dc) d) := HD1.out.later HB4.out
    clear ho hb4 hp4 hs4 HL3 HB3 HW3 c1 c2
    go_upto_region 26 with fail
    generalize (w4.alloc (.cells #[.slice ua un uc, .slice va vn vc] 31)) = V4 at HL4 HB4 HD4 HW4 ⊢
    go_upto_region 28 with fail
    have HV5 : Hid (Live (((V4.alloc (.cells #[.slice none 0 0, .slice none 0 0] 31)).alloc (.cells #[.slice none 0 0, .slice none 0 0] 31)).alloc (.cells #[.slice none 0 0, .slice none 0 0] 31)) [((V4.heap.size + 1 + 1), .slice none 0 0, .slice none 0 0, ([], [])), ((V4.heap.size + 1), .slice none 0 0, .slice none 0 0, ([], [])), (V4.heap.size, .slice none 0 0, .slice none 0 0, ([], []))]) := by
      have h := ((Live.push (w := V4) (L := []) (t := ([], [])) trivial ⟨Ints.nil _, Ints.nil _⟩).push (t := ([], [])) ⟨Ints.nil _, Ints.nil _⟩).push (t := ([], [])) ⟨Ints.nil _, Ints.nil _⟩
      simp only [World.size_alloc] at h
      exact h
    have HVB : Hid (Below V4.heap.size V4 (((V4.alloc (.cells #[.slice none 0 0, .slice none 0 0] 31)).alloc (.cells #[.slice none 0 0, .slice none 0 0] 31)).alloc (.cells #[.slice none 0 0, .slice none 0 0] 31))) := Below.push (Below.push (Below.push (Below.refl _ _) _) _) _
    rename_i K1 hK1 K0 hK0
    have HM : Hid (∀ a' w', FrG B i Ba k w2.heap.size w3.heap.size w4.heap.size V4.heap.size (V4.heap.size + 1) (V4.heap.size + 1 + 1) may (.slice (some ⟨db, dof, none⟩) n c) (.slice dva dn dc) x1 x2 x3 x1 x2 x3 a' → (∃ r0 r1 r2 r3 r4 r5, Live w' [(V4.heap.size, r0, r1, shR t d), ((V4.heap.size + 1), r2, r3, wiR t d), ((V4.heap.size + 1 + 1), r4, r5, suR t d)]) → Below V4.heap.size V4 w' → K1 a' w') := by
      intro a6 w6 hf6 ⟨r0, r1, r2, r3, r4, r5, hl6⟩ hb6
      apply hK1
      clear hK1 hK0 K0 HV5 HVB
      have HL6 : Hid (Live w6 _) := HL4.out.later hb6
      have HB6 : Hid (Below w1.heap.size w1 w6) := Below.after HB4.out hb6
      have HW6 : Hid ((Wr w6 w1.heap.size (.slice sa sn sc) ∧ Wr w6 w1.heap.size (.slice ra rn rc)) ∧ (Wr w6 w1.heap.size (.slice ea en ec) ∧ Wr w6 w1.heap.size (.slice fa fn fc)) ∧ Wr w6 w1.heap.size (.slice ua un uc) ∧ Wr w6 w1.heap.size (.slice va vn vc)) := ⟨⟨HW4.out.1.1.later hb6, HW4.out.1.2.later hb6⟩, ⟨HW4.out.2.1.1.later hb6, HW4.out.2.1.2.later hb6⟩, HW4.out.2.2.1.later hb6, HW4.out.2.2.2.later hb6⟩
      have HP6 : Hid (Live w6 _) := hl6
      have HB06 : Hid (Below w.heap.size w w6) := Below.after HB1.out HB6.out
      clear hl6 hb6 HL4 HB4 HW4
      obtain ⟨G6, hg, e⟩ := act212 a6 hf6.d hf6.s
      obtain ⟨hz1, hz2, g1, g3, g4, g5, g10, g11, g12, g13, g14, g15, g16, g17, g18, g19, g20, g21, g22, g23, g24⟩ := hf6
      rw [hg] at g1 g3 g4 g5 g10 g11 g12 g13 g14 g15 g16 g17 g18 g19 g20 g21 g22 g23 g24
      clear hz1 hz2
      subst e
      clear hg
      rw [g1, g3, g4, g5, g10, g11, g12, g13, g14, g15, g16, g17, g18, g19, g20, g21, g22, g23, g24]
      clear g1 g3 g4 g5 g10 g11 g12 g13 g14 g15 g16 g17 g18 g19 g20 g21 g22 g23 g24
      go_upto_region 36 with fail
      refine greg36 (S := shR t d) (V := wiR t d) (U := suR t d) (t := t) (d := d) hi hlT hT0 hlt hn20 hnc ⟨cell_later HB06.out HC.out.1, cell_later HB06.out HC.out.2.1, cell_later HB06.out HC.out.2.2.1, cell_later HB06.out HC.out.2.2.2⟩ (HTI.out.later HB06.out) (HD1.out.later HB6.out) (HX.out.later HB06.out) ⟨HL6.out.2.2.1, HL6.out.2.1, HL6.out.1, HL6.out.2.2.2.1, HP6.out.1, HP6.out.2.1, HP6.out.2.2.1, trivial⟩ ?_ _ ⟨rfl, rfl, rfl, rfl, rfl, rfl, rfl, rfl, rfl, rfl, rfl, rfl, rfl, rfl, rfl, rfl, rfl, rfl, rfl, rfl, rfl⟩
      intro a7 w7 hf7 h11 h12 h13 h15 h17 h186 hb7
      obtain ⟨G7, hg, e⟩ := act212 a7 hf7.d hf7.s
      obtain ⟨hz1, hz2, g1, g3, g4, g5, g10⟩ := hf7
      rw [hg] at g1 g3 g4 g5 g10 h11 h12 h13 h15 h17 h186
      clear hz1 hz2
      subst e
      clear hg
      rw [g1, g3, g4, g5, g10, h11, h12, h13, h15, h17, h186]
      clear g1 g3 g4 g5 g10 h11 h12 h13 h15 h17 h186
      have hl7 := HL6.out.later hb7
      have c1 := hl7.2.2.1.box.c0
      have c2 := hl7.2.2.1.box.c1
      have HS7 : Hid (w1.heap.size ≤ w7.heap.size) := Nat.le_trans HB6.out.size hb7.size
      have HU7 : Hid ((Wr w7 w1.heap.size (.slice sa sn sc) ∧ Wr w7 w1.heap.size (.slice ra rn rc)) ∧ (Wr w7 w1.heap.size (.slice ea en ec) ∧ Wr w7 w1.heap.size (.slice fa fn fc)) ∧ Wr w7 w1.heap.size (.slice ua un uc) ∧ Wr w7 w1.heap.size (.slice va vn vc)) := ⟨⟨HW6.out.1.1.later hb7, HW6.out.1.2.later hb7⟩, ⟨HW6.out.2.1.1.later hb7, HW6.out.2.1.2.later hb7⟩, HW6.out.2.2.1.later hb7, HW6.out.2.2.2.later hb7⟩
      have HBW : Hid (Box w7 w3.heap.size (.slice ea en ec) (.slice fa fn fc)) := hl7.2.1.box
      have HBU : Hid (Box w7 w4.heap.size (.slice ua un uc) (.slice va vn vc)) := hl7.1.box
      have HB07 : Hid (Below w1.heap.size w1 w7) := Below.after HB6.out hb7
      clear hb7 HP6 HL6 HW6 HB6 HB06 hl7
      go_wp2_with fail
      refine (spoil_wk HU7.out.1.1 HU7.out.1.2 HS7.out).mono ?_
      rintro e w8 ⟨rfl, hb8, hu8, hk8⟩
      have HB08 : Hid (Below w1.heap.size w1 w8) := HB07.out.trans hb8
      have hbw : Box w8 w3.heap.size (.slice ea en ec) (.slice fa fn fc) := (hk8 _ HBW.out.lt HX3.out.1 HX3.out.2).trans HBW.out
      have HBU8 : Hid (Box w8 w4.heap.size (.slice ua un uc) (.slice va vn vc)) := (hk8 _ HBU.out.lt HX4.out.1.1 HX4.out.1.2).trans HBU.out
      have HU8 : Hid ((Wr w8 w1.heap.size (.slice ea en ec) ∧ Wr w8 w1.heap.size (.slice fa fn fc)) ∧ Wr w8 w1.heap.size (.slice ua un uc) ∧ Wr w8 w1.heap.size (.slice va vn vc)) := ⟨⟨hu8 _ HU7.out.2.1.1, hu8 _ HU7.out.2.1.2⟩, hu8 _ HU7.out.2.2.1, hu8 _ HU7.out.2.2.2⟩
      have HS8 : Hid (w1.heap.size ≤ w8.heap.size) := HB08.out.size
      have c1 := hbw.c0
      have c2 := hbw.c1
      clear hb8 hu8 hk8 HBW HBU HU7 HB07 HS7 hbw
      go_wp2_with fail
      refine (spoil_wk HU8.out.1.1 HU8.out.1.2 HS8.out).mono ?_
      rintro e w9 ⟨rfl, hb9, hu9, hk9⟩
      have HB09 : Hid (Below w1.heap.size w1 w9) := HB08.out.trans hb9
      have hbu : Box w9 w4.heap.size (.slice ua un uc) (.slice va vn vc) := (hk9 _ HBU8.out.lt HX4.out.2.1 HX4.out.2.2).trans HBU8.out
      have HU9 : Hid (Wr w9 w1.heap.size (.slice ua un uc) ∧ Wr w9 w1.heap.size (.slice va vn vc)) := ⟨hu9 _ HU8.out.2.1, hu9 _ HU8.out.2.2⟩
      have HS9 : Hid (w1.heap.size ≤ w9.heap.size) := HB09.out.size
      have c1 := hbu.c0
      have c2 := hbu.c1
      clear hb9 hu9 hk9 HBU8 HU8 HB08 HS8 hbu
      go_wp2_with fail
      refine (spoil_wk HU9.out.1 HU9.out.2 HS9.out).mono ?_
      rintro e w10 ⟨rfl, hb10, _, _⟩
      have HB10 : Hid (Below w1.heap.size w1 w10) := HB09.out.trans hb10
      have HB010 : Hid (Below w.heap.size w w10) := Below.after HB1.out HB10.out
      clear hb10 HB09 HU9 HS9 c1 c2
      go_upto_region 41 with fail
      refine greg41 (t := t) (d := d) hi hlT hT0 hlt hn20 hnc ⟨cell_later HB010.out HC.out.1, cell_later HB010.out HC.out.2.1, cell_later HB010.out HC.out.2.2.1, cell_later HB010.out HC.out.2.2.2⟩ (HTI.out.later HB010.out) (HD1.out.later HB10.out) (HX.out.later HB010.out) (HTB.out.later HB010.out) ?_ _ ⟨rfl, rfl, rfl, rfl, rfl, rfl, rfl⟩ rfl rfl
      intro a11 w11 hf11 h11 h210 hb11
      obtain ⟨G11, hg, e⟩ := act212 a11 hf11.d hf11.s
      obtain ⟨hz1, hz2, g1, g3, g4, g5, g10⟩ := hf11
      rw [hg] at g1 g3 g4 g5 g10 h11 h210
      clear hz1 hz2
      subst e
      clear hg
      rw [g1, g3, g4, g5, g10, h11, h210]
      clear g1 g3 g4 g5 g10 h11 h210
      have HBZ : Hid (Below W.heap.size W w11) := Below.after HB.out (Below.after HB010.out hb11)
      clear hb11 HB010 HB10
      go_wp2
      refine ⟨⟨⟨rfl, rfl, rfl, rfl, rfl, rfl, rfl⟩, ⟨k + 1, by omega, ?_⟩, HBZ.out⟩, ?_⟩
      · show Value.int .i64 _ = _
        go_num
      · show n - (intOf (Value.int .i64 _)).toNat < n - (intOf (Value.int .i64 _)).toNat
        simp [intOf]
        omega
    clear hK1
    cases may with
    | false =>
      have H1 : Hid (shE t d = 1) := by show _ = _; simp [shE, HMay.out]
      have H2 : Hid (wiE t d = 1) := by show _ = _; simp [wiE, HMay.out]
      have H3 : Hid (suE t d = 1) := by show _ = _; simp [suE, HMay.out]
      have HR1 : Hid (shR t d = ([], [])) := by show _ = _; rw [shR, H1.out]; rfl
      have HR2 : Hid (wiR t d = ([], [])) := by show _ = _; rw [wiR, H2.out]; rfl
      have HR3 : Hid (suR t d = ([], [])) := by show _ = _; rw [suR, H3.out]; rfl
      obtain rfl : x1 = 1 := HX1'.out.symm.trans H1.out
      obtain rfl : x2 = 1 := HX2'.out.symm.trans H2.out
      obtain rfl : x3 = 1 := HX3'.out.symm.trans H3.out
      go_wp2
      refine HM.out _ _ ⟨rfl, rfl, rfl, rfl, rfl, rfl, rfl, rfl, rfl, rfl, rfl, rfl, rfl, rfl, rfl, rfl, rfl, rfl, rfl, rfl, rfl⟩ ⟨.slice none 0 0, .slice none 0 0, .slice none 0 0, .slice none 0 0, .slice none 0 0, .slice none 0 0, ?_⟩ HVB.out
      rw [HR1.out, HR2.out, HR3.out]
      exact ⟨HV5.out.2.2.1, HV5.out.2.1, HV5.out.1, trivial⟩
    | true =>
      have HT : Hid (tok t = true) := HMay.out
      cases hok : okd d with
      | false =>
        have H1 : Hid (shE t d = 1) := by show _ = _; simp [shE, hok]
        have H2 : Hid (wiE t d = 1) := by show _ = _; simp [wiE, HT.out, wdr, hok]
        have H3 : Hid (suE t d = 1) := by show _ = _; simp [suE, HT.out, wdr, hok]
        have HR1 : Hid (shR t d = ([], [])) := by show _ = _; rw [shR, H1.out]; rfl
        have HR2 : Hid (wiR t d = ([], [])) := by show _ = _; rw [wiR, H2.out]; rfl
        have HR3 : Hid (suR t d = ([], [])) := by show _ = _; rw [suR, H3.out]; rfl
        obtain rfl : x1 = 1 := HX1'.out.symm.trans H1.out
        obtain rfl : x2 = 1 := HX2'.out.symm.trans H2.out
        obtain rfl : x3 = 1 := HX3'.out.symm.trans H3.out
        have HOK : Hid (okd d = false) := hok
        clear hok
        go_wp2_with fail
        refine (rdims_to false (HD4.out.later HVB.out) HOK.out).mono ?_
        rintro e w' ⟨rfl, rfl⟩
        go_wp2
        refine HM.out _ _ ⟨rfl, rfl, rfl, rfl, rfl, rfl, rfl, rfl, rfl, rfl, rfl, rfl, rfl, rfl, rfl, rfl, rfl, rfl, rfl, rfl, rfl⟩ ⟨.slice none 0 0, .slice none 0 0, .slice none 0 0, .slice none 0 0, .slice none 0 0, .slice none 0 0, ?_⟩ HVB.out
        rw [HR1.out, HR2.out, HR3.out]
        exact ⟨HV5.out.2.2.1, HV5.out.2.1, HV5.out.1, trivial⟩
      | true =>
        have HOK : Hid (okd d = true) := hok
        have HOT : Hid (okd t.1 = true) := tok_okd HT.out
        obtain ⟨N, hN, _, _⟩ := prd_nat hok
        have HPN : Hid (prd d = N) := hN
        obtain ⟨hd1, _⟩ := okd_parts hok
        have hoD := HD4.out.old hd1
        have hoA := HL4.out.2.2.2.1.ten.2.old (tok_pos HT.out).1
        have HOA : Hid ((∀ j, (Value.slice dva dn dc).ownBlock = some j → j < V4.heap.size) ∧ ∀ j, (Value.slice ba m bc).ownBlock = some j → j < V4.heap.size) := ⟨hoD, hoA⟩
        clear hok hN hd1 hoD hoA
        go_wp2_with fail
        refine (rdims_to true (HD4.out.later HVB.out) HOK.out).mono ?_
        rintro e w' ⟨rfl, rfl⟩
        go_upto_region 30 with fail
        rename_i K2 hK2 K3 hK3
        have HM2 : Hid (∀ a' w', FrG B i Ba k w2.heap.size w3.heap.size w4.heap.size V4.heap.size (V4.heap.size + 1) (V4.heap.size + 1 + 1) true (.slice (some ⟨db, dof, none⟩) n c) (.slice dva dn dc) x1 x2 x3 x1 4 4 a' → (∃ r0 r1, Live w' [(V4.heap.size, r0, r1, shR t d), ((V4.heap.size + 1), .slice none 0 0, .slice none 0 0, ([], [])), ((V4.heap.size + 1 + 1), .slice none 0 0, .slice none 0 0, ([], []))] ∧ ∀ j, (r0.ownBlock = some j ∨ r1.ownBlock = some j) → j ≠ (V4.heap.size + 1) ∧ j ≠ (V4.heap.size + 1 + 1)) → Below V4.heap.size V4 w' → K2 a' w') := by
          clear HV5 HVB
          intro a7 w7 hf7 ⟨r0, r1, hl7, ho7⟩ hb7
          apply hK2
          clear hK2 hK3 K3
          obtain ⟨G7, hg, e⟩ := act212 a7 hf7.d hf7.s
          obtain ⟨hz1, hz2, g1, g3, g4, g5, g10, g11, g12, g13, g14, g15, g16, g17, g18, g19, g20, g21, g22, g23, g24⟩ := hf7
          rw [hg] at g1 g3 g4 g5 g10 g11 g12 g13 g14 g15 g16 g17 g18 g19 g20 g21 g22 g23 g24
          clear hz1 hz2
          subst e
          clear hg
          rw [g1, g3, g4, g5, g10, g11, g12, g13, g14, g15, g16, g17, g18, g19, g20, g21, g22, g23, g24]
          clear g1 g3 g4 g5 g10 g11 g12 g13 g14 g15 g16 g17 g18 g19 g20 g21 g22 g23 g24
          have HL7 : Hid (Live w7 [(V4.heap.size, r0, r1, shR t d), ((V4.heap.size + 1), .slice none 0 0, .slice none 0 0, ([], [])), ((V4.heap.size + 1 + 1), .slice none 0 0, .slice none 0 0, ([], []))]) := hl7
          have HF7 : Hid (∀ j, (r0.ownBlock = some j ∨ r1.ownBlock = some j) → j ≠ (V4.heap.size + 1) ∧ j ≠ (V4.heap.size + 1 + 1)) := ho7
          have HB7 : Hid (Below V4.heap.size V4 w7) := hb7
          have HTA7 : Hid (TB w7 Ba (.slice aa an ac) (.slice ba m bc) t) := HL4.out.2.2.2.1.later hb7
          have HD7 : Hid (Ints w7 (.slice dva dn dc) d) := HD4.out.later hb7
          clear hl7 ho7 hb7
          have c1 := HTA7.out.box.c0
          have c2 := HTA7.out.box.c1
          go_upto_region 32 with fail
          rename_i K4 hK4 K5 hK5
          have HM3 : Hid (∀ a' w', FrG B i Ba k w2.heap.size w3.heap.size w4.heap.size V4.heap.size (V4.heap.size + 1) (V4.heap.size + 1 + 1) true (.slice (some ⟨db, dof, none⟩) n c) (.slice dva dn dc) x1 x2 x3 x1 x2 4 a' → (∃ r0 r1 r2 r3, Live w' [(V4.heap.size, r0, r1, shR t d), ((V4.heap.size + 1), r2, r3, wiR t d), ((V4.heap.size + 1 + 1), .slice none 0 0, .slice none 0 0, ([], []))] ∧ ∀ j, (r0.ownBlock = some j ∨ r1.ownBlock = some j ∨ r2.ownBlock = some j ∨ r3.ownBlock = some j) → j ≠ (V4.heap.size + 1 + 1)) → Below V4.heap.size V4 w' → K4 a' w') := by
            clear HL7 HF7 HB7 HTA7 HD7 c1 c2
            intro a8 w8 hf8 ⟨r0, r1, r2, r3, hl8, ho8⟩ hb8
            apply hK4
            clear hK4 hK5 K5
            obtain ⟨G8, hg, e⟩ := act212 a8 hf8.d hf8.s
            obtain ⟨hz1, hz2, g1, g3, g4, g5, g10, g11, g12, g13, g14, g15, g16, g17, g18, g19, g20, g21, g22, g23, g24⟩ := hf8
            rw [hg] at g1 g3 g4 g5 g10 g11 g12 g13 g14 g15 g16 g17 g18 g19 g20 g21 g22 g23 g24
            clear hz1 hz2
            subst e
            clear hg
            rw [g1, g3, g4, g5, g10, g11, g12, g13, g14, g15, g16, g17, g18, g19, g20, g21, g22, g23, g24]
            clear g1 g3 g4 g5 g10 g11 g12 g13 g14 g15 g16 g17 g18 g19 g20 g21 g22 g23 g24
            have HL8 : Hid (Live w8 [(V4.heap.size, r0, r1, shR t d), ((V4.heap.size + 1), r2, r3, wiR t d), ((V4.heap.size + 1 + 1), .slice none 0 0, .slice none 0 0, ([], []))]) := hl8
            have HF8 : Hid (∀ j, (r0.ownBlock = some j ∨ r1.ownBlock = some j ∨ r2.ownBlock = some j ∨ r3.ownBlock = some j) → j ≠ (V4.heap.size + 1 + 1)) := ho8
            have HB8 : Hid (Below V4.heap.size V4 w8) := hb8
            have HTA8 : Hid (TB w8 Ba (.slice aa an ac) (.slice ba m bc) t) := HL4.out.2.2.2.1.later hb8
            have HD8 : Hid (Ints w8 (.slice dva dn dc) d) := HD4.out.later hb8
            clear hl8 ho8 hb8
            have c1 := HTA8.out.box.c0
            have c2 := HTA8.out.box.c1
            cases hw3 : wid d t.1 with
            | true =>
              have H3 : Hid (suE t d = 0) := by show _ = _; rw [suE, HT.out]; exact wdr_mk HOK.out HOT.out hw3
              obtain rfl : x3 = 0 := HX3'.out.symm.trans H3.out
              have HWD : Hid (wid d t.1 = true) := hw3
              clear hw3
              go_wp2_with fail
              refine (rwider_bl true HD8.out HTA8.out.ten.1 HWD.out).mono ?_
              rintro e w9 ⟨rfl, hb9⟩
              have HL9 : Hid (Live w9 _) := HL8.out.later hb9
              have HB9 : Hid (Below V4.heap.size V4 w9) := Below.after HB8.out hb9
              have HTA9 : Hid (TB w9 Ba (.slice aa an ac) (.slice ba m bc) t) := HTA8.out.later hb9
              have HD9 : Hid (Ints w9 (.slice dva dn dc) d) := HD8.out.later hb9
              clear hb9 c1 c2 HL8 HB8 HTA8 HD8
              have c1 := HTA9.out.box.c0
              have c2 := HTA9.out.box.c1
              go_wp2_with fail
              refine (rsum_ok HTA9.out.ten HD9.out H3.out).mono ?_
              rintro e w10 ⟨q0, q1, rfl, ho, hb10⟩
              obtain ⟨qa, qn, qc, rfl⟩ := ho.dims.ints.shape3
              obtain ⟨ta, tn, tc, rfl⟩ := ho.data.ints.shape3
              have HL10 : Hid (Live w10 _) := HL9.out.later hb10
              have hlr := HL9.out.2.2.1.box.lt
              have HO10 : Hid (OwnT w10 w9.heap.size (.slice qa qn qc) (.slice ta tn tc) (suR t d)) := ho
              have HLR : Hid ((V4.heap.size + 1 + 1) < w9.heap.size) := hlr
              have HB10 : Hid (Below V4.heap.size V4 w10) := Below.after HB9.out hb10
              have l0 := HL10.out.2.2.1.box.c0
              have l1 := HL10.out.2.2.1.box.c1
              have m0 := HL10.out.2.2.1.box.f 0
              have m1 := HL10.out.2.2.1.box.f 1
              clear ho hb10 c1 c2 HL9 HB9 hlr
              go_wp2
              refine HM.out _ _ ⟨rfl, rfl, rfl, rfl, rfl, rfl, rfl, rfl, rfl, rfl, rfl, rfl, rfl, rfl, rfl, rfl, rfl, rfl, rfl, rfl, rfl⟩ ⟨r0, r1, r2, r3, .slice qa qn qc, .slice ta tn tc, ?_⟩ ((HB10.out.setCell (by simp; omega) _).setCell (by simp; omega) _)
              refine ⟨⟨HL10.out.1.box.other2 _ _ (by omega), HL10.out.1.ten.set2 _ _ fun j hj => HF8.out j (by rcases hj with h | h; exact Or.inl h; exact Or.inr (Or.inl h))⟩, ⟨HL10.out.2.1.box.other2 _ _ (by omega), HL10.out.2.1.ten.set2 _ _ fun j hj => HF8.out j (by rcases hj with h | h; exact Or.inr (Or.inr (Or.inl h)); exact Or.inr (Or.inr (Or.inr h)))⟩, ⟨HL10.out.2.2.1.box.set _ _, (HO10.out.set2 _ _ HLR.out).tens⟩, trivial⟩
            | false =>
              have H3 : Hid (suE t d = 4) := by show _ = _; simp [suE, HT.out, wdr, HOK.out, HOT.out, hw3]
              have HR3 : Hid (suR t d = ([], [])) := by show _ = _; rw [suR, H3.out]; rfl
              obtain rfl : x3 = 4 := HX3'.out.symm.trans H3.out
              have HWD : Hid (wid d t.1 = false) := hw3
              clear hw3
              go_wp2_with fail
              refine (rwider_bl false HD8.out HTA8.out.ten.1 HWD.out).mono ?_
              rintro e w9 ⟨rfl, hb9⟩
              have HL9 : Hid (Live w9 _) := HL8.out.later hb9
              have HB9 : Hid (Below V4.heap.size V4 w9) := Below.after HB8.out hb9
              clear hb9 c1 c2
              go_wp2
              refine HM.out _ _ ⟨rfl, rfl, rfl, rfl, rfl, rfl, rfl, rfl, rfl, rfl, rfl, rfl, rfl, rfl, rfl, rfl, rfl, rfl, rfl, rfl, rfl⟩ ⟨r0, r1, r2, r3, .slice none 0 0, .slice none 0 0, ?_⟩ HB9.out
              rw [HR3.out]
              exact HL9.out
          clear hK4
          cases hw2 : wid t.1 d with
          | true =>
            have H2 : Hid (wiE t d = 0) := by show _ = _; rw [wiE, HT.out]; exact wdr_mk HOT.out HOK.out hw2
            obtain rfl : x2 = 0 := HX2'.out.symm.trans H2.out
            have HWD : Hid (wid t.1 d = true) := hw2
            clear hw2
            go_wp2_with fail
            refine (rwider_bl true HTA7.out.ten.1 HD7.out HWD.out).mono ?_
            rintro e w9 ⟨rfl, hb9⟩
            have HL9 : Hid (Live w9 _) := HL7.out.later hb9
            have HB9 : Hid (Below V4.heap.size V4 w9) := Below.after HB7.out hb9
            have HTA9 : Hid (TB w9 Ba (.slice aa an ac) (.slice ba m bc) t) := HTA7.out.later hb9
            have HD9 : Hid (Ints w9 (.slice dva dn dc) d) := HD7.out.later hb9
            clear hb9 c1 c2 HL7 HB7 HTA7 HD7
            have c1 := HTA9.out.box.c0
            have c2 := HTA9.out.box.c1
            go_wp2_with fail
            refine (rwide_ok HTA9.out.ten HD9.out H2.out).mono ?_
            rintro e w10 ⟨q0, q1, rfl, ho, hb10⟩
            obtain ⟨qa, qn, qc, rfl⟩ := ho.dims.ints.shape3
            obtain ⟨ta, tn, tc, rfl⟩ := ho.data.ints.shape3
            have HL10 : Hid (Live w10 _) := HL9.out.later hb10
            have hlq := HL9.out.2.1.box.lt
            have hlr := HL9.out.2.2.1.box.lt
            have HO10 : Hid (OwnT w10 w9.heap.size (.slice qa qn qc) (.slice ta tn tc) (wiR t d)) := ho
            have HLQ : Hid ((V4.heap.size + 1) < w9.heap.size) := hlq
            have HLR : Hid ((V4.heap.size + 1 + 1) < w9.heap.size) := hlr
            have HB10 : Hid (Below V4.heap.size V4 w10) := Below.after HB9.out hb10
            have l0 := HL10.out.2.1.box.c0
            have l1 := HL10.out.2.1.box.c1
            have m0 := HL10.out.2.1.box.f 0
            have m1 := HL10.out.2.1.box.f 1
            clear ho hb10 c1 c2 HL9 HB9 hlq hlr
            go_wp2
            refine HM3.out _ _ ⟨rfl, rfl, rfl, rfl, rfl, rfl, rfl, rfl, rfl, rfl, rfl, rfl, rfl, rfl, rfl, rfl, rfl, rfl, rfl, rfl, rfl⟩ ⟨r0, r1, .slice qa qn qc, .slice ta tn tc, ?_, ?_⟩ ((HB10.out.setCell (by simp) _).setCell (by simp) _)
            · exact ⟨⟨HL10.out.1.box.other2 _ _ (by omega), HL10.out.1.ten.set2 _ _ fun j hj => (HF7.out j hj).1⟩, ⟨HL10.out.2.1.box.set _ _, (HO10.out.set2 _ _ HLQ.out).tens⟩, ⟨HL10.out.2.2.1.box.other2 _ _ (by omega), ⟨Ints.nil _, Ints.nil _⟩⟩, trivial⟩
            · intro j hj
              rcases hj with h | h | h | h
              · exact (HF7.out j (Or.inl h)).2
              · exact (HF7.out j (Or.inr h)).2
              · have h1 := HO10.out.dims.frm j h
                have h2 := HLR.out
                omega
              · have h1 := HO10.out.data.frm j h
                have h2 := HLR.out
                omega
          | false =>
            have H2 : Hid (wiE t d = 4) := by show _ = _; simp [wiE, HT.out, wdr, HOK.out, HOT.out, hw2]
            have HR2 : Hid (wiR t d = ([], [])) := by show _ = _; rw [wiR, H2.out]; rfl
            obtain rfl : x2 = 4 := HX2'.out.symm.trans H2.out
            have HWD : Hid (wid t.1 d = false) := hw2
            clear hw2
            go_wp2_with fail
            refine (rwider_bl false HTA7.out.ten.1 HD7.out HWD.out).mono ?_
            rintro e w9 ⟨rfl, hb9⟩
            have HL9 : Hid (Live w9 _) := HL7.out.later hb9
            have HB9 : Hid (Below V4.heap.size V4 w9) := Below.after HB7.out hb9
            clear hb9 c1 c2
            go_wp2
            refine HM3.out _ _ ⟨rfl, rfl, rfl, rfl, rfl, rfl, rfl, rfl, rfl, rfl, rfl, rfl, rfl, rfl, rfl, rfl, rfl, rfl, rfl, rfl, rfl⟩ ⟨r0, r1, .slice none 0 0, .slice none 0 0, ?_, ?_⟩ HB9.out
            · rw [HR2.out]
              exact HL9.out
            · intro j hj
              rcases hj with h | h | h | h
              · exact (HF7.out j (Or.inl h)).2
              · exact (HF7.out j (Or.inr h)).2
              · simp [Value.ownBlock] at h
              · simp [Value.ownBlock] at h
        clear hK2
        have hbl := HL4.out.2.2.2.1.box.lt
        by_cases hNm : N = m
        · have H1 : Hid (shE t d = 0) := by
            have hq : (t.2.length : Int) = prd d := by rw [HML.out, HPN.out, hNm]
            show _ = _
            simp [shE, HOK.out, HT.out, hq]
          have HR1 : Hid (shR t d = (d, t.2)) := by show _ = _; rw [shR, if_pos H1.out]
          obtain rfl : x1 = 0 := HX1'.out.symm.trans H1.out
          refine greg30 (Ba := Ba) (p0 := .slice aa an ac) (bb := true) (N := N) (m := m) (d := d) (by simp [hNm]) HPN HOK (HD4.out.later HVB.out) (HL4.out.later HVB.out).2.2.2.1.box ?_ _ ⟨rfl, rfl, rfl, rfl, rfl, rfl, rfl, rfl, rfl, rfl, rfl, rfl, rfl, rfl, rfl, rfl, rfl, rfl, rfl, rfl, rfl⟩
          intro a6 w6 hf6 h114 hb6
          obtain ⟨G6, hg, e⟩ := act212 a6 hf6.d hf6.s
          obtain ⟨hz1, hz2, g1, g3, g4, g5, g10, g11, g12, g13, g14, g15, g16, g17, g18, g19, g20, g21, g22, g23, g24⟩ := hf6
          rw [hg] at g1 g3 g4 g5 g10 g11 g12 g13 g14 g15 g16 g17 g18 g19 g20 g21 g22 g23 g24 h114
          clear hz1 hz2
          subst e
          clear hg
          rw [g1, g3, g4, g5, g10, g11, g12, g13, g14, g15, g16, g17, g18, g19, g20, g21, g22, g23, g24, h114]
          clear g1 g3 g4 g5 g10 g11 g12 g13 g14 g15 g16 g17 g18 g19 g20 g21 g22 g23 g24 h114
          have HB6 : Hid (Below V4.heap.size V4 w6) := Below.after HVB.out hb6
          have HV6 : Hid (Live w6 _) := HV5.out.later hb6
          clear hb6 hNm
          refine hK3 _ _ ?_
          clear hK3
          go_upto_region 31 with fail
          refine greg31 (Ba := Ba) (Bp := V4.heap.size) (p0 := .slice aa an ac) (z0 := .slice none 0 0) (z1 := .slice none 0 0) (by omega) (HL4.out.later HB6.out).2.2.2.1.box HV6.out.2.2.1.box ?_ _ ⟨rfl, rfl, rfl, rfl, rfl, rfl, rfl, rfl, rfl, rfl, rfl, rfl, rfl, rfl, rfl, rfl, rfl, rfl, rfl, rfl, rfl⟩
          intro a7 hf7
          obtain ⟨G7, hg, e⟩ := act212 a7 hf7.d hf7.s
          obtain ⟨hz1, hz2, g1, g3, g4, g5, g10, g11, g12, g13, g14, g15, g16, g17, g18, g19, g20, g21, g22, g23, g24⟩ := hf7
          rw [hg] at g1 g3 g4 g5 g10 g11 g12 g13 g14 g15 g16 g17 g18 g19 g20 g21 g22 g23 g24
          clear hz1 hz2
          subst e
          clear hg
          rw [g1, g3, g4, g5, g10, g11, g12, g13, g14, g15, g16, g17, g18, g19, g20, g21, g22, g23, g24]
          clear g1 g3 g4 g5 g10 g11 g12 g13 g14 g15 g16 g17 g18 g19 g20 g21 g22 g23 g24
          go_wp2
          refine HM2.out _ _ ⟨rfl, rfl, rfl, rfl, rfl, rfl, rfl, rfl, rfl, rfl, rfl, rfl, rfl, rfl, rfl, rfl, rfl, rfl, rfl, rfl, rfl⟩ ⟨.slice dva dn dc, .slice ba m bc, ?_, ?_⟩ ((HB6.out.setCell (Nat.le_refl _) _).setCell (Nat.le_refl _) _).drew
          · rw [HR1.out]
            have hx0 : Tens w6 (.slice dva dn dc) (.slice ba m bc) (d, t.2) := ⟨HD4.out.later HB6.out, (HL4.out.later HB6.out).2.2.2.1.ten.2⟩
            have hx1 : Tens ((w6.setCell ⟨V4.heap.size, 0, none⟩ (.slice dva dn dc)).setCell ⟨V4.heap.size, 1, none⟩ (.slice ba m bc)) (.slice dva dn dc) (.slice ba m bc) (d, t.2) := hx0.set2 _ _ (fun j hj => by
              rcases hj with h | h
              · exact Nat.ne_of_lt (HOA.out.1 j h)
              · exact Nat.ne_of_lt (HOA.out.2 j h))
            exact Live.later (Below.refl _ _).drew ⟨⟨HV6.out.2.2.1.box.set _ _, hx1⟩, ⟨HV6.out.2.1.box.other2 _ _ (by omega), ⟨Ints.nil _, Ints.nil _⟩⟩, ⟨HV6.out.1.box.other2 _ _ (by omega), ⟨Ints.nil _, Ints.nil _⟩⟩, trivial⟩
          · intro j hj
            rcases hj with h | h
            · have := HOA.out.1 j h
              omega
            · have := HOA.out.2 j h
              omega
        · have H1 : Hid (shE t d = 4) := by
            have hq : ¬ ((t.2.length : Int) = prd d) := by rw [HML.out, HPN.out]; omega
            show _ = _
            simp [shE, HOK.out, HT.out, hq]
          have HR1 : Hid (shR t d = ([], [])) := by show _ = _; rw [shR, H1.out]; rfl
          obtain rfl : x1 = 4 := HX1'.out.symm.trans H1.out
          refine greg30 (Ba := Ba) (p0 := .slice aa an ac) (bb := false) (N := N) (m := m) (d := d) (by simp; omega) HPN HOK (HD4.out.later HVB.out) (HL4.out.later HVB.out).2.2.2.1.box ?_ _ ⟨rfl, rfl, rfl, rfl, rfl, rfl, rfl, rfl, rfl, rfl, rfl, rfl, rfl, rfl, rfl, rfl, rfl, rfl, rfl, rfl, rfl⟩
          intro a6 w6 hf6 h114 hb6
          obtain ⟨G6, hg, e⟩ := act212 a6 hf6.d hf6.s
          obtain ⟨hz1, hz2, g1, g3, g4, g5, g10, g11, g12, g13, g14, g15, g16, g17, g18, g19, g20, g21, g22, g23, g24⟩ := hf6
          rw [hg] at g1 g3 g4 g5 g10 g11 g12 g13 g14 g15 g16 g17 g18 g19 g20 g21 g22 g23 g24 h114
          clear hz1 hz2
          subst e
          clear hg
          rw [g1, g3, g4, g5, g10, g11, g12, g13, g14, g15, g16, g17, g18, g19, g20, g21, g22, g23, g24, h114]
          clear g1 g3 g4 g5 g10 g11 g12 g13 g14 g15 g16 g17 g18 g19 g20 g21 g22 g23 g24 h114
          have HB6 : Hid (Below V4.heap.size V4 w6) := Below.after HVB.out hb6
          have HV6 : Hid (Live w6 _) := HV5.out.later hb6
          clear hb6 hNm
          refine hK3 _ _ ?_
          clear hK3
          go_wp2
          refine HM2.out _ _ ⟨rfl, rfl, rfl, rfl, rfl, rfl, rfl, rfl, rfl, rfl, rfl, rfl, rfl, rfl, rfl, rfl, rfl, rfl, rfl, rfl, rfl⟩ ⟨.slice none 0 0, .slice none 0 0, ?_, ?_⟩ HB6.out
          · rw [HR1.out]
            exact ⟨HV6.out.2.2.1, HV6.out.2.1, HV6.out.1, trivial⟩
          · intro j hj
            rcases hj with h | h <;> simp [Value.ownBlock] at h
  · go_wp2
    exact HEX.out _ _ ⟨rfl, rfl, rfl, rfl, rfl, rfl, rfl⟩ HB.out
end Go.Proofs.Ytgedknmjenbacaa
