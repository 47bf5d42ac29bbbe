/- The law TurnDims: its outer loop, and its walk. -/
import Derived.Test.YtgedknmjenbacaaG3
namespace Go.Proofs.Ytgedknmjenbacaa
set_option linter.unusedVariables false
set_option linter.unusedSimpArgs false
open Go.RowKit

structure FrG0 (B i : Nat) (a : Act) : Prop where
  d : a.defers = []
  s : a.tmps.size = 212
  f1 : a.tmps.getD 1 undef = .pointer (some ⟨B, 0, none⟩)
  f3 : a.tmps.getD 3 undef = .int .i64 i

structure FrO3 (B i Ba Bx Bp : Nat) (may : Bool) (x bad : Int) (a : Act) : Prop where
  d : a.defers = []
  s : a.tmps.size = 212
  f1 : a.tmps.getD 1 undef = .pointer (some ⟨B, 0, none⟩)
  f3 : a.tmps.getD 3 undef = .int .i64 i
  f4 : a.tmps.getD 4 undef = .pointer (some ⟨Ba, 0, none⟩)
  f5 : a.tmps.getD 5 undef = .bool may
  f6 : a.tmps.getD 6 undef = .pointer (some ⟨Bx, 0, none⟩)
  f7 : a.tmps.getD 7 undef = .int .i64 x
  f8 : a.tmps.getD 8 undef = .int .i64 bad
  f9 : a.tmps.getD 9 undef = .pointer (some ⟨Bp, 0, none⟩)
theorem rturn_to {a0 a1 : Value} {s : Ten} {w : World} (u : Ten) (ha : Tens w a0 a1 s) (hx : trE s = 0) (hu : trR s = u) :
    Calls Try.prog 10 #[.agg #[a0, a1]] w fun e w' => ∃ x0 x1, e = .returned (.agg #[x0, x1]) ∧ OwnT w' w.heap.size x0 x1 u ∧ Below w.heap.size w w' := by
  subst hu
  obtain ⟨ht, p, q, hd, _⟩ := tr_zero hx
  rw [trR_ok hx hd]
  obtain ⟨d, l⟩ := s
  simp only at hd
  subst hd
  exact rturn_ok ha ht

set_option maxRecDepth 1000000 in
set_option maxHeartbeats 8000000 in
theorem gloop1 {B c0 : Nat} {f : Option Addr} {f1 f2 : Value} {T : List Ten} {D : List (List Int)} {W : World} {Q : Exit → Act → World → Prop}
    (hcT : T.length ≤ c0) (hT0 : T.length ≤ 17592186044416) (HN : Hid (Nil0 f2 ∧ D.length ≤ 300))
    (HE : Hid (EnvA B (.slice f T.length c0) f1 f2 T D W))
    (hexit : ∀ a' w' i, FrG0 B i a' → Below W.heap.size W w' → Q (.exit 0) a' w')
    (a : Act) (w : World) (ha : FrG0 B 0 a) (hb : Below W.heap.size W w) :
    Code.wp Try.prog (.loop (((Try.f3.body.map loopsIn).getD []).getD 0 .skip)) Q a w := by
  refine wp_loop (fun a' w' => (∃ i : Nat, i ≤ T.length ∧ i ≤ 5 ∧ FrG0 B i a') ∧ Below W.heap.size W w') (fun a' _ => 5 - slotNat a' 3) ⟨⟨0, by omega, by omega, ha⟩, hb⟩ ?_
  clear ha hb
  clear a w
  intro a w ⟨⟨i, hi, hi6, hf⟩, hb⟩
  obtain ⟨G, hg, e⟩ := act212 a hf.d hf.s
  obtain ⟨hz1, hz2, g1, g3⟩ := hf
  rw [hg] at g1 g3
  clear hz1 hz2
  subst e
  clear hg
  rw [g1, g3]
  have HEX : Hid (∀ a' w' i, FrG0 B i a' → Below W.heap.size W w' → Q (.exit 0) a' w') := hexit
  have HB : Hid (Below W.heap.size W w) := hb
  have HEW : Hid (EnvA B (.slice f T.length c0) f1 f2 T D w) := HE.out.later hb
  clear hexit hb g1 g3
  have hbx := HEW.out.b0
  conv => arg 2; whnf
  by_cases hlt : i < T.length
  · by_cases hlt6 : i < 5
    · obtain ⟨tb, tof, xa, xc, ya, yc, ea, hr1, hr2, HTT⟩ := HEW.out.hT.row i hlt
      subst ea
      obtain ⟨t, ht⟩ : ∃ t, T[i] = t := ⟨_, rfl⟩
      rw [ht] at hr1 hr2 HTT
      obtain ⟨xn, hxn⟩ : ∃ n, t.1.length = n := ⟨_, rfl⟩
      obtain ⟨yn, hyn⟩ : ∃ n, t.2.length = n := ⟨_, rfl⟩
      rw [hxn] at hr1 HTT
      rw [hyn] at hr2 HTT
      clear ht hxn hyn
      go_wp2_with fail
      refine (copyT_any HTT.out).mono ?_
      rintro e w1 ⟨x, y, rfl, ho, hb1⟩
      obtain ⟨tn1, htn⟩ : ∃ n, t.1.length = n := ⟨_, rfl⟩
      obtain ⟨pa, pc, ep⟩ := ho.dims.ints.shape
      rw [htn] at ep
      obtain ⟨pn, hpn⟩ : ∃ n, n = tn1 := ⟨_, rfl⟩
      rw [← hpn] at ep htn
      subst ep
      clear hpn
      have HTN : Hid (t.1.length = pn) := htn
      obtain ⟨qa, qn, qc, rfl⟩ := ho.data.ints.shape3
      have HA1 : Hid (TB (w1.alloc (.cells #[.slice pa pn pc, .slice qa qn qc] 31)) w1.heap.size (.slice pa pn pc) (.slice qa qn qc) t) := ⟨Box.new _ _ _, ho.tens.later (Below.push (Below.refl _ _) _)⟩
      have HB1 : Hid (Below w.heap.size w (w1.alloc (.cells #[.slice pa pn pc, .slice qa qn qc] 31))) := Below.push hb1 _
      clear ho hb1 htn
      obtain ⟨may, hmay⟩ : ∃ b, tok t = b := ⟨_, rfl⟩
      have HMay : Hid (tok t = may) := hmay
      obtain ⟨x, hx⟩ : ∃ x, trE t = x := ⟨_, rfl⟩
      have HX' : Hid (trE t = x) := hx
      clear hmay hx
      have u0 := HA1.out.box.c0
      have u1 := HA1.out.box.c1
      go_wp2_with fail
      refine (rtensor_to may HA1.out.ten HMay.out).mono ?_
      rintro e w2 ⟨rfl, hb2⟩
      have HA2 : Hid (TB w2 w1.heap.size (.slice pa pn pc) (.slice qa qn qc) t) := HA1.out.later hb2
      have HB2 : Hid (Below w.heap.size w w2) := Below.after HB1.out hb2
      clear hb2 u0 u1 HA1 HB1
      have u0 := HA2.out.box.c0
      have u1 := HA2.out.box.c1
      go_wp2_with fail
      refine (turn_to x (trR t) HA2.out.ten HX'.out rfl).mono ?_
      rintro e w3 ⟨x0, x1, rfl, ho, hb3⟩
      obtain ⟨xa3, xn3, xc3, rfl⟩ := ho.dims.ints.shape3
      obtain ⟨ya3, yn3, yc3, rfl⟩ := ho.data.ints.shape3
      have hp3 := Below.push hb3 (.cells #[.slice xa3 xn3 xc3, .slice ya3 yn3 yc3] 31)
      have HX3 : Hid (TB (w3.alloc (.cells #[.slice xa3 xn3 xc3, .slice ya3 yn3 yc3] 31)) w3.heap.size (.slice xa3 xn3 xc3) (.slice ya3 yn3 yc3) (trR t)) := ⟨Box.new _ _ _, ho.tens.later (Below.push (Below.refl _ _) _)⟩
      have HW3 : Hid (Wr (w3.alloc (.cells #[.slice xa3 xn3 xc3, .slice ya3 yn3 yc3] 31)) w2.heap.size (.slice xa3 xn3 xc3) ∧ Wr (w3.alloc (.cells #[.slice xa3 xn3 xc3, .slice ya3 yn3 yc3] 31)) w2.heap.size (.slice ya3 yn3 yc3)) := ⟨ho.dims.wr.alloc _, ho.data.wr.alloc _⟩
      have HB3 : Hid (Below w2.heap.size w2 (w3.alloc (.cells #[.slice xa3 xn3 xc3, .slice ya3 yn3 yc3] 31))) := hp3
      clear ho hb3 hp3 u0 u1
      go_upto_region 9 with fail
      generalize (w3.alloc (.cells #[.slice xa3 xn3 xc3, .slice ya3 yn3 yc3] 31)) = V3 at HX3 HW3 HB3 ⊢
      go_upto_region 11 with fail
      have HV4 : Hid (Live (V3.alloc (.cells #[.slice none 0 0, .slice none 0 0] 31)) [(V3.heap.size, .slice none 0 0, .slice none 0 0, ([], []))]) := Live.push (L := []) (t := ([], [])) trivial ⟨Ints.nil _, Ints.nil _⟩
      have HVB : Hid (Below V3.heap.size V3 (V3.alloc (.cells #[.slice none 0 0, .slice none 0 0] 31))) := Below.push (Below.refl _ _) _
      rename_i K1 hK1 K0 hK0
      have HM : Hid (∀ a' w', FrO3 B i w1.heap.size w3.heap.size V3.heap.size may x x a' → (∃ r0 r1, Live w' [(V3.heap.size, r0, r1, trR t)]) → Below V3.heap.size V3 w' → K1 a' w') := by
        intro a5 w5 hf5 ⟨r0, r1, hl5⟩ hb5
        apply hK1
        clear hK1 hK0 K0
        obtain ⟨G5, hg, e⟩ := act212 a5 hf5.d hf5.s
        obtain ⟨hz1, hz2, g1, g3, g4, g5, g6, g7, g8, g9⟩ := hf5
        rw [hg] at g1 g3 g4 g5 g6 g7 g8 g9
        clear hz1 hz2
        subst e
        clear hg
        rw [g1, g3, g4, g5, g6, g7, g8, g9]
        clear g1 g3 g4 g5 g6 g7 g8 g9
        have HL5 : Hid (Live w5 [(V3.heap.size, r0, r1, trR t)]) := hl5
        have HX5 : Hid (TB w5 w3.heap.size (.slice xa3 xn3 xc3) (.slice ya3 yn3 yc3) (trR t)) := HX3.out.later hb5
        have HW5 : Hid (Wr w5 w2.heap.size (.slice xa3 xn3 xc3) ∧ Wr w5 w2.heap.size (.slice ya3 yn3 yc3)) := ⟨HW3.out.1.later hb5, HW3.out.2.later hb5⟩
        have HB5 : Hid (Below w2.heap.size w2 w5) := Below.after HB3.out hb5
        clear hl5 hb5 HVB HV4 HX3 HW3 HB3
        have e1 := HX5.out.box.c0
        have e2 := HX5.out.box.c1
        have e3 := HL5.out.1.box.c0
        have e4 := HL5.out.1.box.c1
        go_wp2_with (go_at_call 11; refine (num_any _ _).mono ?_; rintro e w' ⟨rfl, rfl⟩)
        refine (eqt_to HX5.out.ten HL5.out.1.ten rfl).mono ?_
        rintro e w6 ⟨rfl, hb6⟩
        have HX6 : Hid (Box w6 w3.heap.size (.slice xa3 xn3 xc3) (.slice ya3 yn3 yc3)) := HX5.out.box.later hb6
        have HW6 : Hid (Wr w6 w2.heap.size (.slice xa3 xn3 xc3) ∧ Wr w6 w2.heap.size (.slice ya3 yn3 yc3)) := ⟨HW5.out.1.later hb6, HW5.out.2.later hb6⟩
        have HB6 : Hid (Below w2.heap.size w2 w6) := Below.after HB5.out hb6
        have HS6 : Hid (w2.heap.size ≤ w6.heap.size) := HB6.out.size
        clear hb6 e1 e2 e3 e4 HX5 HW5 HB5 HL5
        have e1 := HX6.out.c0
        have e2 := HX6.out.c1
        go_wp2_with fail
        refine (spoil_wk HW6.out.1 HW6.out.2 HS6.out).mono ?_
        rintro e w7 ⟨rfl, hb7, _, _⟩
        have HB7 : Hid (Below w2.heap.size w2 w7) := HB6.out.trans hb7
        have HBW7 : Hid (Below w.heap.size w w7) := Below.after HB2.out HB7.out
        have HE7 : Hid (EnvA B (.slice (some ⟨tb, tof, none⟩) T.length c0) f1 f2 T D w7) := HEW.out.later HBW7.out
        have HA7 : Hid (TB w7 w1.heap.size (.slice pa pn pc) (.slice qa qn qc) t) := HA2.out.later HB7.out
        clear hb7 e1 e2 HB6 HW6 HX6 HS6
        have p0 := HE7.out.b0
        have p1 := HE7.out.b1
        have p2 := HE7.out.b2
        have u0 := HA7.out.box.c0
        have u1 := HA7.out.box.c1
        go_wp2_with fail
        refine (dims_any HE7.out.hD HN.out.1 HN.out.2 HA7.out.ten).mono ?_
        rintro e w8 ⟨v, L, rfl, hil, hL20, hb8⟩
        obtain ⟨da, n, c, rfl⟩ := hil.shape
        have hn20 : n ≤ 20 := by have := (hil.len).1; omega
        have HLS : Hid (IntsL w8 (.slice da n c) L) := hil
        have HA8 : Hid (TB w8 w1.heap.size (.slice pa pn pc) (.slice qa qn qc) t) := HA7.out.later hb8
        have HBD : Hid (Below w.heap.size w w8) := Below.after HBW7.out hb8
        clear hil hb8 p0 p1 p2 u0 u1 HE7 HA7 HB7 HBW7 hL20
        go_wp2
        refine gloop2 (W := w8) (t := t) (L := L) hlt hcT hT0 hn20 HMay ⟨HA8.out, HLS.out, HTT.out.later HBD.out, cell_later HBD.out hbx, cell_later HBD.out hr1, cell_later HBD.out hr2⟩ ?_ _ _ ⟨rfl, rfl, rfl, rfl, rfl, rfl, rfl⟩ rfl (Below.refl _ _)
        intro a9 w9 hf9 hb9
        obtain ⟨G9, hg, e⟩ := act212 a9 hf9.d hf9.s
        obtain ⟨hz1, hz2, g1, g3, g4, g5, g10⟩ := hf9
        rw [hg] at g1 g3 g4 g5 g10
        clear hz1 hz2
        subst e
        clear hg
        rw [g1, g3, g4, g5, g10]
        clear g1 g3 g4 g5 g10
        go_wp2
        refine ⟨⟨⟨i + 1, by omega, by omega, rfl, rfl, rfl, ?_⟩, Below.after HB.out (Below.after HBD.out hb9)⟩, ?_⟩
        · show Value.int .i64 _ = _
          go_num
        · show 5 - (intOf (Value.int .i64 _)).toNat < 5 - (intOf (Value.int .i64 _)).toNat
          simp [intOf]
          omega
      clear hK1
      have HA4 : Hid (TB (V3.alloc (.cells #[.slice none 0 0, .slice none 0 0] 31)) w1.heap.size (.slice pa pn pc) (.slice qa qn qc) t) := HA2.out.later (Below.after HB3.out HVB.out)
      cases may with
      | false =>
        have H1 : Hid (trE t = 1) := by show _ = _; simp [trE, HMay.out]
        have HR1 : Hid (trR t = ([], [])) := by show _ = _; rw [trR, H1.out]; rfl
        obtain rfl : x = 1 := HX'.out.symm.trans H1.out
        go_wp2
        refine HM.out _ _ ⟨rfl, rfl, rfl, rfl, rfl, rfl, rfl, rfl, rfl, rfl⟩ ⟨.slice none 0 0, .slice none 0 0, ?_⟩ HVB.out
        rw [HR1.out]
        exact HV4.out
      | true =>
        by_cases h2 : pn = 2
        · have H1 : Hid (trE t = 0) := by show _ = _; simp [trE, HMay.out, HTN.out, h2]
          obtain rfl : x = 0 := HX'.out.symm.trans H1.out
          subst h2
          have u0 := HA4.out.box.c0
          have u1 := HA4.out.box.c1
          go_wp2_with fail
          refine (rturn_to (trR t) HA4.out.ten H1.out rfl).mono ?_
          rintro e w5 ⟨q0, q1, rfl, ho, hb5⟩
          obtain ⟨ra, rn, rc, rfl⟩ := ho.dims.ints.shape3
          obtain ⟨sa, sn, sc, rfl⟩ := ho.data.ints.shape3
          have HV5 : Hid (Live w5 _) := HV4.out.later hb5
          have HO5 : Hid (OwnT w5 (V3.heap.size + 1) (.slice ra rn rc) (.slice sa sn sc) (trR t)) := (by show OwnT _ _ _ _ _; simpa using ho)
          have HB5 : Hid (Below V3.heap.size V3 w5) := Below.after HVB.out hb5
          have l0 := HV5.out.1.box.c0
          have l1 := HV5.out.1.box.c1
          have m0 := HV5.out.1.box.f 0
          have m1 := HV5.out.1.box.f 1
          clear ho hb5 u0 u1
          go_wp2
          exact HM.out _ _ ⟨rfl, rfl, rfl, rfl, rfl, rfl, rfl, rfl, rfl, rfl⟩ ⟨.slice ra rn rc, .slice sa sn sc, ⟨HV5.out.1.box.set _ _, (HO5.out.set2 _ _ (by omega)).tens⟩, trivial⟩ ((HB5.out.setCell (Nat.le_refl _) _).setCell (Nat.le_refl _) _)
        · have H1 : Hid (trE t = 4) := by show _ = _; simp [trE, HMay.out, HTN.out, h2]
          have HR1 : Hid (trR t = ([], [])) := by show _ = _; rw [trR, H1.out]; rfl
          obtain rfl : x = 4 := HX'.out.symm.trans H1.out
          have hne : ((pn : Int) == 2) = false := by simp; omega
          have u0 := HA4.out.box.c0
          clear h2
          go_wp2
          refine HM.out _ _ ⟨rfl, rfl, rfl, rfl, rfl, rfl, rfl, rfl, rfl, rfl⟩ ⟨.slice none 0 0, .slice none 0 0, ?_⟩ HVB.out
          rw [HR1.out]
          exact HV4.out
    · go_wp2
      exact HEX.out _ _ i ⟨rfl, rfl, rfl, rfl⟩ HB.out
  · go_wp2
    exact HEX.out _ _ i ⟨rfl, rfl, rfl, rfl⟩ HB.out

set_option maxRecDepth 100000 in
set_option maxHeartbeats 8000000 in
theorem turnDims_any {f0 f1 f2 : Value} {T : List Ten} {L : List Int} {D : List (List Int)} {w : World} (h0 : TensL w f0 T ∧ ∀ t ∈ T, Rg t.2) (h1 : Ints w f1 L) (h2 : IntsL w f2 D) (hN : Nil0 f2) :
    Calls Try.prog 3 #[.agg #[f0, f1, f2]] w fun e w' => e = .returned (.bool true) ∧ Below w.heap.size w w' := by
  obtain ⟨h0, _⟩ := h0
  have hb : Below w.heap.size w (w.alloc (.cells #[f0, f1, f2] 28)) := (Below.refl _ _).alloc (Nat.le_refl _) _
  obtain ⟨na, nc, rfl⟩ := h1.shape
  obtain ⟨a0, c0, rfl⟩ : ∃ a c, f0 = .slice a T.length c := by obtain ⟨_, a0, c0, rfl, _⟩ := h0; exact ⟨_, _, rfl⟩
  obtain ⟨da, dn, dc, rfl⟩ := h2.shape
  have HN : Hid (Nil0 (.slice da dn dc)) := hN
  have HB : Hid (Below w.heap.size w (w.alloc (.cells #[.slice a0 T.length c0, .slice na L.length nc, .slice da dn dc] 28))) := hb
  have H0 : Hid (TensL (w.alloc (.cells #[.slice a0 T.length c0, .slice na L.length nc, .slice da dn dc] 28)) (.slice a0 T.length c0) T) := h0.later hb
  have H1 : Hid (Ints (w.alloc (.cells #[.slice a0 T.length c0, .slice na L.length nc, .slice da dn dc] 28)) (.slice na L.length nc) L) := h1.later hb
  have H2 : Hid (IntsL (w.alloc (.cells #[.slice a0 T.length c0, .slice na L.length nc, .slice da dn dc] 28)) (.slice da dn dc) D) := h2.later hb
  have hT := h0.1
  unfold big at hT
  have hcT : T.length ≤ c0 := by
    obtain ⟨_, a', c', e, h1, _⟩ := h0
    simp only [Value.slice.injEq] at e
    omega
  clear h0 h1 h2 hb hN
  go_enter Try.func3, Try.ntmps3
  go_wp2_with fail
  refine (heavy3_any H0.out H1.out H2.out).mono ?_
  rintro e w1 ⟨hv, rfl, hD, hb1⟩
  have HB1 : Hid (Below w.heap.size w w1) := Below.after HB.out hb1
  cases hv with
  | true =>
    clear hD hb1
    go_wp2
    go_ret
    exact ⟨rfl, HB1.out⟩
  | false =>
    have HND : Hid (Nil0 (.slice da dn dc) ∧ D.length ≤ 300) := ⟨HN.out, hD rfl⟩
    have HE : Hid (EnvA w.heap.size (.slice a0 T.length c0) (.slice na L.length nc) (.slice da dn dc) T D w1) := ⟨cell_later hb1 (by simp), cell_later hb1 (by simp), cell_later hb1 (by simp), H0.out.later hb1, H2.out.later hb1⟩
    clear hb1 H0 H1 H2 HB hD
    go_wp2
    refine gloop1 (W := w1) hcT hT HND HE ?_ _ _ ⟨rfl, rfl, rfl, rfl⟩ (Below.refl _ _)
    intro a3' w3 q hf3 hb3
    obtain ⟨G3, hg3, e3⟩ := act212 a3' hf3.d hf3.s
    clear hf3
    subst e3
    clear hg3
    go_wp2_with fail
    refine (wakes3_any _).mono ?_
    rintro e w5 ⟨rfl, hb5⟩
    have HB5 : Hid (Below w.heap.size w w5) := Below.after HB1.out (Below.after hb3 hb5)
    clear hb3 hb5
    go_wp2
    go_ret
    exact ⟨rfl, HB5.out⟩
end Go.Proofs.Ytgedknmjenbacaa
