/- The law TurnDots: its outer loop, and its walk. -/
import Derived.Test.YtgedknmjenbacaaA3
namespace Go.Proofs.Ytgedknmjenbacaa
set_option linter.unusedVariables false
set_option linter.unusedSimpArgs false
open Go.RowKit

structure FrA0 (B i : Nat) (a : Act) : Prop where
  d : a.defers = []
  s : a.tmps.size = 176
  f1 : a.tmps.getD 1 undef = .pointer (some ⟨B, 0, none⟩)
  f3 : a.tmps.getD 3 undef = .int .i64 i

set_option maxRecDepth 1000000 in
set_option maxHeartbeats 8000000 in
theorem aloop1 {B c0 : Nat} {f : Option Addr} {f1 f2 : Value} {T : List Ten} {D : List (List Int)} {W : World} {Q : Exit → Act → World → Prop}
    (hcT : T.length ≤ c0) (hT0 : T.length ≤ 17592186044416) (HN : Hid (Nil0 f2 ∧ D.length ≤ 300))
    (HE : Hid (EnvA B (.slice f T.length c0) f1 f2 T D W))
    (hexit : ∀ a' w' i, FrA0 B i a' → Below W.heap.size W w' → Q (.exit 0) a' w')
    (a : Act) (w : World) (ha : FrA0 B 0 a) (hb : Below W.heap.size W w) :
    Code.wp Try.prog (.loop (((Try.f4.body.map loopsIn).getD []).getD 0 .skip)) Q a w := by
  refine wp_loop (fun a' w' => (∃ i : Nat, i ≤ T.length ∧ i ≤ 5 ∧ FrA0 B i a') ∧ Below W.heap.size W w') (fun a' _ => 5 - slotNat a' 3) ⟨⟨0, by omega, by omega, ha⟩, hb⟩ ?_
  clear ha hb
  clear a w
  intro a w ⟨⟨i, hi, hi6, hf⟩, hb⟩
  obtain ⟨G, hg, e⟩ := act176 a hf.d hf.s
  obtain ⟨hz1, hz2, g1, g3⟩ := hf
  rw [hg] at g1 g3
  clear hz1 hz2
  subst e
  clear hg
  rw [g1, g3]
  have HEX : Hid (∀ a' w' i, FrA0 B i a' → Below W.heap.size W w' → Q (.exit 0) a' w') := hexit
  have HB : Hid (Below W.heap.size W w) := hb
  have HEW : Hid (EnvA B (.slice f T.length c0) f1 f2 T D w) := HE.out.later hb
  clear hexit hb g1 g3
  have hbx := HEW.out.b0
  conv => arg 2; whnf
  by_cases hlt : i < T.length
  · by_cases hlt6 : i < 5
    · obtain ⟨tb, tof, xa, xc, ya, yc, ea, hr1, hr2, HTT⟩ := HEW.out.hT.row i hlt
      subst ea
      obtain ⟨t, ht⟩ : ∃ t, T[i] = t := ⟨_, rfl⟩
      rw [ht] at hr1 hr2 HTT
      obtain ⟨xn, hxn⟩ : ∃ n, t.1.length = n := ⟨_, rfl⟩
      obtain ⟨yn, hyn⟩ : ∃ n, t.2.length = n := ⟨_, rfl⟩
      rw [hxn] at hr1 HTT
      rw [hyn] at hr2 HTT
      clear ht hxn hyn
      have hv : Below w.heap.size w (w.alloc (.cells #[.slice xa xn xc, .slice ya yn yc] 31)) := Below.push (Below.refl _ _) _
      have HL1 : Hid (TB (w.alloc (.cells #[.slice xa xn xc, .slice ya yn yc] 31)) w.heap.size (.slice xa xn xc) (.slice ya yn yc) t) := ⟨Box.new _ _ _, HTT.out.later hv⟩
      have HE1 : Hid (EnvA B (.slice (some ⟨tb, tof, none⟩) T.length c0) f1 f2 T D (w.alloc (.cells #[.slice xa xn xc, .slice ya yn yc] 31))) := HEW.out.later hv
      have HB1 : Hid (Below w.heap.size w (w.alloc (.cells #[.slice xa xn xc, .slice ya yn yc] 31))) := hv
      have p0 := HE1.out.b0
      have p1 := HE1.out.b1
      have p2 := HE1.out.b2
      have u0 := HL1.out.box.c0
      have u1 := HL1.out.box.c1
      clear hv p0 p1 p2
      go_wp2_with fail
      refine (turn_to (trE t) (trR t) HL1.out.ten rfl rfl).mono ?_
      rintro e w2 ⟨x0, x1, rfl, ho, hb2⟩
      obtain ⟨xa2, xn2, xc2, rfl⟩ := ho.dims.ints.shape3
      obtain ⟨ya2, yn2, yc2, rfl⟩ := ho.data.ints.shape3
      have hv : Below w2.heap.size w2 (w2.alloc (.cells #[.slice xa2 xn2 xc2, .slice ya2 yn2 yc2] 31)) := Below.push (Below.refl _ _) _
      have HT2 : Hid (TB (w2.alloc (.cells #[.slice xa2 xn2 xc2, .slice ya2 yn2 yc2] 31)) w2.heap.size (.slice xa2 xn2 xc2) (.slice ya2 yn2 yc2) (trR t)) := ⟨Box.new _ _ _, ho.tens.later hv⟩
      have HL2 : Hid (TB (w2.alloc (.cells #[.slice xa2 xn2 xc2, .slice ya2 yn2 yc2] 31)) w.heap.size (.slice xa xn xc) (.slice ya yn yc) t) := (HL1.out.later hb2).later hv
      have HB2 : Hid (Below w.heap.size w (w2.alloc (.cells #[.slice xa2 xn2 xc2, .slice ya2 yn2 yc2] 31))) := Below.after (Below.after HB1.out hb2) hv
      clear ho hb2 hv u0 u1 HB1 HE1
      go_upto_region 8 with fail
      rename_i K1 hK1 K0 hK0
      have HM : Hid (∀ a' w', FrA0 B i a' → a'.tmps.getD 4 undef = .pointer (some ⟨w.heap.size, 0, none⟩) → TB w' w.heap.size (.slice xa xn xc) (.slice ya yn yc) t → Below w.heap.size w w' → K1 a' w') := by
        intro a5 w5 hf5 h4 ht5 hb5
        obtain ⟨G5, hg5, e5⟩ := act176 a5 hf5.d hf5.s
        obtain ⟨hz1, hz2, g1, g3⟩ := hf5
        rw [hg5] at g1 g3 h4
        clear hz1 hz2
        subst e5
        clear hg5
        rw [g1, g3, h4]
        clear g1 g3 h4 hK0
        refine hK1 _ _ ?_
        clear hK1
        have HE5 : Hid (EnvA B (.slice (some ⟨tb, tof, none⟩) T.length c0) f1 f2 T D w5) := HEW.out.later hb5
        have HT5 : Hid (TB w5 w.heap.size (.slice xa xn xc) (.slice ya yn yc) t) := ht5
        have HB5 : Hid (Below w.heap.size w w5) := hb5
        clear ht5 hb5 HT2 HL2 HB2
        have p0 := HE5.out.b0
        have p1 := HE5.out.b1
        have p2 := HE5.out.b2
        have u0 := HT5.out.box.c0
        have u1 := HT5.out.box.c1
        go_wp2_with fail
        refine (dims_any HE5.out.hD HN.out.1 HN.out.2 HT5.out.ten).mono ?_
        rintro e w6 ⟨v, L, rfl, hil, hL20, hb6⟩
        obtain ⟨da, n, c, rfl⟩ := hil.shape
        have hn20 : n ≤ 20 := by have := (hil.len).1; omega
        have HLS : Hid (IntsL w6 (.slice da n c) L) := hil
        have HT6 : Hid (TB w6 w.heap.size (.slice xa xn xc) (.slice ya yn yc) t) := HT5.out.later hb6
        have HB6 : Hid (Below w.heap.size w w6) := Below.after HB5.out hb6
        clear hil hb6 p0 p1 p2 u0 u1 HE5 HT5 HB5 hL20
        go_wp2
        refine aloop2 (W := w6) (t := t) (L := L) hn20 ⟨HT6.out, HLS.out⟩ ?_ _ _ ⟨rfl, rfl, rfl, rfl, rfl, rfl⟩ rfl (Below.refl _ _)
        intro a9 w9 hf9 hb9
        obtain ⟨G9, hg9, e9⟩ := act176 a9 hf9.d hf9.s
        obtain ⟨hz1, hz2, g1, g3, g4, g9⟩ := hf9
        rw [hg9] at g1 g3
        clear hz1 hz2 g4 g9
        subst e9
        clear hg9
        rw [g1, g3]
        clear g1 g3
        go_wp2
        refine ⟨⟨⟨i + 1, by omega, by omega, rfl, rfl, rfl, ?_⟩, Below.after HB.out (Below.after HB6.out hb9)⟩, ?_⟩
        · show Value.int .i64 _ = _
          go_num
        · show 5 - (intOf (Value.int .i64 _)).toNat < 5 - (intOf (Value.int .i64 _)).toNat
          simp [intOf]
          omega
      clear hK1
      by_cases hx : trE t = 0
      · obtain ⟨ht1, ht2⟩ := turn_twice hx
        have H1 : Hid (trE (trR t) = 0) := ht1
        have H2 : Hid (trR (trR t) = t) := ht2
        rw [hx]
        clear hx ht1 ht2
        have c0 := HT2.out.box.c0
        have c1 := HT2.out.box.c1
        go_wp2_with (go_at_call 11; refine (num_any _ _).mono ?_; rintro e w' ⟨rfl, rfl⟩)
        refine (turn_to 0 t HT2.out.ten H1.out H2.out).mono ?_
        rintro e w3 ⟨x0, x1, rfl, ho, hb3⟩
        obtain ⟨xa3, xn3, xc3, rfl⟩ := ho.dims.ints.shape3
        obtain ⟨ya3, yn3, yc3, rfl⟩ := ho.data.ints.shape3
        have hv : Below w3.heap.size w3 (w3.alloc (.cells #[.slice xa3 xn3 xc3, .slice ya3 yn3 yc3] 31)) := Below.push (Below.refl _ _) _
        have HL3 : Hid (Live (w3.alloc (.cells #[.slice xa3 xn3 xc3, .slice ya3 yn3 yc3] 31)) [(w3.heap.size, .slice xa3 xn3 xc3, .slice ya3 yn3 yc3, t), (w.heap.size, _, _, t)]) := ⟨⟨Box.new _ _ _, ho.tens.later hv⟩, (HL2.out.later hb3).later hv, trivial⟩
        have HB3 : Hid (Below w.heap.size w (w3.alloc (.cells #[.slice xa3 xn3 xc3, .slice ya3 yn3 yc3] 31))) := Below.after (Below.after HB2.out hb3) hv
        clear ho hb3 hv c0 c1
        have e1 := HL3.out.1.box.c0
        have e2 := HL3.out.1.box.c1
        have e3 := HL3.out.2.1.box.c0
        have e4 := HL3.out.2.1.box.c1
        go_wp2_with (go_at_call 11; refine (num_any _ _).mono ?_; rintro e w' ⟨rfl, rfl⟩)
        refine (eqt_to HL3.out.1.ten HL3.out.2.1.ten rfl).mono ?_
        rintro e w4 ⟨rfl, hb4⟩
        have HL4 : Hid (Live w4 _) := HL3.out.later hb4
        have HB4 : Hid (Below w.heap.size w w4) := Below.after HB3.out hb4
        clear hb4 e1 e2 e3 e4
        go_wp2
        exact HM.out _ _ ⟨rfl, rfl, rfl, rfl⟩ rfl HL4.out.2.1 HB4.out
      · have hne : (trE t == 0) = false := by simp [hx]
        obtain ⟨x, hxx⟩ : ∃ x, trE t = x := ⟨_, rfl⟩
        rw [hxx] at hne ⊢
        clear hx hxx
        go_wp2_with (go_at_call 11; refine (num_any _ _).mono ?_; rintro e w' ⟨rfl, rfl⟩)
        exact HM.out _ _ ⟨rfl, rfl, rfl, rfl⟩ rfl HL2.out HB2.out
    · go_wp2
      exact HEX.out _ _ i ⟨rfl, rfl, rfl, rfl⟩ HB.out
  · go_wp2
    exact HEX.out _ _ i ⟨rfl, rfl, rfl, rfl⟩ HB.out

set_option maxRecDepth 100000 in
set_option maxHeartbeats 8000000 in
theorem turnDots_any {f0 f1 f2 : Value} {T : List Ten} {L : List Int} {D : List (List Int)} {w : World} (h0 : TensL w f0 T ∧ ∀ t ∈ T, Rg t.2) (h1 : Ints w f1 L) (h2 : IntsL w f2 D) (hN : Nil0 f2) :
    Calls Try.prog 4 #[.agg #[f0, f1, f2]] w fun e w' => e = .returned (.bool true) ∧ Below w.heap.size w w' := by
  obtain ⟨h0, _⟩ := h0
  have hb : Below w.heap.size w (w.alloc (.cells #[f0, f1, f2] 28)) := (Below.refl _ _).alloc (Nat.le_refl _) _
  obtain ⟨na, nc, rfl⟩ := h1.shape
  obtain ⟨a0, c0, rfl⟩ : ∃ a c, f0 = .slice a T.length c := by obtain ⟨_, a0, c0, rfl, _⟩ := h0; exact ⟨_, _, rfl⟩
  obtain ⟨da, dn, dc, rfl⟩ := h2.shape
  have HN : Hid (Nil0 (.slice da dn dc)) := hN
  have HB : Hid (Below w.heap.size w (w.alloc (.cells #[.slice a0 T.length c0, .slice na L.length nc, .slice da dn dc] 28))) := hb
  have H0 : Hid (TensL (w.alloc (.cells #[.slice a0 T.length c0, .slice na L.length nc, .slice da dn dc] 28)) (.slice a0 T.length c0) T) := h0.later hb
  have H1 : Hid (Ints (w.alloc (.cells #[.slice a0 T.length c0, .slice na L.length nc, .slice da dn dc] 28)) (.slice na L.length nc) L) := h1.later hb
  have H2 : Hid (IntsL (w.alloc (.cells #[.slice a0 T.length c0, .slice na L.length nc, .slice da dn dc] 28)) (.slice da dn dc) D) := h2.later hb
  have hT := h0.1
  unfold big at hT
  have hcT : T.length ≤ c0 := by
    obtain ⟨_, a', c', e, h1, _⟩ := h0
    simp only [Value.slice.injEq] at e
    omega
  clear h0 h1 h2 hb hN
  go_enter Try.func4, Try.ntmps4
  go_wp2_with fail
  refine (heavy3_any H0.out H1.out H2.out).mono ?_
  rintro e w1 ⟨hv, rfl, hD, hb1⟩
  have HB1 : Hid (Below w.heap.size w w1) := Below.after HB.out hb1
  cases hv with
  | true =>
    clear hD hb1
    go_wp2
    go_ret
    exact ⟨rfl, HB1.out⟩
  | false =>
    have HND : Hid (Nil0 (.slice da dn dc) ∧ D.length ≤ 300) := ⟨HN.out, hD rfl⟩
    have HE : Hid (EnvA w.heap.size (.slice a0 T.length c0) (.slice na L.length nc) (.slice da dn dc) T D w1) := ⟨cell_later hb1 (by simp), cell_later hb1 (by simp), cell_later hb1 (by simp), H0.out.later hb1, H2.out.later hb1⟩
    clear hb1 H0 H1 H2 HB hD
    go_wp2
    refine aloop1 (W := w1) hcT hT HND HE ?_ _ _ ⟨rfl, rfl, rfl, rfl⟩ (Below.refl _ _)
    intro a3' w3 q hf3 hb3
    obtain ⟨G3, hg3, e3⟩ := act176 a3' hf3.d hf3.s
    clear hf3
    subst e3
    clear hg3
    go_wp2_with fail
    refine (wakes3_any _).mono ?_
    rintro e w5 ⟨rfl, hb5⟩
    have HB5 : Hid (Below w.heap.size w w5) := Below.after HB1.out (Below.after hb3 hb5)
    clear hb3 hb5
    go_wp2
    go_ret
    exact ⟨rfl, HB5.out⟩
end Go.Proofs.Ytgedknmjenbacaa
