/- The law TurnBack: its outer loop, and its walk. -/
import Derived.Test.YtgedknmjenbacaaB1
namespace Go.Proofs.Ytgedknmjenbacaa
set_option linter.unusedVariables false
set_option linter.unusedSimpArgs false
open Go.RowKit

structure FrB0 (B i : Nat) (a : Act) : Prop where
  d : a.defers = []
  s : a.tmps.size = 102
  f1 : a.tmps.getD 1 undef = .pointer (some ⟨B, 0, none⟩)
  f3 : a.tmps.getD 3 undef = .int .i64 i

set_option maxRecDepth 1000000 in
set_option maxHeartbeats 8000000 in
theorem bloop1 {B c0 : Nat} {f : Option Addr} {f1 f2 : Value} {T : List Ten} {D : List (List Int)} {W : World} {Q : Exit → Act → World → Prop}
    (hcT : T.length ≤ c0) (hT0 : T.length ≤ 17592186044416) (HN : Hid (Nil0 f2 ∧ D.length ≤ 300))
    (HE : Hid (EnvA B (.slice f T.length c0) f1 f2 T D W))
    (hexit : ∀ a' w' i, FrB0 B i a' → Below W.heap.size W w' → Q (.exit 0) a' w')
    (a : Act) (w : World) (ha : FrB0 B 0 a) (hb : Below W.heap.size W w) :
    Code.wp Try.prog (.loop (((Try.f5.body.map loopsIn).getD []).getD 0 .skip)) Q a w := by
  refine wp_loop (fun a' w' => (∃ i : Nat, i ≤ T.length ∧ i ≤ 5 ∧ FrB0 B i a') ∧ Below W.heap.size W w') (fun a' _ => 5 - slotNat a' 3) ⟨⟨0, by omega, by omega, ha⟩, hb⟩ ?_
  clear ha hb
  clear a w
  intro a w ⟨⟨i, hi, hi6, hf⟩, hb⟩
  obtain ⟨G, hg, e⟩ := act102 a hf.d hf.s
  obtain ⟨hz1, hz2, g1, g3⟩ := hf
  rw [hg] at g1 g3
  clear hz1 hz2
  subst e
  clear hg
  rw [g1, g3]
  have HEX : Hid (∀ a' w' i, FrB0 B i a' → Below W.heap.size W w' → Q (.exit 0) a' w') := hexit
  have HB : Hid (Below W.heap.size W w) := hb
  have HEW : Hid (EnvA B (.slice f T.length c0) f1 f2 T D w) := HE.out.later hb
  clear hexit hb g1 g3
  have hbx := HEW.out.b0
  conv => arg 2; whnf
  by_cases hlt : i < T.length
  · by_cases hlt6 : i < 5
    · obtain ⟨tb, tof, xa, xc, ya, yc, ea, hr1, hr2, HTT⟩ := HEW.out.hT.row i hlt
      subst ea
      obtain ⟨t, ht⟩ : ∃ t, T[i] = t := ⟨_, rfl⟩
      rw [ht] at hr1 hr2 HTT
      obtain ⟨xn, hxn⟩ : ∃ n, t.1.length = n := ⟨_, rfl⟩
      obtain ⟨yn, hyn⟩ : ∃ n, t.2.length = n := ⟨_, rfl⟩
      rw [hxn] at hr1 HTT
      rw [hyn] at hr2 HTT
      clear ht hxn hyn
      have hv : Below w.heap.size w (w.alloc (.cells #[.slice xa xn xc, .slice ya yn yc] 31)) := Below.push (Below.refl _ _) _
      have HL1 : Hid (TB (w.alloc (.cells #[.slice xa xn xc, .slice ya yn yc] 31)) w.heap.size (.slice xa xn xc) (.slice ya yn yc) t) := ⟨Box.new _ _ _, HTT.out.later hv⟩
      have HE1 : Hid (EnvA B (.slice (some ⟨tb, tof, none⟩) T.length c0) f1 f2 T D (w.alloc (.cells #[.slice xa xn xc, .slice ya yn yc] 31))) := HEW.out.later hv
      have HB1 : Hid (Below w.heap.size w (w.alloc (.cells #[.slice xa xn xc, .slice ya yn yc] 31))) := hv
      have p0 := HE1.out.b0
      have p1 := HE1.out.b1
      have p2 := HE1.out.b2
      have u0 := HL1.out.box.c0
      have u1 := HL1.out.box.c1
      clear hv
      go_wp2_with fail
      refine (dims_any HE1.out.hD HN.out.1 HN.out.2 HL1.out.ten).mono ?_
      rintro e w2 ⟨v, L, rfl, hil, hL20, hb2⟩
      obtain ⟨da, n, c, rfl⟩ := hil.shape
      have hn20 : n ≤ 20 := by have := (hil.len).1; omega
      have HLS : Hid (IntsL w2 (.slice da n c) L) := hil
      have HL2 : Hid (TB w2 w.heap.size (.slice xa xn xc) (.slice ya yn yc) t) := HL1.out.later hb2
      have HB2 : Hid (Below w.heap.size w w2) := Below.after HB1.out hb2
      clear hil hb2 p0 p1 p2 u0 u1 HE1 HL1 HB1 hL20
      go_wp2
      refine bloop2 (W := w2) (t := t) (L := L) hn20 ⟨HL2.out, HLS.out⟩ ?_ _ _ ⟨rfl, rfl, rfl, rfl, rfl, rfl⟩ rfl (Below.refl _ _)
      intro a9 w9 hf9 hb9
      obtain ⟨G9, hg9, e9⟩ := act102 a9 hf9.d hf9.s
      obtain ⟨hz1, hz2, g1, g3, g4, g5⟩ := hf9
      rw [hg9] at g1 g3
      clear hz1 hz2 g4 g5
      subst e9
      clear hg9
      rw [g1, g3]
      clear g1 g3
      go_wp2
      refine ⟨⟨⟨i + 1, by omega, by omega, rfl, rfl, rfl, ?_⟩, Below.after HB.out (Below.after HB2.out hb9)⟩, ?_⟩
      · show Value.int .i64 _ = _
        go_num
      · show 5 - (intOf (Value.int .i64 _)).toNat < 5 - (intOf (Value.int .i64 _)).toNat
        simp [intOf]
        omega
    · go_wp2
      exact HEX.out _ _ i ⟨rfl, rfl, rfl, rfl⟩ HB.out
  · go_wp2
    exact HEX.out _ _ i ⟨rfl, rfl, rfl, rfl⟩ HB.out

set_option maxRecDepth 100000 in
set_option maxHeartbeats 8000000 in
theorem turnBack_any {f0 f1 f2 : Value} {T : List Ten} {L : List Int} {D : List (List Int)} {w : World} (h0 : TensL w f0 T ∧ ∀ t ∈ T, Rg t.2) (h1 : Ints w f1 L) (h2 : IntsL w f2 D) (hN : Nil0 f2) :
    Calls Try.prog 5 #[.agg #[f0, f1, f2]] w fun e w' => e = .returned (.bool true) ∧ Below w.heap.size w w' := by
  obtain ⟨h0, _⟩ := h0
  have hb : Below w.heap.size w (w.alloc (.cells #[f0, f1, f2] 28)) := (Below.refl _ _).alloc (Nat.le_refl _) _
  obtain ⟨na, nc, rfl⟩ := h1.shape
  obtain ⟨a0, c0, rfl⟩ : ∃ a c, f0 = .slice a T.length c := by obtain ⟨_, a0, c0, rfl, _⟩ := h0; exact ⟨_, _, rfl⟩
  obtain ⟨da, dn, dc, rfl⟩ := h2.shape
  have HN : Hid (Nil0 (.slice da dn dc)) := hN
  have HB : Hid (Below w.heap.size w (w.alloc (.cells #[.slice a0 T.length c0, .slice na L.length nc, .slice da dn dc] 28))) := hb
  have H0 : Hid (TensL (w.alloc (.cells #[.slice a0 T.length c0, .slice na L.length nc, .slice da dn dc] 28)) (.slice a0 T.length c0) T) := h0.later hb
  have H1 : Hid (Ints (w.alloc (.cells #[.slice a0 T.length c0, .slice na L.length nc, .slice da dn dc] 28)) (.slice na L.length nc) L) := h1.later hb
  have H2 : Hid (IntsL (w.alloc (.cells #[.slice a0 T.length c0, .slice na L.length nc, .slice da dn dc] 28)) (.slice da dn dc) D) := h2.later hb
  have hT := h0.1
  unfold big at hT
  have hcT : T.length ≤ c0 := by
    obtain ⟨_, a', c', e, h1, _⟩ := h0
    simp only [Value.slice.injEq] at e
    omega
  clear h0 h1 h2 hb hN
  go_enter Try.func5, Try.ntmps5
  go_wp2_with fail
  refine (heavy3_any H0.out H1.out H2.out).mono ?_
  rintro e w1 ⟨hv, rfl, hD, hb1⟩
  have HB1 : Hid (Below w.heap.size w w1) := Below.after HB.out hb1
  cases hv with
  | true =>
    clear hD hb1
    go_wp2
    go_ret
    exact ⟨rfl, HB1.out⟩
  | false =>
    have HND : Hid (Nil0 (.slice da dn dc) ∧ D.length ≤ 300) := ⟨HN.out, hD rfl⟩
    have HE : Hid (EnvA w.heap.size (.slice a0 T.length c0) (.slice na L.length nc) (.slice da dn dc) T D w1) := ⟨cell_later hb1 (by simp), cell_later hb1 (by simp), cell_later hb1 (by simp), H0.out.later hb1, H2.out.later hb1⟩
    clear hb1 H0 H1 H2 HB hD
    go_wp2
    refine bloop1 (W := w1) hcT hT HND HE ?_ _ _ ⟨rfl, rfl, rfl, rfl⟩ (Below.refl _ _)
    intro a3' w3 q hf3 hb3
    obtain ⟨G3, hg3, e3⟩ := act102 a3' hf3.d hf3.s
    clear hf3
    subst e3
    clear hg3
    go_wp2_with fail
    refine (wakes3_any _).mono ?_
    rintro e w5 ⟨rfl, hb5⟩
    have HB5 : Hid (Below w.heap.size w w5) := Below.after HB1.out (Below.after hb3 hb5)
    clear hb3 hb5
    go_wp2
    go_ret
    exact ⟨rfl, HB5.out⟩
end Go.Proofs.Ytgedknmjenbacaa
