/- The law RingEach: its outer loop, and its walk. -/
import Derived.Test.YtoocfoodnkikeaaE5
namespace Go.Proofs.Ytoocfoodnkikeaa
set_option linter.unusedVariables false
set_option linter.unusedSimpArgs false
open Go.RowKit

structure FrE0 (B i : Nat) (a : Act) : Prop where
  d : a.defers = []
  s : a.tmps.size = 190
  f1 : a.tmps.getD 1 undef = .pointer (some ⟨B, 0, none⟩)
  f3 : a.tmps.getD 3 undef = .int .i64 i

set_option maxRecDepth 1000000 in
set_option maxHeartbeats 8000000 in
theorem eloop1 {B c0 : Nat} {f : Option Addr} {T : List Ten} {W : World} {Q : Exit → Act → World → Prop}
    (hcT : T.length ≤ c0) (hT0 : T.length ≤ 17592186044416)
    (HE : Hid (EnvE B (.slice f T.length c0) T W))
    (hexit : ∀ a' w' i, FrE0 B i a' → Below W.heap.size W w' → Q (.exit 0) a' w')
    (a : Act) (w : World) (ha : FrE0 B 0 a) (hb : Below W.heap.size W w) :
    Code.wp Try.prog (.loop (((Try.f3.body.map loopsIn).getD []).getD 0 .skip)) Q a w := by
  refine wp_loop (fun a' w' => (∃ i : Nat, i ≤ T.length ∧ i ≤ 6 ∧ FrE0 B i a') ∧ Below W.heap.size W w') (fun a' _ => 6 - slotNat a' 3) ⟨⟨0, by omega, by omega, ha⟩, hb⟩ ?_
  clear ha hb
  clear a w
  intro a w ⟨⟨i, hi, hi6, hf⟩, hb⟩
  obtain ⟨G, hg, e⟩ := act190 a hf.d hf.s
  obtain ⟨hz1, hz2, g1, g3⟩ := hf
  rw [hg] at g1 g3
  clear hz1 hz2
  subst e
  clear hg
  rw [g1, g3]
  have HEX : Hid (∀ a' w' i, FrE0 B i a' → Below W.heap.size W w' → Q (.exit 0) a' w') := hexit
  have HB : Hid (Below W.heap.size W w) := hb
  have HEW : Hid (EnvE B (.slice f T.length c0) T w) := HE.out.later hb
  clear hexit hb g1 g3
  have hbx := HEW.out.b0
  conv => arg 2; whnf
  by_cases hlt : i < T.length
  · by_cases hlt6 : i < 6
    · go_wp2
      refine eloop2 (W := w) hlt hcT hT0 HEW ?_ _ _ ⟨rfl, rfl, rfl, rfl, rfl⟩ (Below.refl _ _)
      intro a9 w9 k9 hf9 hb9
      obtain ⟨G9, hg9, e9⟩ := act190 a9 hf9.d hf9.s
      obtain ⟨hz1, hz2, g1, g3, g4⟩ := hf9
      rw [hg9] at g1 g3
      clear hz1 hz2 g4
      subst e9
      clear hg9
      rw [g1, g3]
      clear g1 g3
      go_wp2
      refine ⟨⟨⟨i + 1, by omega, by omega, rfl, rfl, rfl, ?_⟩, Below.after HB.out hb9⟩, ?_⟩
      · show Value.int .i64 _ = _
        go_num
      · show 6 - (intOf (Value.int .i64 _)).toNat < 6 - (intOf (Value.int .i64 _)).toNat
        simp [intOf]
        omega
    · go_wp2
      exact HEX.out _ _ i ⟨rfl, rfl, rfl, rfl⟩ HB.out
  · go_wp2
    exact HEX.out _ _ i ⟨rfl, rfl, rfl, rfl⟩ HB.out

set_option maxRecDepth 100000 in
set_option maxHeartbeats 8000000 in
theorem ringEach_any {f0 f1 : Value} {T : List Ten} {L : List Int} {w : World} (h0 : TensL w f0 T ∧ ∀ t ∈ T, Rg t.2) (h1 : Ints w f1 L ∧ L.length ≤ 17592186043904) :
    Calls Try.prog 3 #[.agg #[f0, f1]] w fun e w' => e = .returned (.bool true) ∧ Below w.heap.size w w' := by
  obtain ⟨h0, _⟩ := h0
  obtain ⟨h1, hN8⟩ := h1
  have hb : Below w.heap.size w (w.alloc (.cells #[f0, f1] 25)) := (Below.refl _ _).alloc (Nat.le_refl _) _
  obtain ⟨na, nc, rfl⟩ := h1.shape
  obtain ⟨a0, c0, rfl⟩ : ∃ a c, f0 = .slice a T.length c := by obtain ⟨_, a0, c0, rfl, _⟩ := h0; exact ⟨_, _, rfl⟩
  have HB : Hid (Below w.heap.size w (w.alloc (.cells #[.slice a0 T.length c0, .slice na L.length nc] 25))) := hb
  have H0 : Hid (TensL (w.alloc (.cells #[.slice a0 T.length c0, .slice na L.length nc] 25)) (.slice a0 T.length c0) T) := h0.later hb
  have H1 : Hid (Ints (w.alloc (.cells #[.slice a0 T.length c0, .slice na L.length nc] 25)) (.slice na L.length nc) L) := h1.later hb
  have hT := h0.1
  unfold big at hT
  have hcT : T.length ≤ c0 := by
    obtain ⟨_, a', c', e, h1, _⟩ := h0
    simp only [Value.slice.injEq] at e
    omega
  clear h0 h1 hb
  go_enter Try.func3, Try.ntmps3
  go_wp2_with fail
  refine (heavy2_any H0.out H1.out).mono ?_
  rintro e w1 ⟨hv, rfl, hb1⟩
  have HB1 : Hid (Below w.heap.size w w1) := Below.after HB.out hb1
  cases hv with
  | true =>
    go_wp2
    go_ret
    exact ⟨rfl, HB1.out⟩
  | false =>
    have HE : Hid (EnvE w.heap.size (.slice a0 T.length c0) T w1) := ⟨cell_later hb1 (by simp), H0.out.later hb1⟩
    clear hb1 H0 H1 HB
    go_wp2
    refine eloop1 (W := w1) hcT hT HE ?_ _ _ ⟨rfl, rfl, rfl, rfl⟩ (Below.refl _ _)
    intro a3' w3 q hf3 hb3
    obtain ⟨G3, hg3, e3⟩ := act190 a3' hf3.d hf3.s
    clear hf3
    subst e3
    clear hg3
    go_wp2_with fail
    refine (wakes_any _).mono ?_
    rintro e w5 ⟨rfl, hb5⟩
    have HB5 : Hid (Below w.heap.size w w5) := Below.after HB1.out (Below.after hb3 hb5)
    clear hb3 hb5
    go_wp2
    go_ret
    exact ⟨rfl, HB5.out⟩
end Go.Proofs.Ytoocfoodnkikeaa
