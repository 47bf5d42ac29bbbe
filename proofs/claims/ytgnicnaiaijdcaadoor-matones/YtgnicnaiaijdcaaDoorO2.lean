/- The law MatOnes: its walk. -/
import Derived.Test.YtgnicnaiaijdcaaDoorO1
namespace Go.Proofs.YtgnicnaiaijdcaaDoor
set_option linter.unusedVariables false
set_option linter.unusedSimpArgs false
open Go.RowKit

set_option maxRecDepth 100000 in
set_option maxHeartbeats 8000000 in
theorem matOnes_any {f0 f1 : Value} {T : List Ten} {L : List Int} {w : World} (hg : w.cell? ⟨2, 1, none⟩ = some (.int .u8 1)) (h0 : TensL w f0 T ∧ ∀ t ∈ T, Rg t.2) (h1 : Ints w f1 L ∧ L.length ≤ 17592186043904) :
    Calls Tryd.prog 5 #[.agg #[f0, f1]] w fun e w' => e = .returned (.bool true) ∧ Below w.heap.size w w' := by
  obtain ⟨h0, hrt⟩ := h0
  obtain ⟨h1, hN8⟩ := h1
  have HRT : Hid (∀ t ∈ T, Rg t.2) := hrt
  have hb : Below w.heap.size w (w.alloc (.cells #[f0, f1] 25)) := (Below.refl _ _).alloc (Nat.le_refl _) _
  obtain ⟨na, nc, rfl⟩ := h1.shape
  obtain ⟨a0, c0, rfl⟩ : ∃ a c, f0 = .slice a T.length c := by obtain ⟨_, a0, c0, rfl, _⟩ := h0; exact ⟨_, _, rfl⟩
  have HB : Hid (Below w.heap.size w (w.alloc (.cells #[.slice a0 T.length c0, .slice na L.length nc] 25))) := hb
  have HG : Hid ((w.alloc (.cells #[.slice a0 T.length c0, .slice na L.length nc] 25)).cell? ⟨2, 1, none⟩ = some (.int .u8 1)) := cell_later hb hg
  have H0 : Hid (TensL (w.alloc (.cells #[.slice a0 T.length c0, .slice na L.length nc] 25)) (.slice a0 T.length c0) T) := h0.later hb
  have H1 : Hid (Ints (w.alloc (.cells #[.slice a0 T.length c0, .slice na L.length nc] 25)) (.slice na L.length nc) L) := h1.later hb
  have hT := h0.1
  unfold big at hT
  have hcT : T.length ≤ c0 := by
    obtain ⟨_, a', c', e, h1, _⟩ := h0
    simp only [Value.slice.injEq] at e
    omega
  clear h0 h1 hb hrt hg
  go_enter Tryd.func5, Tryd.ntmps5
  go_wp2_with fail
  refine (heavy2_any H0.out H1.out).mono ?_
  rintro e w1 ⟨hv, rfl, hb1⟩
  have HB1 : Hid (Below w.heap.size w w1) := Below.after HB.out hb1
  cases hv with
  | true =>
    go_wp2
    go_ret
    exact ⟨rfl, HB1.out⟩
  | false =>
    have HE : Hid (EnvM w.heap.size (.slice a0 T.length c0) (.slice na L.length nc) T L w1) := ⟨cell_later hb1 (by simp), cell_later hb1 (by simp), H0.out.later hb1, H1.out.later hb1, cell_later hb1 HG.out⟩
    clear hb1 H0 H1 HB HG
    go_wp2
    refine oloop (W := w1) hcT hT HRT HE ?_ _ _ ⟨rfl, rfl, rfl, rfl⟩ (Below.refl _ _)
    intro a3' w3 q hf3 hb3
    obtain ⟨G3, hg3, e3⟩ := act136 a3' hf3.d hf3.s
    clear hf3
    subst e3
    clear hg3
    go_wp2_with fail
    refine wakes4_any.mono ?_
    rintro e w5 ⟨rfl, hb5⟩
    have HB5 : Hid (Below w.heap.size w w5) := Below.after HB1.out (Below.after hb3 hb5)
    clear hb3 hb5
    go_wp2
    go_ret
    exact ⟨rfl, HB5.out⟩
end Go.Proofs.YtgnicnaiaijdcaaDoor
