/- Contracts: fit; each. -/
import Derived.Test.YtgedknmjenbacaaK1
namespace Go.Proofs.Ytgedknmjenbacaa
set_option linter.unusedVariables false
set_option linter.unusedSimpArgs false
open Go.RowKit

abbrev Ten := List Int × List Int
def fitE (s t : Ten) : Int := if tok s && tok t then (if s.1 == t.1 then 0 else 4) else 1
theorem tok_okd {t : Ten} (h : tok t = true) : okd t.1 = true := by
  simp only [tok, Bool.and_eq_true] at h
  exact h.1
theorem tok_len {t : Ten} (h : tok t = true) : (t.2.length : Int) = prd t.1 := by
  simp only [tok, Bool.and_eq_true, decide_eq_true_eq] at h
  exact h.2
theorem tensor_to {v0 v1 : Value} {t : Ten} {w : World} (x : Int) (h : Tens w v0 v1 t) (hx : tkE t = x) :
    Calls Try.prog 30 #[.agg #[v0, v1]] w fun e w' => e = .returned (.int .i64 x) ∧ Below w.heap.size w w' := by
  subst hx
  exact tensor_any h
theorem same_to {v v' : Value} {a b : List Int} {w : World} (x : Bool) (y : Int) (ha : Ints w v a) (hb : Ints w v' b) (hx : smB a b = x) (hy : smE a b = y) :
    Calls Try.prog 56 #[v, v'] w fun e w' => e = .returned (.tuple #[.bool x, .int .i64 y]) ∧ w = w' := by
  subst hx hy
  exact same_any ha hb

set_option maxHeartbeats 1000000 in
theorem fit_any {a0 a1 b0 b1 : Value} {s t : Ten} {w : World} (ha : Tens w a0 a1 s) (hb' : Tens w b0 b1 t) :
    Calls Try.prog 54 #[.agg #[a0, a1], .agg #[b0, b1]] w fun e w' => e = .returned (.int .i64 (fitE s t)) ∧ Below w.heap.size w w' := by
  have hb : Below w.heap.size w ((w.alloc (.cells #[a0, a1] 31)).alloc (.cells #[b0, b1] 31)) := ((Below.refl _ _).alloc (Nat.le_refl _) _).alloc (by simp) _
  have HA : Hid (Tens ((w.alloc (.cells #[a0, a1] 31)).alloc (.cells #[b0, b1] 31)) a0 a1 s) := ha.later hb
  have HT : Hid (Tens ((w.alloc (.cells #[a0, a1] 31)).alloc (.cells #[b0, b1] 31)) b0 b1 t) := hb'.later hb
  have HB : Hid (Below w.heap.size w ((w.alloc (.cells #[a0, a1] 31)).alloc (.cells #[b0, b1] 31))) := hb
  clear ha hb' hb
  cases hs : tok s with
  | false =>
    have HF : Hid (fitE s t = 1) := by show _ = _; simp [fitE, hs]
    have HS : Hid (tkE s = 1) := by show _ = _; simp [tkE, hs]
    clear hs
    go_enter Try.func54, Try.ntmps54
    go_wp2
    refine wp_scope_jumps 0 (fun a' w' => Below w.heap.size w w' ∧ ∃ (u0 u1 u2 u3 u4 u5 u6 u7 u8 u9 u10 u11 u12 u13 u14 u15 u16 u17 u18 u19 u20 u21 u22 u23 : Value), a' = { tmps := #[u0, u1, u2, u3, u4, u5, u6, u7, u8, u9, u10, u11, u12, u13, u14, u15, u16, u17, u18, u19, u20, u21, u22, u23], defers := [] }) (fun _ _ => 0) rfl ?_ ?_
    · go_wp2_with fail
      refine (tensor_to 1 HA.out HS.out).mono ?_
      rintro e w1 ⟨rfl, hb1⟩
      have HB1 : Hid (Below w.heap.size w w1) := Below.after HB.out hb1
      clear hb1
      go_wp2
      go_step3
      exact ⟨rfl, HB1.out, _, _, _, _, _, _, _, _, _, _, _, _, _, _, _, _, _, _, _, _, _, _, _, _, rfl⟩
    · rintro a w' ⟨hbj, u0, u1, u2, u3, u4, u5, u6, u7, u8, u9, u10, u11, u12, u13, u14, u15, u16, u17, u18, u19, u20, u21, u22, u23, rfl⟩
      have HBJ : Hid (Below w.heap.size w w') := hbj
      clear hbj
      go_wp2
      rw [jump_ret]
      go_ret
      exact ⟨by rw [HF.out]; rfl, HBJ.out⟩
  | true =>
    have HS : Hid (tkE s = 0) := by show _ = _; simp [tkE, hs]
    cases ht : tok t with
    | false =>
      have HF : Hid (fitE s t = 1) := by show _ = _; simp [fitE, hs, ht]
      have HT2 : Hid (tkE t = 1) := by show _ = _; simp [tkE, ht]
      clear hs ht
      go_enter Try.func54, Try.ntmps54
      go_wp2
      refine wp_scope_jumps 0 (fun a' w' => Below w.heap.size w w' ∧ ∃ (u0 u1 u2 u3 u4 u5 u6 u7 u8 u9 u10 u11 u12 u13 u14 u15 u16 u17 u18 u19 u20 u21 u22 u23 : Value), a' = { tmps := #[u0, u1, u2, u3, u4, u5, u6, u7, u8, u9, u10, u11, u12, u13, u14, u15, u16, u17, u18, u19, u20, u21, u22, u23], defers := [] }) (fun _ _ => 0) rfl ?_ ?_
      · go_wp2_with fail
        refine (tensor_to 0 HA.out HS.out).mono ?_
        rintro e w1 ⟨rfl, hb1⟩
        have hc0 : w1.cell? ⟨w.heap.size + 1, 0, none⟩ = some b0 := cell_later hb1 (by simp)
        have hc1 : w1.cell? ⟨w.heap.size + 1, 1, none⟩ = some b1 := cell_later hb1 (by simp)
        have HB1 : Hid (Below w.heap.size w w1) := Below.after HB.out hb1
        have HTL : Hid (Tens w1 b0 b1 t) := HT.out.later hb1
        clear hb1
        go_wp2_with fail
        refine (tensor_to 1 HTL.out HT2.out).mono ?_
        rintro e w2 ⟨rfl, hb2⟩
        have HB2 : Hid (Below w.heap.size w w2) := Below.after HB1.out hb2
        clear hb2
        go_wp2
        go_step3
        exact ⟨rfl, HB2.out, _, _, _, _, _, _, _, _, _, _, _, _, _, _, _, _, _, _, _, _, _, _, _, _, rfl⟩
      · rintro a w' ⟨hbj, u0, u1, u2, u3, u4, u5, u6, u7, u8, u9, u10, u11, u12, u13, u14, u15, u16, u17, u18, u19, u20, u21, u22, u23, rfl⟩
        have HBJ : Hid (Below w.heap.size w w') := hbj
        clear hbj
        go_wp2
        rw [jump_ret]
        go_ret
        exact ⟨by rw [HF.out]; rfl, HBJ.out⟩
    | true =>
      have HT2 : Hid (tkE t = 0) := by show _ = _; simp [tkE, ht]
      have hso := tok_okd hs
      have hto := tok_okd ht
      have HE : Hid (smE s.1 t.1 = 0) := by show _ = _; simp [smE, hso, hto]
      by_cases hd : s.1 = t.1
      · have HF : Hid (fitE s t = 0) := by show _ = _; simp [fitE, hs, ht, hd]
        have HSB : Hid (smB s.1 t.1 = true) := by show _ = _; simp [smB, hso, hto, hd]
        clear hs ht hso hto hd
        go_enter Try.func54, Try.ntmps54
        go_wp2
        refine wp_scope_jumps 0 (fun _ _ => False) (fun _ _ => 0) rfl ?_ (fun _ _ h => h.elim)
        go_wp2_with fail
        refine (tensor_to 0 HA.out HS.out).mono ?_
        rintro e w1 ⟨rfl, hb1⟩
        have hc0 : w1.cell? ⟨w.heap.size + 1, 0, none⟩ = some b0 := cell_later hb1 (by simp)
        have hc1 : w1.cell? ⟨w.heap.size + 1, 1, none⟩ = some b1 := cell_later hb1 (by simp)
        have hc2 : w1.cell? ⟨w.heap.size, 0, none⟩ = some a0 := cell_later hb1 (by simp)
        have HB1 : Hid (Below w.heap.size w w1) := Below.after HB.out hb1
        have HTL : Hid (Tens w1 b0 b1 t) := HT.out.later hb1
        have HAL : Hid (Tens w1 a0 a1 s) := HA.out.later hb1
        clear hb1
        go_wp2_with fail
        refine (tensor_to 0 HTL.out HT2.out).mono ?_
        rintro e w2 ⟨rfl, hb2⟩
        have hd0 : w2.cell? ⟨w.heap.size + 1, 0, none⟩ = some b0 := cell_later hb2 hc0
        have hd2 : w2.cell? ⟨w.heap.size, 0, none⟩ = some a0 := cell_later hb2 hc2
        have HB2 : Hid (Below w.heap.size w w2) := Below.after HB1.out hb2
        have HT3 : Hid (Tens w2 b0 b1 t) := HTL.out.later hb2
        have HA3 : Hid (Tens w2 a0 a1 s) := HAL.out.later hb2
        clear hb2
        go_wp2_with fail
        refine (same_to true 0 HA3.out.1 HT3.out.1 HSB.out HE.out).mono ?_
        rintro e w3 ⟨rfl, rfl⟩
        go_wp2
        rw [jump_ret]
        go_ret
        exact ⟨by rw [HF.out]; rfl, HB2.out⟩
      · have HF : Hid (fitE s t = 4) := by show _ = _; simp [fitE, hs, ht, hd]
        have HSB : Hid (smB s.1 t.1 = false) := by show _ = _; simp [smB, hso, hto, hd]
        clear hs ht hso hto hd
        go_enter Try.func54, Try.ntmps54
        go_wp2
        refine wp_scope_jumps 1 (fun a' w' => Below w.heap.size w w' ∧ ∃ (u0 u1 u2 u3 u4 u5 u6 u7 u8 u9 u10 u11 u12 u13 u14 u15 u16 u17 u18 u19 u20 u21 u22 u23 : Value), a' = { tmps := #[u0, u1, u2, u3, u4, u5, u6, u7, u8, u9, u10, u11, u12, u13, u14, u15, u16, u17, u18, u19, u20, u21, u22, u23], defers := [] }) (fun _ _ => 0) rfl ?_ ?_
        · go_wp2_with fail
          refine (tensor_to 0 HA.out HS.out).mono ?_
          rintro e w1 ⟨rfl, hb1⟩
          have hc0 : w1.cell? ⟨w.heap.size + 1, 0, none⟩ = some b0 := cell_later hb1 (by simp)
          have hc1 : w1.cell? ⟨w.heap.size + 1, 1, none⟩ = some b1 := cell_later hb1 (by simp)
          have hc2 : w1.cell? ⟨w.heap.size, 0, none⟩ = some a0 := cell_later hb1 (by simp)
          have HB1 : Hid (Below w.heap.size w w1) := Below.after HB.out hb1
          have HTL : Hid (Tens w1 b0 b1 t) := HT.out.later hb1
          have HAL : Hid (Tens w1 a0 a1 s) := HA.out.later hb1
          clear hb1
          go_wp2_with fail
          refine (tensor_to 0 HTL.out HT2.out).mono ?_
          rintro e w2 ⟨rfl, hb2⟩
          have hd0 : w2.cell? ⟨w.heap.size + 1, 0, none⟩ = some b0 := cell_later hb2 hc0
          have hd2 : w2.cell? ⟨w.heap.size, 0, none⟩ = some a0 := cell_later hb2 hc2
          have HB2 : Hid (Below w.heap.size w w2) := Below.after HB1.out hb2
          have HT3 : Hid (Tens w2 b0 b1 t) := HTL.out.later hb2
          have HA3 : Hid (Tens w2 a0 a1 s) := HAL.out.later hb2
          clear hb2
          go_wp2_with fail
          refine (same_to false 0 HA3.out.1 HT3.out.1 HSB.out HE.out).mono ?_
          rintro e w3 ⟨rfl, rfl⟩
          go_wp2
          go_step3
          exact ⟨rfl, HB2.out, _, _, _, _, _, _, _, _, _, _, _, _, _, _, _, _, _, _, _, _, _, _, _, _, rfl⟩
        · rintro a w' ⟨hbj, u0, u1, u2, u3, u4, u5, u6, u7, u8, u9, u10, u11, u12, u13, u14, u15, u16, u17, u18, u19, u20, u21, u22, u23, rfl⟩
          have HBJ : Hid (Below w.heap.size w w') := hbj
          clear hbj
          go_wp2
          rw [jump_ret]
          go_ret
          exact ⟨by rw [HF.out]; rfl, HBJ.out⟩
end Go.Proofs.Ytgedknmjenbacaa
