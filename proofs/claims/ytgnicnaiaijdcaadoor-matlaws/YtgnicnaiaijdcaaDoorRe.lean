/- MatLaws: the region with its three squares. -/
import Derived.Test.YtgnicnaiaijdcaaDoorRd
namespace Go.Proofs.YtgnicnaiaijdcaaDoor
set_option linter.unusedVariables false
set_option linter.unusedSimpArgs false
open Go.RowKit

noncomputable def ops7 : Array Oper := opsOf ((((Tryd.f4.body.map regs).getD []).getD 6 (0, .skip)).2)
theorem at0 : OpAt ops7 0 (some 61) (.fieldAddr 25 (.tmp 1) 0) := ⟨_, rfl, rfl, rfl, rfl⟩
theorem at1 : OpAt ops7 1 (some 62) (.load 22 (.tmp 61)) := ⟨_, rfl, rfl, rfl, rfl⟩
theorem at2 : OpAt ops7 2 (some 63) (.move (.tmp 3)) := ⟨_, rfl, rfl, rfl, rfl⟩
theorem at3 : OpAt ops7 3 (some 64) (.indexAddr 22 (.tmp 62) (.tmp 63)) := ⟨_, rfl, rfl, rfl, rfl⟩
theorem at4 : OpAt ops7 4 (some 65) (.load 28 (.tmp 64)) := ⟨_, rfl, rfl, rfl, rfl⟩
theorem at5 : OpAt ops7 5 (some 66) (.move (.tmp 4)) := ⟨_, rfl, rfl, rfl, rfl⟩
theorem at7 : OpAt ops7 7 (some 68) (.fieldAddr 25 (.tmp 1) 0) := ⟨_, rfl, rfl, rfl, rfl⟩
theorem at8 : OpAt ops7 8 (some 69) (.load 22 (.tmp 68)) := ⟨_, rfl, rfl, rfl, rfl⟩
theorem at9 : OpAt ops7 9 (some 70) (.move (.tmp 3)) := ⟨_, rfl, rfl, rfl, rfl⟩
theorem at10 : OpAt ops7 10 (some 71) (.binOp .add 3 (.tmp 70) (.const (.int .i64 1)) 3) := ⟨_, rfl, rfl, rfl, rfl⟩
theorem at11 : OpAt ops7 11 (some 72) (.indexAddr 22 (.tmp 69) (.tmp 71)) := ⟨_, rfl, rfl, rfl, rfl⟩
theorem at12 : OpAt ops7 12 (some 73) (.load 28 (.tmp 72)) := ⟨_, rfl, rfl, rfl, rfl⟩
theorem at13 : OpAt ops7 13 (some 74) (.move (.tmp 4)) := ⟨_, rfl, rfl, rfl, rfl⟩
theorem at15 : OpAt ops7 15 (some 76) (.fieldAddr 25 (.tmp 1) 0) := ⟨_, rfl, rfl, rfl, rfl⟩
theorem at16 : OpAt ops7 16 (some 77) (.load 22 (.tmp 76)) := ⟨_, rfl, rfl, rfl, rfl⟩
theorem at17 : OpAt ops7 17 (some 78) (.move (.tmp 3)) := ⟨_, rfl, rfl, rfl, rfl⟩
theorem at18 : OpAt ops7 18 (some 79) (.binOp .add 3 (.tmp 78) (.const (.int .i64 2)) 3) := ⟨_, rfl, rfl, rfl, rfl⟩
theorem at19 : OpAt ops7 19 (some 80) (.indexAddr 22 (.tmp 77) (.tmp 79)) := ⟨_, rfl, rfl, rfl, rfl⟩
theorem at20 : OpAt ops7 20 (some 81) (.load 28 (.tmp 80)) := ⟨_, rfl, rfl, rfl, rfl⟩
theorem at21 : OpAt ops7 21 (some 82) (.move (.tmp 4)) := ⟨_, rfl, rfl, rfl, rfl⟩
theorem at6 : OpAt ops7 6 (some 67) (.call { callee := .value (.func 22), args := #[.tmp 65, .tmp 66], argTypes := #[28, 3] }) := ⟨_, rfl, rfl, rfl, rfl⟩
theorem at14 : OpAt ops7 14 (some 75) (.call { callee := .value (.func 22), args := #[.tmp 73, .tmp 74], argTypes := #[28, 3] }) := ⟨_, rfl, rfl, rfl, rfl⟩
theorem at22 : OpAt ops7 22 (some 83) (.call { callee := .value (.func 22), args := #[.tmp 81, .tmp 82], argTypes := #[28, 3] }) := ⟨_, rfl, rfl, rfl, rfl⟩
theorem at23 : OpAt ops7 23 (some 5) (.alloc 28) := ⟨_, rfl, rfl, rfl, rfl⟩
theorem at24 : OpAt ops7 24 (some 6) (.alloc 28) := ⟨_, rfl, rfl, rfl, rfl⟩
theorem at25 : OpAt ops7 25 (some 7) (.alloc 28) := ⟨_, rfl, rfl, rfl, rfl⟩
theorem at26 : OpAt ops7 26 none (.store 28 (.tmp 5) (.tmp 67)) := ⟨_, rfl, rfl, rfl, rfl⟩
theorem at27 : OpAt ops7 27 none (.store 28 (.tmp 6) (.tmp 75)) := ⟨_, rfl, rfl, rfl, rfl⟩
theorem at28 : OpAt ops7 28 none (.store 28 (.tmp 7) (.tmp 83)) := ⟨_, rfl, rfl, rfl, rfl⟩
theorem size7 : ops7.size = 29 := rfl
theorem early7 : earlier ops7 = true := by decide +kernel
theorem wf1_0 : waitsFor ops7 1 0 = true := by decide +kernel
theorem wf3_1 : waitsFor ops7 3 1 = true := by decide +kernel
theorem wf3_2 : waitsFor ops7 3 2 = true := by decide +kernel
theorem wf4_3 : waitsFor ops7 4 3 = true := by decide +kernel
theorem wf6_4 : waitsFor ops7 6 4 = true := by decide +kernel
theorem wf6_5 : waitsFor ops7 6 5 = true := by decide +kernel
theorem wf8_7 : waitsFor ops7 8 7 = true := by decide +kernel
theorem wf10_9 : waitsFor ops7 10 9 = true := by decide +kernel
theorem wf11_8 : waitsFor ops7 11 8 = true := by decide +kernel
theorem wf11_10 : waitsFor ops7 11 10 = true := by decide +kernel
theorem wf12_11 : waitsFor ops7 12 11 = true := by decide +kernel
theorem wf14_12 : waitsFor ops7 14 12 = true := by decide +kernel
theorem wf14_13 : waitsFor ops7 14 13 = true := by decide +kernel
theorem wf16_15 : waitsFor ops7 16 15 = true := by decide +kernel
theorem wf18_17 : waitsFor ops7 18 17 = true := by decide +kernel
theorem wf19_16 : waitsFor ops7 19 16 = true := by decide +kernel
theorem wf19_18 : waitsFor ops7 19 18 = true := by decide +kernel
theorem wf20_19 : waitsFor ops7 20 19 = true := by decide +kernel
theorem wf22_20 : waitsFor ops7 22 20 = true := by decide +kernel
theorem wf22_21 : waitsFor ops7 22 21 = true := by decide +kernel
theorem wf26_23 : waitsFor ops7 26 23 = true := by decide +kernel
theorem wf26_6 : waitsFor ops7 26 6 = true := by decide +kernel
theorem wf27_24 : waitsFor ops7 27 24 = true := by decide +kernel
theorem wf27_14 : waitsFor ops7 27 14 = true := by decide +kernel
theorem wf28_25 : waitsFor ops7 28 25 = true := by decide +kernel
theorem wf28_22 : waitsFor ops7 28 22 = true := by decide +kernel

/-- What each operation that only reads yields. -/
def Cst (B tb tof lT c0 i n : Nat) (xi yi xj yj xk yk : Value) : Nat → Option Value
  | 0 => some (.pointer (some ⟨B, 0, none⟩))
  | 1 => some (.slice (some ⟨tb, tof, none⟩) lT c0)
  | 2 => some (.int .i64 (i : Nat))
  | 3 => some (.pointer (some ⟨tb, tof + i * 2, none⟩))
  | 4 => some (.agg #[xi, yi])
  | 5 => some (.int .i64 (n : Nat))
  | 7 => some (.pointer (some ⟨B, 0, none⟩))
  | 8 => some (.slice (some ⟨tb, tof, none⟩) lT c0)
  | 9 => some (.int .i64 (i : Nat))
  | 10 => some (.int .i64 ((i + 1 : Nat) : Int))
  | 11 => some (.pointer (some ⟨tb, tof + (i + 1) * 2, none⟩))
  | 12 => some (.agg #[xj, yj])
  | 13 => some (.int .i64 (n : Nat))
  | 15 => some (.pointer (some ⟨B, 0, none⟩))
  | 16 => some (.slice (some ⟨tb, tof, none⟩) lT c0)
  | 17 => some (.int .i64 (i : Nat))
  | 18 => some (.int .i64 ((i + 2 : Nat) : Int))
  | 19 => some (.pointer (some ⟨tb, tof + (i + 2) * 2, none⟩))
  | 20 => some (.agg #[xk, yk])
  | 21 => some (.int .i64 (n : Nat))
  | _ => none

structure Iv (w0 : World) (B tb tof lT c0 i n : Nat) (xi yi xj yj xk yk : Value) (listed : Array Bool) (a : Act) (w : World) : Prop where
  ls : listed.size = 29
  d : a.defers = []
  s : a.tmps.size = 245
  f1 : a.tmps.getD 1 undef = .pointer (some ⟨B, 0, none⟩)
  f3 : a.tmps.getD 3 undef = .int .i64 i
  f4 : a.tmps.getD 4 undef = .int .i64 n
  rd : ∀ k, k ≤ 22 → ∀ v, Cst B tb tof lT c0 i n xi yi xj yj xk yk k = some v → listed.getD k true = true → a.tmps.getD (61 + k) undef = v
  dy : Dyn w0 n (listed.getD 6 true) (listed.getD 14 true) (listed.getD 22 true) (listed.getD 23 true) (listed.getD 24 true) (listed.getD 25 true) (listed.getD 26 true) (listed.getD 27 true) (listed.getD 28 true) (a.tmps.getD 67 undef) (a.tmps.getD 75 undef) (a.tmps.getD 83 undef) (a.tmps.getD 5 undef) (a.tmps.getD 6 undef) (a.tmps.getD 7 undef) w
theorem put_d {a : Act} {s : Nat} {v : Value} : (a.put (some s) v).defers = a.defers := rfl
theorem put_s {a : Act} {s : Nat} {v : Value} : (a.put (some s) v).tmps.size = a.tmps.size := by simp [Act.put]
theorem put_ne {a : Act} {s t : Nat} {v : Value} (h : t ≠ s) : (a.put (some s) v).tmps.getD t undef = a.tmps.getD t undef := by
  have e' : ¬ s = t := fun x => h x.symm
  simp [Act.put, Array.getElem?_setIfInBounds, e']
theorem put_eq {a : Act} {s : Nat} {v : Value} (h : s < a.tmps.size) : (a.put (some s) v).tmps.getD s undef = v := by
  rw [put_get h, if_pos rfl]

variable {w0 w : World} {B tb tof lT c0 i n : Nat} {xi yi xj yj xk yk : Value} {listed : Array Bool} {a : Act}
theorem Iv.read (h : Iv w0 B tb tof lT c0 i n xi yi xj yj xk yk listed a w) (k : Nat) (hk : k ≤ 22) (h6 : k ≠ 6) (h14 : k ≠ 14) (h22 : k ≠ 22) (hu : listed.getD k true = false) (v : Value) (hC : Cst B tb tof lT c0 i n xi yi xj yj xk yk k = some v) :
    Iv w0 B tb tof lT c0 i n xi yi xj yj xk yk (listed.setIfInBounds k true) (a.put (some (61 + k)) v) w := by
  have hs := h.s
  refine ⟨by simp [h.ls], h.d, by rw [put_s]; exact hs, by rw [put_ne (by omega)]; exact h.f1, by rw [put_ne (by omega)]; exact h.f3, by rw [put_ne (by omega)]; exact h.f4, fun k' hk' v' hC' hl => ?_, ?_⟩
  · by_cases e : k' = k
    · subst e
      rw [put_eq (by omega)]
      exact Option.some.inj (hC.symm.trans hC')
    · rw [put_ne (by omega)]
      rw [getD_else (fun x => e x.symm)] at hl
      exact h.rd k' hk' v' hC' hl
  · rw [getD_else h6, getD_else h14, getD_else h22, getD_else (by omega), getD_else (by omega), getD_else (by omega), getD_else (by omega), getD_else (by omega), getD_else (by omega), put_ne (by omega), put_ne (by omega), put_ne (by omega), put_ne (by omega), put_ne (by omega), put_ne (by omega)]
    exact h.dy
theorem Iv.call1 (h : Iv w0 B tb tof lT c0 i n xi yi xj yj xk yk listed a w) {w' : World} (v : Value) (hb : Below w.heap.size w w') (hv : Val w w' n v) (hu : listed.getD 6 true = false) : Iv w0 B tb tof lT c0 i n xi yi xj yj xk yk (listed.setIfInBounds 6 true) (a.put (some 67) v) w' := by
  have hs := h.s
  refine ⟨by simp [h.ls], h.d, by rw [put_s]; exact hs, by rw [put_ne (by omega)]; exact h.f1, by rw [put_ne (by omega)]; exact h.f3, by rw [put_ne (by omega)]; exact h.f4, fun k' hk' v' hC' hl => ?_, ?_⟩
  · by_cases e : k' = 6
    · subst e
      cases hC'
    · rw [put_ne (by omega)]
      rw [getD_else (fun x => e x.symm)] at hl
      exact h.rd k' hk' v' hC' hl
  · rw [getD_now (listed_lt hu), getD_else (show 6 ≠ 14 by omega), getD_else (show 6 ≠ 22 by omega), getD_else (show 6 ≠ 23 by omega), getD_else (show 6 ≠ 24 by omega), getD_else (show 6 ≠ 25 by omega), getD_else (show 6 ≠ 26 by omega), getD_else (show 6 ≠ 27 by omega), getD_else (show 6 ≠ 28 by omega), put_eq (by omega), put_ne (show 75 ≠ 67 by omega), put_ne (show 83 ≠ 67 by omega), put_ne (show 5 ≠ 67 by omega), put_ne (show 6 ≠ 67 by omega), put_ne (show 7 ≠ 67 by omega)]
    exact h.dy.call1 hu v hb hv
theorem Iv.alloc1 (h : Iv w0 B tb tof lT c0 i n xi yi xj yj xk yk listed a w) (hu : listed.getD 23 true = false) : Iv w0 B tb tof lT c0 i n xi yi xj yj xk yk (listed.setIfInBounds 23 true) (a.put (some 5) (.pointer (some ⟨w.heap.size, 0, none⟩))) (w.alloc (.cells #[.slice none 0 0, .slice none 0 0] 28)) := by
  have hs := h.s
  refine ⟨by simp [h.ls], h.d, by rw [put_s]; exact hs, by rw [put_ne (by omega)]; exact h.f1, by rw [put_ne (by omega)]; exact h.f3, by rw [put_ne (by omega)]; exact h.f4, fun k' hk' v' hC' hl => ?_, ?_⟩
  · by_cases e : k' = 23
    · subst e
      omega
    · rw [put_ne (by omega)]
      rw [getD_else (fun x => e x.symm)] at hl
      exact h.rd k' hk' v' hC' hl
  · rw [getD_else (show 23 ≠ 6 by omega), getD_else (show 23 ≠ 14 by omega), getD_else (show 23 ≠ 22 by omega), getD_now (listed_lt hu), getD_else (show 23 ≠ 24 by omega), getD_else (show 23 ≠ 25 by omega), getD_else (show 23 ≠ 26 by omega), getD_else (show 23 ≠ 27 by omega), getD_else (show 23 ≠ 28 by omega), put_ne (show 67 ≠ 5 by omega), put_ne (show 75 ≠ 5 by omega), put_ne (show 83 ≠ 5 by omega), put_eq (by omega), put_ne (show 6 ≠ 5 by omega), put_ne (show 7 ≠ 5 by omega)]
    exact h.dy.alloc1 hu
theorem Iv.store1 (h : Iv w0 B tb tof lT c0 i n xi yi xj yj xk yk listed a w) {p : Nat} {x y : Value} (hu : listed.getD 26 true = false) (hc : listed.getD 6 true = true) (ha : listed.getD 23 true = true) (hq : a.tmps.getD 5 undef = .pointer (some ⟨p, 0, none⟩)) (hv : a.tmps.getD 67 undef = .agg #[x, y]) : Iv w0 B tb tof lT c0 i n xi yi xj yj xk yk (listed.setIfInBounds 26 true) a ((w.setCell ⟨p, 0, none⟩ x).setCell ⟨p, 1, none⟩ y) := by
  refine ⟨by simp [h.ls], h.d, h.s, h.f1, h.f3, h.f4, fun k' hk' v' hC' hl => ?_, ?_⟩
  · rw [getD_else (by omega)] at hl
    exact h.rd k' hk' v' hC' hl
  · rw [getD_else (show 26 ≠ 6 by omega), getD_else (show 26 ≠ 14 by omega), getD_else (show 26 ≠ 22 by omega), getD_else (show 26 ≠ 23 by omega), getD_else (show 26 ≠ 24 by omega), getD_else (show 26 ≠ 25 by omega), getD_now (listed_lt hu), getD_else (show 26 ≠ 27 by omega), getD_else (show 26 ≠ 28 by omega)]
    exact h.dy.store1 hc ha hq hv
theorem Iv.call2 (h : Iv w0 B tb tof lT c0 i n xi yi xj yj xk yk listed a w) {w' : World} (v : Value) (hb : Below w.heap.size w w') (hv : Val w w' n v) (hu : listed.getD 14 true = false) : Iv w0 B tb tof lT c0 i n xi yi xj yj xk yk (listed.setIfInBounds 14 true) (a.put (some 75) v) w' := by
  have hs := h.s
  refine ⟨by simp [h.ls], h.d, by rw [put_s]; exact hs, by rw [put_ne (by omega)]; exact h.f1, by rw [put_ne (by omega)]; exact h.f3, by rw [put_ne (by omega)]; exact h.f4, fun k' hk' v' hC' hl => ?_, ?_⟩
  · by_cases e : k' = 14
    · subst e
      cases hC'
    · rw [put_ne (by omega)]
      rw [getD_else (fun x => e x.symm)] at hl
      exact h.rd k' hk' v' hC' hl
  · rw [getD_else (show 14 ≠ 6 by omega), getD_now (listed_lt hu), getD_else (show 14 ≠ 22 by omega), getD_else (show 14 ≠ 23 by omega), getD_else (show 14 ≠ 24 by omega), getD_else (show 14 ≠ 25 by omega), getD_else (show 14 ≠ 26 by omega), getD_else (show 14 ≠ 27 by omega), getD_else (show 14 ≠ 28 by omega), put_ne (show 67 ≠ 75 by omega), put_eq (by omega), put_ne (show 83 ≠ 75 by omega), put_ne (show 5 ≠ 75 by omega), put_ne (show 6 ≠ 75 by omega), put_ne (show 7 ≠ 75 by omega)]
    exact h.dy.call2 hu v hb hv
theorem Iv.alloc2 (h : Iv w0 B tb tof lT c0 i n xi yi xj yj xk yk listed a w) (hu : listed.getD 24 true = false) : Iv w0 B tb tof lT c0 i n xi yi xj yj xk yk (listed.setIfInBounds 24 true) (a.put (some 6) (.pointer (some ⟨w.heap.size, 0, none⟩))) (w.alloc (.cells #[.slice none 0 0, .slice none 0 0] 28)) := by
  have hs := h.s
  refine ⟨by simp [h.ls], h.d, by rw [put_s]; exact hs, by rw [put_ne (by omega)]; exact h.f1, by rw [put_ne (by omega)]; exact h.f3, by rw [put_ne (by omega)]; exact h.f4, fun k' hk' v' hC' hl => ?_, ?_⟩
  · by_cases e : k' = 24
    · subst e
      omega
    · rw [put_ne (by omega)]
      rw [getD_else (fun x => e x.symm)] at hl
      exact h.rd k' hk' v' hC' hl
  · rw [getD_else (show 24 ≠ 6 by omega), getD_else (show 24 ≠ 14 by omega), getD_else (show 24 ≠ 22 by omega), getD_else (show 24 ≠ 23 by omega), getD_now (listed_lt hu), getD_else (show 24 ≠ 25 by omega), getD_else (show 24 ≠ 26 by omega), getD_else (show 24 ≠ 27 by omega), getD_else (show 24 ≠ 28 by omega), put_ne (show 67 ≠ 6 by omega), put_ne (show 75 ≠ 6 by omega), put_ne (show 83 ≠ 6 by omega), put_ne (show 5 ≠ 6 by omega), put_eq (by omega), put_ne (show 7 ≠ 6 by omega)]
    exact h.dy.alloc2 hu
theorem Iv.store2 (h : Iv w0 B tb tof lT c0 i n xi yi xj yj xk yk listed a w) {p : Nat} {x y : Value} (hu : listed.getD 27 true = false) (hc : listed.getD 14 true = true) (ha : listed.getD 24 true = true) (hq : a.tmps.getD 6 undef = .pointer (some ⟨p, 0, none⟩)) (hv : a.tmps.getD 75 undef = .agg #[x, y]) : Iv w0 B tb tof lT c0 i n xi yi xj yj xk yk (listed.setIfInBounds 27 true) a ((w.setCell ⟨p, 0, none⟩ x).setCell ⟨p, 1, none⟩ y) := by
  refine ⟨by simp [h.ls], h.d, h.s, h.f1, h.f3, h.f4, fun k' hk' v' hC' hl => ?_, ?_⟩
  · rw [getD_else (by omega)] at hl
    exact h.rd k' hk' v' hC' hl
  · rw [getD_else (show 27 ≠ 6 by omega), getD_else (show 27 ≠ 14 by omega), getD_else (show 27 ≠ 22 by omega), getD_else (show 27 ≠ 23 by omega), getD_else (show 27 ≠ 24 by omega), getD_else (show 27 ≠ 25 by omega), getD_else (show 27 ≠ 26 by omega), getD_now (listed_lt hu), getD_else (show 27 ≠ 28 by omega)]
    exact h.dy.store2 hc ha hq hv
theorem Iv.call3 (h : Iv w0 B tb tof lT c0 i n xi yi xj yj xk yk listed a w) {w' : World} (v : Value) (hb : Below w.heap.size w w') (hv : Val w w' n v) (hu : listed.getD 22 true = false) : Iv w0 B tb tof lT c0 i n xi yi xj yj xk yk (listed.setIfInBounds 22 true) (a.put (some 83) v) w' := by
  have hs := h.s
  refine ⟨by simp [h.ls], h.d, by rw [put_s]; exact hs, by rw [put_ne (by omega)]; exact h.f1, by rw [put_ne (by omega)]; exact h.f3, by rw [put_ne (by omega)]; exact h.f4, fun k' hk' v' hC' hl => ?_, ?_⟩
  · by_cases e : k' = 22
    · subst e
      cases hC'
    · rw [put_ne (by omega)]
      rw [getD_else (fun x => e x.symm)] at hl
      exact h.rd k' hk' v' hC' hl
  · rw [getD_else (show 22 ≠ 6 by omega), getD_else (show 22 ≠ 14 by omega), getD_now (listed_lt hu), getD_else (show 22 ≠ 23 by omega), getD_else (show 22 ≠ 24 by omega), getD_else (show 22 ≠ 25 by omega), getD_else (show 22 ≠ 26 by omega), getD_else (show 22 ≠ 27 by omega), getD_else (show 22 ≠ 28 by omega), put_ne (show 67 ≠ 83 by omega), put_ne (show 75 ≠ 83 by omega), put_eq (by omega), put_ne (show 5 ≠ 83 by omega), put_ne (show 6 ≠ 83 by omega), put_ne (show 7 ≠ 83 by omega)]
    exact h.dy.call3 hu v hb hv
theorem Iv.alloc3 (h : Iv w0 B tb tof lT c0 i n xi yi xj yj xk yk listed a w) (hu : listed.getD 25 true = false) : Iv w0 B tb tof lT c0 i n xi yi xj yj xk yk (listed.setIfInBounds 25 true) (a.put (some 7) (.pointer (some ⟨w.heap.size, 0, none⟩))) (w.alloc (.cells #[.slice none 0 0, .slice none 0 0] 28)) := by
  have hs := h.s
  refine ⟨by simp [h.ls], h.d, by rw [put_s]; exact hs, by rw [put_ne (by omega)]; exact h.f1, by rw [put_ne (by omega)]; exact h.f3, by rw [put_ne (by omega)]; exact h.f4, fun k' hk' v' hC' hl => ?_, ?_⟩
  · by_cases e : k' = 25
    · subst e
      omega
    · rw [put_ne (by omega)]
      rw [getD_else (fun x => e x.symm)] at hl
      exact h.rd k' hk' v' hC' hl
  · rw [getD_else (show 25 ≠ 6 by omega), getD_else (show 25 ≠ 14 by omega), getD_else (show 25 ≠ 22 by omega), getD_else (show 25 ≠ 23 by omega), getD_else (show 25 ≠ 24 by omega), getD_now (listed_lt hu), getD_else (show 25 ≠ 26 by omega), getD_else (show 25 ≠ 27 by omega), getD_else (show 25 ≠ 28 by omega), put_ne (show 67 ≠ 7 by omega), put_ne (show 75 ≠ 7 by omega), put_ne (show 83 ≠ 7 by omega), put_ne (show 5 ≠ 7 by omega), put_ne (show 6 ≠ 7 by omega), put_eq (by omega)]
    exact h.dy.alloc3 hu
theorem Iv.store3 (h : Iv w0 B tb tof lT c0 i n xi yi xj yj xk yk listed a w) {p : Nat} {x y : Value} (hu : listed.getD 28 true = false) (hc : listed.getD 22 true = true) (ha : listed.getD 25 true = true) (hq : a.tmps.getD 7 undef = .pointer (some ⟨p, 0, none⟩)) (hv : a.tmps.getD 83 undef = .agg #[x, y]) : Iv w0 B tb tof lT c0 i n xi yi xj yj xk yk (listed.setIfInBounds 28 true) a ((w.setCell ⟨p, 0, none⟩ x).setCell ⟨p, 1, none⟩ y) := by
  refine ⟨by simp [h.ls], h.d, h.s, h.f1, h.f3, h.f4, fun k' hk' v' hC' hl => ?_, ?_⟩
  · rw [getD_else (by omega)] at hl
    exact h.rd k' hk' v' hC' hl
  · rw [getD_else (show 28 ≠ 6 by omega), getD_else (show 28 ≠ 14 by omega), getD_else (show 28 ≠ 22 by omega), getD_else (show 28 ≠ 23 by omega), getD_else (show 28 ≠ 24 by omega), getD_else (show 28 ≠ 25 by omega), getD_else (show 28 ≠ 26 by omega), getD_else (show 28 ≠ 27 by omega), getD_now (listed_lt hu)]
    exact h.dy.store3 hc ha hq hv

set_option maxRecDepth 1000000 in
set_option maxHeartbeats 4000000 in
theorem sq_region {s t u : Ten} {Q : Exit → Act → World → Prop} (hn1 : 1 ≤ n) (hn8 : n ≤ 8) (hlt : i + 2 < lT) (hlT : i < 6)
    (hb0 : w0.cell? ⟨B, 0, none⟩ = some (.slice (some ⟨tb, tof, none⟩) lT c0))
    (hi1 : w0.cell? ⟨tb, tof + i * 2, none⟩ = some xi) (hi2 : w0.cell? ⟨tb, tof + i * 2 + 1, none⟩ = some yi)
    (hj1 : w0.cell? ⟨tb, tof + (i + 1) * 2, none⟩ = some xj) (hj2 : w0.cell? ⟨tb, tof + (i + 1) * 2 + 1, none⟩ = some yj)
    (hk1 : w0.cell? ⟨tb, tof + (i + 2) * 2, none⟩ = some xk) (hk2 : w0.cell? ⟨tb, tof + (i + 2) * 2 + 1, none⟩ = some yk)
    (hTi : Tens w0 xi yi s) (hTj : Tens w0 xj yj t) (hTk : Tens w0 xk yk u)
    (hd : a.defers = []) (hs : a.tmps.size = 245) (hf1 : a.tmps.getD 1 undef = .pointer (some ⟨B, 0, none⟩)) (hf3 : a.tmps.getD 3 undef = .int .i64 i) (hf4 : a.tmps.getD 4 undef = .int .i64 n)
    (hQ : ∀ a' w' Ba Bb Bd a0 a1 b0 b1 d0 d1 X Y Z, a'.defers = [] → a'.tmps.size = 245 → a'.tmps.getD 1 undef = .pointer (some ⟨B, 0, none⟩) → a'.tmps.getD 3 undef = .int .i64 i →
      a'.tmps.getD 5 undef = .pointer (some ⟨Ba, 0, none⟩) → a'.tmps.getD 6 undef = .pointer (some ⟨Bb, 0, none⟩) → a'.tmps.getD 7 undef = .pointer (some ⟨Bd, 0, none⟩) →
      (X.length = n * n ∧ Rg X) → (Y.length = n * n ∧ Rg Y) → (Z.length = n * n ∧ Rg Z) →
      Live w' [(Ba, a0, a1, ([(n : Int), (n : Int)], X)), (Bb, b0, b1, ([(n : Int), (n : Int)], Y)), (Bd, d0, d1, ([(n : Int), (n : Int)], Z))] → Below w0.heap.size w0 w' → Q .normal a' w') :
    Code.wp Tryd.prog (.region 7 ops7 true) Q a w0 := by
  refine wp_region_inv (I := Iv w0 B tb tof lT c0 i n xi yi xj yj xk yk) mixedT ?_ ?_ ?_
  · rw [size7]
    refine ⟨by simp, hd, hs, hf1, hf3, hf4, fun k hk v _ hl => ?_, ?_⟩
    · have : (Array.replicate 29 false).getD k true = false := by simp [show k < 29 by omega]
      rw [this] at hl
      cases hl
    · have e : ∀ k, k < 29 → (Array.replicate 29 false).getD k true = false := fun k hk => by simp [hk]
      rw [e 6 (by omega), e 14 (by omega), e 22 (by omega), e 23 (by omega), e 24 (by omega), e 25 (by omega), e 26 (by omega), e 27 (by omega), e 28 (by omega)]
      constructor <;> first | exact (Below.refl _ _).drew | (intro h; cases h)
  · clear hd hs hf1 hf3 hf4
    intro listed a w h m hm
    obtain ⟨hlt29, hu, _⟩ := ready_at hm
    rw [size7] at hlt29
    have bel := h.dy.bel
    have C : ∀ k, k ≤ 22 → ∀ v, Cst B tb tof lT c0 i n xi yi xj yj xk yk k = some v → waitsFor ops7 m k = true → a.tmps.getD (61 + k) undef = v := fun k hk v hC hw => h.rd k hk v hC (dep_true (ready_dep hm hw))
    obtain rfl | rfl | rfl | rfl | rfl | rfl | rfl | rfl | rfl | rfl | rfl | rfl | rfl | rfl | rfl | rfl | rfl | rfl | rfl | rfl | rfl | rfl | rfl | rfl | rfl | rfl | rfl | rfl | rfl : m = 0 ∨ m = 1 ∨ m = 2 ∨ m = 3 ∨ m = 4 ∨ m = 5 ∨ m = 6 ∨ m = 7 ∨ m = 8 ∨ m = 9 ∨ m = 10 ∨ m = 11 ∨ m = 12 ∨ m = 13 ∨ m = 14 ∨ m = 15 ∨ m = 16 ∨ m = 17 ∨ m = 18 ∨ m = 19 ∨ m = 20 ∨ m = 21 ∨ m = 22 ∨ m = 23 ∨ m = 24 ∨ m = 25 ∨ m = 26 ∨ m = 27 ∨ m = 28 := by omega
    · exact do_field at0 h.f1 (h.read 0 (by omega) (by omega) (by omega) (by omega) hu _ rfl)
    · exact do_load1 at1 (C 0 (by omega) _ rfl wf1_0) (cell_later bel hb0) (h.read 1 (by omega) (by omega) (by omega) (by omega) hu _ rfl)
    · exact do_move at2 h.f3 (h.read 2 (by omega) (by omega) (by omega) (by omega) hu _ rfl)
    · exact do_index at3 (C 1 (by omega) _ rfl wf3_1) (C 2 (by omega) _ rfl wf3_2) (by omega) (h.read 3 (by omega) (by omega) (by omega) (by omega) hu _ rfl)
    · exact do_load2 at4 (C 3 (by omega) _ rfl wf4_3) (cell_later bel hi1) (cell_later bel hi2) (h.read 4 (by omega) (by omega) (by omega) (by omega) hu _ rfl)
    · exact do_move at5 h.f4 (h.read 5 (by omega) (by omega) (by omega) (by omega) hu _ rfl)
    · refine do_call at6 (C 4 (by omega) _ rfl wf6_4) (C 5 (by omega) _ rfl wf6_5) rfl ?_
      refine (square_ok n hn1 hn8 (hTi.later bel)).mono ?_
      rintro e w' ⟨x0, x1, X, rfl, hX1, hX2, ho, hb⟩
      obtain ⟨xa, xn, xc, rfl⟩ := ho.dims.ints.shape3
      obtain ⟨ya, yn, yc, rfl⟩ := ho.data.ints.shape3
      refine ⟨_, rfl, h.call1 _ hb ⟨xa, xn, xc, ya, yn, yc, X, rfl, hX1, hX2, ho.tens, fun k hk => ?_⟩ hu⟩
      obtain ⟨x, y, e, hxy⟩ := hk
      simp only [Value.agg.injEq, Array.mk.injEq, List.cons.injEq, and_true] at e
      obtain ⟨rfl, rfl⟩ := e
      rcases hxy with hxy | hxy
      · exact ⟨ho.dims.frm k hxy, ho.dims.lt k hxy⟩
      · exact ⟨ho.data.frm k hxy, ho.data.lt k hxy⟩
    · exact do_field at7 h.f1 (h.read 7 (by omega) (by omega) (by omega) (by omega) hu _ rfl)
    · exact do_load1 at8 (C 7 (by omega) _ rfl wf8_7) (cell_later bel hb0) (h.read 8 (by omega) (by omega) (by omega) (by omega) hu _ rfl)
    · exact do_move at9 h.f3 (h.read 9 (by omega) (by omega) (by omega) (by omega) hu _ rfl)
    · exact do_add at10 (C 9 (by omega) _ rfl wf10_9) (by omega) (by decide) (h.read 10 (by omega) (by omega) (by omega) (by omega) hu _ rfl)
    · exact do_index at11 (C 8 (by omega) _ rfl wf11_8) (C 10 (by omega) _ rfl wf11_10) (by omega) (h.read 11 (by omega) (by omega) (by omega) (by omega) hu _ rfl)
    · exact do_load2 at12 (C 11 (by omega) _ rfl wf12_11) (cell_later bel hj1) (cell_later bel hj2) (h.read 12 (by omega) (by omega) (by omega) (by omega) hu _ rfl)
    · exact do_move at13 h.f4 (h.read 13 (by omega) (by omega) (by omega) (by omega) hu _ rfl)
    · refine do_call at14 (C 12 (by omega) _ rfl wf14_12) (C 13 (by omega) _ rfl wf14_13) rfl ?_
      refine (square_ok n hn1 hn8 (hTj.later bel)).mono ?_
      rintro e w' ⟨x0, x1, X, rfl, hX1, hX2, ho, hb⟩
      obtain ⟨xa, xn, xc, rfl⟩ := ho.dims.ints.shape3
      obtain ⟨ya, yn, yc, rfl⟩ := ho.data.ints.shape3
      refine ⟨_, rfl, h.call2 _ hb ⟨xa, xn, xc, ya, yn, yc, X, rfl, hX1, hX2, ho.tens, fun k hk => ?_⟩ hu⟩
      obtain ⟨x, y, e, hxy⟩ := hk
      simp only [Value.agg.injEq, Array.mk.injEq, List.cons.injEq, and_true] at e
      obtain ⟨rfl, rfl⟩ := e
      rcases hxy with hxy | hxy
      · exact ⟨ho.dims.frm k hxy, ho.dims.lt k hxy⟩
      · exact ⟨ho.data.frm k hxy, ho.data.lt k hxy⟩
    · exact do_field at15 h.f1 (h.read 15 (by omega) (by omega) (by omega) (by omega) hu _ rfl)
    · exact do_load1 at16 (C 15 (by omega) _ rfl wf16_15) (cell_later bel hb0) (h.read 16 (by omega) (by omega) (by omega) (by omega) hu _ rfl)
    · exact do_move at17 h.f3 (h.read 17 (by omega) (by omega) (by omega) (by omega) hu _ rfl)
    · exact do_add at18 (C 17 (by omega) _ rfl wf18_17) (by omega) (by decide) (h.read 18 (by omega) (by omega) (by omega) (by omega) hu _ rfl)
    · exact do_index at19 (C 16 (by omega) _ rfl wf19_16) (C 18 (by omega) _ rfl wf19_18) (by omega) (h.read 19 (by omega) (by omega) (by omega) (by omega) hu _ rfl)
    · exact do_load2 at20 (C 19 (by omega) _ rfl wf20_19) (cell_later bel hk1) (cell_later bel hk2) (h.read 20 (by omega) (by omega) (by omega) (by omega) hu _ rfl)
    · exact do_move at21 h.f4 (h.read 21 (by omega) (by omega) (by omega) (by omega) hu _ rfl)
    · refine do_call at22 (C 20 (by omega) _ rfl wf22_20) (C 21 (by omega) _ rfl wf22_21) rfl ?_
      refine (square_ok n hn1 hn8 (hTk.later bel)).mono ?_
      rintro e w' ⟨x0, x1, X, rfl, hX1, hX2, ho, hb⟩
      obtain ⟨xa, xn, xc, rfl⟩ := ho.dims.ints.shape3
      obtain ⟨ya, yn, yc, rfl⟩ := ho.data.ints.shape3
      refine ⟨_, rfl, h.call3 _ hb ⟨xa, xn, xc, ya, yn, yc, X, rfl, hX1, hX2, ho.tens, fun k hk => ?_⟩ hu⟩
      obtain ⟨x, y, e, hxy⟩ := hk
      simp only [Value.agg.injEq, Array.mk.injEq, List.cons.injEq, and_true] at e
      obtain ⟨rfl, rfl⟩ := e
      rcases hxy with hxy | hxy
      · exact ⟨ho.dims.frm k hxy, ho.dims.lt k hxy⟩
      · exact ⟨ho.data.frm k hxy, ho.data.lt k hxy⟩
    · exact do_alloc at23 (h.alloc1 hu)
    · exact do_alloc at24 (h.alloc2 hu)
    · exact do_alloc at25 (h.alloc3 hu)
    · have hc := dep_true (ready_dep hm wf26_6)
      have hal := dep_true (ready_dep hm wf26_23)
      obtain ⟨xa, xn, xc, ya, yn, yc, X, e, _⟩ := h.dy.hv1 hc
      obtain ⟨p, u1, u2, ep, _, hbx⟩ := h.dy.hp1 hal
      exact do_store at26 ep e hbx (h.store1 hu hc hal ep e)
    · have hc := dep_true (ready_dep hm wf27_14)
      have hal := dep_true (ready_dep hm wf27_24)
      obtain ⟨xa, xn, xc, ya, yn, yc, X, e, _⟩ := h.dy.hv2 hc
      obtain ⟨p, u1, u2, ep, _, hbx⟩ := h.dy.hp2 hal
      exact do_store at27 ep e hbx (h.store2 hu hc hal ep e)
    · have hc := dep_true (ready_dep hm wf28_22)
      have hal := dep_true (ready_dep hm wf28_25)
      obtain ⟨xa, xn, xc, ya, yn, yc, X, e, _⟩ := h.dy.hv3 hc
      obtain ⟨p, u1, u2, ep, _, hbx⟩ := h.dy.hp3 hal
      exact do_store at28 ep e hbx (h.store3 hu hc hal ep e)
  · intro listed a' w h hr
    have all : ∀ k, k < 29 → listed.getD k true = true := fun k hk => by
      have e := allDone (ops := ops7) (listed := listed) early7 (by rw [size7]; exact h.ls) hr k (by rw [size7]; exact hk)
      exact e
    obtain ⟨xa, xn, xc, ya, yn, yc, X, e1, hX1, hX2, hT1, _⟩ := h.dy.hv1 (all 6 (by omega))
    obtain ⟨xb, yn2, yc2, yb, zn2, zc2, Y, e2, hY1, hY2, hT2, _⟩ := h.dy.hv2 (all 14 (by omega))
    obtain ⟨xd, yn3, yc3, yd, zn3, zc3, Z, e3, hZ1, hZ2, hT3, _⟩ := h.dy.hv3 (all 22 (by omega))
    obtain ⟨p1, u1, u1', q1, r1, b1⟩ := h.dy.st1 (all 26 (by omega))
    obtain ⟨p2, u2, u2', q2, r2, b2⟩ := h.dy.st2 (all 27 (by omega))
    obtain ⟨p3, u3, u3', q3, r3, b3⟩ := h.dy.st3 (all 28 (by omega))
    have x1 := e1.symm.trans r1
    have x2 := e2.symm.trans r2
    have x3 := e3.symm.trans r3
    simp only [Value.agg.injEq, Array.mk.injEq, List.cons.injEq, and_true] at x1 x2 x3
    obtain ⟨rfl, rfl⟩ := x1
    obtain ⟨rfl, rfl⟩ := x2
    obtain ⟨rfl, rfl⟩ := x3
    exact hQ a' w p1 p2 p3 _ _ _ _ _ _ X Y Z h.d h.s h.f1 h.f3 q1 q2 q3 ⟨hX1, hX2⟩ ⟨hY1, hY2⟩ ⟨hZ1, hZ2⟩ ⟨⟨b1, hT1⟩, ⟨b2, hT2⟩, ⟨b3, hT3⟩, trivial⟩ h.dy.bel
end Go.Proofs.YtgnicnaiaijdcaaDoor
