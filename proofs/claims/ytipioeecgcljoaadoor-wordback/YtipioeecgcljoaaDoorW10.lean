/- Contracts: Texts, Heavy of graduslaw7, num. -/
import Derived.Test.YtipioeecgcljoaaDoorW6
namespace Go.Proofs.YtipioeecgcljoaaDoor
set_option linter.unusedVariables false
set_option linter.unusedSimpArgs false
set_option maxRecDepth 100000
open Go.RowKit

theorem drewNW {w w' : World} {B : Nat} (h : Below B w w') (n : Nat) : Below B w (w'.drewN n) :=
  h.trans ⟨rfl, rfl, rfl, Nat.le_refl _, fun _ _ => rfl⟩
/-- A list of texts, as an argument holds it. -/
structure Strs (w : World) (v : Value) (L : List ByteArray) : Prop where
  row : Holds w v L.length (cellsS L)
  len : L.length ≤ 140737488355327
  each : ∀ i (h : i < L.length), L[i].size ≤ 140737488355327
theorem num_to (x : Int) (w : World) :
    Calls Tryd.prog 10 #[.int .i64 x] w fun e w' => e = .returned (.int .i64 x) ∧ w = w' := by
  go_enter Tryd.func10, Tryd.ntmps10
  go_wp2
  go_ret
  exact ⟨rfl, rfl⟩
/-- How heavy a list of texts is (from n on; what is heavy enough is not read to its end). -/
def txF : Nat → List ByteArray → Nat
  | n, [] => n
  | n, a :: r => if n < 1048576 then txF (n + a.size) r else n
theorem txF_ge : ∀ (L : List ByteArray) (n : Nat), n ≤ txF n L
  | [], n => by simp [txF]
  | a :: r, n => by
    rw [txF]
    split
    · have := txF_ge r (n + a.size); omega
    · exact Nat.le_refl _
theorem txF_each : ∀ (L : List ByteArray) (n : Nat), txF n L ≤ 7000 → ∀ i (h : i < L.length), L[i].size ≤ 7000
  | a :: r, n, h, i, hi => by
    rw [txF] at h
    split at h
    · cases i with
      | zero => have := txF_ge r (n + a.size); show a.size ≤ 7000; omega
      | succ j => exact txF_each r _ h j (by simpa using hi)
    · omega
theorem txF_le : ∀ (L : List ByteArray) (n : Nat), n ≤ 140737490000000 → (∀ i (h : i < L.length), L[i].size ≤ 140737488355327) → txF n L ≤ 140737490000000
  | [], n, h, _ => by simpa [txF] using h
  | a :: r, n, h, he => by
    rw [txF]
    split
    · have h0 : a.size ≤ 140737488355327 := he 0 (by simp)
      exact txF_le r _ (by omega) (fun i hi => he (i + 1) (by simpa using hi))
    · exact h
set_option maxHeartbeats 2000000 in
theorem texts_any {v : Value} {L : List ByteArray} {w : World} (h : Strs w v L) (x : Nat) (hx : txF L.length L = x) :
    Calls Tryd.prog 22 #[v] w fun e w' => e = .returned (.int .i64 x) ∧ w = w' := by
  obtain ⟨⟨p, c, rfl, hr⟩, hlen, heach⟩ := h
  have HR : Hid (∀ j u, (cellsS L)[j]? = some u → ∃ b off, p = some ⟨b, off, none⟩ ∧ w.cell? ⟨b, off + j, none⟩ = some u) := hr
  have HE : Hid (∀ i (h : i < L.length), L[i].size ≤ 140737488355327) := heach
  have HX : Hid (txF L.length (L.drop 0) = x) := hx
  clear hr heach hx
  go_enter Tryd.func22, Tryd.ntmps22
  go_wp2
  go_loop [3, 4] (fun n i => ∃ (k m : Nat), k ≤ L.length ∧ m ≤ 281474976710656 ∧ i = .int .i64 k ∧ n = .int .i64 m ∧ Hid (txF m (L.drop k) = x)) (fun _ i => L.length - (intOf i).toNat)
  case atStart => exact ⟨0, L.length, Nat.zero_le _, by omega, rfl, rfl, HX.out⟩
  case round =>
    obtain ⟨k, m, hk, hm, rfl, rfl, HI⟩ := hrel
    by_cases hlt : k < L.length
    · have HD : Hid (L.drop k = L[k] :: L.drop (k + 1)) := List.drop_eq_getElem_cons hlt
      by_cases hb : m < 1048576
      · have gb : (m : Int) < 1048576 := by omega
        obtain ⟨b, off, ea, hx⟩ := HR.out k _ (cellsS_at L k hlt)
        subst ea
        have hsz := HE.out k hlt
        have HI2 : Hid (txF (m + L[k].size) (L.drop (k + 1)) = x) := by
          have h := HI.out
          rw [HD.out, txF, if_pos hb] at h
          exact h
        obtain ⟨y, hy⟩ : ∃ y, L[k] = y := ⟨_, rfl⟩
        rw [hy] at hx hsz HI2
        clear hy HD
        go_wp2
        go_round
        case rel => exact ⟨k + 1, m + y.size, by omega, by omega, by go_num, by go_num, HI2.out⟩
        case measure => simp [intOf]; omega
      · have gb : ¬ (m : Int) < 1048576 := by omega
        have HV : Hid (m = x) := by
          have h := HI.out
          rw [HD.out, txF, if_neg hb] at h
          exact h
        clear HD
        go_wp2
        go_ret
        exact ⟨by rw [HV.out]; rfl, rfl⟩
    · have hk' : k = L.length := by omega
      have HV : Hid (m = x) := by
        have h := HI.out
        rw [List.drop_of_length_le (by omega), txF] at h
        exact h
      go_wp2
      go_ret
      exact ⟨by rw [HV.out]; rfl, rfl⟩
theorem Strs.later {w w' : World} {v : Value} {L : List ByteArray} (h : Strs w v L) (hb : Below w.heap.size w w') : Strs w' v L := ⟨h.row.later hb, h.len, h.each⟩
set_option maxHeartbeats 2000000 in
theorem heavy_any {f0 : Value} {a : Option Addr} {c n1 : Nat} {S : List ByteArray} {w : World} (h : Strs w f0 S) (hn : n1 ≤ 140737488355327) :
    Calls Tryd.prog 7 #[.agg #[f0, .slice a n1 c]] w fun e w' => (∃ b : Bool, e = .returned (.bool b) ∧ (b = false → (S.length ≤ 7000 ∧ ∀ i (h : i < S.length), S[i].size ≤ 7000) ∧ n1 ≤ 7000)) ∧ Below w.heap.size w w' := by
  have hge := txF_ge S S.length
  have hle := txF_le S S.length (by have := h.len; omega) h.each
  have hea := txF_each S S.length
  obtain ⟨x, hx⟩ : ∃ x, txF S.length S = x := ⟨_, rfl⟩
  rw [hx] at hge hle hea
  obtain ⟨⟨p, c0, rfl, hr⟩, hlen, heach⟩ := h
  have hs : Strs w (.slice p S.length c0) S := ⟨⟨p, c0, rfl, hr⟩, hlen, heach⟩
  clear hr heach
  have hb : Below w.heap.size w (w.alloc (.cells #[.slice p S.length c0, .slice a n1 c] 25)) := Below.push (Below.refl _ _) _
  have HB : Hid (Below w.heap.size w (w.alloc (.cells #[.slice p S.length c0, .slice a n1 c] 25))) := hb
  have HS : Hid (Strs (w.alloc (.cells #[.slice p S.length c0, .slice a n1 c] 25)) (.slice p S.length c0) S) := hs.later hb
  have HT : Hid (∀ {w : World}, Strs w (.slice p S.length c0) S → Calls Tryd.prog 22 #[.slice p S.length c0] w fun e w' => e = .returned (.int .i64 x) ∧ w = w') := fun h => texts_any h x hx
  have HA : Hid (x + n1 ≤ 7000 → (S.length ≤ 7000 ∧ ∀ i (h : i < S.length), S[i].size ≤ 7000) ∧ n1 ≤ 7000) := fun h => ⟨⟨by omega, hea (by omega)⟩, by omega⟩
  have HL : Hid (S.length ≤ 140737488355327) := hlen
  have hw : IntKind.i64.wrap ((x : Int) + (n1 : Int)) = (x : Int) + (n1 : Int) := by simp [IntKind.wrap, IntKind.signed, IntKind.bits]; omega
  clear hge hx hs hb hea hlen
  by_cases hgt : 7000 < x + n1
  · have g1 : decide ((7000 : Int) < (x : Int) + (n1 : Int)) = true := by rw [decide_eq_true_iff]; omega
    go_enter Tryd.func7, Tryd.ntmps7
    go_wp2_with fail
    go_quiet ((go_at_call 22; exact Calls.quiet_of_same ((HT.out (HS.out.later (drewNW (Below.refl _ _) _))).mono (fun _ _ h => ⟨h.1, h.2.symm⟩))))
    go_wp2
    go_ret
    exact ⟨⟨_, rfl, fun h => by simp at h⟩, drewNW HB.out _⟩
  · have g1 : decide ((7000 : Int) < (x : Int) + (n1 : Int)) = false := by rw [decide_eq_false_iff_not]; omega
    have HF : Hid (x + n1 ≤ 7000) := by show _ ≤ _; omega
    go_enter Tryd.func7, Tryd.ntmps7
    go_wp2_with fail
    go_quiet ((go_at_call 22; exact Calls.quiet_of_same ((HT.out (HS.out.later (drewNW (Below.refl _ _) _))).mono (fun _ _ h => ⟨h.1, h.2.symm⟩))))
    go_wp2
    go_ret
    exact ⟨⟨_, rfl, fun _ => HA.out HF.out⟩, drewNW HB.out _⟩
end Go.Proofs.YtipioeecgcljoaaDoor
