/- Contract: strconv's formatBits at base 2. -/
import Derived.Test.YtgnicnaiaijdcaaDoorY1
import Derived.Laws.Bits64b
import Derived.Laws.IdiomStrings
import Derived.Laws.Slices
namespace Go.Proofs.YtgnicnaiaijdcaaDoor
set_option linter.unusedVariables false
set_option linter.unusedSimpArgs false
open Go.RowKit

/-- A block of 65 bytes. -/
def bv (zs : List Nat) : Array Value := (zs.map fun (z : Nat) => Value.int .u8 (z : Int)).toArray
def By (w : World) (B : Nat) (zs : List Nat) : Prop := w.heap[B]? = some (.cells (bv zs) 85 (0, 0))
theorem bv_get (xs : List Nat) (j : Nat) (h : j < xs.length) : (bv xs)[j]? = some (.int .u8 (xs[j] : Int)) := by simp [bv, h]
theorem By.cell {w : World} {B : Nat} {xs : List Nat} (h : By w B xs) (j : Nat) (hj : j < xs.length) : w.cell? ⟨B, j, none⟩ = some (.int .u8 (xs[j] : Int)) := by
  rw [cell_of_row w B j (bv xs) 85 (0, 0) h, bv_get xs j hj]
theorem By.frozen {w : World} {B : Nat} {xs : List Nat} (h : By w B xs) (j : Nat) : w.frozen? ⟨B, j, none⟩ = false := frozen_of_row w B j (bv xs) 85 h
theorem By.set {w : World} {B : Nat} {xs : List Nat} (h : By w B xs) (j : Nat) (v : Nat) : By (w.setCell ⟨B, j, none⟩ (.int .u8 (v : Int))) B (xs.set j v) := by
  have := heap_setCell_same w B j (bv xs) 85 (.int .u8 (v : Int)) h
  show _ = _
  rw [this]
  simp [bv]
/-- The last k digits to the base 2 laid. -/
def fmtL (n k : Nat) : List Nat := (List.range 65).map fun j => if 65 - k ≤ j then 48 + (n / 2 ^ (64 - j)) % 2 else 0
theorem fmtL_length (n k : Nat) : (fmtL n k).length = 65 := by simp [fmtL]
theorem fmtL_zero (n : Nat) : fmtL n 0 = List.replicate 65 0 := by
  apply List.ext_getElem
  · simp [fmtL]
  · intro i h1 h2
    simp only [fmtL_length] at h1
    simp only [fmtL, List.getElem_map, List.getElem_range, List.getElem_replicate]
    rw [if_neg (by omega)]
theorem fmtL_set (n k : Nat) (hk : k < 65) : (fmtL n k).set (64 - k) (48 + (n / 2 ^ k) % 2) = fmtL n (k + 1) := by
  apply List.ext_getElem
  · simp [fmtL]
  · intro i h1 h2
    simp only [List.length_set, fmtL_length] at h1
    by_cases e : 64 - k = i
    · subst e
      simp only [fmtL, List.getElem_set_self, List.getElem_map, List.getElem_range]
      rw [if_pos (by omega), show 64 - (64 - k) = k by omega]
    · rw [List.getElem_set_ne (by omega)]
      simp only [fmtL, List.getElem_map, List.getElem_range]
      have : (65 - k ≤ i) ↔ (65 - (k + 1) ≤ i) := by omega
      simp only [this]
/-- What n is to the base 2, of k + 1 digits. -/
def bt (n k : Nat) : ByteArray := ⟨((List.range (k + 1)).map fun t => UInt8.ofNat (48 + (n / 2 ^ (k - t)) % 2)).toArray⟩
theorem bt_size (n k : Nat) : (bt n k).size = k + 1 := by simp [bt, ByteArray.size]
theorem bt_get (n k t : Nat) (h : t < (bt n k).size) : ((bt n k)[t].toNat : Int) = 48 + ((n / 2 ^ (k - t)) % 2 : Nat) := by
  have : (bt n k)[t] = UInt8.ofNat (48 + (n / 2 ^ (k - t)) % 2) := by
    simp [bt, ByteArray.getElem_eq_getElem_data]
  rw [this, UInt8.toNat_ofNat']
  omega
theorem arr85 : Tryd.prog.arrayLen 85 = 65 := by kernel_rfl
theorem pow30 {n k : Nat} (hn : n ≤ 1073741824) (h : 2 ≤ n / 2 ^ k) : k < 30 := by
  rcases Nat.lt_or_ge k 30 with h1 | h1
  · exact h1
  · exfalso
    have h2 : 2 ^ 30 ≤ 2 ^ k := Nat.pow_le_pow_right (by omega) h1
    have h3 : n / 2 ^ k ≤ n / 2 ^ 30 := Nat.div_le_div_left h2 (by decide)
    have h4 : n / 2 ^ 30 ≤ 1 := by
      have : (2 : Nat) ^ 30 = 1073741824 := by decide
      rw [this]
      omega
    omega

theorem add_pl (b o j : Nat) : (⟨b, o, none⟩ : Addr).add j = ⟨b, o + j, none⟩ := by
  unfold Addr.add
  split
  · rename_i h; subst h; rfl
  · rfl
def dgs : ByteArray := ⟨#[48, 49, 50, 51, 52, 53, 54, 55, 56, 57, 97, 98, 99, 100, 101, 102, 103, 104, 105, 106, 107, 108, 109, 110, 111, 112, 113, 114, 115, 116, 117, 118, 119, 120, 121, 122]⟩
theorem conv_bt {V : World} {B n k : Nat} (h : By V B (fmtL n (k + 1))) (hk : k ≤ 30) : (convert 76 9 (.slice (some ⟨B, 64 - k, none⟩) (k + 1) (k + 1))).run Tryd.prog V = .ok (.string (bt n k)) V := by
  have h1 := run_convert_bytes_back (P := Tryd.prog) V 76 9 5 ⟨B, 64 - k, none⟩ (k + 1) ((List.range (k + 1)).map fun t => UInt8.ofNat (48 + (n / 2 ^ (k - t)) % 2)) Tryd.underlying76 Tryd.underlying5 Tryd.underlying9 (fun j hj => by
    simp only [List.length_map, List.length_range] at hj
    have hc := h.cell (64 - k + j) (by rw [fmtL_length]; omega)
    have e : (fmtL n (k + 1))[64 - k + j]'(by rw [fmtL_length]; omega) = 48 + (n / 2 ^ (k - j)) % 2 := by
      simp only [fmtL, List.getElem_map, List.getElem_range]
      rw [if_pos (by omega), show 64 - (64 - k + j) = k - j by omega]
    rw [e] at hc
    rw [add_pl, hc]
    simp only [List.getElem_map, List.getElem_range, UInt8.toNat_ofNat']
    congr 2
    omega)
  simp only [List.length_map, List.length_range] at h1
  exact h1

set_option maxRecDepth 100000 in
set_option maxHeartbeats 4000000 in
theorem fbits {w : World} (n : Nat) (hn : n ≤ 1073741824) (hg : w.cell? ⟨2, 1, none⟩ = some (.int .u8 1)) :
    Calls Tryd.prog 51 #[.slice none 0 0, .int .u64 n, .int .i64 2, .bool false, .bool false] w fun e w' => ∃ k, k ≤ 30 ∧ n / 2 ^ k < 2 ∧ e = .returned (.tuple #[.slice none 0 0, .string (bt n k)]) ∧ Below w.heap.size w w' := by
  go_enter Tryd.func51, Tryd.ntmps51
  go_wp2_with (first | (go_at_call 56; refine ispow.mono ?_; rintro e w' ⟨rfl, rfl⟩) | (go_at_call 57; refine (tz (cell_later (Below.push (Below.refl _ _) _) hg)).mono ?_; rintro e w' ⟨rfl, rfl⟩))
  have HW : Hid (By (w.alloc (.cells Tryd.zeroCells85 85)) w.heap.size (fmtL n 0)) := by
    show _ = _
    rw [fmtL_zero]
    exact heap_alloc_new w _
  have HB : Hid (Below w.heap.size w (w.alloc (.cells Tryd.zeroCells85 85))) := (Below.refl _ _).alloc (Nat.le_refl _) _
  generalize (w.alloc (.cells Tryd.zeroCells85 85)) = W at HW HB ⊢
  clear hg
  go_loopw [1, 13] (fun u i w' => ∃ k : Nat, k ≤ 30 ∧ u = .int .u64 ((n / 2 ^ k : Nat) : Int) ∧ i = .int .i64 ((65 - k : Nat) : Int) ∧ By w' w.heap.size (fmtL n k) ∧ But w.heap.size W w') (fun _ i _ => (intOf i).toNat)
  case atStart => exact ⟨0, by omega, by simp, by simp, HW.out, But.refl _ _⟩
  case round =>
    obtain ⟨k, hk, rfl, rfl, hB, hbu⟩ := hrel
    have HKR : Hid (By wr w.heap.size (fmtL n k)) := hB
    have HBU : Hid (But w.heap.size W wr) := hbu
    clear hB hbu
    obtain ⟨D, hD⟩ : ∃ D, (n / 2 ^ k) % 2 = D := ⟨_, rfl⟩
    obtain ⟨H, hH⟩ : ∃ H, n / 2 ^ (k + 1) = H := ⟨_, rfl⟩
    have HS : Hid ((fmtL n k).set (64 - k) (48 + (n / 2 ^ k) % 2) = fmtL n (k + 1)) := fmtL_set n k (by omega)
    have hHu : (n / 2 ^ k) / 2 = H := by rw [← hH, Nat.pow_succ, Nat.div_div_eq_div_mul]
    have hUn : n / 2 ^ k ≤ n := Nat.div_le_self _ _
    have hP : 2 ≤ n / 2 ^ k → k < 30 := pow30 hn
    obtain ⟨u, hu⟩ : ∃ u, n / 2 ^ k = u := ⟨_, rfl⟩
    have HU : Hid (n / 2 ^ k = u ∧ n / 2 ^ (k + 1) = H) := ⟨hu, hH⟩
    rw [hu] at hD hHu hUn hP HS ⊢
    clear hu hH
    have hf := HKR.out.frozen (64 - k)
    obtain ⟨x, hc⟩ : ∃ x, wr.cell? ⟨w.heap.size, 64 - k, none⟩ = some x := ⟨_, HKR.out.cell (64 - k) (by rw [fmtL_length]; omega)⟩
    have hb1 : bits .and .u64 (u : Int) 1 = (D : Int) := by
      have h := bits_and_u64_nat u 1 (by omega) (by omega)
      rw [Nat.and_one_is_mod, hD] at h
      exact h
    have hi1 : IntKind.i64.wrap (((65 - k : Nat) : Int) - 1) = ((64 - k : Nat) : Int) := by rw [wrap_small _ (by omega) (by omega)]; omega
    by_cases h2 : 2 ≤ u
    · have hk30 := hP h2
      have hd2 : D < 2 := by omega
      have HHE : Hid (((u : Int) / 2) = ((n / 2 ^ (k + 1) : Nat) : Int)) := by show _ = _; rw [HU.out.2, ← hHu]; simp
      have HIE : Hid (((64 - k : Nat) : Int) = ((65 - (k + 1) : Nat) : Int)) := by show _ = _; omega
      rcases Nat.lt_or_ge D 1 with hd | hd
      · obtain rfl : D = 0 := by omega
        rw [hD] at HS
        go_wp2
        refine ⟨⟨k + 1, by omega, by rw [HHE.out], by rw [HIE.out], ?_, HBU.out.setCell _⟩, by simp [intOf]; omega⟩
        rw [← HS.out]
        exact HKR.out.set (64 - k) 48
      · obtain rfl : D = 1 := by omega
        rw [hD] at HS
        go_wp2
        refine ⟨⟨k + 1, by omega, by rw [HHE.out], by rw [HIE.out], ?_, HBU.out.setCell _⟩, by simp [intOf]; omega⟩
        rw [← HS.out]
        exact HKR.out.set (64 - k) 49
    · have hd : D = u := by omega
      subst hd
      have hsl : ∀ V, (Instr.sliceAt 85 (.pointer (some ⟨w.heap.size, 0, none⟩)) (some (.int .i64 ((64 - k : Nat) : Int))) none none).run Tryd.prog V = .ok (.slice (some ⟨w.heap.size, 64 - k, none⟩) (k + 1) (k + 1)) V := fun V => by
        rw [run_sliceAt_array_l V 85 ⟨w.heap.size, 0, none⟩ (by kernel_rfl) .i64 ((64 - k : Nat) : Int) (by omega) (by rw [arr85]; omega), arr85]
        go_simp
        omega
      have HKB : Hid (Below w.heap.size w wr) := HBU.out.below HB.out (Nat.le_refl _)
      rcases Nat.lt_or_ge D 1 with hd | hd
      · obtain rfl : D = 0 := by omega
        have hv : By (wr.setCell ⟨w.heap.size, 64 - k, none⟩ (.int .u8 ((48 : Nat) : Int))) w.heap.size (fmtL n (k + 1)) := by
          rw [← HS.out]
          exact HKR.out.set (64 - k) 48
        have hcv : (convert 76 9 (.slice (some ⟨w.heap.size, 64 - k, none⟩) (k + 1) (k + 1))).run Tryd.prog (wr.setCell ⟨w.heap.size, 64 - k, none⟩ (.int .u8 (dgs[0].toNat : Int))) = .ok (.string (bt n k)) (wr.setCell ⟨w.heap.size, 64 - k, none⟩ (.int .u8 (dgs[0].toNat : Int))) := conv_bt hv hk
        unfold dgs at hcv
        clear hv
        go_wp2
        go_ret2
        exact ⟨k, hk, by rw [HU.out.1]; omega, rfl, HKB.out.setCell (Nat.le_refl _) _⟩
      · obtain rfl : D = 1 := by omega
        have hv : By (wr.setCell ⟨w.heap.size, 64 - k, none⟩ (.int .u8 ((49 : Nat) : Int))) w.heap.size (fmtL n (k + 1)) := by
          rw [← HS.out]
          exact HKR.out.set (64 - k) 49
        have hcv : (convert 76 9 (.slice (some ⟨w.heap.size, 64 - k, none⟩) (k + 1) (k + 1))).run Tryd.prog (wr.setCell ⟨w.heap.size, 64 - k, none⟩ (.int .u8 (dgs[1].toNat : Int))) = .ok (.string (bt n k)) (wr.setCell ⟨w.heap.size, 64 - k, none⟩ (.int .u8 (dgs[1].toNat : Int))) := conv_bt hv hk
        unfold dgs at hcv
        clear hv
        go_wp2
        go_ret2
        exact ⟨k, hk, by rw [HU.out.1]; omega, rfl, HKB.out.setCell (Nat.le_refl _) _⟩

set_option maxHeartbeats 1000000 in
theorem fint {w : World} (n : Nat) (hn : n ≤ 1073741824) (hg : w.cell? ⟨2, 1, none⟩ = some (.int .u8 1)) :
    Calls Tryd.prog 42 #[.int .i64 n, .int .i64 2] w fun e w' => ∃ k, k ≤ 30 ∧ n / 2 ^ k < 2 ∧ e = .returned (.string (bt n k)) ∧ Below w.heap.size w w' := by
  have hw : IntKind.u64.wrap (n : Int) = (n : Int) := by rw [IntKind.wrap_u64]; omega
  go_enter Tryd.func42, Tryd.ntmps42
  go_wp2_with (go_at_call 51; refine (fbits n hn hg).mono ?_; rintro e w' ⟨k, hk, hk2, rfl, hb⟩)
  go_ret
  exact ⟨k, hk, hk2, rfl, hb⟩
theorem formatInt {w : World} (n : Nat) (hn : n ≤ 1073741824) (hg : w.cell? ⟨2, 1, none⟩ = some (.int .u8 1)) :
    Calls Tryd.prog 35 #[.int .i64 n, .int .i64 2] w fun e w' => ∃ k, k ≤ 30 ∧ n / 2 ^ k < 2 ∧ e = .returned (.string (bt n k)) ∧ Below w.heap.size w w' := by
  go_enter Tryd.func35, Tryd.ntmps35
  go_wp2_with (go_at_call 42; refine (fint n hn hg).mono ?_; rintro e w' ⟨k, hk, hk2, rfl, hb⟩)
  go_ret
  exact ⟨k, hk, hk2, rfl, hb⟩
end Go.Proofs.YtgnicnaiaijdcaaDoor
