/- Contract: Where. -/
import Derived.Test.YtgedknmjenbacaaW7
namespace Go.Proofs.Ytgedknmjenbacaa
set_option linter.unusedVariables false
set_option linter.unusedSimpArgs false
open Go.RowKit

theorem stE_bd2 {d : List Int} (hin : inr d = true) (hl : d.length ≤ 3) (j : Nat) (hj : j < d.length) : 1 ≤ stE d d.length j ∧ stE d d.length j ≤ 64 := by
  simp only [stE, hj, if_true, List.take_length]
  have h : inr (d.drop (j + 1)) = true := by
    simp only [inr, List.all_eq_true, Bool.and_eq_true, decide_eq_true_eq] at hin ⊢
    exact fun x hx => hin x (List.mem_of_mem_drop hx)
  have := prd_lo h
  have := prd_hi h 2 (by simp; omega)
  omega
theorem whR_bd {d : List Int} (hin : inr d = true) (hl : d.length ≤ 3) {n : Int} (h0 : 0 ≤ n) (h1 : n < 64) (k : Nat) (hk : k ≤ d.length) : 0 ≤ whR d n k ∧ whR d n k < 64 := by
  induction k with
  | zero => exact ⟨h0, h1⟩
  | succ k ih =>
    obtain ⟨s1, s2⟩ := stE_bd2 hin hl k (by omega)
    rw [whR]
    have := Int.emod_nonneg (whR d n k) (b := stE d d.length k) (by omega)
    have := Int.emod_lt_of_pos (whR d n k) (b := stE d d.length k) (by omega)
    omega
theorem whA_length (d : List Int) (n : Int) (k : Nat) : (whA d n k).length = d.length := by simp [whA]
theorem whr_length (d : List Int) (n : Int) : (whr d n).length = d.length := by simp [whr]
theorem whA_zero (d : List Int) (n : Int) : whA d n 0 = zer d.length := by
  apply List.ext_getElem
  · simp [whA, zer]
  · intro i h1 h2
    simp [whA, zer]
theorem whA_all (d : List Int) (n : Int) : whA d n d.length = whr d n := by
  apply List.ext_getElem
  · simp [whA, whr]
  · intro i h1 h2
    have : i < d.length := by simpa [whA] using h1
    simp [whA, whr, this]
theorem whA_set (d : List Int) (n : Int) (k : Nat) : (whA d n k).set k (whE d n k) = whA d n (k + 1) := by
  apply List.ext_getElem
  · simp [whA]
  · intro i h1 h2
    simp only [List.getElem_set, whA, List.getElem_map, List.getElem_range]
    by_cases e : k = i
    · subst e; simp
    · rw [if_neg e]
      by_cases h : i < k
      · simp [h, show i < k + 1 from by omega]
      · simp [h, show ¬ i < k + 1 from by omega]
theorem stp_get (d : List Int) (k : Nat) (h : k < (stp d).length) : (stp d)[k] = stE d d.length k := by simp [stp, stA]
theorem stp_length (d : List Int) : (stp d).length = d.length := by simp [stp, stA]

def wok (d : List Int) (n : Int) : Bool := okd d && (decide (0 ≤ n) && decide (n < prd d))

set_option maxHeartbeats 1000000 in
theorem where_ok {v : Value} {d : List Int} {w : World} (n : Int) (hd : Ints w v d) (hok : okd d = true) (h0 : 0 ≤ n) (h1 : n < prd d) :
    Calls Try.prog 33 #[v, .int .i64 n] w fun e w' => ∃ B, w.heap.size ≤ B ∧ e = .returned (.tuple #[.slice (some ⟨B, 0, none⟩) d.length d.length, .int .i64 0]) ∧ Blk w' B (whr d n) ∧ Below w.heap.size w w' := by
  have HA : Hid (Ints w v d) := hd
  have HK : Hid (okd d = true) := hok
  obtain ⟨hl1, hl2, hin, hpr⟩ := okd_parts hok
  have HI : Hid (inr d = true) := hin
  obtain ⟨da, dc, rfl⟩ := hd.shape
  have hmk := fun w => make_ints w d.length (by omega)
  have h64 : n < 64 := by omega
  clear hd hok hin
  go_enter Try.func33, Try.ntmps33
  go_wp2_with fail
  refine (cells_ok HA.out HK.out).mono ?_
  rintro e w1 ⟨rfl, hb1⟩
  have HB1 : Hid (Below w.heap.size w w1) := hb1
  have HA1 : Hid (Ints w1 (.slice da d.length dc) d) := HA.out.later hb1
  have hz1 := hb1.size
  clear hb1
  go_wp2_with fail
  refine (steps_ok HA1.out HK.out).mono ?_
  rintro e w2 ⟨rfl, hk2, hb2⟩
  have HK2 : Hid (Blk w2 w1.heap.size (stp d)) := hk2
  have HB2 : Hid (Below w.heap.size w w2) := Below.after HB1.out hb2
  have hz2 := hb2.size
  have hz3 := hk2.lt
  clear hb2 hk2
  go_wp2
  clear hmk
  have HST : Hid (Blk (w2.alloc (.cells (ia (zer d.length)) 3)) w2.heap.size (whA d n 0)) := by
    show Blk _ _ _
    rw [whA_zero]
    exact Blk.new w2 _
  go_loopw [1, 39] (fun r i w' => ∃ k : Nat, k ≤ d.length ∧ i = .int .i64 k ∧ r = .int .i64 (whR d n k) ∧ Blk w' w2.heap.size (whA d n k) ∧ Below w2.heap.size w2 w') (fun _ i _ => d.length - (intOf i).toNat)
  case atStart => exact ⟨0, by omega, rfl, rfl, HST.out, (Below.refl _ _).alloc (Nat.le_refl _) _⟩
  case round =>
    obtain ⟨k, hk, rfl, rfl, hB, hbel⟩ := hrel
    have HB3 : Hid (Blk wr w2.heap.size (whA d n k)) := hB
    have HBL3 : Hid (Below w2.heap.size w2 wr) := hbel
    clear hB hbel
    by_cases hlt : k < d.length
    · have hf := HB3.out.frozen k
      obtain ⟨x, hc⟩ : ∃ x, wr.cell? ⟨w2.heap.size, k, none⟩ = some x := ⟨_, HB3.out.cell k (by rw [whA_length]; exact hlt)⟩
      have hs : wr.cell? ⟨w1.heap.size, k, none⟩ = some (.int .i64 (stE d d.length k)) := by
        rw [(HK2.out.later HBL3.out (by omega)).cell k (by rw [stp_length]; exact hlt), stp_get]
      obtain ⟨s1, s2⟩ := stE_bd2 HI.out hl2 k hlt
      obtain ⟨r1, r2⟩ := whR_bd HI.out hl2 h0 h64 k hk
      have hne : ¬ (stE d d.length k = 0) := by omega
      have hnb : (stE d d.length k == 0) = false := by simp; omega
      go_wp2
      refine ⟨⟨k + 1, by omega, by go_num, rfl, ?_, HBL3.out.setCell (Nat.le_refl _) _⟩, by simp [intOf]; omega⟩
      have := HB3.out.set k (whE d n k)
      rw [whA_set] at this
      exact this
    · have hk' : k = d.length := by omega
      subst hk'
      go_wp2
      go_ret2
      refine ⟨w2.heap.size, by omega, rfl, ?_, Below.after HB2.out HBL3.out⟩
      have := HB3.out
      rw [whA_all] at this
      exact this

set_option maxHeartbeats 400000 in
theorem where_bad {v : Value} {d : List Int} {w : World} (n : Int) (hd : Ints w v d) (h : wok d n = false) :
    Calls Try.prog 33 #[v, .int .i64 n] w fun e w' => e = .returned (.tuple #[.slice none 0 0, .int .i64 1]) ∧ Below w.heap.size w w' := by
  have HA : Hid (Ints w v d) := hd
  clear hd
  cases ho : okd d with
  | false =>
    have HK : Hid (okd d = false) := ho
    clear ho h
    go_enter Try.func33, Try.ntmps33
    go_wp2_with fail
    refine (cells_bad HA.out HK.out).mono ?_
    rintro e w1 ⟨rfl, rfl⟩
    go_wp2
    go_ret2
    exact ⟨rfl, Below.refl _ _⟩
  | true =>
    have HK : Hid (okd d = true) := ho
    have hn : ¬ (0 ≤ n ∧ n < prd d) := by
      intro hn
      simp [wok, ho, hn.1, hn.2] at h
    clear ho h
    by_cases h1 : n < 0
    · clear hn
      go_enter Try.func33, Try.ntmps33
      go_wp2_with fail
      refine (cells_ok HA.out HK.out).mono ?_
      rintro e w1 ⟨rfl, hb1⟩
      have HB1 : Hid (Below w.heap.size w w1) := hb1
      clear hb1
      go_wp2
      go_ret2
      exact ⟨rfl, HB1.out⟩
    · have h2 : prd d ≤ n := by omega
      clear hn
      go_enter Try.func33, Try.ntmps33
      go_wp2_with fail
      refine (cells_ok HA.out HK.out).mono ?_
      rintro e w1 ⟨rfl, hb1⟩
      have HB1 : Hid (Below w.heap.size w w1) := hb1
      clear hb1
      go_wp2
      go_ret2
      exact ⟨rfl, HB1.out⟩
end Go.Proofs.Ytgedknmjenbacaa
