/- Carried: C1, R2. -/
import Derived.Test.YtheddpjaihhbdaaC22
namespace Go.Proofs.Ytheddpjaihhbdaa
set_option linter.unusedVariables false
set_option linter.unusedSimpArgs false
set_option maxRecDepth 100000
open Go.RowKit

/-- From the last place on, c of them laid. -/
def rsA (n : Nat) (F : Nat → Int) (c : Nat) : List Int := (List.range n).map fun i => if n - c ≤ i then F i else 0
theorem rsA_length (n : Nat) (F : Nat → Int) (c : Nat) : (rsA n F c).length = n := by simp [rsA]
theorem rsA_zero (n : Nat) (F : Nat → Int) : rsA n F 0 = zer n := by
  apply List.ext_getElem
  · simp [rsA, zer]
  · intro i h1 h2
    have : i < n := by simpa [rsA] using h1
    simp [rsA, zer, show ¬ n ≤ i by omega]
theorem rsA_set (n : Nat) (F : Nat → Int) (c : Nat) (h : c < n) : (rsA n F c).set (n - 1 - c) (F (n - 1 - c)) = rsA n F (c + 1) := by
  apply List.ext_getElem
  · simp [rsA]
  · intro i h1 h2
    have hi : i < n := by simpa [rsA] using h2
    simp only [List.getElem_set, rsA, List.getElem_map, List.getElem_range]
    by_cases e : n - 1 - c = i
    · subst e
      rw [if_pos rfl, if_pos (by omega)]
    · rw [if_neg e]
      by_cases h : n - c ≤ i
      · simp [h, show n - (c + 1) ≤ i from by omega]
      · simp [h, show ¬ n - (c + 1) ≤ i from by omega]
theorem rsA_all (n : Nat) (F : Nat → Int) : rsA n F n = (List.range n).map F := by
  apply List.ext_getElem
  · simp [rsA]
  · intro i h1 h2
    simp [rsA]
theorem rwh_eq {d : List Int} (h : okd d = true) (n : Int) (h0 : 0 ≤ n) (h1 : n < prd d) : (List.range d.length).map (rwE d n) = whr d n := by
  obtain ⟨k, rfl⟩ := Int.eq_ofNat_of_zero_le h0
  apply List.ext_getElem
  · simp [whr]
  · intro i g1 g2
    have hi : i < d.length := by simpa using g1
    obtain ⟨_, _, h3⟩ := chk_k h k h1
    have h4 := h3 i hi
    simp only [chkJ, Bool.and_eq_true, beq_iff_eq] at h4
    simp only [whr, List.getElem_map, List.getElem_range]
    exact h4.1.2.symm
theorem rwR_bd {d : List Int} (hin : inr d = true) {n : Int} (h0 : 0 ≤ n) (h1 : n < 64) (c : Nat) (hl : c ≤ d.length) : 0 ≤ rwR d n c ∧ rwR d n c < 64 := by
  induction c with
  | zero => exact ⟨h0, h1⟩
  | succ c ih =>
    obtain ⟨r1, r2⟩ := ih (by omega)
    have hi : d.length - 1 - c < d.length := by omega
    have hd := inr_mem hin (List.getElem_mem hi)
    rw [rwR, show d.getD (d.length - 1 - c) 0 = d[d.length - 1 - c] by simp [hi]]
    have a1 := Int.ediv_nonneg r1 (show 0 ≤ d[d.length - 1 - c] by omega)
    have a2 := Int.ediv_le_self (b := d[d.length - 1 - c]) (a := rwR d n c) r1
    omega
set_option maxHeartbeats 400000 in
theorem ties_any {v : Value} {d : List Int} {w : World} (h : Ints w v d) (hl : d.length ≤ 3) :
    Calls Try.prog 57 #[v] w fun e w' => e = .returned (.string (tieT d)) ∧ w = w' := by
  rcases h.cases with ⟨rfl, a1, c1, rfl⟩ | ⟨b, off, c, rfl, h0, h1, h2, HC⟩
  · clear h
    go_enter Try.func57, Try.ntmps57
    go_wp2
    refine wp_loop_rounds 1 ?_
    rw [rounds_succ]
    go_wp2
    go_ret
    exact ⟨rfl, rfl⟩
  clear h h2
  go_enter Try.func57, Try.ntmps57
  go_wp2
  go_loop [3, 8] (fun t i => ∃ k : Nat, k ≤ d.length ∧ i = .int .i64 k ∧ t = .string (tieT (d.take k))) (fun _ i => d.length - (intOf i).toNat)
  case atStart => exact ⟨0, Nat.zero_le _, rfl, by rw [List.take_zero]; rfl⟩
  case round =>
    obtain ⟨k, hk, rfl, rfl⟩ := hrel
    by_cases hlt : k < d.length
    · have hc := HC.out k hlt
      have hsz : (tieT (d.take k)).size = k := by rw [tieT_size]; simp; omega
      have HT : Hid (tieT (d.take (k + 1)) = tieT (d.take k) ++ ⟨#[tieB d[k]]⟩) := by
        show _ = _
        rw [take_snoc d k hlt, tieT_snoc]
      by_cases h1 : d[k] = 1
      · have hq : (d[k] == 1) = true := by simp [h1]
        have HB : Hid (tieB d[k] = 42) := by show _ = _; simp [tieB, h1]
        clear h1
        go_wp2
        exact ⟨⟨k + 1, by omega, by go_num, by rw [HT.out, HB.out]⟩, by simp [intOf]; omega⟩
      · have hq : (d[k] == 1) = false := by simp [h1]
        have HB : Hid (tieB d[k] = 61) := by show _ = _; simp [tieB, h1]
        clear h1
        go_wp2
        exact ⟨⟨k + 1, by omega, by go_num, by rw [HT.out, HB.out]⟩, by simp [intOf]; omega⟩
    · have hk' : k = d.length := by omega
      subst hk'
      go_wp2
      go_ret
      exact ⟨rfl, rfl⟩
end Go.Proofs.Ytheddpjaihhbdaa
