/- GateTies: its numbers; its two inmost loops. -/
import Derived.Test.YtnphfepkjhlalaaH0
namespace Go.Proofs.Ytnphfepkjhlalaa
set_option linter.unusedVariables false
set_option linter.unusedSimpArgs false
open Go.RowKit

set_option maxRecDepth 100000 in
theorem lit114 (g : Nat → Value) : (g 0 :: g 1 :: g 2 :: g 3 :: g 4 :: g 5 :: g 6 :: g 7 :: g 8 :: g 9 :: g 10 :: g 11 :: g 12 :: g 13 :: g 14 :: g 15 :: g 16 :: g 17 :: g 18 :: g 19 :: g 20 :: g 21 :: g 22 :: g 23 :: g 24 :: g 25 :: g 26 :: g 27 :: g 28 :: g 29 :: g 30 :: g 31 :: g 32 :: g 33 :: g 34 :: g 35 :: g 36 :: g 37 :: g 38 :: g 39 :: g 40 :: g 41 :: g 42 :: g 43 :: g 44 :: g 45 :: g 46 :: g 47 :: g 48 :: g 49 :: g 50 :: g 51 :: g 52 :: g 53 :: g 54 :: g 55 :: g 56 :: g 57 :: g 58 :: g 59 :: g 60 :: g 61 :: g 62 :: g 63 :: g 64 :: g 65 :: g 66 :: g 67 :: g 68 :: g 69 :: g 70 :: g 71 :: g 72 :: g 73 :: g 74 :: g 75 :: g 76 :: g 77 :: g 78 :: g 79 :: g 80 :: g 81 :: g 82 :: g 83 :: g 84 :: g 85 :: g 86 :: g 87 :: g 88 :: g 89 :: g 90 :: g 91 :: g 92 :: g 93 :: g 94 :: g 95 :: g 96 :: g 97 :: g 98 :: g 99 :: g 100 :: g 101 :: g 102 :: g 103 :: g 104 :: g 105 :: g 106 :: g 107 :: g 108 :: g 109 :: g 110 :: g 111 :: g 112 :: g 113 :: []).toArray = ((List.range 114).map g).toArray := by rfl
set_option maxRecDepth 100000 in
theorem act114 (a : Act) (hd : a.defers = []) (hs : a.tmps.size = 114) : ∃ g : Nat → Value, (∀ i, a.tmps.getD i undef = g i) ∧ a = { tmps := (g 0 :: g 1 :: g 2 :: g 3 :: g 4 :: g 5 :: g 6 :: g 7 :: g 8 :: g 9 :: g 10 :: g 11 :: g 12 :: g 13 :: g 14 :: g 15 :: g 16 :: g 17 :: g 18 :: g 19 :: g 20 :: g 21 :: g 22 :: g 23 :: g 24 :: g 25 :: g 26 :: g 27 :: g 28 :: g 29 :: g 30 :: g 31 :: g 32 :: g 33 :: g 34 :: g 35 :: g 36 :: g 37 :: g 38 :: g 39 :: g 40 :: g 41 :: g 42 :: g 43 :: g 44 :: g 45 :: g 46 :: g 47 :: g 48 :: g 49 :: g 50 :: g 51 :: g 52 :: g 53 :: g 54 :: g 55 :: g 56 :: g 57 :: g 58 :: g 59 :: g 60 :: g 61 :: g 62 :: g 63 :: g 64 :: g 65 :: g 66 :: g 67 :: g 68 :: g 69 :: g 70 :: g 71 :: g 72 :: g 73 :: g 74 :: g 75 :: g 76 :: g 77 :: g 78 :: g 79 :: g 80 :: g 81 :: g 82 :: g 83 :: g 84 :: g 85 :: g 86 :: g 87 :: g 88 :: g 89 :: g 90 :: g 91 :: g 92 :: g 93 :: g 94 :: g 95 :: g 96 :: g 97 :: g 98 :: g 99 :: g 100 :: g 101 :: g 102 :: g 103 :: g 104 :: g 105 :: g 106 :: g 107 :: g 108 :: g 109 :: g 110 :: g 111 :: g 112 :: g 113 :: []).toArray, defers := [] } := by
  refine ⟨fun i => a.tmps.getD i undef, fun _ => rfl, ?_⟩
  have h := lit114 (fun i => a.tmps.getD i undef)
  have e : a.tmps = ((List.range 114).map (fun i => a.tmps.getD i undef)).toArray := by
    apply Array.ext
    · simp [hs]
    · intro i h1 h2
      simp [h1]
  exact (show a = Act.mk a.tmps a.defers from rfl).trans (by rw [hd]; exact congrArg (fun t => Act.mk t []) (e.trans h.symm))

def tyF (n k : Nat) (c : Int) (i : Nat) : Int := if k ≤ i % n then 5 else c
def tyL (n k : Nat) (c : Int) : List Int := (List.range (2 * n)).map (tyF n k c)
def tyJ (n k : Nat) (c : Int) (j : Nat) : List Int := (List.range (2 * n)).map fun i => if i < j then tyF n k c i else 0
def tyG (n k i : Nat) : Int := if i % n = k then 3 + ((i / n : Nat) : Int) else 0
def tyX (n k : Nat) : List Int := (List.range (2 * n)).map (tyG n k)
theorem tyL_length (n k : Nat) (c : Int) : (tyL n k c).length = 2 * n := by simp [tyL]
theorem tyJ_length (n k : Nat) (c : Int) (j : Nat) : (tyJ n k c j).length = 2 * n := by simp [tyJ]
theorem tyX_length (n k : Nat) : (tyX n k).length = 2 * n := by simp [tyX]
theorem tyL_get {n k i : Nat} (c : Int) (h : i < 2 * n) : (tyL n k c).getD i 0 = tyF n k c i := by simp [tyL, h]
theorem tyX_get {n k i : Nat} (h : i < 2 * n) : (tyX n k).getD i 0 = tyG n k i := by simp [tyX, h]
theorem tyJ_zero (n k : Nat) (c : Int) : tyJ n k c 0 = zer (2 * n) := by
  apply List.ext_getElem
  · simp [tyJ, zer]
  · intro i h1 h2
    simp [tyJ, zer]
theorem tyJ_all (n k : Nat) (c : Int) : tyJ n k c (2 * n) = tyL n k c := by
  simp only [tyJ, tyL]
  apply List.map_congr_left
  intro i hi
  rw [if_pos (List.mem_range.1 hi)]
theorem tyJ_set (n k : Nat) (c : Int) (j : Nat) : (tyJ n k c j).set j (tyF n k c j) = tyJ n k c (j + 1) := by
  apply List.ext_getElem
  · simp [tyJ]
  · intro i h1 h2
    simp only [List.getElem_set, tyJ, List.getElem_map, List.getElem_range]
    by_cases e : j = i
    · subst e; simp
    · rw [if_neg e]
      by_cases h : i < j
      · simp [h, show i < j + 1 from by omega]
      · simp [h, show ¬ i < j + 1 from by omega]
theorem tyJ_set2 (n k : Nat) (c x : Int) (j : Nat) : ((tyJ n k c j).set j x).set j (tyF n k c j) = tyJ n k c (j + 1) := by
  rw [List.set_set, tyJ_set]
theorem tie_first {n k : Nat} {c : Int} (hk : k < n) (hc : c < 5) (j : Nat) (hj : j < 2) : fC n (tyL n k c) j = k := by
  obtain ⟨h1, h2, h3⟩ := fsN_spec (chk n (tyL n k c) j) n (by omega)
  have ev : ∀ i, i < n → (chk n (tyL n k c) j).getD i 0 = if k ≤ i then 5 else c := by
    intro i hi
    rw [chk_get hi, tyL_get c (cm_lt hj hi), tyF, cm_mod hi]
  show fsN (chk n (tyL n k c) j) n = k
  generalize fsN (chk n (tyL n k c) j) n = m at *
  have a1 := h2 k hk
  rw [ev k hk, ev m h1, if_pos (Nat.le_refl _)] at a1
  by_cases hm : k ≤ m
  · by_cases h : k < m
    · have a2 := h3 k h
      rw [ev k hk, ev m h1, if_pos (Nat.le_refl _), if_pos hm] at a2
      omega
    · omega
  · rw [if_neg hm] at a1
    omega
theorem tie_maxs {n k : Nat} {c : Int} (hk : k < n) (hc : c < 5) : maxs n 2 (tyL n k c) = [5, 5] := by
  have hm : ∀ j, j < 2 → mC n (tyL n k c) j = 5 := by
    intro j hj
    unfold mC
    rw [tie_first hk hc j hj, tyL_get c (cm_lt hj hk), tyF, cm_mod hk, if_pos (Nat.le_refl _)]
  show (List.range 2).map (mC n (tyL n k c)) = [5, 5]
  have : List.range 2 = [0, 1] := rfl
  rw [this]
  simp [hm]
theorem div2 {n i : Nat} (h : i < 2 * n) : i / n < 2 := by
  rw [Nat.div_lt_iff_lt_mul (by omega)]
  exact h
theorem tie_picks {n k : Nat} {c : Int} (hk : k < n) (hc : c < 5) : picks n (tyL n k c) [3, 4] = tyX n k := by
  simp only [picks, tyX, tyL_length]
  apply List.map_congr_left
  intro i hi
  have h2 := div2 (List.mem_range.1 hi)
  rw [gC, tie_first hk hc _ h2, tyG]
  by_cases e : i % n = k
  · simp only [e, beq_self_eq_true, if_true]
    generalize i / n = q at *
    have : q = 0 ∨ q = 1 := by omega
    rcases this with rfl | rfl <;> rfl
  · simp [e]
theorem les2 {n : Nat} (h : 1 ≤ n) : lesD [2, (n : Int)] n = [2, 1] := by
  have : (n : Int) / n = 1 := Int.ediv_self (by omega)
  simp [lesD, lastD, this]
theorem tie_tok {n : Nat} {l : List Int} (h1 : 1 ≤ n) (h8 : n ≤ 8) (hl : l.length = 2 * n) : tok ([2, (n : Int)], l) = true := by
  have e1 : prd [2, (n : Int)] = 2 * n := by simp [prd]
  have e2 : inr [2, (n : Int)] = true := by simp [inr]; omega
  have e3 : okd [2, (n : Int)] = true := okd_mk (by simp) (by simp) e2 (by rw [e1]; omega)
  simp only [tok, e3, e1, hl, Bool.true_and, decide_eq_true_eq]
  simp
theorem tie_fw {n k : Nat} {c : Int} (h1 : 1 ≤ n) (h8 : n ≤ 8) : fwE ([2, (n : Int)], tyL n k c) n = 0 := by
  unfold fwE
  rw [if_pos ⟨tie_tok h1 h8 (tyL_length _ _ _), by omega, by omega⟩]
  simp [lastD]
theorem tie_mx {n k : Nat} {c : Int} (h1 : 1 ≤ n) (h8 : n ≤ 8) (hk : k < n) (hc : c < 5) : mxR ([2, (n : Int)], tyL n k c) n = ([2, 1], [5, 5]) := by
  have e : 2 * n / n = 2 := Nat.mul_div_cancel _ (by omega)
  rw [mxR, if_pos (tie_fw h1 h8), les2 h1, mxM, Int.toNat_natCast, tyL_length, e, tie_maxs hk hc]
theorem tie_pe {n k : Nat} {c : Int} (h1 : 1 ≤ n) (h8 : n ≤ 8) : pkE ([2, (n : Int)], tyL n k c) ([2, 1], [3, 4]) n = 0 := by
  have e : tok ([2, 1], [3, 4]) = true := by decide +kernel
  rw [pkE, tie_fw h1 h8, e, if_neg (by simp), if_pos ⟨rfl, (les2 h1).symm⟩]
theorem tie_pr {n k : Nat} {c : Int} (h1 : 1 ≤ n) (h8 : n ≤ 8) (hk : k < n) (hc : c < 5) : pkR ([2, (n : Int)], tyL n k c) ([2, 1], [3, 4]) n = ([2, (n : Int)], tyX n k) := by
  rw [pkR, if_pos (tie_pe h1 h8), Int.toNat_natCast, tie_picks hk hc]

end Go.Proofs.Ytnphfepkjhlalaa
