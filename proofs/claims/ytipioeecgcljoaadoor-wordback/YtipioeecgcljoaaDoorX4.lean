/- Contract: package word's Digits. -/
import Derived.Test.YtipioeecgcljoaaDoorX3
namespace Go.Proofs.YtipioeecgcljoaaDoor
set_option linter.unusedVariables false
set_option linter.unusedSimpArgs false
set_option maxRecDepth 100000
open Go.RowKit

theorem ofNat_dig (i : Nat) (h : i < 10) : (UInt8.ofNat (48 + i)).toNat = 48 + i := by
  rw [UInt8.toNat_ofNat']; omega
theorem dec_small {u : Nat} (h : u < 10) : Lib.decDigits u = [UInt8.ofNat (48 + u)] := by rw [Lib.decDigits, dif_pos h]
theorem dec_big {u : Nat} (h : ¬ u < 10) : Lib.decDigits u = Lib.decDigits (u / 10) ++ [UInt8.ofNat (48 + u % 10)] := by rw [Lib.decDigits, dif_neg h]
theorem dec_all (u : Nat) : ∀ c ∈ Lib.decDigits u, 48 ≤ c.toNat ∧ c.toNat ≤ 57 := by
  induction u using Nat.strongRecOn with
  | _ u ih =>
    by_cases h : u < 10
    · rw [dec_small h]
      intro c hc
      simp only [List.mem_cons, List.not_mem_nil, or_false] at hc
      rw [hc, ofNat_dig u h]
      omega
    · rw [dec_big h]
      intro c hc
      rcases List.mem_append.1 hc with hc | hc
      · exact ih (u / 10) (by omega) c hc
      · simp only [List.mem_cons, List.not_mem_nil, or_false] at hc
        rw [hc, ofNat_dig _ (by omega)]
        omega
theorem dec_val (u : Nat) : digV (Lib.decDigits u) = u := by
  induction u using Nat.strongRecOn with
  | _ u ih =>
    by_cases h : u < 10
    · rw [dec_small h]
      have := ofNat_dig u h
      simp only [digV, List.foldl]
      omega
    · rw [dec_big h, digV_snoc, ih (u / 10) (by omega), ofNat_dig _ (by omega)]
      omega
theorem dec_head (u : Nat) (hu : ¬ u = 0) : ∃ c r, Lib.decDigits u = c :: r ∧ 49 ≤ c.toNat := by
  induction u using Nat.strongRecOn with
  | _ u ih =>
    by_cases h : u < 10
    · exact ⟨_, _, dec_small h, by rw [ofNat_dig u h]; omega⟩
    · obtain ⟨c, r, e, hc⟩ := ih (u / 10) (by omega) (by omega)
      exact ⟨c, r ++ [UInt8.ofNat (48 + u % 10)], by rw [dec_big h, e]; rfl, hc⟩
theorem dec_len (u : Nat) (hu : u ≤ 1073741824) : 1 ≤ (Lib.decDigits u).length ∧ (Lib.decDigits u).length ≤ 10 := by
  by_cases h0 : u = 0
  · subst h0; rw [dec_small (by decide)]; exact ⟨by decide, by decide⟩
  · obtain ⟨c, r, e, hc⟩ := dec_head u h0
    refine ⟨by rw [e]; simp, ?_⟩
    apply Nat.le_of_not_lt
    intro hlt
    have h5 := digV_pow (Lib.decDigits u) (fun h => by simpa [e] using hc) 10 hlt
    have h6 := digV_all (Lib.decDigits u) (10 + 1) (by omega)
    rw [dec_val] at h6
    omega
theorem numD_dec (u : Nat) : numD (Lib.decDigits u) = Lib.decDigits u := by
  cases e : Lib.decDigits u with
  | nil => rfl
  | cons c r =>
    have := dec_all u c (by rw [e]; simp)
    show (if c.toNat = 45 then r else c :: r) = c :: r
    rw [if_neg (by omega)]
theorem numP_dec (l : List UInt8) (u : Nat) (hu : u ≤ 1073741824) (e : numD l = Lib.decDigits u) (hz : u = 0 → l = [48]) : numP l := by
  have hl := dec_len u hu
  refine ⟨by rw [e]; exact hl.1, by rw [e]; exact hl.2, ?_, by rw [e]; exact dec_all u, by rw [e, dec_val]; exact hu⟩
  rintro ⟨g1, g2⟩
  by_cases h0 : u = 0
  · exact g2 (hz h0)
  · obtain ⟨c, r, ec, hc⟩ := dec_head u h0
    rw [e, ec] at g1
    simp at g1
    omega
theorem itoa_num (n : Int) (h1 : -1073741824 ≤ n) (h2 : n ≤ 1073741824) : numK (Lib.itoa n) = true ∧ numV (Lib.itoa n) = n := by
  by_cases h0 : n < 0
  · have e : Lib.itoa n = 45 :: Lib.decDigits n.natAbs := by rw [Lib.itoa, if_pos h0]
    have ed : numD (Lib.itoa n) = Lib.decDigits n.natAbs := by rw [e]; rfl
    obtain ⟨e1, e2⟩ := num_yes (numP_dec (Lib.itoa n) n.natAbs (by omega) ed (fun h => by omega))
    refine ⟨e2, ?_⟩
    rw [e1, ed, e, if_pos (by simp), dec_val]
    omega
  · have e : Lib.itoa n = Lib.decDigits n.toNat := by rw [Lib.itoa, if_neg h0]
    have ed : numD (Lib.itoa n) = Lib.decDigits n.toNat := by rw [e, numD_dec]
    obtain ⟨e1, e2⟩ := num_yes (numP_dec (Lib.itoa n) n.toNat (by omega) ed (fun h => by rw [e, h, dec_small (by decide)]; rfl))
    refine ⟨e2, ?_⟩
    rw [e1, ed, e, if_neg (by omega), dec_val]
    omega
theorem below_grown (w : World) (k : Nat) (os : Array Obj) : Below w.heap.size w (Sort.grow (w.drewN k) os) :=
  ⟨rfl, rfl, rfl, by show w.heap.size ≤ (w.heap ++ os).size; rw [Array.size_append]; omega, fun i hi => by show (w.heap ++ os)[i]? = _; rw [Array.getElem?_append_left hi]⟩
/-- The table of the powers of ten, as laid. -/
def PowT (w : World) : Prop := Lib.TabIs Tryd.prog w "internal/strconv.uint64pow10" .u64 Lib.pow10Tab
theorem digits_bad (n : Int) (w : World) (h : n < -1073741824 ∨ 1073741824 < n) :
    Calls Tryd.prog 19 #[.int .i64 n] w fun e w' => e = .returned (.tuple #[.string ⟨#[]⟩, .int .i64 1]) ∧ w = w' := by
  by_cases hlo : n < -1073741824
  · clear h
    go_enter Tryd.func19, Tryd.ntmps19
    go_wp2
    go_ret2
    exact ⟨rfl, rfl⟩
  · have hhi : 1073741824 < n := by omega
    clear h
    go_enter Tryd.func19, Tryd.ntmps19
    go_wp2
    go_ret2
    exact ⟨rfl, rfl⟩
theorem digits_ok (n : Int) (w : World) (h0 : ¬ n < -1073741824) (h1 : ¬ 1073741824 < n) (hT : PowT w) :
    Calls Tryd.prog 19 #[.int .i64 n] w fun e w' => e = .returned (.tuple #[.string ⟨(Lib.itoa n).toArray⟩, .int .i64 0]) ∧ Below w.heap.size w w' := by
  have HT : Hid (PowT w) := hT
  clear hT
  go_enter Tryd.func19, Tryd.ntmps19
  go_wp2_with (go_at_call 33; refine (Tryd.strconv_Itoa n (by omega) (by omega) _ HT.out).mono ?_; rintro e w2 ⟨rfl, k, os, rfl⟩)
  go_ret2
  exact ⟨rfl, below_grown _ _ _⟩
theorem digits_to (n : Int) (w : World) (hT : PowT w) :
    Calls Tryd.prog 19 #[.int .i64 n] w fun e w' => (∃ t : ByteArray, e = .returned (.tuple #[.string t, .int .i64 (if -1073741824 ≤ n ∧ n ≤ 1073741824 then 0 else 1)]) ∧
    (if -1073741824 ≤ n ∧ n ≤ 1073741824 then numK t.data.toList = true ∧ numV t.data.toList = n else t = ⟨#[]⟩)) ∧ Below w.heap.size w w' := by
  by_cases h : -1073741824 ≤ n ∧ n ≤ 1073741824
  · refine (digits_ok n w (by omega) (by omega) hT).mono ?_
    rintro e w2 ⟨rfl, hb⟩
    exact ⟨⟨_, by rw [if_pos h], by rw [if_pos h]; exact itoa_num n h.1 h.2⟩, hb⟩
  · refine (digits_bad n w (by omega)).mono ?_
    rintro e w2 ⟨rfl, rfl⟩
    exact ⟨⟨_, by rw [if_neg h], by rw [if_neg h]⟩, Below.refl _ _⟩
end Go.Proofs.YtipioeecgcljoaaDoor
