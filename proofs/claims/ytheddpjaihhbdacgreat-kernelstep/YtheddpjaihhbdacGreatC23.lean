/- Carried: C1, R2. -/
import Derived.Test.YtheddpjaihhbdacGreatC22
namespace Go.Proofs.YtheddpjaihhbdacGreat
set_option linter.unusedVariables false
set_option linter.unusedSimpArgs false
set_option maxRecDepth 100000
open Go.RowKit

/-- From the last place on, c of them laid. -/
def rsA (n : Nat) (F : Nat → Int) (c : Nat) : List Int := (List.range n).map fun i => if n - c ≤ i then F i else 0
theorem rsA_length (n : Nat) (F : Nat → Int) (c : Nat) : (rsA n F c).length = n := by simp [rsA]
theorem rsA_zero (n : Nat) (F : Nat → Int) : rsA n F 0 = zer n := by
  apply List.ext_getElem
  · simp [rsA, zer]
  · intro i h1 h2
    have : i < n := by simpa [rsA] using h1
    simp [rsA, zer, show ¬ n ≤ i by omega]
theorem rsA_set (n : Nat) (F : Nat → Int) (c : Nat) (h : c < n) : (rsA n F c).set (n - 1 - c) (F (n - 1 - c)) = rsA n F (c + 1) := by
  apply List.ext_getElem
  · simp [rsA]
  · intro i h1 h2
    have hi : i < n := by simpa [rsA] using h2
    simp only [List.getElem_set, rsA, List.getElem_map, List.getElem_range]
    by_cases e : n - 1 - c = i
    · subst e
      rw [if_pos rfl, if_pos (by omega)]
    · rw [if_neg e]
      by_cases h : n - c ≤ i
      · simp [h, show n - (c + 1) ≤ i from by omega]
      · simp [h, show ¬ n - (c + 1) ≤ i from by omega]
theorem rsA_all (n : Nat) (F : Nat → Int) : rsA n F n = (List.range n).map F := by
  apply List.ext_getElem
  · simp [rsA]
  · intro i h1 h2
    simp [rsA]
theorem rwh_eq {d : List Int} (h : okd d = true) (n : Int) (h0 : 0 ≤ n) (h1 : n < prd d) : (List.range d.length).map (rwE d n) = whr d n := by
  obtain ⟨k, rfl⟩ := Int.eq_ofNat_of_zero_le h0
  apply List.ext_getElem
  · simp [whr]
  · intro i g1 g2
    have hi : i < d.length := by simpa using g1
    obtain ⟨_, _, h3⟩ := chk_k h k h1
    have h4 := h3 i hi
    simp only [chkJ, Bool.and_eq_true, beq_iff_eq] at h4
    simp only [whr, List.getElem_map, List.getElem_range]
    exact h4.1.2.symm
set_option maxHeartbeats 400000 in
theorem rat_ok {v v' : Value} {d p : List Int} {w : World} (hd : Ints w v d) (hp : Ints w v' p) (hok : okd d = true) (hpk : pok d p = true) :
    Calls Tryz.prog 71 #[v, v'] w fun e w' => e = .returned (.int .i64 (atV d p)) ∧ ∃ n, w' = w.drewN n := by
  have HPK : Hid (pok d p = true) := hpk
  have hpl := pok_len hpk
  have HPL : Hid (p.length = d.length) := hpl
  obtain ⟨hl1, hl2, hin, _⟩ := okd_parts hok
  have HI : Hid (inr d = true) := hin
  rcases hd.cases with ⟨rfl, _⟩ | ⟨b, off, c, rfl, h0, h1, h2, HC⟩
  · simp at hl1
  rcases hp.cases with ⟨rfl, _⟩ | ⟨b', off', c', rfl, h0', h1', h2', HC'⟩
  · simp at hpl; omega
  clear hok hin hd hp h2 h2' hpk hpl
  go_enter Tryz.func71, Tryz.ntmps71
  go_wp2
  go_loopw [5, 6] (fun t i w' => ∃ k m : Nat, k ≤ d.length ∧ i = .int .i64 k ∧ t = .int .i64 (atN d p k) ∧ w' = w.drewN m) (fun _ i _ => d.length - (intOf i).toNat)
  case atStart => exact ⟨0, 0, Nat.zero_le _, rfl, rfl, rfl⟩
  case round =>
    obtain ⟨k, m, hk, rfl, rfl, rfl⟩ := hrel
    by_cases hlt : k < d.length
    · have hltp : k < p.length := by have := HPL.out; omega
      have hx := HC.out k hlt
      have hy := HC'.out k hltp
      obtain ⟨hb1, hb2⟩ := atN_bd HI.out k hk (fun j hj => pok_at HPK.out j (by omega))
      have hp2 := prd_hi (inr_take HI.out k) 2 (by simp; omega)
      obtain ⟨g1, g2⟩ := inr_mem HI.out (List.getElem_mem hlt)
      have hpk := pok_at HPK.out k hlt
      rw [show p.getD k 0 = p[k] by simp [hltp], show d.getD k 0 = d[k] by simp [hlt]] at hpk
      obtain ⟨q1, q2⟩ := hpk
      have EA : Hid (atN d p (k + 1) = atN d p k * d[k] + p[k]) := by
        show _ = _
        rw [atN, show p.getD k 0 = p[k] by simp [hltp], show d.getD k 0 = d[k] by simp [hlt]]
      have hb3 : atN d p k ≤ 64 := by omega
      have hm1 : 0 ≤ atN d p k * d[k] := Int.mul_nonneg hb1 (by omega)
      have hm2 : atN d p k * d[k] ≤ 512 := by
        have := Int.mul_le_mul hb3 g2 (by omega) (by omega)
        omega
      clear hp2 hb2
      go_wp2
      go_quiet (fail)
      go_wp2
      go_roundw
      case rel => exact ⟨k + 1, m + nq, by omega, by go_num, by rw [EA.out], rfl⟩
      case measure => simp [intOf]; omega
    · have hk' : k = d.length := by omega
      subst hk'
      go_wp2
      go_ret
      exact ⟨rfl, _, rfl⟩
theorem rwR_bd {d : List Int} (hin : inr d = true) {n : Int} (h0 : 0 ≤ n) (h1 : n < 64) (c : Nat) (hl : c ≤ d.length) : 0 ≤ rwR d n c ∧ rwR d n c < 64 := by
  induction c with
  | zero => exact ⟨h0, h1⟩
  | succ c ih =>
    obtain ⟨r1, r2⟩ := ih (by omega)
    have hi : d.length - 1 - c < d.length := by omega
    have hd := inr_mem hin (List.getElem_mem hi)
    rw [rwR, show d.getD (d.length - 1 - c) 0 = d[d.length - 1 - c] by simp [hi]]
    have a1 := Int.ediv_nonneg r1 (show 0 ≤ d[d.length - 1 - c] by omega)
    have a2 := Int.ediv_le_self (b := d[d.length - 1 - c]) (a := rwR d n c) r1
    omega
set_option maxHeartbeats 1000000 in
theorem rwhere_ok {v : Value} {d : List Int} {w : World} (n : Int) (h : Ints w v d) (hok : okd d = true) (hn0 : 0 ≤ n) (hn1 : n < prd d) :
    Calls Tryz.prog 73 #[v, .int .i64 n] w fun e w' => e = .returned (.slice (some ⟨w.heap.size, 0, none⟩) d.length d.length) ∧ Blk w' w.heap.size (whr d n) ∧ Below w.heap.size w w' := by
  have HK : Hid (okd d = true) := hok
  obtain ⟨hl1, hl2, hin, hp⟩ := okd_parts hok
  have HI : Hid (inr d = true) := hin
  have h64 : n < 64 := by omega
  have HN1 : Hid (n < prd d) := hn1
  rcases h.cases with ⟨rfl, _⟩ | ⟨b, off, c, rfl, h0, h1, h2, HC⟩
  · simp at hl1
  have hmk := fun w => make_ints w d.length (by omega)
  clear hok hin h h2 hn1
  go_enter Tryz.func73, Tryz.ntmps73
  go_wp2
  clear hmk
  have HST : Hid (Blk (w.alloc (.cells (ia (zer d.length)) 3)) w.heap.size (rsA d.length (rwE d n) 0)) := by
    show Blk _ _ _
    rw [rsA_zero]
    exact Blk.new w _
  go_loopw [1, 6] (fun p i w' => ∃ c : Nat, c ≤ d.length ∧ i = .int .i64 ((d.length : Int) - 1 - c) ∧ p = .int .i64 (rwR d n c) ∧ Blk w' w.heap.size (rsA d.length (rwE d n) c) ∧ Below w.heap.size w w') (fun _ i _ => (intOf i + 1).toNat)
  case atStart => exact ⟨0, by omega, by simp, rfl, HST.out, (Below.refl _ _).alloc (Nat.le_refl _) _⟩
  case round =>
    obtain ⟨c, hc, rfl, rfl, hB, hbel⟩ := hrel
    have HB3 : Hid (Blk wr w.heap.size (rsA d.length (rwE d n) c)) := hB
    have HBL3 : Hid (Below w.heap.size w wr) := hbel
    clear hB hbel
    by_cases hlt : c < d.length
    · obtain ⟨i, hi⟩ : ∃ i : Nat, (d.length : Int) - 1 - c = i := ⟨d.length - 1 - c, by omega⟩
      have hid : i < d.length := by omega
      have hie : i = d.length - 1 - c := by omega
      have hx0 := cell_later HBL3.out (HC.out i hid)
      have hx := cell_later (HBL3.out.setCell (p := ⟨w.heap.size, i, none⟩) (Nat.le_refl _) (.int .i64 (rwR d n c % d[i]))) (HC.out i hid)
      have hf := HB3.out.frozen i
      obtain ⟨y, hcy⟩ : ∃ y, wr.cell? ⟨w.heap.size, i, none⟩ = some y := ⟨_, HB3.out.cell i (by rw [rsA_length]; exact hid)⟩
      obtain ⟨g1, g2⟩ := inr_mem HI.out (List.getElem_mem hid)
      obtain ⟨r1, r2⟩ := rwR_bd HI.out hn0 h64 c hc
      have hne : ¬ (d[i] = 0) := by omega
      have hnb : (d[i] == 0) = false := by simp; omega
      have HN : Hid (rwR d n (c + 1) = rwR d n c / d[i]) := by
        show _ = _
        rw [rwR, ← hie]
        simp [hid]
      have HS : Hid ((rsA d.length (rwE d n) c).set i (rwR d n c % d[i]) = rsA d.length (rwE d n) (c + 1)) := by
        show _ = _
        have := rsA_set d.length (rwE d n) c hlt
        rw [← hie] at this
        rw [← this, rwE, show d.length - 1 - i = c by omega]
        simp [hid]
      have HEI : Hid ((d.length : Int) - 1 - c = i) := hi
      rw [hi]
      clear hie hi
      go_wp2
      refine ⟨⟨c + 1, by omega, ?_, by rw [HN.out], ?_, HBL3.out.setCell (Nat.le_refl _) _⟩, ?_⟩
      · have := HEI.out
        exact congrArg (Value.int .i64) (by omega)
      · have := HB3.out.set i (rwR d n c % d[i])
        rw [HS.out] at this
        exact this
      · simp [intOf]
    · have hc' : c = d.length := by omega
      subst hc'
      go_wp2
      go_ret
      refine ⟨rfl, ?_, HBL3.out⟩
      have := HB3.out
      rw [rsA_all, rwh_eq HK.out n hn0 HN1.out] at this
      exact this
set_option maxHeartbeats 400000 in
theorem ties_any {v : Value} {d : List Int} {w : World} (h : Ints w v d) (hl : d.length ≤ 3) :
    Calls Tryz.prog 93 #[v] w fun e w' => e = .returned (.string (tieT d)) ∧ w = w' := by
  rcases h.cases with ⟨rfl, a1, c1, rfl⟩ | ⟨b, off, c, rfl, h0, h1, h2, HC⟩
  · clear h
    go_enter Tryz.func93, Tryz.ntmps93
    go_wp2
    refine wp_loop_rounds 1 ?_
    rw [rounds_succ]
    go_wp2
    go_ret
    exact ⟨rfl, rfl⟩
  clear h h2
  go_enter Tryz.func93, Tryz.ntmps93
  go_wp2
  go_loop [3, 8] (fun t i => ∃ k : Nat, k ≤ d.length ∧ i = .int .i64 k ∧ t = .string (tieT (d.take k))) (fun _ i => d.length - (intOf i).toNat)
  case atStart => exact ⟨0, Nat.zero_le _, rfl, by rw [List.take_zero]; rfl⟩
  case round =>
    obtain ⟨k, hk, rfl, rfl⟩ := hrel
    by_cases hlt : k < d.length
    · have hc := HC.out k hlt
      have hsz : (tieT (d.take k)).size = k := by rw [tieT_size]; simp; omega
      have HT : Hid (tieT (d.take (k + 1)) = tieT (d.take k) ++ ⟨#[tieB d[k]]⟩) := by
        show _ = _
        rw [take_snoc d k hlt, tieT_snoc]
      by_cases h1 : d[k] = 1
      · have hq : (d[k] == 1) = true := by simp [h1]
        have HB : Hid (tieB d[k] = 42) := by show _ = _; simp [tieB, h1]
        clear h1
        go_wp2
        exact ⟨⟨k + 1, by omega, by go_num, by rw [HT.out, HB.out]⟩, by simp [intOf]; omega⟩
      · have hq : (d[k] == 1) = false := by simp [h1]
        have HB : Hid (tieB d[k] = 61) := by show _ = _; simp [tieB, h1]
        clear h1
        go_wp2
        exact ⟨⟨k + 1, by omega, by go_num, by rw [HT.out, HB.out]⟩, by simp [intOf]; omega⟩
    · have hk' : k = d.length := by omega
      subst hk'
      go_wp2
      go_ret
      exact ⟨rfl, rfl⟩
end Go.Proofs.YtheddpjaihhbdacGreat
