/- Contracts of the page's own answers: Tensor, Steps, At, Where; and of Numbers, which writes over. -/
import Derived.Test.YtgedknmjenbacaaR1
import Derived.Test.YtgedknmjenbacaaW5
import Derived.Test.YtgedknmjenbacaaW8
import Derived.Test.YtgedknmjenbacaaAtw
namespace Go.Proofs.Ytgedknmjenbacaa
set_option linter.unusedVariables false
set_option linter.unusedSimpArgs false
open Go.RowKit

theorem rdims_to {v : Value} {d : List Int} {w : World} (x : Bool) (h : Ints w v d) (hx : okd d = x) :
    Calls Try.prog 19 #[v] w fun e w' => e = .returned (.bool x) ∧ w = w' := by
  subst hx
  exact rdims_any h

set_option maxHeartbeats 400000 in
theorem rtensor_any {v0 v1 : Value} {t : List Int × List Int} {w : World} (h : Tens w v0 v1 t) :
    Calls Try.prog 8 #[.agg #[v0, v1]] w fun e w' => e = .returned (.bool (tok t)) ∧ Below w.heap.size w w' := by
  have hb : Below w.heap.size w (w.alloc (.cells #[v0, v1] 31)) := (Below.refl _ _).alloc (Nat.le_refl _) _
  have H0 : Hid (Ints (w.alloc (.cells #[v0, v1] 31)) v0 t.1) := h.1.later hb
  have hl := h.2.len
  unfold big at hl
  obtain ⟨a0, c0, rfl⟩ := h.1.shape
  obtain ⟨a1, c1, rfl⟩ := h.2.shape
  have HB : Hid (Below w.heap.size w (w.alloc (.cells #[.slice a0 t.1.length c0, .slice a1 t.2.length c1] 31))) := hb
  clear hb h
  cases ho : okd t.1 with
  | false =>
    have HO : Hid (okd t.1 = false) := ho
    have HT : Hid (tok t = false) := by show _ = _; simp [tok, ho]
    clear ho
    go_enter Try.func8, Try.ntmps8
    go_wp2
    go_quiet ((go_at_call 19; exact quiet_eq (rdims_to false (H0.out.drewN _) HO.out)))
    go_wp2
    go_ret
    exact ⟨by rw [HT.out]; rfl, Below.drewN HB.out _⟩
  | true =>
    have HO : Hid (okd t.1 = true) := ho
    by_cases hp : (t.2.length : Int) = prd t.1
    · have HT : Hid (tok t = true) := by show _ = _; simp [tok, ho, hp]
      have hne : ((t.2.length : Int) == prd t.1) = true := by simp [hp]
      clear ho hp
      go_enter Try.func8, Try.ntmps8
      go_wp2
      go_quiet (first | (go_at_call 19; exact quiet_eq (rdims_to true (H0.out.drewN _) HO.out)) | (go_at_call 20; exact quiet_eq (rcells_ok (H0.out.drewN _) HO.out)))
      go_wp2
      go_ret
      exact ⟨by rw [HT.out]; rfl, Below.drewN HB.out _⟩
    · have HT : Hid (tok t = false) := by show _ = _; simp [tok, ho, hp]
      have hne : ((t.2.length : Int) == prd t.1) = false := by simp [hp]
      clear ho hp
      go_enter Try.func8, Try.ntmps8
      go_wp2
      go_quiet (first | (go_at_call 19; exact quiet_eq (rdims_to true (H0.out.drewN _) HO.out)) | (go_at_call 20; exact quiet_eq (rcells_ok (H0.out.drewN _) HO.out)))
      go_wp2
      go_ret
      exact ⟨by rw [HT.out]; rfl, Below.drewN HB.out _⟩

/-- From the last place on, c of them laid. -/
def rsA (n : Nat) (F : Nat → Int) (c : Nat) : List Int := (List.range n).map fun i => if n - c ≤ i then F i else 0
theorem rsA_length (n : Nat) (F : Nat → Int) (c : Nat) : (rsA n F c).length = n := by simp [rsA]
theorem rsA_zero (n : Nat) (F : Nat → Int) : rsA n F 0 = zer n := by
  apply List.ext_getElem
  · simp [rsA, zer]
  · intro i h1 h2
    have : i < n := by simpa [rsA] using h1
    simp [rsA, zer, show ¬ n ≤ i by omega]
theorem rsA_set (n : Nat) (F : Nat → Int) (c : Nat) (h : c < n) : (rsA n F c).set (n - 1 - c) (F (n - 1 - c)) = rsA n F (c + 1) := by
  apply List.ext_getElem
  · simp [rsA]
  · intro i h1 h2
    have hi : i < n := by simpa [rsA] using h2
    simp only [List.getElem_set, rsA, List.getElem_map, List.getElem_range]
    by_cases e : n - 1 - c = i
    · subst e
      rw [if_pos rfl, if_pos (by omega)]
    · rw [if_neg e]
      by_cases h : n - c ≤ i
      · simp [h, show n - (c + 1) ≤ i from by omega]
      · simp [h, show ¬ n - (c + 1) ≤ i from by omega]
theorem rsA_all (n : Nat) (F : Nat → Int) : rsA n F n = (List.range n).map F := by
  apply List.ext_getElem
  · simp [rsA]
  · intro i h1 h2
    simp [rsA]
theorem rsN_bd {d : List Int} (hin : inr d = true) (c : Nat) (hc : c ≤ 2) (hl : c ≤ d.length) : 1 ≤ rsN d c ∧ rsN d c ≤ 64 := by
  have key : ∀ c, c ≤ d.length → 1 ≤ rsN d c ∧ rsN d c ≤ 8 ^ c := by
    intro c
    induction c with
    | zero => intro _; simp [rsN]
    | succ c ih =>
      intro hc
      obtain ⟨h1, h2⟩ := ih (by omega)
      have hi : d.length - 1 - c < d.length := by omega
      have hd := inr_mem hin (List.getElem_mem hi)
      rw [rsN, show d.getD (d.length - 1 - c) 0 = d[d.length - 1 - c] by simp [hi]]
      have a1 := Int.mul_le_mul h1 hd.1 (by omega) (by omega)
      have a2 := Int.mul_le_mul h2 hd.2 (by omega) (by omega)
      rw [Int.pow_succ]
      omega
  have := key c hl
  have h8 : (8 : Int) ^ c ≤ 64 := by
    have : c = 0 ∨ c = 1 ∨ c = 2 := by omega
    rcases this with rfl | rfl | rfl <;> decide
  omega
theorem rst_eq {d : List Int} (h : okd d = true) : (List.range d.length).map (fun i => rsN d (d.length - 1 - i)) = stp d := by
  apply List.ext_getElem
  · simp [stp, stA]
  · intro i h1 h2
    have hi : i < d.length := by simpa using h1
    obtain ⟨_, _, hin, _⟩ := okd_parts h
    have hp := prd_lo hin
    obtain ⟨_, _, h3⟩ := chk_k h 0 (by simp; omega)
    have h4 := h3 i hi
    simp only [chkJ, Bool.and_eq_true, beq_iff_eq] at h4
    rw [stp_get]
    simpa using h4.2
theorem rwh_eq {d : List Int} (h : okd d = true) (n : Int) (h0 : 0 ≤ n) (h1 : n < prd d) : (List.range d.length).map (rwE d n) = whr d n := by
  obtain ⟨k, rfl⟩ := Int.eq_ofNat_of_zero_le h0
  apply List.ext_getElem
  · simp [whr]
  · intro i g1 g2
    have hi : i < d.length := by simpa using g1
    obtain ⟨_, _, h3⟩ := chk_k h k h1
    have h4 := h3 i hi
    simp only [chkJ, Bool.and_eq_true, beq_iff_eq] at h4
    simp only [whr, List.getElem_map, List.getElem_range]
    exact h4.1.2.symm

set_option maxHeartbeats 400000 in
theorem rat_ok {v v' : Value} {d p : List Int} {w : World} (hd : Ints w v d) (hp : Ints w v' p) (hok : okd d = true) (hpk : pok d p = true) :
    Calls Try.prog 40 #[v, v'] w fun e w' => e = .returned (.int .i64 (atV d p)) ∧ ∃ n, w' = w.drewN n := by
  have HPK : Hid (pok d p = true) := hpk
  have hpl := pok_len hpk
  have HPL : Hid (p.length = d.length) := hpl
  obtain ⟨hl1, hl2, hin, _⟩ := okd_parts hok
  have HI : Hid (inr d = true) := hin
  rcases hd.cases with ⟨rfl, _⟩ | ⟨b, off, c, rfl, h0, h1, h2, HC⟩
  · simp at hl1
  rcases hp.cases with ⟨rfl, _⟩ | ⟨b', off', c', rfl, h0', h1', h2', HC'⟩
  · simp at hpl; omega
  clear hok hin hd hp h2 h2' hpk hpl
  go_enter Try.func40, Try.ntmps40
  go_wp2
  go_loopw [5, 6] (fun t i w' => ∃ k m : Nat, k ≤ d.length ∧ i = .int .i64 k ∧ t = .int .i64 (atN d p k) ∧ w' = w.drewN m) (fun _ i _ => d.length - (intOf i).toNat)
  case atStart => exact ⟨0, 0, Nat.zero_le _, rfl, rfl, rfl⟩
  case round =>
    obtain ⟨k, m, hk, rfl, rfl, rfl⟩ := hrel
    by_cases hlt : k < d.length
    · have hltp : k < p.length := by have := HPL.out; omega
      have hx := HC.out k hlt
      have hy := HC'.out k hltp
      obtain ⟨hb1, hb2⟩ := atN_bd HI.out k hk (fun j hj => pok_at HPK.out j (by omega))
      have hp2 := prd_hi (inr_take HI.out k) 2 (by simp; omega)
      obtain ⟨g1, g2⟩ := inr_mem HI.out (List.getElem_mem hlt)
      have hpk := pok_at HPK.out k hlt
      rw [show p.getD k 0 = p[k] by simp [hltp], show d.getD k 0 = d[k] by simp [hlt]] at hpk
      obtain ⟨q1, q2⟩ := hpk
      have EA : Hid (atN d p (k + 1) = atN d p k * d[k] + p[k]) := by
        show _ = _
        rw [atN, show p.getD k 0 = p[k] by simp [hltp], show d.getD k 0 = d[k] by simp [hlt]]
      have hb3 : atN d p k ≤ 64 := by omega
      have hm1 : 0 ≤ atN d p k * d[k] := Int.mul_nonneg hb1 (by omega)
      have hm2 : atN d p k * d[k] ≤ 512 := by
        have := Int.mul_le_mul hb3 g2 (by omega) (by omega)
        omega
      clear hp2 hb2
      go_wp2
      go_quiet (fail)
      go_wp2
      go_roundw
      case rel => exact ⟨k + 1, m + nq, by omega, by go_num, by rw [EA.out], rfl⟩
      case measure => simp [intOf]; omega
    · have hk' : k = d.length := by omega
      subst hk'
      go_wp2
      go_ret
      exact ⟨rfl, _, rfl⟩

theorem rwR_bd {d : List Int} (hin : inr d = true) {n : Int} (h0 : 0 ≤ n) (h1 : n < 64) (c : Nat) (hl : c ≤ d.length) : 0 ≤ rwR d n c ∧ rwR d n c < 64 := by
  induction c with
  | zero => exact ⟨h0, h1⟩
  | succ c ih =>
    obtain ⟨r1, r2⟩ := ih (by omega)
    have hi : d.length - 1 - c < d.length := by omega
    have hd := inr_mem hin (List.getElem_mem hi)
    rw [rwR, show d.getD (d.length - 1 - c) 0 = d[d.length - 1 - c] by simp [hi]]
    have a1 := Int.ediv_nonneg r1 (show 0 ≤ d[d.length - 1 - c] by omega)
    have a2 := Int.ediv_le_self (b := d[d.length - 1 - c]) (a := rwR d n c) r1
    omega

set_option maxHeartbeats 1000000 in
theorem rwhere_ok {v : Value} {d : List Int} {w : World} (n : Int) (h : Ints w v d) (hok : okd d = true) (hn0 : 0 ≤ n) (hn1 : n < prd d) :
    Calls Try.prog 42 #[v, .int .i64 n] w fun e w' => e = .returned (.slice (some ⟨w.heap.size, 0, none⟩) d.length d.length) ∧ Blk w' w.heap.size (whr d n) ∧ Below w.heap.size w w' := by
  have HK : Hid (okd d = true) := hok
  obtain ⟨hl1, hl2, hin, hp⟩ := okd_parts hok
  have HI : Hid (inr d = true) := hin
  have h64 : n < 64 := by omega
  have HN1 : Hid (n < prd d) := hn1
  rcases h.cases with ⟨rfl, _⟩ | ⟨b, off, c, rfl, h0, h1, h2, HC⟩
  · simp at hl1
  have hmk := fun w => make_ints w d.length (by omega)
  clear hok hin h h2 hn1
  go_enter Try.func42, Try.ntmps42
  go_wp2
  clear hmk
  have HST : Hid (Blk (w.alloc (.cells (ia (zer d.length)) 3)) w.heap.size (rsA d.length (rwE d n) 0)) := by
    show Blk _ _ _
    rw [rsA_zero]
    exact Blk.new w _
  go_loopw [1, 6] (fun p i w' => ∃ c : Nat, c ≤ d.length ∧ i = .int .i64 ((d.length : Int) - 1 - c) ∧ p = .int .i64 (rwR d n c) ∧ Blk w' w.heap.size (rsA d.length (rwE d n) c) ∧ Below w.heap.size w w') (fun _ i _ => (intOf i + 1).toNat)
  case atStart => exact ⟨0, by omega, by simp, rfl, HST.out, (Below.refl _ _).alloc (Nat.le_refl _) _⟩
  case round =>
    obtain ⟨c, hc, rfl, rfl, hB, hbel⟩ := hrel
    have HB3 : Hid (Blk wr w.heap.size (rsA d.length (rwE d n) c)) := hB
    have HBL3 : Hid (Below w.heap.size w wr) := hbel
    clear hB hbel
    by_cases hlt : c < d.length
    · obtain ⟨i, hi⟩ : ∃ i : Nat, (d.length : Int) - 1 - c = i := ⟨d.length - 1 - c, by omega⟩
      have hid : i < d.length := by omega
      have hie : i = d.length - 1 - c := by omega
      have hx0 := cell_later HBL3.out (HC.out i hid)
      have hx := cell_later (HBL3.out.setCell (p := ⟨w.heap.size, i, none⟩) (Nat.le_refl _) (.int .i64 (rwR d n c % d[i]))) (HC.out i hid)
      have hf := HB3.out.frozen i
      obtain ⟨y, hcy⟩ : ∃ y, wr.cell? ⟨w.heap.size, i, none⟩ = some y := ⟨_, HB3.out.cell i (by rw [rsA_length]; exact hid)⟩
      obtain ⟨g1, g2⟩ := inr_mem HI.out (List.getElem_mem hid)
      obtain ⟨r1, r2⟩ := rwR_bd HI.out hn0 h64 c hc
      have hne : ¬ (d[i] = 0) := by omega
      have hnb : (d[i] == 0) = false := by simp; omega
      have HN : Hid (rwR d n (c + 1) = rwR d n c / d[i]) := by
        show _ = _
        rw [rwR, ← hie]
        simp [hid]
      have HS : Hid ((rsA d.length (rwE d n) c).set i (rwR d n c % d[i]) = rsA d.length (rwE d n) (c + 1)) := by
        show _ = _
        have := rsA_set d.length (rwE d n) c hlt
        rw [← hie] at this
        rw [← this, rwE, show d.length - 1 - i = c by omega]
        simp [hid]
      have HEI : Hid ((d.length : Int) - 1 - c = i) := hi
      rw [hi]
      clear hie hi
      go_wp2
      refine ⟨⟨c + 1, by omega, ?_, by rw [HN.out], ?_, HBL3.out.setCell (Nat.le_refl _) _⟩, ?_⟩
      · have := HEI.out
        exact congrArg (Value.int .i64) (by omega)
      · have := HB3.out.set i (rwR d n c % d[i])
        rw [HS.out] at this
        exact this
      · simp [intOf]
    · have hc' : c = d.length := by omega
      subst hc'
      go_wp2
      go_ret
      refine ⟨rfl, ?_, HBL3.out⟩
      have := HB3.out
      rw [rsA_all, rwh_eq HK.out n hn0 HN1.out] at this
      exact this
end Go.Proofs.Ytgedknmjenbacaa
