/- Contracts of the page's own answers: Between, Num, Dims, Cells, Tensor, EqTensor; and of the program's Same. -/
import Derived.Test.YtgedknmjenbacaaArg
import Derived.Test.YtgedknmjenbacaaW2
namespace Go.Proofs.Ytgedknmjenbacaa
set_option linter.unusedVariables false
set_option linter.unusedSimpArgs false
open Go.RowKit

set_option maxHeartbeats 400000 in
theorem between_t (n lo hi : Int) (w : World) (h1 : lo ≤ n) (h2 : n ≤ hi) :
    Calls Try.prog 39 #[.int .i64 n, .int .i64 lo, .int .i64 hi] w fun e w' => e = .returned (.bool true) ∧ w = w' := by
  go_enter Try.func39, Try.ntmps39
  go_wp2
  go_ret
  exact ⟨rfl, rfl⟩
set_option maxHeartbeats 400000 in
theorem between_f (n lo hi : Int) (w : World) (h : n < lo ∨ hi < n) :
    Calls Try.prog 39 #[.int .i64 n, .int .i64 lo, .int .i64 hi] w fun e w' => e = .returned (.bool false) ∧ w = w' := by
  by_cases h1 : n < lo
  · clear h
    go_enter Try.func39, Try.ntmps39
    go_wp2
    go_ret
    exact ⟨rfl, rfl⟩
  · have h2 : hi < n := by omega
    clear h
    go_enter Try.func39, Try.ntmps39
    go_wp2
    go_ret
    exact ⟨by simp; omega, rfl⟩
set_option maxHeartbeats 400000 in
theorem rdims_any {v : Value} {d : List Int} {w : World} (h : Ints w v d) :
    Calls Try.prog 19 #[v] w fun e w' => e = .returned (.bool (okd d)) ∧ w = w' := by
  have hlen := h.len
  unfold big at hlen
  obtain ⟨a, c, rfl⟩ := h.shape
  by_cases hl : d.length < 1 ∨ 3 < d.length
  · have HB : Hid (okd d = false) := okd_len hl
    have hl' : (d.length : Int) < 1 ∨ 3 < (d.length : Int) := by omega
    have HL : Hid ((d.length : Int) < 1 ∨ 3 < (d.length : Int)) := hl'
    clear hl hl' h
    go_enter Try.func19, Try.ntmps19
    go_wp2_with (go_at_call 39; refine (between_f _ _ _ _ HL.out).mono ?_; rintro e w' ⟨rfl, rfl⟩)
    go_ret
    exact ⟨by rw [HB.out]; rfl, rfl⟩
  have hl1 : 1 ≤ d.length := by omega
  have hl2 : d.length ≤ 3 := by omega
  rcases h.cases with ⟨rfl, _⟩ | ⟨b, off, c, e, h0, h1, h2, HC⟩
  · simp at hl1
  cases e
  clear hl h h2
  go_enter Try.func19, Try.ntmps19
  go_wp2_with fail
  refine (between_t _ _ _ _ (by omega) (by omega)).mono ?_
  rintro e w' ⟨rfl, rfl⟩
  go_wp2
  go_loop [3, 4] (fun p i => ∃ k : Nat, k ≤ d.length ∧ i = .int .i64 k ∧ p = .int .i64 (prd (d.take k)) ∧ inr (d.take k) = true) (fun _ i => d.length - (intOf i).toNat)
  case atStart => exact ⟨0, Nat.zero_le _, rfl, rfl, rfl⟩
  case round =>
    obtain ⟨k, hk, rfl, rfl, hin⟩ := hrel
    by_cases hlt : k < d.length
    · have hx := HC.out k hlt
      have hp1 := prd_lo hin
      have hp2 := prd_hi hin 2 (by simp; omega)
      have HT : Hid (d.take (k + 1) = d.take k ++ [d[k]]) := take_snoc d k hlt
      by_cases hg : 1 ≤ d[k] ∧ d[k] ≤ 8
      · obtain ⟨g1, g2⟩ := hg
        have hm1 : 1 ≤ prd (d.take k) * d[k] := by
          have := Int.mul_le_mul hp1 g1 (by omega) (by omega)
          omega
        have hm2 : prd (d.take k) * d[k] ≤ 512 := by
          have := Int.mul_le_mul hp2 g2 (by omega) (by omega)
          omega
        go_wp2_with (go_at_call 39; refine (between_t _ _ _ _ g1 g2).mono ?_; rintro e w' ⟨rfl, rfl⟩)
        refine ⟨⟨k + 1, by omega, by go_num, ?_, ?_⟩, by simp [intOf]; omega⟩
        · rw [HT.out, prd_snoc]
        · rw [HT.out, inr_snoc, hin]; simp [g1, g2]
      · have HB : Hid (okd d = false) := okd_inr (inr_bad k hlt hg)
        have HG : Hid (d[k] < 1 ∨ 8 < d[k]) := by show _ ∨ _; omega
        clear hg
        go_wp2_with (go_at_call 39; refine (between_f _ _ _ _ HG.out).mono ?_; rintro e w' ⟨rfl, rfl⟩)
        go_ret
        exact ⟨by rw [HB.out]; rfl, rfl⟩
    · have hk' : k = d.length := by omega
      subst hk'
      rw [List.take_length] at hin ⊢
      have hp1 := prd_lo hin
      have hp2 := prd_hi hin 3 (by omega)
      by_cases hp : prd d ≤ 64
      · have HK : Hid (okd d = true) := okd_mk (by omega) (by omega) hin hp
        go_wp2
        go_ret
        exact ⟨by rw [HK.out]; simp [hp], rfl⟩
      · have HK : Hid (okd d = false) := okd_prd (by omega)
        go_wp2
        go_ret
        exact ⟨by rw [HK.out]; simp [hp], rfl⟩

set_option maxHeartbeats 400000 in
theorem rcells_ok {v : Value} {d : List Int} {w : World} (h : Ints w v d) (hok : okd d = true) :
    Calls Try.prog 20 #[v] w fun e w' => e = .returned (.int .i64 (prd d)) ∧ w = w' := by
  obtain ⟨hl1, hl2, hin, hp⟩ := okd_parts hok
  have HI : Hid (inr d = true) := hin
  rcases h.cases with ⟨rfl, _⟩ | ⟨b, off, c, rfl, h0, h1, h2, HC⟩
  · simp at hl1
  clear hok hin h h2
  go_enter Try.func20, Try.ntmps20
  go_wp2
  go_loop [3, 4] (fun p i => ∃ k : Nat, k ≤ d.length ∧ i = .int .i64 k ∧ p = .int .i64 (prd (d.take k))) (fun _ i => d.length - (intOf i).toNat)
  case atStart => exact ⟨0, Nat.zero_le _, rfl, rfl⟩
  case round =>
    obtain ⟨k, hk, rfl, rfl⟩ := hrel
    by_cases hlt : k < d.length
    · have hx := HC.out k hlt
      have hin := inr_take HI.out k
      have hp1 := prd_lo hin
      have hp2 := prd_hi hin 2 (by simp; omega)
      have HT : Hid (d.take (k + 1) = d.take k ++ [d[k]]) := take_snoc d k hlt
      obtain ⟨g1, g2⟩ := inr_mem HI.out (List.getElem_mem hlt)
      have hm1 : 1 ≤ prd (d.take k) * d[k] := by
        have := Int.mul_le_mul hp1 g1 (by omega) (by omega)
        omega
      have hm2 : prd (d.take k) * d[k] ≤ 512 := by
        have := Int.mul_le_mul hp2 g2 (by omega) (by omega)
        omega
      clear hin
      go_wp2
      exact ⟨⟨k + 1, by omega, by go_num, by rw [HT.out, prd_snoc]⟩, by simp [intOf]; omega⟩
    · have hk' : k = d.length := by omega
      subst hk'
      rw [List.take_length]
      go_wp2
      go_ret
      exact ⟨rfl, rfl⟩

theorem dig_inj {x y : Int} (hx : 1 ≤ x ∧ x ≤ 8) (hy : 1 ≤ y ∧ y ≤ 8) (h : dig x = dig y) : x = y := by
  have h2 := congrArg UInt8.toNat h
  simp only [dig, UInt8.toNat_ofNat'] at h2
  omega
theorem txt_inj {a b : List Int} (ha : inr a = true) (hb : inr b = true) (h : txt a = txt b) : a = b := by
  have h2 : a.map dig = b.map dig := by
    have := congrArg (fun t : ByteArray => t.data.toList) h
    simpa [txt] using this
  have hl : a.length = b.length := by simpa using congrArg List.length h2
  apply List.ext_getElem hl
  intro i h1 h3
  refine dig_inj (inr_mem ha (List.getElem_mem h1)) (inr_mem hb (List.getElem_mem h3)) ?_
  have := congrArg (fun l : List UInt8 => l[i]?) h2
  simpa [h1, h3] using this
theorem toList_inj {a b : ByteArray} (h : a.toList = b.toList) : a = b := by
  rw [ByteArray.toList_eq, ByteArray.toList_eq] at h
  cases a; cases b
  simpa using h
def smE (a b : List Int) : Int := if okd a && okd b then 0 else 1
def smB (a b : List Int) : Bool := okd a && (okd b && (a == b))

set_option maxHeartbeats 400000 in
theorem same_any {v v' : Value} {a b : List Int} {w : World} (ha : Ints w v a) (hb : Ints w v' b) :
    Calls Try.prog 56 #[v, v'] w fun e w' => e = .returned (.tuple #[.bool (smB a b), .int .i64 (smE a b)]) ∧ w = w' := by
  have HA : Hid (Ints w v a) := ha
  have HB : Hid (Ints w v' b) := hb
  clear ha hb
  cases ea : okd a with
  | false =>
    have H : Hid (okd a = false) := ea
    have F1 : Hid (smB a b = false) := by show _ = _; simp [smB, ea]
    have F2 : Hid (smE a b = 1) := by show _ = _; simp [smE, ea]
    clear ea
    go_enter Try.func56, Try.ntmps56
    go_wp2_with fail
    refine (spell_any HA.out).mono ?_
    rw [spT_bad H.out, erf_bad H.out]
    rintro e w' ⟨rfl, rfl⟩
    go_wp2
    go_ret2
    exact ⟨by rw [F1.out, F2.out]; rfl, rfl⟩
  | true =>
    have H : Hid (okd a = true) := ea
    cases eb : okd b with
    | false =>
      have H2 : Hid (okd b = false) := eb
      have F1 : Hid (smB a b = false) := by show _ = _; simp [smB, eb]
      have F2 : Hid (smE a b = 1) := by show _ = _; simp [smE, eb]
      clear ea eb
      go_enter Try.func56, Try.ntmps56
      go_wp2_with fail
      refine (spell_any HA.out).mono ?_
      rw [spT_ok H.out, erf_ok H.out]
      rintro e w' ⟨rfl, rfl⟩
      go_wp2_with fail
      refine (spell_any HB.out).mono ?_
      rw [spT_bad H2.out, erf_bad H2.out]
      rintro e w' ⟨rfl, rfl⟩
      go_wp2
      go_ret2
      exact ⟨by rw [F1.out, F2.out]; rfl, rfl⟩
    | true =>
      have H2 : Hid (okd b = true) := eb
      have F1 : Hid (smB a b = ((txt a).toList == (txt b).toList)) := by
        show _ = _
        simp only [smB, ea, eb, Bool.true_and]
        by_cases e : a = b
        · subst e; simp
        · have : ¬ (txt a).toList = (txt b).toList := fun h => e (txt_inj (okd_parts ea).2.2.1 (okd_parts eb).2.2.1 (toList_inj h))
          rw [beq_eq_false_iff_ne.2 e, beq_eq_false_iff_ne.2 this]
      have F2 : Hid (smE a b = 0) := by show _ = _; simp [smE, ea, eb]
      clear ea eb
      go_enter Try.func56, Try.ntmps56
      go_wp2_with fail
      refine (spell_any HA.out).mono ?_
      rw [spT_ok H.out, erf_ok H.out]
      rintro e w' ⟨rfl, rfl⟩
      go_wp2_with fail
      refine (spell_any HB.out).mono ?_
      rw [spT_ok H2.out, erf_ok H2.out]
      rintro e w' ⟨rfl, rfl⟩
      go_wp2
      go_ret2
      exact ⟨by rw [F1.out, F2.out]; rfl, rfl⟩

set_option maxHeartbeats 400000 in
theorem eqt_true {v0 v1 u0 u1 : Value} {a b : List Int} {w : World} (h0 : Ints w v0 a) (h1 : Ints w v1 b) (k0 : Ints w u0 a) (k1 : Ints w u1 b) :
    Calls Try.prog 12 #[.agg #[v0, v1], .agg #[u0, u1]] w fun e w' => e = .returned (.bool true) ∧ Below w.heap.size w w' := by
  have hb : Below w.heap.size w ((w.alloc (.cells #[v0, v1] 31)).alloc (.cells #[u0, u1] 31)) := ((Below.refl _ _).alloc (Nat.le_refl _) _).alloc (by simp) _
  have H0 : Hid (Ints ((w.alloc (.cells #[v0, v1] 31)).alloc (.cells #[u0, u1] 31)) v0 a) := h0.later hb
  have H1 : Hid (Ints ((w.alloc (.cells #[v0, v1] 31)).alloc (.cells #[u0, u1] 31)) v1 b) := h1.later hb
  have K0 : Hid (Ints ((w.alloc (.cells #[v0, v1] 31)).alloc (.cells #[u0, u1] 31)) u0 a) := k0.later hb
  have K1 : Hid (Ints ((w.alloc (.cells #[v0, v1] 31)).alloc (.cells #[u0, u1] 31)) u1 b) := k1.later hb
  obtain ⟨_, _, rfl⟩ := h0.shape
  obtain ⟨_, _, rfl⟩ := h1.shape
  obtain ⟨_, _, rfl⟩ := k0.shape
  obtain ⟨_, _, rfl⟩ := k1.shape
  have HB : Hid (Below w.heap.size w _) := hb
  clear h0 h1 k0 k1 hb
  go_enter Try.func12, Try.ntmps12
  go_wp2_with fail
  refine (eqn_any H0.out K0.out).mono ?_
  rw [beq_self_eq_true]
  rintro e w1 ⟨rfl, n, rfl⟩
  go_wp2_with fail
  refine (eqn_any (H1.out.drewN n) (K1.out.drewN n)).mono ?_
  rw [beq_self_eq_true]
  rintro e w1 ⟨rfl, n', rfl⟩
  go_wp2
  go_ret
  exact ⟨rfl, Below.drewN HB.out _⟩
end Go.Proofs.Ytgedknmjenbacaa
