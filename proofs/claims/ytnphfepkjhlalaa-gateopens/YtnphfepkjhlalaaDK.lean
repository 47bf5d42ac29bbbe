/- Contracts: ring's Mul, Total, Dot; graduslaw0's Within. -/
import Derived.Test.YtnphfepkjhlalaaJ3
namespace Go.Proofs.Ytnphfepkjhlalaa
set_option linter.unusedVariables false
set_option linter.unusedSimpArgs false
open Go.RowKit
set_option maxHeartbeats 1000000 in
theorem mul_any {a0 a1 b0 b1 : Value} {s t : Ten} {w : World} (ha : Tens w a0 a1 s) (hb' : Tens w b0 b1 t) :
    Calls Try.prog 41 #[.agg #[a0, a1], .agg #[b0, b1]] w fun e w' => ∃ x0 x1, e = .returned (.tuple #[.agg #[x0, x1], .int .i64 (fitE s t)]) ∧ OwnT w' w.heap.size x0 x1 (eachR opM s t) ∧ Below w.heap.size w w' := by
  have hb : Below w.heap.size w (((w.alloc (.cells #[a0, a1] 28)).alloc (.cells #[b0, b1] 28)).alloc (.cells #[.slice none 0 0, .slice none 0 0] 28)) := (((Below.refl _ _).alloc (Nat.le_refl _) _).alloc (by simp) _).alloc (by simp; omega) _
  have HA : Hid (Tens (((w.alloc (.cells #[a0, a1] 28)).alloc (.cells #[b0, b1] 28)).alloc (.cells #[.slice none 0 0, .slice none 0 0] 28)) a0 a1 s) := ha.later hb
  have HT : Hid (Tens (((w.alloc (.cells #[a0, a1] 28)).alloc (.cells #[b0, b1] 28)).alloc (.cells #[.slice none 0 0, .slice none 0 0] 28)) b0 b1 t) := hb'.later hb
  have HB : Hid (Below w.heap.size w (((w.alloc (.cells #[a0, a1] 28)).alloc (.cells #[b0, b1] 28)).alloc (.cells #[.slice none 0 0, .slice none 0 0] 28))) := hb
  have HBX : Hid (Box (((w.alloc (.cells #[a0, a1] 28)).alloc (.cells #[b0, b1] 28)).alloc (.cells #[.slice none 0 0, .slice none 0 0] 28)) (w.heap.size + 1 + 1) (.slice none 0 0) (.slice none 0 0)) := by
    have := Box.new ((w.alloc (.cells #[a0, a1] 28)).alloc (.cells #[b0, b1] 28)) (.slice none 0 0) (.slice none 0 0)
    simp only [World.size_alloc] at this
    exact this
  clear ha hb' hb
  go_enter Try.func41, Try.ntmps41
  go_wp2_with fail
  refine (each_any (op := opM) deed_mul HA.out HT.out).mono ?_
  rintro e w1 ⟨x0, x1, rfl, ho, hb1⟩
  simp only [World.size_alloc] at ho
  have HO : Hid (OwnT w1 (w.heap.size + 1 + 1 + 1) x0 x1 (eachR opM s t)) := ho
  have HB1 : Hid (Below w.heap.size w w1) := Below.after HB.out hb1
  have hbx := HBX.out.later hb1
  have hx0' := hbx.c0
  have hx1 := hbx.c1
  have hf0 := hbx.f 0
  have hf1 := hbx.f 1
  obtain ⟨xa, xc, rfl⟩ := ho.dims.ints.shape
  obtain ⟨ya, yc, rfl⟩ := ho.data.ints.shape
  have HBS : Hid (Box _ _ _ _) := hbx.set (.slice xa (eachR opM s t).1.length xc) (.slice ya (eachR opM s t).2.length yc)
  clear hb1 hbx ho
  go_wp2
  have hr0 := HBS.out.c0
  have hr1 := HBS.out.c1
  refine bodyPost_ret (v := .tuple #[.agg #[.slice xa (eachR opM s t).1.length xc, .slice ya (eachR opM s t).2.length yc], .int .i64 (fitE s t)]) (by simp [results, Try.results41, go_sem, hr0, hr1]) rfl ⟨_, _, rfl, ?_, ?_⟩
  · exact ((HO.out.setCell _ _ (by simp)).setCell _ _ (by simp)).mono (by omega)
  · exact (HB1.out.setCell (by simp; omega) _).setCell (by simp; omega) _

set_option maxHeartbeats 1000000 in
theorem total_any {a0 a1 : Value} {s : Ten} {w : World} (ha : Tens w a0 a1 s) :
    Calls Try.prog 42 #[.agg #[a0, a1]] w fun e w' => e = .returned (.tuple #[.int .i64 (totV s), .int .i64 (tkE s)]) ∧ Below w.heap.size w w' := by
  have hb : Below w.heap.size w (w.alloc (.cells #[a0, a1] 28)) := (Below.refl _ _).alloc (Nat.le_refl _) _
  have HA : Hid (Tens (w.alloc (.cells #[a0, a1] 28)) a0 a1 s) := ha.later hb
  have HB : Hid (Below w.heap.size w (w.alloc (.cells #[a0, a1] 28))) := hb
  cases hs : tok s with
  | false =>
    have HF : Hid (tkE s = 1) := by show _ = _; simp [tkE, hs]
    have HV : Hid (totV s = 0) := by show _ = _; simp [totV, hs]
    clear ha hb hs
    go_enter Try.func42, Try.ntmps42
    go_wp2
    refine wp_scope_jumps 0 (fun a' w' => Below w.heap.size w w' ∧ ∃ (u0 u1 u2 u3 u4 u5 u6 u7 u8 u9 u10 u11 u12 u13 u14 u15 u16 u17 u18 u19 u20 u21 : Value), a' = { tmps := #[u0, u1, u2, u3, u4, u5, u6, u7, u8, u9, u10, u11, u12, u13, u14, u15, u16, u17, u18, u19, u20, u21], defers := [] }) (fun _ _ => 0) rfl ?_ ?_
    · go_wp2_with fail
      refine (tensor_to 1 HA.out HF.out).mono ?_
      rintro e w1 ⟨rfl, hb1⟩
      have HB1 : Hid (Below w.heap.size w w1) := Below.after HB.out hb1
      clear hb1
      go_wp2
      go_step3
      exact ⟨rfl, HB1.out, _, _, _, _, _, _, _, _, _, _, _, _, _, _, _, _, _, _, _, _, _, _, rfl⟩
    · rintro a w' ⟨hbj, u0, u1, u2, u3, u4, u5, u6, u7, u8, u9, u10, u11, u12, u13, u14, u15, u16, u17, u18, u19, u20, u21, rfl⟩
      have HBJ : Hid (Below w.heap.size w w') := hbj
      clear hbj
      go_wp2
      rw [jump_ret]
      go_ret2
      exact ⟨by rw [HF.out, HV.out]; rfl, HBJ.out⟩
  | true =>
    have HF : Hid (tkE s = 0) := by show _ = _; simp [tkE, hs]
    have HV : Hid (totV s = ttl s.2) := by show _ = _; simp [totV, hs]
    have hl := tok_len hs
    obtain ⟨_, _, hin, hp⟩ := okd_parts (tok_okd hs)
    have hp1 := prd_lo hin
    have hl64 : s.2.length ≤ 64 := by omega
    rcases ha.2.cases with ⟨e, _⟩ | ⟨b, off, c, rfl, h0, h2, h3, HC⟩
    · rw [e] at hl; simp at hl; omega
    clear ha hb hs hl hin hp hp1 h3
    go_enter Try.func42, Try.ntmps42
    go_wp2
    refine wp_scope_jumps 0 (fun _ _ => False) (fun _ _ => 0) rfl ?_ (fun _ _ h => h.elim)
    go_wp2_with fail
    refine (tensor_to 0 HA.out HF.out).mono ?_
    rintro e w1 ⟨rfl, hb1⟩
    have hc1 : w1.cell? ⟨w.heap.size, 1, none⟩ = some (.slice (some ⟨b, off, none⟩) s.2.length c) := cell_later hb1 (by simp)
    have HB1 : Hid (Below w.heap.size w w1) := Below.after HB.out hb1
    clear hb1
    go_wp2
    go_loop [4, 13] (fun p i => ∃ k : Nat, k ≤ s.2.length ∧ i = .int .i64 k ∧ p = .int .i64 (ttl (s.2.take k))) (fun _ i => s.2.length - (intOf i).toNat)
    case atStart => exact ⟨0, Nat.zero_le _, rfl, rfl⟩
    case round =>
      obtain ⟨k, hk, rfl, rfl⟩ := hrel
      by_cases hlt : k < s.2.length
      · have hx := cell_later HB1.out (HC.out k hlt)
        have HT : Hid (s.2.take (k + 1) = s.2.take k ++ [s.2[k]]) := take_snoc s.2 k hlt
        go_wp2
        exact ⟨⟨k + 1, by omega, by go_num, by rw [HT.out, ttl_snoc]⟩, by simp [intOf]; omega⟩
      · have hk' : k = s.2.length := by omega
        subst hk'
        rw [List.take_length]
        go_wp2
        rw [jump_ret]
        go_ret2
        exact ⟨by rw [HF.out, HV.out]; rfl, HB1.out⟩

theorem total_to {a0 a1 : Value} {s : Ten} {w : World} (x y : Int) (ha : Tens w a0 a1 s) (hx : totV s = x) (hy : tkE s = y) :
    Calls Try.prog 42 #[.agg #[a0, a1]] w fun e w' => e = .returned (.tuple #[.int .i64 x, .int .i64 y]) ∧ Below w.heap.size w w' := by
  subst hx hy
  exact total_any ha
theorem mul_to {a0 a1 b0 b1 : Value} {s t : Ten} {w : World} (x : Int) (ha : Tens w a0 a1 s) (hb' : Tens w b0 b1 t) (hx : fitE s t = x) :
    Calls Try.prog 41 #[.agg #[a0, a1], .agg #[b0, b1]] w fun e w' => ∃ x0 x1, e = .returned (.tuple #[.agg #[x0, x1], .int .i64 x]) ∧ OwnT w' w.heap.size x0 x1 (eachR opM s t) ∧ Below w.heap.size w w' := by
  subst hx
  exact mul_any ha hb'

set_option maxHeartbeats 1000000 in
theorem dot_any {a0 a1 b0 b1 : Value} {s t : Ten} {w : World} (ha : Tens w a0 a1 s) (hb' : Tens w b0 b1 t) :
    Calls Try.prog 23 #[.agg #[a0, a1], .agg #[b0, b1]] w fun e w' => e = .returned (.tuple #[.int .i64 (dotV s t), .int .i64 (fitE s t)]) ∧ Below w.heap.size w w' := by
  have hb : Below w.heap.size w ((w.alloc (.cells #[a0, a1] 28)).alloc (.cells #[b0, b1] 28)) := ((Below.refl _ _).alloc (Nat.le_refl _) _).alloc (by simp) _
  have HA : Hid (Tens ((w.alloc (.cells #[a0, a1] 28)).alloc (.cells #[b0, b1] 28)) a0 a1 s) := ha.later hb
  have HT : Hid (Tens ((w.alloc (.cells #[a0, a1] 28)).alloc (.cells #[b0, b1] 28)) b0 b1 t) := hb'.later hb
  have HB : Hid (Below w.heap.size w ((w.alloc (.cells #[a0, a1] 28)).alloc (.cells #[b0, b1] 28))) := hb
  clear ha hb' hb
  by_cases hf : fitE s t = 0
  · have HF : Hid (fitE s t = 0) := hf
    have HV : Hid (dotV s t = ttl (List.zipWith opM s.2 t.2)) := by show _ = _; simp [dotV, hf]
    have HTV : Hid (totV (eachR opM s t) = ttl (List.zipWith opM s.2 t.2)) := by
      show _ = _
      rw [eachR, if_pos hf, totV, tok_each hf]; rfl
    have HTE : Hid (tkE (eachR opM s t) = 0) := by
      show _ = _
      rw [eachR, if_pos hf, tkE, tok_each hf]; rfl
    clear hf
    go_enter Try.func23, Try.ntmps23
    go_wp2_with fail
    refine (mul_to 0 HA.out HT.out HF.out).mono ?_
    rintro e w1 ⟨x0, x1, rfl, ho, hb1⟩
    have HB1 : Hid (Below w.heap.size w w1) := Below.after HB.out hb1
    have hbn : Below w1.heap.size w1 (w1.alloc (.cells #[x0, x1] 28)) := (Below.refl _ _).alloc (Nat.le_refl _) _
    have HX : Hid (Tens (w1.alloc (.cells #[x0, x1] 28)) x0 x1 (eachR opM s t)) := ho.tens.later hbn
    have HB2 : Hid (Below w.heap.size w (w1.alloc (.cells #[x0, x1] 28))) := Below.after HB1.out hbn
    obtain ⟨_, _, rfl⟩ := ho.dims.ints.shape
    obtain ⟨_, _, rfl⟩ := ho.data.ints.shape
    clear hb1 ho hbn
    go_wp2_with fail
    refine (total_to _ 0 HX.out HTV.out HTE.out).mono ?_
    rintro e w2 ⟨rfl, hb2⟩
    have HB3 : Hid (Below w.heap.size w w2) := Below.after HB2.out hb2
    clear hb2
    go_wp2
    go_ret2
    exact ⟨by rw [HF.out, HV.out]; rfl, HB3.out⟩
  · have HV : Hid (dotV s t = 0) := by show _ = _; simp [dotV, hf]
    have hne : (fitE s t != 0) = true := by simp [hf]
    clear hf
    go_enter Try.func23, Try.ntmps23
    go_wp2_with fail
    refine (mul_any HA.out HT.out).mono ?_
    rintro e w1 ⟨x0, x1, rfl, ho, hb1⟩
    have HB1 : Hid (Below w.heap.size w w1) := Below.after HB.out hb1
    have hbn : Below w1.heap.size w1 (w1.alloc (.cells #[x0, x1] 28)) := (Below.refl _ _).alloc (Nat.le_refl _) _
    have HB2 : Hid (Below w.heap.size w (w1.alloc (.cells #[x0, x1] 28))) := Below.after HB1.out hbn
    obtain ⟨_, _, rfl⟩ := ho.dims.ints.shape
    obtain ⟨_, _, rfl⟩ := ho.data.ints.shape
    clear hb1 ho hbn
    go_wp2
    go_ret2
    exact ⟨by rw [HV.out]; rfl, HB2.out⟩
set_option maxHeartbeats 400000 in
theorem within_ok {w : World} (a b : Nat) (ha : a < 9223372036854775808) (h0 : 0 < b) (hb : b < 9223372036854775808) :
    Calls Try.prog 24 #[.int .i64 a, .int .i64 b] w fun e w' => e = .returned (.int .i64 ((a % b : Nat) : Int)) ∧ w = w' := by
  have hw : IntKind.u64.wrap (a : Int) = (a : Int) := by rw [IntKind.wrap_u64]; omega
  have hw2 : IntKind.u64.wrap (b : Int) = (b : Int) := by rw [IntKind.wrap_u64]; omega
  have hm : (a : Int).tmod (b : Int) = ((a % b : Nat) : Int) := by
    rw [Int.tmod_eq_emod_of_nonneg (by omega)]
    simp
  have hlt := Nat.mod_lt a h0
  obtain ⟨m, hm'⟩ : ∃ m, a % b = m := ⟨_, rfl⟩
  rw [hm'] at hm hlt ⊢
  have hw3 : IntKind.u64.wrap ((a : Int).tmod (b : Int)) = (m : Int) := by rw [hm, IntKind.wrap_u64]; omega
  have hw4 : IntKind.i64.wrap (m : Int) = (m : Int) := wrap_small _ (by omega) (by omega)
  have h1 : ¬ b = 0 := by omega
  have h2 : ¬ (b : Int) = 0 := by omega
  go_enter Try.func24, Try.ntmps24
  go_wp2
  go_ret
  exact ⟨rfl, rfl⟩

theorem wrap64_in (x : Int) : -9223372036854775808 ≤ wrap64 x ∧ wrap64 x ≤ 9223372036854775807 := by unfold wrap64; omega
theorem Rg.set {X : List Int} (h : Rg X) (j : Nat) (x : Int) (hx : -9223372036854775808 ≤ x ∧ x ≤ 9223372036854775807) : Rg (X.set j x) := by
  intro y hy
  rcases List.mem_or_eq_of_mem_set hy with h1 | h1
  · exact h y h1
  · rw [h1]; exact hx

theorem dot_to {a0 a1 b0 b1 : Value} {s t : Ten} {w : World} (x y : Int) (ha : Tens w a0 a1 s) (hb' : Tens w b0 b1 t) (hx : fitE s t = x) (hy : dotV s t = y) :
    Calls Try.prog 23 #[.agg #[a0, a1], .agg #[b0, b1]] w fun e w' => e = .returned (.tuple #[.int .i64 y, .int .i64 x]) ∧ Below w.heap.size w w' := by
  subst hx hy
  exact dot_any ha hb'
end Go.Proofs.Ytnphfepkjhlalaa
