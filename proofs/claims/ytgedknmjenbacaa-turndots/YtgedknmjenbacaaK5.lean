/- Contracts: sums; Total, Dot, the page's Total. -/
import Derived.Test.YtgedknmjenbacaaK4
namespace Go.Proofs.Ytgedknmjenbacaa
set_option linter.unusedVariables false
set_option linter.unusedSimpArgs false
open Go.RowKit

def ttl (l : List Int) : Int := l.foldl (fun a x => wrap64 (a + x)) 0
theorem ttl_snoc (l : List Int) (x : Int) : ttl (l ++ [x]) = wrap64 (ttl l + x) := by simp [ttl]
def totV (s : Ten) : Int := if tok s then ttl s.2 else 0

set_option maxHeartbeats 1000000 in
theorem total_any {a0 a1 : Value} {s : Ten} {w : World} (ha : Tens w a0 a1 s) :
    Calls Try.prog 44 #[.agg #[a0, a1]] w fun e w' => e = .returned (.tuple #[.int .i64 (totV s), .int .i64 (tkE s)]) ∧ Below w.heap.size w w' := by
  have hb : Below w.heap.size w (w.alloc (.cells #[a0, a1] 31)) := (Below.refl _ _).alloc (Nat.le_refl _) _
  have HA : Hid (Tens (w.alloc (.cells #[a0, a1] 31)) a0 a1 s) := ha.later hb
  have HB : Hid (Below w.heap.size w (w.alloc (.cells #[a0, a1] 31))) := hb
  cases hs : tok s with
  | false =>
    have HF : Hid (tkE s = 1) := by show _ = _; simp [tkE, hs]
    have HV : Hid (totV s = 0) := by show _ = _; simp [totV, hs]
    clear ha hb hs
    go_enter Try.func44, Try.ntmps44
    go_wp2
    refine wp_scope_jumps 0 (fun a' w' => Below w.heap.size w w' ∧ ∃ (u0 u1 u2 u3 u4 u5 u6 u7 u8 u9 u10 u11 u12 u13 u14 u15 u16 u17 u18 u19 u20 u21 : Value), a' = { tmps := #[u0, u1, u2, u3, u4, u5, u6, u7, u8, u9, u10, u11, u12, u13, u14, u15, u16, u17, u18, u19, u20, u21], defers := [] }) (fun _ _ => 0) rfl ?_ ?_
    · go_wp2_with fail
      refine (tensor_to 1 HA.out HF.out).mono ?_
      rintro e w1 ⟨rfl, hb1⟩
      have HB1 : Hid (Below w.heap.size w w1) := Below.after HB.out hb1
      clear hb1
      go_wp2
      go_step3
      exact ⟨rfl, HB1.out, _, _, _, _, _, _, _, _, _, _, _, _, _, _, _, _, _, _, _, _, _, _, rfl⟩
    · rintro a w' ⟨hbj, u0, u1, u2, u3, u4, u5, u6, u7, u8, u9, u10, u11, u12, u13, u14, u15, u16, u17, u18, u19, u20, u21, rfl⟩
      have HBJ : Hid (Below w.heap.size w w') := hbj
      clear hbj
      go_wp2
      rw [jump_ret]
      go_ret2
      exact ⟨by rw [HF.out, HV.out]; rfl, HBJ.out⟩
  | true =>
    have HF : Hid (tkE s = 0) := by show _ = _; simp [tkE, hs]
    have HV : Hid (totV s = ttl s.2) := by show _ = _; simp [totV, hs]
    have hl := tok_len hs
    obtain ⟨_, _, hin, hp⟩ := okd_parts (tok_okd hs)
    have hp1 := prd_lo hin
    have hl64 : s.2.length ≤ 64 := by omega
    rcases ha.2.cases with ⟨e, _⟩ | ⟨b, off, c, rfl, h0, h2, h3, HC⟩
    · rw [e] at hl; simp at hl; omega
    clear ha hb hs hl hin hp hp1 h3
    go_enter Try.func44, Try.ntmps44
    go_wp2
    refine wp_scope_jumps 0 (fun _ _ => False) (fun _ _ => 0) rfl ?_ (fun _ _ h => h.elim)
    go_wp2_with fail
    refine (tensor_to 0 HA.out HF.out).mono ?_
    rintro e w1 ⟨rfl, hb1⟩
    have hc1 : w1.cell? ⟨w.heap.size, 1, none⟩ = some (.slice (some ⟨b, off, none⟩) s.2.length c) := cell_later hb1 (by simp)
    have HB1 : Hid (Below w.heap.size w w1) := Below.after HB.out hb1
    clear hb1
    go_wp2
    go_loop [4, 13] (fun p i => ∃ k : Nat, k ≤ s.2.length ∧ i = .int .i64 k ∧ p = .int .i64 (ttl (s.2.take k))) (fun _ i => s.2.length - (intOf i).toNat)
    case atStart => exact ⟨0, Nat.zero_le _, rfl, rfl⟩
    case round =>
      obtain ⟨k, hk, rfl, rfl⟩ := hrel
      by_cases hlt : k < s.2.length
      · have hx := cell_later HB1.out (HC.out k hlt)
        have HT : Hid (s.2.take (k + 1) = s.2.take k ++ [s.2[k]]) := take_snoc s.2 k hlt
        go_wp2
        exact ⟨⟨k + 1, by omega, by go_num, by rw [HT.out, ttl_snoc]⟩, by simp [intOf]; omega⟩
      · have hk' : k = s.2.length := by omega
        subst hk'
        rw [List.take_length]
        go_wp2
        rw [jump_ret]
        go_ret2
        exact ⟨by rw [HF.out, HV.out]; rfl, HB1.out⟩

def dotV (s t : Ten) : Int := if fitE s t = 0 then ttl (List.zipWith opM s.2 t.2) else 0
theorem tok_each {op : Int → Int → Int} {s t : Ten} (h : fitE s t = 0) : tok (s.1, List.zipWith op s.2 t.2) = true := by
  obtain ⟨hs, ht, hd⟩ := fit_zero h
  have h1 := tok_len hs
  have h2 := tok_len ht
  rw [← hd] at h2
  have hn : (List.zipWith op s.2 t.2).length = s.2.length := by simp; omega
  simp only [tok, tok_okd hs, hn, Bool.true_and]
  simp; omega
theorem total_to {a0 a1 : Value} {s : Ten} {w : World} (x y : Int) (ha : Tens w a0 a1 s) (hx : totV s = x) (hy : tkE s = y) :
    Calls Try.prog 44 #[.agg #[a0, a1]] w fun e w' => e = .returned (.tuple #[.int .i64 x, .int .i64 y]) ∧ Below w.heap.size w w' := by
  subst hx hy
  exact total_any ha
theorem mul_to {a0 a1 b0 b1 : Value} {s t : Ten} {w : World} (x : Int) (ha : Tens w a0 a1 s) (hb' : Tens w b0 b1 t) (hx : fitE s t = x) :
    Calls Try.prog 43 #[.agg #[a0, a1], .agg #[b0, b1]] w fun e w' => ∃ x0 x1, e = .returned (.tuple #[.agg #[x0, x1], .int .i64 x]) ∧ OwnT w' w.heap.size x0 x1 (eachR opM s t) ∧ Below w.heap.size w w' := by
  subst hx
  exact mul_any ha hb'

set_option maxHeartbeats 1000000 in
theorem dot_any {a0 a1 b0 b1 : Value} {s t : Ten} {w : World} (ha : Tens w a0 a1 s) (hb' : Tens w b0 b1 t) :
    Calls Try.prog 26 #[.agg #[a0, a1], .agg #[b0, b1]] w fun e w' => e = .returned (.tuple #[.int .i64 (dotV s t), .int .i64 (fitE s t)]) ∧ Below w.heap.size w w' := by
  have hb : Below w.heap.size w ((w.alloc (.cells #[a0, a1] 31)).alloc (.cells #[b0, b1] 31)) := ((Below.refl _ _).alloc (Nat.le_refl _) _).alloc (by simp) _
  have HA : Hid (Tens ((w.alloc (.cells #[a0, a1] 31)).alloc (.cells #[b0, b1] 31)) a0 a1 s) := ha.later hb
  have HT : Hid (Tens ((w.alloc (.cells #[a0, a1] 31)).alloc (.cells #[b0, b1] 31)) b0 b1 t) := hb'.later hb
  have HB : Hid (Below w.heap.size w ((w.alloc (.cells #[a0, a1] 31)).alloc (.cells #[b0, b1] 31))) := hb
  clear ha hb' hb
  by_cases hf : fitE s t = 0
  · have HF : Hid (fitE s t = 0) := hf
    have HV : Hid (dotV s t = ttl (List.zipWith opM s.2 t.2)) := by show _ = _; simp [dotV, hf]
    have HTV : Hid (totV (eachR opM s t) = ttl (List.zipWith opM s.2 t.2)) := by
      show _ = _
      rw [eachR, if_pos hf, totV, tok_each hf]; rfl
    have HTE : Hid (tkE (eachR opM s t) = 0) := by
      show _ = _
      rw [eachR, if_pos hf, tkE, tok_each hf]; rfl
    clear hf
    go_enter Try.func26, Try.ntmps26
    go_wp2_with fail
    refine (mul_to 0 HA.out HT.out HF.out).mono ?_
    rintro e w1 ⟨x0, x1, rfl, ho, hb1⟩
    have HB1 : Hid (Below w.heap.size w w1) := Below.after HB.out hb1
    have hbn : Below w1.heap.size w1 (w1.alloc (.cells #[x0, x1] 31)) := (Below.refl _ _).alloc (Nat.le_refl _) _
    have HX : Hid (Tens (w1.alloc (.cells #[x0, x1] 31)) x0 x1 (eachR opM s t)) := ho.tens.later hbn
    have HB2 : Hid (Below w.heap.size w (w1.alloc (.cells #[x0, x1] 31))) := Below.after HB1.out hbn
    obtain ⟨_, _, rfl⟩ := ho.dims.ints.shape
    obtain ⟨_, _, rfl⟩ := ho.data.ints.shape
    clear hb1 ho hbn
    go_wp2_with fail
    refine (total_to _ 0 HX.out HTV.out HTE.out).mono ?_
    rintro e w2 ⟨rfl, hb2⟩
    have HB3 : Hid (Below w.heap.size w w2) := Below.after HB2.out hb2
    clear hb2
    go_wp2
    go_ret2
    exact ⟨by rw [HF.out, HV.out]; rfl, HB3.out⟩
  · have HV : Hid (dotV s t = 0) := by show _ = _; simp [dotV, hf]
    have hne : (fitE s t != 0) = true := by simp [hf]
    clear hf
    go_enter Try.func26, Try.ntmps26
    go_wp2_with fail
    refine (mul_any HA.out HT.out).mono ?_
    rintro e w1 ⟨x0, x1, rfl, ho, hb1⟩
    have HB1 : Hid (Below w.heap.size w w1) := Below.after HB.out hb1
    have hbn : Below w1.heap.size w1 (w1.alloc (.cells #[x0, x1] 31)) := (Below.refl _ _).alloc (Nat.le_refl _) _
    have HB2 : Hid (Below w.heap.size w (w1.alloc (.cells #[x0, x1] 31))) := Below.after HB1.out hbn
    obtain ⟨_, _, rfl⟩ := ho.dims.ints.shape
    obtain ⟨_, _, rfl⟩ := ho.data.ints.shape
    clear hb1 ho hbn
    go_wp2
    go_ret2
    exact ⟨by rw [HV.out]; rfl, HB2.out⟩
end Go.Proofs.Ytgedknmjenbacaa
