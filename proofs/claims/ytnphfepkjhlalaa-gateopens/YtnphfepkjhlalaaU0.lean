/- GateDots: its numbers. -/
import Derived.Test.YtnphfepkjhlalaaH0
import Derived.Test.YtnphfepkjhlalaaDK
namespace Go.Proofs.Ytnphfepkjhlalaa
set_option linter.unusedVariables false
set_option linter.unusedSimpArgs false
open Go.RowKit

theorem zG_get (a : List Int) (k : Nat) (h : k < a.length) : (List.zipWith opG a a).getD k 0 = opG (a.getD k 0) (a.getD k 0) := by
  simp [h]
theorem zG_twice (a : List Int) : List.zipWith opG (List.zipWith opG a a) (List.zipWith opG a a) = List.zipWith opG a a := by
  apply List.ext_getElem
  · simp
  · intro i h1 h2
    simp only [List.getElem_zipWith, opG]
    split <;> simp_all
theorem relu_law {s : Ten} (h : tkE s = 0) : ∃ l : List Int, l.length = s.2.length ∧ eachR opG s s = (s.1, l) ∧ fitE s s = 0 ∧ tkE (s.1, l) = 0 ∧ eachR opG (s.1, l) (s.1, l) = (s.1, l) ∧ ∀ k, k < s.2.length → l.getD k 0 = opG (s.2.getD k 0) (s.2.getD k 0) := by
  have hf : fitE s s = 0 := by rw [fit_self]; exact h
  have e := each_ok_eq (op := opG) hf
  have ht := tok_each (op := opG) hf
  have hk : tkE (s.1, List.zipWith opG s.2 s.2) = 0 := by rw [tkE, ht]; rfl
  refine ⟨_, by simp, e, hf, hk, ?_, zG_get s.2⟩
  have hf2 : fitE (s.1, List.zipWith opG s.2 s.2) (s.1, List.zipWith opG s.2 s.2) = 0 := by rw [fit_self]; exact hk
  rw [each_ok_eq hf2]
  exact congrArg (Prod.mk s.1) (zG_twice s.2)
theorem sg_split (f : Nat → Int) (p : Nat) : ∀ q, sg f (p + q) = sg f p + sg (fun j => f (p + j)) q
  | 0 => by simp [sg]
  | q + 1 => by rw [← Nat.add_assoc, sg, sg_split f p q, sg]; omega
theorem pick_sum (n : Nat) (a b : List Int) (h : 1 ≤ n) : ∀ m, sg (fun i => (if gC n a i = true then b.getD (i / n) 0 else 0) * a.getD i 0) (m * n) = sg (fun c => b.getD c 0 * mC n a c) m
  | 0 => by simp [sg]
  | m + 1 => by
    rw [Nat.add_mul, Nat.one_mul, sg_split, pick_sum n a b h m, sg]
    congr 1
    have e : sg (fun j => (if gC n a (m * n + j) = true then b.getD ((m * n + j) / n) 0 else 0) * a.getD (m * n + j) 0) n = sg (fun j => if fC n a m = j then b.getD m 0 * a.getD (m * n + j) 0 else 0) n := by
      apply sg_congr
      intro j hj
      rw [gC_at a hj, cm_div hj]
      by_cases he : fC n a m = j
      · subst he; simp
      · have : (j == fC n a m) = false := by simp; omega
        rw [this, if_neg he]
        simp
    rw [e, sg_one (fun j => b.getD m 0 * a.getD (m * n + j) 0) _ n (fC_lt a m h)]
    rfl
theorem dotV_sg {s t : Ten} (h : fitE s t = 0) : dotV s t = wrap64 (sg (fun i => s.2.getD i 0 * t.2.getD i 0) s.2.length) := by
  have hl := (fit_lens h).1
  rw [dotV, if_pos h, ttl_sm]
  show wrap64 (sm (List.zipWith (fun x y => wrap64 (x * y)) s.2 t.2)) = _
  rw [sm_wrap (fun x y => x * y), zip_range _ s.2 t.2 s.2.length rfl hl, sm_range]
theorem picks_get {n : Nat} {a b : List Int} {i : Nat} (h : i < a.length) : (picks n a b).getD i 0 = if gC n a i = true then b.getD (i / n) 0 else 0 := by
  simp [picks, h]
theorem maxs_get {n m : Nat} {a : List Int} {c : Nat} (h : c < m) : (maxs n m a).getD c 0 = mC n a c := by
  simp [maxs, h]
theorem tok_mk' {d l : List Int} (h : okd d = true) (hl : (l.length : Int) = prd d) : tok (d, l) = true := by
  simp only [tok, h, hl]
  simp
/-- What Max tells. -/
theorem max_law {s : Ten} {n : Nat} (hf : fwE s n = 0) : ∃ (d l : List Int) (m : Nat), mxR s n = (d, l) ∧ d = lesD s.1 n ∧ l = maxs n m s.2 ∧ s.2.length = m * n ∧ 1 ≤ n ∧ 1 ≤ m ∧ l.length = m ∧ l.length ≤ 64 ∧ 1 ≤ l.length ∧ ∀ l' : List Int, l'.length = m → tok (d, l') = true := by
  obtain ⟨hx, hn1, hn8, hd⟩ := fwE_zero hf
  obtain ⟨m, hm1, hm, ho, hp⟩ := few_mul hx (by omega) hd
  have hq : s.2.length / n = m := by rw [hm]; exact Nat.mul_div_cancel _ (by omega)
  have h64 := (tok_pos hx).2
  refine ⟨lesD s.1 n, maxs n m s.2, m, ?_, rfl, rfl, hm, by omega, hm1, maxs_length _ _ _, ?_, ?_, ?_⟩
  · rw [mxR, if_pos hf, mxM, Int.toNat_natCast, hq]
  · rw [maxs_length]
    have : m * 1 ≤ m * n := Nat.mul_le_mul_left m (by omega)
    omega
  · rw [maxs_length]; exact hm1
  · intro l' hl'
    refine tok_mk' ho ?_
    have := prd_lo (okd_parts ho).2.2.1
    omega
/-- What Pick tells of the greatest's places; the sums of products; back again. -/
theorem pick_law {s : Ten} {n m : Nat} {d l l' : List Int} (hf : fwE s n = 0) (hM : mxR s n = (d, l)) (hd : d = lesD s.1 n) (hl : l = maxs n m s.2) (hm : s.2.length = m * n) (hn : 1 ≤ n) (hll : l'.length = m) (ht : ∀ l' : List Int, l'.length = m → tok (d, l') = true) :
    ∃ p q : List Int, pkE s (d, l') n = 0 ∧ pkR s (d, l') n = (s.1, p) ∧ fitE (s.1, p) s = 0 ∧ fitE (d, l') (d, l) = 0 ∧ dotV (s.1, p) s = dotV (d, l') (d, l) ∧ pkE s (d, l) n = 0 ∧ pkR s (d, l) n = (s.1, q) ∧ q.length = s.2.length ∧ ∀ k, k < s.2.length → q.getD k 0 = 0 ∨ q.getD k 0 = s.2.getD k 0 := by
  obtain ⟨hx, _, _, _⟩ := fwE_zero hf
  have e1 : fwE s n ≠ 1 := by rw [hf]; decide
  have hlm : l.length = m := by rw [hl]; exact maxs_length _ _ _
  have pk : ∀ x : List Int, x.length = m → pkE s (d, x) n = 0 := by
    intro x hxl
    rw [pkE, if_neg (by simp [e1, ht x hxl]), if_pos ⟨hf, hd⟩]
  have pr : ∀ x : List Int, x.length = m → pkR s (d, x) n = (s.1, picks n s.2 x) := by
    intro x hxl
    rw [pkR, if_pos (pk x hxl), Int.toNat_natCast]
  have tp : ∀ x : List Int, tok (s.1, picks n s.2 x) = true := by
    intro x
    refine tok_mk' (tok_okd hx) ?_
    rw [picks_length]
    exact tok_len hx
  have f1 : fitE (s.1, picks n s.2 l') s = 0 := by simp [fitE, tp, hx]
  have f2 : fitE (d, l') (d, l) = 0 := by simp [fitE, ht l' hll, ht l hlm]
  refine ⟨_, _, pk l' hll, pr l' hll, f1, f2, ?_, pk l hlm, pr l hlm, picks_length _ _ _, ?_⟩
  · rw [dotV_sg f1, dotV_sg f2]
    congr 1
    show sg (fun i => (picks n s.2 l').getD i 0 * s.2.getD i 0) (picks n s.2 l').length = sg (fun i => l'.getD i 0 * l.getD i 0) l'.length
    rw [picks_length, hll, hm]
    rw [sg_congr (m * n) (g := fun i => (if gC n s.2 i = true then l'.getD (i / n) 0 else 0) * s.2.getD i 0) (fun i hi => by rw [picks_get (by omega)])]
    rw [pick_sum n s.2 l' hn m]
    apply sg_congr
    intro c hc
    rw [hl, maxs_get hc]
  · intro k hk
    rw [picks_get hk]
    by_cases hg : gC n s.2 k = true
    · right
      rw [if_pos hg, hl]
      have h2 : k / n < m := by rw [Nat.div_lt_iff_lt_mul hn]; omega
      rw [maxs_get h2, mC]
      have := nxC_on s.2 k hn hg
      obtain ⟨_, h3, h4⟩ := this
      rw [h3] at h4
      rw [← h4]
    · left
      rw [if_neg hg]
end Go.Proofs.Ytnphfepkjhlalaa
