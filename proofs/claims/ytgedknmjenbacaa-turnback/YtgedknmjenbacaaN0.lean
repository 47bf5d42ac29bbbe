/- Plain mathematics of stage 3: what follows of Turn, Shape, Wide, Sum and Dot. -/
import Derived.Test.YtgedknmjenbacaaH2
namespace Go.Proofs.Ytgedknmjenbacaa
set_option linter.unusedVariables false
set_option linter.unusedSimpArgs false
open Go.RowKit

theorem wi_zero {t : Ten} {d : List Int} (h : wiE t d = 0) : tok t = true ∧ okd t.1 = true ∧ okd d = true ∧ wid t.1 d = true := by
  cases ht : tok t with
  | false => rw [wiE, ht] at h; simp at h
  | true =>
    have hw : wdr t.1 d = 0 := by rw [wiE, ht] at h; exact h
    obtain ⟨a, b, c⟩ := wdr_zero hw
    exact ⟨rfl, a, b, c⟩
theorem wiR_ok {t : Ten} {d : List Int} (h : wiE t d = 0) : wiR t d = (d, laid (wmp t.1 d) t.2 (prd d).toNat) := by rw [wiR, if_pos h]
theorem prd_nat {d : List Int} (h : okd d = true) : ∃ n : Nat, prd d = n ∧ 1 ≤ n ∧ n ≤ 64 := by
  obtain ⟨_, _, hin, hp⟩ := okd_parts h
  have := prd_lo hin
  exact ⟨(prd d).toNat, by omega, by omega, by omega⟩
theorem tok_mk {d l : List Int} (hd : okd d = true) (hl : (l.length : Int) = prd d) : tok (d, l) = true := by
  simp [tok, hd, hl]
theorem tk_zero {t : Ten} (h : tok t = true) : tkE t = 0 := by simp [tkE, h]
theorem wi_tok {t : Ten} {d : List Int} (h : wiE t d = 0) : tok (wiR t d) = true := by
  obtain ⟨_, _, hd, _⟩ := wi_zero h
  obtain ⟨n, hn, _⟩ := prd_nat hd
  rw [wiR_ok h]
  refine tok_mk hd ?_
  rw [laid_length, hn]
  rfl
theorem wdr_mk {a b : List Int} (h1 : okd a = true) (h2 : okd b = true) (h3 : wid a b = true) : wdr a b = 0 := by simp [wdr, h1, h2, h3]
/-- Any tensor of the wider dims can be summed up to the narrower ones. -/
theorem su_any {t b : Ten} {d : List Int} (h : wiE t d = 0) (hb : tok b = true) (hd : b.1 = d) : suE b t.1 = 0 := by
  obtain ⟨_, h1, h2, h3⟩ := wi_zero h
  rw [suE, hb, hd]
  exact wdr_mk h1 h2 h3
theorem su_wi {t : Ten} {d : List Int} (h : wiE t d = 0) : suE (wiR t d) t.1 = 0 := su_any h (wi_tok h) (by rw [wiR_ok h])
theorem suR_ok {t : Ten} {d : List Int} (h : suE t d = 0) : suR t d = (d, sums (wmp d t.1) t.2 (prd d).toNat t.2.length) := by rw [suR, if_pos h]

theorem back_law {t : Ten} {d : List Int} (h : wiE t d = 0) :
    ∃ q : Nat, (wiR t d).2.length = q * t.2.length ∧ suR (wiR t d) t.1 = (t.1, t.2.map fun y => wrap64 (y * (q : Nat))) ∧ (1 ≤ t.2.length ∧ t.2.length ≤ 64) ∧ (wiR t d).2.length ≤ 64 := by
  obtain ⟨ht, h1, h2, h3⟩ := wi_zero h
  obtain ⟨n, hn, hn1, hn64⟩ := prd_nat h2
  obtain ⟨m, hm, hm1, hm64⟩ := prd_nat h1
  have hl : t.2.length = m := by
    have := tok_len ht
    rw [hm] at this
    exact Int.ofNat.inj this
  have hnt : (prd d).toNat = n := by omega
  have hmt : (prd t.1).toNat = m := by omega
  have hct := fun k (hk : k < m) => wmp_count h2 h3 k (by rw [hmt]; exact hk)
  rw [hnt, hmt] at hct
  obtain ⟨q, hq⟩ : ∃ q, ((List.range n).filter fun i => wmp t.1 d i == 0).length = q := ⟨_, rfl⟩
  have hqm : q * m = n := by rw [← hq]; exact hct 0 (by omega)
  have hall : ∀ k, k < m → ctn (wmp t.1 d) k n = q := by
    intro k hk
    have h4 := hct k hk
    have h5 : ctn (wmp t.1 d) k n * m = q * m := by rw [hqm]; exact h4
    exact Nat.eq_of_mul_eq_mul_right (by omega) h5
  refine ⟨q, ?_, ?_, ⟨by omega, by omega⟩, ?_⟩
  · rw [wiR_ok h, laid_length, hnt, hl, hqm]
  · rw [suR_ok (su_wi h), wiR_ok h]
    simp only [laid_length, hnt, hmt]
    rw [turn_back (wmp t.1 d) t.2 m n q hl hall]
  · rw [wiR_ok h, laid_length, hnt]
    exact hn64

theorem dots_law {t b : Ten} {d : List Int} (h : wiE t d = 0) (hb : tok b = true) (hd : b.1 = d) :
    fitE (wiR t d) b = 0 ∧ fitE t (suR b t.1) = 0 ∧ dotV (wiR t d) b = dotV t (suR b t.1) := by
  obtain ⟨ht, h1, h2, h3⟩ := wi_zero h
  obtain ⟨n, hn, hn1, hn64⟩ := prd_nat h2
  obtain ⟨m, hm, hm1, hm64⟩ := prd_nat h1
  have hl : t.2.length = m := by
    have := tok_len ht
    rw [hm] at this
    exact Int.ofNat.inj this
  have hbl : b.2.length = n := by
    have := tok_len hb
    rw [hd, hn] at this
    exact Int.ofNat.inj this
  have hnt : (prd d).toNat = n := by omega
  have hmt : (prd t.1).toNat = m := by omega
  have hs := suR_ok (su_any h hb hd)
  rw [hd, hmt, hbl] at hs
  have hst : tok (suR b t.1) = true := by
    rw [hs]
    refine tok_mk h1 ?_
    rw [sums_length, hm]
  have f1 : fitE (wiR t d) b = 0 := by
    rw [fitE, wi_tok h, hb]
    simp [wiR_ok h, hd]
  have f2 : fitE t (suR b t.1) = 0 := by
    rw [fitE, ht, hst]
    simp [hs]
  refine ⟨f1, f2, ?_⟩
  rw [dotV, if_pos f1, dotV, if_pos f2, hs, wiR_ok h, hnt]
  refine turn_dot (wmp t.1 d) t.2 b.2 m n hl hbl fun i hi => ?_
  have := (wmp_lt h1 h2 h3 i (by rw [hn]; omega)).2.2
  rw [hm] at this
  omega

theorem tr_zero {t : Ten} (h : trE t = 0) : tok t = true ∧ ∃ p q : Nat, t.1 = [(p : Int), (q : Int)] ∧ p ≤ 8 ∧ q ≤ 8 ∧ 1 ≤ p ∧ 1 ≤ q ∧ t.2.length = p * q := by
  cases ht : tok t with
  | false => rw [trE, ht] at h; simp at h
  | true =>
    refine ⟨rfl, ?_⟩
    by_cases h2 : t.1.length = 2
    · obtain ⟨x, y, hxy⟩ := two_of h2
      have hok := tok_okd ht
      rw [hxy] at hok
      obtain ⟨a, b, c, d⟩ := okd2 hok
      refine ⟨x.toNat, y.toNat, by rw [hxy, Int.toNat_of_nonneg (by omega), Int.toNat_of_nonneg (by omega)], by omega, by omega, by omega, by omega, ?_⟩
      have hl := tok_len ht
      rw [hxy] at hl
      obtain ⟨p, rfl⟩ : ∃ p : Nat, x = p := ⟨x.toNat, by omega⟩
      obtain ⟨q, rfl⟩ : ∃ q : Nat, y = q := ⟨y.toNat, by omega⟩
      have : prd [(p : Int), (q : Int)] = ((p * q : Nat) : Int) := by simp [prd]
      rw [this] at hl
      simpa using Int.ofNat.inj hl
    · rw [trE, ht, if_neg h2] at h
      simp at h
theorem trR_ok {t : Ten} {p q : Nat} (h : trE t = 0) (hd : t.1 = [(p : Int), (q : Int)]) : trR t = ([(q : Int), (p : Int)], tns p q t.2) := by
  rw [trR, if_pos h, hd]
  simp
theorem turn_twice {t : Ten} (h : trE t = 0) : trE (trR t) = 0 ∧ trR (trR t) = t := by
  obtain ⟨ht, p, q, hd, hp, hq, hp1, hq1, hl⟩ := tr_zero h
  have hr := trR_ok h hd
  have e : trE (trR t) = 0 := by
    rw [hr, trE, tok_mk (okd2_mk (by omega)) (by rw [tns_length]; simp [prd, Int.mul_comm])]
    rfl
  refine ⟨e, ?_⟩
  have := trR_ok (t := trR t) e (p := q) (q := p) (by rw [hr])
  rw [this, hr]
  simp only
  rw [tns_back p q t.2 hl]
  obtain ⟨a, b⟩ := t
  simp only at hd
  rw [hd]
theorem sh_zero {t : Ten} {d : List Int} (h : shE t d = 0) : okd d = true ∧ tok t = true ∧ (t.2.length : Int) = prd d := by
  cases hd : okd d with
  | false => rw [shE, hd] at h; simp at h
  | true =>
    cases ht : tok t with
    | false => rw [shE, hd, ht] at h; simp at h
    | true =>
      by_cases hl : (t.2.length : Int) = prd d
      · exact ⟨rfl, rfl, hl⟩
      · rw [shE, hd, ht, if_neg hl] at h
        simp at h
theorem shape_back {t : Ten} {d : List Int} (h : shE t d = 0) : shE (shR t d) t.1 = 0 ∧ shR (shR t d) t.1 = t := by
  obtain ⟨hd, ht, hl⟩ := sh_zero h
  have hr : shR t d = (d, t.2) := by rw [shR, if_pos h]
  have e : shE (shR t d) t.1 = 0 := by
    rw [hr, shE, tok_okd ht, tok_mk hd hl]
    simp [tok_len ht]
  refine ⟨e, ?_⟩
  rw [shR, if_pos e, hr]
end Go.Proofs.Ytgedknmjenbacaa
