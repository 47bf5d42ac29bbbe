/- What a node's errors and answers are, case by case. -/
import Derived.Test.YtheddpjaihhbdabGreatA5
namespace Go.Proofs.YtheddpjaihhbdabGreat
set_option linter.unusedVariables false
set_option linter.unusedSimpArgs false
set_option maxRecDepth 100000
open Go.RowKit

theorem fit_bad2 {s t : Ten} (h : tok s = false ∨ tok t = false) : fitE s t = 1 := by
  rcases h with h | h <;> simp [fitE, h]
theorem vE_bad {k : Nat} {n : Int} {d : List Int} {s t : Ten} (h3 : 4 ≤ k) (h17 : k ≤ 17) (h : (many k = 1 ∧ tok s = false) ∨ (many k = 2 ∧ (tok s = false ∨ tok t = false))) : vE k n d s t = 1 ∧ vR k n d s t = ([], []) := by
  have hk : k = 4 ∨ k = 5 ∨ k = 6 ∨ k = 7 ∨ k = 8 ∨ k = 9 ∨ k = 10 ∨ k = 11 ∨ k = 12 ∨ k = 13 ∨ k = 14 ∨ k = 15 ∨ k = 16 ∨ k = 17 := by omega
  have two : many k = 2 → tok s = false ∨ tok t = false := fun e => by
    rcases h with h | h
    · omega
    · exact h.2
  have one : many k = 1 → tok s = false := fun e => by
    rcases h with h | h
    · exact h.2
    · omega
  clear h h3 h17
  rcases hk with rfl | rfl | rfl | rfl | rfl | rfl | rfl | rfl | rfl | rfl | rfl | rfl | rfl | rfl
  · have e := (fit_bad2 (two rfl)); exact ⟨e, by simp [vR, eachR, e]⟩
  · have e := (fit_bad2 (two rfl)); exact ⟨e, by simp [vR, eachR, e]⟩
  · have e := (fit_bad2 (two rfl)); exact ⟨e, by simp [vR, eachR, e]⟩
  · have e := (fit_bad2 (Or.inl (one rfl)) : fitE s s = 1); exact ⟨e, by simp [vR, eachR, e]⟩
  · have e := one rfl; exact ⟨by simp [vE, tkE, e], by simp [vR, sclR, e]⟩
  · have e : muE s t = 1 := by rw [muE, if_neg (fun h => by rcases two rfl with e | e <;> simp [e] at h)]
    exact ⟨e, by simp [vR, muR, e]⟩
  · have e : trE s = 1 := by simp [trE, one rfl]
    exact ⟨e, by simp [vR, trR, e]⟩
  · have e : shE s d = 1 := by simp [shE, one rfl]
    exact ⟨e, by simp [vR, shR, e]⟩
  · have e : wiE s d = 1 := by simp [wiE, one rfl]
    exact ⟨e, by simp [vR, wiR, e]⟩
  · have e : suE s d = 1 := by simp [suE, one rfl]
    exact ⟨e, by simp [vR, suR, e]⟩
  · have e := one rfl; have e2 := (fit_bad2 (Or.inl e) : fitE s s = 1); exact ⟨by simp [vE, tkE, e], by simp [vR, eachR, e2]⟩
  · have e : fwE s n = 1 := by simp [fwE, one rfl]
    exact ⟨e, by simp [vR, mxR, e]⟩
  · have e := (fit_bad2 (two rfl)); exact ⟨e, by simp [vR, eachR, e]⟩
  · have e : pkE s t n = 1 := by
      rw [pkE, if_pos]
      rcases two rfl with e | e
      · exact Or.inl (by simp [fwE, e])
      · exact Or.inr e
    exact ⟨e, by simp [vR, pkR, e]⟩
theorem frm_partsM {k n : Int} {d : List Int} {c : Nat} (h : frm k n d c = true) : (1 ≤ k ∧ k ≤ 17) ∧ c = many k.toNat ∧ dok k.toNat d = true ∧ nok k.toNat n = true := by
  simp only [frm, frmN, Bool.and_eq_true, decide_eq_true_eq] at h
  exact ⟨h.1, h.2.1.1, h.2.1.2, h.2.2⟩
theorem many_le (k : Nat) : many k ≤ 2 := by
  unfold many
  split
  · omega
  · split <;> omega
theorem many_0 {k : Nat} (h : many k = 0) : k ≤ 3 := by
  unfold many at h
  split at h
  · assumption
  · split at h <;> omega
theorem many_3 {k : Nat} (h : k ≤ 3) : many k = 0 := by rw [many, if_pos h]
theorem len_cases {α : Type} (L : List α) (h : L.length ≤ 2) : L = [] ∨ (∃ a, L = [a]) ∨ ∃ a b, L = [a, b] := by
  match L, h with
  | [], _ => exact Or.inl rfl
  | [a], _ => exact Or.inr (Or.inl ⟨a, rfl⟩)
  | [a, b], _ => exact Or.inr (Or.inr ⟨a, b, rfl⟩)
theorem di_no {k n : Int} {d : List Int} {P : List (List Int)} (h : ¬ may k n d P = true) : diE k n d P = 1 ∧ diR k n d P = [] := by
  cases hf : frm k n d P.length with
  | false => simp [diE, diR, hf]
  | true =>
    obtain ⟨hk, hc, _, _⟩ := frm_partsM hf
    have ha : ¬ P.all okd = true := fun ha => h (by rw [may, hf, ha]; rfl)
    have h3 : ¬ k < 3 := by
      intro h3
      have : P = [] := List.eq_nil_of_length_eq_zero (by rw [hc]; exact many_3 (by omega))
      subst this
      exact ha rfl
    simp only [diE, diR, hf, if_true, if_neg h3, if_neg ha]
    exact ⟨trivial, trivial⟩
theorem di_yes {k n : Int} {d : List Int} {P : List (List Int)} (h : may k n d P = true) :
    diE k n d P = (if inf k.toNat n d (P.getD 0 []) (P.getD 1 []) then 0 else 4) ∧ diR k n d P = (if inf k.toNat n d (P.getD 0 []) (P.getD 1 []) then inD k.toNat n d (P.getD 0 []) (P.getD 1 []) else []) := by
  simp only [may, Bool.and_eq_true] at h
  obtain ⟨hf, ha⟩ := h
  obtain ⟨hk, hc, hd, hn⟩ := frm_partsM hf
  by_cases h3 : k < 3
  · have hk' : k = 1 ∨ k = 2 := by omega
    rcases hk' with rfl | rfl <;> simp [diE, diR, hf, inf, inD]
  · have hz0 : ((P.map zT).getD 0 no).1 = P.getD 0 [] := by cases P <;> rfl
    have hz1 : ((P.map zT).getD 1 no).1 = P.getD 1 [] := by
      match P with
      | [] => rfl
      | [a] => rfl
      | a :: b :: c => rfl
    have hs : many k.toNat = 0 ∨ tok ((P.map zT).getD 0 no) = true := by
      match P, hc, ha with
      | [], hc, _ => exact Or.inl hc.symm
      | a :: c, hc, ha =>
        refine Or.inr (tok_zT ?_)
        simp at ha
        exact ha.1
    have ht : many k.toNat ≤ 1 ∨ tok ((P.map zT).getD 1 no) = true := by
      match P, hc, ha with
      | [], hc, _ => exact Or.inl (by simp at hc; omega)
      | [a], hc, _ => exact Or.inl (by simp at hc; omega)
      | a :: b :: c, hc, ha =>
        refine Or.inr (tok_zT ?_)
        simp at ha
        exact ha.2.1
    obtain ⟨h1, h2⟩ := vE_inf (k := k.toNat) (by omega) (by omega) hd hn hs ht
    rw [hz0, hz1] at h1 h2
    simp only [diE, diR, hf, if_true, if_neg h3, if_pos ha]
    refine ⟨h1, ?_⟩
    rw [h2]
    cases inf k.toNat n d (P.getD 0 []) (P.getD 1 []) <;> rfl
theorem do_no {k n : Int} {d : List Int} {L : List Ten} (h : ¬ may k n d (L.map Prod.fst) = true ∨ k < 3 ∨ ¬ L.all tok = true) : doE k n d L = 1 ∧ doR k n d L = ([], []) := by
  cases hf : frm k n d L.length with
  | false => simp [doE, doR, hf]
  | true =>
    obtain ⟨hk, hc, _, _⟩ := frm_partsM hf
    simp only [doE, doR, hf, if_true]
    by_cases h3 : k < 3
    · have hk' : k = 1 ∨ k = 2 := by omega
      rcases hk' with rfl | rfl <;> exact ⟨rfl, rfl⟩
    · have ha : ¬ L.all tok = true := by
        rcases h with h | h | h
        · intro ha
          refine h ?_
          rw [may, List.length_map, hf, Bool.true_and, List.all_map, List.all_eq_true]
          rw [List.all_eq_true] at ha
          exact fun x hx => tok_okd (ha x hx)
        · exact absurd h h3
        · exact h
      have h4 : 4 ≤ k.toNat := by
        by_cases h4 : k = 3
        · subst h4
          have : L = [] := List.eq_nil_of_length_eq_zero hc
          subst this
          exact absurd rfl ha
        · omega
      refine vE_bad h4 (by omega) ?_
      rcases len_cases L (by rw [hc]; exact many_le _) with rfl | ⟨a, rfl⟩ | ⟨a, b, rfl⟩
      · exact absurd rfl ha
      · refine Or.inl ⟨hc.symm, ?_⟩
        simpa using ha
      · refine Or.inr ⟨hc.symm, ?_⟩
        simp at ha
        show tok a = false ∨ tok b = false
        cases hx : tok a with
        | false => exact Or.inl rfl
        | true => exact Or.inr (by simpa using ha hx)
theorem do_yes {k n : Int} {d : List Int} {L : List Ten} (h : may k n d (L.map Prod.fst) = true) (h3 : ¬ k < 3) (ha : L.all tok = true) :
    doE k n d L = (if inf k.toNat n d ((L.map Prod.fst).getD 0 []) ((L.map Prod.fst).getD 1 []) then 0 else 4) ∧ doR k n d L = (if inf k.toNat n d ((L.map Prod.fst).getD 0 []) ((L.map Prod.fst).getD 1 []) then vR k.toNat n d (L.getD 0 no) (L.getD 1 no) else ([], [])) ∧ vE k.toNat n d (L.getD 0 no) (L.getD 1 no) = (if inf k.toNat n d ((L.map Prod.fst).getD 0 []) ((L.map Prod.fst).getD 1 []) then 0 else 4) ∧ L.length = many k.toNat := by
  simp only [may, Bool.and_eq_true, List.length_map] at h
  obtain ⟨hf, _⟩ := h
  obtain ⟨hk, hc, hd, hn⟩ := frm_partsM hf
  have hz0 : (L.getD 0 no).1 = (L.map Prod.fst).getD 0 [] := by cases L <;> rfl
  have hz1 : (L.getD 1 no).1 = (L.map Prod.fst).getD 1 [] := by
    match L with
    | [] => rfl
    | [a] => rfl
    | a :: b :: c => rfl
  have hs : many k.toNat = 0 ∨ tok (L.getD 0 no) = true := by
    match L, hc, ha with
    | [], hc, _ => exact Or.inl hc.symm
    | a :: c, hc, ha =>
      refine Or.inr ?_
      simp at ha
      exact ha.1
  have ht : many k.toNat ≤ 1 ∨ tok (L.getD 1 no) = true := by
    match L, hc, ha with
    | [], hc, _ => exact Or.inl (by simp at hc; omega)
    | [a], hc, _ => exact Or.inl (by simp at hc; omega)
    | a :: b :: c, hc, ha =>
      refine Or.inr ?_
      simp at ha
      exact ha.2.1
  obtain ⟨h1, h2⟩ := vE_inf (k := k.toNat) (by omega) (by omega) hd hn hs ht
  rw [hz0, hz1] at h1 h2
  simp only [doE, doR, hf, if_true]
  refine ⟨h1, ?_, h1, hc⟩
  cases hi : inf k.toNat n d ((L.map Prod.fst).getD 0 []) ((L.map Prod.fst).getD 1 []) with
  | true => rfl
  | false => rw [h2, hi]; rfl
end Go.Proofs.YtheddpjaihhbdabGreat
