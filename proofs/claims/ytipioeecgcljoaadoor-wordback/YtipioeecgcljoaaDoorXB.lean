/- The words of a line, put together again: plain data. -/
import Derived.Test.YtipioeecgcljoaaDoorX9
import Derived.Lib.MapLaws
namespace Go.Proofs.YtipioeecgcljoaaDoor
set_option linter.unusedVariables false
set_option linter.unusedSimpArgs false
set_option maxRecDepth 100000
open Go.RowKit

/-- A byte of a word, if it is one of one byte. -/
def bytW (b : Nat) : Bool := (decide (97 ≤ b) && decide (b ≤ 122)) || (decide (48 ≤ b) && decide (b ≤ 57)) || decide (b = 45)
def greW (b c : Nat) : Bool := decide (128 ≤ b) && decide (b / 32 = 6) && decide (128 ≤ c) && decide (c / 64 = 2) && decide (945 ≤ b % 32 * 64 + c % 64) && decide (b % 32 * 64 + c % 64 ≤ 969)
def bytG (b : Nat) : Bool := decide (b = 61) || decide (b = 32) || decide (b = 9)
/-- Bytes of words, g: and of what stands between. -/
def okB (g : Bool) : List UInt8 → Bool
  | [] => true
  | [b] => bytW b.toNat || (g && bytG b.toNat)
  | b :: c :: r => if bytW b.toNat || (g && bytG b.toNat) then okB g (c :: r) else (greW b.toNat c.toNat && okB g r)
theorem okB_one (g : Bool) (b : UInt8) (r : List UInt8) (h : (bytW b.toNat || (g && bytG b.toNat)) = true) : okB g (b :: r) = okB g r := by
  cases r with
  | nil => exact h
  | cons c r => rw [okB, if_pos h]
theorem gre_not {b c : Nat} (h : greW b c = true) (g : Bool) : ¬ (bytW b || (g && bytG b)) = true := by
  simp only [greW, Bool.and_eq_true, decide_eq_true_eq] at h
  simp only [bytW, bytG, Bool.or_eq_true, Bool.and_eq_true, decide_eq_true_eq]
  omega
theorem okB_two (g : Bool) (b c : UInt8) (r : List UInt8) (h : greW b.toNat c.toNat = true) : okB g (b :: c :: r) = okB g r := by
  rw [okB, if_neg (gre_not h g), h, Bool.true_and]
theorem okB_append (g : Bool) (v : List UInt8) (hv : okB g v = true) : ∀ (n : Nat) (u : List UInt8), u.length ≤ n → okB g u = true → okB g (u ++ v) = true
  | _, [], _, _ => hv
  | 0, _ :: _, h, _ => by simp at h
  | n + 1, [b], _, hu => by
    rw [okB] at hu
    rw [List.cons_append, okB_one g b _ hu]
    exact hv
  | n + 1, b :: c :: r, hn, hu => by
    by_cases h : (bytW b.toNat || (g && bytG b.toNat)) = true
    · rw [okB_one g b _ h] at hu
      rw [List.cons_append, okB_one g b _ h]
      exact okB_append g v hv n (c :: r) (by simpa using hn) hu
    · rw [okB, if_neg h, Bool.and_eq_true] at hu
      rw [List.cons_append, List.cons_append, okB_two g b c _ hu.1]
      exact okB_append g v hv n r (by simp at hn; omega) hu.2
theorem okB_weak : ∀ (n : Nat) (u : List UInt8), u.length ≤ n → okB false u = true → okB true u = true
  | _, [], _, _ => rfl
  | 0, _ :: _, h, _ => by simp at h
  | n + 1, [b], _, hu => by
    rw [okB] at hu ⊢
    simp only [Bool.false_and, Bool.or_false] at hu
    rw [hu]; rfl
  | n + 1, b :: c :: r, hn, hu => by
    by_cases h : (bytW b.toNat || (false && bytG b.toNat)) = true
    · rw [okB_one false b _ h] at hu
      rw [okB_one true b _ (by simp only [Bool.false_and, Bool.or_false] at h; rw [h]; rfl)]
      exact okB_weak n (c :: r) (by simpa using hn) hu
    · rw [okB, if_neg h, Bool.and_eq_true] at hu
      rw [okB_two true b c _ hu.1]
      exact okB_weak n r (by simp at hn; omega) hu.2
/-- No byte of a word ends it. -/
theorem okB_bytes : ∀ (n : Nat) (u : List UInt8), u.length ≤ n → okB false u = true → ∀ j (h : j < u.length), ¬ (u[j]).toNat = 32 ∧ ¬ (u[j]).toNat = 9 ∧ ¬ (u[j]).toNat = 61
  | _, [], _, _, j, h => by simp at h
  | 0, _ :: _, h, _, _, _ => by simp at h
  | n + 1, [b], _, hu, j, h => by
    have : j = 0 := by simp at h; omega
    subst this
    rw [okB] at hu
    simp only [bytW, Bool.false_and, Bool.or_false, Bool.or_eq_true, Bool.and_eq_true, decide_eq_true_eq] at hu
    simp only [List.getElem_cons_zero]
    omega
  | n + 1, b :: c :: r, hn, hu, j, h => by
    by_cases hb : (bytW b.toNat || (false && bytG b.toNat)) = true
    · rw [okB_one false b _ hb] at hu
      cases j with
      | zero =>
        simp only [bytW, Bool.false_and, Bool.or_false, Bool.or_eq_true, Bool.and_eq_true, decide_eq_true_eq] at hb
        simp only [List.getElem_cons_zero]
        omega
      | succ j => exact okB_bytes n (c :: r) (by simpa using hn) hu j (by simpa using h)
    · rw [okB, if_neg hb, Bool.and_eq_true] at hu
      have hg := hu.1
      simp only [greW, Bool.and_eq_true, decide_eq_true_eq] at hg
      match j, h with
      | 0, _ => simp only [List.getElem_cons_zero]; omega
      | 1, _ => simp only [List.getElem_cons_succ, List.getElem_cons_zero]; omega
      | j + 2, h => exact okB_bytes n r (by simp at hn; omega) hu.2 j (by simpa using h)
/- Runes. -/
theorem dec_greek {s : ByteArray} {p : Nat} (h : p + 1 < s.size) (hg : greW (s[p]'(by omega)).toNat (s[p + 1]'h).toNat = true) :
    Utf8.decode s p = ((s[p]'(by omega)).toNat % 32 * 64 + (s[p + 1]'h).toNat % 64, 2) := by
  simp only [greW, Bool.and_eq_true, decide_eq_true_eq] at hg
  rw [Lib.decode_at, get_in s p (by omega), get_in s (p + 1) h, Lib.decodeN, if_neg (by omega), if_pos (by omega), if_pos (by omega)]
theorem bytW_rune {b : Nat} (h : bytW b = true) : b < 128 ∧ badR b 1 = false := by
  simp only [bytW, Bool.or_eq_true, Bool.and_eq_true, decide_eq_true_eq] at h
  refine ⟨by omega, badR_not ?_⟩
  simp only [letR, digR, Bool.or_eq_true, Bool.and_eq_true, decide_eq_true_eq]
  omega
theorem bytG_rune {b : Nat} (h : bytG b = true) : b < 128 ∧ badR b 1 = false := by
  simp only [bytG, Bool.or_eq_true, decide_eq_true_eq] at h
  refine ⟨by omega, badR_not ?_⟩
  omega
theorem one_rune {b : Nat} {g : Bool} (h : (bytW b || (g && bytG b)) = true) : b < 128 ∧ badR b 1 = false := by
  rw [Bool.or_eq_true] at h
  rcases h with h | h
  · exact bytW_rune h
  · rw [Bool.and_eq_true] at h; exact bytG_rune h.2
/-- A line of such bytes has no bad place. -/
theorem okB_fine (s : ByteArray) : ∀ (f p : Nat), p ≤ s.size → okB true (s.data.toList.drop p) = true → badN s f p = none
  | 0, _, _, _ => rfl
  | f + 1, p, hp, hk => by
    rw [badN]
    split
    · rename_i hlt
      have hl : p < s.data.toList.length := by rw [len_list]; exact hlt
      rw [List.drop_eq_getElem_cons hl] at hk
      have e0 : s.data.toList[p] = s[p] := get_list s p hlt hl
      by_cases hb : (bytW (s[p]'hlt).toNat || (true && bytG (s[p]'hlt).toNat)) = true
      · obtain ⟨h1, h2⟩ := one_rune hb
        rw [e0, okB_one true _ _ hb] at hk
        rw [decode_ascii s p hlt h1]
        simp only
        rw [if_neg (by rw [h2]; decide)]
        exact okB_fine s f (p + 1) (by omega) hk
      · by_cases hl2 : p + 1 < s.size
        · have hl3 : p + 1 < s.data.toList.length := by rw [len_list]; exact hl2
          have e1 : s.data.toList[p + 1] = s[p + 1] := get_list s (p + 1) hl2 hl3
          rw [List.drop_eq_getElem_cons hl3, e0, e1, okB, if_neg hb, Bool.and_eq_true] at hk
          rw [dec_greek hl2 hk.1]
          have hg := hk.1
          simp only [greW, Bool.and_eq_true, decide_eq_true_eq] at hg
          simp only
          rw [if_neg (by
            rw [badR_not (Or.inl (by simp only [letR, Bool.or_eq_true, Bool.and_eq_true, decide_eq_true_eq]; omega))]
            decide)]
          exact okB_fine s f (p + 2) (by omega) hk.2
        · rw [List.drop_of_length_le (by rw [len_list]; omega), e0, okB] at hk
          exact absurd hk hb
    · rfl
/-- The bytes of a good rune. -/
theorem rune_okB {s : ByteArray} {p r k : Nat} (hp : p < s.size) (hr : Utf8.decode s p = (r, k)) (h : letR r = true ∨ digR r = true ∨ r = 45) : okB false (s.extract p (p + k)).data.toList = true := by
  rw [Lib.extract_data]
  have hl : p < s.data.toList.length := by rw [len_list]; exact hp
  by_cases hlo : r < 128
  · obtain ⟨rfl, hb⟩ := dec_low hp hr hlo
    rw [List.drop_eq_getElem_cons hl, get_list s p hp hl, show p + 1 - p = 0 + 1 by omega, List.take_succ_cons, List.take_zero, okB, hb]
    simp only [Bool.false_and, Bool.or_false, bytW, Bool.or_eq_true, Bool.and_eq_true, decide_eq_true_eq]
    simp only [letR, digR, Bool.or_eq_true, Bool.and_eq_true, decide_eq_true_eq] at h
    omega
  · have hle : letR r = true := by
      rcases h with h | h | h
      · exact h
      · simp only [digR, Bool.and_eq_true, decide_eq_true_eq] at h; omega
      · omega
    simp only [letR, Bool.or_eq_true, Bool.and_eq_true, decide_eq_true_eq] at hle
    have h0 := dec_high hp hr (by omega)
    have hs := Lib.decodeN_shape (s.size - p) (s.get! p).toNat (s.get! (p + 1)).toNat (s.get! (p + 2)).toNat (s.get! (p + 3)).toNat
    rw [← Lib.decode_at, hr, get_in s p hp] at hs
    simp only [Prod.mk.injEq] at hs
    have hs2 : (s[p]'hp).toNat / 32 = 6 ∧ 1 < s.size - p ∧ (s.get! (p + 1)).toNat / 64 = 2 ∧ 128 ≤ (s[p]'hp).toNat % 32 * 64 + (s.get! (p + 1)).toNat % 64 ∧ r = (s[p]'hp).toNat % 32 * 64 + (s.get! (p + 1)).toNat % 64 ∧ k = 2 := by
      rcases hs with hs | hs | hs | hs | hs
      · omega
      · exact hs
      · omega
      · omega
      · omega
    obtain ⟨q1, q2, q3, q4, q5, rfl⟩ := hs2
    have hp1 : p + 1 < s.size := by omega
    have hl1 : p + 1 < s.data.toList.length := by rw [len_list]; exact hp1
    rw [get_in s (p + 1) hp1] at q3 q4 q5
    rw [List.drop_eq_getElem_cons hl, List.drop_eq_getElem_cons hl1, get_list s p hp hl, get_list s (p + 1) hp1 hl1, show p + 2 - p = 0 + 1 + 1 by omega, List.take_succ_cons, List.take_succ_cons, List.take_zero, okB_two]
    · rfl
    · simp only [greW, Bool.and_eq_true, decide_eq_true_eq]
      omega
/-- A word, as it stands in its line. -/
def TokOK (x : ByteArray) (t : Tok) : Prop := t.2 + t.1.size ≤ x.size ∧ x.extract t.2 (t.2 + t.1.size) = t.1 ∧ ((okB false t.1.data.toList = true ∧ 0 < t.1.size) ∨ t.1 = ⟨#[61]⟩)
theorem extract_join (s : ByteArray) (a p q : Nat) (h1 : a ≤ p) (h2 : p ≤ q) : (s.extract a q).data.toList = (s.extract a p).data.toList ++ (s.extract p q).data.toList := by
  rw [← List.append_nil (s.extract a q).data.toList]
  simp only [Lib.extract_data, List.append_nil]
  rw [show q - a = (p - a) + (q - p) by omega, List.take_add, List.drop_drop, show a + (p - a) = p by omega]
theorem putL_ok {x : ByteArray} {l : List Tok} {a p : Nat} (hl : ∀ t ∈ l, TokOK x t) (hap : a ≤ p) (hp : p ≤ x.size) (ha : okB false (x.extract a p).data.toList = true) : ∀ t ∈ putL l x a p, TokOK x t := by
  rw [putL]
  split
  · exact hl
  · intro t ht
    rcases List.mem_append.1 ht with ht | ht
    · exact hl t ht
    · simp only [List.mem_cons, List.not_mem_nil, or_false] at ht
      have hs : (x.extract a p).size = p - a := by rw [ByteArray.size_extract]; omega
      subst ht
      refine ⟨by show a + (x.extract a p).size ≤ _; omega, ?_, Or.inl ⟨ha, by show 0 < (x.extract a p).size; omega⟩⟩
      show x.extract a (a + (x.extract a p).size) = x.extract a p
      rw [hs, show a + (p - a) = p by omega]
theorem okB_none (x : ByteArray) (p : Nat) : okB false (x.extract p p).data.toList = true := by
  rw [Lib.extract_data, Nat.sub_self]; rfl
theorem toks_ok (x : ByteArray) : ∀ (f p a : Nat) (l : List Tok), p ≤ x.size → x.size - p < f → badN x f p = none → WordI x p a l → (∀ t ∈ l, TokOK x t) → okB false (x.extract a p).data.toList = true → ∀ t ∈ toksW x, TokOK x t := by
  intro f
  induction f with
  | zero => intro p a l hp hf; omega
  | succ f ih =>
    intro p a l hp hf hb hW hl ha
    have hap := hW.le
    by_cases hlt : p < x.size
    · obtain ⟨⟨r, k⟩, hrk⟩ : ∃ y, Utf8.decode x p = y := ⟨_, rfl⟩
      have hk1 := decode_lo x p
      have hk2 := decode_le x p hlt
      rw [badN, if_pos hlt, hrk] at hb
      rw [hrk] at hk1 hk2
      simp only at hb hk1 hk2
      by_cases hbr : badR r k = true
      · rw [if_pos hbr] at hb; cases hb
      · rw [if_neg hbr] at hb
        by_cases h61 : r = 61
        · obtain ⟨rfl, hW2⟩ := hW.eq hlt hrk h61
          refine ih (p + 1) (p + 1) _ hk2 (by omega) hb hW2 ?_ (okB_none x _)
          have h1 := putL_ok hl hap hp ha
          have hb1 := (dec_low hlt hrk (by omega)).2
          intro t ht
          rw [putL, if_neg (by omega)] at ht
          rcases List.mem_append.1 ht with ht | ht
          · exact h1 t ht
          · simp only [List.mem_cons, List.not_mem_nil, or_false] at ht
            have e := one_61 hlt (by omega)
            subst ht
            refine ⟨?_, ?_, Or.inr e⟩
            · show p + (x.extract p (p + 1)).size ≤ _
              rw [e]; exact hk2
            · show x.extract p (p + (x.extract p (p + 1)).size) = x.extract p (p + 1)
              rw [e]; exact e
        · by_cases hg : r = 32 ∨ r = 9
          · obtain ⟨rfl, hW2⟩ := hW.gap hlt hrk hg
            exact ih (p + 1) (p + 1) _ hk2 (by omega) hb hW2 (putL_ok hl hap hp ha) (okB_none x _)
          · have hgood : letR r = true ∨ digR r = true ∨ r = 45 := by
              cases e1 : letR r with
              | true => exact Or.inl rfl
              | false =>
                cases e2 : digR r with
                | true => exact Or.inr (Or.inl rfl)
                | false =>
                  by_cases e3 : r = 45
                  · exact Or.inr (Or.inr e3)
                  · exact absurd (badR_yes e1 e2 e3 h61 (by omega) (by omega)) hbr
            refine ih (p + k) a l hk2 (by omega) hb (hW.rune hlt hrk (by omega) (by omega) h61) hl ?_
            rw [extract_join x a p (p + k) hap (by omega)]
            exact okB_append false _ (rune_okB hlt hrk hgood) _ _ (Nat.le_refl _) ha
    · obtain rfl : p = x.size := by omega
      rw [← hW.last]
      exact putL_ok hl hap (Nat.le_refl _) ha
theorem fine_toks {x : ByteArray} (h : badW x = none) : ∀ t ∈ toksW x, TokOK x t :=
  toks_ok x (x.size + 1) 0 0 [] (Nat.zero_le _) (by omega) h (WordI.start x) (fun t ht => by simp at ht) (okB_none x 0)
end Go.Proofs.YtipioeecgcljoaaDoor
