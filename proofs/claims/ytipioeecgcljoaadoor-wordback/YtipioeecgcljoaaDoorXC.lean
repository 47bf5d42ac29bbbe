/- The words of a line, put together again, with blanks between: they are the same words. -/
import Derived.Test.YtipioeecgcljoaaDoorXB
namespace Go.Proofs.YtipioeecgcljoaaDoor
set_option linter.unusedVariables false
set_option linter.unusedSimpArgs false
set_option maxRecDepth 100000
open Go.RowKit

theorem app_list (s u : ByteArray) : (s ++ u).data.toList = s.data.toList ++ u.data.toList := by
  rw [ByteArray.data_append, Array.toList_append]
theorem app_size (s u : ByteArray) : (s ++ u).size = s.size + u.size := by simp
theorem byteE_list (s : ByteArray) (k : Nat) : byteE s k = (s.data.toList.getD k 32).toNat := by
  by_cases h : k < s.size
  · have hl : k < s.data.toList.length := by rw [len_list]; exact h
    rw [byteE_lt h, List.getD_eq_getElem?_getD, List.getElem?_eq_getElem hl, Option.getD_some, get_list s k h hl]
  · rw [byteE, dif_neg h, List.getD_eq_getElem?_getD, List.getElem?_eq_none (by rw [len_list]; omega)]
    rfl
theorem byteE_left (s u : ByteArray) (k : Nat) (h : k < s.size) : byteE (s ++ u) k = byteE s k := by
  rw [byteE_list, byteE_list, app_list, List.getD_eq_getElem?_getD, List.getD_eq_getElem?_getD, List.getElem?_append_left (by rw [len_list]; exact h)]
theorem byteE_right (s u : ByteArray) (j : Nat) : byteE (s ++ u) (s.size + j) = byteE u j := by
  rw [byteE_list, byteE_list, app_list, List.getD_eq_getElem?_getD, List.getD_eq_getElem?_getD, List.getElem?_append_right (by rw [len_list]; omega), len_list, Nat.add_sub_cancel_left]
theorem ext_list {a b : ByteArray} (h : a.data.toList = b.data.toList) : a = b := ByteArray.ext (Array.toList_inj.1 h)
theorem extract_left (s u : ByteArray) (a b : Nat) (h : b ≤ s.size) : (s ++ u).extract a b = s.extract a b := by
  apply ext_list
  rw [Lib.extract_data, Lib.extract_data, app_list]
  by_cases hab : a ≤ b
  · rw [List.drop_append_of_le_length (by rw [len_list]; omega), List.take_append_of_le_length (by rw [List.length_drop, len_list]; omega)]
  · rw [show b - a = 0 by omega, List.take_zero, List.take_zero]
theorem extract_right (s u : ByteArray) : (s ++ u).extract s.size (s.size + u.size) = u := by
  apply ext_list
  rw [Lib.extract_data, app_list, List.drop_append_of_le_length (by rw [len_list]; exact Nat.le_refl _), List.drop_of_length_le (by rw [len_list]; exact Nat.le_refl _), List.nil_append, List.take_of_length_le (by rw [len_list]; omega)]
theorem tokSt_left (s u : ByteArray) : ∀ k, k ≤ s.size → tokSt (s ++ u) k = tokSt s k
  | 0, _ => rfl
  | k + 1, h => by
    rw [tokSt, tokSt, tokSt_left s u k (by omega)]
    generalize tokSt s k = st
    have e1 := byteE_left s u k (by omega)
    have e2 : endT (s ++ u) k st = endT s k st := by
      rw [endT, endT]
      split
      · rw [extract_left s u _ k (by omega)]
      · rfl
    rw [tokStep, tokStep, endB, endB, e1, e2]
theorem WordI.left {s : ByteArray} {p a : Nat} {l : List Tok} (h : WordI s p a l) (u : ByteArray) (hp : p ≤ s.size) : WordI (s ++ u) p a l := by
  unfold WordI
  rw [tokSt_left s u p hp]
  exact h
theorem WordI.gapB {s : ByteArray} {p a : Nat} {l : List Tok} (h : WordI s p a l) (hb : byteE s p = 32 ∨ byteE s p = 9) : WordI s (p + 1) (p + 1) (putL l s a p) := by
  have e : tokSt s (p + 1) = (none, endT s p (tokSt s p)) := by rw [tokSt, step_end hb]
  exact ⟨by rw [e, h.fin], Or.inr ⟨by rw [e], rfl⟩⟩
theorem WordI.eqB {s : ByteArray} {p a : Nat} {l : List Tok} (h : WordI s p a l) (hb : byteE s p = 61) : WordI s (p + 1) (p + 1) (putL l s a p ++ [(⟨#[61]⟩, p)]) := by
  have e : tokSt s (p + 1) = (none, endT s p (tokSt s p) ++ [(⟨#[61]⟩, p)]) := by rw [tokSt, step_eq hb]
  exact ⟨by rw [e, h.fin], Or.inr ⟨by rw [e], rfl⟩⟩
theorem WordI.inB {s : ByteArray} {a : Nat} {l : List Tok} : ∀ {k p : Nat}, WordI s p a l → (∀ j, j < k → ¬ byteE s (p + j) = 32 ∧ ¬ byteE s (p + j) = 9 ∧ ¬ byteE s (p + j) = 61) → WordI s (p + k) a l
  | 0, p, h, _ => h
  | k + 1, p, h, hk => by
    obtain ⟨h1, h2, h3⟩ := hk 0 (by omega)
    rw [Nat.add_zero] at h1 h2 h3
    have := WordI.inB (k := k) (h.in1 h1 h2 h3) (fun j hj => by have := hk (j + 1) (by omega); rw [Nat.add_assoc, Nat.add_comm 1 j]; exact this)
    rw [show p + (k + 1) = p + 1 + k by omega]
    exact this
theorem WordI.gaps {s : ByteArray} : ∀ {k p : Nat} {l : List Tok}, WordI s p p l → (∀ j, j < k → byteE s (p + j) = 32 ∨ byteE s (p + j) = 9) → WordI s (p + k) (p + k) l
  | 0, p, l, h, _ => h
  | k + 1, p, l, h, hk => by
    have h1 := h.gapB (hk 0 (by omega))
    rw [putL, if_pos rfl] at h1
    have := WordI.gaps (k := k) h1 (fun j hj => by have := hk (j + 1) (by omega); rw [Nat.add_assoc, Nat.add_comm 1 j]; exact this)
    rw [show p + (k + 1) = p + 1 + k by omega]
    exact this
/-- A text whose words, so far, are these. -/
def Built (s : ByteArray) (T : List ByteArray) : Prop := okB true s.data.toList = true ∧ ∃ L : List Tok, WordI s s.size s.size L ∧ L.map Prod.fst = T
theorem Built.start : Built ⟨#[32]⟩ [] := ⟨by decide, [], ⟨by decide, by decide⟩, rfl⟩
def WordT (t : ByteArray) : Prop := (okB false t.data.toList = true ∧ 0 < t.size) ∨ t = ⟨#[61]⟩
def GapT (g : ByteArray) : Prop := 0 < g.size ∧ okB true g.data.toList = true ∧ ∀ j, j < g.size → byteE g j = 32 ∨ byteE g j = 9
theorem gap1 : GapT ⟨#[32]⟩ := ⟨by decide, by decide, fun j hj => by
  have : j = 0 := by have : (⟨#[32]⟩ : ByteArray).size = 1 := rfl; omega
  subst this; exact Or.inl (by decide)⟩
theorem gap2 : GapT ⟨#[32, 32]⟩ := ⟨by decide, by decide, fun j hj => by
  have h2 : (⟨#[32, 32]⟩ : ByteArray).size = 2 := rfl
  have : j = 0 ∨ j = 1 := by omega
  rcases this with rfl | rfl
  · exact Or.inl (by decide)
  · exact Or.inl (by decide)⟩
theorem gap3 : GapT ⟨#[9]⟩ := ⟨by decide, by decide, fun j hj => by
  have : j = 0 := by have : (⟨#[9]⟩ : ByteArray).size = 1 := rfl; omega
  subst this; exact Or.inr (by decide)⟩
theorem wordT_ok {t : ByteArray} (h : WordT t) : okB true t.data.toList = true := by
  rcases h with h | rfl
  · exact okB_weak _ _ (Nat.le_refl _) h.1
  · decide
theorem WordI.word {s t : ByteArray} {L : List Tok} (h : WordI s s.size s.size L) (ht : WordT t) : ∃ a l, WordI (s ++ t) (s ++ t).size a l ∧ (putL l (s ++ t) a (s ++ t).size).map Prod.fst = L.map Prod.fst ++ [t] := by
  have h0 := h.left t (Nat.le_refl _)
  have hs := app_size s t
  rcases ht with ⟨ht, hz⟩ | rfl
  · have hw := okB_bytes _ _ (Nat.le_refl _) ht
    have h1 := h0.inB (k := t.size) (fun j hj => by
      rw [byteE_right, byteE_list, List.getD_eq_getElem?_getD, List.getElem?_eq_getElem (by rw [len_list]; exact hj), Option.getD_some]
      exact hw j _)
    rw [← hs] at h1
    refine ⟨_, _, h1, ?_⟩
    rw [putL, if_neg (by omega), List.map_append]
    congr 1
    simp only [List.map_cons, List.map_nil]
    rw [hs, extract_right]
  · have h1 := h0.eqB (by have := byteE_right s ⟨#[61]⟩ 0; rw [Nat.add_zero] at this; rw [this]; decide)
    rw [show s.size + 1 = (s ++ ⟨#[61]⟩).size by rw [hs]; rfl] at h1
    refine ⟨_, _, h1, ?_⟩
    rw [putL, if_pos rfl, putL, if_pos rfl, List.map_append]
    rfl
theorem WordI.gapT {s g : ByteArray} {a : Nat} {l : List Tok} (h : WordI s s.size a l) (hg : GapT g) : WordI (s ++ g) (s ++ g).size (s ++ g).size (putL l s a s.size) := by
  have h0 := h.left g (Nat.le_refl _)
  have hs := app_size s g
  have e0 := byteE_right s g 0
  rw [Nat.add_zero] at e0
  have h1 := h0.gapB (by rw [e0]; exact hg.2.2 0 hg.1)
  have h2 := h1.gaps (k := g.size - 1) (fun j hj => by
    rw [show s.size + 1 + j = s.size + (1 + j) by omega, byteE_right]
    exact hg.2.2 _ (by omega))
  rw [show s.size + 1 + (g.size - 1) = (s ++ g).size by rw [hs]; have := hg.1; omega] at h2
  have e : putL l (s ++ g) a s.size = putL l s a s.size := by rw [putL, putL, extract_left s g a s.size (Nat.le_refl _)]
  rw [e] at h2
  exact h2
theorem Built.next {s t g : ByteArray} {T : List ByteArray} (h : Built s T) (ht : WordT t) (hg : GapT g) : Built (s ++ t ++ g) (T ++ [t]) := by
  obtain ⟨hk, L, hL, hT⟩ := h
  obtain ⟨a, l, h1, h2⟩ := hL.word ht
  refine ⟨?_, _, h1.gapT hg, by rw [h2, hT]⟩
  rw [app_list, app_list]
  exact okB_append true _ hg.2.1 _ _ (Nat.le_refl _) (okB_append true _ (wordT_ok ht) _ _ (Nat.le_refl _) hk)
theorem Built.words {s : ByteArray} {T : List ByteArray} (h : Built s T) : badW s = none ∧ (toksW s).map Prod.fst = T := by
  obtain ⟨hk, L, hL, hT⟩ := h
  refine ⟨okB_fine s _ 0 (Nat.zero_le _) hk, ?_⟩
  rw [← hL.last, putL, if_pos rfl, hT]
end Go.Proofs.YtipioeecgcljoaaDoor
