/- A text's lines as package word makes them: plain data. -/
import Derived.Test.YtipioeecgcljoaaDoorX6
import Derived.Lib.SplitLaws
namespace Go.Proofs.YtipioeecgcljoaaDoor
set_option linter.unusedVariables false
set_option linter.unusedSimpArgs false
set_option maxRecDepth 100000
open Go.RowKit

theorem index_one (c : UInt8) : ∀ l : List UInt8, (Lib.index l [c] = -1 ∧ ∀ j (h : j < l.length), l[j] ≠ c) ∨ (∃ i : Nat, Lib.index l [c] = (i : Int) ∧ ∃ h : i < l.length, l[i] = c ∧ ∀ j (hj : j < i), l[j]'(by omega) ≠ c)
  | [] => Or.inl ⟨rfl, fun j h => by simp at h⟩
  | b :: l => by
    by_cases hb : b = c
    · refine Or.inr ⟨0, ?_, by simp, by simpa using hb, fun j hj => by omega⟩
      rw [Lib.index, if_pos (by simp [hb])]
      rfl
    · have hp : ¬ ([c].isPrefixOf (b :: l) = true) := by
        have : ¬ c = b := fun e => hb e.symm
        simp [this]
      rcases index_one c l with ⟨h1, h2⟩ | ⟨i, h1, h2, h3, h4⟩
      · refine Or.inl ⟨?_, fun j h => ?_⟩
        · rw [Lib.index, if_neg hp, if_pos (by rw [h1]; rfl), ]
        · cases j with
          | zero => exact hb
          | succ j => exact h2 j (by simpa using h)
      · refine Or.inr ⟨i + 1, ?_, by simpa using h2, by simpa using h3, fun j hj => ?_⟩
        · rw [Lib.index, if_neg hp, if_neg (by rw [h1, beq_iff_eq]; omega), h1]
          rfl
        · cases j with
          | zero => exact hb
          | succ j => exact h4 j (by omega)
theorem cut_hash (x : ByteArray) : (⟨(Lib.cut x.data.toList [35]).1.toArray⟩ : ByteArray) = cutH x := by
  have e : (Lib.cut x.data.toList [35]).1 = x.data.toList.take (cutN x) := by
    rcases index_one 35 x.data.toList with ⟨h1, h2⟩ | ⟨i, h1, h2, h3, h4⟩
    · rw [Lib.cut, if_neg (by rw [h1]; decide)]
      have : cutN x = x.data.toList.length := by
        have key : ∀ m, m ≤ x.data.toList.length → m ≤ cutN x := by
          intro m
          induction m with
          | zero => intro _; omega
          | succ m ih =>
            intro hm
            exact tw_yes _ _ m (by omega) (ih (by omega)) (by
              have := h2 m (by omega)
              rw [decide_eq_true_eq]
              intro e
              exact this (UInt8.toNat_inj.1 e))
        have h5 := key _ (Nat.le_refl _)
        have h6 := cutN_le x
        rw [len_list] at h5 ⊢
        omega
      rw [this, List.take_length]
    · rw [Lib.cut, if_pos (by rw [h1]; omega), h1]
      have : cutN x = i := by
        have key : ∀ m, m ≤ i → m ≤ cutN x := by
          intro m
          induction m with
          | zero => intro _; omega
          | succ m ih =>
            intro hm
            exact tw_yes _ _ m (by omega) (ih (by omega)) (by
              have := h4 m (by omega)
              rw [decide_eq_true_eq]
              intro e
              exact this (UInt8.toNat_inj.1 e))
        exact tw_no _ _ i h2 (key i (Nat.le_refl _)) (by rw [h3]; decide)
      rw [this]
      rfl
  apply ByteArray.ext
  apply Array.toList_inj.1
  rw [cutH, Lib.extract_from_zero]
  exact e
/-- A list without its last element, if that is empty. -/
def finL : List ByteArray → List ByteArray
  | [] => []
  | [x] => if x.size = 0 then [] else [x]
  | x :: y :: r => x :: finL (y :: r)
theorem finL_cons (x : ByteArray) (l : List ByteArray) (h : l ≠ []) : finL (x :: l) = x :: finL l := by
  cases l with
  | nil => exact absurd rfl h
  | cons y r => rfl
theorem finL_snoc (x : ByteArray) : ∀ l : List ByteArray, finL (l ++ [x]) = if x.size = 0 then l else l ++ [x]
  | [] => rfl
  | a :: l => by
    rw [List.cons_append, finL_cons _ _ (by simp), finL_snoc x l]
    split <;> rfl
def nl : ByteArray := ⟨#[10]⟩
theorem linSt_run (s : ByteArray) (a : Nat) (acc : List ByteArray) : ∀ d : Nat, a + d ≤ s.size → (∀ j, j < d → byteE s (a + j) ≠ 10) → linSt s a = (a, acc) → linSt s (a + d) = (a, acc)
  | 0, _, _, h => h
  | d + 1, hd, hn, h => by
    have ih := linSt_run s a acc d (by omega) (fun j hj => hn j (by omega)) h
    rw [← Nat.add_assoc, linSt, ih, linStep, if_pos ⟨by omega, hn d (by omega)⟩]
theorem rest_byte (s : ByteArray) (a j : Nat) (h : a + j < s.size) (h2 : j < (s.extract a s.size).data.toList.length) : ((s.extract a s.size).data.toList[j]).toNat = byteE s (a + j) := by
  have h3 : j < (s.extract a s.size).size := by rw [rest_size]; omega
  rw [get_list _ j h3, byteE_lt h]
  rw [ByteArray.getElem_extract]
theorem no_nl {s : ByteArray} {a : Nat} (h : ∀ j (h : j < (s.extract a s.size).data.toList.length), (s.extract a s.size).data.toList[j] ≠ 10) (j : Nat) (hj : a + j < s.size) : byteE s (a + j) ≠ 10 := by
  have hl : j < (s.extract a s.size).data.toList.length := by rw [len_list, rest_size]; omega
  rw [← rest_byte s a j hj hl]
  intro e
  exact h j hl (UInt8.toNat_inj.1 e)
theorem lines_from (s : ByteArray) : ∀ (k a : Nat) (acc : List ByteArray), a ≤ s.size → Lib.countB (s.extract a s.size) nl = k → linSt s a = (a, acc) →
    (linSt s (s.size + 1)).2 = acc ++ finL ((Lib.splitB nl 0 k (s.extract a s.size)).map cutH) := by
  intro k
  induction k with
  | zero =>
    intro a acc ha hc hl
    rcases index_one 10 (s.extract a s.size).data.toList with ⟨h1, h2⟩ | ⟨i, h1, h2, h3, h4⟩
    · have hr := linSt_run s a acc (s.size - a) (by omega) (fun j hj => no_nl h2 j (by omega)) hl
      rw [show a + (s.size - a) = s.size by omega] at hr
      rw [linSt, hr, linStep, if_neg (by omega), Lib.splitB_zero]
      show (if s.size = s.size ∧ (cutH (s.extract a s.size)).size = 0 then (a, acc) else _).2 = acc ++ (if (cutH (s.extract a s.size)).size = 0 then [] else [cutH (s.extract a s.size)])
      by_cases hz : (cutH (s.extract a s.size)).size = 0
      · rw [if_pos ⟨rfl, hz⟩, if_pos hz, List.append_nil]
      · rw [if_neg (fun h => hz h.2), if_neg hz]
    · have := Lib.countB_hit (s.extract a s.size) nl i (by decide) h1
      omega
  | succ k ih =>
    intro a acc ha hc hl
    rcases index_one 10 (s.extract a s.size).data.toList with ⟨h1, h2⟩ | ⟨i, h1, h2, h3, h4⟩
    · have := Lib.countB_miss (s.extract a s.size) nl h1
      omega
    · have hi : a + i < s.size := by rw [len_list, rest_size] at h2; omega
      have hb : byteE s (a + i) = 10 := by
        rw [← rest_byte s a i hi h2, h3]
        rfl
      have hr := linSt_run s a acc i (by omega) (fun j hj => by
        have hl2 : j < (s.extract a s.size).data.toList.length := by omega
        rw [← rest_byte s a j (by omega) hl2]
        intro e
        exact h4 j hj (UInt8.toNat_inj.1 e)) hl
      have hn : linSt s (a + i + 1) = (a + i + 1, acc ++ [cutH (s.extract a (a + i))]) := by
        rw [linSt, hr, linStep, if_neg (fun h => h.2 hb), if_neg (fun h => by have := h.1; omega)]
      have hx := Lib.countB_hit (s.extract a s.size) nl i (by decide) h1
      have hs := Lib.splitB_hit nl 0 k (s.extract a s.size) i h1
      have e1 : (s.extract a s.size).extract (i + nl.size) (s.extract a s.size).size = s.extract (a + i + 1) s.size := by
        rw [rest_rest]
        rfl
      have e2 : (s.extract a s.size).extract 0 (i + 0) = s.extract a (a + i) := by
        apply ByteArray.ext
        simp only [ByteArray.data_extract, Array.extract_extract]
        congr 1
        all_goals (have : s.data.size = s.size := rfl; omega)
      rw [e1] at hx hs
      rw [e2] at hs
      have := ih (a + i + 1) (acc ++ [cutH (s.extract a (a + i))]) (by omega) (by omega) hn
      rw [this, hs, List.map_cons, finL_cons, List.append_assoc]
      · rfl
      · intro e
        have h5 := congrArg List.length e
        have h6 := Lib.splitB_all nl (by decide) 0 k (s.extract (a + i + 1) s.size) (by omega)
        rw [List.length_map, h6] at h5
        simp at h5
/-- The lines, by the library's split. -/
theorem linesL_split (s : ByteArray) : linesL s = finL ((Lib.splitB nl 0 (Lib.countB s nl) s).map cutH) := by
  have h := lines_from s (Lib.countB s nl) 0 [] (Nat.zero_le _) (by rw [rest_all]) rfl
  rw [rest_all] at h
  rw [linesL, h, List.nil_append]
end Go.Proofs.YtipioeecgcljoaaDoor
