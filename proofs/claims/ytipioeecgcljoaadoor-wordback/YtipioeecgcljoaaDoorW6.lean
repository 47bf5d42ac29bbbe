/- A text's lines: data; contract: the page's Lines. -/
import Derived.Test.YtipioeecgcljoaaDoorW3
namespace Go.Proofs.YtipioeecgcljoaaDoor
set_option linter.unusedVariables false
set_option linter.unusedSimpArgs false
set_option maxRecDepth 100000
open Go.RowKit

theorem tw_yes {α : Type} (p : α → Bool) : ∀ (l : List α) (m : Nat) (h : m < l.length), m ≤ (l.takeWhile p).length → p l[m] = true → m + 1 ≤ (l.takeWhile p).length
  | a :: r, 0, _, _, h2 => by
    have : p a = true := h2
    simp [List.takeWhile_cons, this]
  | a :: r, m + 1, h, h1, h2 => by
    by_cases e : p a = true
    · rw [List.takeWhile_cons, if_pos e, List.length_cons] at h1 ⊢
      have := tw_yes p r m (by simpa using h) (by omega) (by simpa using h2)
      omega
    · rw [List.takeWhile_cons, if_neg e] at h1
      simp at h1
theorem tw_no {α : Type} (p : α → Bool) : ∀ (l : List α) (m : Nat) (h : m < l.length), m ≤ (l.takeWhile p).length → ¬ p l[m] = true → (l.takeWhile p).length = m
  | a :: r, 0, _, _, h2 => by
    have : ¬ p a = true := h2
    simp [List.takeWhile_cons, this]
  | a :: r, m + 1, h, h1, h2 => by
    by_cases e : p a = true
    · rw [List.takeWhile_cons, if_pos e, List.length_cons] at h1 ⊢
      have := tw_no p r m (by simpa using h) (by omega) (by simpa using h2)
      omega
    · rw [List.takeWhile_cons, if_neg e] at h1
      simp at h1
theorem tw_le {α : Type} (p : α → Bool) (l : List α) : (l.takeWhile p).length ≤ l.length := (List.takeWhile_sublist p).length_le
/-- Where a line's # is, or its end. -/
def cutN (x : ByteArray) : Nat := (x.data.toList.takeWhile (fun c => decide (c.toNat ≠ 35))).length
def cutH (x : ByteArray) : ByteArray := x.extract 0 (cutN x)
theorem cutN_le (x : ByteArray) : cutN x ≤ x.size := by
  have := tw_le (fun c : UInt8 => decide (c.toNat ≠ 35)) x.data.toList
  rw [len_list] at this
  exact this
theorem cutH_size (x : ByteArray) : (cutH x).size = cutN x := by
  have := cutN_le x
  rw [cutH, ByteArray.size_extract]; omega
theorem cutN_hit {x : ByteArray} {m : Nat} (h : m < x.size) (h1 : m ≤ cutN x) (h2 : (x[m]'h).toNat = 35) : cutN x = m :=
  tw_no _ _ m (by rw [len_list]; exact h) h1 (by rw [get_list x m h]; simp [h2])
theorem cutN_not {x : ByteArray} {m : Nat} (h : m < x.size) (h1 : m ≤ cutN x) (h2 : ¬ (x[m]'h).toNat = 35) : m + 1 ≤ cutN x :=
  tw_yes _ _ m (by rw [len_list]; exact h) h1 (by rw [get_list x m h]; simp [h2])
theorem cutH_all {x : ByteArray} (h : x.size ≤ cutN x) : cutH x = x := by
  have h2 : cutN x = x.size := by have := cutN_le x; omega
  rw [cutH, h2]; simp
/-- Where the loop that looks for # stands. -/
def CutI (x0 y : ByteArray) (m : Nat) : Prop := (y = x0 ∧ m ≤ x0.size ∧ m ≤ cutN x0) ∨ (y = cutH x0 ∧ m = y.size + 1)
def linStep (s : ByteArray) (k : Nat) (st : Nat × List ByteArray) : Nat × List ByteArray :=
  if k < s.size ∧ byteE s k ≠ 10 then st
  else if k = s.size ∧ (cutH (s.extract st.1 k)).size = 0 then st
  else (k + 1, st.2 ++ [cutH (s.extract st.1 k)])
def linSt (s : ByteArray) : Nat → Nat × List ByteArray
  | 0 => (0, [])
  | k + 1 => linStep s k (linSt s k)
/-- A text's lines. -/
def linesL (s : ByteArray) : List ByteArray := (linSt s (s.size + 1)).2
theorem linSt_le (s : ByteArray) : ∀ k, (linSt s k).1 ≤ k
  | 0 => by simp [linSt]
  | k + 1 => by
    have ih := linSt_le s k
    rw [linSt, linStep]
    split
    · omega
    · split
      · omega
      · simp
theorem linSt_len (s : ByteArray) : ∀ k, (linSt s k).2.length ≤ k
  | 0 => by simp [linSt]
  | k + 1 => by
    have ih := linSt_len s k
    rw [linSt, linStep]
    split
    · omega
    · split
      · omega
      · simp; omega
def cellsS (l : List ByteArray) : List Value := l.map .string
theorem cellsS_snoc (l : List ByteArray) (t : ByteArray) : cellsS (l ++ [t]) = cellsS l ++ [.string t] := by simp [cellsS]
theorem cellsS_len (l : List ByteArray) : (cellsS l).length = l.length := by simp [cellsS]
theorem cellsS_at (l : List ByteArray) (i : Nat) (h : i < l.length) : (cellsS l)[i]? = some (.string l[i]) := by simp [cellsS, h]
end Go.Proofs.YtipioeecgcljoaaDoor
