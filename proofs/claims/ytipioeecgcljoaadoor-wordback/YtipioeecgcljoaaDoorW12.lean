/- What the four laws ask of package word; the page's Words and Lines, in one form each. -/
import Derived.Test.YtipioeecgcljoaaDoorW5
import Derived.Test.YtipioeecgcljoaaDoorW7
import Derived.Test.YtipioeecgcljoaaDoorW9
import Derived.Test.YtipioeecgcljoaaDoorW10
namespace Go.Proofs.YtipioeecgcljoaaDoor
set_option linter.unusedVariables false
set_option linter.unusedSimpArgs false
set_option maxRecDepth 100000
open Go.RowKit

/-- A line's answer: place, fine, words. -/
def wAt (s : ByteArray) : Nat := (badW s).getD 0
def wFine (s : ByteArray) : Bool := (badW s).isNone
def wTok (s : ByteArray) : List Tok := if wFine s then toksW s else []
def lFine (s : ByteArray) : Bool := decide (s.size ≤ 3000)
def lTxt (s : ByteArray) : List ByteArray := if lFine s then linesL s else []
/-- What package word does, as the laws need it. -/
structure WordC (Tb : World → Prop) : Prop where
  later : ∀ {w w' : World}, Tb w → Below w.heap.size w w' → Tb w'
  utf : ∀ {w : World}, Tb w → Lib.Utf8Tabs 0 1 w
  name : ∀ (s : ByteArray) (w : World), s.size ≤ 1000000 → Tb w → Calls Tryd.prog 11 #[.string s] w fun e w' => e = .returned (.int .i64 (if nameB s then 0 else 1)) ∧ Below w.heap.size w w'
  number : ∀ (s : ByteArray) (w : World), s.size ≤ 1000000 → Tb w → Calls Tryd.prog 8 #[.string s] w fun e w' => e = .returned (.tuple #[.int .i64 (numV s.data.toList), .int .i64 (if numK s.data.toList then 0 else 1)]) ∧ Below w.heap.size w w'
  words : ∀ (s : ByteArray) (w : World), s.size ≤ 1000000 → Tb w → Calls Tryd.prog 13 #[.string s] w fun e w' => (∃ v, e = .returned (.tuple #[v, .int .i64 (wAt s), .int .i64 (if wFine s then 0 else 5)]) ∧ Holds w' v (wTok s).length (cellsT (wTok s))) ∧ Below w.heap.size w w'
  lines : ∀ (s : ByteArray) (w : World), s.size ≤ 1000000 → Tb w → Calls Tryd.prog 16 #[.string s] w fun e w' => (∃ v, e = .returned (.tuple #[v, .int .i64 (if lFine s then 0 else 2)]) ∧ Holds w' v (lTxt s).length (cellsS (lTxt s))) ∧ Below w.heap.size w w'
  digits : ∀ (n : Int) (w : World), -9223372036854775808 ≤ n → n ≤ 9223372036854775807 → Tb w → Calls Tryd.prog 19 #[.int .i64 n] w fun e w' => (∃ t : ByteArray, e = .returned (.tuple #[.string t, .int .i64 (if -1073741824 ≤ n ∧ n ≤ 1073741824 then 0 else 1)]) ∧
    (if -1073741824 ≤ n ∧ n ≤ 1073741824 then numK t.data.toList = true ∧ numV t.data.toList = n else t = ⟨#[]⟩)) ∧ Below w.heap.size w w'
theorem rwords_to (s : ByteArray) (w : World) (hs : s.size ≤ 1000000) (hT : Lib.Utf8Tabs 0 1 w) :
    Calls Tryd.prog 14 #[.string s] w fun e w' => (∃ v, e = .returned (.tuple #[v, .int .i64 (wAt s), .bool (wFine s)]) ∧ Holds w' v (wTok s).length (cellsT (wTok s))) ∧ Below w.heap.size w w' := by
  cases hb : badW s with
  | none =>
    refine (rwords_ok s w hs hT hb).mono ?_
    rintro e w' ⟨v, rfl, hh, hbl⟩
    refine ⟨⟨v, ?_, ?_⟩, hbl⟩
    · rw [wAt, wFine, hb]; rfl
    · rw [wTok, wFine, hb]; exact hh
  | some q =>
    refine (rwords_bad s w hs hT q hb).mono ?_
    rintro e w' ⟨rfl, hbl⟩
    refine ⟨⟨.slice none 0 0, ?_, ?_⟩, hbl⟩
    · rw [wAt, wFine, hb]; rfl
    · rw [wTok, wFine, hb]; exact Holds.nil _
theorem rlines_to (s : ByteArray) (w : World) :
    Calls Tryd.prog 17 #[.string s] w fun e w' => (∃ v, e = .returned (.tuple #[v, .bool (lFine s)]) ∧ Holds w' v (lTxt s).length (cellsS (lTxt s))) ∧ Below w.heap.size w w' := by
  by_cases h : s.size ≤ 3000
  · refine (rlines_ok s w h).mono ?_
    rintro e w' ⟨v, rfl, hh, hbl⟩
    have e1 : lFine s = true := by simp [lFine, h]
    exact ⟨⟨v, by rw [e1], by rw [lTxt, e1]; exact hh⟩, hbl⟩
  · refine (rlines_long s w (by omega)).mono ?_
    rintro e w' ⟨rfl, rfl⟩
    have e1 : lFine s = false := by simp [lFine]; omega
    exact ⟨⟨.slice none 0 0, by rw [e1], by rw [lTxt, e1]; exact Holds.nil _⟩, Below.refl _ _⟩
theorem toksW_len (s : ByteArray) : (wTok s).length ≤ 2 * s.size + 2 := by
  rw [wTok]
  split
  · have := tokSt_len s (s.size + 1); rw [toksW]; omega
  · simp
theorem lTxt_len (s : ByteArray) : (lTxt s).length ≤ s.size + 1 := by
  rw [lTxt]
  split
  · exact linSt_len s (s.size + 1)
  · simp
end Go.Proofs.YtipioeecgcljoaaDoor
