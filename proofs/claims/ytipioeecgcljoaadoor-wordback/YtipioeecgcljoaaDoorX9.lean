/- What package word does, together; wakes. -/
import Derived.Test.YtipioeecgcljoaaDoorX8
import Derived.Test.YtipioeecgcljoaaDoorW12
import Derived.Laws.StructEq
namespace Go.Proofs.YtipioeecgcljoaaDoor
set_option linter.unusedVariables false
set_option linter.unusedSimpArgs false
set_option maxRecDepth 100000
open Go.RowKit

/-- What the laid variables hold: the runes' tables, the powers of ten, some number. -/
def Tabs3 (w : World) : Prop := Lib.Utf8Tabs 0 1 w ∧ PowT w ∧ ∃ m, w.cell? ⟨2, 0, none⟩ = some (.int .i64 m)
theorem powG : Tryd.prog.globalNamed "internal/strconv.uint64pow10" = some 3 := by kernel_rfl
theorem PowT.later {w w' : World} (h : PowT w) (hb : Below w.heap.size w w') : PowT w' := Joins.tab_stays powG h hb (Nat.le_refl _)
theorem Tabs3.later {w w' : World} (h : Tabs3 w) (hb : Below w.heap.size w w') : Tabs3 w' :=
  ⟨Utf8Tabs_below h.1 hb, h.2.1.later hb, let ⟨m, hm⟩ := h.2.2; ⟨m, cell_later hb hm⟩⟩
theorem words_all (s : ByteArray) (w : World) (hs : s.size ≤ 1000000) :
    Calls Tryd.prog 13 #[.string s] w fun e w' => (∃ v, e = .returned (.tuple #[v, .int .i64 (wAt s), .int .i64 (if wFine s then 0 else 5)]) ∧ Holds w' v (wTok s).length (cellsT (wTok s))) ∧ Below w.heap.size w w' :=
  words_to s w hs (badW s) rfl
theorem word_does : WordC Tabs3 where
  later := fun h hb => h.later hb
  utf := fun h => h.1
  name := fun s w hs hT => name_to s w (nameB s) rfl
  number := fun s w hs hT => number_to s w
  words := fun s w hs hT => words_all s w hs
  lines := fun s w hs hT => by
    obtain ⟨m, hm⟩ := hT.2.2
    refine (lines_to s m w hm).mono ?_
    rintro e w2 ⟨⟨v, rfl, hh⟩, hb⟩
    by_cases h : s.size ≤ 3000
    · have e1 : lFine s = true := by simp [lFine, h]
      rw [if_pos h] at hh ⊢
      exact ⟨⟨v, by rw [e1]; rfl, by rw [lTxt, e1]; exact hh⟩, hb⟩
    · have e1 : lFine s = false := by simp [lFine]; omega
      rw [if_neg h] at hh ⊢
      exact ⟨⟨v, by rw [e1]; rfl, by rw [lTxt, e1]; exact hh⟩, hb⟩
  digits := fun n w h0 h1 hT => digits_to n w hT.2.1
def aeb : ByteArray := ⟨#[97, 61, 98]⟩
theorem aeb_fine : wFine aeb = true := by decide +kernel
theorem aeb_tok : wTok aeb = [(⟨#[97]⟩, 0), (⟨#[61]⟩, 1), (⟨#[98]⟩, 2)] := by decide +kernel
set_option maxHeartbeats 4000000 in
theorem wakes_any (w : World) :
    Calls Tryd.prog 21 #[] w fun e w' => e = .returned (.bool true) ∧ Below w.heap.size w w' := by
  have HW : Hid (Calls Tryd.prog 13 #[.string ⟨#[97, 61, 98]⟩] w fun e w' => (∃ v, e = .returned (.tuple #[v, .int .i64 (wAt aeb), .int .i64 0]) ∧ Holds w' v 3 [.string ⟨#[97]⟩, .int .i64 0, .string ⟨#[61]⟩, .int .i64 1, .string ⟨#[98]⟩, .int .i64 2]) ∧ Below w.heap.size w w') := by
    refine (words_all aeb w (by decide)).mono ?_
    rintro e w' ⟨⟨v, he, hh⟩, hb⟩
    rw [if_pos aeb_fine] at he
    rw [aeb_tok] at hh
    exact ⟨⟨v, he, hh⟩, hb⟩
  go_enter Tryd.func21, Tryd.ntmps21
  go_wp2_with fail
  refine HW.out.mono ?_
  rintro e w1 ⟨⟨v, rfl, ⟨a, c, rfl, hc⟩⟩, hb⟩
  have HB : Hid (Below w.heap.size w w1) := hb
  obtain ⟨b, off, rfl, h2⟩ := hc 2 _ rfl
  obtain ⟨b', off', e5, h5⟩ := hc 5 _ rfl
  simp only [Option.some.injEq, Addr.mk.injEq, and_true] at e5
  obtain ⟨rfl, rfl⟩ := e5
  clear hc hb HW
  go_wp2_with (go_at_call 10; refine (num_to _ _).mono ?_; rintro e w2 ⟨rfl, rfl⟩)
  go_ret
  exact ⟨rfl, HB.out⟩
end Go.Proofs.YtipioeecgcljoaaDoor
