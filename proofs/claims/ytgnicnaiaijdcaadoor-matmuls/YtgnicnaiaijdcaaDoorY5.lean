/- Contract: mat's Power of any tensor and number. -/
import Derived.Test.YtgnicnaiaijdcaaDoorY4
namespace Go.Proofs.YtgnicnaiaijdcaaDoor
set_option linter.unusedVariables false
set_option linter.unusedSimpArgs false
open Go.RowKit

def poE (s : Ten) (n : Int) : Int := if tok s = true ∧ 0 ≤ n ∧ n ≤ 1073741824 then (if s.1.length = 2 ∧ s.1.getD 0 0 = s.1.getD 1 0 then 0 else 4) else 1
def poR (s : Ten) (n : Int) : Ten := if poE s n = 0 then (s.1, mpw (s.1.getD 0 0).toNat s.2 n.toNat) else ([], [])
theorem poE_ok {p n : Nat} {l : List Int} (hx : tok ([(p : Int), (p : Int)], l) = true) (hn : n ≤ 1073741824) : poE ([(p : Int), (p : Int)], l) n = 0 := by
  rw [poE, if_pos ⟨hx, by omega, by omega⟩]
  simp
theorem poR_ok {p n : Nat} {l : List Int} (hx : tok ([(p : Int), (p : Int)], l) = true) (hn : n ≤ 1073741824) : poR ([(p : Int), (p : Int)], l) n = ([(p : Int), (p : Int)], mpw p l n) := by
  rw [poR, poE_ok hx hn]
  simp
theorem pow_any {a0 a1 : Value} {s : Ten} {w : World} (n : Int) (hg : w.cell? ⟨2, 1, none⟩ = some (.int .u8 1)) (ha : Tens w a0 a1 s) :
    Calls Tryd.prog 17 #[.agg #[a0, a1], .int .i64 n] w fun e w' => ∃ x0 x1, e = .returned (.tuple #[.agg #[x0, x1], .int .i64 (poE s n)]) ∧ OwnT w' w.heap.size x0 x1 (poR s n) ∧ Below w.heap.size w w' := by
  have bad : ∀ c : Int, c ≠ 0 → poE s n = c → (Calls Tryd.prog 17 #[.agg #[a0, a1], .int .i64 n] w fun e w' => e = .returned (.tuple #[.agg #[.slice none 0 0, .slice none 0 0], .int .i64 c]) ∧ Below w.heap.size w w') →
      Calls Tryd.prog 17 #[.agg #[a0, a1], .int .i64 n] w fun e w' => ∃ x0 x1, e = .returned (.tuple #[.agg #[x0, x1], .int .i64 (poE s n)]) ∧ OwnT w' w.heap.size x0 x1 (poR s n) ∧ Below w.heap.size w w' := by
    intro c hc he h
    refine h.mono ?_
    rintro e w' ⟨rfl, hb⟩
    refine ⟨.slice none 0 0, .slice none 0 0, by rw [he], ?_, hb⟩
    rw [poR, he, if_neg hc]
    exact OwnT.nil _ _
  cases hx : tok s with
  | false => exact bad 1 (by decide) (by simp [poE, hx]) (pow_bad1 n ha hx)
  | true =>
    by_cases h0 : 0 ≤ n
    · by_cases h1 : n ≤ 1073741824
      · by_cases h2 : s.1.length = 2
        · obtain ⟨d, l⟩ := s
          obtain ⟨p, q, rfl⟩ := nat2 hx h2
          by_cases h3 : p = q
          · subst h3
            obtain ⟨m, rfl⟩ : ∃ m : Nat, n = m := ⟨n.toNat, by omega⟩
            rw [poE_ok hx (by omega), poR_ok hx (by omega)]
            exact pow_ok m (by omega) hg ha hx
          · refine bad 4 (by decide) ?_ (pow_four2 n ha hx h0 h1 p q rfl h3)
            rw [poE, if_pos ⟨hx, h0, h1⟩, if_neg]
            simp
            omega
        · refine bad 4 (by decide) ?_ (pow_four1 n ha hx h0 h1 h2)
          rw [poE, if_pos ⟨hx, h0, h1⟩, if_neg]
          simp [h2]
      · refine bad 1 (by decide) ?_ (pow_bad3 n ha hx (by omega))
        rw [poE, if_neg]
        omega
    · refine bad 1 (by decide) ?_ (pow_bad2 n ha hx (by omega))
      rw [poE, if_neg]
      omega
theorem pow_to {a0 a1 : Value} {s : Ten} {w : World} (n x : Int) (u : Ten) (hg : w.cell? ⟨2, 1, none⟩ = some (.int .u8 1)) (ha : Tens w a0 a1 s) (hx : poE s n = x) (hu : poR s n = u) :
    Calls Tryd.prog 17 #[.agg #[a0, a1], .int .i64 n] w fun e w' => ∃ x0 x1, e = .returned (.tuple #[.agg #[x0, x1], .int .i64 x]) ∧ OwnT w' w.heap.size x0 x1 u ∧ Below w.heap.size w w' := by
  subst hx hu
  exact pow_any n hg ha
end Go.Proofs.YtgnicnaiaijdcaaDoor
