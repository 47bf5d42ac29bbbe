/- What the laws of stage 3 read; contracts with the answer named. -/
import Derived.Test.YtgedknmjenbacaaN0
import Derived.Test.YtgedknmjenbacaaQ2
import Derived.Test.YtgedknmjenbacaaQ3
namespace Go.Proofs.Ytgedknmjenbacaa
set_option linter.unusedVariables false
set_option linter.unusedSimpArgs false
open Go.RowKit

structure EnvA (B : Nat) (f0 f1 f2 : Value) (T : List Ten) (D : List (List Int)) (w : World) : Prop where
  b0 : w.cell? ⟨B, 0, none⟩ = some f0
  b1 : w.cell? ⟨B, 1, none⟩ = some f1
  b2 : w.cell? ⟨B, 2, none⟩ = some f2
  hT : TensL w f0 T
  hD : IntsL w f2 D
theorem EnvA.later {B : Nat} {f0 f1 f2 : Value} {T : List Ten} {D : List (List Int)} {w w' : World} (h : EnvA B f0 f1 f2 T D w) (hb : Below w.heap.size w w') : EnvA B f0 f1 f2 T D w' :=
  ⟨cell_later hb h.b0, cell_later hb h.b1, cell_later hb h.b2, h.hT.later hb, h.hD.later hb⟩
theorem IntsL.row {w : World} {a : Option Addr} {n c : Nat} {L : List (List Int)} (h : IntsL w (.slice a n c) L) (i : Nat) (hi : i < L.length) :
    ∃ b off xa xn xc, a = some ⟨b, off, none⟩ ∧ w.cell? ⟨b, off + i, none⟩ = some (.slice xa xn xc) ∧ Hid (Ints w (.slice xa xn xc) L[i]) := by
  obtain ⟨_, a', c', e, _, hrow⟩ := h
  simp only [Value.slice.injEq] at e
  obtain ⟨rfl, rfl, rfl⟩ := e
  obtain ⟨b, off, x, ha, hc, hx⟩ := hrow i hi
  obtain ⟨xa, xn, xc, rfl⟩ := hx.shape3
  exact ⟨b, off, xa, xn, xc, ha, hc, hx⟩
theorem IntsL.len {w : World} {a : Option Addr} {n c : Nat} {L : List (List Int)} (h : IntsL w (.slice a n c) L) : n = L.length ∧ n ≤ c := by
  obtain ⟨_, a', c', e, hc, _⟩ := h
  simp only [Value.slice.injEq] at e
  obtain ⟨rfl, rfl, rfl⟩ := e
  exact ⟨rfl, hc⟩
theorem IntsL.shape {w : World} {v : Value} {L : List (List Int)} (h : IntsL w v L) : ∃ a n c, v = .slice a n c := by
  obtain ⟨_, a', c', e, hc, _⟩ := h
  exact ⟨_, _, _, e⟩
theorem wide_to {a0 a1 v : Value} {s : Ten} {d : List Int} {w : World} (x : Int) (u : Ten) (ha : Tens w a0 a1 s) (hd : Ints w v d) (hx : wiE s d = x) (hu : wiR s d = u) :
    Calls Try.prog 17 #[.agg #[a0, a1], v] w fun e w' => ∃ x0 x1, e = .returned (.tuple #[.agg #[x0, x1], .int .i64 x]) ∧ OwnT w' w.heap.size x0 x1 u ∧ Below w.heap.size w w' := by
  subst hx hu
  exact wide_any ha hd
theorem shape_to {a0 a1 v : Value} {s : Ten} {d : List Int} {w : World} (x : Int) (u : Ten) (ha : Tens w a0 a1 s) (hd : Ints w v d) (hx : shE s d = x) (hu : shR s d = u) :
    Calls Try.prog 16 #[.agg #[a0, a1], v] w fun e w' => ∃ x0 x1, e = .returned (.tuple #[.agg #[x0, x1], .int .i64 x]) ∧ OwnT w' w.heap.size x0 x1 u ∧ Below w.heap.size w w' := by
  subst hx hu
  exact shape_any ha hd
theorem turn_to {a0 a1 : Value} {s : Ten} {w : World} (x : Int) (u : Ten) (ha : Tens w a0 a1 s) (hx : trE s = x) (hu : trR s = u) :
    Calls Try.prog 9 #[.agg #[a0, a1]] w fun e w' => ∃ x0 x1, e = .returned (.tuple #[.agg #[x0, x1], .int .i64 x]) ∧ OwnT w' w.heap.size x0 x1 u ∧ Below w.heap.size w w' := by
  subst hx hu
  exact turn_any ha
end Go.Proofs.Ytgedknmjenbacaa
