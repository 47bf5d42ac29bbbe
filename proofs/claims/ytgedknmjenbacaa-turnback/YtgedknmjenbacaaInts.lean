/- A slice of integers in memory, read as a list. -/
import Derived.Test.YtgedknmjenbacaaRows
import Derived.Test.YtgedknmjenbacaaPure
import Derived.WalkKit
import Derived.WalkSpells
import Derived.WalkLawsBesides
import Derived.WalkMore
import Derived.ScopeJumps
import Derived.LoopN
import Derived.Deep.QuietTactic
import Derived.BigQuiet
import Derived.Lib.OthersKept
namespace Go.Proofs.Ytgedknmjenbacaa
set_option linter.unusedVariables false
open Go.RowKit

def Ints (w : World) (v : Value) (d : List Int) : Prop :=
  (v = .slice none 0 0 ∧ d = []) ∨ ∃ (a : Addr) (c : Nat), v = .slice (some a) d.length c ∧ d.length ≤ c ∧ d.length ≤ big ∧
    ∀ i (h : i < d.length), ∃ b off, a = ⟨b, off, none⟩ ∧ w.cell? ⟨b, off + i, none⟩ = some (.int .i64 d[i])

theorem Ints.cases {w : World} {v : Value} {d : List Int} (h : Ints w v d) :
    (d = [] ∧ ∃ a c, v = .slice a 0 c) ∨ ∃ b off c, v = .slice (some ⟨b, off, none⟩) d.length c ∧ 0 < d.length ∧ d.length ≤ c ∧ d.length ≤ big ∧
      Hid (∀ i (h : i < d.length), w.cell? ⟨b, off + i, none⟩ = some (.int .i64 d[i])) := by
  rcases h with ⟨rfl, rfl⟩ | ⟨a, c, rfl, h1, h2, h3⟩
  · exact Or.inl ⟨rfl, _, _, rfl⟩
  · by_cases h0 : 0 < d.length
    · obtain ⟨b, off, rfl, _⟩ := h3 0 h0
      refine Or.inr ⟨b, off, c, rfl, h0, h1, h2, ?_⟩
      intro i hi
      obtain ⟨b', off', e, hc⟩ := h3 i hi
      cases e
      exact hc
    · have : d = [] := List.eq_nil_of_length_eq_zero (by omega)
      subst this
      exact Or.inl ⟨rfl, _, _, rfl⟩

theorem Ints.mk {w : World} {d : List Int} {b off c n : Nat} (hn : n = d.length) (h1 : d.length ≤ c) (h2 : d.length ≤ big) (h : ∀ i (h : i < d.length), w.cell? ⟨b, off + i, none⟩ = some (.int .i64 d[i])) :
    Ints w (.slice (some ⟨b, off, none⟩) n c) d := by
  subst hn
  exact Or.inr ⟨_, c, rfl, h1, h2, fun i hi => ⟨b, off, rfl, h i hi⟩⟩

theorem Ints.nil (w : World) : Ints w (.slice none 0 0) [] := Or.inl ⟨rfl, rfl⟩

theorem Ints.later {w w' : World} {v : Value} {d : List Int} (hb : Below w.heap.size w w') (h : Ints w v d) : Ints w' v d := by
  rcases h with ⟨rfl, rfl⟩ | ⟨a, c, rfl, h1, h2, h3⟩
  · exact Ints.nil _
  · refine Or.inr ⟨a, c, rfl, h1, h2, fun i hi => ?_⟩
    obtain ⟨b, off, e, hc⟩ := h3 i hi
    exact ⟨b, off, e, cell_later hb hc⟩

theorem Ints.shape {w : World} {v : Value} {d : List Int} (h : Ints w v d) : ∃ a c, v = .slice a d.length c := by
  rcases h.cases with ⟨rfl, a1, c1, rfl⟩ | ⟨b1, o1, c1, rfl, _⟩
  · exact ⟨_, _, rfl⟩
  · exact ⟨_, _, rfl⟩
theorem Ints.len {w : World} {v : Value} {d : List Int} (h : Ints w v d) : d.length ≤ big := by
  rcases h.cases with ⟨rfl, a1, c1, rfl⟩ | ⟨b1, o1, c1, rfl, _, h1, h2, _⟩
  · exact Nat.zero_le _
  · omega

theorem Ints.drewN {w : World} {v : Value} {d : List Int} (h : Ints w v d) (n : Nat) : Ints (w.drewN n) v d :=
  h.later ((Below.refl _ w).trans ⟨rfl, rfl, rfl, Nat.le_refl _, fun _ _ => rfl⟩)

theorem Below.after {w w1 w2 : World} (h1 : Below w.heap.size w w1) (h2 : Below w1.heap.size w1 w2) : Below w.heap.size w w2 :=
  h1.trans (h2.mono h1.size)
theorem Below.drewN {w w' : World} {B : Nat} (h : Below B w w') (n : Nat) : Below B w (w'.drewN n) :=
  h.trans ⟨rfl, rfl, rfl, Nat.le_refl _, fun _ _ => rfl⟩
/-- The value lies in blocks from B on. -/
def From (B : Nat) (v : Value) : Prop := ∀ k, v.ownBlock = some k → B ≤ k
theorem Ints.setCell {w : World} {v : Value} {d : List Int} (h : Ints w v d) (p : Addr) (u : Value) (hp : ∀ k, v.ownBlock = some k → k ≠ p.block) : Ints (w.setCell p u) v d := by
  rcases h with ⟨rfl, rfl⟩ | ⟨a, c, rfl, h1, h2, h3⟩
  · exact Ints.nil _
  · refine Or.inr ⟨a, c, rfl, h1, h2, fun i hi => ?_⟩
    obtain ⟨b, off, rfl, hc⟩ := h3 i hi
    refine ⟨b, off, rfl, ?_⟩
    rw [World.cell?_of_block (w := w)]
    · exact hc
    · exact Below.heap_setCell _ _ _ _ (hp b rfl)
theorem quiet_eq {P : Program} {f : FuncId} {args : Array Value} {w : World} {n : Nat} {v : Value}
    (h : Calls P f args (w.drewN n) fun e w' => e = .returned v ∧ w.drewN n = w') : Calls P f args (w.drewN n) fun e w'' => e = .returned v ∧ ∃ m, w'' = w.drewN m :=
  h.mono fun _ _ ⟨he, hm⟩ => ⟨he, n, hm.symm⟩
end Go.Proofs.Ytgedknmjenbacaa
