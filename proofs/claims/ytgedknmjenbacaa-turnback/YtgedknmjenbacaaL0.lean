/- Boxes with tensors in them, carried through a walk. -/
import Derived.Test.YtgedknmjenbacaaK8
import Derived.Test.YtgedknmjenbacaaR1
import Derived.Test.YtgedknmjenbacaaOpen
namespace Go.Proofs.Ytgedknmjenbacaa
set_option linter.unusedVariables false
set_option linter.unusedSimpArgs false
open Go.RowKit

/-- A box with a tensor in it. -/
structure TB (w : World) (B : Nat) (x y : Value) (t : Ten) : Prop where
  box : Box w B x y
  ten : Tens w x y t
def Live (w : World) : List (Nat × Value × Value × Ten) → Prop
  | [] => True
  | e :: L => TB w e.1 e.2.1 e.2.2.1 e.2.2.2 ∧ Live w L
theorem TB.later {w w' : World} {B : Nat} {x y : Value} {t : Ten} (hb : Below w.heap.size w w') (h : TB w B x y t) : TB w' B x y t := ⟨h.box.later hb, h.ten.later hb⟩
theorem Live.later {w w' : World} (hb : Below w.heap.size w w') : ∀ {L : List (Nat × Value × Value × Ten)}, Live w L → Live w' L
  | [], _ => trivial
  | _ :: _, h => ⟨h.1.later hb, Live.later hb h.2⟩
theorem Live.push {w : World} {L : List (Nat × Value × Value × Ten)} {x y : Value} {t : Ten} (h : Live w L) (ht : Tens w x y t) : Live (w.alloc (.cells #[x, y] 31)) ((w.heap.size, x, y, t) :: L) :=
  ⟨⟨Box.new w x y, ht.later ((Below.refl _ _).alloc (Nat.le_refl _) _)⟩, h.later ((Below.refl _ _).alloc (Nat.le_refl _) _)⟩
theorem Below.push {w0 w : World} (h : Below w0.heap.size w0 w) (o : Obj) : Below w0.heap.size w0 (w.alloc o) := h.alloc h.size o
theorem lit_tens (w : World) (ds xs : List Int) (n m : Nat) (hn : n = ds.length) (hm : m = xs.length) (hd : n ≤ big) (hx : m ≤ big) :
    Tens ((w.alloc (.cells (ia ds) 3)).alloc (.cells (ia xs) 3)) (.slice (some ⟨w.heap.size, 0, none⟩) n n) (.slice (some ⟨w.heap.size + 1, 0, none⟩) m m) (ds, xs) :=
  ⟨((Blk.new w ds).alloc _).ints n n hn (Nat.le_refl _) hd, (Blk.newer (w.alloc (.cells (ia ds) 3)) xs (w.heap.size + 1) (by simp)).ints m m hm (Nat.le_refl _) hx⟩
theorem eqn_bl {v v' : Value} {a b : List Int} {w : World} (ha : Ints w v a) (hb : Ints w v' b) (hx : a = b) :
    Calls Try.prog 24 #[v, v'] w fun e w' => e = .returned (.bool true) ∧ Below w.heap.size w w' := by
  refine (eqn_to true ha hb (by simp [hx])).mono ?_
  rintro e w' ⟨rfl, n, rfl⟩
  exact ⟨rfl, drew_below n⟩
theorem num_bl (x : Int) (w : World) : Calls Try.prog 11 #[.int .i64 x] w fun e w' => e = .returned (.int .i64 x) ∧ w = w' := num_any x w
theorem mulu_to {a0 a1 b0 b1 : Value} {s t : Ten} {w : World} (x : Int) (u : Ten) (ha : Tens w a0 a1 s) (hb' : Tens w b0 b1 t) (hx : fitE s t = x) (hu : eachR opM s t = u) :
    Calls Try.prog 43 #[.agg #[a0, a1], .agg #[b0, b1]] w fun e w' => ∃ x0 x1, e = .returned (.tuple #[.agg #[x0, x1], .int .i64 x]) ∧ OwnT w' w.heap.size x0 x1 u ∧ Below w.heap.size w w' := by
  subst hx hu
  exact mul_any ha hb'
end Go.Proofs.Ytgedknmjenbacaa
