/- Nodes: what a list of them holds; as functions of plain data. -/
import Derived.Test.YtjfkhfahpjdidaaC27
namespace Go.Proofs.Ytjfkhfahpjdidaa
set_option linter.unusedVariables false
set_option linter.unusedSimpArgs false
set_option maxRecDepth 100000
open Go.RowKit

/-- A node. -/
structure Nod where
  name : ByteArray
  kind : Int
  args : List Int
  dims : List Int
  n : Int
/-- A node's five cells. -/
structure NodeAt (w : World) (b o : Nat) (x y : Value) (t : Nod) : Prop where
  c0 : w.cell? ⟨b, o, none⟩ = some (.string t.name)
  c1 : w.cell? ⟨b, o + 1, none⟩ = some (.int .i64 t.kind)
  c2 : w.cell? ⟨b, o + 2, none⟩ = some x
  c3 : w.cell? ⟨b, o + 3, none⟩ = some y
  c4 : w.cell? ⟨b, o + 4, none⟩ = some (.int .i64 t.n)
  a : Ints w x t.args
  d : Ints w y t.dims
  z : t.name.size ≤ 140737488355327
theorem NodeAt.later {w w' : World} {b o : Nat} {x y : Value} {t : Nod} (h : NodeAt w b o x y t) (hb : Below w.heap.size w w') : NodeAt w' b o x y t :=
  ⟨cell_later hb h.c0, cell_later hb h.c1, cell_later hb h.c2, cell_later hb h.c3, cell_later hb h.c4, h.a.later hb, h.d.later hb, h.z⟩
/-- A list of nodes. -/
def NodesL (w : World) (v : Value) (L : List Nod) : Prop :=
  L.length ≤ big ∧ ∃ (a : Option Addr) (c : Nat), v = .slice a L.length c ∧ L.length ≤ c ∧ ∀ i (h : i < L.length), ∃ b off x y, a = some ⟨b, off, none⟩ ∧ NodeAt w b (off + i * 5) x y L[i]
theorem NodesL.later {w w' : World} {v : Value} {L : List Nod} (h : NodesL w v L) (hb : Below w.heap.size w w') : NodesL w' v L := by
  obtain ⟨h0, a, c, rfl, h1, h2⟩ := h
  refine ⟨h0, a, c, rfl, h1, fun i hi => ?_⟩
  obtain ⟨b, off, x, y, e, hn⟩ := h2 i hi
  exact ⟨b, off, x, y, e, hn.later hb⟩
theorem NodesL.nil (w : World) : NodesL w (.slice none 0 0) [] := ⟨Nat.zero_le _, none, 0, rfl, Nat.le_refl _, fun i hi => by simp at hi⟩
theorem NodesL.shape {w : World} {v : Value} {L : List Nod} (h : NodesL w v L) : ∃ a c, v = .slice a L.length c ∧ L.length ≤ c ∧ L.length ≤ big := by
  obtain ⟨h0, a, c, e, h1, _⟩ := h
  exact ⟨a, c, e, h1, h0⟩
theorem NodesL.row {w : World} {a : Option Addr} {n c : Nat} {L : List Nod} (h : NodesL w (.slice a n c) L) (i : Nat) (hi : i < L.length) : ∃ b off x y, a = some ⟨b, off, none⟩ ∧ NodeAt w b (off + i * 5) x y L[i] := by
  obtain ⟨_, a', c', e, _, hr⟩ := h
  simp only [Value.slice.injEq] at e
  obtain ⟨rfl, rfl, rfl⟩ := e
  exact hr i hi
/-- The first n of them. -/
theorem NodesL.take {w : World} {a : Option Addr} {n c : Nat} {L : List Nod} (h : NodesL w (.slice a n c) L) (k : Nat) (hk : k ≤ L.length) : NodesL w (.slice a k c) (L.take k) := by
  obtain ⟨h0, a', c', e, h1, hr⟩ := h
  simp only [Value.slice.injEq] at e
  obtain ⟨rfl, rfl, rfl⟩ := e
  refine ⟨by rw [List.length_take]; omega, a, c, by rw [List.length_take]; congr 1; omega, by rw [List.length_take]; omega, fun i hi => ?_⟩
  rw [List.length_take] at hi
  obtain ⟨b, off, x, y, e, hn⟩ := hr i (by omega)
  refine ⟨b, off, x, y, e, ?_⟩
  rw [List.getElem_take]
  exact hn
/-- Numbers of nodes. -/
def argsB (args : List Int) (n : Int) : Bool := args.all fun x => decide (0 ≤ x) && decide (x ≤ n - 1)
/-- The dims of those that it is made of. -/
def dimsAt (L : List Nod) (args : List Int) : List (List Int) := args.map fun x => match L[x.toNat]? with
  | some t => t.dims
  | none => []
def askD (t : Nod) : List Int := if askI t.kind then t.dims else []
/-- May one be, behind those ahead? -/
def nodeB (L : List Nod) (i : Nat) (t : Nod) : Bool :=
  argsB t.args i && (may t.kind t.n (askD t) (dimsAt L t.args) && (inf t.kind.toNat t.n (askD t) ((dimsAt L t.args).getD 0 []) ((dimsAt L t.args).getD 1 []) && decide (t.dims = inD t.kind.toNat t.n (askD t) ((dimsAt L t.args).getD 0 []) ((dimsAt L t.args).getD 1 []))))
def nodesN (L : List Nod) : Nat → Bool
  | 0 => true
  | k + 1 => nodesN L k && (match L[k]? with
    | some t => nodeB L k t
    | none => true)
def nodesB (L : List Nod) : Bool := decide (L.length ≤ 240) && nodesN L L.length
end Go.Proofs.Ytjfkhfahpjdidaa
