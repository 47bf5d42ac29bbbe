/- Graphs as functions of plain data; what the package's ways are to tell. -/
import Derived.Test.YtjfkhfahpjdidaaQ13
namespace Go.Proofs.Ytjfkhfahpjdidaa
set_option linter.unusedVariables false
set_option linter.unusedSimpArgs false
set_option maxRecDepth 100000
open Go.RowKit

/-- Where a name is first; -1: nowhere. -/
def nmdN : List Nod → ByteArray → Nat → Int
  | [], _, _ => -1
  | t :: r, s, k => if t.name = s then (k : Int) else nmdN r s (k + 1)
/-- Those of the first k that are made of i. -/
def useN (L : List Nod) (i : Int) : Nat → List Int
  | 0 => []
  | k + 1 => useN L i k ++ (match L[k]? with
    | some t => if decide (i ∈ t.args) then [(k : Int)] else []
    | none => [])
theorem useN_len (L : List Nod) (i : Int) : ∀ k, (useN L i k).length ≤ k
  | 0 => Nat.le_refl _
  | k + 1 => by
    have := useN_len L i k
    rw [useN, List.length_append]
    split
    · split <;> simp <;> omega
    · simp; omega
/-- Those of kind k of the first j. -/
def lvN (L : List Nod) (k : Int) : Nat → List Int
  | 0 => []
  | j + 1 => lvN L k j ++ (match L[j]? with
    | some t => if t.kind = k then [(j : Int)] else []
    | none => [])
theorem lvN_len (L : List Nod) (i : Int) : ∀ k, (lvN L i k).length ≤ k
  | 0 => Nat.le_refl _
  | k + 1 => by
    have := lvN_len L i k
    rw [lvN, List.length_append]
    split
    · split <;> simp <;> omega
    · simp; omega
/-- Is it a graph? -/
def grpI (L : List Nod) (i : Nat) : Bool := match L[i]? with
  | some t => nameB t.name && decide (nmdN L t.name 0 = (i : Int)) && decide (t.kind ≤ 15) && (decide (-1073741824 ≤ t.n) && decide (t.n ≤ 1073741824))
  | none => true
def grpB (L : List Nod) : Bool := decide (1 ≤ L.length) && decide (L.length ≤ 24) && nodesB L && (List.range L.length).all (grpI L) && (match L.getLast? with
  | some t => decide (prd t.dims = 1)
  | none => false)
def levs (L : List Nod) : List Int := lvN L 1 L.length ++ lvN L 2 L.length
def useE (L : List Nod) (i : Int) : Int := if nodesB L then (if decide (0 ≤ i) && decide (i < L.length) then 0 else 3) else 1
def useR (L : List Nod) (i : Int) : List Int := if nodesB L && (decide (0 ≤ i) && decide (i < L.length)) then useN L i L.length else []
end Go.Proofs.Ytjfkhfahpjdidaa
