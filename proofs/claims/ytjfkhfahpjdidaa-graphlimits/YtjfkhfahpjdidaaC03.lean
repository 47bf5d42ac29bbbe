/- Carried: C03. -/
import Derived.Test.YtjfkhfahpjdidaaC02
namespace Go.Proofs.Ytjfkhfahpjdidaa
set_option linter.unusedVariables false
set_option linter.unusedSimpArgs false
set_option maxRecDepth 100000

/-- The place of the first k numbers. -/
def atN (d p : List Int) : Nat → Int
  | 0 => 0
  | k + 1 => atN d p k * d.getD k 0 + p.getD k 0
def atV (d p : List Int) : Int := atN d p d.length
def pin (d p : List Int) (k : Nat) : Bool := decide (0 ≤ p.getD k 0) && decide (p.getD k 0 < d.getD k 0)
def pok (d p : List Int) : Bool := decide (p.length = d.length) && (List.range d.length).all (pin d p)
def aok (d p : List Int) : Bool := okd d && pok d p
/-- What is left of n ahead of dim k; the number there. -/
def whR (d : List Int) (n : Int) : Nat → Int
  | 0 => n
  | k + 1 => whR d n k % stE d d.length k
def whE (d : List Int) (n : Int) (k : Nat) : Int := whR d n k / stE d d.length k
def whA (d : List Int) (n : Int) (k : Nat) : List Int := (List.range d.length).map fun i => if i < k then whE d n i else 0
def whr (d : List Int) (n : Int) : List Int := (List.range d.length).map (whE d n)
/-- One more at place j. -/
def bump (p : List Int) (j : Nat) : List Int := p.set j (p.getD j 0 + 1)
/-- The page's own ways, from the last dim on. -/
def rsN (d : List Int) : Nat → Int
  | 0 => 1
  | k + 1 => rsN d k * d.getD (d.length - 1 - k) 0
def rwR (d : List Int) (n : Int) : Nat → Int
  | 0 => n
  | k + 1 => rwR d n k / d.getD (d.length - 1 - k) 0
def rwE (d : List Int) (n : Int) (i : Nat) : Int := rwR d n (d.length - 1 - i) % d.getD i 0
end Go.Proofs.Ytjfkhfahpjdidaa
