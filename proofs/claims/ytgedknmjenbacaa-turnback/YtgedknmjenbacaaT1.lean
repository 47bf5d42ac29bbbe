/- Sums over an index map: what is laid out by it, and summed up along it. -/
import Derived.Test.YtgedknmjenbacaaM0
namespace Go.Proofs.Ytgedknmjenbacaa
set_option linter.unusedVariables false
set_option linter.unusedSimpArgs false
open Go.RowKit

def sg (f : Nat → Int) : Nat → Int
  | 0 => 0
  | n + 1 => sg f n + f n
theorem sg_congr {f g : Nat → Int} : ∀ (n : Nat), (∀ i, i < n → f i = g i) → sg f n = sg g n
  | 0, _ => rfl
  | n + 1, h => by rw [sg, sg, sg_congr n (fun i hi => h i (by omega)), h n (by omega)]
theorem sg_add (f g : Nat → Int) : ∀ n, sg (fun i => f i + g i) n = sg f n + sg g n
  | 0 => rfl
  | n + 1 => by simp only [sg]; rw [sg_add f g n]; omega
theorem sg_zero : ∀ n, sg (fun _ => 0) n = 0
  | 0 => rfl
  | n + 1 => by simp only [sg]; rw [sg_zero n]; rfl
theorem sg_one (g : Nat → Int) (q : Nat) : ∀ m, q < m → sg (fun k => if q = k then g k else 0) m = g q
  | 0, h => by omega
  | m + 1, h => by
    rw [sg]
    by_cases e : q = m
    · subst e
      rw [sg_congr q (g := fun _ => 0) (fun i hi => by rw [if_neg (by omega)]), sg_zero]
      simp
    · rw [sg_one g q m (by omega)]
      simp [e]
theorem sg_swap (A : Nat → Int) (b : Nat → Int) (p : Nat → Nat) (m : Nat) : ∀ n, (∀ i, i < n → p i < m) → sg (fun k => A k * sg (fun i => if p i = k then b i else 0) n) m = sg (fun i => A (p i) * b i) n
  | 0, _ => by
    rw [sg_congr m (g := fun _ => 0) (fun i _ => by simp [sg]), sg_zero]
    rfl
  | n + 1, h => by
    have e : sg (fun k => A k * sg (fun i => if p i = k then b i else 0) (n + 1)) m = sg (fun k => A k * sg (fun i => if p i = k then b i else 0) n + (if p n = k then A k * b n else 0)) m := by
      refine sg_congr m fun k _ => ?_
      rw [sg, Int.mul_add]
      congr 1
      by_cases hk : p n = k
      · simp [hk]
      · simp [hk]
    rw [e, sg_add, sg_swap A b p m n (fun i hi => h i (by omega)), sg_one (fun k => A k * b n) (p n) m (h n (by omega))]
    rfl
theorem sg_wrap (f : Nat → Int) : ∀ n, wrap64 (sg (fun i => wrap64 (f i)) n) = wrap64 (sg f n)
  | 0 => rfl
  | n + 1 => by rw [sg, sg, wr, ← wl, sg_wrap f n, wl]
theorem sg_wrapm (A B : Nat → Int) : ∀ n, wrap64 (sg (fun i => A i * wrap64 (B i)) n) = wrap64 (sg (fun i => A i * B i) n)
  | 0 => rfl
  | n + 1 => by rw [sg, sg, ← wl, sg_wrapm A B n, wl, ← wr, wm, wr]
/-- The sum of products of what is laid out, and b, is that of it and b summed up. -/
theorem sg_dot (A b : Nat → Int) (p : Nat → Nat) (m n : Nat) (h : ∀ i, i < n → p i < m) :
    wrap64 (sg (fun k => wrap64 (A k * wrap64 (sg (fun i => if p i = k then b i else 0) n))) m) = wrap64 (sg (fun i => wrap64 (A (p i) * b i)) n) := by
  rw [sg_wrap (fun k => A k * wrap64 (sg (fun i => if p i = k then b i else 0) n)), sg_wrapm, sg_swap A b p m n h, sg_wrap]
/-- How often k is met. -/
def ctn (p : Nat → Nat) (k n : Nat) : Nat := ((List.range n).filter fun i => p i == k).length
theorem ctn_succ (p : Nat → Nat) (k n : Nat) : ctn p k (n + 1) = ctn p k n + (if p n = k then 1 else 0) := by
  by_cases h : p n = k
  · simp [ctn, List.range_succ, List.filter_append, h]
  · simp [ctn, List.range_succ, List.filter_append, h]
theorem sg_back (A : Nat → Int) (p : Nat → Nat) (k : Nat) : ∀ n, sg (fun i => if p i = k then A (p i) else 0) n = ctn p k n * A k
  | 0 => by simp [sg, ctn]
  | n + 1 => by
    rw [sg, sg_back A p k n, ctn_succ]
    by_cases h : p n = k
    · simp [h, Int.add_mul]
    · simp [h]
theorem sm_snoc (l : List Int) (x : Int) : sm (l ++ [x]) = sm l + x := by simp [sm]
theorem sm_range (f : Nat → Int) : ∀ n, sm ((List.range n).map f) = sg f n
  | 0 => rfl
  | n + 1 => by rw [List.range_succ, List.map_append, List.map_singleton, sm_snoc, sm_range f n, sg]
theorem list_range (l : List Int) : l = (List.range l.length).map fun i => l.getD i 0 := by
  apply List.ext_getElem
  · simp
  · intro i h1 h2
    simp [h1]
theorem zip_range (op : Int → Int → Int) (a b : List Int) (n : Nat) (ha : a.length = n) (hb : b.length = n) : List.zipWith op a b = (List.range n).map fun i => op (a.getD i 0) (b.getD i 0) := by
  apply List.ext_getElem
  · simp [ha, hb]
  · intro i h1 h2
    have : i < n := by simpa using h2
    simp [ha, hb, this]
/-- b summed up along p, of the first j numbers. -/
def sums (p : Nat → Nat) (b : List Int) (m j : Nat) : List Int := (List.range m).map fun k => wrap64 (sg (fun i => if p i = k then b.getD i 0 else 0) j)
theorem sums_length (p : Nat → Nat) (b : List Int) (m j : Nat) : (sums p b m j).length = m := by simp [sums]
theorem sums_zero (p : Nat → Nat) (b : List Int) (m : Nat) : sums p b m 0 = List.replicate m 0 := by
  apply List.ext_getElem
  · simp [sums]
  · intro i h1 h2
    simp only [sums, List.getElem_map, List.getElem_replicate, sg]
    decide +kernel
theorem sums_set (p : Nat → Nat) (b : List Int) (m j : Nat) (hp : p j < m) : (sums p b m j).set (p j) (wrap64 ((sums p b m j).getD (p j) 0 + b.getD j 0)) = sums p b m (j + 1) := by
  apply List.ext_getElem
  · simp [sums]
  · intro k h1 h2
    have hk : k < m := by simpa [sums] using h2
    simp only [List.getElem_set, sums, List.getElem_map, List.getElem_range, sg]
    by_cases e : p j = k
    · subst e
      simp [hp, wl]
    · rw [if_neg e]
      simp [e]
/-- a laid out by p. -/
def laid (p : Nat → Nat) (a : List Int) (n : Nat) : List Int := (List.range n).map fun i => a.getD (p i) 0
theorem laid_length (p : Nat → Nat) (a : List Int) (n : Nat) : (laid p a n).length = n := by simp [laid]
theorem turn_dot (p : Nat → Nat) (a b : List Int) (m n : Nat) (ha : a.length = m) (hb : b.length = n) (hp : ∀ i, i < n → p i < m) :
    ttl (List.zipWith opM (laid p a n) b) = ttl (List.zipWith opM a (sums p b m n)) := by
  rw [ttl_sm, ttl_sm, zip_range opM (laid p a n) b n (laid_length p a n) hb, zip_range opM a (sums p b m n) m ha (sums_length p b m n), sm_range, sm_range]
  have e1 : sg (fun i => opM ((laid p a n).getD i 0) (b.getD i 0)) n = sg (fun i => wrap64 (a.getD (p i) 0 * b.getD i 0)) n := by
    refine sg_congr n fun i hi => ?_
    have : (laid p a n).getD i 0 = a.getD (p i) 0 := by simp [laid, hi]
    rw [this]; rfl
  have e2 : sg (fun k => opM (a.getD k 0) ((sums p b m n).getD k 0)) m = sg (fun k => wrap64 (a.getD k 0 * wrap64 (sg (fun i => if p i = k then b.getD i 0 else 0) n))) m := by
    refine sg_congr m fun k hk => ?_
    have : (sums p b m n).getD k 0 = wrap64 (sg (fun i => if p i = k then b.getD i 0 else 0) n) := by simp [sums, hk]
    rw [this]; rfl
  rw [e1, e2]
  exact (sg_dot (fun k => a.getD k 0) (fun i => b.getD i 0) p m n hp).symm
theorem turn_back (p : Nat → Nat) (a : List Int) (m n q : Nat) (ha : a.length = m) (hq : ∀ k, k < m → ctn p k n = q) :
    sums p (laid p a n) m n = a.map fun y => wrap64 (y * q) := by
  apply List.ext_getElem
  · simp [sums, ha]
  · intro k h1 h2
    have hk : k < m := by simpa [sums] using h1
    have e : sg (fun i => if p i = k then (laid p a n).getD i 0 else 0) n = sg (fun i => if p i = k then a.getD (p i) 0 else 0) n := by
      refine sg_congr n fun i hi => ?_
      have : (laid p a n).getD i 0 = a.getD (p i) 0 := by simp [laid, hi]
      rw [this]
    simp only [sums, List.getElem_map, List.getElem_range]
    rw [e, sg_back (fun j => a.getD j 0) p k n, hq k hk, Int.mul_comm]
    simp [show k < a.length by omega]
end Go.Proofs.Ytgedknmjenbacaa
