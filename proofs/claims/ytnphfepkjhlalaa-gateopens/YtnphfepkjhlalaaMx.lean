/- Plain mathematics for stage 4: products of matrices of numbers that wrap around. -/
import Derived.Test.YtnphfepkjhlalaaJ3
namespace Go.Proofs.Ytnphfepkjhlalaa
set_option linter.unusedVariables false
set_option linter.unusedSimpArgs false
open Go.RowKit

theorem sg_mulr (f : Nat → Int) (c : Int) : ∀ n, sg (fun i => f i * c) n = sg f n * c
  | 0 => by simp [sg]
  | n + 1 => by rw [sg, sg, sg_mulr f c n, Int.add_mul]
theorem sg_mull (f : Nat → Int) (c : Int) : ∀ n, sg (fun i => c * f i) n = c * sg f n
  | 0 => by simp [sg]
  | n + 1 => by rw [sg, sg, sg_mull f c n, Int.mul_add]
theorem sg_comm (f : Nat → Nat → Int) (m : Nat) : ∀ n, sg (fun i => sg (fun j => f i j) m) n = sg (fun j => sg (fun i => f i j) n) m
  | 0 => by
    have h : sg (fun j => sg (fun i => f i j) 0) m = sg (fun _ => 0) m := sg_congr m fun j _ => rfl
    rw [h, sg_zero]
    rfl
  | n + 1 => by
    rw [sg, sg_comm f m n, ← sg_add]
    rfl
theorem sg_wrapl (A B : Nat → Int) (n : Nat) : wrap64 (sg (fun i => wrap64 (A i) * B i) n) = wrap64 (sg (fun i => A i * B i) n) := by
  have h := sg_wrapm B A n
  rw [sg_congr n (g := fun i => B i * wrap64 (A i)) (fun i _ => Int.mul_comm _ _), h, sg_congr n (g := fun i => A i * B i) (fun i _ => Int.mul_comm _ _)]
/-- The number at row i, column k of the product (n numbers in a row of a, q in a row of b). -/
def mxe (a b : List Int) (n q i k : Nat) : Int := wrap64 (sg (fun j => a.getD (i * n + j) 0 * b.getD (j * q + k) 0) n)
/-- The product of m by n and n by q. -/
def mxl (m n q : Nat) (a b : List Int) : List Int := (List.range (m * q)).map fun x => mxe a b n q (x / q) (x % q)
theorem mxl_length (m n q : Nat) (a b : List Int) : (mxl m n q a b).length = m * q := by simp [mxl]
theorem rc_lt {m q i k : Nat} (hi : i < m) (hk : k < q) : i * q + k < m * q := by
  have h : (i + 1) * q ≤ m * q := Nat.mul_le_mul_right q hi
  rw [Nat.add_mul, Nat.one_mul] at h
  omega
theorem rc_div {q i k : Nat} (hk : k < q) : (i * q + k) / q = i := by
  rw [Nat.add_comm, Nat.add_mul_div_right _ _ (by omega), Nat.div_eq_of_lt hk, Nat.zero_add]
theorem rc_mod {q i k : Nat} (hk : k < q) : (i * q + k) % q = k := by
  rw [Nat.add_comm, Nat.add_mul_mod_self_right, Nat.mod_eq_of_lt hk]
theorem mxl_get {m n q : Nat} (a b : List Int) {i k : Nat} (hi : i < m) (hk : k < q) : (mxl m n q a b).getD (i * q + k) 0 = mxe a b n q i k := by
  have h := rc_lt hi hk
  simp only [mxl, List.getD_eq_getElem?_getD, List.getElem?_map, List.getElem?_range h, Option.map_some, Option.getD_some]
  rw [rc_div hk, rc_mod hk]
theorem row_lt {m q x : Nat} (h : x < m * q) : x / q < m ∧ x % q < q := by
  have hq : 0 < q := by
    rcases Nat.eq_zero_or_pos q with e | e
    · subst e; simp at h
    · exact e
  exact ⟨Nat.div_lt_of_lt_mul (by rw [Nat.mul_comm]; exact h), Nat.mod_lt _ hq⟩
/-- Products go together in any brackets. -/
theorem mx_assoc (m n q r : Nat) (a b d : List Int) : mxl m q r (mxl m n q a b) d = mxl m n r a (mxl n q r b d) := by
  apply List.ext_getElem
  · simp [mxl_length]
  · intro x h1 h2
    rw [mxl_length] at h1
    obtain ⟨hi, hk⟩ := row_lt h1
    simp only [mxl, List.getElem_map, List.getElem_range]
    generalize x / r = i at hi
    generalize x % r = k at hk
    have e1 : mxe (mxl m n q a b) d q r i k = wrap64 (sg (fun l => sg (fun j => a.getD (i * n + j) 0 * b.getD (j * q + l) 0) n * d.getD (l * r + k) 0) q) := by
      rw [mxe, sg_congr q (g := fun l => wrap64 (sg (fun j => a.getD (i * n + j) 0 * b.getD (j * q + l) 0) n) * d.getD (l * r + k) 0) (fun l hl => by rw [mxl_get a b hi hl]; rfl), sg_wrapl]
    have e2 : mxe a (mxl n q r b d) n r i k = wrap64 (sg (fun j => a.getD (i * n + j) 0 * sg (fun l => b.getD (j * q + l) 0 * d.getD (l * r + k) 0) q) n) := by
      rw [mxe, sg_congr n (g := fun j => a.getD (i * n + j) 0 * wrap64 (sg (fun l => b.getD (j * q + l) 0 * d.getD (l * r + k) 0) q)) (fun j hj => by rw [mxl_get b d hj hk]; rfl), sg_wrapm]
    show mxe (mxl m n q a b) d q r i k = mxe a (mxl n q r b d) n r i k
    rw [e1, e2]
    congr 1
    rw [sg_congr q (g := fun l => sg (fun j => a.getD (i * n + j) 0 * b.getD (j * q + l) 0 * d.getD (l * r + k) 0) n) (fun l _ => (sg_mulr _ _ n).symm),
      sg_congr n (g := fun j => sg (fun l => a.getD (i * n + j) 0 * b.getD (j * q + l) 0 * d.getD (l * r + k) 0) q) (fun j _ => by rw [← sg_mull]; exact sg_congr q fun l _ => (Int.mul_assoc _ _ _).symm)]
    exact sg_comm (fun l j => a.getD (i * n + j) 0 * b.getD (j * q + l) 0 * d.getD (l * r + k) 0) n q
/-- A product over a sum. -/
theorem mx_add (m n q : Nat) (a b d : List Int) (hb : b.length = n * q) (hd : d.length = n * q) : mxl m n q a (List.zipWith opA b d) = List.zipWith opA (mxl m n q a b) (mxl m n q a d) := by
  apply List.ext_getElem
  · simp [mxl_length]
  · intro x h1 h2
    rw [mxl_length] at h1
    obtain ⟨hi, hk⟩ := row_lt h1
    rw [List.getElem_zipWith]
    simp only [mxl, List.getElem_map, List.getElem_range]
    generalize x / q = i at hi
    generalize x % q = k at hk
    have e : mxe a (List.zipWith opA b d) n q i k = wrap64 (sg (fun j => a.getD (i * n + j) 0 * (b.getD (j * q + k) 0 + d.getD (j * q + k) 0)) n) := by
      rw [mxe, ← sg_wrapm (fun j => a.getD (i * n + j) 0) (fun j => b.getD (j * q + k) 0 + d.getD (j * q + k) 0) n]
      congr 1
      refine sg_congr n fun j hj => ?_
      have hjk := rc_lt hj hk
      have : (List.zipWith opA b d).getD (j * q + k) 0 = opA (b.getD (j * q + k) 0) (d.getD (j * q + k) 0) := by
        simp [List.getD_eq_getElem?_getD, hb, hd, hjk]
      rw [this]; rfl
    rw [e, opA, mxe, mxe, wl, wr, ← sg_add]
    congr 1
    exact sg_congr n fun j _ => Int.mul_add _ _ _
/-- The turned product is the product of the turned ones, the other way round. -/
theorem mx_turn (m n q : Nat) (a b : List Int) : tns m q (mxl m n q a b) = mxl q n m (tns n q b) (tns m n a) := by
  apply List.ext_getElem
  · rw [tns_length, mxl_length, Nat.mul_comm]
  · intro x h1 h2
    rw [mxl_length] at h2
    obtain ⟨hi, hk⟩ := row_lt h2
    have hm : 0 < m := by omega
    simp only [tns, mxl, List.getElem_map, List.getElem_range]
    generalize hI : x / m = i at hi
    generalize hK : x % m = k at hk
    have e0 : tinv m q x = k * q + i := by rw [tinv, hI, hK]
    rw [e0]
    have e1 := mxl_get (n := n) a b hk hi
    rw [mxl] at e1
    rw [e1, mxe]
    show _ = mxe (tns n q b) (tns m n a) n m i k
    rw [mxe]
    congr 1
    refine sg_congr n fun j hj => ?_
    have f1 : (tns n q b).getD (i * n + j) 0 = b.getD (j * q + i) 0 := by
      have h := rc_lt hi hj
      have h' : i * n + j < n * q := by rw [Nat.mul_comm n q]; exact h
      simp only [tns, List.getD_eq_getElem?_getD, List.getElem?_map, List.getElem?_range h', Option.map_some, Option.getD_some]
      rw [tinv, rc_div hj, rc_mod hj]
    have f2 : (tns m n a).getD (j * m + k) 0 = a.getD (k * n + j) 0 := by
      have h := rc_lt hj hk
      have h' : j * m + k < m * n := by rw [Nat.mul_comm m n]; exact h
      simp only [tns, List.getD_eq_getElem?_getD, List.getElem?_map, List.getElem?_range h', Option.map_some, Option.getD_some]
      rw [tinv, rc_div hk, rc_mod hk]
    rw [f1, f2, Int.mul_comm]
/-- The one of a size. -/
def onl (n : Nat) : List Int := (List.range (n * n)).map fun x => if x / n = x % n then 1 else 0
theorem onl_length (n : Nat) : (onl n).length = n * n := by simp [onl]
theorem onl_get {n i k : Nat} (hi : i < n) (hk : k < n) : (onl n).getD (i * n + k) 0 = if i = k then 1 else 0 := by
  have h := rc_lt hi hk
  simp only [onl, List.getD_eq_getElem?_getD, List.getElem?_map, List.getElem?_range h, Option.map_some, Option.getD_some]
  rw [rc_div hk, rc_mod hk]
theorem one_left (m q : Nat) (a : List Int) (ha : a.length = m * q) (hr : Rg a) : mxl m m q (onl m) a = a := by
  apply List.ext_getElem
  · rw [mxl_length, ha]
  · intro x h1 h2
    rw [mxl_length] at h1
    obtain ⟨hi, hk⟩ := row_lt h1
    have hx : x = x / q * q + x % q := by
      have := Nat.div_add_mod x q
      rw [Nat.mul_comm] at this
      exact this.symm
    simp only [mxl, List.getElem_map, List.getElem_range]
    have e : mxe (onl m) a m q (x / q) (x % q) = wrap64 (a.getD (x / q * q + x % q) 0) := by
      rw [mxe]
      congr 1
      rw [sg_congr m (g := fun j => if x / q = j then a.getD (j * q + x % q) 0 else 0) (fun j hj => by
        rw [onl_get hi hj]
        by_cases e : x / q = j
        · simp [e]
        · simp [e])]
      exact sg_one (fun j => a.getD (j * q + x % q) 0) (x / q) m hi
    rw [e, ← hx, show a.getD x 0 = a[x] by simp [h2]]
    exact wrap_in (hr _ (List.getElem_mem h2))
theorem one_right (m q : Nat) (a : List Int) (ha : a.length = m * q) (hr : Rg a) : mxl m q q a (onl q) = a := by
  apply List.ext_getElem
  · rw [mxl_length, ha]
  · intro x h1 h2
    rw [mxl_length] at h1
    obtain ⟨hi, hk⟩ := row_lt h1
    have hx : x = x / q * q + x % q := by
      have := Nat.div_add_mod x q
      rw [Nat.mul_comm] at this
      exact this.symm
    simp only [mxl, List.getElem_map, List.getElem_range]
    have e : mxe a (onl q) q q (x / q) (x % q) = wrap64 (a.getD (x / q * q + x % q) 0) := by
      rw [mxe]
      congr 1
      rw [sg_congr q (g := fun j => if x % q = j then a.getD (x / q * q + j) 0 else 0) (fun j hj => by
        rw [onl_get hj hk]
        by_cases e : x % q = j
        · simp [e]
        · have e' : ¬ j = x % q := fun h => e h.symm
          simp [e, e'])]
      exact sg_one (fun j => a.getD (x / q * q + j) 0) (x % q) q hk
    rw [e, ← hx, show a.getD x 0 = a[x] by simp [h2]]
    exact wrap_in (hr _ (List.getElem_mem h2))
theorem mxl_rg (m n q : Nat) (a b : List Int) : Rg (mxl m n q a b) := by
  intro x hx
  simp only [mxl, List.mem_map] at hx
  obtain ⟨y, _, rfl⟩ := hx
  unfold mxe wrap64
  omega
theorem onl_rg (n : Nat) : Rg (onl n) := by
  intro x hx
  simp only [onl, List.mem_map] at hx
  obtain ⟨y, _, rfl⟩ := hx
  split <;> omega
/-- a multiplied k times. -/
def mpw (n : Nat) (a : List Int) : Nat → List Int
  | 0 => onl n
  | k + 1 => mxl n n n (mpw n a k) a
theorem mpw_length (n : Nat) (a : List Int) : ∀ k, (mpw n a k).length = n * n
  | 0 => onl_length n
  | k + 1 => mxl_length _ _ _ _ _
theorem mpw_rg (n : Nat) (a : List Int) : ∀ k, Rg (mpw n a k)
  | 0 => onl_rg n
  | k + 1 => mxl_rg _ _ _ _ _
theorem mpw_one (n : Nat) (a : List Int) (ha : a.length = n * n) (hr : Rg a) : mpw n a 1 = a := one_left n n a ha hr
/-- Powers add. -/
theorem mpw_add (n : Nat) (a : List Int) (j : Nat) : ∀ k, mpw n a (j + k) = mxl n n n (mpw n a j) (mpw n a k)
  | 0 => (one_right n n _ (mpw_length n a j) (mpw_rg n a j)).symm
  | k + 1 => by
    show mxl n n n (mpw n a (j + k)) a = mxl n n n (mpw n a j) (mxl n n n (mpw n a k) a)
    rw [mpw_add n a j k, mx_assoc]
/-- A step of squaring: what is left of the power, of the square. -/
theorem mpw_sq (n : Nat) (a : List Int) (ha : a.length = n * n) (hr : Rg a) : ∀ k, mpw n (mxl n n n a a) k = mpw n a (2 * k)
  | 0 => rfl
  | k + 1 => by
    have h2 : mpw n a 2 = mxl n n n a a := by
      show mxl n n n (mpw n a 1) a = _
      rw [mpw_one n a ha hr]
    show mxl n n n (mpw n (mxl n n n a a) k) (mxl n n n a a) = mpw n a (2 * k + 2)
    rw [mpw_sq n a ha hr k, mpw_add n a (2 * k) 2, h2]
end Go.Proofs.Ytnphfepkjhlalaa
