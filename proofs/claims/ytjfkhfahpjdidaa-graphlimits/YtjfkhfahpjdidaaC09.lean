/- Carried: C10. -/
import Derived.Test.YtjfkhfahpjdidaaC08
namespace Go.Proofs.Ytjfkhfahpjdidaa
set_option linter.unusedVariables false
set_option linter.unusedSimpArgs false
set_option maxRecDepth 100000

def opG (x y : Int) : Int := if 0 < x then y else 0
def gB (b : Bool) : UInt8 := if b then 111 else 120
/-- A text of n gates. -/
def gT (g : Nat → Bool) (n : Nat) : ByteArray := ⟨((List.range n).map fun i => gB (g i)).toArray⟩
theorem gT_size (g : Nat → Bool) (n : Nat) : (gT g n).size = n := by simp [gT, ByteArray.size]
theorem gT_get (g : Nat → Bool) (n k : Nat) (h : k < n) (hs : k < (gT g n).size) : (gT g n)[k] = gB (g k) := by
  have e : (gT g n)[k] = ((List.range n).map fun i => gB (g i))[k]'(by simpa using h) := rfl
  rw [e]
  simp
theorem gT_snoc (g : Nat → Bool) (n : Nat) : gT g (n + 1) = gT g n ++ ⟨#[gB (g n)]⟩ := by
  have h := ByteArray.mk_append_mk ((List.range n).map fun i => gB (g i)) [gB (g n)]
  simp only [gT, List.range_succ, List.map_append, List.map_cons, List.map_nil]
  exact h.symm
theorem gB_get (g : Nat → Bool) (n k : Nat) (h : k < n) (hs : k < (gT g n).size) : ((gT g n)[k].toNat : Int) = (if g k then 111 else 120) ∧ (gT g n)[k].toNat < 128 := by
  rw [gT_get g n k h hs]
  cases g k <;> decide
/-- Where the first greatest of the first so many is. -/
def fsN (l : List Int) : Nat → Nat
  | 0 => 0
  | i + 1 => if l.getD (fsN l i) 0 < l.getD i 0 then i else fsN l i
theorem fsN_spec (l : List Int) : ∀ m, 1 ≤ m → fsN l m < m ∧ (∀ j, j < m → l.getD j 0 ≤ l.getD (fsN l m) 0) ∧ (∀ j, j < fsN l m → l.getD j 0 < l.getD (fsN l m) 0)
  | 0, h => by omega
  | 1, _ => by
    have e : fsN l 1 = 0 := by simp [fsN]
    rw [e]
    refine ⟨by omega, fun j hj => ?_, fun j hj => by omega⟩
    obtain rfl : j = 0 := by omega
    exact Int.le_refl _
  | m + 2, _ => by
    obtain ⟨h1, h2, h3⟩ := fsN_spec l (m + 1) (by omega)
    have e : fsN l (m + 2) = if l.getD (fsN l (m + 1)) 0 < l.getD (m + 1) 0 then m + 1 else fsN l (m + 1) := rfl
    by_cases h : l.getD (fsN l (m + 1)) 0 < l.getD (m + 1) 0
    · rw [e, if_pos h]
      refine ⟨by omega, fun j hj => ?_, fun j hj => ?_⟩
      · by_cases hj' : j = m + 1
        · subst hj'; exact Int.le_refl _
        · have := h2 j (by omega); omega
      · have := h2 j (by omega); omega
    · rw [e, if_neg h]
      refine ⟨by omega, fun j hj => ?_, h3⟩
      by_cases hj' : j = m + 1
      · subst hj'; omega
      · exact h2 j (by omega)
theorem max_fsN (l : List Int) : ∀ m, 1 ≤ m → m ≤ l.length → Lib.maxOf (l.take m) = l.getD (fsN l m) 0
  | 0, h, _ => by omega
  | 1, _, _ => by rw [Lib.maxOf_one]; simp [fsN]
  | m + 2, _, hl => by
    rw [Lib.maxOf_step l (m + 1) (by omega) (by omega), max_fsN l (m + 1) (by omega) (by omega)]
    have e : fsN l (m + 2) = if l.getD (fsN l (m + 1)) 0 < l.getD (m + 1) 0 then m + 1 else fsN l (m + 1) := rfl
    rw [e]
    by_cases h : l.getD (fsN l (m + 1)) 0 < l.getD (m + 1) 0
    · rw [if_pos h]; omega
    · rw [if_neg h]; omega
theorem idx_fsN (l : List Int) (m : Nat) (h1 : 1 ≤ m) (hl : m ≤ l.length) : Lib.idxOf (l.take m) (l.getD (fsN l m) 0) = fsN l m := by
  obtain ⟨k1, k2, k3⟩ := fsN_spec l m h1
  exact Lib.idxOf_hit l m (fsN l m) _ k1 hl rfl fun j hj => by have := k3 j hj; omega
/-- The c-th n of a list; where its first greatest is; its greatest. -/
def chk (n : Nat) (a : List Int) (c : Nat) : List Int := (a.drop (c * n)).take n
def fC (n : Nat) (a : List Int) (c : Nat) : Nat := fsN (chk n a c) n
def mC (n : Nat) (a : List Int) (c : Nat) : Int := a.getD (c * n + fC n a c) 0
def gC (n : Nat) (a : List Int) (i : Nat) : Bool := i % n == fC n a (i / n)
theorem chk_length {n : Nat} {a : List Int} {c : Nat} (h : c * n + n ≤ a.length) : (chk n a c).length = n := by simp [chk]; omega
theorem chk_get {n : Nat} {a : List Int} {c j : Nat} (h : j < n) : (chk n a c).getD j 0 = a.getD (c * n + j) 0 := by
  simp only [chk, List.getD_eq_getElem?_getD, List.getElem?_take, List.getElem?_drop, h, if_true]
theorem fC_lt {n : Nat} (a : List Int) (c : Nat) (h : 1 ≤ n) : fC n a c < n := (fsN_spec _ n h).1
theorem chk_max {n : Nat} {a : List Int} {c : Nat} (h1 : 1 ≤ n) (h : c * n + n ≤ a.length) : Lib.maxOf (chk n a c) = mC n a c := by
  have hl := chk_length h
  have := max_fsN (chk n a c) n h1 (by omega)
  rw [List.take_of_length_le (by omega)] at this
  rw [this, show fsN (chk n a c) n = fC n a c from rfl, chk_get (fC_lt a c h1)]
  rfl
theorem chk_idx {n : Nat} {a : List Int} {c : Nat} (h1 : 1 ≤ n) (h : c * n + n ≤ a.length) : Lib.idxOf (chk n a c) (mC n a c) = fC n a c := by
  have hl := chk_length h
  have := idx_fsN (chk n a c) n h1 (by omega)
  rw [List.take_of_length_le (by omega), show fsN (chk n a c) n = fC n a c from rfl, chk_get (fC_lt a c h1)] at this
  exact this
theorem cm_div {n c j : Nat} (hj : j < n) : (c * n + j) / n = c := by
  rw [Nat.mul_comm, Nat.mul_add_div (by omega), Nat.div_eq_of_lt hj]; omega
theorem cm_mod {n c j : Nat} (hj : j < n) : (c * n + j) % n = j := by
  rw [Nat.mul_comm, Nat.mul_add_mod, Nat.mod_eq_of_lt hj]
theorem gC_at {n : Nat} (a : List Int) {c j : Nat} (hj : j < n) : gC n a (c * n + j) = (j == fC n a c) := by
  simp only [gC, cm_div hj, cm_mod hj]
/-- The text of one chunk. -/
theorem rep_x (k : Nat) : (⟨(Lib.repeatL (ByteArray.mk #[120]).data.toList k).toArray⟩ : ByteArray) = ⟨(List.replicate k 120).toArray⟩ := by
  have := Lib.repeatL_replicate 120 1 k
  simp at this
  rw [show (ByteArray.mk #[120]).data.toList = [120] from rfl, this]
theorem range_one (n k : Nat) (hk : k < n) : (List.range n).map (fun i => gB (i == k)) = List.replicate k 120 ++ 111 :: List.replicate (n - k - 1) 120 := by
  apply List.ext_getElem
  · simp; omega
  · intro i h1 h2
    simp only [List.getElem_map, List.getElem_range]
    by_cases h : i < k
    · rw [List.getElem_append_left (by simpa using h)]
      have : (i == k) = false := by simp; omega
      simp [this, gB]
    · rw [List.getElem_append_right (by simp; omega)]
      by_cases e : i = k
      · subst e; simp [gB]
      · have h3 : (i == k) = false := by simp [e]
        obtain ⟨q, hq⟩ : ∃ q, i - (List.replicate k (120 : UInt8)).length = q + 1 := ⟨i - k - 1, by simp; omega⟩
        simp only [hq, List.getElem_cons_succ, List.getElem_replicate, h3, gB]
        rfl
theorem gT_chunk (n : Nat) (a : List Int) (c : Nat) (h1 : 1 ≤ n) :
    gT (gC n a) (c * n + n) = gT (gC n a) (c * n) ++ ((⟨(List.replicate (fC n a c) 120).toArray⟩ ++ ⟨#[111]⟩) ++ ⟨(List.replicate (n - fC n a c - 1) 120).toArray⟩) := by
  have e : (List.range (c * n + n)).map (fun i => gB (gC n a i)) = (List.range (c * n)).map (fun i => gB (gC n a i)) ++ (List.replicate (fC n a c) 120 ++ 111 :: List.replicate (n - fC n a c - 1) 120) := by
    rw [List.range_add, List.map_append, ← range_one n (fC n a c) (fC_lt a c h1), List.map_map]
    congr 1
    apply List.map_congr_left
    intro j hj
    show gB (gC n a (c * n + j)) = _
    rw [gC_at a (List.mem_range.1 hj)]
  have m1 := ByteArray.mk_append_mk (List.replicate (fC n a c) 120) [111]
  have m2 := ByteArray.mk_append_mk (List.replicate (fC n a c) 120 ++ [111]) (List.replicate (n - fC n a c - 1) 120)
  have m3 := ByteArray.mk_append_mk ((List.range (c * n)).map (fun i => gB (gC n a i))) ((List.replicate (fC n a c) 120 ++ [111]) ++ List.replicate (n - fC n a c - 1) 120)
  show (⟨((List.range (c * n + n)).map (fun i => gB (gC n a i))).toArray⟩ : ByteArray) = _
  rw [e, show (⟨#[111]⟩ : ByteArray) = ⟨[111].toArray⟩ from rfl, m1, m2]
  rw [show gT (gC n a) (c * n) = ⟨((List.range (c * n)).map (fun i => gB (gC n a i))).toArray⟩ from rfl, m3]
  simp
/-- How many chunks' firsts have been met ahead of place i. -/
def nxC (n : Nat) (a : List Int) (i : Nat) : Nat := if i % n ≤ fC n a (i / n) then i / n else i / n + 1
theorem nxC_at {n : Nat} (a : List Int) {c j : Nat} (hj : j < n) : nxC n a (c * n + j) = if j ≤ fC n a c then c else c + 1 := by
  simp only [nxC, cm_div hj, cm_mod hj]
theorem nxC_zero (n : Nat) (a : List Int) : nxC n a 0 = 0 := by simp [nxC]
theorem nxC_all {n : Nat} (a : List Int) (m : Nat) (h : 1 ≤ n) : nxC n a (m * n) = m := by
  have := nxC_at a (c := m) (show 0 < n from h)
  simpa using this
theorem nxC_on {n : Nat} (a : List Int) (i : Nat) (h : 1 ≤ n) (hg : gC n a i = true) : nxC n a (i + 1) = nxC n a i + 1 ∧ nxC n a i = i / n ∧ i = nxC n a i * n + fC n a (nxC n a i) := by
  obtain ⟨c, j, hj, rfl⟩ : ∃ c j, j < n ∧ i = c * n + j := ⟨i / n, i % n, Nat.mod_lt _ h, by rw [Nat.mul_comm]; exact (Nat.div_add_mod i n).symm⟩
  rw [gC_at a hj] at hg
  have e : j = fC n a c := by simpa using hg
  have e1 : nxC n a (c * n + j) = c := by rw [nxC_at a hj, if_pos (by omega)]
  rw [e1, cm_div hj]
  refine ⟨?_, rfl, by rw [e]⟩
  by_cases hl : j + 1 < n
  · have := nxC_at a (c := c) hl
    rw [← Nat.add_assoc] at this
    rw [this, if_neg (by omega)]
  · have : c * n + j + 1 = (c + 1) * n := by rw [Nat.add_mul]; omega
    rw [this, nxC_all a _ h]
theorem nxC_off {n : Nat} (a : List Int) (i : Nat) (h : 1 ≤ n) (hg : gC n a i = false) : nxC n a (i + 1) = nxC n a i := by
  obtain ⟨c, j, hj, rfl⟩ : ∃ c j, j < n ∧ i = c * n + j := ⟨i / n, i % n, Nat.mod_lt _ h, by rw [Nat.mul_comm]; exact (Nat.div_add_mod i n).symm⟩
  rw [gC_at a hj] at hg
  have e : ¬ j = fC n a c := by simpa using hg
  rw [nxC_at a hj]
  by_cases hl : j + 1 < n
  · have := nxC_at a (c := c) hl
    rw [← Nat.add_assoc] at this
    rw [this]
    by_cases h2 : j ≤ fC n a c
    · rw [if_pos h2, if_pos (by omega)]
    · rw [if_neg h2, if_neg (by omega)]
  · have h2 := fC_lt a c h
    have : c * n + j + 1 = (c + 1) * n := by rw [Nat.add_mul]; omega
    rw [this, nxC_all a _ h, if_neg (by omega)]
/-- The greatest of each chunk; what is laid where they are. -/
def maxs (n m : Nat) (a : List Int) : List Int := (List.range m).map (mC n a)
theorem maxs_length (n m : Nat) (a : List Int) : (maxs n m a).length = m := by simp [maxs]
theorem maxs_zero (n : Nat) (a : List Int) : maxs n 0 a = [] := rfl
theorem maxs_snoc (n m : Nat) (a : List Int) : maxs n (m + 1) a = maxs n m a ++ [mC n a m] := by simp [maxs, List.range_succ]
theorem maxs_on {n : Nat} (a : List Int) (i : Nat) (h : 1 ≤ n) (hg : gC n a i = true) : maxs n (nxC n a (i + 1)) a = maxs n (nxC n a i) a ++ [a.getD i 0] := by
  obtain ⟨h1, h2, h3⟩ := nxC_on a i h hg
  rw [h1, maxs_snoc]
  congr 2
  unfold mC
  rw [← h3]
def lyG (g : Nat → Bool) (F : Nat → Int) (n j : Nat) : List Int := (List.range n).map fun i => if i < j ∧ g i = true then F i else 0
theorem lyG_length (g : Nat → Bool) (F : Nat → Int) (n j : Nat) : (lyG g F n j).length = n := by simp [lyG]
theorem lyG_zero (g : Nat → Bool) (F : Nat → Int) (n : Nat) : lyG g F n 0 = List.replicate n 0 := by
  apply List.ext_getElem
  · simp [lyG]
  · intro i h1 h2
    simp [lyG]
theorem lyG_on (g : Nat → Bool) (F : Nat → Int) (n j : Nat) (h : g j = true) : (lyG g F n j).set j (F j) = lyG g F n (j + 1) := by
  apply List.ext_getElem
  · simp [lyG]
  · intro i h1 h2
    simp only [List.getElem_set, lyG, List.getElem_map, List.getElem_range]
    by_cases e : j = i
    · subst e; simp [h]
    · rw [if_neg e]
      by_cases h3 : i < j
      · simp [h3, show i < j + 1 from by omega]
      · simp [h3, show ¬ i < j + 1 from by omega]
theorem lyG_off (g : Nat → Bool) (F : Nat → Int) (n j : Nat) (h : g j = false) : lyG g F n j = lyG g F n (j + 1) := by
  simp only [lyG]
  apply List.map_congr_left
  intro i hi
  by_cases e : i = j
  · subst e; simp [h]
  · by_cases h3 : i < j
    · simp [h3, show i < j + 1 from by omega]
    · simp [h3, show ¬ i < j + 1 from by omega]
theorem lyG_step (a b : List Int) (h : b.length = a.length) : lyG (fun i => decide (0 < a.getD i 0)) (fun i => b.getD i 0) a.length a.length = List.zipWith opG a b := by
  apply List.ext_getElem
  · simp [lyG]; omega
  · intro i h1 h2
    have h3 : i < a.length := by simpa [lyG] using h1
    have h4 : i < b.length := by omega
    simp [lyG, opG, h3, h4]
def picks (n : Nat) (a b : List Int) : List Int := (List.range a.length).map fun i => if gC n a i = true then b.getD (i / n) 0 else 0
theorem picks_length (n : Nat) (a b : List Int) : (picks n a b).length = a.length := by simp [picks]
theorem lyG_pick (n : Nat) (a b : List Int) (h : 1 ≤ n) : lyG (gC n a) (fun i => b.getD (nxC n a i) 0) a.length a.length = picks n a b := by
  simp only [lyG, picks]
  apply List.map_congr_left
  intro i hi
  have := List.mem_range.1 hi
  by_cases hg : gC n a i = true
  · simp [this, hg, (nxC_on a i h hg).2.1]
  · simp [hg]
end Go.Proofs.Ytjfkhfahpjdidaa
