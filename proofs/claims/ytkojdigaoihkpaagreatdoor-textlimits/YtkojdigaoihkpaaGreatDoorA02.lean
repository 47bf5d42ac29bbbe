/- Part 2 of the texts that the theorem leans on. -/
import Derived.Test.YtkojdigaoihkpaaGreatDoorA01
section
namespace Go.Proofs.YtkojdigaoihkpaaGreatDoor
set_option linter.unusedVariables false
set_option linter.unusedSimpArgs false
set_option maxRecDepth 100000

def opG (x y : Int) : Int := if 0 < x then y else 0
def gB (b : Bool) : UInt8 := if b then 111 else 120
/-- A text of n gates. -/
def gT (g : Nat → Bool) (n : Nat) : ByteArray := ⟨((List.range n).map fun i => gB (g i)).toArray⟩
theorem gT_size (g : Nat → Bool) (n : Nat) : (gT g n).size = n := by simp [gT, ByteArray.size]
theorem gT_get (g : Nat → Bool) (n k : Nat) (h : k < n) (hs : k < (gT g n).size) : (gT g n)[k] = gB (g k) := by
  have e : (gT g n)[k] = ((List.range n).map fun i => gB (g i))[k]'(by simpa using h) := rfl
  rw [e]
  simp
theorem gT_snoc (g : Nat → Bool) (n : Nat) : gT g (n + 1) = gT g n ++ ⟨#[gB (g n)]⟩ := by
  have h := ByteArray.mk_append_mk ((List.range n).map fun i => gB (g i)) [gB (g n)]
  simp only [gT, List.range_succ, List.map_append, List.map_cons, List.map_nil]
  exact h.symm
theorem gB_get (g : Nat → Bool) (n k : Nat) (h : k < n) (hs : k < (gT g n).size) : ((gT g n)[k].toNat : Int) = (if g k then 111 else 120) ∧ (gT g n)[k].toNat < 128 := by
  rw [gT_get g n k h hs]
  cases g k <;> decide
/-- Where the first greatest of the first so many is. -/
def fsN (l : List Int) : Nat → Nat
  | 0 => 0
  | i + 1 => if l.getD (fsN l i) 0 < l.getD i 0 then i else fsN l i
theorem fsN_spec (l : List Int) : ∀ m, 1 ≤ m → fsN l m < m ∧ (∀ j, j < m → l.getD j 0 ≤ l.getD (fsN l m) 0) ∧ (∀ j, j < fsN l m → l.getD j 0 < l.getD (fsN l m) 0)
  | 0, h => by omega
  | 1, _ => by
    have e : fsN l 1 = 0 := by simp [fsN]
    rw [e]
    refine ⟨by omega, fun j hj => ?_, fun j hj => by omega⟩
    obtain rfl : j = 0 := by omega
    exact Int.le_refl _
  | m + 2, _ => by
    obtain ⟨h1, h2, h3⟩ := fsN_spec l (m + 1) (by omega)
    have e : fsN l (m + 2) = if l.getD (fsN l (m + 1)) 0 < l.getD (m + 1) 0 then m + 1 else fsN l (m + 1) := rfl
    by_cases h : l.getD (fsN l (m + 1)) 0 < l.getD (m + 1) 0
    · rw [e, if_pos h]
      refine ⟨by omega, fun j hj => ?_, fun j hj => ?_⟩
      · by_cases hj' : j = m + 1
        · subst hj'; exact Int.le_refl _
        · have := h2 j (by omega); omega
      · have := h2 j (by omega); omega
    · rw [e, if_neg h]
      refine ⟨by omega, fun j hj => ?_, h3⟩
      by_cases hj' : j = m + 1
      · subst hj'; omega
      · exact h2 j (by omega)
theorem max_fsN (l : List Int) : ∀ m, 1 ≤ m → m ≤ l.length → Lib.maxOf (l.take m) = l.getD (fsN l m) 0
  | 0, h, _ => by omega
  | 1, _, _ => by rw [Lib.maxOf_one]; simp [fsN]
  | m + 2, _, hl => by
    rw [Lib.maxOf_step l (m + 1) (by omega) (by omega), max_fsN l (m + 1) (by omega) (by omega)]
    have e : fsN l (m + 2) = if l.getD (fsN l (m + 1)) 0 < l.getD (m + 1) 0 then m + 1 else fsN l (m + 1) := rfl
    rw [e]
    by_cases h : l.getD (fsN l (m + 1)) 0 < l.getD (m + 1) 0
    · rw [if_pos h]; omega
    · rw [if_neg h]; omega
theorem idx_fsN (l : List Int) (m : Nat) (h1 : 1 ≤ m) (hl : m ≤ l.length) : Lib.idxOf (l.take m) (l.getD (fsN l m) 0) = fsN l m := by
  obtain ⟨k1, k2, k3⟩ := fsN_spec l m h1
  exact Lib.idxOf_hit l m (fsN l m) _ k1 hl rfl fun j hj => by have := k3 j hj; omega
/-- The c-th n of a list; where its first greatest is; its greatest. -/
def chk (n : Nat) (a : List Int) (c : Nat) : List Int := (a.drop (c * n)).take n
def fC (n : Nat) (a : List Int) (c : Nat) : Nat := fsN (chk n a c) n
def mC (n : Nat) (a : List Int) (c : Nat) : Int := a.getD (c * n + fC n a c) 0
def gC (n : Nat) (a : List Int) (i : Nat) : Bool := i % n == fC n a (i / n)
theorem chk_length {n : Nat} {a : List Int} {c : Nat} (h : c * n + n ≤ a.length) : (chk n a c).length = n := by simp [chk]; omega
theorem chk_get {n : Nat} {a : List Int} {c j : Nat} (h : j < n) : (chk n a c).getD j 0 = a.getD (c * n + j) 0 := by
  simp only [chk, List.getD_eq_getElem?_getD, List.getElem?_take, List.getElem?_drop, h, if_true]
theorem fC_lt {n : Nat} (a : List Int) (c : Nat) (h : 1 ≤ n) : fC n a c < n := (fsN_spec _ n h).1
theorem chk_max {n : Nat} {a : List Int} {c : Nat} (h1 : 1 ≤ n) (h : c * n + n ≤ a.length) : Lib.maxOf (chk n a c) = mC n a c := by
  have hl := chk_length h
  have := max_fsN (chk n a c) n h1 (by omega)
  rw [List.take_of_length_le (by omega)] at this
  rw [this, show fsN (chk n a c) n = fC n a c from rfl, chk_get (fC_lt a c h1)]
  rfl
theorem chk_idx {n : Nat} {a : List Int} {c : Nat} (h1 : 1 ≤ n) (h : c * n + n ≤ a.length) : Lib.idxOf (chk n a c) (mC n a c) = fC n a c := by
  have hl := chk_length h
  have := idx_fsN (chk n a c) n h1 (by omega)
  rw [List.take_of_length_le (by omega), show fsN (chk n a c) n = fC n a c from rfl, chk_get (fC_lt a c h1)] at this
  exact this
theorem cm_div {n c j : Nat} (hj : j < n) : (c * n + j) / n = c := by
  rw [Nat.mul_comm, Nat.mul_add_div (by omega), Nat.div_eq_of_lt hj]; omega
theorem cm_mod {n c j : Nat} (hj : j < n) : (c * n + j) % n = j := by
  rw [Nat.mul_comm, Nat.mul_add_mod, Nat.mod_eq_of_lt hj]
theorem gC_at {n : Nat} (a : List Int) {c j : Nat} (hj : j < n) : gC n a (c * n + j) = (j == fC n a c) := by
  simp only [gC, cm_div hj, cm_mod hj]
/-- The text of one chunk. -/
theorem rep_x (k : Nat) : (⟨(Lib.repeatL (ByteArray.mk #[120]).data.toList k).toArray⟩ : ByteArray) = ⟨(List.replicate k 120).toArray⟩ := by
  have := Lib.repeatL_replicate 120 1 k
  simp at this
  rw [show (ByteArray.mk #[120]).data.toList = [120] from rfl, this]
theorem range_one (n k : Nat) (hk : k < n) : (List.range n).map (fun i => gB (i == k)) = List.replicate k 120 ++ 111 :: List.replicate (n - k - 1) 120 := by
  apply List.ext_getElem
  · simp; omega
  · intro i h1 h2
    simp only [List.getElem_map, List.getElem_range]
    by_cases h : i < k
    · rw [List.getElem_append_left (by simpa using h)]
      have : (i == k) = false := by simp; omega
      simp [this, gB]
    · rw [List.getElem_append_right (by simp; omega)]
      by_cases e : i = k
      · subst e; simp [gB]
      · have h3 : (i == k) = false := by simp [e]
        obtain ⟨q, hq⟩ : ∃ q, i - (List.replicate k (120 : UInt8)).length = q + 1 := ⟨i - k - 1, by simp; omega⟩
        simp only [hq, List.getElem_cons_succ, List.getElem_replicate, h3, gB]
        rfl
theorem gT_chunk (n : Nat) (a : List Int) (c : Nat) (h1 : 1 ≤ n) :
    gT (gC n a) (c * n + n) = gT (gC n a) (c * n) ++ ((⟨(List.replicate (fC n a c) 120).toArray⟩ ++ ⟨#[111]⟩) ++ ⟨(List.replicate (n - fC n a c - 1) 120).toArray⟩) := by
  have e : (List.range (c * n + n)).map (fun i => gB (gC n a i)) = (List.range (c * n)).map (fun i => gB (gC n a i)) ++ (List.replicate (fC n a c) 120 ++ 111 :: List.replicate (n - fC n a c - 1) 120) := by
    rw [List.range_add, List.map_append, ← range_one n (fC n a c) (fC_lt a c h1), List.map_map]
    congr 1
    apply List.map_congr_left
    intro j hj
    show gB (gC n a (c * n + j)) = _
    rw [gC_at a (List.mem_range.1 hj)]
  have m1 := ByteArray.mk_append_mk (List.replicate (fC n a c) 120) [111]
  have m2 := ByteArray.mk_append_mk (List.replicate (fC n a c) 120 ++ [111]) (List.replicate (n - fC n a c - 1) 120)
  have m3 := ByteArray.mk_append_mk ((List.range (c * n)).map (fun i => gB (gC n a i))) ((List.replicate (fC n a c) 120 ++ [111]) ++ List.replicate (n - fC n a c - 1) 120)
  show (⟨((List.range (c * n + n)).map (fun i => gB (gC n a i))).toArray⟩ : ByteArray) = _
  rw [e, show (⟨#[111]⟩ : ByteArray) = ⟨[111].toArray⟩ from rfl, m1, m2]
  rw [show gT (gC n a) (c * n) = ⟨((List.range (c * n)).map (fun i => gB (gC n a i))).toArray⟩ from rfl, m3]
  simp
/-- How many chunks' firsts have been met ahead of place i. -/
def nxC (n : Nat) (a : List Int) (i : Nat) : Nat := if i % n ≤ fC n a (i / n) then i / n else i / n + 1
theorem nxC_at {n : Nat} (a : List Int) {c j : Nat} (hj : j < n) : nxC n a (c * n + j) = if j ≤ fC n a c then c else c + 1 := by
  simp only [nxC, cm_div hj, cm_mod hj]
theorem nxC_zero (n : Nat) (a : List Int) : nxC n a 0 = 0 := by simp [nxC]
theorem nxC_all {n : Nat} (a : List Int) (m : Nat) (h : 1 ≤ n) : nxC n a (m * n) = m := by
  have := nxC_at a (c := m) (show 0 < n from h)
  simpa using this
theorem nxC_on {n : Nat} (a : List Int) (i : Nat) (h : 1 ≤ n) (hg : gC n a i = true) : nxC n a (i + 1) = nxC n a i + 1 ∧ nxC n a i = i / n ∧ i = nxC n a i * n + fC n a (nxC n a i) := by
  obtain ⟨c, j, hj, rfl⟩ : ∃ c j, j < n ∧ i = c * n + j := ⟨i / n, i % n, Nat.mod_lt _ h, by rw [Nat.mul_comm]; exact (Nat.div_add_mod i n).symm⟩
  rw [gC_at a hj] at hg
  have e : j = fC n a c := by simpa using hg
  have e1 : nxC n a (c * n + j) = c := by rw [nxC_at a hj, if_pos (by omega)]
  rw [e1, cm_div hj]
  refine ⟨?_, rfl, by rw [e]⟩
  by_cases hl : j + 1 < n
  · have := nxC_at a (c := c) hl
    rw [← Nat.add_assoc] at this
    rw [this, if_neg (by omega)]
  · have : c * n + j + 1 = (c + 1) * n := by rw [Nat.add_mul]; omega
    rw [this, nxC_all a _ h]
theorem nxC_off {n : Nat} (a : List Int) (i : Nat) (h : 1 ≤ n) (hg : gC n a i = false) : nxC n a (i + 1) = nxC n a i := by
  obtain ⟨c, j, hj, rfl⟩ : ∃ c j, j < n ∧ i = c * n + j := ⟨i / n, i % n, Nat.mod_lt _ h, by rw [Nat.mul_comm]; exact (Nat.div_add_mod i n).symm⟩
  rw [gC_at a hj] at hg
  have e : ¬ j = fC n a c := by simpa using hg
  rw [nxC_at a hj]
  by_cases hl : j + 1 < n
  · have := nxC_at a (c := c) hl
    rw [← Nat.add_assoc] at this
    rw [this]
    by_cases h2 : j ≤ fC n a c
    · rw [if_pos h2, if_pos (by omega)]
    · rw [if_neg h2, if_neg (by omega)]
  · have h2 := fC_lt a c h
    have : c * n + j + 1 = (c + 1) * n := by rw [Nat.add_mul]; omega
    rw [this, nxC_all a _ h, if_neg (by omega)]
/-- The greatest of each chunk; what is laid where they are. -/
def maxs (n m : Nat) (a : List Int) : List Int := (List.range m).map (mC n a)
theorem maxs_length (n m : Nat) (a : List Int) : (maxs n m a).length = m := by simp [maxs]
theorem maxs_zero (n : Nat) (a : List Int) : maxs n 0 a = [] := rfl
theorem maxs_snoc (n m : Nat) (a : List Int) : maxs n (m + 1) a = maxs n m a ++ [mC n a m] := by simp [maxs, List.range_succ]
theorem maxs_on {n : Nat} (a : List Int) (i : Nat) (h : 1 ≤ n) (hg : gC n a i = true) : maxs n (nxC n a (i + 1)) a = maxs n (nxC n a i) a ++ [a.getD i 0] := by
  obtain ⟨h1, h2, h3⟩ := nxC_on a i h hg
  rw [h1, maxs_snoc]
  congr 2
  unfold mC
  rw [← h3]
def lyG (g : Nat → Bool) (F : Nat → Int) (n j : Nat) : List Int := (List.range n).map fun i => if i < j ∧ g i = true then F i else 0
theorem lyG_length (g : Nat → Bool) (F : Nat → Int) (n j : Nat) : (lyG g F n j).length = n := by simp [lyG]
theorem lyG_zero (g : Nat → Bool) (F : Nat → Int) (n : Nat) : lyG g F n 0 = List.replicate n 0 := by
  apply List.ext_getElem
  · simp [lyG]
  · intro i h1 h2
    simp [lyG]
theorem lyG_on (g : Nat → Bool) (F : Nat → Int) (n j : Nat) (h : g j = true) : (lyG g F n j).set j (F j) = lyG g F n (j + 1) := by
  apply List.ext_getElem
  · simp [lyG]
  · intro i h1 h2
    simp only [List.getElem_set, lyG, List.getElem_map, List.getElem_range]
    by_cases e : j = i
    · subst e; simp [h]
    · rw [if_neg e]
      by_cases h3 : i < j
      · simp [h3, show i < j + 1 from by omega]
      · simp [h3, show ¬ i < j + 1 from by omega]
theorem lyG_off (g : Nat → Bool) (F : Nat → Int) (n j : Nat) (h : g j = false) : lyG g F n j = lyG g F n (j + 1) := by
  simp only [lyG]
  apply List.map_congr_left
  intro i hi
  by_cases e : i = j
  · subst e; simp [h]
  · by_cases h3 : i < j
    · simp [h3, show i < j + 1 from by omega]
    · simp [h3, show ¬ i < j + 1 from by omega]
theorem lyG_step (a b : List Int) (h : b.length = a.length) : lyG (fun i => decide (0 < a.getD i 0)) (fun i => b.getD i 0) a.length a.length = List.zipWith opG a b := by
  apply List.ext_getElem
  · simp [lyG]; omega
  · intro i h1 h2
    have h3 : i < a.length := by simpa [lyG] using h1
    have h4 : i < b.length := by omega
    simp [lyG, opG, h3, h4]
def picks (n : Nat) (a b : List Int) : List Int := (List.range a.length).map fun i => if gC n a i = true then b.getD (i / n) 0 else 0
theorem picks_length (n : Nat) (a b : List Int) : (picks n a b).length = a.length := by simp [picks]
theorem lyG_pick (n : Nat) (a b : List Int) (h : 1 ≤ n) : lyG (gC n a) (fun i => b.getD (nxC n a i) 0) a.length a.length = picks n a b := by
  simp only [lyG, picks]
  apply List.map_congr_left
  intro i hi
  have := List.mem_range.1 hi
  by_cases hg : gC n a i = true
  · simp [this, hg, (nxC_on a i h hg).2.1]
  · simp [hg]
end Go.Proofs.YtkojdigaoihkpaaGreatDoor

end
section
namespace Go.Proofs.YtkojdigaoihkpaaGreatDoor
set_option linter.unusedVariables false
set_option linter.unusedSimpArgs false
set_option maxRecDepth 100000
open Go.RowKit

set_option maxHeartbeats 400000 in
theorem opened_any (b : Bool) (w : World) :
    Calls Tryz.prog 158 #[.int .i32 (if b then 111 else 120)] w fun e w' => e = .returned (.bool b) ∧ w = w' := by
  have e1 : Utf8.encode 111 = ⟨#[111]⟩ := by decide +kernel
  have e2 : Utf8.encode 120 = ⟨#[120]⟩ := by decide +kernel
  cases b
  · go_enter Tryz.func158, Tryz.ntmps158
    go_wp2
    go_ret
    exact ⟨by first | rfl | decide +kernel | simp [e2], rfl⟩
  · go_enter Tryz.func158, Tryz.ntmps158
    go_wp2
    go_ret
    exact ⟨by first | rfl | decide +kernel | simp [e1], rfl⟩
/-- The gates that are open where a number is above 0. -/
def abG (d : List Int) (i : Nat) : Bool := decide (0 < d.getD i 0)
def abT (d : List Int) (k : Nat) : ByteArray := gT (abG d) k
theorem abT_size (d : List Int) (k : Nat) : (abT d k).size = k := gT_size _ _
theorem abT_snoc (d : List Int) (k : Nat) (h : k < d.length) : abT d (k + 1) = abT d k ++ ⟨#[gB (decide (0 < d[k]))]⟩ := by
  rw [abT, gT_snoc]
  simp [abT, abG, h]
set_option maxHeartbeats 1000000 in
theorem above_any {v : Value} {d : List Int} {w : World} (h : Ints w v d) (h1 : 1 ≤ d.length) (h64 : d.length ≤ 64) :
    Calls Tryz.prog 160 #[v] w fun e w' => e = .returned (.string (abT d d.length)) ∧ w = w' := by
  rcases h.cases with ⟨rfl, _⟩ | ⟨b, off, c, rfl, h0, hc, hb, HC⟩
  · simp at h1
  clear h
  go_enter Tryz.func160, Tryz.ntmps160
  go_wp2
  go_loop [3, 8] (fun t i => ∃ k : Nat, k ≤ d.length ∧ i = .int .i64 k ∧ t = .string (abT d k)) (fun _ i => d.length - (intOf i).toNat)
  case atStart => exact ⟨0, Nat.zero_le _, rfl, rfl⟩
  case round =>
    obtain ⟨k, hk, rfl, rfl⟩ := hrel
    by_cases hlt : k < d.length
    · have hx := HC.out k hlt
      have HS : Hid (abT d (k + 1) = abT d k ++ ⟨#[gB (decide (0 < d[k]))]⟩) := abT_snoc d k hlt
      have hz : (abT d k).size ≤ 64 := by rw [abT_size]; omega
      by_cases hp : 0 < d[k]
      · have HG : Hid (gB (decide (0 < d[k])) = 111) := by show _ = _; simp [hp, gB]
        go_wp2
        refine ⟨⟨k + 1, by omega, by go_num, ?_⟩, by simp [intOf]; omega⟩
        rw [HS.out, HG.out]
      · have HG : Hid (gB (decide (0 < d[k])) = 120) := by show _ = _; simp [hp, gB]
        go_wp2
        refine ⟨⟨k + 1, by omega, by go_num, ?_⟩, by simp [intOf]; omega⟩
        rw [HS.out, HG.out]
    · have hk' : k = d.length := by omega
      subst hk'
      go_wp2
      go_ret
      exact ⟨rfl, rfl⟩
theorem rep_any (k : Nat) (hk : k ≤ 8) (w : World) :
    Calls Tryz.prog 167 #[.string ⟨#[120]⟩, .int .i64 k] w fun e w' => e = .returned (.string ⟨(List.replicate k 120).toArray⟩) ∧ Below w.heap.size w w' := by
  refine (rep_shelf ⟨#[120]⟩ k w (by omega) (by show 1 * k ≤ _; omega)).mono ?_
  rintro e w' ⟨rfl, hb⟩
  exact ⟨by rw [rep_x], hb⟩
/-- The c-th n of what lies at b, off. -/
theorem cmax_any {b off n c cap : Nat} {a : List Int} {w : World} (h1 : 1 ≤ n) (h8 : n ≤ 8) (h : c * n + n ≤ a.length)
    (hc : ∀ i, i < a.length → w.cell? ⟨b, off + i, none⟩ = some (.int .i64 (a.getD i 0))) :
    Calls Tryz.prog 55 #[.slice (some ⟨b, off + c * n, none⟩) n cap] w fun e w' => e = .returned (.int .i64 (mC n a c)) ∧ w' = w := by
  have hl := chk_length h
  refine (max_shelf b (off + c * n) n cap (chk n a c) w h1 (by omega) (by omega) ?_).mono ?_
  · intro j hj
    rw [chk_get (by omega), Nat.add_assoc]
    exact hc _ (by omega)
  · rintro e w' ⟨rfl, rfl⟩
    rw [List.take_of_length_le (by omega), chk_max h1 h]
    exact ⟨rfl, rfl⟩
theorem cidx_any {b off n c cap : Nat} {a : List Int} {w : World} (h1 : 1 ≤ n) (h8 : n ≤ 8) (h : c * n + n ≤ a.length)
    (hc : ∀ i, i < a.length → w.cell? ⟨b, off + i, none⟩ = some (.int .i64 (a.getD i 0))) :
    Calls Tryz.prog 166 #[.slice (some ⟨b, off + c * n, none⟩) n cap, .int .i64 (mC n a c)] w fun e w' => e = .returned (.int .i64 (fC n a c)) ∧ w' = w := by
  have hl := chk_length h
  refine (idx_shelf b (off + c * n) n cap (chk n a c) (mC n a c) w (by omega) (by omega) ?_).mono ?_
  · intro j hj
    rw [chk_get (by omega), Nat.add_assoc]
    exact hc _ (by omega)
  · rintro e w' ⟨rfl, rfl⟩
    rw [List.take_of_length_le (by omega), chk_idx h1 h]
    exact ⟨rfl, rfl⟩
end Go.Proofs.YtkojdigaoihkpaaGreatDoor

end
section
namespace Go.Proofs.YtkojdigaoihkpaaGreatDoor
set_option linter.unusedVariables false
set_option linter.unusedSimpArgs false
set_option maxRecDepth 100000
open Go.RowKit Go.Shelf
attribute [local go_sem] Oper.semAt_some

/-- What lies below N is as it was, but for block T. -/
def Kpt (N T : Nat) (W W' : World) : Prop := ∀ k, k < N → k ≠ T → W'.heap[k]? = W.heap[k]?
theorem Kpt.refl (N T : Nat) (W : World) : Kpt N T W W := fun _ _ _ => rfl
theorem Kpt.trans {N T : Nat} {A B C : World} (h : Kpt N T A B) (k : Kpt N T B C) : Kpt N T A C := fun i hi hT => (k i hi hT).trans (h i hi hT)
theorem Kpt.cell {N T : Nat} {A B : World} (h : Kpt N T A B) {p : Addr} (h1 : p.block < N) (h2 : p.block ≠ T) : B.cell? p = A.cell? p := World.cell?_of_block (h _ h1 h2)
theorem grown_drew (w : World) : w.grownBy w.drew none := ⟨rfl, rfl, rfl, Nat.le_refl _, fun _ _ _ => rfl⟩
set_option maxRecDepth 100000 in
set_option maxHeartbeats 2000000 in
theorem chunk1_in (n : Nat) (hn : 1 ≤ n) (l Bs Bn N T b off q m L cap : Nat) (hq : 1 ≤ q) (hq8 : q ≤ 8) (hL : m * q = L) (hL64 : L ≤ 64) (hcap : L ≤ cap)
    (hbs : Bs < N) (hbs' : Bs ≠ T) (hbn : Bn < N) (hbn' : Bn ≠ T) (J Jx : List (Fin m) → World → Prop) (hJd : ∀ s W, J s W → J s W.drew)
    (hY : ∀ pre (x : Fin m) W, J pre W → pre.length < m → YieldAt Fence.wide (n - 1) Tryz.prog l #[.slice (some ⟨b, off + x.1 * q, none⟩) q q] W fun e W' =>
      (e = .returned (.bool true) ∧ J (pre ++ [x]) W' ∧ Kpt N T W W') ∨ (e = .returned (.bool false) ∧ Jx (pre ++ [x]) W'))
    (W : World) (h1 : W.cell? ⟨Bs, 0, none⟩ = some (.slice (some ⟨b, off, none⟩) L cap)) (h2 : W.cell? ⟨Bn, 0, none⟩ = some (.int .i64 q)) (h0 : J [] W) :
    CallsIn Fence.wide n Tryz.prog 168 #[.func (.yield l) #[] #[], .pointer (some ⟨Bs, 0, none⟩), .pointer (some ⟨Bn, 0, none⟩)] W fun e W' => (∃ v, e = .returned v) ∧
      ((∃ ys : List (Fin m), ys.map (·.1) = List.range m ∧ J ys W') ∨ (∃ pre, True ∧ Jx pre W')) := by
  refine callsIn_of_wp Tryz.func168 rfl trivial ?_ rfl
  simp only [Tryz.ntmps168, List.size_toArray, List.length_cons, List.length_nil, Nat.reduceAdd, Nat.reduceSub, Array.replicate_succ, Array.replicate_zero, List.push_toArray, List.append_toArray, List.nil_append, List.cons_append]
  gi_wp2
  gi_loopw [4] (fun i wr => ∃ (c I : Nat) (pre : List (Fin m)), c ≤ m ∧ c * q = I ∧ i = .int .i64 I ∧ pre.map (·.1) = List.range c ∧ J pre wr ∧ Kpt N T W wr) (fun i _ => L - (intOf i).toNat)
  case atStart => exact ⟨0, 0, [], Nat.zero_le _, by simp, rfl, rfl, h0, Kpt.refl _ _ _⟩
  case round =>
    obtain ⟨c, I, pre, hc, hI, rfl, hpre, hJs, hk⟩ := hrel
    have c1 : wr.cell? ⟨Bs, 0, none⟩ = _ := (hk.cell hbs hbs').trans h1
    have c2 : wr.cell? ⟨Bn, 0, none⟩ = _ := (hk.cell hbn hbn').trans h2
    by_cases hlt : c < m
    · have hIq : I + q ≤ L := by
        rw [← hI, ← hL]
        have := Nat.mul_le_mul_right q (show c + 1 ≤ m from hlt)
        rw [Nat.add_mul] at this
        omega
      have hmx : Tryz.prog.follows .mixedOrders = true := by kernel_rfl
      have hm1 : (min (q : Int) ((L - I : Nat) : Int)) = q := by omega
      have hm2 : ((I : Int) + (q : Int)).toNat - I = q := by omega
      obtain ⟨fn, tmps, assign, body, hy, hR⟩ := hY pre ⟨c, hlt⟩ wr.drew (hJd _ _ hJs) (by have := congrArg List.length hpre; simp at this; omega)
      dsimp only at hy
      rw [hI] at hy
      gi_wp2
      gi_region_with_o (fail)
      all_goals gi_wp2
      all_goals
        refine hR.mono ?_
        rintro e W3 (⟨rfl, hJ3, hk3⟩ | ⟨rfl, hJx3⟩)
        · have c3 : W3.cell? ⟨Bn, 0, none⟩ = _ := (hk3.cell hbn hbn').trans c2
          gi_wp2
          go_roundw
          case rel => exact ⟨c + 1, I + q, _, by omega, by rw [← hI, Nat.add_mul, Nat.one_mul], by simp, by rw [List.map_append, hpre, List.range_succ]; rfl, hJ3, hk.trans hk3⟩
          case measure => simp [intOf]; omega
        · gi_wp2
          refine bodyPost_ret (results_none rfl _ _ _) rfl ?_
          exact ⟨⟨_, rfl⟩, .inr ⟨_, trivial, hJx3⟩⟩
    · obtain rfl : c = m := by omega
      obtain rfl : L = I := by omega
      gi_wp2
      go_end0
      exact ⟨⟨_, rfl⟩, .inl ⟨_, hpre, hJs⟩⟩
end Go.Proofs.YtkojdigaoihkpaaGreatDoor

end
section
namespace Go.Proofs.YtkojdigaoihkpaaGreatDoor
set_option linter.unusedVariables false
set_option linter.unusedSimpArgs false
set_option maxRecDepth 100000
open Go.RowKit

theorem filter_lt {α : Type} {p q : α → Bool} : ∀ (l : List α), (∀ x ∈ l, q x = true → p x = true) → (∃ x ∈ l, p x = true ∧ q x = false) → (l.filter q).length < (l.filter p).length
  | [], _, ⟨x, hx, _⟩ => by simp at hx
  | y :: l, h, ⟨x, hx, hp, hq⟩ => by
    have hle : ∀ (l : List α), (∀ x ∈ l, q x = true → p x = true) → (l.filter q).length ≤ (l.filter p).length := by
      intro l
      induction l with
      | nil => intro _; simp
      | cons z l ih =>
        intro h
        have h1 := ih (fun x hx => h x (List.mem_cons_of_mem _ hx))
        have h2 := h z (List.mem_cons_self ..)
        simp only [List.filter_cons]
        cases hqz : q z <;> cases hpz : p z <;> simp_all <;> omega
    have h1 := hle l (fun x hx => h x (List.mem_cons_of_mem _ hx))
    simp only [List.filter_cons]
    rcases List.mem_cons.1 hx with rfl | hx
    · simp only [hp, hq]
      simp
      omega
    · have h2 := filter_lt l (fun x hx => h x (List.mem_cons_of_mem _ hx)) ⟨x, hx, hp, hq⟩
      have h3 := h y (List.mem_cons_self ..)
      cases hqz : q y <;> cases hpz : p y <;> simp_all <;> omega
section
variable {P : Program} {ops : Array Oper} {Q : Exit → Act → World → Prop} {md : Region.Mode}
/-- How many have not come up. -/
def unl (ops : Array Oper) (listed : Array Bool) : Nat := ((List.range ops.size).filter fun i => !listed.getD i true).length
theorem ready_at {listed : Array Bool} {i : Nat} (hi : i ∈ Region.ready md ops listed) : i < ops.size ∧ listed.getD i true = false ∧ ((ops[i]?).map (·.after.all fun e => !Region.binds md e || listed.getD e.on false)).getD false = true := by
  obtain ⟨h1, h2⟩ := List.mem_filter.1 hi
  simp only [Bool.and_eq_true, Bool.not_eq_true'] at h2
  exact ⟨List.mem_range.1 h1, h2.1, h2.2⟩
theorem listed_lt {listed : Array Bool} {i : Nat} (h : listed.getD i true = false) : i < listed.size := by
  rcases Nat.lt_or_ge i listed.size with h1 | h1
  · exact h1
  · simp [Array.getElem?_eq_none h1] at h
theorem getD_now {listed : Array Bool} {i : Nat} (h : i < listed.size) (x : Bool) : (listed.setIfInBounds i true).getD i x = true := by
  simp [h]
theorem getD_else {listed : Array Bool} {i k : Nat} (h : i ≠ k) (x : Bool) : (listed.setIfInBounds i true).getD k x = listed.getD k x := by
  simp [Array.getElem?_setIfInBounds, h]
theorem unl_less {listed : Array Bool} {i : Nat} (h1 : i < ops.size) (h2 : listed.getD i true = false) : unl ops (listed.setIfInBounds i true) < unl ops listed := by
  refine filter_lt _ (fun k _ hk => ?_) ⟨i, List.mem_range.2 h1, by rw [h2]; rfl, by rw [getD_now (listed_lt h2)]; rfl⟩
  by_cases e : i = k
  · subst e
    rw [getD_now (listed_lt h2)] at hk
    cases hk
  · rw [getD_else e] at hk
    exact hk
/-- One operation waits for another. -/
def waitsFor (ops : Array Oper) (i d : Nat) : Bool := ((ops[i]?).map (·.after.any fun e => Region.binds .any e && e.on == d)).getD false
theorem ready_dep {listed : Array Bool} {i d : Nat} (hi : i ∈ Region.ready .any ops listed) (h : waitsFor ops i d = true) : listed.getD d false = true := by
  obtain ⟨_, _, h3⟩ := ready_at hi
  unfold waitsFor at h
  cases ho : ops[i]? with
  | none => rw [ho] at h; simp at h
  | some o =>
    rw [ho] at h h3
    simp only [Option.map_some, Option.getD_some, Array.any_eq_true, Array.all_eq_true] at h h3
    obtain ⟨j, hj, hb⟩ := h
    have := h3 j hj
    simp only [Bool.and_eq_true, beq_iff_eq] at hb
    rw [hb.1] at this
    simp only [Bool.not_true, Bool.false_or] at this
    rw [hb.2] at this
    exact this
/-- Each operation waits for earlier ones alone. -/
def earlier (ops : Array Oper) : Bool := (List.range ops.size).all fun i => ((ops[i]?).map (·.after.all fun e => decide (e.on < i))).getD true
theorem allDone {listed : Array Bool} (he : earlier ops = true) (hl : listed.size = ops.size) (hr : Region.ready .any ops listed = []) : ∀ k, k < ops.size → listed.getD k true = true := by
  intro k
  induction k using Nat.strongRecOn with
  | _ k ih =>
    intro hk
    cases hu : listed.getD k true with
    | true => rfl
    | false =>
      exfalso
      have hmem : k ∈ Region.ready .any ops listed := by
        refine List.mem_filter.2 ⟨List.mem_range.2 hk, ?_⟩
        have ho : ops[k]? = some ops[k] := by simp [hk]
        have h1 := List.all_eq_true.1 he k (List.mem_range.2 hk)
        rw [ho] at h1
        simp only [Option.map_some, Option.getD_some, Array.all_eq_true, decide_eq_true_eq] at h1
        rw [hu, ho]
        simp only [Bool.not_false, Bool.true_and, Option.map_some, Option.getD_some, Array.all_eq_true]
        intro j hj
        have h2 := h1 j hj
        have h3 := ih _ h2 (by omega)
        have h4 : listed.getD (ops[k].after[j]).on false = true := by
          have hs : (ops[k].after[j]).on < listed.size := by omega
          simp [hs] at h3 ⊢
          exact h3
        rw [h4]
        simp
      rw [hr] at hmem
      simp at hmem
/-- Which operation stands there. -/
def OpAt (ops : Array Oper) (i : Nat) (d : Option Nat) (op : Op) : Prop := ∃ o, ops[i]? = some o ∧ o.dst = d ∧ o.op = op ∧ o.guard = none
end
def regs : Code → List (Nat × Code)
  | .loop c => regs c
  | .seq a b => regs a ++ regs b
  | .block _ c => regs c
  | .scope c => regs c
  | .cond _ a b => regs a ++ regs b
  | .region i o b => [(i, .region i o b)]
  | .rangeFunc _ _ a b => regs a ++ regs b
  | _ => []
def opsOf : Code → Array Oper
  | .region _ o _ => o
  | _ => #[]
theorem put_get {a : Act} {s t : Nat} {v : Value} (hs : s < a.tmps.size) : (a.put (some s) v).tmps.getD t undef = if t = s then v else a.tmps.getD t undef := by
  by_cases e : t = s
  · subst e
    simp [Act.put, hs]
  · have e' : ¬ s = t := fun h => e h.symm
    simp [Act.put, e, Array.getElem?_setIfInBounds, e']
end Go.Proofs.YtkojdigaoihkpaaGreatDoor

end
section
namespace Go.Proofs.YtkojdigaoihkpaaGreatDoor
set_option linter.unusedVariables false
set_option linter.unusedSimpArgs false
set_option maxRecDepth 100000
open Go.RowKit Go.Shelf

section
variable {P : Program} {ops : Array Oper} {Q : Exit → Act → World → Prop} {md : Region.Mode} {F : Fence} {n l : Nat}
theorem wpAnyIn_inv {I : Array Bool → Act → World → Prop}
    (step : ∀ listed a w, I listed a w → ∀ i ∈ Region.ready md ops listed, wpOpIn F n P ops Q i (fun a' w' => I (listed.setIfInBounds i true) a' w') a w)
    (fin : ∀ listed a w, I listed a w → Region.ready md ops listed = [] → Q .normal a w) :
    ∀ (fuel : Nat) (listed : Array Bool) (a : Act) (w : World), I listed a w → unl ops listed ≤ fuel → wpAnyIn F n P md ops Q fuel listed a w
  | 0, listed, a, w, h, hf => by
    have hr : Region.ready md ops listed = [] := by
      rw [List.eq_nil_iff_forall_not_mem]
      intro i hi
      obtain ⟨h1, h2, _⟩ := ready_at hi
      have := unl_less (ops := ops) h1 h2
      omega
    exact ⟨hr, fin listed a w h hr⟩
  | fuel + 1, listed, a, w, h, hf => ⟨fun hr => fin listed a w h hr, fun i hi => wpOpIn_mono (fun a' w' h' => wpAnyIn_inv step fin fuel _ a' w' h' (by
      obtain ⟨h1, h2, _⟩ := ready_at hi
      have := unl_less (ops := ops) h1 h2
      omega)) (step listed a w h i hi)⟩
theorem wpIn_region_inv {id : Nat} {a : Act} {w : World} {I : Array Bool → Act → World → Prop} (hm : P.follows .mixedOrders = true)
    (start : I (Array.replicate ops.size false) a w.drew)
    (step : ∀ listed a w, I listed a w → ∀ i ∈ Region.ready .any ops listed, wpOpIn F n P ops Q i (fun a' w' => I (listed.setIfInBounds i true) a' w') a w)
    (fin : ∀ listed a w, I listed a w → Region.ready .any ops listed = [] → Q .normal a w) : (Code.region id ops true).wpIn F n P Q a w :=
  wpIn_region_any hm (wpAnyIn_inv step fin _ _ _ _ start (by
    unfold unl
    exact Nat.le_trans (List.length_filter_le _ _) (by simp)))
theorem inOp_value {i : Nat} {d : Option Nat} {op : Op} {K : Act → World → Prop} {a : Act} {w w' : World} {v : Value} (h : OpAt ops i d op) (hn : ∀ c, op ≠ .defer c) (hr : ∀ o : Oper, o.op = op → (execOp a.eval o).run P w = .ok (.value v) w') (hK : K (a.put d v) w') : wpOpIn (Fence.wide.inRound l) n P ops Q i K a w := by
  obtain ⟨o, ho, rfl, hop, hg⟩ := h
  unfold wpOpIn
  rw [ho]
  simp only [Region.wanted, hg, if_true]
  refine ⟨fun f _ => trivial, ?_⟩
  rw [Oper.semAt_eq _ _ _ (fun c e => hn c (hop ▸ e)), hr o hop]
  exact hK
theorem inOp_skip {i : Nat} {d : Option Nat} {op : Op} {K : Act → World → Prop} {a : Act} {w w' : World} (h : OpAt ops i d op) (hn : ∀ c, op ≠ .defer c) (hr : ∀ o : Oper, o.op = op → (execOp a.eval o).run P w = .ok .skip w') (hK : K (a.put d undef) w') : wpOpIn (Fence.wide.inRound l) n P ops Q i K a w := by
  obtain ⟨o, ho, rfl, hop, hg⟩ := h
  unfold wpOpIn
  rw [ho]
  simp only [Region.wanted, hg, if_true]
  refine ⟨fun f _ => trivial, ?_⟩
  rw [Oper.semAt_eq _ _ _ (fun c e => hn c (hop ▸ e)), hr o hop]
  exact hK
theorem inOp_call {i f : Nat} {d : Option Nat} {op : Op} {K : Act → World → Prop} {a : Act} {w w' : World} {args : Array Value} (h : OpAt ops i d op) (hn : ∀ c, op ≠ .defer c) (hr : ∀ o : Oper, o.op = op → (execOp a.eval o).run P w = .ok (.enter f args) w')
    (hK : Calls P f args w' fun e w'' => ∃ v, e = .returned v ∧ K (a.put d v) w'') : wpOpIn (Fence.wide.inRound l) n P ops Q i K a w := by
  obtain ⟨o, ho, rfl, hop, hg⟩ := h
  unfold wpOpIn
  rw [ho]
  simp only [Region.wanted, hg, if_true]
  refine ⟨fun f _ => trivial, ?_⟩
  rw [Oper.semAt_eq _ _ _ (fun c e => hn c (hop ▸ e)), hr o hop]
  refine ⟨fun h => (by cases h), CallsIn.inRound l (callsIn_wide.2 ?_)⟩
  refine Calls.mono hK fun e w'' h => ?_
  obtain ⟨v, rfl, h⟩ := h
  exact h
end
theorem Boxed.later {W W' : World} {B : Nat} {t : TypeId} {v : Value} (hb : Below W.heap.size W W') (h : Boxed W B t v) : Boxed W' B t v := (hb.block B h.lt).trans h
theorem mk_size (l : List UInt8) : (ByteArray.mk l.toArray).size = l.length := by simp [ByteArray.size]
noncomputable def fops : Array Oper := opsOf ((((Tryz.f157.body.map regs).getD []).getD 5 (0, .skip)).2)
theorem fsize : fops.size = 12 := by decide +kernel
theorem fa0 : OpAt fops 0 (some 16) (.load 9 (.tmp 5)) := ⟨_, rfl, rfl, rfl, rfl⟩
theorem fa1 : OpAt fops 1 (some 17) (.move (.tmp 7)) := ⟨_, rfl, rfl, rfl, rfl⟩
theorem fa2 : OpAt fops 2 (some 18) (.call { callee := .value (.func 167), args := #[.const (.string ⟨#[120]⟩), .tmp 17], argTypes := #[9, 3] }) := ⟨_, rfl, rfl, rfl, rfl⟩
theorem fa3 : OpAt fops 3 (some 19) (.binOp .add 9 (.tmp 18) (.const (.string ⟨#[111]⟩)) 9) := ⟨_, rfl, rfl, rfl, rfl⟩
theorem fa4 : OpAt fops 4 (some 20) (.load 3 (.tmp 3)) := ⟨_, rfl, rfl, rfl, rfl⟩
theorem fa5 : OpAt fops 5 (some 21) (.move (.tmp 7)) := ⟨_, rfl, rfl, rfl, rfl⟩
theorem fa6 : OpAt fops 6 (some 22) (.binOp .sub 3 (.tmp 20) (.tmp 21) 3) := ⟨_, rfl, rfl, rfl, rfl⟩
theorem fa7 : OpAt fops 7 (some 23) (.binOp .sub 3 (.tmp 22) (.const (.int .i64 1)) 3) := ⟨_, rfl, rfl, rfl, rfl⟩
theorem fa8 : OpAt fops 8 (some 24) (.call { callee := .value (.func 167), args := #[.const (.string ⟨#[120]⟩), .tmp 23], argTypes := #[9, 3] }) := ⟨_, rfl, rfl, rfl, rfl⟩
theorem fa9 : OpAt fops 9 (some 25) (.binOp .add 9 (.tmp 19) (.tmp 24) 9) := ⟨_, rfl, rfl, rfl, rfl⟩
theorem fa10 : OpAt fops 10 (some 26) (.binOp .add 9 (.tmp 16) (.tmp 25) 9) := ⟨_, rfl, rfl, rfl, rfl⟩
theorem fa11 : OpAt fops 11 none (.store 9 (.tmp 5) (.tmp 26)) := ⟨_, rfl, rfl, rfl, rfl⟩
theorem fw2_1 : waitsFor fops 2 1 = true := by decide +kernel
theorem fw3_2 : waitsFor fops 3 2 = true := by decide +kernel
theorem fw6_4 : waitsFor fops 6 4 = true := by decide +kernel
theorem fw6_5 : waitsFor fops 6 5 = true := by decide +kernel
theorem fw7_6 : waitsFor fops 7 6 = true := by decide +kernel
theorem fw8_7 : waitsFor fops 8 7 = true := by decide +kernel
theorem fw9_3 : waitsFor fops 9 3 = true := by decide +kernel
theorem fw9_8 : waitsFor fops 9 8 = true := by decide +kernel
theorem fw10_0 : waitsFor fops 10 0 = true := by decide +kernel
theorem fw10_9 : waitsFor fops 10 9 = true := by decide +kernel
theorem fw11_10 : waitsFor fops 11 10 = true := by decide +kernel
theorem fw11_all : ∀ k, k < 11 → waitsFor fops 11 k = true := by decide +kernel
theorem fearlier : earlier fops = true := by decide +kernel
/-- What each operation yields. -/
def fval (t X Y : ByteArray) (q F : Nat) : Nat → Value
  | 0 => .string t
  | 1 => .int .i64 F
  | 2 => .string X
  | 3 => .string (X ++ ⟨#[111]⟩)
  | 4 => .int .i64 q
  | 5 => .int .i64 F
  | 6 => .int .i64 ((q : Int) - F)
  | 7 => .int .i64 ((q : Int) - F - 1)
  | 8 => .string Y
  | 9 => .string ((X ++ ⟨#[111]⟩) ++ Y)
  | _ => .string (t ++ ((X ++ ⟨#[111]⟩) ++ Y))
structure FInv (W : World) (B T : Nat) (t X Y : ByteArray) (q F : Nat) (listed : Array Bool) (a : Act) (w : World) : Prop where
  df : a.defers = []
  sz : a.tmps.size = 28
  s3 : a.tmps.getD 3 undef = .pointer (some ⟨B, 0, none⟩)
  s5 : a.tmps.getD 5 undef = .pointer (some ⟨T, 0, none⟩)
  s7 : a.tmps.getD 7 undef = .int .i64 F
  ls : listed.size = 12
  vs : ∀ k, k < 11 → listed.getD k false = true → a.tmps.getD (16 + k) undef = fval t X Y q F k
  last : listed.getD 11 false = true → ∀ k, k < 11 → listed.getD k false = true
  wd : ∃ w2, Below W.heap.size W w2 ∧ ((listed.getD 11 false = false ∧ w = w2) ∨ (listed.getD 11 false = true ∧ w = w2.setCell ⟨T, 0, none⟩ (.string (t ++ ((X ++ ⟨#[111]⟩) ++ Y)))))
theorem FInv.put {W : World} {B T : Nat} {t X Y : ByteArray} {q F : Nat} {listed : Array Bool} {a : Act} {w w' : World} (h : FInv W B T t X Y q F listed a w) (i : Nat) (hi : i < 11) (hl : listed.getD 11 false = false)
    (hb : Below w.heap.size w w') : FInv W B T t X Y q F (listed.setIfInBounds i true) (a.put (some (16 + i)) (fval t X Y q F i)) w' where
  df := h.df
  sz := by simp [Act.put, h.sz]
  s3 := by rw [put_get (by rw [h.sz]; omega), if_neg (by omega)]; exact h.s3
  s5 := by rw [put_get (by rw [h.sz]; omega), if_neg (by omega)]; exact h.s5
  s7 := by rw [put_get (by rw [h.sz]; omega), if_neg (by omega)]; exact h.s7
  ls := by simp [h.ls]
  vs := by
    intro k hk hlk
    rw [put_get (by rw [h.sz]; omega)]
    by_cases e : k = i
    · subst e
      rw [if_pos rfl]
    · rw [if_neg (by omega)]
      rw [getD_else (fun x => e x.symm)] at hlk
      exact h.vs k hk hlk
  last := by
    intro h1
    rw [getD_else (by omega), hl] at h1
    cases h1
  wd := by
    obtain ⟨w2, hb2, h1 | h1⟩ := h.wd
    · refine ⟨w', ?_, .inl ⟨by rw [getD_else (by omega)]; exact hl, rfl⟩⟩
      rw [h1.2] at hb
      exact Below.after hb2 hb
    · rw [hl] at h1
      cases h1.1
theorem FInv.early {W : World} {B T : Nat} {t X Y : ByteArray} {q F : Nat} {listed : Array Bool} {a : Act} {w : World} (h : FInv W B T t X Y q F listed a w) (hl : listed.getD 11 false = false) : Below W.heap.size W w := by
  obtain ⟨w2, hb2, h1 | h1⟩ := h.wd
  · rw [h1.2]; exact hb2
  · rw [hl] at h1; cases h1.1
theorem getD_ff {listed : Array Bool} {i : Nat} (h : listed.getD i true = false) : listed.getD i false = false := by
  rcases Nat.lt_or_ge i listed.size with h1 | h1
  · simp [h1] at h ⊢
    exact h
  · simp [Array.getElem?_eq_none h1] at h
section
variable {W : World} {B T : Nat} {t X Y : ByteArray} {q F : Nat} {listed : Array Bool} {a : Act} {w : World}
/-- What stands when an operation ahead of the store is to come up. -/
structure FNow (W : World) (B T : Nat) (t X Y : ByteArray) (q F : Nat) (listed : Array Bool) (a : Act) (w : World) : Prop where
  inv : FInv W B T t X Y q F listed a w
  open' : listed.getD 11 false = false
  bel : Below W.heap.size W w
theorem FInv.now (h : FInv W B T t X Y q F listed a w) {i : Nat} (hi : i < 11) (hr : i ∈ Region.ready .any fops listed) : FNow W B T t X Y q F listed a w := by
  have h1 := getD_ff (ready_at hr).2.1
  have h2 : listed.getD 11 false = false := by
    cases e : listed.getD 11 false with
    | false => rfl
    | true =>
      have := h.last e i hi
      rw [h1] at this
      cases this
  exact ⟨h, h2, h.early h2⟩
theorem FInv.dep (h : FInv W B T t X Y q F listed a w) {i k : Nat} (hk : k < 11) (hr : i ∈ Region.ready .any fops listed) (hw : waitsFor fops i k = true) : a.tmps.getD (16 + k) undef = fval t X Y q F k :=
  h.vs k hk (ready_dep hr hw)
theorem ev {a : Act} {k : Nat} {v : Value} (h : a.tmps.getD k undef = v) : a.eval (.tmp k) = v := h

set_option maxHeartbeats 1000000 in
theorem fstep {l n : Nat} {Q : Exit → Act → World → Prop} (hT : Boxed W T 9 (.string t)) (hB : Boxed W B 3 (.int .i64 q)) (hF : F < q) (hq : q ≤ 8) (ht : t.size ≤ 64) (hX : X = ⟨(List.replicate F 120).toArray⟩) (hY : Y = ⟨(List.replicate (q - F - 1) 120).toArray⟩)
    (h : FInv W B T t X Y q F listed a w) (i : Nat) (hr : i ∈ Region.ready .any fops listed) :
    wpOpIn (Fence.wide.inRound l) n Tryz.prog fops Q i (fun a' w' => FInv W B T t X Y q F (listed.setIfInBounds i true) a' w') a w := by
  have hi : i < 12 := by have := (ready_at hr).1; rw [fsize] at this; exact this
  have sX : X.size ≤ 8 := by rw [hX, mk_size, List.length_replicate]; omega
  have sY : Y.size ≤ 8 := by rw [hY, mk_size, List.length_replicate]; omega
  have s1 : (X ++ (⟨#[111]⟩ : ByteArray)).size ≤ 9 := by rw [ByteArray.size_append, show (⟨#[111]⟩ : ByteArray).size = 1 from rfl]; omega
  have s2 : ((X ++ (⟨#[111]⟩ : ByteArray)) ++ Y).size ≤ 17 := by rw [ByteArray.size_append]; omega
  have w1 : IntKind.i64.wrap ((q : Int) - (F : Int)) = (q : Int) - (F : Int) := wrap_small _ (by omega) (by omega)
  have w2 : IntKind.i64.wrap ((q : Int) - (F : Int) - 1) = (q : Int) - (F : Int) - 1 := wrap_small _ (by omega) (by omega)
  have c : i = 0 ∨ i = 1 ∨ i = 2 ∨ i = 3 ∨ i = 4 ∨ i = 5 ∨ i = 6 ∨ i = 7 ∨ i = 8 ∨ i = 9 ∨ i = 10 ∨ i = 11 := by omega
  rcases c with rfl | rfl | rfl | rfl | rfl | rfl | rfl | rfl | rfl | rfl | rfl | rfl
  · have N := h.now (by omega) hr
    have hc := (Boxed.later N.bel hT).cell
    refine inOp_value fa0 (fun c e => by cases e) (fun o ho => ?_) (h.put 0 (by omega) N.open' (Below.refl _ _))
    simp only [execOp, ho, ev h.s5]
    simp [go_sem, hc, fval]
  · have N := h.now (by omega) hr
    refine inOp_value fa1 (fun c e => by cases e) (fun o ho => ?_) (h.put 1 (by omega) N.open' (Below.refl _ _))
    simp only [execOp, ho, ev h.s7]
    simp [go_sem, fval]
  · have N := h.now (by omega) hr
    have d1 := h.dep (by omega) hr fw2_1
    refine inOp_call fa2 (fun c e => by cases e) (fun o ho => ?_) (w' := w) (f := 167) (args := #[.string ⟨#[120]⟩, .int .i64 F]) ?_
    · simp only [execOp, ho]
      simp [go_sem, ev d1, fval]
      simpa [fval] using d1
    · refine (rep_any F (by omega) w).mono ?_
      rintro e w' ⟨rfl, hb⟩
      have := h.put 2 (by omega) N.open' hb
      rw [fval, hX] at this
      exact ⟨_, rfl, by rw [hX]; exact this⟩
  · have N := h.now (by omega) hr
    have d1 := h.dep (by omega) hr fw3_2
    refine inOp_value fa3 (fun c e => by cases e) (fun o ho => ?_) (h.put 3 (by omega) N.open' (Below.refl _ _))
    simp only [execOp, ho, ev d1]
    simp [go_sem, fval]
    omega
  · have N := h.now (by omega) hr
    have hc := (Boxed.later N.bel hB).cell
    refine inOp_value fa4 (fun c e => by cases e) (fun o ho => ?_) (h.put 4 (by omega) N.open' (Below.refl _ _))
    simp only [execOp, ho, ev h.s3]
    simp [go_sem, hc, fval]
  · have N := h.now (by omega) hr
    refine inOp_value fa5 (fun c e => by cases e) (fun o ho => ?_) (h.put 5 (by omega) N.open' (Below.refl _ _))
    simp only [execOp, ho, ev h.s7]
    simp [go_sem, fval]
  · have N := h.now (by omega) hr
    have d1 := h.dep (by omega) hr fw6_4
    have d2 := h.dep (by omega) hr fw6_5
    refine inOp_value fa6 (fun c e => by cases e) (fun o ho => ?_) (h.put 6 (by omega) N.open' (Below.refl _ _))
    simp only [execOp, ho, ev d1, ev d2]
    simp [go_sem, fval, w1]
  · have N := h.now (by omega) hr
    have d1 := h.dep (by omega) hr fw7_6
    refine inOp_value fa7 (fun c e => by cases e) (fun o ho => ?_) (h.put 7 (by omega) N.open' (Below.refl _ _))
    simp only [execOp, ho, ev d1]
    simp [go_sem, fval, w2]
  · have N := h.now (by omega) hr
    have d1 := h.dep (by omega) hr fw8_7
    refine inOp_call fa8 (fun c e => by cases e) (fun o ho => ?_) (w' := w) (f := 167) (args := #[.string ⟨#[120]⟩, .int .i64 ((q : Int) - F - 1)]) ?_
    · simp only [execOp, ho]
      simp [go_sem, ev d1, fval]
      simpa [fval] using d1
    · have e0 : ((q : Int) - F - 1) = ((q - F - 1 : Nat) : Int) := by omega
      rw [e0]
      refine (rep_any (q - F - 1) (by omega) w).mono ?_
      rintro e w' ⟨rfl, hb⟩
      have := h.put 8 (by omega) N.open' hb
      rw [fval, hY] at this
      exact ⟨_, rfl, by rw [hY]; exact this⟩
  · have N := h.now (by omega) hr
    have d1 := h.dep (by omega) hr fw9_3
    have d2 := h.dep (by omega) hr fw9_8
    refine inOp_value fa9 (fun c e => by cases e) (fun o ho => ?_) (h.put 9 (by omega) N.open' (Below.refl _ _))
    simp only [execOp, ho, ev d1, ev d2]
    simp [go_sem, fval]
    omega
  · have N := h.now (by omega) hr
    have d1 := h.dep (by omega) hr fw10_0
    have d2 := h.dep (by omega) hr fw10_9
    refine inOp_value fa10 (fun c e => by cases e) (fun o ho => ?_) (h.put 10 (by omega) N.open' (Below.refl _ _))
    simp only [execOp, ho, ev d1, ev d2]
    simp [go_sem, fval]
    omega
  · have d1 := h.dep (by omega) hr fw11_10
    have h2 := getD_ff (ready_at hr).2.1
    have hbel := h.early h2
    have hb := Boxed.later hbel hT
    have hc := hb.cell
    have hf := hb.frozen
    refine inOp_skip fa11 (fun c e => by cases e) (w' := w.setCell ⟨T, 0, none⟩ (.string (t ++ ((X ++ ⟨#[111]⟩) ++ Y)))) (fun o ho => ?_) ?_
    · simp only [execOp, ho, ev d1, ev h.s5]
      simp [go_sem, fval, hc, hf]
    · refine ⟨h.df, h.sz, h.s3, h.s5, h.s7, by simp [h.ls], fun k hk hlk => ?_, fun _ k hk => ?_, w, hbel, .inr ⟨getD_now (by rw [h.ls]; omega) _, rfl⟩⟩
      · rw [getD_else (by omega)] at hlk
        exact h.vs k hk hlk
      · rw [getD_else (by omega)]
        exact ready_dep hr (fw11_all k hk)

theorem freg5 {l n : Nat} {Q : Exit → Act → World → Prop} (hT : Boxed W T 9 (.string t)) (hB : Boxed W B 3 (.int .i64 q)) (hF : F < q) (hq : q ≤ 8) (ht : t.size ≤ 64)
    (h1 : a.defers = []) (h2 : a.tmps.size = 28) (h3 : a.tmps.getD 3 undef = .pointer (some ⟨B, 0, none⟩)) (h5 : a.tmps.getD 5 undef = .pointer (some ⟨T, 0, none⟩)) (h7 : a.tmps.getD 7 undef = .int .i64 F)
    (hQ : ∀ a' w2, Below W.heap.size W w2 → Q .normal a' (w2.setCell ⟨T, 0, none⟩ (.string (t ++ ((⟨(List.replicate F 120).toArray⟩ ++ ⟨#[111]⟩) ++ ⟨(List.replicate (q - F - 1) 120).toArray⟩))))) :
    ((((Tryz.f157.body.map regs).getD []).getD 5 (0, .skip)).2).wpIn (Fence.wide.inRound l) n Tryz.prog Q a W := by
  have key : (Code.region 5 fops true).wpIn (Fence.wide.inRound l) n Tryz.prog Q a W := by
    refine wpIn_region_inv (I := FInv W B T t ⟨(List.replicate F 120).toArray⟩ ⟨(List.replicate (q - F - 1) 120).toArray⟩ q F) (by kernel_rfl) ?_ (fun listed a w h i hr => fstep hT hB hF hq ht rfl rfl h i hr) ?_
    · refine ⟨h1, h2, h3, h5, h7, by simp [fsize], fun k hk hl => ?_, fun hl => ?_, W.drew, (Below.refl _ _).drew, .inl ⟨?_, rfl⟩⟩
      · rw [fsize] at hl
        simp [show k < 12 by omega] at hl
      · rw [fsize] at hl
        simp at hl
      · rw [fsize]
        simp
    · intro listed a w h hr
      have hd := allDone fearlier (by rw [h.ls, fsize]) hr 11 (by rw [fsize]; omega)
      have hd2 : listed.getD 11 false = true := by
        have : 11 < listed.size := by rw [h.ls]; omega
        simp [this] at hd ⊢
        exact hd
      obtain ⟨w2, hb, e | e⟩ := h.wd
      · rw [hd2] at e
        cases e.1
      · rw [e.2]
        exact hQ a w2 hb
  exact key
end
end Go.Proofs.YtkojdigaoihkpaaGreatDoor

end
section
namespace Go.Proofs.YtkojdigaoihkpaaGreatDoor
set_option linter.unusedVariables false
set_option linter.unusedSimpArgs false
set_option maxRecDepth 100000
open Go.RowKit Go.Shelf
attribute [local go_sem] Oper.semAt_some

set_option maxHeartbeats 1000000 in
theorem chunk_in (n : Nat) (a : Option Addr) (len cap q : Nat) (w : World) (hq : 1 ≤ q) :
    CallsIn Fence.wide n Tryz.prog 165 #[.slice a len cap, .int .i64 q] w fun e w' => e = .returned (.func (.func 168) #[] #[.pointer (some ⟨w.heap.size, 0, none⟩), .pointer (some ⟨w.heap.size + 1, 0, none⟩)]) ∧ w' = (w.alloc (.cells #[.slice a len cap] 23)).alloc (.cells #[.int .i64 q] 3) := by
  have hq1 : ¬ (q : Int) < 1 := by omega
  refine callsIn_of_wp Tryz.func165 rfl trivial ?_ rfl
  simp only [Tryz.ntmps165, List.size_toArray, List.length_cons, List.length_nil, Nat.reduceAdd, Nat.reduceSub, Array.replicate_succ, Array.replicate_zero, List.push_toArray, List.append_toArray, List.nil_append, List.cons_append]
  gi_wp2
  go_ret
  exact ⟨rfl, rfl⟩
theorem chunk_stops (n : Nat) (hn : 1 ≤ n) (Bs Bn N T b off q m L cap : Nat) (hq : 1 ≤ q) (hq8 : q ≤ 8) (hL : m * q = L) (hL64 : L ≤ 64) (hcap : L ≤ cap)
    (hbs : Bs < N) (hbs' : Bs ≠ T) (hbn : Bn < N) (hbn' : Bn ≠ T) (w : World) (hN : N ≤ w.heap.size)
    (h1 : w.cell? ⟨Bs, 0, none⟩ = some (.slice (some ⟨b, off, none⟩) L cap)) (h2 : w.cell? ⟨Bn, 0, none⟩ = some (.int .i64 q)) :
    SeqStopsK Fence.wide n Tryz.prog 168 #[.pointer (some ⟨Bs, 0, none⟩), .pointer (some ⟨Bn, 0, none⟩)] (fun x : Fin m => #[Value.slice (some ⟨b, off + x.1 * q, none⟩) q q]) (Kpt N T) (fun ys => ys.map (·.1) = List.range m) (fun _ => True) m w := fun l J Jx W hW hJ _ hY h0 => by
  have k1 := (hW.cell (p := ⟨Bs, 0, none⟩) (show Bs < _ by omega)).trans h1
  have k2 := (hW.cell (p := ⟨Bn, 0, none⟩) (show Bn < _ by omega)).trans h2
  exact chunk1_in n hn l Bs Bn N T b off q m L cap hq hq8 hL hL64 hcap hbs hbs' hbn hbn' J Jx (fun s W h => hJ s W W.drew none h (grown_drew W) (fun r e => by cases e)) hY W k1 k2 h0
/-- The text of a chunk; of some. -/
def ckT (q : Nat) (a : List Int) (c : Nat) : ByteArray := (⟨(List.replicate (fC q a c) 120).toArray⟩ ++ ⟨#[111]⟩) ++ ⟨(List.replicate (q - fC q a c - 1) 120).toArray⟩
def cksT (q : Nat) (a : List Int) (l : List Nat) : ByteArray := l.foldl (fun t c => t ++ ckT q a c) ⟨#[]⟩
theorem cksT_snoc (q : Nat) (a : List Int) (l : List Nat) (c : Nat) : cksT q a (l ++ [c]) = cksT q a l ++ ckT q a c := by simp [cksT]
theorem ckT_size (q : Nat) (a : List Int) (c : Nat) (h : 1 ≤ q) : (ckT q a c).size = q := by
  have := fC_lt a c h
  simp only [ckT, ByteArray.size_append]
  have e1 := mk_size (List.replicate (fC q a c) 120)
  have e2 := mk_size (List.replicate (q - fC q a c - 1) 120)
  have e3 : (⟨#[111]⟩ : ByteArray).size = 1 := rfl
  rw [List.length_replicate] at e1 e2
  rw [e1, e2, e3]
  omega
theorem cksT_size (q : Nat) (a : List Int) (h : 1 ≤ q) : ∀ (l : List Nat), (cksT q a l).size = l.length * q := by
  intro l
  have key : ∀ (l : List Nat) (t : ByteArray), (l.foldl (fun t c => t ++ ckT q a c) t).size = t.size + l.length * q := by
    intro l
    induction l with
    | nil => intro t; simp
    | cons c l ih =>
      intro t
      rw [List.foldl_cons, ih, ByteArray.size_append, ckT_size q a c h, List.length_cons, Nat.add_mul]
      omega
  have := key l ⟨#[]⟩
  rw [show (⟨#[]⟩ : ByteArray).size = 0 from rfl, Nat.zero_add] at this
  exact this
theorem cksT_all (q : Nat) (a : List Int) (h : 1 ≤ q) : ∀ m, cksT q a (List.range m) = gT (gC q a) (m * q)
  | 0 => by simp [cksT, gT]
  | m + 1 => by
    rw [List.range_succ, cksT_snoc, cksT_all q a h m, Nat.add_mul, Nat.one_mul, gT_chunk q a m h]
    rfl
theorem keeps_below {W W' : World} (hb : Below W.heap.size W W') : KeepsOthers W W' := ⟨hb.size, fun k o hk _ => (hb.block k (Array.getElem?_eq_some_iff.1 hk).1).trans hk⟩
theorem kpt_set {N T : Nat} {W W' : World} (hb : Below W.heap.size W W') (hN : N ≤ W.heap.size) (u : Value) : Kpt N T W (W'.setCell ⟨T, 0, none⟩ u) := by
  intro k hk hT
  rw [heap_setCell_other W' ⟨T, 0, none⟩ k u hT]
  exact hb.block k (by omega)
theorem kpt_b {N T : Nat} (W : World) (l : Nat) (o' : Obj) (h : N ≤ l) : Kpt N T W (W.putObj l o') := by
  intro k hk _
  have : l ≠ k := by omega
  simp [World.putObj, Array.getElem?_setIfInBounds, this]
set_option maxRecDepth 100000 in
set_option maxHeartbeats 4000000 in
theorem firsts_any {v : Value} {d : List Int} {w : World} (q m : Nat) (h : Ints w v d) (hq : 1 ≤ q) (hq8 : q ≤ 8) (hm : 1 ≤ m) (hL : d.length = m * q) (h64 : d.length ≤ 64) :
    Calls Tryz.prog 157 #[v, .int .i64 q] w fun e w' => e = .returned (.string (gT (gC q d) d.length)) ∧ Below w.heap.size w w' := by
  have h1 : 1 ≤ d.length := by rw [hL]; exact Nat.mul_pos hm hq
  have hold := h.old h1
  rcases h.cases with ⟨rfl, _⟩ | ⟨b, off, cap, rfl, h0, hcap, hbg, HC⟩
  · simp at h1
  have hbw : b < w.heap.size := hold b rfl
  clear h hold
  obtain ⟨L, eL⟩ : ∃ L, d.length = L := ⟨_, rfl⟩
  rw [eL] at hL h64 h1 hcap h0
  have HCD : Hid (∀ i, i < d.length → w.cell? ⟨b, off + i, none⟩ = some (.int .i64 (d.getD i 0))) := fun i hi => Ints.cellD (n := 0) (c := 0) HC i hi
  refine (callsIn_wide (n := 9)).1 ?_
  refine callsIn_of_wp_marks Tryz.func157 rfl trivial ?_ rfl
  rw [eL]
  simp only [Tryz.ntmps157, List.size_toArray, List.length_cons, List.length_nil, Nat.reduceAdd, Nat.reduceSub, Array.replicate_succ, Array.replicate_zero, List.push_toArray, List.append_toArray, List.nil_append, List.cons_append]
  have HL : Hid (L = m * q) := hL
  clear hL
  gi_wp2_with (refine ⟨trivial, ?_⟩; gi_at_call 165; refine (chunk_in _ _ _ _ q _ hq).mono ?_; rintro e w' ⟨rfl, rfl⟩)
  obtain ⟨W0, hW0⟩ : ∃ W0, W0 = (((w.alloc (.cells #[.int .i64 q] 3)).alloc (.cells #[.string ⟨#[]⟩] 9)).alloc (.cells #[.slice (some ⟨b, off, none⟩) L cap] 23)).alloc (.cells #[.int .i64 q] 3) := ⟨_, rfl⟩
  have hs0 : W0.heap.size = w.heap.size + 4 := by rw [hW0]; simp
  have bA : Boxed W0 w.heap.size 3 (.int .i64 q) := by rw [hW0]; exact (((Boxed.new w 3 (.int .i64 q)).alloc _).alloc _).alloc _
  have bT : Boxed W0 (w.heap.size + 1) 9 (.string ⟨#[]⟩) := by
    have := ((Boxed.new (w.alloc (.cells #[.int .i64 q] 3)) 9 (.string ⟨#[]⟩)).alloc (.cells #[.slice (some ⟨b, off, none⟩) L cap] 23)).alloc (.cells #[.int .i64 q] 3)
    rw [World.size_alloc] at this
    rw [hW0]
    exact this
  have bS : Boxed W0 (w.heap.size + 2) 23 (.slice (some ⟨b, off, none⟩) L cap) := by
    have := (Boxed.new ((w.alloc (.cells #[.int .i64 q] 3)).alloc (.cells #[.string ⟨#[]⟩] 9)) 23 (.slice (some ⟨b, off, none⟩) L cap)).alloc (.cells #[.int .i64 q] 3)
    simp only [World.size_alloc] at this
    rw [hW0]
    exact this
  have bN : Boxed W0 (w.heap.size + 3) 3 (.int .i64 q) := by
    have := Boxed.new (((w.alloc (.cells #[.int .i64 q] 3)).alloc (.cells #[.string ⟨#[]⟩] 9)).alloc (.cells #[.slice (some ⟨b, off, none⟩) L cap] 23)) 3 (.int .i64 q)
    simp only [World.size_alloc] at this
    rw [hW0]
    exact this
  have k1 := bS.cell
  have k2 := bN.cell
  clear bS bN
  have hB0 : Below w.heap.size w W0 := by rw [hW0]; exact ((((Below.refl _ _).alloc (Nat.le_refl _) _).alloc (by simp) _).alloc (by simp; omega) _).alloc (by simp; omega) _
  rw [← hW0]
  clear hW0
  refine wpIn_rangeFunc_ownG rfl (by omega) (gf := 168) (lb := #[.pointer (some ⟨w.heap.size + 1 + 1, 0, none⟩), .pointer (some ⟨w.heap.size + 1 + 1 + 1, 0, none⟩)]) rfl trivial (enters_of Tryz.func168 (by kernel_rfl) rfl)
    (chunk_stops _ (by omega) (w.heap.size + 2) (w.heap.size + 3) (w.heap.size + 4) (w.heap.size + 1) b off q m L cap hq hq8 HL.out.symm h64 hcap (by omega) (by omega) (by omega) (by omega) W0 (by omega) k1 k2)
    (fun h k => h.trans k) (fun W l o o' hl _ _ _ => kpt_b W l o' (by omega)) (Below.refl _ _) (fun _ => rfl)
    (fun pre W => (Boxed W (w.heap.size + 1) 9 (.string (cksT q d (pre.map (·.1)))) ∧ Boxed W w.heap.size 3 (.int .i64 q) ∧ w.heap.size + 4 ≤ W.heap.size) ∧ Below w.heap.size w W)
    (fun _ _ _ => False)
    (OwnFrom.and (Own.from (fun s A B row hs hg hr => ⟨boxed_own _ _ (fun pre : List (Fin m) => Value.string (cksT q d (pre.map (·.1)))) s A B row hs.1 hg hr, boxed_own _ _ (fun _ : List (Fin m) => Value.int .i64 q) s A B row hs.2.1 hg hr, Nat.le_trans hs.2.2 hg.size⟩) _) (ownFrom_below (Nat.le_refl _) (by omega)))
    (fun _ _ _ _ _ hs _ _ => hs)
    ⟨⟨bT, bA, by omega⟩, hB0⟩
    (fun x => { tmps := #[.slice (some ⟨b, off, none⟩) L cap, .int .i64 q, undef, .pointer (some ⟨w.heap.size, 0, none⟩), .string ⟨#[]⟩, .pointer (some ⟨w.heap.size + 1, 0, none⟩), .slice (some ⟨b, off + x.1 * q, none⟩) q q, undef, .slice (some ⟨b, off, none⟩) L cap, .int .i64 q, .func (.func 168) #[] #[.pointer (some ⟨w.heap.size + 1 + 1, 0, none⟩), .pointer (some ⟨w.heap.size + 1 + 1 + 1, 0, none⟩)], .slice (some ⟨b, off + x.1 * q, none⟩) q q, undef, undef, undef, undef, undef, undef, undef, undef, undef, undef, undef, undef, undef, undef, undef, undef], defers := [] }) ?assign ?body ?done ?stop
  case assign =>
    intro l x W K hK
    gi_wp2
    exact hK
  case body =>
    rintro l pre ⟨c, hc⟩ W ⟨⟨bxT, bxN, hs4⟩, hB⟩ hlen
    have hcq : c * q + q ≤ d.length := by
      rw [eL, HL.out]
      have := Nat.mul_le_mul_right q (show c + 1 ≤ m from hc)
      rw [Nat.add_mul] at this
      omega
    have HCW : Hid (∀ i, i < d.length → W.cell? ⟨b, off + i, none⟩ = some (.int .i64 (d.getD i 0))) := fun i hi => (hB.cell (p := ⟨b, off + i, none⟩) hbw).trans (HCD.out i hi)
    have HQ : Hid (c * q + q ≤ d.length) := hcq
    have hF := fC_lt d c hq
    have hsz : (cksT q d (pre.map (·.1))).size ≤ 64 := by
      rw [cksT_size q d hq, List.length_map]
      have := Nat.mul_le_mul_right q (show pre.length ≤ m by omega)
      rw [← HL.out] at this
      omega
    have HT : Hid (cksT q d ((pre ++ [(⟨c, hc⟩ : Fin m)]).map (·.1)) = cksT q d (pre.map (·.1)) ++ ((⟨(List.replicate (fC q d c) 120).toArray⟩ ++ ⟨#[111]⟩) ++ ⟨(List.replicate (q - fC q d c - 1) 120).toArray⟩)) := by
      show _ = _
      rw [List.map_append, List.map_singleton, cksT_snoc]
      rfl
    obtain ⟨t, ht⟩ : ∃ t, cksT q d (pre.map (·.1)) = t := ⟨_, rfl⟩
    rw [ht] at bxT hsz HT
    have hsW := hB.size
    clear hcq ht
    have HB : Hid (Below w.heap.size w W) := hB
    clear hB
    gi_wp2_with (first
      | (refine ⟨trivial, ?_⟩; gi_at_call 55; refine (CallsIn.inRound l (callsIn_wide.2 (cmax_any hq hq8 HQ.out HCW.out))).mono ?_; rintro e w' ⟨rfl, hw⟩; subst w')
      | (refine ⟨trivial, ?_⟩; gi_at_call 166; refine (CallsIn.inRound l (callsIn_wide.2 (cidx_any hq hq8 HQ.out HCW.out))).mono ?_; rintro e w' ⟨rfl, hw⟩; subst w'))
    obtain ⟨F, hFF⟩ : ∃ F, fC q d c = F := ⟨_, rfl⟩
    rw [hFF] at hF HT ⊢
    clear hFF
    refine freg5 bxT bxN hF hq8 hsz rfl rfl rfl rfl rfl ?_
    intro a' w2 hb2
    refine ⟨((keeps_below hb2).trans (KeepsOthers.setCell _ _ _)).from _, kpt_set hb2 hs4 _, ⟨?_, ?_, ?_⟩, ?_⟩
    · rw [HT.out]
      exact Boxed.set _ (Boxed.later hb2 bxT)
    · exact Boxed.other (Boxed.later hb2 bxN) (by omega) _
    · have := hb2.size
      simp
      omega
    · exact (Below.after HB.out hb2).setCell (p := ⟨w.heap.size + 1, 0, none⟩) (by simp) _
  case done =>
    rintro D ys W hD hys ⟨⟨bxT, bxN, hs4⟩, hB⟩ hK
    rw [hys, cksT_all q d hq, ← HL.out] at bxT
    have hct := bxT.cell
    gi_wp2
    refine ⟨by simp, .inl ⟨_, _, rfl, run_takeDeferred hK, ?_⟩⟩
    exact ⟨_, results_tmp rfl _ _ _, rfl, hB.trans (belowK_b (w := w) (Nat.le_refl _) W D _ _ (by omega) hK rfl rfl)⟩
  case stop =>
    rintro D c pre W _ _ h _
    exact h.elim
end Go.Proofs.YtkojdigaoihkpaaGreatDoor

end
section
namespace Go.Proofs.YtkojdigaoihkpaaGreatDoor
set_option linter.unusedVariables false
set_option linter.unusedSimpArgs false
set_option maxRecDepth 100000
open Go.RowKit

set_option maxRecDepth 100000 in
theorem lit57 (g : Nat → Value) : (g 0 :: g 1 :: g 2 :: g 3 :: g 4 :: g 5 :: g 6 :: g 7 :: g 8 :: g 9 :: g 10 :: g 11 :: g 12 :: g 13 :: g 14 :: g 15 :: g 16 :: g 17 :: g 18 :: g 19 :: g 20 :: g 21 :: g 22 :: g 23 :: g 24 :: g 25 :: g 26 :: g 27 :: g 28 :: g 29 :: g 30 :: g 31 :: g 32 :: g 33 :: g 34 :: g 35 :: g 36 :: g 37 :: g 38 :: g 39 :: g 40 :: g 41 :: g 42 :: g 43 :: g 44 :: g 45 :: g 46 :: g 47 :: g 48 :: g 49 :: g 50 :: g 51 :: g 52 :: g 53 :: g 54 :: g 55 :: g 56 :: []).toArray = ((List.range 57).map g).toArray := by rfl
set_option maxRecDepth 100000 in
theorem act57 (a : Act) (hd : a.defers = []) (hs : a.tmps.size = 57) : ∃ g : Nat → Value, (∀ i, a.tmps.getD i undef = g i) ∧ a = { tmps := (g 0 :: g 1 :: g 2 :: g 3 :: g 4 :: g 5 :: g 6 :: g 7 :: g 8 :: g 9 :: g 10 :: g 11 :: g 12 :: g 13 :: g 14 :: g 15 :: g 16 :: g 17 :: g 18 :: g 19 :: g 20 :: g 21 :: g 22 :: g 23 :: g 24 :: g 25 :: g 26 :: g 27 :: g 28 :: g 29 :: g 30 :: g 31 :: g 32 :: g 33 :: g 34 :: g 35 :: g 36 :: g 37 :: g 38 :: g 39 :: g 40 :: g 41 :: g 42 :: g 43 :: g 44 :: g 45 :: g 46 :: g 47 :: g 48 :: g 49 :: g 50 :: g 51 :: g 52 :: g 53 :: g 54 :: g 55 :: g 56 :: []).toArray, defers := [] } := by
  refine ⟨fun i => a.tmps.getD i undef, fun _ => rfl, ?_⟩
  have h := lit57 (fun i => a.tmps.getD i undef)
  have e : a.tmps = ((List.range 57).map (fun i => a.tmps.getD i undef)).toArray := by
    apply Array.ext
    · simp [hs]
    · intro i h1 h2
      simp [h1]
  exact (show a = Act.mk a.tmps a.defers from rfl).trans (by rw [hd]; exact congrArg (fun t => Act.mk t []) (e.trans h.symm))
set_option maxRecDepth 100000 in
theorem lit69 (g : Nat → Value) : (g 0 :: g 1 :: g 2 :: g 3 :: g 4 :: g 5 :: g 6 :: g 7 :: g 8 :: g 9 :: g 10 :: g 11 :: g 12 :: g 13 :: g 14 :: g 15 :: g 16 :: g 17 :: g 18 :: g 19 :: g 20 :: g 21 :: g 22 :: g 23 :: g 24 :: g 25 :: g 26 :: g 27 :: g 28 :: g 29 :: g 30 :: g 31 :: g 32 :: g 33 :: g 34 :: g 35 :: g 36 :: g 37 :: g 38 :: g 39 :: g 40 :: g 41 :: g 42 :: g 43 :: g 44 :: g 45 :: g 46 :: g 47 :: g 48 :: g 49 :: g 50 :: g 51 :: g 52 :: g 53 :: g 54 :: g 55 :: g 56 :: g 57 :: g 58 :: g 59 :: g 60 :: g 61 :: g 62 :: g 63 :: g 64 :: g 65 :: g 66 :: g 67 :: g 68 :: []).toArray = ((List.range 69).map g).toArray := by rfl
set_option maxRecDepth 100000 in
theorem act69 (a : Act) (hd : a.defers = []) (hs : a.tmps.size = 69) : ∃ g : Nat → Value, (∀ i, a.tmps.getD i undef = g i) ∧ a = { tmps := (g 0 :: g 1 :: g 2 :: g 3 :: g 4 :: g 5 :: g 6 :: g 7 :: g 8 :: g 9 :: g 10 :: g 11 :: g 12 :: g 13 :: g 14 :: g 15 :: g 16 :: g 17 :: g 18 :: g 19 :: g 20 :: g 21 :: g 22 :: g 23 :: g 24 :: g 25 :: g 26 :: g 27 :: g 28 :: g 29 :: g 30 :: g 31 :: g 32 :: g 33 :: g 34 :: g 35 :: g 36 :: g 37 :: g 38 :: g 39 :: g 40 :: g 41 :: g 42 :: g 43 :: g 44 :: g 45 :: g 46 :: g 47 :: g 48 :: g 49 :: g 50 :: g 51 :: g 52 :: g 53 :: g 54 :: g 55 :: g 56 :: g 57 :: g 58 :: g 59 :: g 60 :: g 61 :: g 62 :: g 63 :: g 64 :: g 65 :: g 66 :: g 67 :: g 68 :: []).toArray, defers := [] } := by
  refine ⟨fun i => a.tmps.getD i undef, fun _ => rfl, ?_⟩
  have h := lit69 (fun i => a.tmps.getD i undef)
  have e : a.tmps = ((List.range 69).map (fun i => a.tmps.getD i undef)).toArray := by
    apply Array.ext
    · simp [hs]
    · intro i h1 h2
      simp [h1]
  exact (show a = Act.mk a.tmps a.defers from rfl).trans (by rw [hd]; exact congrArg (fun t => Act.mk t []) (e.trans h.symm))
set_option maxRecDepth 100000 in
theorem lit42 (g : Nat → Value) : (g 0 :: g 1 :: g 2 :: g 3 :: g 4 :: g 5 :: g 6 :: g 7 :: g 8 :: g 9 :: g 10 :: g 11 :: g 12 :: g 13 :: g 14 :: g 15 :: g 16 :: g 17 :: g 18 :: g 19 :: g 20 :: g 21 :: g 22 :: g 23 :: g 24 :: g 25 :: g 26 :: g 27 :: g 28 :: g 29 :: g 30 :: g 31 :: g 32 :: g 33 :: g 34 :: g 35 :: g 36 :: g 37 :: g 38 :: g 39 :: g 40 :: g 41 :: []).toArray = ((List.range 42).map g).toArray := by rfl
set_option maxRecDepth 100000 in
theorem act42 (a : Act) (hd : a.defers = []) (hs : a.tmps.size = 42) : ∃ g : Nat → Value, (∀ i, a.tmps.getD i undef = g i) ∧ a = { tmps := (g 0 :: g 1 :: g 2 :: g 3 :: g 4 :: g 5 :: g 6 :: g 7 :: g 8 :: g 9 :: g 10 :: g 11 :: g 12 :: g 13 :: g 14 :: g 15 :: g 16 :: g 17 :: g 18 :: g 19 :: g 20 :: g 21 :: g 22 :: g 23 :: g 24 :: g 25 :: g 26 :: g 27 :: g 28 :: g 29 :: g 30 :: g 31 :: g 32 :: g 33 :: g 34 :: g 35 :: g 36 :: g 37 :: g 38 :: g 39 :: g 40 :: g 41 :: []).toArray, defers := [] } := by
  refine ⟨fun i => a.tmps.getD i undef, fun _ => rfl, ?_⟩
  have h := lit42 (fun i => a.tmps.getD i undef)
  have e : a.tmps = ((List.range 42).map (fun i => a.tmps.getD i undef)).toArray := by
    apply Array.ext
    · simp [hs]
    · intro i h1 h2
      simp [h1]
  exact (show a = Act.mk a.tmps a.defers from rfl).trans (by rw [hd]; exact congrArg (fun t => Act.mk t []) (e.trans h.symm))
set_option maxRecDepth 100000 in
set_option maxHeartbeats 2000000 in
theorem step_bad1 {a0 a1 b0 b1 : Value} {s t : Ten} {w : World} (ha : Tens w a0 a1 s) (ht : Tens w b0 b1 t) (hx : tok s = false) :
    Calls Tryz.prog 141 #[.agg #[a0, a1], .agg #[b0, b1]] w fun e w' => e = .returned (.tuple #[.agg #[.slice none 0 0, .slice none 0 0], .int .i64 1]) ∧ Below w.heap.size w w' := by
  obtain ⟨aa, an, ac, rfl⟩ := ha.1.shape3
  obtain ⟨ba, bn, bc, rfl⟩ := ha.2.shape3
  obtain ⟨ea, en, ec, rfl⟩ := ht.1.shape3
  obtain ⟨fa, fn, fc, rfl⟩ := ht.2.shape3
  obtain ⟨U, hU⟩ : ∃ U, U = ((((w.alloc (.cells #[(.slice aa an ac), (.slice ba bn bc)] 156)).alloc (.cells #[(.slice ea en ec), (.slice fa fn fc)] 156)).alloc (.cells #[.slice none 0 0, .slice none 0 0] 156)).alloc (.cells #[.slice none 0 0, .slice none 0 0] 156)) := ⟨_, rfl⟩
  have hb : Below w.heap.size w U := by rw [hU]; exact ((((Below.refl _ _).alloc (Nat.le_refl _) _).alloc (by simp) _).alloc (by simp; omega) _).alloc (by simp; omega) _
  have HA : Hid (Tens U (.slice aa an ac) (.slice ba bn bc) s) := ha.later hb
  have HT : Hid (Tens U (.slice ea en ec) (.slice fa fn fc) t) := ht.later hb
  have HB : Hid (Below w.heap.size w U) := hb
  have HBA : Hid (Box U w.heap.size (.slice aa an ac) (.slice ba bn bc)) := by show Box _ _ _ _; rw [hU]; exact (((Box.new w (.slice aa an ac) (.slice ba bn bc)).alloc _).alloc _).alloc _
  have HBB : Hid (Box U (w.heap.size + 1) (.slice ea en ec) (.slice fa fn fc)) := by
    show Box _ _ _ _
    have := ((Box.new (w.alloc (.cells #[(.slice aa an ac), (.slice ba bn bc)] 156)) (.slice ea en ec) (.slice fa fn fc)).alloc (.cells #[.slice none 0 0, .slice none 0 0] 156)).alloc (.cells #[.slice none 0 0, .slice none 0 0] 156)
    simp only [World.size_alloc] at this
    rw [hU]
    exact this
  have HBX : Hid (Box U (w.heap.size + 1 + 1) (.slice none 0 0) (.slice none 0 0)) := by
    show Box _ _ _ _
    have := (Box.new ((w.alloc (.cells #[(.slice aa an ac), (.slice ba bn bc)] 156)).alloc (.cells #[(.slice ea en ec), (.slice fa fn fc)] 156)) (.slice none 0 0) (.slice none 0 0)).alloc (.cells #[.slice none 0 0, .slice none 0 0] 156)
    simp only [World.size_alloc] at this
    rw [hU]
    exact this
  have HBT : Hid (Box U (w.heap.size + 1 + 1 + 1) (.slice none 0 0) (.slice none 0 0)) := by
    show Box _ _ _ _
    have := Box.new (((w.alloc (.cells #[(.slice aa an ac), (.slice ba bn bc)] 156)).alloc (.cells #[(.slice ea en ec), (.slice fa fn fc)] 156)).alloc (.cells #[.slice none 0 0, .slice none 0 0] 156)) (.slice none 0 0) (.slice none 0 0)
    simp only [World.size_alloc] at this
    rw [hU]
    exact this
  have hs0 : U.heap.size = w.heap.size + 1 + 1 + 1 + 1 := by rw [hU]; simp
  have k0 := HBA.out.c0
  have k1 := HBA.out.c1
  have HK : Hid (tkE s = 1) := by show _ = _; simp [tkE, hx]
  clear ha ht hb hx
  go_enter Tryz.func141, Tryz.ntmps141
  go_wp2_with fail
  refine wp_scope_jumps 0 (Jg 57 4 (w.heap.size + 1 + 1) w) (fun _ _ => 0) rfl ?_ ?_
  · go_wp2_with fail
    rw [← hU]
    clear hU
    refine (tensor_to 1 HA.out HK.out).mono ?_
    rintro e w2 ⟨rfl, hb2⟩
    have HB2 : Hid (Below w.heap.size w w2) := Below.after HB.out hb2
    have HBX2 : Hid (Box w2 (w.heap.size + 1 + 1) (.slice none 0 0) (.slice none 0 0)) := HBX.out.later hb2
    clear hb2
    go_wp2
    go_step3
    exact ⟨rfl, rfl, rfl, rfl, HBX2.out, HB2.out⟩
  · rintro a w' ⟨hd, hs, h4, hbx, hbe⟩
    obtain ⟨G, hg, e⟩ := act57 a hd hs
    rw [hg] at h4
    subst e
    rw [h4]
    have l0 := hbx.c0
    have l1 := hbx.c1
    have m0 := hbx.f 0
    have m1 := hbx.f 1
    have HBS : Hid (Box _ _ _ _) := hbx.set (.slice none 0 0) (.slice none 0 0)
    have HBE : Hid (Below w.heap.size w w') := hbe
    clear hg hd hs hbx h4 hbe
    go_wp2
    rw [jump_ret]
    have hr0 := HBS.out.c0
    have hr1 := HBS.out.c1
    exact bodyPost_ret (v := .tuple #[.agg #[.slice none 0 0, .slice none 0 0], .int .i64 1]) (by simp [results, Tryz.results141, go_sem, hr0, hr1]) rfl ⟨rfl, (HBE.out.setCell (by simp; omega) _).setCell (by simp; omega) _⟩
set_option maxRecDepth 100000 in
set_option maxHeartbeats 2000000 in
theorem step_bad2 {a0 a1 b0 b1 : Value} {s t : Ten} {w : World} (ha : Tens w a0 a1 s) (ht : Tens w b0 b1 t) (hx : tok s = true) (hy : tok t = false) :
    Calls Tryz.prog 141 #[.agg #[a0, a1], .agg #[b0, b1]] w fun e w' => e = .returned (.tuple #[.agg #[.slice none 0 0, .slice none 0 0], .int .i64 1]) ∧ Below w.heap.size w w' := by
  obtain ⟨aa, an, ac, rfl⟩ := ha.1.shape3
  obtain ⟨ba, bn, bc, rfl⟩ := ha.2.shape3
  obtain ⟨ea, en, ec, rfl⟩ := ht.1.shape3
  obtain ⟨fa, fn, fc, rfl⟩ := ht.2.shape3
  obtain ⟨U, hU⟩ : ∃ U, U = ((((w.alloc (.cells #[(.slice aa an ac), (.slice ba bn bc)] 156)).alloc (.cells #[(.slice ea en ec), (.slice fa fn fc)] 156)).alloc (.cells #[.slice none 0 0, .slice none 0 0] 156)).alloc (.cells #[.slice none 0 0, .slice none 0 0] 156)) := ⟨_, rfl⟩
  have hb : Below w.heap.size w U := by rw [hU]; exact ((((Below.refl _ _).alloc (Nat.le_refl _) _).alloc (by simp) _).alloc (by simp; omega) _).alloc (by simp; omega) _
  have HA : Hid (Tens U (.slice aa an ac) (.slice ba bn bc) s) := ha.later hb
  have HT : Hid (Tens U (.slice ea en ec) (.slice fa fn fc) t) := ht.later hb
  have HB : Hid (Below w.heap.size w U) := hb
  have HBA : Hid (Box U w.heap.size (.slice aa an ac) (.slice ba bn bc)) := by show Box _ _ _ _; rw [hU]; exact (((Box.new w (.slice aa an ac) (.slice ba bn bc)).alloc _).alloc _).alloc _
  have HBB : Hid (Box U (w.heap.size + 1) (.slice ea en ec) (.slice fa fn fc)) := by
    show Box _ _ _ _
    have := ((Box.new (w.alloc (.cells #[(.slice aa an ac), (.slice ba bn bc)] 156)) (.slice ea en ec) (.slice fa fn fc)).alloc (.cells #[.slice none 0 0, .slice none 0 0] 156)).alloc (.cells #[.slice none 0 0, .slice none 0 0] 156)
    simp only [World.size_alloc] at this
    rw [hU]
    exact this
  have HBX : Hid (Box U (w.heap.size + 1 + 1) (.slice none 0 0) (.slice none 0 0)) := by
    show Box _ _ _ _
    have := (Box.new ((w.alloc (.cells #[(.slice aa an ac), (.slice ba bn bc)] 156)).alloc (.cells #[(.slice ea en ec), (.slice fa fn fc)] 156)) (.slice none 0 0) (.slice none 0 0)).alloc (.cells #[.slice none 0 0, .slice none 0 0] 156)
    simp only [World.size_alloc] at this
    rw [hU]
    exact this
  have HBT : Hid (Box U (w.heap.size + 1 + 1 + 1) (.slice none 0 0) (.slice none 0 0)) := by
    show Box _ _ _ _
    have := Box.new (((w.alloc (.cells #[(.slice aa an ac), (.slice ba bn bc)] 156)).alloc (.cells #[(.slice ea en ec), (.slice fa fn fc)] 156)).alloc (.cells #[.slice none 0 0, .slice none 0 0] 156)) (.slice none 0 0) (.slice none 0 0)
    simp only [World.size_alloc] at this
    rw [hU]
    exact this
  have hs0 : U.heap.size = w.heap.size + 1 + 1 + 1 + 1 := by rw [hU]; simp
  have k0 := HBA.out.c0
  have k1 := HBA.out.c1
  have HK : Hid (tkE s = 0) := by show _ = _; simp [tkE, hx]
  have HK2 : Hid (tkE t = 1) := by show _ = _; simp [tkE, hy]
  clear ha ht hb hx hy
  go_enter Tryz.func141, Tryz.ntmps141
  go_wp2_with fail
  refine wp_scope_jumps 0 (Jg 57 4 (w.heap.size + 1 + 1) w) (fun _ _ => 0) rfl ?_ ?_
  · go_wp2_with fail
    rw [← hU]
    clear hU
    refine (tensor_to 0 HA.out HK.out).mono ?_
    rintro e w2 ⟨rfl, hb2⟩
    have HA2 : Hid (Tens w2 _ _ t) := HT.out.later hb2
    have HU2 : Hid (Below U.heap.size U w2) := hb2
    have q0 := (HBB.out.later hb2).c0
    have q1 := (HBB.out.later hb2).c1
    clear hb2 k0 k1
    go_wp2_with fail
    refine (tensor_to 1 HA2.out HK2.out).mono ?_
    rintro e w3 ⟨rfl, hb3⟩
    have HU3 : Hid (Below U.heap.size U w3) := Below.after HU2.out hb3
    have HB3 : Hid (Below w.heap.size w w3) := Below.after HB.out HU3.out
    have HBX3 : Hid (Box w3 (w.heap.size + 1 + 1) (.slice none 0 0) (.slice none 0 0)) := HBX.out.later HU3.out
    clear hb3 q0 q1
    go_wp2
    go_step3
    exact ⟨rfl, rfl, rfl, rfl, HBX3.out, HB3.out⟩
  · rintro a w' ⟨hd, hs, h4, hbx, hbe⟩
    obtain ⟨G, hg, e⟩ := act57 a hd hs
    rw [hg] at h4
    subst e
    rw [h4]
    have l0 := hbx.c0
    have l1 := hbx.c1
    have m0 := hbx.f 0
    have m1 := hbx.f 1
    have HBS : Hid (Box _ _ _ _) := hbx.set (.slice none 0 0) (.slice none 0 0)
    have HBE : Hid (Below w.heap.size w w') := hbe
    clear hg hd hs hbx h4 hbe
    go_wp2
    rw [jump_ret]
    have hr0 := HBS.out.c0
    have hr1 := HBS.out.c1
    exact bodyPost_ret (v := .tuple #[.agg #[.slice none 0 0, .slice none 0 0], .int .i64 1]) (by simp [results, Tryz.results141, go_sem, hr0, hr1]) rfl ⟨rfl, (HBE.out.setCell (by simp; omega) _).setCell (by simp; omega) _⟩
set_option maxRecDepth 100000 in
set_option maxHeartbeats 2000000 in
theorem step_four {a0 a1 b0 b1 : Value} {s t : Ten} {w : World} (ha : Tens w a0 a1 s) (ht : Tens w b0 b1 t) (hx : tok s = true) (hy : tok t = true) (h4 : s.1 ≠ t.1) :
    Calls Tryz.prog 141 #[.agg #[a0, a1], .agg #[b0, b1]] w fun e w' => e = .returned (.tuple #[.agg #[.slice none 0 0, .slice none 0 0], .int .i64 4]) ∧ Below w.heap.size w w' := by
  obtain ⟨aa, an, ac, rfl⟩ := ha.1.shape3
  obtain ⟨ba, bn, bc, rfl⟩ := ha.2.shape3
  obtain ⟨ea, en, ec, rfl⟩ := ht.1.shape3
  obtain ⟨fa, fn, fc, rfl⟩ := ht.2.shape3
  obtain ⟨U, hU⟩ : ∃ U, U = ((((w.alloc (.cells #[(.slice aa an ac), (.slice ba bn bc)] 156)).alloc (.cells #[(.slice ea en ec), (.slice fa fn fc)] 156)).alloc (.cells #[.slice none 0 0, .slice none 0 0] 156)).alloc (.cells #[.slice none 0 0, .slice none 0 0] 156)) := ⟨_, rfl⟩
  have hb : Below w.heap.size w U := by rw [hU]; exact ((((Below.refl _ _).alloc (Nat.le_refl _) _).alloc (by simp) _).alloc (by simp; omega) _).alloc (by simp; omega) _
  have HA : Hid (Tens U (.slice aa an ac) (.slice ba bn bc) s) := ha.later hb
  have HT : Hid (Tens U (.slice ea en ec) (.slice fa fn fc) t) := ht.later hb
  have HB : Hid (Below w.heap.size w U) := hb
  have HBA : Hid (Box U w.heap.size (.slice aa an ac) (.slice ba bn bc)) := by show Box _ _ _ _; rw [hU]; exact (((Box.new w (.slice aa an ac) (.slice ba bn bc)).alloc _).alloc _).alloc _
  have HBB : Hid (Box U (w.heap.size + 1) (.slice ea en ec) (.slice fa fn fc)) := by
    show Box _ _ _ _
    have := ((Box.new (w.alloc (.cells #[(.slice aa an ac), (.slice ba bn bc)] 156)) (.slice ea en ec) (.slice fa fn fc)).alloc (.cells #[.slice none 0 0, .slice none 0 0] 156)).alloc (.cells #[.slice none 0 0, .slice none 0 0] 156)
    simp only [World.size_alloc] at this
    rw [hU]
    exact this
  have HBX : Hid (Box U (w.heap.size + 1 + 1) (.slice none 0 0) (.slice none 0 0)) := by
    show Box _ _ _ _
    have := (Box.new ((w.alloc (.cells #[(.slice aa an ac), (.slice ba bn bc)] 156)).alloc (.cells #[(.slice ea en ec), (.slice fa fn fc)] 156)) (.slice none 0 0) (.slice none 0 0)).alloc (.cells #[.slice none 0 0, .slice none 0 0] 156)
    simp only [World.size_alloc] at this
    rw [hU]
    exact this
  have HBT : Hid (Box U (w.heap.size + 1 + 1 + 1) (.slice none 0 0) (.slice none 0 0)) := by
    show Box _ _ _ _
    have := Box.new (((w.alloc (.cells #[(.slice aa an ac), (.slice ba bn bc)] 156)).alloc (.cells #[(.slice ea en ec), (.slice fa fn fc)] 156)).alloc (.cells #[.slice none 0 0, .slice none 0 0] 156)) (.slice none 0 0) (.slice none 0 0)
    simp only [World.size_alloc] at this
    rw [hU]
    exact this
  have hs0 : U.heap.size = w.heap.size + 1 + 1 + 1 + 1 := by rw [hU]; simp
  have k0 := HBA.out.c0
  have k1 := HBA.out.c1
  have HK : Hid (tkE s = 0) := by show _ = _; simp [tkE, hx]
  have HK2 : Hid (tkE t = 0) := by show _ = _; simp [tkE, hy]
  have HSB : Hid (smB s.1 t.1 = false) := by show _ = _; simp [smB, h4]
  have HSE : Hid (smE s.1 t.1 = 0) := by show _ = _; simp [smE, tok_okd hx, tok_okd hy]
  clear ha ht hb hx hy h4
  go_enter Tryz.func141, Tryz.ntmps141
  go_wp2_with fail
  refine wp_scope_jumps 1 (Jg 57 4 (w.heap.size + 1 + 1) w) (fun _ _ => 0) rfl ?_ ?_
  · go_wp2_with fail
    rw [← hU]
    clear hU
    refine (tensor_to 0 HA.out HK.out).mono ?_
    rintro e w2 ⟨rfl, hb2⟩
    have HA2 : Hid (Tens w2 _ _ t) := HT.out.later hb2
    have HU2 : Hid (Below U.heap.size U w2) := hb2
    have q0 := (HBB.out.later hb2).c0
    have q1 := (HBB.out.later hb2).c1
    clear hb2 k0 k1
    go_wp2_with fail
    refine (tensor_to 0 HA2.out HK2.out).mono ?_
    rintro e w3 ⟨rfl, hb3⟩
    have HU3 : Hid (Below U.heap.size U w3) := Below.after HU2.out hb3
    have HB3 : Hid (Below w.heap.size w w3) := Below.after HB.out HU3.out
    have HBX3 : Hid (Box w3 (w.heap.size + 1 + 1) (.slice none 0 0) (.slice none 0 0)) := HBX.out.later HU3.out
    clear hb3 q0 q1
    have a0 := (HBA.out.later HU3.out).c0
    have a1 := (HBB.out.later HU3.out).c0
    go_wp2_with fail
    refine (same_to false 0 (HA.out.later HU3.out).1 (HT.out.later HU3.out).1 HSB.out HSE.out).mono ?_
    rintro e w4 ⟨rfl, hw4⟩
    subst w4
    go_wp2
    go_step3
    exact ⟨rfl, rfl, rfl, rfl, HBX3.out, HB3.out⟩
  · rintro a w' ⟨hd, hs, h4, hbx, hbe⟩
    obtain ⟨G, hg, e⟩ := act57 a hd hs
    rw [hg] at h4
    subst e
    rw [h4]
    have l0 := hbx.c0
    have l1 := hbx.c1
    have m0 := hbx.f 0
    have m1 := hbx.f 1
    have HBS : Hid (Box _ _ _ _) := hbx.set (.slice none 0 0) (.slice none 0 0)
    have HBE : Hid (Below w.heap.size w w') := hbe
    clear hg hd hs hbx h4 hbe
    go_wp2
    rw [jump_ret]
    have hr0 := HBS.out.c0
    have hr1 := HBS.out.c1
    exact bodyPost_ret (v := .tuple #[.agg #[.slice none 0 0, .slice none 0 0], .int .i64 4]) (by simp [results, Tryz.results141, go_sem, hr0, hr1]) rfl ⟨rfl, (HBE.out.setCell (by simp; omega) _).setCell (by simp; omega) _⟩
/-- All that was there is as it was, but for blocks g and h. -/
structure Bu2 (g h : Nat) (w w' : World) : Prop where
  os : w'.os = w.os
  tape : w'.tape = w.tape
  output : w'.output = w.output
  size : w.heap.size ≤ w'.heap.size
  block : ∀ k, k < w.heap.size → k ≠ g → k ≠ h → w'.heap[k]? = w.heap[k]?
theorem Bu2.refl (g h : Nat) (w : World) : Bu2 g h w w := ⟨rfl, rfl, rfl, Nat.le_refl _, fun _ _ _ _ => rfl⟩
theorem Bu2.setCell {g h j : Nat} {w w' : World} (x : Bu2 g h w w') (u : Value) : Bu2 g h w (w'.setCell ⟨g, j, none⟩ u) :=
  ⟨x.os, x.tape, x.output, by simpa using x.size, fun k hk h1 h2 => (heap_setCell_other w' ⟨g, j, none⟩ k u h1).trans (x.block k hk h1 h2)⟩
theorem Bu2.moved {g h : Nat} {w w' : World} (x : Bu2 g h w w') (s : ByteArray) (q : Nat) : Bu2 g h w (w'.iterAt h s q) :=
  ⟨x.os, x.tape, x.output, by simpa [World.iterAt] using x.size, fun k hk h1 h2 => by simp only [World.iterAt, Array.getElem?_setIfInBounds]; rw [if_neg (fun e => h2 e.symm)]; exact x.block k hk h1 h2⟩
theorem Bu2.drew {g h : Nat} {w w' : World} (x : Bu2 g h w w') : Bu2 g h w w'.drew := ⟨x.os, x.tape, x.output, x.size, x.block⟩
theorem Bu2.box {g h : Nat} {w w' : World} (x : Bu2 g h w w') {B : Nat} {u v : Value} (hb : Box w B u v) (h1 : B ≠ g) (h2 : B ≠ h) : Box w' B u v := (x.block B hb.lt h1 h2).trans hb
theorem Bu2.cell {g h : Nat} {w w' : World} {p : Addr} (x : Bu2 g h w w') (hl : p.block < w.heap.size) (h1 : p.block ≠ g) (h2 : p.block ≠ h) : w'.cell? p = w.cell? p := World.cell?_of_block (x.block _ hl h1 h2)
theorem Bu2.below {g h N : Nat} {w0 w w' : World} (x : Bu2 g h w w') (hb : Below N w0 w) (h1 : N ≤ g) (h2 : N ≤ h) (hM : N ≤ w.heap.size) : Below N w0 w' :=
  ⟨x.os.trans hb.os, x.tape.trans hb.tape, x.output.trans hb.output, Nat.le_trans hb.size x.size, fun k hk => (x.block k (by omega) (by omega) (by omega)).trans (hb.block k hk)⟩
theorem Own.form {w : World} {B : Nat} {v : Value} {d : List Int} (h : Own w B v d) (h1 : 1 ≤ d.length) : ∃ g cap, v = .slice (some ⟨g, 0, none⟩) d.length cap ∧ d.length ≤ cap ∧ B ≤ g ∧ g < w.heap.size := by
  rcases h.row.2 with ⟨_, e⟩ | ⟨g, cap, cur, hv, hB, hg, hc, _⟩
  · omega
  · exact ⟨g, cap, hv, hc, hB, (Array.getElem?_eq_some_iff.1 hg).1⟩
theorem It.g {w : World} {I k n : Nat} {g : Nat → Bool} (h : It w I (gT g n) k) (hk : k < n) (ty : TypeId) :
    (Instr.next (.pointer (some ⟨I, 0, none⟩)) true ty).run Tryz.prog w = .ok (.tuple #[.bool true, .int .i64 k, .int .i32 (if g k then 111 else 120)]) (w.iterAt I (gT g n) (k + 1)) := by
  have hs : k < (gT g n).size := by rw [gT_size]; exact hk
  obtain ⟨h1, h2⟩ := gB_get g n k hk hs
  exact h.nx hs _ h1 h2 ty
set_option maxRecDepth 100000 in
set_option maxHeartbeats 4000000 in
theorem step_ok {a0 a1 b0 b1 : Value} {s t : Ten} {w : World} (ha : Tens w a0 a1 s) (ht : Tens w b0 b1 t) (hf : fitE s t = 0) :
    Calls Tryz.prog 141 #[.agg #[a0, a1], .agg #[b0, b1]] w fun e w' => ∃ x0 x1, e = .returned (.tuple #[.agg #[x0, x1], .int .i64 0]) ∧ OwnT w' w.heap.size x0 x1 (s.1, List.zipWith opG s.2 t.2) ∧ Below w.heap.size w w' := by
  obtain ⟨hx, hy, hst⟩ := fit_zero hf
  obtain ⟨hlt, hl1, hl64⟩ := fit_lens hf
  have hpr : (prd s.1).toNat = s.2.length := by have := tok_len hx; omega
  obtain ⟨aa, ac, eaa⟩ := ha.1.shape
  have hd1 : 1 ≤ s.1.length := (okd_parts (tok_okd hx)).1
  subst eaa
  obtain ⟨ea, en, ec, rfl⟩ := ht.1.shape3
  have hbold := ht.2.old (by omega)
  have haold := ha.2.old hl1
  rcases ha.2.cases with ⟨e, _⟩ | ⟨ab, ao, acp, eA, _, hacp, _, HCA⟩
  · rw [e] at hl1; simp at hl1
  rcases ht.2.cases with ⟨e, _⟩ | ⟨bb, bo, bcp, eB, _, hbcp, _, HCB⟩
  · rw [e] at hlt; simp at hlt; omega
  subst eA eB
  have hbb : bb < w.heap.size := hbold bb rfl
  have hab : ab < w.heap.size := haold ab rfl
  obtain ⟨N, hN⟩ : ∃ N, s.2.length = N := ⟨_, rfl⟩
  obtain ⟨D, hD⟩ : ∃ D, s.1.length = D := ⟨_, rfl⟩
  rw [hN] at hlt hl1 hl64 hpr hacp
  rw [hlt] at hbcp
  have HCD : Hid (∀ i, i < N → w.cell? ⟨bb, bo + i, none⟩ = some (.int .i64 (t.2.getD i 0))) := fun i hi => Ints.cellD (n := 0) (c := 0) HCB i (by omega)
  have HPR : Hid ((prd s.1).toNat = N) := hpr
  have HNN : Hid (s.2.length = N ∧ t.2.length = N) := ⟨hN, hlt⟩
  have HOK : Hid (okd s.1 = true) := tok_okd hx
  rw [hN, hD] at ha
  rw [hlt] at ht
  rw [hN, hD, hlt]
  obtain ⟨U, hU⟩ : ∃ U, U = ((((w.alloc (.cells #[(.slice aa D ac), (.slice (some ⟨ab, ao, none⟩) N acp)] 156)).alloc (.cells #[(.slice ea en ec), (.slice (some ⟨bb, bo, none⟩) N bcp)] 156)).alloc (.cells #[.slice none 0 0, .slice none 0 0] 156)).alloc (.cells #[.slice none 0 0, .slice none 0 0] 156)) := ⟨_, rfl⟩
  have hb : Below w.heap.size w U := by rw [hU]; exact ((((Below.refl _ _).alloc (Nat.le_refl _) _).alloc (by simp) _).alloc (by simp; omega) _).alloc (by simp; omega) _
  have HA : Hid (Tens U (.slice aa D ac) (.slice (some ⟨ab, ao, none⟩) N acp) s) := ha.later hb
  have HT : Hid (Tens U (.slice ea en ec) (.slice (some ⟨bb, bo, none⟩) N bcp) t) := ht.later hb
  have HB : Hid (Below w.heap.size w U) := hb
  have HBA : Hid (Box U w.heap.size (.slice aa D ac) (.slice (some ⟨ab, ao, none⟩) N acp)) := by show Box _ _ _ _; rw [hU]; exact (((Box.new w (.slice aa D ac) (.slice (some ⟨ab, ao, none⟩) N acp)).alloc _).alloc _).alloc _
  have HBB : Hid (Box U (w.heap.size + 1) (.slice ea en ec) (.slice (some ⟨bb, bo, none⟩) N bcp)) := by
    show Box _ _ _ _
    have := ((Box.new (w.alloc (.cells #[(.slice aa D ac), (.slice (some ⟨ab, ao, none⟩) N acp)] 156)) (.slice ea en ec) (.slice (some ⟨bb, bo, none⟩) N bcp)).alloc (.cells #[.slice none 0 0, .slice none 0 0] 156)).alloc (.cells #[.slice none 0 0, .slice none 0 0] 156)
    simp only [World.size_alloc] at this
    rw [hU]
    exact this
  have HBX : Hid (Box U (w.heap.size + 1 + 1) (.slice none 0 0) (.slice none 0 0)) := by
    show Box _ _ _ _
    have := (Box.new ((w.alloc (.cells #[(.slice aa D ac), (.slice (some ⟨ab, ao, none⟩) N acp)] 156)).alloc (.cells #[(.slice ea en ec), (.slice (some ⟨bb, bo, none⟩) N bcp)] 156)) (.slice none 0 0) (.slice none 0 0)).alloc (.cells #[.slice none 0 0, .slice none 0 0] 156)
    simp only [World.size_alloc] at this
    rw [hU]
    exact this
  have HBT : Hid (Box U (w.heap.size + 1 + 1 + 1) (.slice none 0 0) (.slice none 0 0)) := by
    show Box _ _ _ _
    have := Box.new (((w.alloc (.cells #[(.slice aa D ac), (.slice (some ⟨ab, ao, none⟩) N acp)] 156)).alloc (.cells #[(.slice ea en ec), (.slice (some ⟨bb, bo, none⟩) N bcp)] 156)).alloc (.cells #[.slice none 0 0, .slice none 0 0] 156)) (.slice none 0 0) (.slice none 0 0)
    simp only [World.size_alloc] at this
    rw [hU]
    exact this
  have hs0 : U.heap.size = w.heap.size + 1 + 1 + 1 + 1 := by rw [hU]; simp
  have k0 := HBA.out.c0
  have k1 := HBA.out.c1
  have HK : Hid (tkE s = 0) := by show _ = _; simp [tkE, hx]
  have HK2 : Hid (tkE t = 0) := by show _ = _; simp [tkE, hy]
  have HSB : Hid (smB s.1 t.1 = true) := by show _ = _; simp [smB, tok_okd hx, tok_okd hy, hst]
  have HSE : Hid (smE s.1 t.1 = 0) := by show _ = _; simp [smE, tok_okd hx, tok_okd hy]
  have HLG : Hid (lyG (abG s.2) (fun i => t.2.getD i 0) N N = List.zipWith opG s.2 t.2) := by
    show _ = _
    have := lyG_step s.2 t.2 (by omega)
    rw [hN] at this
    exact this
  have HD1 : Hid (s.1.length = D ∧ 1 ≤ D) := ⟨hD, by omega⟩
  clear ha ht hb hx hy hst hf hlt hpr hN hD HCA HCB hbold haold
  go_enter Tryz.func141, Tryz.ntmps141
  go_wp2_with fail
  refine wp_scope_jumps 0 (fun _ _ => False) (fun _ _ => 0) rfl ?_ ?_
  · go_wp2_with fail
    rw [← hU]
    clear hU
    refine (tensor_to 0 HA.out HK.out).mono ?_
    rintro e w2 ⟨rfl, hb2⟩
    have HA2 : Hid (Tens w2 _ _ t) := HT.out.later hb2
    have HU2 : Hid (Below U.heap.size U w2) := hb2
    have q0 := (HBB.out.later hb2).c0
    have q1 := (HBB.out.later hb2).c1
    clear hb2 k0 k1
    go_wp2_with fail
    refine (tensor_to 0 HA2.out HK2.out).mono ?_
    rintro e w3 ⟨rfl, hb3⟩
    have HU3 : Hid (Below U.heap.size U w3) := Below.after HU2.out hb3
    have HB3 : Hid (Below w.heap.size w w3) := Below.after HB.out HU3.out
    clear hb3 q0 q1
    have q2 := (HBA.out.later HU3.out).c0
    have q3 := (HBB.out.later HU3.out).c0
    go_wp2_with fail
    refine (same_to true 0 (HA.out.later HU3.out).1 (HT.out.later HU3.out).1 HSB.out HSE.out).mono ?_
    rintro e w4 ⟨rfl, hw4⟩
    subst w4
    go_wp2_with fail
    refine (fill_own 0 (HA.out.later HU3.out).1 HOK.out).mono ?_
    rw [HPR.out]
    rintro e w6 ⟨x0, b1, rfl, ho, hbk, ⟨hb1l, hap⟩, hb6⟩
    clear q2 q3
    have hs3 := HU3.out.size
    have hs6 := hb6.size
    obtain ⟨xg, xc, ex, hxc, hxg1, hxg2⟩ := ho.form (by rw [HD1.out.1]; exact HD1.out.2)
    rw [HD1.out.1] at ex
    subst ex
    have hxb : xg ≠ b1 := hap xg rfl
    have hb1w := hbk.lt
    have HU6 : Hid (Below U.heap.size U w6) := Below.after HU3.out hb6
    obtain ⟨V, hV⟩ : ∃ V, V = (w6.setCell ⟨w.heap.size + 1 + 1 + 1, 0, none⟩ (.slice (some ⟨xg, 0, none⟩) D xc)).setCell ⟨w.heap.size + 1 + 1 + 1, 1, none⟩ (.slice (some ⟨b1, 0, none⟩) N N) := ⟨_, rfl⟩
    have hsV : w6.heap.size ≤ V.heap.size ∧ V.heap.size ≤ w6.heap.size := by rw [hV]; simp
    obtain ⟨hsV1, hsV2⟩ := hsV
    have HBAV : Hid (Box V w.heap.size (.slice aa D ac) (.slice (some ⟨ab, ao, none⟩) N acp)) := by show Box _ _ _ _; rw [hV]; exact (HBA.out.later HU6.out).other2 _ _ (by omega)
    have HBBV : Hid (Box V (w.heap.size + 1) (.slice ea en ec) (.slice (some ⟨bb, bo, none⟩) N bcp)) := by show Box _ _ _ _; rw [hV]; exact (HBB.out.later HU6.out).other2 _ _ (by omega)
    have HBXV : Hid (Box V (w.heap.size + 1 + 1) (.slice none 0 0) (.slice none 0 0)) := by show Box _ _ _ _; rw [hV]; exact (HBX.out.later HU6.out).other2 _ _ (by omega)
    have HBTV : Hid (Box V (w.heap.size + 1 + 1 + 1) (.slice (some ⟨xg, 0, none⟩) D xc) (.slice (some ⟨b1, 0, none⟩) N N)) := by show Box _ _ _ _; rw [hV]; exact (HBT.out.later HU6.out).set _ _
    have HBV : Hid (Below w.heap.size w V) := by show Below _ _ _; rw [hV]; exact ((Below.after HB.out HU6.out).setCell (by simp; omega) _).setCell (by simp; omega) _
    have HOV : Hid (Own V (w.heap.size + 1 + 1 + 1 + 1) (.slice (some ⟨xg, 0, none⟩) D xc) s.1) := by
      show Own _ _ _ _
      rw [hV]
      exact ((ho.mono (by omega)).setCell _ _ (fun k hk => by have := ho.frm k hk; simp; omega)).setCell _ _ (fun k hk => by have := ho.frm k hk; simp; omega)
    have HKV : Hid (Blk V b1 (lyG (abG s.2) (fun i => t.2.getD i 0) N 0)) := by
      show Blk _ _ _
      rw [hV, lyG_zero]
      exact (hbk.setOther _ _ (by simp; omega)).setOther _ _ (by simp; omega)
    have HAV : Hid (Ints V (.slice (some ⟨ab, ao, none⟩) N acp) s.2) := by
      show Ints _ _ _
      rw [hV]
      exact ((HA.out.later HU6.out).2.setCell _ _ (fun k hk => by simp [Value.ownBlock] at hk; simp; omega)).setCell _ _ (fun k hk => by simp [Value.ownBlock] at hk; simp; omega)
    have z0 := (HBT.out.later HU6.out).c0
    have z1 := (HBT.out.later HU6.out).c1
    have z2 := (HBT.out.later HU6.out).f 0
    have z3 := (HBT.out.later HU6.out).f 1
    have z4 := HBAV.out.c1
    rw [hV] at z4
    clear ho hbk hap hb6
    go_wp2_with fail
    rw [← hV]
    clear hV z0 z1 z2 z3 z4
    refine (above_any HAV.out (by rw [HNN.out.1]; exact hl1) (by rw [HNN.out.1]; exact hl64)).mono ?_
    rw [HNN.out.1]
    rintro e w7 ⟨rfl, hw7⟩
    subst w7
    go_wp2
    have hsB := HBV.out.size
    go_loopw [] (fun w' => ∃ j : Nat, j ≤ N ∧ Blk w' b1 (lyG (abG s.2) (fun i => t.2.getD i 0) N j) ∧ It w' V.heap.size (abT s.2 N) j ∧ Bu2 b1 V.heap.size (V.iter (abT s.2 N) 0) w') (fun w' => N - w'.iterPos V.heap.size)
    case atStart => exact ⟨0, by omega, HKV.out.alloc _, It.new _ _ _, Bu2.refl _ _ _⟩
    case round =>
      obtain ⟨j, hj, hB, hI, hbu⟩ := hrel
      have HP : Hid (wr.iterPos V.heap.size = j) := hI.pos
      have hsr := hbu.size
      rw [iter_alloc, World.size_alloc] at hsr
      have HBU : Hid (Bu2 b1 V.heap.size (V.iter (abT s.2 N) 0) wr) := hbu
      have HKR : Hid (Blk wr b1 (lyG (abG s.2) (fun i => t.2.getD i 0) N j)) := hB
      have HIR : Hid (It wr V.heap.size (abT s.2 N) j) := hI
      clear hB hI hbu
      by_cases hlt : j < N
      · have hnx := fun ty => It.g (g := abG s.2) HIR.out hlt ty
        have HK1 : Hid (Blk (wr.iterAt V.heap.size (abT s.2 N) (j + 1)) b1 (lyG (abG s.2) (fun i => t.2.getD i 0) N j)) := HKR.out.moved (by omega) _ _
        have HI1 : Hid (It (wr.iterAt V.heap.size (abT s.2 N) (j + 1)) V.heap.size (abT s.2 N) (j + 1)) := HIR.out.moved _
        have HU1 : Hid (Bu2 b1 V.heap.size (V.iter (abT s.2 N) 0) (wr.iterAt V.heap.size (abT s.2 N) (j + 1))) := HBU.out.moved _ _
        obtain ⟨W1, hW1⟩ : ∃ W1, wr.iterAt V.heap.size (abT s.2 N) (j + 1) = W1 := ⟨_, rfl⟩
        rw [show gT (abG s.2) N = abT s.2 N from rfl, hW1] at hnx
        rw [hW1] at HK1 HI1 HU1
        obtain ⟨g, hg⟩ : ∃ g, abG s.2 j = g := ⟨_, rfl⟩
        rw [hg] at hnx
        cases g with
        | false =>
          have HS : Hid (lyG (abG s.2) (fun i => t.2.getD i 0) N j = lyG (abG s.2) (fun i => t.2.getD i 0) N (j + 1)) := lyG_off _ _ _ _ hg
          clear hW1 hg
          go_wp2_with (go_at_call 158; refine (opened_any false _).mono ?_; rintro e w' ⟨rfl, hw⟩; subst w')
          go_roundw
          case rel => exact ⟨j + 1, by omega, by rw [← HS.out]; exact HK1.out, HI1.out, HU1.out⟩
          case measure => rw [HI1.out.pos, HP.out]; omega
        | true =>
          have HS : Hid ((lyG (abG s.2) (fun i => t.2.getD i 0) N j).set j (t.2.getD j 0) = lyG (abG s.2) (fun i => t.2.getD i 0) N (j + 1)) := lyG_on _ _ _ _ hg
          have HBT1 : Hid (Box W1 (w.heap.size + 1 + 1 + 1) (.slice (some ⟨xg, 0, none⟩) D xc) (.slice (some ⟨b1, 0, none⟩) N N)) := HU1.out.box (HBTV.out.alloc _) (by omega) (by omega)
          have HBB1 : Hid (Box W1 (w.heap.size + 1) (.slice ea en ec) (.slice (some ⟨bb, bo, none⟩) N bcp)) := HU1.out.box (HBBV.out.alloc _) (by omega) (by omega)
          have v0 := HBT1.out.c1
          have v1 := HBB1.out.c1
          have v2 : W1.cell? ⟨bb, bo + j, none⟩ = some (.int .i64 (t.2.getD j 0)) := by
            refine (HU1.out.cell (p := ⟨bb, bo + j, none⟩) (by rw [iter_alloc, World.size_alloc]; simp; omega) (by simp; omega) (by simp; omega)).trans ?_
            exact (Below.cell (p := ⟨bb, bo + j, none⟩) (Below.push HBV.out _) hbb).trans (HCD.out j hlt)
          obtain ⟨y, hy⟩ : ∃ y, t.2.getD j 0 = y := ⟨_, rfl⟩
          rw [hy] at v2 HS
          have hf := HK1.out.frozen j
          obtain ⟨xx, hc⟩ : ∃ x, W1.cell? ⟨b1, j, none⟩ = some x := ⟨_, HK1.out.cell j (by rw [lyG_length]; exact hlt)⟩
          have z4 : (0 : Int) ≤ (j : Int) := by omega
          have z5 : (j : Int) < N := by omega
          have y0 : b1 ≠ w.heap.size + 1 + 1 + 1 := by omega
          have y1 : w.heap.size + 1 + 1 + 1 ≠ b1 := by omega
          have y2 : b1 ≠ w.heap.size + 1 := by omega
          have y3 : w.heap.size + 1 ≠ b1 := by omega
          have y4 : b1 ≠ bb := by omega
          have y5 : bb ≠ b1 := by omega
          clear hW1 hg hy
          go_wp2_with (go_at_call 158; refine (opened_any true _).mono ?_; rintro e w' ⟨rfl, hw⟩; subst w')
          go_region_held3 (fun w' => w'.cell? ⟨w.heap.size + 1 + 1 + 1, 1, none⟩ = some (.slice (some ⟨b1, 0, none⟩) N N) ∧ w'.cell? ⟨w.heap.size + 1, 1, none⟩ = some (.slice (some ⟨bb, bo, none⟩) N bcp) ∧ w'.cell? ⟨bb, bo + j, none⟩ = some (.int .i64 y)) (go_keep) (fail)
          go_wp2
          go_roundw
          case rel =>
            refine ⟨j + 1, by omega, ?_, ?_, ?_⟩
            · rw [← HS.out]
              exact HK1.out.set j y
            · exact HI1.out.set _ _ (by simp; omega)
            · exact (HU1.out.setCell (.int .i64 y)).drew
          case measure =>
            have hp := (HI1.out.set ⟨b1, j, none⟩ (.int .i64 y) (by simp; omega)).pos
            have hp2 : ((W1.setCell ⟨b1, j, none⟩ (.int .i64 y)).drew).iterPos V.heap.size = j + 1 := hp
            rw [hp2, HP.out]
            omega
      · have hj' : j = N := by omega
        subst hj'
        have hnd := fun ty => HIR.out.nd (abT_size _ _).symm ty
        have hbt := HBU.out.box (HBTV.out.alloc _) (by omega) (by omega)
        have t0 := hbt.c0
        have t1 := hbt.c1
        have hbx := HBU.out.box (HBXV.out.alloc _) (by omega) (by omega)
        have l0 := hbx.c0
        have l1 := hbx.c1
        have m0 := hbx.f 0
        have m1 := hbx.f 1
        have HBS : Hid (Box _ _ _ _) := hbx.set (.slice (some ⟨xg, 0, none⟩) D xc) (.slice (some ⟨b1, 0, none⟩) j j)
        have HO5 : Hid (Own wr (w.heap.size + 1 + 1 + 1 + 1) (.slice (some ⟨xg, 0, none⟩) D xc) s.1) := (HOV.out.later (Below.push (Below.refl _ _) _)).at fun k hk => by
          simp [Value.ownBlock] at hk
          exact HBU.out.block k (by rw [iter_alloc, World.size_alloc]; omega) (by omega) (by omega)
        have HK5 : Hid (Own wr (w.heap.size + 1 + 1 + 1 + 1) (.slice (some ⟨b1, 0, none⟩) j j) (List.zipWith opG s.2 t.2)) := by
          have h := HKR.out
          rw [HLG.out] at h
          have hz : (List.zipWith opG s.2 t.2).length = j := by rw [List.length_zipWith, HNN.out.1, HNN.out.2]; simp
          exact Blk.own h (by omega) hz.symm (by rw [hz]; unfold big; omega)
        have HBW : Hid (Below w.heap.size w wr) := HBU.out.below (Below.push HBV.out _) (by omega) (by omega) (by rw [iter_alloc, World.size_alloc]; omega)
        clear hbx hbt
        go_wp2
        rw [jump_ret]
        have hr0 := HBS.out.c0
        have hr1 := HBS.out.c1
        refine bodyPost_ret (v := .tuple #[.agg #[.slice (some ⟨xg, 0, none⟩) D xc, .slice (some ⟨b1, 0, none⟩) j j], .int .i64 0]) (by simp [results, Tryz.results141, go_sem, hr0, hr1]) rfl ⟨_, _, rfl, ?_, ?_⟩
        · have h1 : OwnT wr (w.heap.size + 1 + 1 + 1 + 1) (.slice (some ⟨xg, 0, none⟩) D xc) (.slice (some ⟨b1, 0, none⟩) j j) (s.1, List.zipWith opG s.2 t.2) := ⟨HO5.out, HK5.out, fun k hk e => by simp [Value.ownBlock] at hk e; omega⟩
          exact ((h1.setCell _ _ (by simp <;> omega)).setCell _ _ (by simp <;> omega)).mono (by omega)
        · exact (HBW.out.setCell (by simp <;> omega) _).setCell (by simp <;> omega) _
  · intro a w' h
    exact h.elim
theorem step_any {a0 a1 b0 b1 : Value} {s t : Ten} {w : World} (ha : Tens w a0 a1 s) (hb' : Tens w b0 b1 t) :
    Calls Tryz.prog 141 #[.agg #[a0, a1], .agg #[b0, b1]] w fun e w' => ∃ x0 x1, e = .returned (.tuple #[.agg #[x0, x1], .int .i64 (fitE s t)]) ∧ OwnT w' w.heap.size x0 x1 (eachR opG s t) ∧ Below w.heap.size w w' := by
  have bad : ∀ c : Int, c ≠ 0 → fitE s t = c → (Calls Tryz.prog 141 #[.agg #[a0, a1], .agg #[b0, b1]] w fun e w' => e = .returned (.tuple #[.agg #[.slice none 0 0, .slice none 0 0], .int .i64 c]) ∧ Below w.heap.size w w') →
      Calls Tryz.prog 141 #[.agg #[a0, a1], .agg #[b0, b1]] w fun e w' => ∃ x0 x1, e = .returned (.tuple #[.agg #[x0, x1], .int .i64 (fitE s t)]) ∧ OwnT w' w.heap.size x0 x1 (eachR opG s t) ∧ Below w.heap.size w w' := by
    intro c hc he h
    refine h.mono ?_
    rintro e w' ⟨rfl, hb⟩
    refine ⟨.slice none 0 0, .slice none 0 0, by rw [he], ?_, hb⟩
    rw [each_bad_eq he hc]
    exact OwnT.nil _ _
  cases hx : tok s with
  | false => exact bad 1 (by decide) (by simp [fitE, hx]) (step_bad1 ha hb' hx)
  | true =>
    cases hy : tok t with
    | false => exact bad 1 (by decide) (by simp [fitE, hy]) (step_bad2 ha hb' hx hy)
    | true =>
      by_cases h4 : s.1 = t.1
      · have hf : fitE s t = 0 := by simp [fitE, hx, hy, h4]
        rw [hf, each_ok_eq hf]
        exact step_ok ha hb' hf
      · exact bad 4 (by decide) (by simp [fitE, hx, hy, h4]) (step_four ha hb' hx hy h4)
theorem step_to {a0 a1 b0 b1 : Value} {s t : Ten} {w : World} (x : Int) (u : Ten) (ha : Tens w a0 a1 s) (hb' : Tens w b0 b1 t) (hx : fitE s t = x) (hu : eachR opG s t = u) :
    Calls Tryz.prog 141 #[.agg #[a0, a1], .agg #[b0, b1]] w fun e w' => ∃ x0 x1, e = .returned (.tuple #[.agg #[x0, x1], .int .i64 x]) ∧ OwnT w' w.heap.size x0 x1 u ∧ Below w.heap.size w w' := by
  subst hx hu
  exact step_any ha hb'
set_option maxRecDepth 100000 in
set_option maxHeartbeats 1000000 in
theorem relu_any {a0 a1 : Value} {s : Ten} {w : World} (ha : Tens w a0 a1 s) :
    Calls Tryz.prog 139 #[.agg #[a0, a1]] w fun e w' => ∃ x0 x1, e = .returned (.tuple #[.agg #[x0, x1], .int .i64 (tkE s)]) ∧ OwnT w' w.heap.size x0 x1 (eachR opG s s) ∧ Below w.heap.size w w' := by
  obtain ⟨aa, an, ac, rfl⟩ := ha.1.shape3
  obtain ⟨ba, bn, bc, rfl⟩ := ha.2.shape3
  have HS : Hid (fitE s s = tkE s) := fit_self
  obtain ⟨U, hU⟩ : ∃ U, U = ((w.alloc (.cells #[.slice aa an ac, .slice ba bn bc] 156)).alloc (.cells #[.slice none 0 0, .slice none 0 0] 156)) := ⟨_, rfl⟩
  have hb : Below w.heap.size w U := by rw [hU]; exact ((Below.refl _ _).alloc (Nat.le_refl _) _).alloc (by simp) _
  have HA : Hid (Tens U (.slice aa an ac) (.slice ba bn bc) s) := ha.later hb
  have HB : Hid (Below w.heap.size w U) := hb
  have HBA : Hid (Box U w.heap.size (.slice aa an ac) (.slice ba bn bc)) := by show Box _ _ _ _; rw [hU]; exact (Box.new w _ _).alloc _
  have HBX : Hid (Box U (w.heap.size + 1) (.slice none 0 0) (.slice none 0 0)) := by
    show Box _ _ _ _
    have := Box.new (w.alloc (.cells #[.slice aa an ac, .slice ba bn bc] 156)) (.slice none 0 0) (.slice none 0 0)
    simp only [World.size_alloc] at this
    rw [hU]
    exact this
  have hs0 : w.heap.size + 1 + 1 ≤ U.heap.size := by rw [hU]; simp
  clear ha hb
  go_enter Tryz.func139, Tryz.ntmps139
  go_wp2_with fail
  rw [← hU]
  clear hU
  refine (step_to (tkE s) (eachR opG s s) HA.out HA.out HS.out rfl).mono ?_
  rintro e w2 ⟨x0, x1, rfl, ho, hb2⟩
  obtain ⟨xa, xn, xc, rfl⟩ := ho.dims.ints.shape3
  obtain ⟨ya, yn, yc, rfl⟩ := ho.data.ints.shape3
  have hbx := HBX.out.later hb2
  have l0 := hbx.c0
  have l1 := hbx.c1
  have m0 := hbx.f 0
  have m1 := hbx.f 1
  have HBS : Hid (Box _ _ _ _) := hbx.set (.slice xa xn xc) (.slice ya yn yc)
  have HO : Hid (OwnT w2 (w.heap.size + 1 + 1) (.slice xa xn xc) (.slice ya yn yc) (eachR opG s s)) := ho.mono hs0
  have HBW : Hid (Below w.heap.size w w2) := Below.after HB.out hb2
  clear hbx ho hb2
  go_wp2
  have hr0 := HBS.out.c0
  have hr1 := HBS.out.c1
  refine bodyPost_ret (v := .tuple #[.agg #[.slice xa xn xc, .slice ya yn yc], .int .i64 (tkE s)]) (by simp [results, Tryz.results139, go_sem, hr0, hr1]) rfl ⟨_, _, rfl, ?_, ?_⟩
  · exact (HO.out.set2 _ _ (by omega)).mono (by omega)
  · exact (HBW.out.setCell (by simp <;> omega) _).setCell (by simp <;> omega) _
theorem relu_to {a0 a1 : Value} {s : Ten} {w : World} (x : Int) (u : Ten) (ha : Tens w a0 a1 s) (hx : tkE s = x) (hu : eachR opG s s = u) :
    Calls Tryz.prog 139 #[.agg #[a0, a1]] w fun e w' => ∃ x0 x1, e = .returned (.tuple #[.agg #[x0, x1], .int .i64 x]) ∧ OwnT w' w.heap.size x0 x1 u ∧ Below w.heap.size w w' := by
  subst hx hu
  exact relu_any ha
def lastD (d : List Int) : Int := d.getD (d.length - 1) 0
def lesD (d : List Int) (n : Int) : List Int := d.set (d.length - 1) (lastD d / n)
def fwE (t : Ten) (n : Int) : Int := if tok t = true ∧ 1 ≤ n ∧ n ≤ 8 then (if lastD t.1 % n = 0 then 0 else 4) else 1
def fwD (t : Ten) (n : Int) : List Int := if fwE t n = 0 then lesD t.1 n else []
theorem lastD_bd {d : List Int} (h : okd d = true) : 1 ≤ lastD d ∧ lastD d ≤ 8 := by
  obtain ⟨h1, _, h3, _⟩ := okd_parts h
  have hl : d.length - 1 < d.length := by omega
  have : lastD d = d[d.length - 1] := by simp [lastD, hl]
  rw [this]
  exact inr_mem h3 (List.getElem_mem hl)
/-- A jump with nothing but what was there. -/
def Jn (n : Nat) (w : World) (a : Act) (w' : World) : Prop := a.defers = [] ∧ a.tmps.size = n ∧ Below w.heap.size w w'
set_option maxRecDepth 100000 in
set_option maxHeartbeats 2000000 in
theorem few_bad1 {a0 a1 : Value} {t : Ten} {w : World} (n : Int) (ha : Tens w a0 a1 t) (hx : tok t = false) :
    Calls Tryz.prog 156 #[.agg #[a0, a1], .int .i64 n] w fun e w' => e = .returned (.tuple #[.slice none 0 0, .int .i64 1]) ∧ Below w.heap.size w w' := by
  obtain ⟨aa, an, ac, rfl⟩ := ha.1.shape3
  obtain ⟨ba, bn, bc, rfl⟩ := ha.2.shape3
  obtain ⟨U, hU⟩ : ∃ U, U = w.alloc (.cells #[.slice aa an ac, .slice ba bn bc] 156) := ⟨_, rfl⟩
  have hb : Below w.heap.size w U := by rw [hU]; exact (Below.refl _ _).alloc (Nat.le_refl _) _
  have HA : Hid (Tens U (.slice aa an ac) (.slice ba bn bc) t) := ha.later hb
  have HB : Hid (Below w.heap.size w U) := hb
  have HK : Hid (tkE t = 1) := by show _ = _; simp [tkE, hx]
  clear ha hb hx
  go_enter Tryz.func156, Tryz.ntmps156
  go_wp2_with fail
  refine wp_scope_jumps 0 (Jn 42 w) (fun _ _ => 0) rfl ?_ ?_
  · go_wp2_with fail
    rw [← hU]
    refine (tensor_to 1 HA.out HK.out).mono ?_
    rintro e w2 ⟨rfl, hb2⟩
    have HB2 : Hid (Below w.heap.size w w2) := Below.after HB.out hb2
    clear hb2
    go_wp2
    go_step3
    exact ⟨rfl, rfl, rfl, HB2.out⟩
  · rintro a w' ⟨hd, hs, hbe⟩
    obtain ⟨G, hg, e⟩ := act42 a hd hs
    subst e
    have HBE : Hid (Below w.heap.size w w') := hbe
    clear hg hd hs hbe
    go_wp2
    rw [jump_ret]
    exact bodyPost_ret (v := .tuple #[.slice none 0 0, .int .i64 1]) (by simp [results, Tryz.results156, go_sem]) rfl ⟨rfl, HBE.out⟩
set_option maxRecDepth 100000 in
set_option maxHeartbeats 2000000 in
theorem few_bad2 {a0 a1 : Value} {t : Ten} {w : World} (n : Int) (ha : Tens w a0 a1 t) (hx : tok t = true) (hn : ¬ (1 ≤ n ∧ n ≤ 8)) :
    Calls Tryz.prog 156 #[.agg #[a0, a1], .int .i64 n] w fun e w' => e = .returned (.tuple #[.slice none 0 0, .int .i64 1]) ∧ Below w.heap.size w w' := by
  obtain ⟨aa, an, ac, rfl⟩ := ha.1.shape3
  obtain ⟨ba, bn, bc, rfl⟩ := ha.2.shape3
  obtain ⟨U, hU⟩ : ∃ U, U = w.alloc (.cells #[.slice aa an ac, .slice ba bn bc] 156) := ⟨_, rfl⟩
  have hb : Below w.heap.size w U := by rw [hU]; exact (Below.refl _ _).alloc (Nat.le_refl _) _
  have HA : Hid (Tens U (.slice aa an ac) (.slice ba bn bc) t) := ha.later hb
  have HB : Hid (Below w.heap.size w U) := hb
  have HK : Hid (tkE t = 0) := by show _ = _; simp [tkE, hx]
  clear ha hb hx
  by_cases h1 : n < 1
  · clear hn
    go_enter Tryz.func156, Tryz.ntmps156
    go_wp2_with fail
    refine wp_scope_jumps 0 (Jn 42 w) (fun _ _ => 0) rfl ?_ ?_
    · go_wp2_with fail
      rw [← hU]
      refine (tensor_to 0 HA.out HK.out).mono ?_
      rintro e w2 ⟨rfl, hb2⟩
      have HB2 : Hid (Below w.heap.size w w2) := Below.after HB.out hb2
      clear hb2
      go_wp2
      go_step3
      exact ⟨rfl, rfl, rfl, HB2.out⟩
    · rintro a w' ⟨hd, hs, hbe⟩
      obtain ⟨G, hg, e⟩ := act42 a hd hs
      subst e
      have HBE : Hid (Below w.heap.size w w') := hbe
      clear hg hd hs hbe
      go_wp2
      rw [jump_ret]
      exact bodyPost_ret (v := .tuple #[.slice none 0 0, .int .i64 1]) (by simp [results, Tryz.results156, go_sem]) rfl ⟨rfl, HBE.out⟩
  · have h8 : 8 < n := by omega
    clear hn
    go_enter Tryz.func156, Tryz.ntmps156
    go_wp2_with fail
    refine wp_scope_jumps 0 (Jn 42 w) (fun _ _ => 0) rfl ?_ ?_
    · go_wp2_with fail
      rw [← hU]
      refine (tensor_to 0 HA.out HK.out).mono ?_
      rintro e w2 ⟨rfl, hb2⟩
      have HB2 : Hid (Below w.heap.size w w2) := Below.after HB.out hb2
      clear hb2
      go_wp2
      go_step3
      exact ⟨rfl, rfl, rfl, HB2.out⟩
    · rintro a w' ⟨hd, hs, hbe⟩
      obtain ⟨G, hg, e⟩ := act42 a hd hs
      subst e
      have HBE : Hid (Below w.heap.size w w') := hbe
      clear hg hd hs hbe
      go_wp2
      rw [jump_ret]
      exact bodyPost_ret (v := .tuple #[.slice none 0 0, .int .i64 1]) (by simp [results, Tryz.results156, go_sem]) rfl ⟨rfl, HBE.out⟩
/-- A tensor that may be: its last dim in memory. -/
theorem last_of {w : World} {a0 a1 : Value} {t : Ten} (ha : Tens w a0 a1 t) (hx : tok t = true) :
    ∃ b off c E L : Nat, a0 = .slice (some ⟨b, off, none⟩) (E + 1) c ∧ t.1.length = E + 1 ∧ lastD t.1 = (L : Int) ∧ 1 ≤ L ∧ L ≤ 8 ∧ E + 1 ≤ c ∧ E ≤ 2 ∧ b < w.heap.size ∧ w.cell? ⟨b, off + E, none⟩ = some (.int .i64 L) := by
  have ho := tok_okd hx
  obtain ⟨h1, h3, _, _⟩ := okd_parts ho
  obtain ⟨l1, l8⟩ := lastD_bd ho
  have hold := ha.1.old h1
  rcases ha.1.cases with ⟨e, _⟩ | ⟨b, off, c, rfl, h0, hc, hb, HC⟩
  · rw [e] at h1; simp at h1
  obtain ⟨E, hE⟩ : ∃ E, t.1.length = E + 1 := ⟨t.1.length - 1, by omega⟩
  refine ⟨b, off, c, E, (lastD t.1).toNat, by rw [hE], hE, by omega, by omega, by omega, by omega, by omega, hold b rfl, ?_⟩
  have := Ints.cellD (n := 0) (c := 0) HC E (by omega)
  rw [this]
  congr 2
  have : lastD t.1 = t.1.getD E 0 := by rw [lastD, hE]; rfl
  omega
set_option maxRecDepth 100000 in
set_option maxHeartbeats 2000000 in
theorem few_four {a0 a1 : Value} {t : Ten} {w : World} (n : Nat) (ha : Tens w a0 a1 t) (hx : tok t = true) (h1 : 1 ≤ n) (h8 : n ≤ 8) (hd : ¬ lastD t.1 % n = 0) :
    Calls Tryz.prog 156 #[.agg #[a0, a1], .int .i64 n] w fun e w' => e = .returned (.tuple #[.slice none 0 0, .int .i64 4]) ∧ Below w.heap.size w w' := by
  obtain ⟨b, off, c, E, L, rfl, hE, hL, l1, l8, hc, hE2, hbw, hcell⟩ := last_of ha hx
  obtain ⟨ba, bn, bc, rfl⟩ := ha.2.shape3
  rw [hL] at hd
  have hd2 : ((L : Int) % (n : Int) != 0) = true := by simpa using hd
  have n0 : ¬ n = 0 := by omega
  obtain ⟨U, hU⟩ : ∃ U, U = w.alloc (.cells #[.slice (some ⟨b, off, none⟩) (E + 1) c, .slice ba bn bc] 156) := ⟨_, rfl⟩
  have hb : Below w.heap.size w U := by rw [hU]; exact (Below.refl _ _).alloc (Nat.le_refl _) _
  have HA : Hid (Tens U (.slice (some ⟨b, off, none⟩) (E + 1) c) (.slice ba bn bc) t) := ha.later hb
  have HB : Hid (Below w.heap.size w U) := hb
  have HBA : Hid (Box U w.heap.size (.slice (some ⟨b, off, none⟩) (E + 1) c) (.slice ba bn bc)) := by show Box _ _ _ _; rw [hU]; exact Box.new w _ _
  have HK : Hid (tkE t = 0) := by show _ = _; simp [tkE, hx]
  have HC : Hid (w.cell? ⟨b, off + E, none⟩ = some (.int .i64 L)) := hcell
  clear ha hb hx hcell hd
  go_enter Tryz.func156, Tryz.ntmps156
  go_wp2_with fail
  refine wp_scope_jumps 1 (Jn 42 w) (fun _ _ => 0) rfl ?_ ?_
  · go_wp2_with fail
    rw [← hU]
    clear hU
    refine (tensor_to 0 HA.out HK.out).mono ?_
    rintro e w2 ⟨rfl, hb2⟩
    have HB2 : Hid (Below w.heap.size w w2) := Below.after HB.out hb2
    have q0 := (HBA.out.later hb2).c0
    have q1 := cell_later HB2.out HC.out
    clear hb2
    go_wp2
    go_step3
    exact ⟨rfl, rfl, rfl, HB2.out⟩
  · rintro a w' ⟨hd, hs, hbe⟩
    obtain ⟨G, hg, e⟩ := act42 a hd hs
    subst e
    have HBE : Hid (Below w.heap.size w w') := hbe
    clear hg hd hs hbe
    go_wp2
    rw [jump_ret]
    exact bodyPost_ret (v := .tuple #[.slice none 0 0, .int .i64 4]) (by simp [results, Tryz.results156, go_sem]) rfl ⟨rfl, HBE.out⟩
set_option maxRecDepth 100000 in
set_option maxHeartbeats 2000000 in
theorem few_ok {a0 a1 : Value} {t : Ten} {w : World} (n : Nat) (ha : Tens w a0 a1 t) (hx : tok t = true) (h1 : 1 ≤ n) (h8 : n ≤ 8) (hd : lastD t.1 % n = 0) :
    Calls Tryz.prog 156 #[.agg #[a0, a1], .int .i64 n] w fun e w' => ∃ v, e = .returned (.tuple #[v, .int .i64 0]) ∧ Own w' w.heap.size v (lesD t.1 n) ∧ Below w.heap.size w w' := by
  obtain ⟨b, off, c, E, L, rfl, hE, hL, l1, l8, hc, hE2, hbw, hcell⟩ := last_of ha hx
  obtain ⟨ba, bn, bc, rfl⟩ := ha.2.shape3
  rw [hL] at hd
  have hd2 : ((L : Int) % (n : Int) != 0) = false := by simpa using hd
  have n0 : ¬ n = 0 := by omega
  obtain ⟨Q, hQ⟩ : ∃ Q, L / n = Q := ⟨_, rfl⟩
  have hQL : Q ≤ 8 := by rw [← hQ]; exact Nat.le_trans (Nat.div_le_self _ _) l8
  have f0 : (L : Int).tdiv (n : Int) = (Q : Int) := by rw [Int.tdiv_eq_ediv_of_nonneg (by omega), ← hQ]; simp
  have f2 : IntKind.i64.wrap (Q : Int) = (Q : Int) := wrap_small _ (by omega) (by omega)
  have f4 : IntKind.i64.wrap ((L : Int).tdiv (n : Int)) = (Q : Int) := by rw [f0, f2]
  have f5 : (L : Int) / (n : Int) = (Q : Int) := by rw [← hQ]; simp
  have f6 : wrap64 ((L : Int) / (n : Int)) = (Q : Int) := by rw [f5]; exact wrap_in (by omega)
  have HLE : Hid (lesD t.1 n = t.1.set E (Q : Int)) := by
    show _ = _
    rw [lesD, hL, hE, ← hQ]
    simp
  obtain ⟨U, hU⟩ : ∃ U, U = w.alloc (.cells #[.slice (some ⟨b, off, none⟩) (E + 1) c, .slice ba bn bc] 156) := ⟨_, rfl⟩
  have hb : Below w.heap.size w U := by rw [hU]; exact (Below.refl _ _).alloc (Nat.le_refl _) _
  have HA : Hid (Tens U (.slice (some ⟨b, off, none⟩) (E + 1) c) (.slice ba bn bc) t) := ha.later hb
  have HB : Hid (Below w.heap.size w U) := hb
  have HBA : Hid (Box U w.heap.size (.slice (some ⟨b, off, none⟩) (E + 1) c) (.slice ba bn bc)) := by show Box _ _ _ _; rw [hU]; exact Box.new w _ _
  have HK : Hid (tkE t = 0) := by show _ = _; simp [tkE, hx]
  have HC : Hid (w.cell? ⟨b, off + E, none⟩ = some (.int .i64 L)) := hcell
  have HE : Hid (t.1.length = E + 1 ∧ t.1.getD E 0 = L) := ⟨hE, by rw [← hL, lastD, hE]; rfl⟩
  clear ha hb hx hcell hd hE hL hQ
  go_enter Tryz.func156, Tryz.ntmps156
  go_wp2_with fail
  refine wp_scope_jumps 0 (fun _ _ => False) (fun _ _ => 0) rfl ?_ ?_
  · go_wp2_with fail
    rw [← hU]
    clear hU
    refine (tensor_to 0 HA.out HK.out).mono ?_
    rintro e w2 ⟨rfl, hb2⟩
    have HB2 : Hid (Below w.heap.size w w2) := Below.after HB.out hb2
    have HA2 : Hid (Tens w2 (.slice (some ⟨b, off, none⟩) (E + 1) c) (.slice ba bn bc) t) := HA.out.later hb2
    have q0 := (HBA.out.later hb2).c0
    have q1 := cell_later HB2.out HC.out
    clear hb2
    go_wp2_with fail
    refine (clone_own HA2.out.1 (by rw [HE.out.1]; omega)).mono ?_
    rintro e w3 ⟨v', rfl, ho, hb3⟩
    obtain ⟨g, cap, ev', hcap, hg1, hg2⟩ := ho.form (by rw [HE.out.1]; omega)
    rw [HE.out.1] at ev' hcap
    subst ev'
    obtain ⟨p1, p2, p3⟩ := ho.put HE.out.1 E (by omega) (Q : Int)
    rw [HE.out.2] at p1
    rw [← HLE.out] at p3
    have HP : Hid (Own (w3.setCell ⟨g, E, none⟩ (.int .i64 Q)) w2.heap.size (.slice (some ⟨g, 0, none⟩) (E + 1) cap) (lesD t.1 n)) := p3
    have HB3 : Hid (Below w.heap.size w w3) := Below.after HB2.out hb3
    have hs2 := HB2.out.size
    clear ho hb3 p3 q0 q1
    go_wp2
    rw [jump_ret]
    exact bodyPost_ret (v := .tuple #[.slice (some ⟨g, 0, none⟩) (E + 1) cap, .int .i64 0]) (by simp [results, Tryz.results156, go_sem]) rfl ⟨_, rfl, HP.out.mono (by omega), HB3.out.setCell (by simp; omega) _⟩
  · intro a w' h
    exact h.elim
theorem few_any {a0 a1 : Value} {t : Ten} {w : World} (n : Int) (ha : Tens w a0 a1 t) :
    Calls Tryz.prog 156 #[.agg #[a0, a1], .int .i64 n] w fun e w' => ∃ v, e = .returned (.tuple #[v, .int .i64 (fwE t n)]) ∧ Own w' w.heap.size v (fwD t n) ∧ Below w.heap.size w w' := by
  have bad : ∀ c : Int, c ≠ 0 → fwE t n = c → (Calls Tryz.prog 156 #[.agg #[a0, a1], .int .i64 n] w fun e w' => e = .returned (.tuple #[.slice none 0 0, .int .i64 c]) ∧ Below w.heap.size w w') →
      Calls Tryz.prog 156 #[.agg #[a0, a1], .int .i64 n] w fun e w' => ∃ v, e = .returned (.tuple #[v, .int .i64 (fwE t n)]) ∧ Own w' w.heap.size v (fwD t n) ∧ Below w.heap.size w w' := by
    intro c hc he h
    refine h.mono ?_
    rintro e w' ⟨rfl, hb⟩
    refine ⟨.slice none 0 0, by rw [he], ?_, hb⟩
    rw [fwD, he, if_neg hc]
    exact Own.nil _ _
  cases hx : tok t with
  | false => exact bad 1 (by decide) (by simp [fwE, hx]) (few_bad1 n ha hx)
  | true =>
    by_cases hn : 1 ≤ n ∧ n ≤ 8
    · obtain ⟨k, rfl⟩ : ∃ k : Nat, n = k := ⟨n.toNat, by omega⟩
      by_cases hd : lastD t.1 % (k : Int) = 0
      · have he : fwE t k = 0 := by rw [fwE, if_pos ⟨hx, hn⟩, if_pos hd]
        rw [fwD, he, if_pos rfl]
        exact few_ok k ha hx (by omega) (by omega) hd
      · exact bad 4 (by decide) (by rw [fwE, if_pos ⟨hx, hn⟩, if_neg hd]) (few_four k ha hx (by omega) (by omega) hd)
    · exact bad 1 (by decide) (by rw [fwE, if_neg (fun h => hn h.2)]) (few_bad2 n ha hx hn)
theorem last_split {d : List Int} (h : 1 ≤ d.length) : d = d.take (d.length - 1) ++ [lastD d] := by
  have h1 : d.length - 1 < d.length := by omega
  have := take_snoc d (d.length - 1) h1
  rw [show d.length - 1 + 1 = d.length by omega, List.take_length] at this
  rw [show lastD d = d[d.length - 1] by simp [lastD, h1]]
  exact this
theorem les_split {d : List Int} (h : 1 ≤ d.length) (n : Int) : lesD d n = d.take (d.length - 1) ++ [lastD d / n] := by
  have h1 : d.length - 1 < d.length := by omega
  rw [lesD, List.set_eq_take_append_cons_drop, if_pos h1, List.drop_of_length_le (by omega)]
/-- n goes into all cells; what is left. -/
theorem few_mul {t : Ten} {n : Nat} (hx : tok t = true) (h1 : 1 ≤ n) (hd : lastD t.1 % n = 0) :
    ∃ m : Nat, 1 ≤ m ∧ t.2.length = m * n ∧ okd (lesD t.1 n) = true ∧ (prd (lesD t.1 n)).toNat = m := by
  have ho := tok_okd hx
  obtain ⟨k1, k3, kin, k64⟩ := okd_parts ho
  obtain ⟨l1, l8⟩ := lastD_bd ho
  have hs := last_split k1
  have hl := les_split k1 (n : Int)
  have hlen := tok_len hx
  obtain ⟨P, hP⟩ : ∃ P, t.1.take (t.1.length - 1) = P := ⟨_, rfl⟩
  rw [hP] at hs hl
  have hPin : inr P = true := by rw [← hP]; exact inr_take kin _
  have hp1 := prd_lo hPin
  obtain ⟨q, hq⟩ : ∃ q : Nat, lastD t.1 / n = q := ⟨(lastD t.1 / n).toNat, by have := Int.ediv_nonneg (show (0:Int) ≤ lastD t.1 by omega) (show (0:Int) ≤ n by omega); omega⟩
  have hqn : lastD t.1 = q * n := by rw [← hq]; exact (Int.ediv_mul_cancel (Int.dvd_of_emod_eq_zero hd)).symm
  have q1 : 1 ≤ q := by
    rcases Nat.eq_zero_or_pos q with h | h
    · rw [h] at hqn; simp at hqn; omega
    · exact h
  have q8 : (q : Int) ≤ lastD t.1 := by
    rw [hqn]
    have := Int.mul_le_mul_of_nonneg_left (show (1:Int) ≤ n by omega) (show (0:Int) ≤ q by omega)
    omega
  have e1 : prd t.1 = prd P * lastD t.1 := by rw [hs, prd_snoc]; congr 1; rw [← hs]
  have e2 : prd (lesD t.1 n) = prd P * q := by rw [hl, prd_snoc, hq]
  have hin : inr (lesD t.1 n) = true := by
    rw [hl, inr_snoc, hPin, hq]
    simp
    omega
  obtain ⟨p, hp⟩ : ∃ p : Nat, prd P = p := ⟨(prd P).toNat, by omega⟩
  have e3 : prd P * (q : Int) ≤ prd P * lastD t.1 := Int.mul_le_mul_of_nonneg_left q8 (by omega)
  refine ⟨p * q, Nat.mul_pos (by omega) q1, ?_, okd_mk ?_ ?_ hin ?_, ?_⟩
  · have : (t.2.length : Int) = ((p * q * n : Nat) : Int) := by rw [hlen, e1, hqn, hp]; simp [Int.mul_assoc]
    omega
  · rw [lesD, List.length_set]; exact k1
  · rw [lesD, List.length_set]; exact k3
  · rw [e2]; omega
  · rw [e2, hp, ← Int.natCast_mul, Int.toNat_natCast]
def mxM (t : Ten) (n : Int) : List Int := maxs n.toNat (t.2.length / n.toNat) t.2
def mxR (t : Ten) (n : Int) : Ten := if fwE t n = 0 then (lesD t.1 n, mxM t n) else ([], [])
theorem fwE_zero {t : Ten} {n : Int} (h : fwE t n = 0) : tok t = true ∧ 1 ≤ n ∧ n ≤ 8 ∧ lastD t.1 % n = 0 := by
  unfold fwE at h
  split at h
  · rename_i h1
    split at h
    · rename_i h2
      exact ⟨h1.1, h1.2.1, h1.2.2, h2⟩
    · simp at h
  · simp at h
set_option maxRecDepth 100000 in
set_option maxHeartbeats 2000000 in
theorem max_bad {a0 a1 : Value} {t : Ten} {w : World} (n c : Int) (ha : Tens w a0 a1 t) (hc : fwE t n = c) (hc0 : c ≠ 0) :
    Calls Tryz.prog 140 #[.agg #[a0, a1], .int .i64 n] w fun e w' => e = .returned (.tuple #[.agg #[.slice none 0 0, .slice none 0 0], .int .i64 c]) ∧ Below w.heap.size w w' := by
  obtain ⟨aa, an, ac, rfl⟩ := ha.1.shape3
  obtain ⟨ba, bn, bc, rfl⟩ := ha.2.shape3
  have hne : (c != 0) = true := by simpa using hc0
  obtain ⟨U, hU⟩ : ∃ U, U = ((w.alloc (.cells #[.slice aa an ac, .slice ba bn bc] 156)).alloc (.cells #[.slice none 0 0, .slice none 0 0] 156)) := ⟨_, rfl⟩
  have hb : Below w.heap.size w U := by rw [hU]; exact ((Below.refl _ _).alloc (Nat.le_refl _) _).alloc (by simp) _
  have HA : Hid (Tens U (.slice aa an ac) (.slice ba bn bc) t) := ha.later hb
  have HB : Hid (Below w.heap.size w U) := hb
  have HBX : Hid (Box U (w.heap.size + 1) (.slice none 0 0) (.slice none 0 0)) := by
    show Box _ _ _ _
    have := Box.new (w.alloc (.cells #[.slice aa an ac, .slice ba bn bc] 156)) (.slice none 0 0) (.slice none 0 0)
    simp only [World.size_alloc] at this
    rw [hU]
    exact this
  have HC : Hid (fwE t n = c) := hc
  clear ha hb hc hc0
  go_enter Tryz.func140, Tryz.ntmps140
  go_wp2_with fail
  rw [← hU]
  clear hU
  refine (few_any n HA.out).mono ?_
  rw [HC.out]
  rintro e w2 ⟨v, rfl, ho, hb2⟩
  have hbx := HBX.out.later hb2
  have l0 := hbx.c0
  have l1 := hbx.c1
  have m0 := hbx.f 0
  have m1 := hbx.f 1
  have HBS : Hid (Box _ _ _ _) := hbx.set (.slice none 0 0) (.slice none 0 0)
  have HBW : Hid (Below w.heap.size w w2) := Below.after HB.out hb2
  clear hbx ho hb2
  go_wp2
  have hr0 := HBS.out.c0
  have hr1 := HBS.out.c1
  exact bodyPost_ret (v := .tuple #[.agg #[.slice none 0 0, .slice none 0 0], .int .i64 c]) (by simp [results, Tryz.results140, go_sem, hr0, hr1]) rfl ⟨rfl, (HBW.out.setCell (by simp <;> omega) _).setCell (by simp <;> omega) _⟩
theorem It.own {w : World} {B I p : Nat} {s : ByteArray} {v : Value} {d : List Int} (h : Own w B v d) (hi : It w I s p) : ∀ k, v.ownBlock = some k → k ≠ I := by
  intro k hk e
  subst e
  rcases h.row.2 with ⟨e, _⟩ | ⟨g, cap, cur, hv, _, hg, _⟩
  · rw [e] at hk; simp [Value.ownBlock] at hk
  · rw [hv] at hk
    simp [Value.ownBlock] at hk
    subst hk
    have hi' : w.heap[g]? = some (.stringIter s p) := hi
    rw [hg] at hi'
    simp at hi'
theorem Own.moved {w : World} {B I q : Nat} {s s' : ByteArray} {p : Nat} {v : Value} {d : List Int} (h : Own w B v d) (hi : It w I s p) : Own (w.iterAt I s' q) B v d :=
  h.at fun k hk => by
    have := It.own h hi k hk
    simp only [World.iterAt, Array.getElem?_setIfInBounds]
    rw [if_neg (fun e => this e.symm)]
end Go.Proofs.YtkojdigaoihkpaaGreatDoor

end
