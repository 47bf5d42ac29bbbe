/- Wider dims: which number of the narrower ones a place has; each is met as often. -/
import Derived.Test.YtgedknmjenbacaaAtw
import Derived.Test.YtgedknmjenbacaaW2
namespace Go.Proofs.Ytgedknmjenbacaa
set_option linter.unusedVariables false
set_option linter.unusedSimpArgs false

/-- A place of wider dims in narrower ones. -/
def nar (e p : List Int) : List Int := (List.range e.length).map fun j => if e.getD j 0 = 1 then 0 else p.getD j 0
def wmp (e d : List Int) (i : Nat) : Nat := (atV e (nar e (whr d i))).toNat
def chkC (e d : List Int) : Bool :=
  (List.range (prd e).toNat).all fun k => (((List.range (prd d).toNat).map (wmp e d)).filter fun x => x == k).length * (prd e).toNat == (prd d).toNat
def msk (m j : Nat) (x : Int) : Int := if (m / 2 ^ j) % 2 = 1 then 1 else x
def al1 : Bool := (List.range 8).all fun a => (List.range 2).all fun m => chkC [msk m 0 ((a : Int) + 1)] [(a : Int) + 1]
def al2 (a : Nat) : Bool := (List.range 8).all fun b => (List.range 4).all fun m => chkC [msk m 0 ((a : Int) + 1), msk m 1 ((b : Int) + 1)] [(a : Int) + 1, (b : Int) + 1]
def al3 (a : Nat) : Bool := (List.range 8).all fun b => (List.range 8).all fun c => !decide (prd [(a : Int) + 1, (b : Int) + 1, (c : Int) + 1] ≤ 64) || (List.range 8).all fun m => chkC [msk m 0 ((a : Int) + 1), msk m 1 ((b : Int) + 1), msk m 2 ((c : Int) + 1)] [(a : Int) + 1, (b : Int) + 1, (c : Int) + 1]
theorem al1_true : al1 = true := by decide +kernel
theorem al2_true0 : al2 0 = true := by decide +kernel
theorem al2_true1 : al2 1 = true := by decide +kernel
theorem al2_true2 : al2 2 = true := by decide +kernel
theorem al2_true3 : al2 3 = true := by decide +kernel
theorem al2_true4 : al2 4 = true := by decide +kernel
theorem al2_true5 : al2 5 = true := by decide +kernel
theorem al2_true6 : al2 6 = true := by decide +kernel
theorem al2_true7 : al2 7 = true := by decide +kernel
theorem al3_true0 : al3 0 = true := by decide +kernel
theorem al3_true1 : al3 1 = true := by decide +kernel
theorem al3_true2 : al3 2 = true := by decide +kernel
theorem al3_true3 : al3 3 = true := by decide +kernel
theorem al3_true4 : al3 4 = true := by decide +kernel
theorem al3_true5 : al3 5 = true := by decide +kernel
theorem al3_true6 : al3 6 = true := by decide +kernel
theorem al3_true7 : al3 7 = true := by decide +kernel
theorem al2_true (a : Nat) (h : a < 8) : al2 a = true := by
  have : a = 0 ∨ a = 1 ∨ a = 2 ∨ a = 3 ∨ a = 4 ∨ a = 5 ∨ a = 6 ∨ a = 7 := by omega
  rcases this with rfl | rfl | rfl | rfl | rfl | rfl | rfl | rfl
  · exact al2_true0
  · exact al2_true1
  · exact al2_true2
  · exact al2_true3
  · exact al2_true4
  · exact al2_true5
  · exact al2_true6
  · exact al2_true7
theorem al3_true (a : Nat) (h : a < 8) : al3 a = true := by
  have : a = 0 ∨ a = 1 ∨ a = 2 ∨ a = 3 ∨ a = 4 ∨ a = 5 ∨ a = 6 ∨ a = 7 := by omega
  rcases this with rfl | rfl | rfl | rfl | rfl | rfl | rfl | rfl
  · exact al3_true0
  · exact al3_true1
  · exact al3_true2
  · exact al3_true3
  · exact al3_true4
  · exact al3_true5
  · exact al3_true6
  · exact al3_true7
theorem msk_of {x y : Int} (h : widAt x y = true) (m j : Nat) (hm : (m / 2 ^ j) % 2 = if x = y then 0 else 1) : msk m j y = x := by
  simp only [widAt, Bool.or_eq_true, beq_iff_eq] at h
  unfold msk
  by_cases e : x = y
  · rw [if_pos e] at hm
    rw [hm]
    simp [e]
  · rw [if_neg e] at hm
    rw [hm]
    rcases h with h | h
    · exact absurd h e
    · simp [h]
def bt (x y : Int) : Nat := if x = y then 0 else 1
theorem bt_le (x y : Int) : bt x y ≤ 1 := by unfold bt; split <;> omega
theorem chkC_ok {e d : List Int} (ho : okd d = true) (hw : wid e d = true) : chkC e d = true := by
  obtain ⟨h1, h2, hin, hp⟩ := okd_parts ho
  have hl : e.length = d.length := by
    by_cases h : e.length = d.length
    · exact h
    · rw [wid_len h] at hw; cases hw
  have hk : ∀ k (h1 : k < e.length) (h2 : k < d.length), widAt e[k] d[k] = true := by
    intro k g1 g2
    cases h : widAt e[k] d[k] with
    | true => rfl
    | false => rw [wid_bad k g1 g2 h] at hw; cases hw
  match d, e, h1, h2, hin, hp, hl, hk with
  | [x], [u], _, _, hin, _, _, hk =>
    obtain ⟨g1, g2⟩ := inr_mem hin (x := x) (by simp)
    obtain ⟨a, ha, rfl⟩ := nat_of g1 g2
    have w0 : widAt u ((a : Int) + 1) = true := hk 0 (by simp) (by simp)
    have b0 := bt_le u ((a : Int) + 1)
    have := List.all_eq_true.1 (List.all_eq_true.1 al1_true a (List.mem_range.2 ha)) (bt u ((a : Int) + 1)) (List.mem_range.2 (by omega))
    rw [msk_of w0 _ 0 (by unfold bt; split <;> simp)] at this
    exact this
  | [x, y], [u, v], _, _, hin, _, _, hk =>
    obtain ⟨g1, g2⟩ := inr_mem hin (x := x) (by simp)
    obtain ⟨g3, g4⟩ := inr_mem hin (x := y) (by simp)
    obtain ⟨a, ha, rfl⟩ := nat_of g1 g2
    obtain ⟨b, hb, rfl⟩ := nat_of g3 g4
    have w0 : widAt u ((a : Int) + 1) = true := hk 0 (by simp) (by simp)
    have w1 : widAt v ((b : Int) + 1) = true := hk 1 (by simp) (by simp)
    have b0 := bt_le u ((a : Int) + 1)
    have b1 := bt_le v ((b : Int) + 1)
    have := List.all_eq_true.1 (List.all_eq_true.1 (al2_true a ha) b (List.mem_range.2 hb)) (bt u ((a : Int) + 1) + 2 * bt v ((b : Int) + 1)) (List.mem_range.2 (by omega))
    rw [msk_of w0 _ 0 (by unfold bt; split <;> split <;> simp), msk_of w1 _ 1 (by unfold bt; split <;> split <;> simp)] at this
    exact this
  | [x, y, z], [u, v, t], _, _, hin, hp, _, hk =>
    obtain ⟨g1, g2⟩ := inr_mem hin (x := x) (by simp)
    obtain ⟨g3, g4⟩ := inr_mem hin (x := y) (by simp)
    obtain ⟨g5, g6⟩ := inr_mem hin (x := z) (by simp)
    obtain ⟨a, ha, rfl⟩ := nat_of g1 g2
    obtain ⟨b, hb, rfl⟩ := nat_of g3 g4
    obtain ⟨c, hc, rfl⟩ := nat_of g5 g6
    have w0 : widAt u ((a : Int) + 1) = true := hk 0 (by simp) (by simp)
    have w1 : widAt v ((b : Int) + 1) = true := hk 1 (by simp) (by simp)
    have w2 : widAt t ((c : Int) + 1) = true := hk 2 (by simp) (by simp)
    have b0 := bt_le u ((a : Int) + 1)
    have b1 := bt_le v ((b : Int) + 1)
    have b2 := bt_le t ((c : Int) + 1)
    have h3 := List.all_eq_true.1 (List.all_eq_true.1 (al3_true a ha) b (List.mem_range.2 hb)) c (List.mem_range.2 hc)
    rw [decide_eq_true hp] at h3
    simp only [Bool.not_true, Bool.false_or] at h3
    have := List.all_eq_true.1 h3 (bt u ((a : Int) + 1) + 2 * bt v ((b : Int) + 1) + 4 * bt t ((c : Int) + 1)) (List.mem_range.2 (by omega))
    rw [msk_of w0 _ 0 (by unfold bt; split <;> split <;> split <;> simp), msk_of w1 _ 1 (by unfold bt; split <;> split <;> split <;> simp), msk_of w2 _ 2 (by unfold bt; split <;> split <;> split <;> simp)] at this
    exact this
  | [], _, h1, _, _, _, _, _ => simp at h1
  | _ :: _ :: _ :: _ :: _, _, _, h2, _, _, _, _ => simp at h2
/-- Each number of the narrower dims is met as often. -/
theorem wmp_count {e d : List Int} (ho : okd d = true) (hw : wid e d = true) (k : Nat) (hk : k < (prd e).toNat) :
    ((List.range (prd d).toNat).filter fun i => wmp e d i == k).length * (prd e).toNat = (prd d).toNat := by
  have h := List.all_eq_true.1 (chkC_ok ho hw) k (List.mem_range.2 hk)
  rw [beq_iff_eq, List.filter_map, List.length_map] at h
  exact h
theorem nar_length (e p : List Int) : (nar e p).length = e.length := by simp [nar]
theorem nar_pok {e d p : List Int} (hw : wid e d = true) (hp : pok d p = true) : pok e (nar e p) = true := by
  have hl : e.length = d.length := by
    by_cases h : e.length = d.length
    · exact h
    · rw [wid_len h] at hw; cases hw
  simp only [pok, Bool.and_eq_true, decide_eq_true_eq, List.all_eq_true] at hp ⊢
  refine ⟨nar_length e p, fun k hk => ?_⟩
  have hk1 : k < e.length := List.mem_range.1 hk
  have hk2 : k < d.length := by omega
  have h1 := hp.2 k (List.mem_range.2 hk2)
  have h2 : widAt e[k] d[k] = true := by
    cases h : widAt e[k] d[k] with
    | true => rfl
    | false => rw [wid_bad k hk1 hk2 h] at hw; cases hw
  simp only [pin, Bool.and_eq_true, decide_eq_true_eq] at h1 ⊢
  have e1 : (nar e p).getD k 0 = if e.getD k 0 = 1 then 0 else p.getD k 0 := by simp [nar, hk1]
  rw [e1]
  have e2 : e.getD k 0 = e[k] := by simp [hk1]
  have e3 : d.getD k 0 = d[k] := by simp [hk2]
  rw [e2]
  rw [e3] at h1
  simp only [widAt, Bool.or_eq_true, beq_iff_eq] at h2
  by_cases g : e[k] = 1
  · rw [if_pos g, g]; omega
  · rw [if_neg g]
    rcases h2 with h2 | h2
    · omega
    · exact absurd h2 g
theorem atN_bd0 {e q : List Int} (hin : inr e = true) (hp : pok e q = true) : ∀ k, k ≤ e.length → 0 ≤ atN e q k ∧ atN e q k < prd (e.take k)
  | 0, _ => by simp [atN, prd]
  | k + 1, h => by
    obtain ⟨h1, h2⟩ := atN_bd0 hin hp k (by omega)
    simp only [pok, Bool.and_eq_true, decide_eq_true_eq, List.all_eq_true] at hp
    have h3 := hp.2 k (List.mem_range.2 (by omega))
    simp only [pin, Bool.and_eq_true, decide_eq_true_eq] at h3
    have hk : k < e.length := by omega
    have e3 : e.getD k 0 = e[k] := by simp [hk]
    have hg := inr_mem hin (List.getElem_mem hk)
    rw [atN, take_snoc e k hk, prd_snoc, e3]
    rw [e3] at h3
    have a1 := Int.mul_nonneg h1 (show 0 ≤ e[k] by omega)
    have a2 : (atN e q k + 1) * e[k] ≤ prd (e.take k) * e[k] := Int.mul_le_mul_of_nonneg_right (by omega) (by omega)
    rw [Int.add_mul, Int.one_mul] at a2
    omega
theorem wmp_lt {e d : List Int} (he : okd e = true) (ho : okd d = true) (hw : wid e d = true) (i : Nat) (hi : (i : Int) < prd d) :
    pok e (nar e (whr d i)) = true ∧ (wmp e d i : Int) = atV e (nar e (whr d i)) ∧ (wmp e d i : Int) < prd e := by
  have hp := nar_pok hw (chk_k ho i hi).1
  have hb := atN_bd0 (okd_parts he).2.2.1 hp e.length (Nat.le_refl _)
  rw [List.take_length] at hb
  have h1 : (wmp e d i : Int) = atV e (nar e (whr d i)) := by
    unfold wmp
    exact Int.toNat_of_nonneg hb.1
  exact ⟨hp, h1, by rw [h1]; exact hb.2⟩
end Go.Proofs.Ytgedknmjenbacaa
