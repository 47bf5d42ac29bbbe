/- Carried: C24. -/
import Derived.Test.YtjfkhfahpjdidaaC21
namespace Go.Proofs.Ytjfkhfahpjdidaa
set_option linter.unusedVariables false
set_option linter.unusedSimpArgs false
set_option maxRecDepth 100000

/-- A place of wider dims in narrower ones. -/
def nar (e p : List Int) : List Int := (List.range e.length).map fun j => if e.getD j 0 = 1 then 0 else p.getD j 0
def wmp (e d : List Int) (i : Nat) : Nat := (atV e (nar e (whr d i))).toNat
theorem nar_length (e p : List Int) : (nar e p).length = e.length := by simp [nar]
theorem nar_pok {e d p : List Int} (hw : wid e d = true) (hp : pok d p = true) : pok e (nar e p) = true := by
  have hl : e.length = d.length := by
    by_cases h : e.length = d.length
    · exact h
    · rw [wid_len h] at hw; cases hw
  simp only [pok, Bool.and_eq_true, decide_eq_true_eq, List.all_eq_true] at hp ⊢
  refine ⟨nar_length e p, fun k hk => ?_⟩
  have hk1 : k < e.length := List.mem_range.1 hk
  have hk2 : k < d.length := by omega
  have h1 := hp.2 k (List.mem_range.2 hk2)
  have h2 : widAt e[k] d[k] = true := by
    cases h : widAt e[k] d[k] with
    | true => rfl
    | false => rw [wid_bad k hk1 hk2 h] at hw; cases hw
  simp only [pin, Bool.and_eq_true, decide_eq_true_eq] at h1 ⊢
  have e1 : (nar e p).getD k 0 = if e.getD k 0 = 1 then 0 else p.getD k 0 := by simp [nar, hk1]
  rw [e1]
  have e2 : e.getD k 0 = e[k] := by simp [hk1]
  have e3 : d.getD k 0 = d[k] := by simp [hk2]
  rw [e2]
  rw [e3] at h1
  simp only [widAt, Bool.or_eq_true, beq_iff_eq] at h2
  by_cases g : e[k] = 1
  · rw [if_pos g, g]; omega
  · rw [if_neg g]
    rcases h2 with h2 | h2
    · omega
    · exact absurd h2 g
theorem atN_bd0 {e q : List Int} (hin : inr e = true) (hp : pok e q = true) : ∀ k, k ≤ e.length → 0 ≤ atN e q k ∧ atN e q k < prd (e.take k)
  | 0, _ => by simp [atN, prd]
  | k + 1, h => by
    obtain ⟨h1, h2⟩ := atN_bd0 hin hp k (by omega)
    simp only [pok, Bool.and_eq_true, decide_eq_true_eq, List.all_eq_true] at hp
    have h3 := hp.2 k (List.mem_range.2 (by omega))
    simp only [pin, Bool.and_eq_true, decide_eq_true_eq] at h3
    have hk : k < e.length := by omega
    have e3 : e.getD k 0 = e[k] := by simp [hk]
    have hg := inr_mem hin (List.getElem_mem hk)
    rw [atN, take_snoc e k hk, prd_snoc, e3]
    rw [e3] at h3
    have a1 := Int.mul_nonneg h1 (show 0 ≤ e[k] by omega)
    have a2 : (atN e q k + 1) * e[k] ≤ prd (e.take k) * e[k] := Int.mul_le_mul_of_nonneg_right (by omega) (by omega)
    rw [Int.add_mul, Int.one_mul] at a2
    omega
theorem wmp_lt {e d : List Int} (he : okd e = true) (ho : okd d = true) (hw : wid e d = true) (i : Nat) (hi : (i : Int) < prd d) :
    pok e (nar e (whr d i)) = true ∧ (wmp e d i : Int) = atV e (nar e (whr d i)) ∧ (wmp e d i : Int) < prd e := by
  have hp := nar_pok hw (chk_k ho i hi).1
  have hb := atN_bd0 (okd_parts he).2.2.1 hp e.length (Nat.le_refl _)
  rw [List.take_length] at hb
  have h1 : (wmp e d i : Int) = atV e (nar e (whr d i)) := by
    unfold wmp
    exact Int.toNat_of_nonneg hb.1
  exact ⟨hp, h1, by rw [h1]; exact hb.2⟩
end Go.Proofs.Ytjfkhfahpjdidaa
