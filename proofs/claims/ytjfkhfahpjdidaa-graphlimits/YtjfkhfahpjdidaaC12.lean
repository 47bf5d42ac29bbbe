/- Carried: C13. -/
import Derived.Test.YtjfkhfahpjdidaaC11
namespace Go.Proofs.Ytjfkhfahpjdidaa
set_option linter.unusedVariables false
set_option linter.unusedSimpArgs false
set_option maxRecDepth 100000
open Go.RowKit

theorem filter_lt {α : Type} {p q : α → Bool} : ∀ (l : List α), (∀ x ∈ l, q x = true → p x = true) → (∃ x ∈ l, p x = true ∧ q x = false) → (l.filter q).length < (l.filter p).length
  | [], _, ⟨x, hx, _⟩ => by simp at hx
  | y :: l, h, ⟨x, hx, hp, hq⟩ => by
    have hle : ∀ (l : List α), (∀ x ∈ l, q x = true → p x = true) → (l.filter q).length ≤ (l.filter p).length := by
      intro l
      induction l with
      | nil => intro _; simp
      | cons z l ih =>
        intro h
        have h1 := ih (fun x hx => h x (List.mem_cons_of_mem _ hx))
        have h2 := h z (List.mem_cons_self ..)
        simp only [List.filter_cons]
        cases hqz : q z <;> cases hpz : p z <;> simp_all <;> omega
    have h1 := hle l (fun x hx => h x (List.mem_cons_of_mem _ hx))
    simp only [List.filter_cons]
    rcases List.mem_cons.1 hx with rfl | hx
    · simp only [hp, hq]
      simp
      omega
    · have h2 := filter_lt l (fun x hx => h x (List.mem_cons_of_mem _ hx)) ⟨x, hx, hp, hq⟩
      have h3 := h y (List.mem_cons_self ..)
      cases hqz : q y <;> cases hpz : p y <;> simp_all <;> omega
section
variable {P : Program} {ops : Array Oper} {Q : Exit → Act → World → Prop} {md : Region.Mode}
/-- How many have not come up. -/
def unl (ops : Array Oper) (listed : Array Bool) : Nat := ((List.range ops.size).filter fun i => !listed.getD i true).length
theorem ready_at {listed : Array Bool} {i : Nat} (hi : i ∈ Region.ready md ops listed) : i < ops.size ∧ listed.getD i true = false ∧ ((ops[i]?).map (·.after.all fun e => !Region.binds md e || listed.getD e.on false)).getD false = true := by
  obtain ⟨h1, h2⟩ := List.mem_filter.1 hi
  simp only [Bool.and_eq_true, Bool.not_eq_true'] at h2
  exact ⟨List.mem_range.1 h1, h2.1, h2.2⟩
theorem listed_lt {listed : Array Bool} {i : Nat} (h : listed.getD i true = false) : i < listed.size := by
  rcases Nat.lt_or_ge i listed.size with h1 | h1
  · exact h1
  · simp [Array.getElem?_eq_none h1] at h
theorem getD_now {listed : Array Bool} {i : Nat} (h : i < listed.size) (x : Bool) : (listed.setIfInBounds i true).getD i x = true := by
  simp [h]
theorem getD_else {listed : Array Bool} {i k : Nat} (h : i ≠ k) (x : Bool) : (listed.setIfInBounds i true).getD k x = listed.getD k x := by
  simp [Array.getElem?_setIfInBounds, h]
theorem unl_less {listed : Array Bool} {i : Nat} (h1 : i < ops.size) (h2 : listed.getD i true = false) : unl ops (listed.setIfInBounds i true) < unl ops listed := by
  refine filter_lt _ (fun k _ hk => ?_) ⟨i, List.mem_range.2 h1, by rw [h2]; rfl, by rw [getD_now (listed_lt h2)]; rfl⟩
  by_cases e : i = k
  · subst e
    rw [getD_now (listed_lt h2)] at hk
    cases hk
  · rw [getD_else e] at hk
    exact hk
/-- What holds whichever have come up, holds behind all of them. -/
theorem wpAny_inv {I : Array Bool → Act → World → Prop}
    (step : ∀ listed a w, I listed a w → ∀ i ∈ Region.ready md ops listed, wpOp P ops Q i (fun a' w' => I (listed.setIfInBounds i true) a' w') a w)
    (fin : ∀ listed a w, I listed a w → Region.ready md ops listed = [] → Q .normal a w) :
    ∀ (fuel : Nat) (listed : Array Bool) (a : Act) (w : World), I listed a w → unl ops listed ≤ fuel → wpAny P md ops Q fuel listed a w
  | 0, listed, a, w, h, hf => by
    have hr : Region.ready md ops listed = [] := by
      rw [List.eq_nil_iff_forall_not_mem]
      intro i hi
      obtain ⟨h1, h2, _⟩ := ready_at hi
      have := unl_less (ops := ops) h1 h2
      omega
    exact ⟨hr, fin listed a w h hr⟩
  | fuel + 1, listed, a, w, h, hf => ⟨fun hr => fin listed a w h hr, fun i hi => wpOp_mono (fun a' w' h' => wpAny_inv step fin fuel _ a' w' h' (by
      obtain ⟨h1, h2, _⟩ := ready_at hi
      have := unl_less (ops := ops) h1 h2
      omega)) (step listed a w h i hi)⟩
theorem wp_region_inv {id : Nat} {a : Act} {w : World} {I : Array Bool → Act → World → Prop} (hm : P.follows .mixedOrders = true)
    (start : I (Array.replicate ops.size false) a w.drew)
    (step : ∀ listed a w, I listed a w → ∀ i ∈ Region.ready .any ops listed, wpOp P ops Q i (fun a' w' => I (listed.setIfInBounds i true) a' w') a w)
    (fin : ∀ listed a w, I listed a w → Region.ready .any ops listed = [] → Q .normal a w) : (Code.region id ops true).wp P Q a w :=
  wp_region_any hm (wpAny_inv step fin _ _ _ _ start (by
    unfold unl
    exact Nat.le_trans (List.length_filter_le _ _) (by simp)))
/-- One operation waits for another. -/
def waitsFor (ops : Array Oper) (i d : Nat) : Bool := ((ops[i]?).map (·.after.any fun e => Region.binds .any e && e.on == d)).getD false
theorem ready_dep {listed : Array Bool} {i d : Nat} (hi : i ∈ Region.ready .any ops listed) (h : waitsFor ops i d = true) : listed.getD d false = true := by
  obtain ⟨_, _, h3⟩ := ready_at hi
  unfold waitsFor at h
  cases ho : ops[i]? with
  | none => rw [ho] at h; simp at h
  | some o =>
    rw [ho] at h h3
    simp only [Option.map_some, Option.getD_some, Array.any_eq_true, Array.all_eq_true] at h h3
    obtain ⟨j, hj, hb⟩ := h
    have := h3 j hj
    simp only [Bool.and_eq_true, beq_iff_eq] at hb
    rw [hb.1] at this
    simp only [Bool.not_true, Bool.false_or] at this
    rw [hb.2] at this
    exact this
theorem dep_true {listed : Array Bool} {d : Nat} (h : listed.getD d false = true) : listed.getD d true = true := by
  rcases Nat.lt_or_ge d listed.size with h1 | h1
  · simp [h1] at h ⊢
    exact h
  · simp [Array.getElem?_eq_none h1] at h
/-- Each operation waits for earlier ones alone. -/
def earlier (ops : Array Oper) : Bool := (List.range ops.size).all fun i => ((ops[i]?).map (·.after.all fun e => decide (e.on < i))).getD true
theorem allDone {listed : Array Bool} (he : earlier ops = true) (hl : listed.size = ops.size) (hr : Region.ready .any ops listed = []) : ∀ k, k < ops.size → listed.getD k true = true := by
  intro k
  induction k using Nat.strongRecOn with
  | _ k ih =>
    intro hk
    cases hu : listed.getD k true with
    | true => rfl
    | false =>
      exfalso
      have hmem : k ∈ Region.ready .any ops listed := by
        refine List.mem_filter.2 ⟨List.mem_range.2 hk, ?_⟩
        have ho : ops[k]? = some ops[k] := by simp [hk]
        have h1 := List.all_eq_true.1 he k (List.mem_range.2 hk)
        rw [ho] at h1
        simp only [Option.map_some, Option.getD_some, Array.all_eq_true, decide_eq_true_eq] at h1
        rw [hu, ho]
        simp only [Bool.not_false, Bool.true_and, Option.map_some, Option.getD_some, Array.all_eq_true]
        intro j hj
        have h2 := h1 j hj
        have h3 := ih _ h2 (by omega)
        have h4 : listed.getD (ops[k].after[j]).on false = true := by
          have hs : (ops[k].after[j]).on < listed.size := by omega
          simp [hs] at h3 ⊢
          exact h3
        rw [h4]
        simp
      rw [hr] at hmem
      simp at hmem
/-- Which operation stands there. -/
def OpAt (ops : Array Oper) (i : Nat) (d : Option Nat) (op : Op) : Prop := ∃ o, ops[i]? = some o ∧ o.dst = d ∧ o.op = op ∧ o.guard = none
/-- An operation that yields a value. -/
theorem wpOp_value {i : Nat} {d : Option Nat} {op : Op} {K : Act → World → Prop} {a : Act} {w w' : World} {v : Value} (h : OpAt ops i d op) (hr : ∀ o : Oper, o.op = op → (execOp a.eval o).run P w = .ok (.value v) w') (hK : K (a.put d v) w') : wpOp P ops Q i K a w := by
  obtain ⟨o, ho, rfl, hop, hg⟩ := h
  unfold wpOp
  rw [ho]
  simp only [Region.wanted, hg, if_true]
  refine .inl ?_
  unfold Oper.wp
  rw [hr o hop]
  exact hK
theorem wpOp_skip {i : Nat} {d : Option Nat} {op : Op} {K : Act → World → Prop} {a : Act} {w w' : World} (h : OpAt ops i d op) (hr : ∀ o : Oper, o.op = op → (execOp a.eval o).run P w = .ok .skip w') (hK : K (a.put d undef) w') : wpOp P ops Q i K a w := by
  obtain ⟨o, ho, rfl, hop, hg⟩ := h
  unfold wpOp
  rw [ho]
  simp only [Region.wanted, hg, if_true]
  refine .inl ?_
  unfold Oper.wp
  rw [hr o hop]
  exact hK
theorem wpOp_call {i f : Nat} {d : Option Nat} {op : Op} {K : Act → World → Prop} {a : Act} {w w' : World} {args : Array Value} (h : OpAt ops i d op) (hr : ∀ o : Oper, o.op = op → (execOp a.eval o).run P w = .ok (.enter f args) w')
    (hK : Calls P f args w' fun e w'' => ∃ v, e = .returned v ∧ K (a.put d v) w'') : wpOp P ops Q i K a w := by
  obtain ⟨o, ho, rfl, hop, hg⟩ := h
  unfold wpOp
  rw [ho]
  simp only [Region.wanted, hg, if_true]
  refine .inl ?_
  unfold Oper.wp
  rw [hr o hop]
  refine Calls.mono hK fun e w'' h => ?_
  obtain ⟨v, rfl, h⟩ := h
  exact h
end
def regs : Code → List (Nat × Code)
  | .loop c => regs c
  | .seq a b => regs a ++ regs b
  | .block _ c => regs c
  | .scope c => regs c
  | .cond _ a b => regs a ++ regs b
  | .region i o b => [(i, .region i o b)]
  | .rangeFunc _ _ a b => regs a ++ regs b
  | _ => []
def opsOf : Code → Array Oper
  | .region _ o _ => o
  | _ => #[]
theorem put_get {a : Act} {s t : Nat} {v : Value} (hs : s < a.tmps.size) : (a.put (some s) v).tmps.getD t undef = if t = s then v else a.tmps.getD t undef := by
  by_cases e : t = s
  · subst e
    simp [Act.put, hs]
  · have e' : ¬ s = t := fun h => e h.symm
    simp [Act.put, e, Array.getElem?_setIfInBounds, e']
end Go.Proofs.Ytjfkhfahpjdidaa
