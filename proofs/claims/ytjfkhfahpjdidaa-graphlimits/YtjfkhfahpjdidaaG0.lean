/- What graph's ways tell, as functions of plain data; pure laws. -/
import Derived.Test.YtjfkhfahpjdidaaS3
namespace Go.Proofs.Ytjfkhfahpjdidaa
set_option linter.unusedVariables false
set_option linter.unusedSimpArgs false
set_option maxRecDepth 100000
open Go.RowKit

def inE (k n : Int) (d : List Int) (L : List Nod) (A : List Int) : Int := if argsB A L.length then diE k n d (dimsAt L A) else 1
def inR (k n : Int) (d : List Int) (L : List Nod) (A : List Int) : List Int := if argsB A L.length then diR k n d (dimsAt L A) else []
theorem inE_no {k n : Int} {d : List Int} {L : List Nod} {A : List Int} (h : argsB A L.length = false) : inE k n d L A = 1 ∧ inR k n d L A = [] := by
  rw [inE, inR, h]; exact ⟨rfl, rfl⟩
theorem inE_yes {k n : Int} {d : List Int} {L : List Nod} {A : List Int} (h : argsB A L.length = true) : inE k n d L A = diE k n d (dimsAt L A) ∧ inR k n d L A = diR k n d (dimsAt L A) := by
  rw [inE, inR, h]; exact ⟨rfl, rfl⟩
theorem nodeB_in {L : List Nod} {i : Nat} (hi : i ≤ L.length) (t : Nod) :
    nodeB L i t = (decide (inE t.kind t.n (askD t) (L.take i) t.args = 0) && decide (inR t.kind t.n (askD t) (L.take i) t.args = t.dims)) := by
  have hl : (L.take i).length = i := by rw [List.length_take]; omega
  cases ha : argsB t.args i with
  | false =>
    obtain ⟨e1, e2⟩ := inE_no (k := t.kind) (n := t.n) (d := askD t) (L := L.take i) (A := t.args) (by rw [hl]; exact ha)
    rw [e1, nodeB, ha]; rfl
  | true =>
    obtain ⟨e1, e2⟩ := inE_yes (k := t.kind) (n := t.n) (d := askD t) (L := L.take i) (A := t.args) (by rw [hl]; exact ha)
    rw [e1, e2, dimsAt_take (fun x hx => argsB_lt ha hx), nodeB, ha]
    by_cases hm : may t.kind t.n (askD t) (dimsAt L t.args) = true
    · obtain ⟨d1, d2⟩ := di_yes hm
      rw [d1, d2, hm]
      cases hi : inf t.kind.toNat t.n (askD t) ((dimsAt L t.args).getD 0 []) ((dimsAt L t.args).getD 1 []) with
      | false => simp
      | true =>
        simp only [Bool.true_and, if_true, decide_true]
        exact decide_eq_decide.2 ⟨fun h => h.symm, fun h => h.symm⟩
    · obtain ⟨d1, d2⟩ := di_no hm
      have hm' : may t.kind t.n (askD t) (dimsAt L t.args) = false := by simpa using hm
      rw [d1, hm']; rfl
/- A last one of one cell. -/
theorem foldl_ones : ∀ (d : List Int) (a : Int), 1 ≤ a → (∀ x ∈ d, 1 ≤ x) → a ≤ d.foldl (fun a x => a * x) a
  | [], a, _, _ => Int.le_refl _
  | x :: d, a, ha, h => by
    have hx := h x (by simp)
    have h1 : a * 1 ≤ a * x := Int.mul_le_mul_of_nonneg_left hx (by omega)
    have h2 := foldl_ones d (a * x) (by omega) (fun y hy => h y (by simp [hy]))
    rw [List.foldl_cons]
    omega
theorem foldl_one : ∀ (d : List Int) (a : Int), 1 ≤ a → (∀ x ∈ d, 1 ≤ x) → d.foldl (fun a x => a * x) a = 1 → a = 1 ∧ ∀ x ∈ d, x = 1
  | [], a, _, _, e => ⟨e, fun x hx => by simp at hx⟩
  | x :: d, a, ha, h, e => by
    have hx := h x (by simp)
    have h1 : a * 1 ≤ a * x := Int.mul_le_mul_of_nonneg_left hx (by omega)
    have h1' : 1 * x ≤ a * x := Int.mul_le_mul_of_nonneg_right ha (by omega)
    rw [List.foldl_cons] at e
    obtain ⟨h2, h3⟩ := foldl_one d (a * x) (by omega) (fun y hy => h y (by simp [hy])) e
    refine ⟨by omega, fun y hy => ?_⟩
    rcases List.mem_cons.1 hy with rfl | hy
    · omega
    · exact h3 y hy
theorem prd_one {d : List Int} (h : inr d = true) : prd d = 1 ↔ ∀ x ∈ d, x = 1 := by
  constructor
  · intro e
    exact (foldl_one d 1 (Int.le_refl _) (fun x hx => (inr_mem h hx).1) e).2
  · intro e
    have key : ∀ (d : List Int), (∀ x ∈ d, x = 1) → d.foldl (fun a x => a * x) 1 = 1 := by
      intro d
      induction d with
      | nil => intro _; rfl
      | cons x d ih =>
        intro h
        rw [List.foldl_cons, h x (by simp)]
        exact ih fun y hy => h y (by simp [hy])
    exact key d e
theorem foldl_max : ∀ (d : List Int) (a : Int), d.foldl max a = 1 → (∀ x ∈ d, 1 ≤ x) → 1 ≤ a → a = 1 ∧ ∀ x ∈ d, x = 1
  | [], a, e, _, _ => ⟨e, fun x hx => by simp at hx⟩
  | x :: d, a, e, h, ha => by
    rw [List.foldl_cons] at e
    have hx := h x (by simp)
    obtain ⟨h1, h2⟩ := foldl_max d (max a x) e (fun y hy => h y (by simp [hy])) (by omega)
    refine ⟨by omega, fun y hy => ?_⟩
    rcases List.mem_cons.1 hy with rfl | hy
    · omega
    · exact h2 y hy
theorem maxOf_prd {d : List Int} (h : okd d = true) : Lib.maxOf d = 1 ↔ prd d = 1 := by
  obtain ⟨hl, _, hi, _⟩ := okd_parts h
  rw [prd_one hi]
  constructor
  · intro e
    match d, hl with
    | x :: d, _ => exact (foldl_max (x :: d) x e (fun y hy => (inr_mem hi hy).1) (inr_mem hi (by simp)).1).2
  · intro e
    match d, hl with
    | x :: d, _ =>
      have hx := e x (by simp)
      have key : ∀ (d : List Int), (∀ x ∈ d, x = 1) → d.foldl max 1 = 1 := by
        intro d
        induction d with
        | nil => intro _; rfl
        | cons x d ih =>
          intro h
          rw [List.foldl_cons, h x (by simp)]
          exact ih fun y hy => h y (by simp [hy])
      show (x :: d).foldl max x = 1
      have := key (x :: d) e
      rw [hx] at this ⊢
      exact this
/- Names. -/
theorem nmd_le : ∀ (L : List Nod) (s : ByteArray) (k j : Nat) (h : j < L.length), L[j].name = s → nmdN L s k ≤ ((k + j : Nat) : Int)
  | t :: r, s, k, j, h, e => by
    rw [nmdN]
    split
    · omega
    · match j, h, e with
      | 0, h, e => rename_i hn; exact absurd e hn
      | j + 1, h, e =>
        have := nmd_le r s (k + 1) j (by simpa using h) (by simpa using e)
        omega
theorem nmd_eq : ∀ (L : List Nod) (s : ByteArray) (k j : Nat) (h : j < L.length), L[j].name = s → (∀ i (hi : i < j), ¬ (L[i]'(by omega)).name = s) → nmdN L s k = ((k + j : Nat) : Int)
  | t :: r, s, k, j, h, e, hf => by
    rw [nmdN]
    match j, h, e, hf with
    | 0, h, e, _ => rw [if_pos (show t.name = s from e)]; rfl
    | j + 1, h, e, hf =>
      rw [if_neg (show ¬ t.name = s from hf 0 (by omega))]
      have := nmd_eq r s (k + 1) j (by simpa using h) (by simpa using e) (fun i hi => by have := hf (i + 1) (by omega); simpa using this)
      rw [this]
      omega
theorem grpI_at' {L : List Nod} {i : Nat} (h : i < L.length) : grpI L i = (nameB L[i].name && decide (nmdN L L[i].name 0 = (i : Int)) && decide (L[i].kind ≤ 15) && (decide (-1073741824 ≤ L[i].n) && decide (L[i].n ≤ 1073741824))) := by
  rw [grpI, List.getElem?_eq_getElem h]
theorem grpB_not' {L : List Nod} {i : Nat} (h : i < L.length) (hi : grpI L i = false) : grpB L = false := by
  cases e : grpB L with
  | false => rfl
  | true =>
    simp only [grpB, Bool.and_eq_true, List.all_eq_true] at e
    have := e.1.2 i (List.mem_range.2 h)
    rw [hi] at this
    exact this.symm
theorem grp_kind {L : List Nod} {i : Nat} (h : i < L.length) (hk : 15 < L[i].kind) : grpB L = false := grpB_not' h (by rw [grpI_at' h, decide_eq_false (p := L[i].kind ≤ 15) (by omega)]; simp)
theorem grp_low {L : List Nod} {i : Nat} (h : i < L.length) (hk : L[i].n < -1073741824) : grpB L = false := grpB_not' h (by rw [grpI_at' h, decide_eq_false (p := -1073741824 ≤ L[i].n) (by omega)]; simp)
theorem grp_high {L : List Nod} {i : Nat} (h : i < L.length) (hk : 1073741824 < L[i].n) : grpB L = false := grpB_not' h (by rw [grpI_at' h, decide_eq_false (p := L[i].n ≤ 1073741824) (by omega)]; simp)
theorem grp_name {L : List Nod} {i : Nat} (h : i < L.length) (hk : nameB L[i].name = false) : grpB L = false := grpB_not' h (by rw [grpI_at' h, hk]; simp)
theorem grp_twice {L : List Nod} {i j : Nat} (h : i < L.length) (hj : j < i) (hk : (L[j]'(by omega)).name = L[i].name) : grpB L = false := grpB_not' h (by
  have := nmd_le L L[i].name 0 j (by omega) hk
  rw [grpI_at' h, decide_eq_false (p := nmdN L L[i].name 0 = (i : Int)) (by omega)]; simp)
theorem grpI_yes {L : List Nod} {i : Nat} (h : i < L.length) (h1 : ¬ 15 < L[i].kind) (h2 : ¬ L[i].n < -1073741824) (h3 : ¬ 1073741824 < L[i].n) (h4 : nameB L[i].name = true) (h5 : ∀ j (hj : j < i), ¬ (L[j]'(by omega)).name = L[i].name) : grpI L i = true := by
  have := nmd_eq L L[i].name 0 i h rfl h5
  rw [grpI_at' h, h4, decide_eq_true (p := nmdN L L[i].name 0 = (i : Int)) (by omega), decide_eq_true (p := L[i].kind ≤ 15) (by omega), decide_eq_true (p := -1073741824 ≤ L[i].n) (by omega), decide_eq_true (p := L[i].n ≤ 1073741824) (by omega)]
  rfl
/-- All but the last one's cells. -/
theorem grpB_last {L : List Nod} (h1 : 1 ≤ L.length) (h2 : L.length ≤ 24) (hn : nodesB L = true) (h : ∀ i, i < L.length → grpI L i = true) : grpB L = decide (prd (L[L.length - 1]'(by omega)).dims = 1) := by
  have ha : (List.range L.length).all (grpI L) = true := List.all_eq_true.2 fun i hi => h i (List.mem_range.1 hi)
  rw [grpB, decide_eq_true h1, decide_eq_true h2, hn, ha, List.getLast?_eq_getElem?, List.getElem?_eq_getElem (by omega)]
  rfl
theorem grpB_big {L : List Nod} (h : ¬ (1 ≤ L.length ∧ L.length ≤ 24)) : grpB L = false := by
  cases e : grpB L with
  | false => rfl
  | true =>
    simp only [grpB, Bool.and_eq_true, decide_eq_true_eq] at e
    exact absurd ⟨e.1.1.1.1, e.1.1.1.2⟩ h
theorem grpB_nodes {L : List Nod} (h : nodesB L = false) : grpB L = false := by
  cases e : grpB L with
  | false => rfl
  | true => rw [grp_nodes e] at h; exact h
theorem Ints.addr {w : World} {a : Option Addr} {n c : Nat} {D : List Int} (h : Ints w (.slice a n c) D) (h0 : 0 < D.length) : ∃ b off, a = some ⟨b, off, none⟩ ∧ n = D.length ∧ ∀ i (h : i < D.length), w.cell? ⟨b, off + i, none⟩ = some (.int .i64 D[i]) := by
  rcases h.cases with ⟨e, _⟩ | ⟨b, off, c', e, h1, h2, h3, h4⟩
  · rw [e] at h0; simp at h0
  · simp only [Value.slice.injEq] at e
    obtain ⟨rfl, rfl, rfl⟩ := e
    exact ⟨b, off, rfl, rfl, h4.out⟩
theorem IntsL.addr {w : World} {a : Option Addr} {n c : Nat} {D : List (List Int)} (h : IntsL w (.slice a n c) D) (h0 : 0 < D.length) : ∃ b off, a = some ⟨b, off, none⟩ ∧ n = D.length ∧ ∀ i (h : i < D.length), ∃ x, w.cell? ⟨b, off + i, none⟩ = some x ∧ Ints w x D[i] := by
  obtain ⟨_, a', c', e, h1, h2⟩ := h
  simp only [Value.slice.injEq] at e
  obtain ⟨rfl, rfl, rfl⟩ := e
  obtain ⟨b, off, _, rfl, _, _⟩ := h2 0 h0
  refine ⟨b, off, rfl, rfl, fun i hi => ?_⟩
  obtain ⟨b', off', x, e, hc, hx⟩ := h2 i hi
  simp only [Option.some.injEq, Addr.mk.injEq] at e
  obtain ⟨rfl, rfl, _⟩ := e
  exact ⟨x, hc, hx⟩
end Go.Proofs.Ytjfkhfahpjdidaa
