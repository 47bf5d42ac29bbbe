/- Joined: S0, S1, S2, S3. -/
import Derived.Test.YtjfkhfahpjdidaaGreatDoorQD
namespace Go.Proofs.YtjfkhfahpjdidaaGreatDoor
section
set_option linter.unusedVariables false
set_option linter.unusedSimpArgs false
set_option maxRecDepth 100000
open Go.RowKit

/-- Where a name is first; -1: nowhere. -/
def nmdN : List Nod → ByteArray → Nat → Int
  | [], _, _ => -1
  | t :: r, s, k => if t.name = s then (k : Int) else nmdN r s (k + 1)
/-- Those of the first k that are made of i. -/
def useN (L : List Nod) (i : Int) : Nat → List Int
  | 0 => []
  | k + 1 => useN L i k ++ (match L[k]? with
    | some t => if decide (i ∈ t.args) then [(k : Int)] else []
    | none => [])
theorem useN_len (L : List Nod) (i : Int) : ∀ k, (useN L i k).length ≤ k
  | 0 => Nat.le_refl _
  | k + 1 => by
    have := useN_len L i k
    rw [useN, List.length_append]
    split
    · split <;> simp <;> omega
    · simp; omega
/-- Those of kind k of the first j. -/
def lvN (L : List Nod) (k : Int) : Nat → List Int
  | 0 => []
  | j + 1 => lvN L k j ++ (match L[j]? with
    | some t => if t.kind = k then [(j : Int)] else []
    | none => [])
theorem lvN_len (L : List Nod) (i : Int) : ∀ k, (lvN L i k).length ≤ k
  | 0 => Nat.le_refl _
  | k + 1 => by
    have := lvN_len L i k
    rw [lvN, List.length_append]
    split
    · split <;> simp <;> omega
    · simp; omega
/-- Is it a graph? -/
def grpI (L : List Nod) (i : Nat) : Bool := match L[i]? with
  | some t => nameB t.name && decide (nmdN L t.name 0 = (i : Int)) && decide (t.kind ≤ 15) && (decide (-1073741824 ≤ t.n) && decide (t.n ≤ 1073741824))
  | none => true
def grpB (L : List Nod) : Bool := decide (1 ≤ L.length) && decide (L.length ≤ 24) && nodesB L && (List.range L.length).all (grpI L) && (match L.getLast? with
  | some t => decide (prd t.dims = 1)
  | none => false)
def levs (L : List Nod) : List Int := lvN L 1 L.length ++ lvN L 2 L.length
def useE (L : List Nod) (i : Int) : Int := if nodesB L then (if decide (0 ≤ i) && decide (i < L.length) then 0 else 3) else 1
def useR (L : List Nod) (i : Int) : List Int := if nodesB L && (decide (0 ≤ i) && decide (i < L.length)) then useN L i L.length else []
end
section
set_option linter.unusedVariables false
set_option linter.unusedSimpArgs false
set_option maxRecDepth 100000
open Go.RowKit

/-- Not too long. -/
structure Small (L : List Nod) : Prop where
  n : L.length ≤ 1000000
  a : ∀ i (h : i < L.length), L[i].args.length ≤ 1000000
  d : ∀ i (h : i < L.length), L[i].dims.length ≤ 1000000
  s : ∀ i (h : i < L.length), L[i].name.size ≤ 1000000
/-- What the package's ways tell. -/
structure Faces : Prop where
  check : ∀ {v : Value} {L : List Nod} {w : World} (h : NodesL w v L) (hs : Small L) (q : Bool) (hq : grpB L = q),
    Calls Tryz.prog 11 #[v] w fun e w' => e = .returned (.int .i64 (if q then 0 else 1)) ∧ Below w.heap.size w w'
  nodes : ∀ {v : Value} {L : List Nod} {w : World} (h : NodesL w v L) (hs : Small L) (q : Bool) (hq : nodesB L = q),
    Calls Tryz.prog 12 #[v] w fun e w' => e = .returned (.int .i64 (if q then 0 else 1)) ∧ Below w.heap.size w w'
  leaves : ∀ {v : Value} {L : List Nod} {w : World} (h : NodesL w v L) (hs : Small L) (q : Bool) (hq : grpB L = q),
    Calls Tryz.prog 8 #[v] w fun e w' => ∃ x, e = .returned (.tuple #[x, .int .i64 (if q then 0 else 1)]) ∧ Own w' w.heap.size x (if q then levs L else []) ∧ Below w.heap.size w w'
  uses : ∀ {v : Value} {L : List Nod} {w : World} (h : NodesL w v L) (hs : Small L) (i : Int) (z : Int) (hz : useE L i = z),
    Calls Tryz.prog 14 #[v, .int .i64 i] w fun e w' => ∃ x, e = .returned (.tuple #[x, .int .i64 z]) ∧ Own w' w.heap.size x (useR L i) ∧ Below w.heap.size w w'
theorem num8 (k : Int) (w : World) : Calls Tryz.prog 10 #[.int .i64 k] w fun e w' => e = .returned (.int .i64 k) ∧ w = w' := by
  go_enter Tryz.func10, Tryz.ntmps10
  go_wp2
  go_ret
  exact ⟨rfl, rfl⟩
def wakL : List Nod := [⟨⟨#[97]⟩, 3, [], [1], 5⟩]
theorem wakL_grp : grpB wakL = true := by decide +kernel
theorem wakL_small : Small wakL := by
  have h : ∀ i (h : i < wakL.length), i = 0 := fun i h => by simp [wakL] at h; exact h
  refine ⟨by decide, fun i hi => ?_, fun i hi => ?_, fun i hi => ?_⟩
  · have := h i hi; subst this; show ([] : List Int).length ≤ _; decide
  · have := h i hi; subst this; show ([1] : List Int).length ≤ _; decide
  · have := h i hi; subst this; show (⟨#[97]⟩ : ByteArray).size ≤ _; decide
theorem small_nil : Small [] := ⟨by decide, fun i h => by simp at h, fun i h => by simp at h, fun i h => by simp at h⟩
set_option maxHeartbeats 4000000 in
theorem wakes8 (F : Faces) (w : World) : Calls Tryz.prog 19 #[] w fun e w' => e = .returned (.bool true) ∧ Below w.heap.size w w' := by
  go_enter Tryz.func19, Tryz.ntmps19
  go_wp2_with fail
  have HL : Hid (NodesL ((w.alloc (.cells #[.int .i64 1] 3)).alloc (.cells #[.string ⟨#[97]⟩, .int .i64 3, .slice none 0 0, .slice (some ⟨w.heap.size, 0, none⟩) 1 1, .int .i64 5] 47)) (.slice (some ⟨w.heap.size + 1, 0, none⟩) 1 1) wakL) := by
    have hx := BoxN.new (w.alloc (.cells #[.int .i64 1] 3)) #[.string ⟨#[97]⟩, .int .i64 3, .slice none 0 0, .slice (some ⟨w.heap.size, 0, none⟩) 1 1, .int .i64 5]
    simp only [World.size_alloc] at hx
    have k0 : Ints ((w.alloc (.cells #[.int .i64 1] 3)).alloc (.cells #[.string ⟨#[97]⟩, .int .i64 3, .slice none 0 0, .slice (some ⟨w.heap.size, 0, none⟩) 1 1, .int .i64 5] 47)) (.slice (some ⟨w.heap.size, 0, none⟩) 1 1) [1] := ((Blk.new w [1]).alloc _).ints 1 1 rfl (Nat.le_refl _) (by decide)
    refine ⟨by decide, _, 1, rfl, Nat.le_refl _, fun i hi => ?_⟩
    have h0 : i = 0 := by simp [wakL] at hi; exact hi
    subst h0
    exact ⟨_, 0, _, _, rfl, hx.c 0, hx.c 1, hx.c 2, hx.c 3, hx.c 4, Ints.nil _, k0, by show (⟨#[97]⟩ : ByteArray).size ≤ _; decide⟩
  have HB : Hid (Below w.heap.size w ((w.alloc (.cells #[.int .i64 1] 3)).alloc (.cells #[.string ⟨#[97]⟩, .int .i64 3, .slice none 0 0, .slice (some ⟨w.heap.size, 0, none⟩) 1 1, .int .i64 5] 47))) := Below.push (Below.push (Below.refl _ _) _) _
  refine (F.leaves HL.out wakL_small true wakL_grp).mono ?_
  rintro e w1 ⟨x, rfl, ho, hb1⟩
  have hox : Ints w1 x [] := ho.ints
  obtain ⟨xa, xc, rfl⟩ := hox.shape
  have HL1 : Hid (NodesL w1 (.slice (some ⟨w.heap.size + 1, 0, none⟩) 1 1) wakL) := HL.out.later hb1
  have HB1 : Hid (Below w.heap.size w w1) := Below.after HB.out hb1
  clear ho hb1 hox HL HB
  go_wp2_with (first
    | (go_at_call 10; refine (num8 _ _).mono ?_; rintro e w' ⟨rfl, rfl⟩))
  refine (F.check HL1.out wakL_small true wakL_grp).mono ?_
  rintro e w2 ⟨rfl, hb2⟩
  have HB2 : Hid (Below w.heap.size w w2) := Below.after HB1.out hb2
  clear hb2
  go_wp2_with (first
    | (go_at_call 10; refine (num8 _ _).mono ?_; rintro e w' ⟨rfl, rfl⟩))
  refine (F.check (NodesL.nil w2) small_nil false (by decide +kernel)).mono ?_
  rintro e w3 ⟨rfl, hb3⟩
  have HB3 : Hid (Below w.heap.size w w3) := Below.after HB2.out hb3
  clear hb3
  go_wp2_with (first
    | (go_at_call 10; refine (num8 _ _).mono ?_; rintro e w' ⟨rfl, rfl⟩))
  go_ret
  exact ⟨rfl, HB3.out⟩
end
section
set_option linter.unusedVariables false
set_option linter.unusedSimpArgs false
set_option maxRecDepth 100000
open Go.RowKit

theorem nodesN_at {L : List Nod} : ∀ {n : Nat}, nodesN L n = true → ∀ i (h : i < L.length), i < n → nodeB L i L[i] = true
  | n + 1, h, i, hi, hn => by
    rw [nodesN, Bool.and_eq_true] at h
    by_cases e : i = n
    · subst e
      have := h.2
      rw [List.getElem?_eq_getElem hi] at this
      exact this
    · exact nodesN_at h.1 i hi (by omega)
theorem nodesB_at {L : List Nod} (h : nodesB L = true) (i : Nat) (hi : i < L.length) : nodeB L i L[i] = true := by
  rw [nodesB, Bool.and_eq_true] at h
  exact nodesN_at h.2 i hi hi
theorem nodeB_args {L : List Nod} {i : Nat} {t : Nod} (h : nodeB L i t = true) : argsB t.args i = true := by
  rw [nodeB, Bool.and_eq_true] at h
  exact h.1
theorem nodeB_leaf {L : List Nod} {i : Nat} {t : Nod} (h : nodeB L i t = true) (hk : t.kind = 1 ∨ t.kind = 2) : t.args = [] := by
  rw [nodeB, Bool.and_eq_true, Bool.and_eq_true] at h
  have h1 := h.2.1
  rw [may, Bool.and_eq_true, dimsAt_len] at h1
  have h2 := (frm_parts1 h1.1).2.1
  rw [show many t.kind.toNat = 0 from by rcases hk with e | e <;> rw [e] <;> decide] at h2
  exact List.eq_nil_of_length_eq_zero h2
theorem mem_lvN {L : List Nod} {k : Int} : ∀ {n : Nat} {y : Int}, y ∈ lvN L k n → ∃ m, ∃ h : m < L.length, m < n ∧ y = (m : Int) ∧ L[m].kind = k
  | 0, y, h => by simp [lvN] at h
  | n + 1, y, h => by
    rw [lvN, List.mem_append] at h
    rcases h with h | h
    · obtain ⟨m, h1, h2, h3⟩ := mem_lvN h
      exact ⟨m, h1, by omega, h3⟩
    · by_cases hn : n < L.length
      · rw [List.getElem?_eq_getElem hn] at h
        simp only at h
        split at h
        · rename_i e
          simp at h
          exact ⟨n, hn, by omega, h, e⟩
        · simp at h
      · rw [List.getElem?_eq_none (by omega)] at h
        simp at h
theorem mem_levs {L : List Nod} {y : Int} (h : y ∈ levs L) : ∃ m, ∃ h : m < L.length, y = (m : Int) ∧ (L[m].kind = 1 ∨ L[m].kind = 2) := by
  rw [levs, List.mem_append] at h
  rcases h with h | h <;> obtain ⟨m, h1, _, h2, h3⟩ := mem_lvN h
  · exact ⟨m, h1, h2, Or.inl h3⟩
  · exact ⟨m, h1, h2, Or.inr h3⟩
theorem mem_useN {L : List Nod} {i : Int} : ∀ {n : Nat} {y : Int}, y ∈ useN L i n → ∃ m, ∃ h : m < L.length, m < n ∧ y = (m : Int) ∧ i ∈ L[m].args
  | 0, y, h => by simp [useN] at h
  | n + 1, y, h => by
    rw [useN, List.mem_append] at h
    rcases h with h | h
    · obtain ⟨m, h1, h2, h3⟩ := mem_useN h
      exact ⟨m, h1, by omega, h3⟩
    · by_cases hn : n < L.length
      · rw [List.getElem?_eq_getElem hn] at h
        simp only at h
        split at h
        · rename_i e
          simp at h
          exact ⟨n, hn, by omega, h, of_decide_eq_true e⟩
        · simp at h
      · rw [List.getElem?_eq_none (by omega)] at h
        simp at h
theorem argsB_lt {A : List Int} {n : Nat} (h : argsB A n = true) {x : Int} (hx : x ∈ A) : 0 ≤ x ∧ x < n := by
  rw [argsB, List.all_eq_true] at h
  have := h x hx
  rw [Bool.and_eq_true, decide_eq_true_eq, decide_eq_true_eq] at this
  omega
/-- What is made of one stands behind it. -/
theorem uses_behind {L : List Nod} (h : nodesB L = true) {i y : Int} (hy : y ∈ useR L i) : i < y := by
  rw [useR] at hy
  split at hy
  · obtain ⟨m, h1, _, rfl, h3⟩ := mem_useN hy
    have := argsB_lt (nodeB_args (nodesB_at h m h1)) h3
    omega
  · simp at hy
theorem dimsAt_take {L : List Nod} {k : Nat} {A : List Int} (h : ∀ x ∈ A, 0 ≤ x ∧ x < (k : Int)) : dimsAt (L.take k) A = dimsAt L A := by
  rw [dimsAt, dimsAt]
  refine List.map_congr_left fun x hx => ?_
  have := h x hx
  rw [List.getElem?_take, if_pos (by omega)]
theorem nodeB_take {L : List Nod} {k i : Nat} {t : Nod} (hi : i ≤ k) : nodeB (L.take k) i t = nodeB L i t := by
  cases e : argsB t.args i with
  | false => rw [nodeB, nodeB, e, Bool.false_and, Bool.false_and]
  | true =>
    rw [nodeB, nodeB, dimsAt_take fun x hx => by have := argsB_lt e hx; omega]
theorem nodesN_take {L : List Nod} {k : Nat} : ∀ {n : Nat}, n ≤ k → nodesN L n = true → nodesN (L.take k) n = true
  | 0, _, _ => rfl
  | n + 1, hn, h => by
    rw [nodesN, Bool.and_eq_true] at h ⊢
    refine ⟨nodesN_take (by omega) h.1, ?_⟩
    have h2 := h.2
    rw [List.getElem?_take, if_pos (by omega)]
    cases e : L[n]? with
    | none => rfl
    | some t =>
      rw [e] at h2
      simp only at h2 ⊢
      rw [nodeB_take (by omega)]
      exact h2
theorem nodesN_le {L : List Nod} : ∀ {n m : Nat}, m ≤ n → nodesN L n = true → nodesN L m = true
  | 0, m, hm, h => by rw [show m = 0 from by omega]; rfl
  | n + 1, m, hm, h => by
    by_cases e : m = n + 1
    · rw [e]; exact h
    · rw [nodesN, Bool.and_eq_true] at h
      exact nodesN_le (by omega) h.1
theorem nodesB_take {L : List Nod} (h : nodesB L = true) (k : Nat) (hk : k ≤ L.length) : nodesB (L.take k) = true := by
  rw [nodesB, Bool.and_eq_true, decide_eq_true_eq] at h ⊢
  rw [List.length_take, Nat.min_eq_left hk]
  exact ⟨by omega, nodesN_take (Nat.le_refl _) (nodesN_le hk h.2)⟩
theorem grp_nodes {L : List Nod} (h : grpB L = true) : nodesB L = true := by
  simp only [grpB, Bool.and_eq_true] at h
  exact h.1.1.2
theorem small_take {L : List Nod} (h : Small L) (k : Nat) : Small (L.take k) := by
  have hl : (L.take k).length ≤ L.length := by rw [List.length_take]; omega
  refine ⟨Nat.le_trans hl h.n, fun i hi => ?_, fun i hi => ?_, fun i hi => ?_⟩ <;> rw [List.getElem_take]
  · exact h.a i (by omega)
  · exact h.d i (by omega)
  · exact h.s i (by omega)
theorem light_small {T : List (List Nod)} {N : List Int} {D : List (List Int)} (h : Light T N D) (i : Nat) (hi : i < T.length) : Small T[i] := by
  refine ⟨by have := h.t i hi; omega, fun k hk => ?_, fun k hk => ?_, fun k hk => ?_⟩ <;> (have := h.te i hi k hk; rw [nodW] at this; omega)
theorem useE_ok {L : List Nod} (h : nodesB L = true) (k : Nat) (hk : k < L.length) : useE L k = 0 := by
  rw [useE, if_pos h, if_pos (by simp; omega)]
end
section
set_option linter.unusedVariables false
set_option linter.unusedSimpArgs false
set_option maxRecDepth 100000
open Go.RowKit

theorem okd_pair {x y : Int} (hx : 1 ≤ x ∧ x ≤ 8) (hy : 1 ≤ y ∧ y ≤ 8) : okd [x, y] = true := by
  refine okd_mk (by simp) (by simp) (by simp [inr]; omega) ?_
  rw [show prd [x, y] = x * y from by simp [prd]]
  have h1 : x * y ≤ 8 * y := Int.mul_le_mul_of_nonneg_right hx.2 (by omega)
  omega
theorem okd_at2 {a : List Int} (h : okd a = true) (hl : a.length = 2) (i : Nat) (hi : i < 2) : 1 ≤ a.getD i 0 ∧ a.getD i 0 ≤ 8 := by
  have h3 := (okd_parts h).2.2.1
  rw [List.getD_eq_getElem?_getD, List.getElem?_eq_getElem (by omega)]
  exact inr_mem h3 (List.getElem_mem _)
theorem okd_inD {k n : Int} {d : List Int} {P : List (List Int)} (hm : may k n d P = true) (hi : inf k.toNat n d (P.getD 0 []) (P.getD 1 []) = true) : okd (inD k.toNat n d (P.getD 0 []) (P.getD 1 [])) = true := by
  rw [may, Bool.and_eq_true] at hm
  obtain ⟨hf, hall⟩ := hm
  obtain ⟨hk, hc, hd, hn⟩ := frm_parts1 hf
  rw [List.all_eq_true] at hall
  have h0 : 1 ≤ P.length → okd (P.getD 0 []) = true := fun h => by
    rw [List.getD_eq_getElem?_getD, List.getElem?_eq_getElem (by omega)]
    exact hall _ (List.getElem_mem _)
  have h1 : 2 ≤ P.length → okd (P.getD 1 []) = true := fun h => by
    rw [List.getD_eq_getElem?_getD, List.getElem?_eq_getElem (by omega)]
    exact hall _ (List.getElem_mem _)
  generalize P.getD 0 [] = a at hi h0 ⊢
  generalize P.getD 1 [] = b at hi h1 ⊢
  have hk' : k = 1 ∨ k = 2 ∨ k = 3 ∨ k = 4 ∨ k = 5 ∨ k = 6 ∨ k = 7 ∨ k = 8 ∨ k = 9 ∨ k = 10 ∨ k = 11 ∨ k = 12 ∨ k = 13 ∨ k = 14 ∨ k = 15 ∨ k = 16 ∨ k = 17 := by omega
  rcases hk' with rfl | rfl | rfl | rfl | rfl | rfl | rfl | rfl | rfl | rfl | rfl | rfl | rfl | rfl | rfl | rfl | rfl
  · exact hd
  · exact hd
  · exact hd
  · exact h0 (by rw [hc]; decide)
  · exact h0 (by rw [hc]; decide)
  · exact h0 (by rw [hc]; decide)
  · exact h0 (by rw [hc]; decide)
  · exact h0 (by rw [hc]; decide)
  · have e := of_decide_eq_true (p := a.length = 2 ∧ b.length = 2 ∧ a.getD 1 0 = b.getD 0 0) hi
    exact okd_pair (okd_at2 (h0 (by rw [hc]; decide)) e.1 0 (by omega)) (okd_at2 (h1 (by rw [hc]; decide)) e.2.1 1 (by omega))
  · have e := of_decide_eq_true (p := a.length = 2) hi
    have ha := h0 (by rw [hc]; decide)
    exact okd_pair (okd_at2 ha e 1 (by omega)) (okd_at2 ha e 0 (by omega))
  · exact hd
  · exact hd
  · exact hd
  · exact h0 (by rw [hc]; decide)
  · have e := of_decide_eq_true (p := lastD a % n = 0) hi
    have ha := h0 (by rw [hc]; decide)
    have hn' := of_decide_eq_true (p := 1 ≤ n ∧ n ≤ 8) hn
    obtain ⟨m, hm⟩ : ∃ m : Nat, n = m := ⟨n.toNat, by omega⟩
    subst hm
    obtain ⟨_, _, _, h, _⟩ := few_mul (t := zT a) (n := m) (tok_zT ha) (by omega) e
    exact h
  · exact h0 (by rw [hc]; decide)
  · exact h0 (by rw [hc]; decide)
theorem nodeB_okd {L : List Nod} {i : Nat} {t : Nod} (h : nodeB L i t = true) : okd t.dims = true := by
  simp only [nodeB, Bool.and_eq_true, decide_eq_true_eq] at h
  obtain ⟨_, hm, hi, hd⟩ := h
  rw [hd]
  exact okd_inD hm hi
end
end Go.Proofs.YtjfkhfahpjdidaaGreatDoor
