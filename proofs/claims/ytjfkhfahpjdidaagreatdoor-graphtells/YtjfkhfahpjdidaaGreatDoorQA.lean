/- Joined: Q1, Q2, Q3. -/
import Derived.Test.YtjfkhfahpjdidaaGreatDoorC29
namespace Go.Proofs.YtjfkhfahpjdidaaGreatDoor
section
set_option linter.unusedVariables false
set_option linter.unusedSimpArgs false
set_option maxRecDepth 100000
open Go.RowKit

/-- A node. -/
structure Nod where
  name : ByteArray
  kind : Int
  args : List Int
  dims : List Int
  n : Int
/-- A node's five cells. -/
structure NodeAt (w : World) (b o : Nat) (x y : Value) (t : Nod) : Prop where
  c0 : w.cell? ⟨b, o, none⟩ = some (.string t.name)
  c1 : w.cell? ⟨b, o + 1, none⟩ = some (.int .i64 t.kind)
  c2 : w.cell? ⟨b, o + 2, none⟩ = some x
  c3 : w.cell? ⟨b, o + 3, none⟩ = some y
  c4 : w.cell? ⟨b, o + 4, none⟩ = some (.int .i64 t.n)
  a : Ints w x t.args
  d : Ints w y t.dims
  z : t.name.size ≤ 140737488355327
theorem NodeAt.later {w w' : World} {b o : Nat} {x y : Value} {t : Nod} (h : NodeAt w b o x y t) (hb : Below w.heap.size w w') : NodeAt w' b o x y t :=
  ⟨cell_later hb h.c0, cell_later hb h.c1, cell_later hb h.c2, cell_later hb h.c3, cell_later hb h.c4, h.a.later hb, h.d.later hb, h.z⟩
/-- A list of nodes. -/
def NodesL (w : World) (v : Value) (L : List Nod) : Prop :=
  L.length ≤ big ∧ ∃ (a : Option Addr) (c : Nat), v = .slice a L.length c ∧ L.length ≤ c ∧ ∀ i (h : i < L.length), ∃ b off x y, a = some ⟨b, off, none⟩ ∧ NodeAt w b (off + i * 5) x y L[i]
theorem NodesL.later {w w' : World} {v : Value} {L : List Nod} (h : NodesL w v L) (hb : Below w.heap.size w w') : NodesL w' v L := by
  obtain ⟨h0, a, c, rfl, h1, h2⟩ := h
  refine ⟨h0, a, c, rfl, h1, fun i hi => ?_⟩
  obtain ⟨b, off, x, y, e, hn⟩ := h2 i hi
  exact ⟨b, off, x, y, e, hn.later hb⟩
theorem NodesL.nil (w : World) : NodesL w (.slice none 0 0) [] := ⟨Nat.zero_le _, none, 0, rfl, Nat.le_refl _, fun i hi => by simp at hi⟩
theorem NodesL.shape {w : World} {v : Value} {L : List Nod} (h : NodesL w v L) : ∃ a c, v = .slice a L.length c ∧ L.length ≤ c ∧ L.length ≤ big := by
  obtain ⟨h0, a, c, e, h1, _⟩ := h
  exact ⟨a, c, e, h1, h0⟩
theorem NodesL.row {w : World} {a : Option Addr} {n c : Nat} {L : List Nod} (h : NodesL w (.slice a n c) L) (i : Nat) (hi : i < L.length) : ∃ b off x y, a = some ⟨b, off, none⟩ ∧ NodeAt w b (off + i * 5) x y L[i] := by
  obtain ⟨_, a', c', e, _, hr⟩ := h
  simp only [Value.slice.injEq] at e
  obtain ⟨rfl, rfl, rfl⟩ := e
  exact hr i hi
/-- The first n of them. -/
theorem NodesL.take {w : World} {a : Option Addr} {n c : Nat} {L : List Nod} (h : NodesL w (.slice a n c) L) (k : Nat) (hk : k ≤ L.length) : NodesL w (.slice a k c) (L.take k) := by
  obtain ⟨h0, a', c', e, h1, hr⟩ := h
  simp only [Value.slice.injEq] at e
  obtain ⟨rfl, rfl, rfl⟩ := e
  refine ⟨by rw [List.length_take]; omega, a, c, by rw [List.length_take]; congr 1; omega, by rw [List.length_take]; omega, fun i hi => ?_⟩
  rw [List.length_take] at hi
  obtain ⟨b, off, x, y, e, hn⟩ := hr i (by omega)
  refine ⟨b, off, x, y, e, ?_⟩
  rw [List.getElem_take]
  exact hn
/-- Numbers of nodes. -/
def argsB (args : List Int) (n : Int) : Bool := args.all fun x => decide (0 ≤ x) && decide (x ≤ n - 1)
/-- The dims of those that it is made of. -/
def dimsAt (L : List Nod) (args : List Int) : List (List Int) := args.map fun x => match L[x.toNat]? with
  | some t => t.dims
  | none => []
def askD (t : Nod) : List Int := if askI t.kind then t.dims else []
/-- May one be, behind those ahead? -/
def nodeB (L : List Nod) (i : Nat) (t : Nod) : Bool :=
  argsB t.args i && (may t.kind t.n (askD t) (dimsAt L t.args) && (inf t.kind.toNat t.n (askD t) ((dimsAt L t.args).getD 0 []) ((dimsAt L t.args).getD 1 []) && decide (t.dims = inD t.kind.toNat t.n (askD t) ((dimsAt L t.args).getD 0 []) ((dimsAt L t.args).getD 1 []))))
def nodesN (L : List Nod) : Nat → Bool
  | 0 => true
  | k + 1 => nodesN L k && (match L[k]? with
    | some t => nodeB L k t
    | none => true)
def nodesB (L : List Nod) : Bool := decide (L.length ≤ 240) && nodesN L L.length
end
section
set_option linter.unusedVariables false
set_option linter.unusedSimpArgs false
set_option maxRecDepth 100000
open Go.RowKit

theorem rnum_to (n m : Int) (w : World) (x : Bool) (hx : (decide (0 ≤ n) && decide (n ≤ m)) = x) :
    Calls Tryz.prog 15 #[.int .i64 n, .int .i64 m] w fun e w' => e = .returned (.bool x) ∧ w = w' := by
  have HX : Hid ((decide (0 ≤ n) && decide (n ≤ m)) = x) := hx
  clear hx
  by_cases h1 : 0 ≤ n
  · go_enter Tryz.func15, Tryz.ntmps15
    go_wp2
    go_ret
    exact ⟨by rw [← HX.out]; simp [h1], rfl⟩
  · go_enter Tryz.func15, Tryz.ntmps15
    go_wp2
    go_ret
    exact ⟨by rw [← HX.out]; simp [h1]; omega, rfl⟩
theorem argsB_at {A : List Int} {n : Int} {k : Nat} (h : k < A.length) (hb : (decide (0 ≤ A[k]) && decide (A[k] ≤ n - 1)) = false) : argsB A n = false := by
  cases e : argsB A n with
  | false => rfl
  | true =>
    rw [argsB, List.all_eq_true] at e
    have := e _ (List.getElem_mem h)
    rw [hb] at this
    exact this.symm
theorem argsB_all {A : List Int} {n : Int} (h : ∀ k (h : k < A.length), (decide (0 ≤ A[k]) && decide (A[k] ≤ n - 1)) = true) : argsB A n = true := by
  rw [argsB, List.all_eq_true]
  intro x hx
  obtain ⟨k, hk, rfl⟩ := List.getElem_of_mem hx
  exact h k hk
set_option maxHeartbeats 4000000 in
theorem args_any {v : Value} {A : List Int} {w : World} (n : Nat) (hn : n ≤ 17592186044416) (hA : Ints w v A) (q : Bool) (hq : argsB A n = q) :
    Calls Tryz.prog 40 #[v, .int .i64 n] w fun e w' => e = .returned (.bool q) ∧ w = w' := by
  have HQ : Hid (argsB A n = q) := hq
  clear hq
  rcases hA.cases with ⟨rfl, a1, c1, rfl⟩ | ⟨b1, o1, c1, rfl, h0, h1, h2, h3⟩
  · have HQ2 : Hid (q = true) := by show _ = _; rw [← HQ.out]; rfl
    clear hA
    go_enter Tryz.func40, Tryz.ntmps40
    go_wp2
    refine wp_loop_rounds 1 ?_
    rw [rounds_succ]
    go_wp2
    go_ret
    exact ⟨by rw [HQ2.out]; rfl, rfl⟩
  · have HA3 := h3
    clear hA
    unfold big at h2
    have gw : IntKind.i64.wrap ((n : Int) - 1) = (n : Int) - 1 := by simp [IntKind.wrap, IntKind.signed, IntKind.bits]; omega
    go_enter Tryz.func40, Tryz.ntmps40
    go_wp2
    go_loop [5] (fun i => ∃ k : Nat, k ≤ A.length ∧ i = .int .i64 k ∧ Hid (∀ j (h : j < A.length), j < k → (decide (0 ≤ A[j]) && decide (A[j] ≤ (n : Int) - 1)) = true)) (fun i => A.length - (intOf i).toNat)
    case atStart => exact ⟨0, Nat.zero_le _, rfl, fun j h1 h2 => by omega⟩
    case round =>
      obtain ⟨k, hk, rfl, HP⟩ := hrel
      by_cases hlt : k < A.length
      · have hx := h3.out k hlt
        obtain ⟨y, hy⟩ : ∃ y, A[k] = y := ⟨_, rfl⟩
        rw [hy] at hx
        have HY : Hid (A[k] = y) := hy
        clear hy
        cases hb : (decide (0 ≤ y) && decide (y ≤ (n : Int) - 1)) with
        | false =>
          have HBB : Hid ((decide (0 ≤ y) && decide (y ≤ (n : Int) - 1)) = false) := hb
          have HQ2 : Hid (q = false) := by show _ = _; rw [← HQ.out]; exact argsB_at hlt (by rw [HY.out]; exact hb)
          clear hb
          go_wp2_with (go_at_call 15; refine (rnum_to _ _ _ false HBB.out).mono ?_; rintro e w2 ⟨rfl, rfl⟩)
          go_ret
          exact ⟨by rw [HQ2.out]; rfl, rfl⟩
        | true =>
          have HBB : Hid ((decide (0 ≤ y) && decide (y ≤ (n : Int) - 1)) = true) := hb
          clear hb
          go_wp2_with (go_at_call 15; refine (rnum_to _ _ _ true HBB.out).mono ?_; rintro e w2 ⟨rfl, rfl⟩)
          go_round
          case rel =>
            refine ⟨k + 1, by omega, by go_num, fun j h1 h2 => ?_⟩
            by_cases e : j = k
            · subst e; rw [HY.out]; exact HBB.out
            · exact HP.out j h1 (by omega)
          case measure => simp [intOf]; omega
      · have HQ2 : Hid (q = true) := by show _ = _; rw [← HQ.out]; exact argsB_all (fun j h => HP.out j h (by omega))
        go_wp2
        go_ret
        exact ⟨by rw [HQ2.out]; rfl, rfl⟩
end
section
set_option linter.unusedVariables false
set_option linter.unusedSimpArgs false
set_option maxRecDepth 100000
open Go.RowKit

theorem dimsAt_snoc (L : List Nod) (A : List Int) (k : Nat) (h : k < A.length) (m : Nat) (hm : m < L.length) (e : A[k] = (m : Int)) : dimsAt L (A.take (k + 1)) = dimsAt L (A.take k) ++ [L[m].dims] := by
  rw [dimsAt, List.take_succ_eq_append_getElem h, List.map_append, e]
  simp [dimsAt, hm]
theorem argsB_mem {A : List Int} {n : Nat} (h : argsB A n = true) (k : Nat) (hk : k < A.length) : ∃ m : Nat, m < n ∧ A[k] = (m : Int) := by
  rw [argsB, List.all_eq_true] at h
  have := h _ (List.getElem_mem hk)
  rw [Bool.and_eq_true, decide_eq_true_eq, decide_eq_true_eq] at this
  exact ⟨A[k].toNat, by omega, by omega⟩
set_option maxHeartbeats 4000000 in
theorem ndimsOf_any {v u : Value} {L : List Nod} {A : List Int} {w : World} (h : NodesL w v L) (hA : Ints w u A) (n : Nat) (hn : n ≤ L.length) (hq : argsB A n = true) (hlen : A.length ≤ 100000000) :
    Calls Tryz.prog 42 #[v, u] w fun e w' => ∃ v' xs, e = .returned v' ∧ Row w' w.heap.size v' (dimsAt L A) xs ∧ Below w.heap.size w w' := by
  have HN : Hid (NodesL w v L) := h
  obtain ⟨va, vc, rfl, hc1, hc2⟩ := h.shape
  obtain ⟨iT, hi, hz0, hz1, hz2⟩ := infoI
  have HI : Hid (Tryz.prog.info? 23 = some iT) := hi
  have HZ0 : Hid (iT.zero = some (.slice none 0 0)) := hz0
  have HZ1 : Hid (iT.size = 1) := hz1
  have HZ2 : Hid (iT.bytes = 24) := hz2
  have HQ : Hid (argsB A n = true) := hq
  have HAI : Hid (Ints w u A) := hA
  obtain ⟨ua, uc, rfl⟩ := hA.shape
  clear hi hz0 hz1 hz2 h hq hA
  unfold big at hc2
  go_enter Tryz.func42, Tryz.ntmps42
  go_wp2
  go_loopw [5, 6] (fun v i w' => ∃ (k : Nat) (xs : List Value), k ≤ A.length ∧ i = .int .i64 k ∧ Hid (Row w' w.heap.size v (dimsAt L (A.take k)) xs) ∧ Below w.heap.size w w') (fun _ i _ => A.length - (intOf i).toNat)
  case atStart => exact ⟨0, [], Nat.zero_le _, rfl, Row.none _ _, Below.refl _ _⟩
  case round =>
    obtain ⟨k, xs, hk, rfl, HO, hbel⟩ := hrel
    have HB : Hid (Below w.heap.size w wr) := hbel
    have hsz := hbel.size
    clear hbel
    by_cases hlt : k < A.length
    · obtain ⟨m, hm, em⟩ := argsB_mem HQ.out k hlt
      have hmL : m < L.length := by omega
      have hai := HAI.out.later HB.out
      rcases hai.cases with ⟨e0, _⟩ | ⟨ub, uo, uc', eu, h0, h1, h2, h3⟩
      · rw [e0] at hlt; simp at hlt
      simp only [Value.slice.injEq, true_and] at eu
      obtain ⟨rfl, rfl⟩ := eu
      have hx := h3.out k hlt
      rw [em] at hx
      obtain ⟨b, off, x, y, rfl, hnd⟩ := HN.out.row m hmL
      have d3 := cell_later HB.out hnd.c3
      have HT : Hid (Ints w y L[m].dims) := hnd.d
      have HSN : Hid (dimsAt L (A.take (k + 1)) = dimsAt L (A.take k) ++ [L[m].dims]) := dimsAt_snoc L A k hlt m hmL em
      obtain ⟨ya, yn, yc, rfl⟩ := hnd.d.shape3
      have hll : (dimsAt L (A.take k)).length = k := by simp [dimsAt]; omega
      have gm : (m : Int) < L.length := by omega
      clear hnd em h0 h1 h2 h3 hai
      have HR1 : Hid (Row (wr.alloc (.cells #[.slice ya yn yc] 23)) w.heap.size u5 (dimsAt L (A.take k)) xs) := HO.out.later (Below.push (Below.refl _ _) _)
      go_wp2_with (at_builtin; refine wpList_append_lies _ rfl _ _ 24 rfl w.heap.size 23 iT (.slice none 0 0) 1 24 Tryz.underlying24 HI.out HZ0.out HZ1.out HZ2.out rfl (by decide) u5 k xs rfl ?c0 ⟨wr.heap.size, 0, none⟩ 1 1 [.slice ya yn yc] rfl rfl ?c1 ?c2 (by decide) ?c3 ?c4 ?c5 (wr.heap.size + 1) ?c6 ?_)
      case c0 => have := HR1.out.own; rw [hll] at this; exact this
      case c1 => exact World.news_of_block (heap_alloc_new wr (.cells #[.slice ya yn yc] 23))
      case c2 => intro u hu; simp only [List.mem_cons, List.not_mem_nil, or_false] at hu; subst hu; rfl
      case c3 => unfold maxLen; omega
      case c4 => omega
      case c5 => simp; omega
      case c6 => simp
      intro g cap w2 ho hg hat hlt2
      have hr := Row.app (E := [L[m].dims]) (m := 1) HR1.out rfl (news := [.slice ya yn yc]) (fun i hi => by
        have h0 : i = 0 := by simp at hi; omega
        subst h0
        refine ⟨_, rfl, ?_⟩
        exact Elt.older HT.out (Below.push HB.out _) (fun q hq => (HO.out.lt q hq).1)) (by rw [hll]; exact ho) hg (by
          rcases hat with h | h
          · exact Or.inl h.symm
          · exact Or.inr (by rw [h]; simp [Value.ownBlock]))
      have HO2 : Hid (Row w2 w.heap.size (.slice (some ⟨g, 0, none⟩) (k + 1) cap) (dimsAt L (A.take (k + 1))) (xs ++ [.slice ya yn yc])) := by show Row _ _ _ _ _; rw [HSN.out]; exact hr
      have HB2 : Hid (Below w.heap.size w w2) := (Below.push HB.out _).grown hg (by simp; omega) (fun q hq => (HO.out.lt q hq).1)
      clear ho hg hat hr
      go_wp2
      go_roundw
      case rel => exact ⟨k + 1, _, by omega, by go_num, HO2.out, HB2.out⟩
      case measure => simp [intOf]; omega
    · have hk' : k = A.length := by omega
      subst hk'
      go_wp2
      go_ret
      have h9 := HO.out
      rw [List.take_length] at h9
      exact ⟨_, _, rfl, h9, HB.out⟩
end
end Go.Proofs.YtjfkhfahpjdidaaGreatDoor
