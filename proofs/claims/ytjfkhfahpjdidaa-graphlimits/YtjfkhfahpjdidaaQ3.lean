/- Contract: the page's DimsOf, of nodes. -/
import Derived.Test.YtjfkhfahpjdidaaQ2
namespace Go.Proofs.Ytjfkhfahpjdidaa
set_option linter.unusedVariables false
set_option linter.unusedSimpArgs false
set_option maxRecDepth 100000
open Go.RowKit

theorem dimsAt_snoc (L : List Nod) (A : List Int) (k : Nat) (h : k < A.length) (m : Nat) (hm : m < L.length) (e : A[k] = (m : Int)) : dimsAt L (A.take (k + 1)) = dimsAt L (A.take k) ++ [L[m].dims] := by
  rw [dimsAt, List.take_succ_eq_append_getElem h, List.map_append, e]
  simp [dimsAt, hm]
theorem argsB_mem {A : List Int} {n : Nat} (h : argsB A n = true) (k : Nat) (hk : k < A.length) : ∃ m : Nat, m < n ∧ A[k] = (m : Int) := by
  rw [argsB, List.all_eq_true] at h
  have := h _ (List.getElem_mem hk)
  rw [Bool.and_eq_true, decide_eq_true_eq, decide_eq_true_eq] at this
  exact ⟨A[k].toNat, by omega, by omega⟩
set_option maxHeartbeats 4000000 in
theorem ndimsOf_any {v u : Value} {L : List Nod} {A : List Int} {w : World} (h : NodesL w v L) (hA : Ints w u A) (n : Nat) (hn : n ≤ L.length) (hq : argsB A n = true) (hlen : A.length ≤ 100000000) :
    Calls Try.prog 26 #[v, u] w fun e w' => ∃ v' xs, e = .returned v' ∧ Row w' w.heap.size v' (dimsAt L A) xs ∧ Below w.heap.size w w' := by
  have HN : Hid (NodesL w v L) := h
  obtain ⟨va, vc, rfl, hc1, hc2⟩ := h.shape
  obtain ⟨iT, hi, hz0, hz1, hz2⟩ := infoI
  have HI : Hid (Try.prog.info? 23 = some iT) := hi
  have HZ0 : Hid (iT.zero = some (.slice none 0 0)) := hz0
  have HZ1 : Hid (iT.size = 1) := hz1
  have HZ2 : Hid (iT.bytes = 24) := hz2
  have HQ : Hid (argsB A n = true) := hq
  have HAI : Hid (Ints w u A) := hA
  obtain ⟨ua, uc, rfl⟩ := hA.shape
  clear hi hz0 hz1 hz2 h hq hA
  unfold big at hc2
  go_enter Try.func26, Try.ntmps26
  go_wp2
  go_loopw [5, 6] (fun v i w' => ∃ (k : Nat) (xs : List Value), k ≤ A.length ∧ i = .int .i64 k ∧ Hid (Row w' w.heap.size v (dimsAt L (A.take k)) xs) ∧ Below w.heap.size w w') (fun _ i _ => A.length - (intOf i).toNat)
  case atStart => exact ⟨0, [], Nat.zero_le _, rfl, Row.none _ _, Below.refl _ _⟩
  case round =>
    obtain ⟨k, xs, hk, rfl, HO, hbel⟩ := hrel
    have HB : Hid (Below w.heap.size w wr) := hbel
    have hsz := hbel.size
    clear hbel
    by_cases hlt : k < A.length
    · obtain ⟨m, hm, em⟩ := argsB_mem HQ.out k hlt
      have hmL : m < L.length := by omega
      have hai := HAI.out.later HB.out
      rcases hai.cases with ⟨e0, _⟩ | ⟨ub, uo, uc', eu, h0, h1, h2, h3⟩
      · rw [e0] at hlt; simp at hlt
      simp only [Value.slice.injEq, true_and] at eu
      obtain ⟨rfl, rfl⟩ := eu
      have hx := h3.out k hlt
      rw [em] at hx
      obtain ⟨b, off, x, y, rfl, hnd⟩ := HN.out.row m hmL
      have d3 := cell_later HB.out hnd.c3
      have HT : Hid (Ints w y L[m].dims) := hnd.d
      have HSN : Hid (dimsAt L (A.take (k + 1)) = dimsAt L (A.take k) ++ [L[m].dims]) := dimsAt_snoc L A k hlt m hmL em
      obtain ⟨ya, yn, yc, rfl⟩ := hnd.d.shape3
      have hll : (dimsAt L (A.take k)).length = k := by simp [dimsAt]; omega
      have gm : (m : Int) < L.length := by omega
      clear hnd em h0 h1 h2 h3 hai
      have HR1 : Hid (Row (wr.alloc (.cells #[.slice ya yn yc] 23)) w.heap.size u5 (dimsAt L (A.take k)) xs) := HO.out.later (Below.push (Below.refl _ _) _)
      go_wp2_with (at_builtin; refine wpList_append_lies _ rfl _ _ 24 rfl w.heap.size 23 iT (.slice none 0 0) 1 24 Try.underlying24 HI.out HZ0.out HZ1.out HZ2.out rfl (by decide) u5 k xs rfl ?c0 ⟨wr.heap.size, 0, none⟩ 1 1 [.slice ya yn yc] rfl rfl ?c1 ?c2 (by decide) ?c3 ?c4 ?c5 (wr.heap.size + 1) ?c6 ?_)
      case c0 => have := HR1.out.own; rw [hll] at this; exact this
      case c1 => exact World.news_of_block (heap_alloc_new wr (.cells #[.slice ya yn yc] 23))
      case c2 => intro u hu; simp only [List.mem_cons, List.not_mem_nil, or_false] at hu; subst hu; rfl
      case c3 => unfold maxLen; omega
      case c4 => omega
      case c5 => simp; omega
      case c6 => simp
      intro g cap w2 ho hg hat hlt2
      have hr := Row.app (E := [L[m].dims]) (m := 1) HR1.out rfl (news := [.slice ya yn yc]) (fun i hi => by
        have h0 : i = 0 := by simp at hi; omega
        subst h0
        refine ⟨_, rfl, ?_⟩
        exact Elt.older HT.out (Below.push HB.out _) (fun q hq => (HO.out.lt q hq).1)) (by rw [hll]; exact ho) hg (by
          rcases hat with h | h
          · exact Or.inl h.symm
          · exact Or.inr (by rw [h]; simp [Value.ownBlock]))
      have HO2 : Hid (Row w2 w.heap.size (.slice (some ⟨g, 0, none⟩) (k + 1) cap) (dimsAt L (A.take (k + 1))) (xs ++ [.slice ya yn yc])) := by show Row _ _ _ _ _; rw [HSN.out]; exact hr
      have HB2 : Hid (Below w.heap.size w w2) := (Below.push HB.out _).grown hg (by simp; omega) (fun q hq => (HO.out.lt q hq).1)
      clear ho hg hat hr
      go_wp2
      go_roundw
      case rel => exact ⟨k + 1, _, by omega, by go_num, HO2.out, HB2.out⟩
      case measure => simp [intOf]; omega
    · have hk' : k = A.length := by omega
      subst hk'
      go_wp2
      go_ret
      have h9 := HO.out
      rw [List.take_length] at h9
      exact ⟨_, _, rfl, h9, HB.out⟩
end Go.Proofs.Ytjfkhfahpjdidaa
