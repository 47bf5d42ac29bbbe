/- Rows of nodes of one's own; contract: the page's CopyNodes. -/
import Derived.Test.YtjfkhfahpjdidaaQ9
namespace Go.Proofs.Ytjfkhfahpjdidaa
set_option linter.unusedVariables false
set_option linter.unusedSimpArgs false
set_option maxRecDepth 100000
open Go.RowKit

/-- A node's five values from place j on; its lists not in block r. -/
def NodeX (w : World) (r : Option Nat) (xs : List Value) (j : Nat) (t : Nod) : Prop :=
  ∃ x y, xs[j]? = some (.string t.name) ∧ xs[j + 1]? = some (.int .i64 t.kind) ∧ xs[j + 2]? = some x ∧ xs[j + 3]? = some y ∧ xs[j + 4]? = some (.int .i64 t.n) ∧ Elt w r x t.args ∧ Elt w r y t.dims ∧ t.name.size ≤ 140737488355327
theorem NodeX.later {w w' : World} {r : Option Nat} {xs : List Value} {j : Nat} {t : Nod} (hb : Below w.heap.size w w') (h : NodeX w r xs j t) : NodeX w' r xs j t := by
  obtain ⟨x, y, h0, h1, h2, h3, h4, ha, hd, hz⟩ := h
  exact ⟨x, y, h0, h1, h2, h3, h4, ha.later hb, hd.later hb, hz⟩
theorem NodeX.grown {w w' : World} {r r' : Option Nat} {xs : List Value} {j : Nat} {t : Nod} (h : NodeX w r xs j t) (hg : w.grownBy w' r) (hr : r' = r ∨ r' = some w.heap.size) : NodeX w' r' xs j t := by
  obtain ⟨x, y, h0, h1, h2, h3, h4, ha, hd, hz⟩ := h
  exact ⟨x, y, h0, h1, h2, h3, h4, ha.grown hg hr, hd.grown hg hr, hz⟩
theorem NodeX.left {w : World} {r : Option Nat} {xs ys : List Value} {j : Nat} {t : Nod} (h : NodeX w r xs j t) (hj : j + 4 < xs.length) : NodeX w r (xs ++ ys) j t := by
  obtain ⟨x, y, h0, h1, h2, h3, h4, h⟩ := h
  refine ⟨x, y, ?_, ?_, ?_, ?_, ?_, h⟩ <;> rw [List.getElem?_append_left (by omega)] <;> assumption
theorem NodeX.right {w : World} {r : Option Nat} {xs ys : List Value} {j i : Nat} {t : Nod} (h : NodeX w r ys j t) (hj : i = xs.length + j) : NodeX w r (xs ++ ys) i t := by
  subst hj
  obtain ⟨x, y, h0, h1, h2, h3, h4, h⟩ := h
  refine ⟨x, y, ?_, ?_, ?_, ?_, ?_, h⟩ <;> rw [List.getElem?_append_right (by omega)]
  · rw [show xs.length + j - xs.length = j from by omega]; exact h0
  · rw [show xs.length + j + 1 - xs.length = j + 1 from by omega]; exact h1
  · rw [show xs.length + j + 2 - xs.length = j + 2 from by omega]; exact h2
  · rw [show xs.length + j + 3 - xs.length = j + 3 from by omega]; exact h3
  · rw [show xs.length + j + 4 - xs.length = j + 4 from by omega]; exact h4
structure RowN (w : World) (B : Nat) (v : Value) (L : List Nod) (xs : List Value) : Prop where
  own : w.ownsRow B 42 5 v L.length xs
  elt : ∀ i (h : i < L.length), NodeX w v.ownBlock xs (i * 5) L[i]
theorem RowN.zero (w : World) (B : Nat) : RowN w B (.slice none 0 0) [] [] := ⟨World.ownsRow_nil _ _ _ _, fun i h => by simp at h⟩
theorem RowN.later {w w' : World} {B : Nat} {v : Value} {L : List Nod} {xs : List Value} (hb : Below w.heap.size w w') (h : RowN w B v L xs) : RowN w' B v L xs := by
  refine ⟨⟨h.own.1, ?_⟩, fun i hi => (h.elt i hi).later hb⟩
  rcases h.own.2 with h0 | ⟨g, cap, cur, rfl, h1, hh, h2⟩
  · exact Or.inl h0
  · exact Or.inr ⟨g, cap, cur, rfl, h1, (hb.block g (Array.getElem?_eq_some_iff.1 hh).1).trans hh, h2⟩
theorem RowN.app {w w' : World} {B m : Nat} {v v' : Value} {L E : List Nod} {xs news : List Value} (h : RowN w B v L xs) (hm : m = E.length) (he : ∀ i (h : i < E.length), NodeX w v.ownBlock news (i * 5) E[i])
    (hown : w'.ownsRow B 42 5 v' (L.length + m) (xs ++ news)) (hg : w.grownBy w' v.ownBlock) (hat : v'.ownBlock = v.ownBlock ∨ v'.ownBlock = some w.heap.size) : RowN w' B v' (L ++ E) (xs ++ news) := by
  subst hm
  have hl := h.own.1
  refine ⟨by rw [List.length_append]; exact hown, fun i hi => ?_⟩
  by_cases hlt : i < L.length
  · rw [List.getElem_append_left hlt]
    exact ((h.elt i hlt).grown hg hat).left (by omega)
  · rw [List.length_append] at hi
    rw [List.getElem_append_right (by omega)]
    exact ((he (i - L.length) (by omega)).grown hg hat).right (by omega)
theorem RowN.nodesL {w : World} {B : Nat} {v : Value} {L : List Nod} {xs : List Value} (h : RowN w B v L xs) (hb : L.length ≤ big) : NodesL w v L := by
  have hc := h.own
  rcases h.own.2 with ⟨rfl, h0⟩ | ⟨g, cap, cur, rfl, h1, hh, h2, h3, h4, h5⟩
  · refine ⟨hb, none, 0, by rw [h0], by omega, fun i hi => by omega⟩
  · refine ⟨hb, some ⟨g, 0, none⟩, cap, rfl, h2, fun i hi => ?_⟩
    obtain ⟨x, y, e0, e1, e2, e3, e4, ha, hd, hz⟩ := h.elt i hi
    have k0 := hc.cells (g := g) rfl _ _ e0
    have k1 := hc.cells (g := g) rfl _ _ e1
    have k2 := hc.cells (g := g) rfl _ _ e2
    have k3 := hc.cells (g := g) rfl _ _ e3
    have k4 := hc.cells (g := g) rfl _ _ e4
    rw [addr_add] at k0 k1 k2 k3 k4
    exact ⟨g, 0, x, y, rfl, k0, by rw [Nat.add_assoc]; exact k1, by rw [Nat.add_assoc]; exact k2, by rw [Nat.add_assoc]; exact k3, by rw [Nat.add_assoc]; exact k4, ha.1, hd.1, hz⟩
theorem RowN.lt {w : World} {B : Nat} {v : Value} {L : List Nod} {xs : List Value} (h : RowN w B v L xs) : ∀ k, v.ownBlock = some k → B ≤ k ∧ k < w.heap.size := h.own.lt
theorem infoN' : (Try.prog.info? 42).map (fun i => (i.zero, i.size, i.bytes)) = some (some (.agg #[.string ⟨#[]⟩, .int .i64 0, .slice none 0 0, .slice none 0 0, .int .i64 0]), 5, 80) := by kernel_rfl
theorem infoN : ∃ i, Try.prog.info? 42 = some i ∧ i.zero = some (.agg #[.string ⟨#[]⟩, .int .i64 0, .slice none 0 0, .slice none 0 0, .int .i64 0]) ∧ i.size = 5 ∧ i.bytes = 80 := by
  have h := infoN'
  cases e : Try.prog.info? 42 with
  | none => rw [e] at h; simp at h
  | some i => rw [e] at h; simp at h; exact ⟨i, rfl, h⟩
set_option maxHeartbeats 4000000 in
theorem copyNs_any {v : Value} {L : List Nod} {w : World} (h : NodesL w v L) (hlen : L.length ≤ 1000000) :
    Calls Try.prog 18 #[v] w fun e w' => ∃ v' xs, e = .returned v' ∧ RowN w' w.heap.size v' L xs ∧ Below w.heap.size w w' := by
  have HN : Hid (NodesL w v L) := h
  obtain ⟨va, vc, rfl, hc1, hc2⟩ := h.shape
  obtain ⟨iT, hi, hz0, hz1, hz2⟩ := infoN
  have HI : Hid (Try.prog.info? 42 = some iT) := hi
  have HZ0 : Hid (iT.zero = some (.agg #[.string ⟨#[]⟩, .int .i64 0, .slice none 0 0, .slice none 0 0, .int .i64 0])) := hz0
  have HZ1 : Hid (iT.size = 5) := hz1
  have HZ2 : Hid (iT.bytes = 80) := hz2
  unfold big at hc2
  clear hi hz0 hz1 hz2 h
  go_enter Try.func18, Try.ntmps18
  go_wp2
  go_loopw [3, 4] (fun v i w' => ∃ (k : Nat) (xs : List Value), k ≤ L.length ∧ i = .int .i64 k ∧ Hid (RowN w' w.heap.size v (L.take k) xs) ∧ Below w.heap.size w w') (fun _ i _ => L.length - (intOf i).toNat)
  case atStart => exact ⟨0, [], Nat.zero_le _, rfl, RowN.zero _ _, Below.refl _ _⟩
  case round =>
    obtain ⟨k, xs, hk, rfl, HO, hbel⟩ := hrel
    have HB : Hid (Below w.heap.size w wr) := hbel
    have hsz := hbel.size
    clear hbel
    by_cases hlt : k < L.length
    · have HSN : Hid (L.take (k + 1) = L.take k ++ [L[k]]) := take_snocT L k hlt
      obtain ⟨b, off, x, y, rfl, hnd⟩ := (HN.out.later HB.out).row k hlt
      obtain ⟨t, ht⟩ : ∃ t, L[k] = t := ⟨_, rfl⟩
      rw [ht] at hnd HSN
      obtain ⟨nm, kd, ar, ds, n⟩ := t
      obtain ⟨c0, c1, c2, c3, c4, ha, hd, hz⟩ := hnd
      simp only at c0 c1 c2 c3 c4 ha hd hz
      have HA : Hid (Ints wr x ar) := ha
      have HD : Hid (Ints wr y ds) := hd
      have HZ : Hid (nm.size ≤ 140737488355327) := hz
      obtain ⟨xa, xn, xc, rfl⟩ := ha.shape3
      obtain ⟨ya, yn, yc, rfl⟩ := hd.shape3
      have hll : (L.take k).length = k := by simp; omega
      clear ha hd hz ht
      go_wp2_with (first
        | (go_at_call 32; refine (copyN_any HA.out HD.out).mono ?_; rintro e w1 ⟨x0, x1, rfl, ho0, ho1, hb1⟩; obtain ⟨pa, pn, pc, rfl⟩ := ho0.ints.shape3; obtain ⟨qa, qn, qc, rfl⟩ := ho1.ints.shape3; have HO0 : Hid (Own w1 wr.heap.size (.slice pa pn pc) ar) := ho0; have HO1 : Hid (Own w1 wr.heap.size (.slice qa qn qc) ds) := ho1; have HB1 : Hid (Below wr.heap.size wr w1) := hb1; have hs1 := hb1.size; have HR1 : Hid (RowN w1 w.heap.size u3 (L.take k) xs) := HO.out.later hb1; clear ho0 ho1 hb1)
        | (at_builtin; refine wpList_append_lies _ rfl _ _ 28 rfl w.heap.size 42 iT (.agg #[.string ⟨#[]⟩, .int .i64 0, .slice none 0 0, .slice none 0 0, .int .i64 0]) 5 80 Try.underlying28 HI.out HZ0.out HZ1.out HZ2.out rfl (by decide) u3 k xs rfl ?c0 ⟨w1.heap.size, 0, none⟩ 1 1 [.string nm, .int .i64 kd, .slice pa pn pc, .slice qa qn qc, .int .i64 n] rfl rfl ?c1 ?c2 (by decide) ?c3 ?c4 ?c5 (w1.heap.size + 1) ?c6 ?_))
      case c0 => have := (HR1.out.later (Below.push (Below.refl _ _) (.cells #[.string nm, .int .i64 kd, .slice pa pn pc, .slice qa qn qc, .int .i64 n] 42))).own; rw [hll] at this; exact this
      case c1 => exact World.news_of_block (heap_alloc_new w1 (.cells #[.string nm, .int .i64 kd, .slice pa pn pc, .slice qa qn qc, .int .i64 n] 42))
      case c2 => intro u hu; simp only [List.mem_cons, List.not_mem_nil, or_false] at hu; rcases hu with rfl | rfl | rfl | rfl | rfl <;> rfl
      case c3 => unfold maxLen; omega
      case c4 => omega
      case c5 => simp; omega
      case c6 => simp
      intro g cap w2 ho hg hat hlt2
      have hr := RowN.app (E := [⟨nm, kd, ar, ds, n⟩]) (m := 1) (HR1.out.later (Below.push (Below.refl _ _) (.cells #[.string nm, .int .i64 kd, .slice pa pn pc, .slice qa qn qc, .int .i64 n] 42))) rfl (news := [.string nm, .int .i64 kd, .slice pa pn pc, .slice qa qn qc, .int .i64 n]) (fun i hi => by
        have h0 : i = 0 := by simp at hi; omega
        subst h0
        refine ⟨_, _, rfl, rfl, rfl, rfl, rfl, ?_, ?_, HZ.out⟩
        · exact Elt.later (Below.push (Below.refl _ _) _) (HO0.out.elt fun q hq => by have := (HO.out.lt q hq).2; exact this)
        · exact Elt.later (Below.push (Below.refl _ _) _) (HO1.out.elt fun q hq => by have := (HO.out.lt q hq).2; exact this)) (by rw [hll]; exact ho) hg (by
          rcases hat with h | h
          · exact Or.inl h.symm
          · exact Or.inr (by rw [h]; simp [Value.ownBlock]))
      have HO2 : Hid (RowN w2 w.heap.size (.slice (some ⟨g, 0, none⟩) (k + 1) cap) (L.take (k + 1)) (xs ++ [.string nm, .int .i64 kd, .slice pa pn pc, .slice qa qn qc, .int .i64 n])) := by show RowN _ _ _ _ _; rw [HSN.out]; exact hr
      have HB2 : Hid (Below w.heap.size w w2) := (Below.push (Below.after HB.out HB1.out) _).grown hg (by simp; omega) (fun q hq => (HO.out.lt q hq).1)
      clear ho hg hat hr
      go_wp2
      go_roundw
      case rel => exact ⟨k + 1, _, by omega, by go_num, HO2.out, HB2.out⟩
      case measure => simp [intOf]; omega
    · have hk' : k = L.length := by omega
      subst hk'
      go_wp2
      go_ret
      have h9 := HO.out
      rw [List.take_length] at h9
      exact ⟨_, _, rfl, h9, HB.out⟩
end Go.Proofs.Ytjfkhfahpjdidaa
