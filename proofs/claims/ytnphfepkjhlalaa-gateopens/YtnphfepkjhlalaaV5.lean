/- Lists of tensors in a row of their own; Heavy's bound. -/
import Derived.Test.YtnphfepkjhlalaaU0
import Derived.Deep.AppendLies
import Derived.Deep.RegionHeldLaw
namespace Go.Proofs.Ytnphfepkjhlalaa
set_option linter.unusedVariables false
set_option linter.unusedSimpArgs false
open Go.RowKit

theorem info28' : (Try.prog.info? 28).map (fun i => (i.zero, i.size, i.bytes)) = some (some (.agg #[.slice none 0 0, .slice none 0 0]), 2, 48) := by kernel_rfl
theorem info28 : ∃ i, Try.prog.info? 28 = some i ∧ i.zero = some (.agg #[.slice none 0 0, .slice none 0 0]) ∧ i.size = 2 ∧ i.bytes = 48 := by
  have h := info28'
  cases e : Try.prog.info? 28 with
  | none => rw [e] at h; cases h
  | some i =>
    rw [e] at h
    simp only [Option.map_some, Option.some.injEq, Prod.mk.injEq] at h
    exact ⟨i, rfl, h.1, h.2.1, h.2.2⟩

/-- A list whose numbers do not lie in block r. -/
def Elt (w : World) (r : Option Nat) (x : Value) (d : List Int) : Prop := Ints w x d ∧ (0 < d.length → x.ownBlock ≠ r)
theorem Elt.later {w w' : World} {r : Option Nat} {x : Value} {d : List Int} (hb : Below w.heap.size w w') (h : Elt w r x d) : Elt w' r x d := ⟨h.1.later hb, h.2⟩
theorem Elt.grown {w w' : World} {r r' : Option Nat} {x : Value} {d : List Int} (h : Elt w r x d) (hg : w.grownBy w' r) (hr : r' = r ∨ r' = some w.heap.size) : Elt w' r' x d := by
  obtain ⟨h0, hne⟩ := h
  rcases h0 with ⟨rfl, rfl⟩ | ⟨a, c, rfl, h1, h2, h3⟩
  · exact ⟨Ints.nil _, fun h => by simp at h⟩
  · refine ⟨Or.inr ⟨a, c, rfl, h1, h2, fun i hi => ?_⟩, fun h => ?_⟩
    · obtain ⟨b, off, rfl, hc⟩ := h3 i hi
      exact ⟨b, off, rfl, hg.cell hc (hne (by omega))⟩
    · rcases hr with rfl | rfl
      · exact hne h
      · obtain ⟨b, off, rfl, hc⟩ := h3 0 h
        have := World.block_lt_of_cell? _ _ hc
        simp only [Value.ownBlock, ne_eq, Option.some.injEq]
        simp only at this
        omega
theorem Elt.old {w w' : World} {x : Value} {d : List Int} {r : Option Nat} (h : Ints w x d) (hb : Below w.heap.size w w') (hr : ∀ k, r = some k → w.heap.size ≤ k) : Elt w' r x d := by
  refine ⟨h.later hb, fun h0 e => ?_⟩
  rcases h.cases with ⟨q, _⟩ | ⟨b, off, c, rfl, _, _, _, HC⟩
  · rw [q] at h0; simp at h0
  · have h1 := World.block_lt_of_cell? _ _ (HC.out 0 h0)
    have h2 := hr b e.symm
    simp only at h1
    omega
/-- A list of tensors in a row of its own. -/
structure RowT (w : World) (B : Nat) (v : Value) (L : List Ten) (xs : List Value) : Prop where
  own : w.ownsRow B 28 2 v L.length xs
  elt : ∀ i (h : i < L.length), ∃ x y, xs[i * 2]? = some x ∧ xs[i * 2 + 1]? = some y ∧ Elt w v.ownBlock x L[i].1 ∧ Elt w v.ownBlock y L[i].2
theorem RowT.later {w w' : World} {B : Nat} {v : Value} {L : List Ten} {xs : List Value} (hb : Below w.heap.size w w') (h : RowT w B v L xs) : RowT w' B v L xs := by
  refine ⟨⟨h.own.1, ?_⟩, fun i hi => ?_⟩
  · rcases h.own.2 with h0 | ⟨g, cap, cur, rfl, h1, hh, h2⟩
    · exact Or.inl h0
    · exact Or.inr ⟨g, cap, cur, rfl, h1, (hb.block g (Array.getElem?_eq_some_iff.1 hh).1).trans hh, h2⟩
  · obtain ⟨x, y, hx, hy, he, hf⟩ := h.elt i hi
    exact ⟨x, y, hx, hy, he.later hb, hf.later hb⟩
theorem RowT.app {w w' : World} {B m : Nat} {v v' : Value} {L E : List Ten} {xs news : List Value} (h : RowT w B v L xs) (hm : m = E.length) (he : ∀ i (h : i < E.length), ∃ x y, news[i * 2]? = some x ∧ news[i * 2 + 1]? = some y ∧ Elt w v.ownBlock x E[i].1 ∧ Elt w v.ownBlock y E[i].2)
    (hown : w'.ownsRow B 28 2 v' (L.length + m) (xs ++ news)) (hg : w.grownBy w' v.ownBlock) (hat : v'.ownBlock = v.ownBlock ∨ v'.ownBlock = some w.heap.size) : RowT w' B v' (L ++ E) (xs ++ news) := by
  subst hm
  have hl := h.own.1
  refine ⟨by rw [List.length_append]; exact hown, fun i hi => ?_⟩
  by_cases hlt : i < L.length
  · obtain ⟨x, y, hx, hy, hx2, hy2⟩ := h.elt i hlt
    refine ⟨x, y, by rw [List.getElem?_append_left (by omega)]; exact hx, by rw [List.getElem?_append_left (by omega)]; exact hy, ?_, ?_⟩
    · rw [List.getElem_append_left hlt]
      exact hx2.grown hg hat
    · rw [List.getElem_append_left hlt]
      exact hy2.grown hg hat
  · rw [List.length_append] at hi
    obtain ⟨x, y, hx, hy, hx2, hy2⟩ := he (i - L.length) (by omega)
    refine ⟨x, y, by rw [List.getElem?_append_right (by omega), hl, ← Nat.sub_mul]; exact hx, ?_, ?_, ?_⟩
    · rw [List.getElem?_append_right (by omega), hl, show i * 2 + 1 - L.length * 2 = (i - L.length) * 2 + 1 from by omega]
      exact hy
    · rw [List.getElem_append_right (by omega)]
      exact hx2.grown hg hat
    · rw [List.getElem_append_right (by omega)]
      exact hy2.grown hg hat
theorem addr_add (b off j : Nat) : (⟨b, off, none⟩ : Addr).add j = ⟨b, off + j, none⟩ := by
  by_cases h0 : j = 0
  · subst h0; simp [Addr.add]
  · simp [Addr.add, h0]
theorem RowT.tensL {w : World} {B : Nat} {v : Value} {L : List Ten} {xs : List Value} (h : RowT w B v L xs) (hb : L.length ≤ big) : TensL w v L := by
  have hc := h.own
  rcases h.own.2 with ⟨rfl, h0⟩ | ⟨g, cap, cur, rfl, h1, hh, h2, h3, h4, h5⟩
  · refine ⟨hb, none, 0, by rw [h0], by omega, fun i hi => by omega⟩
  · refine ⟨hb, some ⟨g, 0, none⟩, cap, rfl, h2, fun i hi => ?_⟩
    obtain ⟨x, y, hx, hy, he, hf⟩ := h.elt i hi
    have k1 := hc.cells (g := g) rfl _ _ hx
    have k2 := hc.cells (g := g) rfl _ _ hy
    rw [addr_add] at k1 k2
    exact ⟨g, 0, x, y, rfl, k1, by rw [Nat.add_assoc]; exact k2, he.1, hf.1⟩
theorem RowT.lt {w : World} {B : Nat} {v : Value} {L : List Ten} {xs : List Value} (h : RowT w B v L xs) : ∀ k, v.ownBlock = some k → B ≤ k ∧ k < w.heap.size := h.own.lt
/-- What lies in a list of tensors, cell by cell. -/
theorem TensL.vals {w : World} {b off : Nat} {T : List Ten} {n c : Nat} (h : TensL w (.slice (some ⟨b, off, none⟩) n c) T) :
    n = T.length ∧ ∃ news : List Value, news.length = T.length * 2 ∧ (∀ j u, news[j]? = some u → w.cell? ((⟨b, off, none⟩ : Addr).add j) = some u) ∧ (∀ i (h : i < T.length), ∃ x y, news[i * 2]? = some x ∧ news[i * 2 + 1]? = some y ∧ Tens w x y T[i]) ∧ ∀ u ∈ news, u.oneCell' = true := by
  obtain ⟨_, a, c', e, _, hrow⟩ := h
  simp only [Value.slice.injEq] at e
  obtain ⟨rfl, rfl, rfl⟩ := e
  refine ⟨rfl, ?_⟩
  have key : ∀ j : Nat, ∃ u, j < T.length * 2 → w.cell? ⟨b, off + j, none⟩ = some u ∧ ∃ a n c, u = .slice a n c := by
    intro j
    by_cases hj : j < T.length * 2
    · obtain ⟨b', off', x, y, ea, hc1, hc2, hx, hy⟩ := hrow (j / 2) (by omega)
      simp only [Option.some.injEq, Addr.mk.injEq, and_true] at ea
      obtain ⟨rfl, rfl⟩ := ea
      have h2 : j % 2 = 0 ∨ j % 2 = 1 := by omega
      rcases h2 with h2 | h2
      · refine ⟨x, fun _ => ⟨?_, hx.shape3⟩⟩
        rw [show j = j / 2 * 2 from by omega]
        exact hc1
      · refine ⟨y, fun _ => ⟨?_, hy.shape3⟩⟩
        rw [show j = j / 2 * 2 + 1 from by omega, ← Nat.add_assoc]
        exact hc2
    · exact ⟨undef, fun h => absurd h hj⟩
  refine ⟨(List.range (T.length * 2)).map fun j => Classical.choose (key j), by simp, ?_, ?_, ?_⟩
  · intro j u hj
    simp only [List.getElem?_map, Option.map_eq_some_iff] at hj
    obtain ⟨k, hk, rfl⟩ := hj
    obtain ⟨hlt, rfl⟩ := List.getElem?_eq_some_iff.1 hk
    simp only [List.getElem_range]
    rw [addr_add]
    exact (Classical.choose_spec (key j) (by simpa using hlt)).1
  · intro i hi
    obtain ⟨b', off', x, y, ea, hc1, hc2, hx, hy⟩ := hrow i hi
    simp only [Option.some.injEq, Addr.mk.injEq, and_true] at ea
    obtain ⟨rfl, rfl⟩ := ea
    have k1 := (Classical.choose_spec (key (i * 2)) (by omega)).1
    have k2 := (Classical.choose_spec (key (i * 2 + 1)) (by omega)).1
    have e1 := hc1.symm.trans k1
    have e2 := ((show w.cell? ⟨b, off + (i * 2 + 1), none⟩ = some y from hc2).symm).trans k2
    refine ⟨x, y, ?_, ?_, hx, hy⟩
    · rw [List.getElem?_map, List.getElem?_range (by omega)]
      exact e1.symm
    · rw [List.getElem?_map, List.getElem?_range (by omega)]
      exact e2.symm
  · intro u hu
    simp only [List.mem_map, List.mem_range] at hu
    obtain ⟨j, hj, rfl⟩ := hu
    obtain ⟨a, n, c, e⟩ := (Classical.choose_spec (key j) hj).2
    rw [e]; rfl

theorem lsF_ge : ∀ (l : List Nat) (x : Int), x ≤ lsF x l
  | [], x => Int.le_refl _
  | a :: r, x => by
    rw [lsF]
    split
    · have := lsF_ge r (x + a)
      omega
    · exact Int.le_refl _
theorem lsF_le (K : Nat) : ∀ (l : List Nat) (x : Int), (∀ a ∈ l, a ≤ K) → x ≤ 1048576 + K → lsF x l ≤ 1048576 + K
  | [], x, _, h => h
  | a :: r, x, hl, h => by
    rw [lsF]
    split
    · have := hl a (by simp)
      exact lsF_le K r (x + a) (fun y hy => hl y (by simp [hy])) (by omega)
    · exact h
theorem TensL.tw_le {w : World} {v : Value} {T : List Ten} (h : TensL w v T) : ∀ a ∈ T.map tw, a ≤ 40000000000000 := by
  obtain ⟨_, a, c', e, _, hrow⟩ := h
  intro n hn
  simp only [List.mem_map] at hn
  obtain ⟨t, ht, rfl⟩ := hn
  obtain ⟨i, hi, rfl⟩ := List.getElem_of_mem ht
  obtain ⟨b', off', x, y, ea, hc1, hc2, hx, hy⟩ := hrow i hi
  have h1 := hx.len
  have h2 := hy.len
  unfold big at h1 h2
  unfold tw
  omega
theorem tensw_to {v : Value} {L : List Ten} {w : World} (x : Int) (hx : lsF L.length (L.map tw) = x) (h : TensL w v L) :
    Calls Try.prog 25 #[v] w fun e w' => e = .returned (.int .i64 x) ∧ ∃ n, w' = w.drewN n := by
  subst hx
  exact tensw_any h
set_option maxHeartbeats 400000 in
theorem heavy2_bd {f0 f1 : Value} {T : List Ten} {L : List Int} {w : World} (h0 : TensL w f0 T) (h1 : Ints w f1 L) :
    Calls Try.prog 6 #[.agg #[f0, f1]] w fun e w' => ∃ b, e = .returned (.bool b) ∧ (b = false → T.length ≤ 500) ∧ Below w.heap.size w w' := by
  have hb : Below w.heap.size w (w.alloc (.cells #[f0, f1] 25)) := (Below.refl _ _).alloc (Nat.le_refl _) _
  have H0 : Hid (TensL (w.alloc (.cells #[f0, f1] 25)) f0 T) := h0.later hb
  have hge := lsF_ge (T.map tw) T.length
  have hle := lsF_le 40000000000000 (T.map tw) T.length h0.tw_le (by have := h0.1; unfold big at this; omega)
  obtain ⟨na, nc, rfl⟩ := h1.shape
  obtain ⟨_, a0, c0, rfl, _⟩ := h0
  have hn := h1.len
  unfold big at hn
  clear h1
  have HB : Hid (Below w.heap.size w (w.alloc (.cells #[.slice a0 T.length c0, .slice na L.length nc] 25))) := hb
  obtain ⟨x, hx⟩ : ∃ x, lsF (T.length : Int) (T.map tw) = x := ⟨_, rfl⟩
  rw [hx] at hge hle
  have HX : Hid (lsF (T.length : Int) (T.map tw) = x) := hx
  obtain ⟨y, hy⟩ : ∃ y, x + (L.length : Int) = y := ⟨_, rfl⟩
  have hwy : IntKind.i64.wrap (x + (L.length : Int)) = y := by rw [wrap_small _ (by omega) (by omega)]; exact hy
  clear hb hx
  by_cases hgt : 500 < y
  · have g1 : decide (y > 500) = true := by simp; omega
    have hgt2 : y > 500 := hgt
    go_enter Try.func6, Try.ntmps6
    go_wp2
    go_quiet (first | (go_at_call 25; exact Calls.quiet_of (tensw_to x HX.out (H0.out.later (drew_below _)))))
    go_wp2
    go_ret
    exact ⟨_, rfl, (fun h => by simp at h <;> omega), Below.drewN HB.out _⟩
  · have g1 : decide (y > 500) = false := by simp; omega
    have hgt2 : ¬ y > 500 := hgt
    have HT : Hid (T.length ≤ 500) := by show _ ≤ _; omega
    go_enter Try.func6, Try.ntmps6
    go_wp2
    go_quiet (first | (go_at_call 25; exact Calls.quiet_of (tensw_to x HX.out (H0.out.later (drew_below _)))))
    go_wp2
    go_ret
    exact ⟨_, rfl, (fun _ => HT.out), Below.drewN HB.out _⟩
end Go.Proofs.Ytnphfepkjhlalaa
