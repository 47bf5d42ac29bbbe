/- Carried: I1, I2, I3, U2, U3, V2, V5. -/
import Derived.Test.YtheddpjaihhbdaaC17
namespace Go.Proofs.Ytheddpjaihhbdaa
set_option linter.unusedVariables false
set_option linter.unusedSimpArgs false
set_option maxRecDepth 100000
open Go.RowKit

theorem rcells_to {v : Value} {d : List Int} {w : World} (x : Int) (h : Ints w v d) (hok : okd d = true) (hx : prd d = x) :
    Calls Try.prog 20 #[v] w fun e w' => e = .returned (.int .i64 x) ∧ w = w' := by
  subst hx
  exact rcells_ok h hok
theorem Own.getD {w : World} {v : Value} {d : List Int} {n : Nat} (h : Ints w v d) (hn : d.length = n) (h1 : 1 ≤ n) :
    ∃ b o c, v = .slice (some ⟨b, o, none⟩) n c ∧ n ≤ c ∧ ∀ k, k < n → w.cell? ⟨b, o + k, none⟩ = some (.int .i64 (d.getD k 0)) := by
  subst hn
  rcases h.cases with ⟨e, _⟩ | ⟨b, o, c, e, _, hc, _, HC⟩
  · rw [e] at h1; simp at h1
  · exact ⟨b, o, c, e, hc, fun k hk => Ints.cellD (n := 0) (c := 0) HC k hk⟩
/-- Dims that may be: the last one in memory. -/
theorem last_ofD {w : World} {a0 : Value} {d : List Int} (ha : Ints w a0 d) (ho : okd d = true) :
    ∃ b off c E L : Nat, a0 = .slice (some ⟨b, off, none⟩) (E + 1) c ∧ d.length = E + 1 ∧ lastD d = (L : Int) ∧ 1 ≤ L ∧ L ≤ 8 ∧ E + 1 ≤ c ∧ E ≤ 2 ∧ b < w.heap.size ∧ w.cell? ⟨b, off + E, none⟩ = some (.int .i64 L) := by
  obtain ⟨h1, h3, _, _⟩ := okd_parts ho
  obtain ⟨l1, l8⟩ := lastD_bd ho
  have hold := ha.old h1
  rcases ha.cases with ⟨e, _⟩ | ⟨b, off, c, rfl, h0, hc, hb, HC⟩
  · rw [e] at h1; simp at h1
  obtain ⟨E, hE⟩ : ∃ E, d.length = E + 1 := ⟨d.length - 1, by omega⟩
  refine ⟨b, off, c, E, (lastD d).toNat, by rw [hE], hE, by omega, by omega, by omega, by omega, by omega, hold b rfl, ?_⟩
  have := Ints.cellD (n := 0) (c := 0) HC E (by omega)
  rw [this]
  congr 2
  have : lastD d = d.getD E 0 := by rw [lastD, hE]; rfl
  omega
theorem cells2 {w : World} {a0 : Value} {x y : Int} (ha : Ints w a0 [x, y]) : ∃ b off c : Nat, a0 = .slice (some ⟨b, off, none⟩) 2 c ∧ 2 ≤ c ∧ w.cell? ⟨b, off, none⟩ = some (.int .i64 x) ∧ w.cell? ⟨b, off + 1, none⟩ = some (.int .i64 y) := by
  obtain ⟨b, o, c, e, hc, h⟩ := Own.getD (n := 2) ha rfl (by decide)
  exact ⟨b, o, c, e, hc, h 0 (by decide), h 1 (by decide)⟩
structure EnvG (B : Nat) (f0 : Value) (T : List Ten) (w : World) : Prop where
  b0 : w.cell? ⟨B, 0, none⟩ = some f0
  hT : TensL w f0 T
theorem EnvG.later {B : Nat} {f0 : Value} {T : List Ten} {w w' : World} (hb : Below w.heap.size w w') (h : EnvG B f0 T w) : EnvG B f0 T w' := ⟨cell_later hb h.b0, h.hT.later hb⟩
/-- A list whose numbers do not lie in block r. -/
def Elt (w : World) (r : Option Nat) (x : Value) (d : List Int) : Prop := Ints w x d ∧ (0 < d.length → x.ownBlock ≠ r)
theorem Elt.later {w w' : World} {r : Option Nat} {x : Value} {d : List Int} (hb : Below w.heap.size w w') (h : Elt w r x d) : Elt w' r x d := ⟨h.1.later hb, h.2⟩
theorem Elt.grown {w w' : World} {r r' : Option Nat} {x : Value} {d : List Int} (h : Elt w r x d) (hg : w.grownBy w' r) (hr : r' = r ∨ r' = some w.heap.size) : Elt w' r' x d := by
  obtain ⟨h0, hne⟩ := h
  rcases h0 with ⟨rfl, rfl⟩ | ⟨a, c, rfl, h1, h2, h3⟩
  · exact ⟨Ints.nil _, fun h => by simp at h⟩
  · refine ⟨Or.inr ⟨a, c, rfl, h1, h2, fun i hi => ?_⟩, fun h => ?_⟩
    · obtain ⟨b, off, rfl, hc⟩ := h3 i hi
      exact ⟨b, off, rfl, hg.cell hc (hne (by omega))⟩
    · rcases hr with rfl | rfl
      · exact hne h
      · obtain ⟨b, off, rfl, hc⟩ := h3 0 h
        have := World.block_lt_of_cell? _ _ hc
        simp only [Value.ownBlock, ne_eq, Option.some.injEq]
        simp only at this
        omega
/-- A list of tensors in a row of its own. -/
structure RowT (w : World) (B : Nat) (v : Value) (L : List Ten) (xs : List Value) : Prop where
  own : w.ownsRow B 31 2 v L.length xs
  elt : ∀ i (h : i < L.length), ∃ x y, xs[i * 2]? = some x ∧ xs[i * 2 + 1]? = some y ∧ Elt w v.ownBlock x L[i].1 ∧ Elt w v.ownBlock y L[i].2
theorem RowT.later {w w' : World} {B : Nat} {v : Value} {L : List Ten} {xs : List Value} (hb : Below w.heap.size w w') (h : RowT w B v L xs) : RowT w' B v L xs := by
  refine ⟨⟨h.own.1, ?_⟩, fun i hi => ?_⟩
  · rcases h.own.2 with h0 | ⟨g, cap, cur, rfl, h1, hh, h2⟩
    · exact Or.inl h0
    · exact Or.inr ⟨g, cap, cur, rfl, h1, (hb.block g (Array.getElem?_eq_some_iff.1 hh).1).trans hh, h2⟩
  · obtain ⟨x, y, hx, hy, he, hf⟩ := h.elt i hi
    exact ⟨x, y, hx, hy, he.later hb, hf.later hb⟩
theorem RowT.app {w w' : World} {B m : Nat} {v v' : Value} {L E : List Ten} {xs news : List Value} (h : RowT w B v L xs) (hm : m = E.length) (he : ∀ i (h : i < E.length), ∃ x y, news[i * 2]? = some x ∧ news[i * 2 + 1]? = some y ∧ Elt w v.ownBlock x E[i].1 ∧ Elt w v.ownBlock y E[i].2)
    (hown : w'.ownsRow B 31 2 v' (L.length + m) (xs ++ news)) (hg : w.grownBy w' v.ownBlock) (hat : v'.ownBlock = v.ownBlock ∨ v'.ownBlock = some w.heap.size) : RowT w' B v' (L ++ E) (xs ++ news) := by
  subst hm
  have hl := h.own.1
  refine ⟨by rw [List.length_append]; exact hown, fun i hi => ?_⟩
  by_cases hlt : i < L.length
  · obtain ⟨x, y, hx, hy, hx2, hy2⟩ := h.elt i hlt
    refine ⟨x, y, by rw [List.getElem?_append_left (by omega)]; exact hx, by rw [List.getElem?_append_left (by omega)]; exact hy, ?_, ?_⟩
    · rw [List.getElem_append_left hlt]
      exact hx2.grown hg hat
    · rw [List.getElem_append_left hlt]
      exact hy2.grown hg hat
  · rw [List.length_append] at hi
    obtain ⟨x, y, hx, hy, hx2, hy2⟩ := he (i - L.length) (by omega)
    refine ⟨x, y, by rw [List.getElem?_append_right (by omega), hl, ← Nat.sub_mul]; exact hx, ?_, ?_, ?_⟩
    · rw [List.getElem?_append_right (by omega), hl, show i * 2 + 1 - L.length * 2 = (i - L.length) * 2 + 1 from by omega]
      exact hy
    · rw [List.getElem_append_right (by omega)]
      exact hx2.grown hg hat
    · rw [List.getElem_append_right (by omega)]
      exact hy2.grown hg hat
theorem addr_add (b off j : Nat) : (⟨b, off, none⟩ : Addr).add j = ⟨b, off + j, none⟩ := by
  by_cases h0 : j = 0
  · subst h0; simp [Addr.add]
  · simp [Addr.add, h0]
theorem RowT.tensL {w : World} {B : Nat} {v : Value} {L : List Ten} {xs : List Value} (h : RowT w B v L xs) (hb : L.length ≤ big) : TensL w v L := by
  have hc := h.own
  rcases h.own.2 with ⟨rfl, h0⟩ | ⟨g, cap, cur, rfl, h1, hh, h2, h3, h4, h5⟩
  · refine ⟨hb, none, 0, by rw [h0], by omega, fun i hi => by omega⟩
  · refine ⟨hb, some ⟨g, 0, none⟩, cap, rfl, h2, fun i hi => ?_⟩
    obtain ⟨x, y, hx, hy, he, hf⟩ := h.elt i hi
    have k1 := hc.cells (g := g) rfl _ _ hx
    have k2 := hc.cells (g := g) rfl _ _ hy
    rw [addr_add] at k1 k2
    exact ⟨g, 0, x, y, rfl, k1, by rw [Nat.add_assoc]; exact k2, he.1, hf.1⟩
theorem RowT.lt {w : World} {B : Nat} {v : Value} {L : List Ten} {xs : List Value} (h : RowT w B v L xs) : ∀ k, v.ownBlock = some k → B ≤ k ∧ k < w.heap.size := h.own.lt
/-- What lies in a list of tensors, cell by cell. -/
theorem TensL.vals {w : World} {b off : Nat} {T : List Ten} {n c : Nat} (h : TensL w (.slice (some ⟨b, off, none⟩) n c) T) :
    n = T.length ∧ ∃ news : List Value, news.length = T.length * 2 ∧ (∀ j u, news[j]? = some u → w.cell? ((⟨b, off, none⟩ : Addr).add j) = some u) ∧ (∀ i (h : i < T.length), ∃ x y, news[i * 2]? = some x ∧ news[i * 2 + 1]? = some y ∧ Tens w x y T[i]) ∧ ∀ u ∈ news, u.oneCell' = true := by
  obtain ⟨_, a, c', e, _, hrow⟩ := h
  simp only [Value.slice.injEq] at e
  obtain ⟨rfl, rfl, rfl⟩ := e
  refine ⟨rfl, ?_⟩
  have key : ∀ j : Nat, ∃ u, j < T.length * 2 → w.cell? ⟨b, off + j, none⟩ = some u ∧ ∃ a n c, u = .slice a n c := by
    intro j
    by_cases hj : j < T.length * 2
    · obtain ⟨b', off', x, y, ea, hc1, hc2, hx, hy⟩ := hrow (j / 2) (by omega)
      simp only [Option.some.injEq, Addr.mk.injEq, and_true] at ea
      obtain ⟨rfl, rfl⟩ := ea
      have h2 : j % 2 = 0 ∨ j % 2 = 1 := by omega
      rcases h2 with h2 | h2
      · refine ⟨x, fun _ => ⟨?_, hx.shape3⟩⟩
        rw [show j = j / 2 * 2 from by omega]
        exact hc1
      · refine ⟨y, fun _ => ⟨?_, hy.shape3⟩⟩
        rw [show j = j / 2 * 2 + 1 from by omega, ← Nat.add_assoc]
        exact hc2
    · exact ⟨undef, fun h => absurd h hj⟩
  refine ⟨(List.range (T.length * 2)).map fun j => Classical.choose (key j), by simp, ?_, ?_, ?_⟩
  · intro j u hj
    simp only [List.getElem?_map, Option.map_eq_some_iff] at hj
    obtain ⟨k, hk, rfl⟩ := hj
    obtain ⟨hlt, rfl⟩ := List.getElem?_eq_some_iff.1 hk
    simp only [List.getElem_range]
    rw [addr_add]
    exact (Classical.choose_spec (key j) (by simpa using hlt)).1
  · intro i hi
    obtain ⟨b', off', x, y, ea, hc1, hc2, hx, hy⟩ := hrow i hi
    simp only [Option.some.injEq, Addr.mk.injEq, and_true] at ea
    obtain ⟨rfl, rfl⟩ := ea
    have k1 := (Classical.choose_spec (key (i * 2)) (by omega)).1
    have k2 := (Classical.choose_spec (key (i * 2 + 1)) (by omega)).1
    have e1 := hc1.symm.trans k1
    have e2 := ((show w.cell? ⟨b, off + (i * 2 + 1), none⟩ = some y from hc2).symm).trans k2
    refine ⟨x, y, ?_, ?_, hx, hy⟩
    · rw [List.getElem?_map, List.getElem?_range (by omega)]
      exact e1.symm
    · rw [List.getElem?_map, List.getElem?_range (by omega)]
      exact e2.symm
  · intro u hu
    simp only [List.mem_map, List.mem_range] at hu
    obtain ⟨j, hj, rfl⟩ := hu
    obtain ⟨a, n, c, e⟩ := (Classical.choose_spec (key j) hj).2
    rw [e]; rfl
theorem lsF_ge : ∀ (l : List Nat) (x : Int), x ≤ lsF x l
  | [], x => Int.le_refl _
  | a :: r, x => by
    rw [lsF]
    split
    · have := lsF_ge r (x + a)
      omega
    · exact Int.le_refl _
theorem lsF_le (K : Nat) : ∀ (l : List Nat) (x : Int), (∀ a ∈ l, a ≤ K) → x ≤ 1048576 + K → lsF x l ≤ 1048576 + K
  | [], x, _, h => h
  | a :: r, x, hl, h => by
    rw [lsF]
    split
    · have := hl a (by simp)
      exact lsF_le K r (x + a) (fun y hy => hl y (by simp [hy])) (by omega)
    · exact h
theorem TensL.tw_le {w : World} {v : Value} {T : List Ten} (h : TensL w v T) : ∀ a ∈ T.map tw, a ≤ 40000000000000 := by
  obtain ⟨_, a, c', e, _, hrow⟩ := h
  intro n hn
  simp only [List.mem_map] at hn
  obtain ⟨t, ht, rfl⟩ := hn
  obtain ⟨i, hi, rfl⟩ := List.getElem_of_mem ht
  obtain ⟨b', off', x, y, ea, hc1, hc2, hx, hy⟩ := hrow i hi
  have h1 := hx.len
  have h2 := hy.len
  unfold big at h1 h2
  unfold tw
  omega
theorem tensw_to {v : Value} {L : List Ten} {w : World} (x : Int) (hx : lsF L.length (L.map tw) = x) (h : TensL w v L) :
    Calls Try.prog 21 #[v] w fun e w' => e = .returned (.int .i64 x) ∧ ∃ n, w' = w.drewN n := by
  subst hx
  exact tensw_any h
set_option maxHeartbeats 400000 in
theorem heavy2_bd {f0 f1 : Value} {T : List Ten} {L : List Int} {w : World} (h0 : TensL w f0 T) (h1 : Ints w f1 L) :
    Calls Try.prog 14 #[.agg #[f0, f1]] w fun e w' => ∃ b, e = .returned (.bool b) ∧ (b = false → T.length ≤ 500) ∧ Below w.heap.size w w' := by
  have hb : Below w.heap.size w (w.alloc (.cells #[f0, f1] 25)) := (Below.refl _ _).alloc (Nat.le_refl _) _
  have H0 : Hid (TensL (w.alloc (.cells #[f0, f1] 25)) f0 T) := h0.later hb
  have hge := lsF_ge (T.map tw) T.length
  have hle := lsF_le 40000000000000 (T.map tw) T.length h0.tw_le (by have := h0.1; unfold big at this; omega)
  obtain ⟨na, nc, rfl⟩ := h1.shape
  obtain ⟨_, a0, c0, rfl, _⟩ := h0
  have hn := h1.len
  unfold big at hn
  clear h1
  have HB : Hid (Below w.heap.size w (w.alloc (.cells #[.slice a0 T.length c0, .slice na L.length nc] 25))) := hb
  obtain ⟨x, hx⟩ : ∃ x, lsF (T.length : Int) (T.map tw) = x := ⟨_, rfl⟩
  rw [hx] at hge hle
  have HX : Hid (lsF (T.length : Int) (T.map tw) = x) := hx
  obtain ⟨y, hy⟩ : ∃ y, x + (L.length : Int) = y := ⟨_, rfl⟩
  have hwy : IntKind.i64.wrap (x + (L.length : Int)) = y := by rw [wrap_small _ (by omega) (by omega)]; exact hy
  clear hb hx
  by_cases hgt : 500 < y
  · have g1 : decide (y > 500) = true := by simp; omega
    have hgt2 : y > 500 := hgt
    go_enter Try.func14, Try.ntmps14
    go_wp2
    go_quiet (first | (go_at_call 21; exact Calls.quiet_of (tensw_to x HX.out (H0.out.later (drew_below _)))))
    go_wp2
    go_ret
    exact ⟨_, rfl, (fun h => by simp at h <;> omega), Below.drewN HB.out _⟩
  · have g1 : decide (y > 500) = false := by simp; omega
    have hgt2 : ¬ y > 500 := hgt
    have HT : Hid (T.length ≤ 500) := by show _ ≤ _; omega
    go_enter Try.func14, Try.ntmps14
    go_wp2
    go_quiet (first | (go_at_call 21; exact Calls.quiet_of (tensw_to x HX.out (H0.out.later (drew_below _)))))
    go_wp2
    go_ret
    exact ⟨_, rfl, (fun _ => HT.out), Below.drewN HB.out _⟩
end Go.Proofs.Ytheddpjaihhbdaa
