/- append of handed-in lists to lists of one's own, nil or not. -/
import Derived.Test.YtjfkhfahpjdidaaS3
namespace Go.Proofs.Ytjfkhfahpjdidaa
set_option linter.unusedVariables false
set_option linter.unusedSimpArgs false
set_option maxRecDepth 100000
open Go.RowKit

theorem IntsL.vals {w : World} {ad : Addr} {D : List (List Int)} {n c : Nat} (h : IntsL w (.slice (some ad) n c) D) :
    n = D.length ∧ ∃ news : List Value, news.length = D.length ∧ (∀ j u, news[j]? = some u → w.cell? (ad.add j) = some u) ∧ (∀ i (h : i < D.length), ∃ y, news[i]? = some y ∧ Ints w y D[i]) ∧ ∀ u ∈ news, u.oneCell' = true := by
  obtain ⟨_, a, c', e, _, hrow⟩ := h
  simp only [Value.slice.injEq] at e
  obtain ⟨rfl, rfl, rfl⟩ := e
  refine ⟨rfl, ?_⟩
  have key : ∀ i : Nat, ∃ x, ∀ h : i < D.length, w.cell? (ad.add i) = some x ∧ Ints w x D[i] := by
    intro i
    by_cases hi : i < D.length
    · obtain ⟨b, off, x, ea, hc, hx⟩ := hrow i hi
      simp only [Option.some.injEq] at ea
      subst ea
      refine ⟨x, fun _ => ⟨?_, hx⟩⟩
      by_cases h0 : i = 0
      · subst h0; simpa [Addr.add] using hc
      · simpa [Addr.add, h0] using hc
    · exact ⟨undef, fun h => absurd h hi⟩
  refine ⟨(List.range D.length).map fun i => Classical.choose (key i), by simp, ?_, ?_, ?_⟩
  · intro j u hj
    simp only [List.getElem?_map, Option.map_eq_some_iff] at hj
    obtain ⟨k, hk, rfl⟩ := hj
    obtain ⟨hlt, rfl⟩ := List.getElem?_eq_some_iff.1 hk
    simp only [List.getElem_range]
    have hj : j < D.length := by simpa using hlt
    exact (Classical.choose_spec (key j) hj).1
  · intro i hi
    exact ⟨Classical.choose (key i), by simp [hi], (Classical.choose_spec (key i) hi).2⟩
  · intro u hu
    simp only [List.mem_map, List.mem_range] at hu
    obtain ⟨i, hi, rfl⟩ := hu
    obtain ⟨a, c, e⟩ := (Classical.choose_spec (key i) hi).2.shape
    rw [e]; rfl
theorem Row.appK {w w' : World} {B m : Nat} {v v' : Value} {L E : List (List Int)} {xs news : List Value} (h : Row w B v L xs) (hm : m = E.length) (he : ∀ i (h : i < E.length), ∃ y, news[i]? = some y ∧ Elt w v.ownBlock y E[i])
    (hown : w'.ownsRow B 23 1 v' (L.length + m) (xs ++ news)) (hg : w.grownBy w' v.ownBlock) (H : Nat) (hH : w.heap.size = H) (hat : v'.ownBlock = v.ownBlock ∨ v'.ownBlock = some H) : Row w' B v' (L ++ E) (xs ++ news) := by
  subst hH
  exact h.app hm he hown hg hat

theorem lit22_row (U : World) :
    Row ((U.alloc (.cells #[.int .i64 2, .int .i64 2] 3)).alloc (.cells #[.slice none 0 0, .slice (some ⟨U.heap.size, 0, none⟩) 2 2] 23)) U.heap.size
      (.slice (some ⟨U.heap.size + 1, 0, none⟩) 2 2) [[], [2, 2]] [.slice none 0 0, .slice (some ⟨U.heap.size, 0, none⟩) 2 2] := by
  refine ⟨?_, ?_⟩
  · have := World.ownsRow_lit (base := U.heap.size) (e := 23) (size := 1) (U.alloc (.cells #[.int .i64 2, .int .i64 2] 3)) #[.slice none 0 0, .slice (some ⟨U.heap.size, 0, none⟩) 2 2] 2 (by simp) (by decide) rfl
    simpa using this
  · intro i hi
    have k1 : Ints ((U.alloc (.cells #[.int .i64 2, .int .i64 2] 3)).alloc (.cells #[.slice none 0 0, .slice (some ⟨U.heap.size, 0, none⟩) 2 2] 23)) (.slice (some ⟨U.heap.size, 0, none⟩) 2 2) [2, 2] :=
      ((Blk.new U [2, 2]).alloc _).ints 2 2 rfl (Nat.le_refl _) (by decide)
    have h3 : i = 0 ∨ i = 1 := by simp at hi; omega
    rcases h3 with rfl | rfl
    · exact ⟨_, rfl, Ints.nil _, fun h => by simp at h⟩
    · exact ⟨_, rfl, k1, fun _ => by simp [Value.ownBlock]⟩
theorem row_shape3 {w : World} {B : Nat} {v : Value} {L : List (List Int)} {xs : List Value} (h : Row w B v L xs) : ∃ a n c, v = .slice a n c := by
  rcases h.own.2 with ⟨h0, _⟩ | ⟨g, cap, cur, h0, _⟩
  · exact ⟨none, 0, 0, h0⟩
  · exact ⟨_, _, _, h0⟩
theorem wpList_app_ints {ops : Array Oper} {rest : List Oper} {o : Oper} {a : Act} {Q : Exit → Act → World → Prop} (w : World)
    (hgd : o.guard = none) (s x : Operand) (ho : o.op = .call { callee := .builtin .append, args := #[s, x], argTypes := #[23, 23] })
    (B : Nat) (l N : List Int) (vs vx : Value) (n : Nat) (hs : a.eval s = vs) (hn : n = l.length) (hown : w.ownsRow B 3 1 vs n (l.map (Value.int .i64))) (hx : a.eval x = vx) (hN : Ints w vx N) (hB : B ≤ w.heap.size) (hlen : l.length + N.length ≤ 1000000)
    (hK : ∀ va vn vc w', Own w' B (.slice va vn vc) (l ++ N) → Below B w w' → wpList Try.prog ops Q rest (a.put o.dst (.slice va vn vc)) w') :
    wpList Try.prog ops Q (o :: rest) a w := by
  subst hn
  obtain ⟨i3, hi, hz0, hz1, hz2⟩ := info3
  rcases hN with ⟨rfl, rfl⟩ | ⟨ad, c, rfl, h1, h2, h3⟩
  · refine wpList_append_own_none hgd s x 23 ho B 3 i3 1 Try.underlying23 hi vs l.length _ hs hown hx ?_
    have hO : Own w B vs (l ++ []) := by rw [List.append_nil]; exact ⟨hown, by unfold big; omega⟩
    obtain ⟨va, vn, vc, rfl⟩ := hO.ints.shape3
    exact hK _ _ _ _ hO (Below.refl _ _)
  · refine wpList_append_own_at w hgd s x 23 ho B 3 i3 (.int .i64 0) 1 8 Try.underlying23 hi hz0 hz1 hz2 rfl (by decide) vs l.length _ hs hown ad N.length c (N.map (Value.int .i64)) hx (by simp) ?_ (ints_one N) (by unfold maxLen; omega) (by omega) hB ?_
    · intro j u hj
      simp only [List.getElem?_map, Option.map_eq_some_iff] at hj
      obtain ⟨y, hy, rfl⟩ := hj
      obtain ⟨hlt, rfl⟩ := List.getElem?_eq_some_iff.1 hy
      obtain ⟨b, off, rfl, hc⟩ := h3 j hlt
      by_cases h0 : j = 0
      · subst h0; simpa [Addr.add] using hc
      · simpa [Addr.add, h0] using hc
    · intro v' w' h4 hg _ _
      have hO : Own w' B v' (l ++ N) := ⟨by rw [List.length_append, List.map_append]; exact h4, by rw [List.length_append]; unfold big; omega⟩
      have hb : Below B w w' := (Below.refl _ _).grown hg hB (fun k hk => (hown.lt k hk).1)
      obtain ⟨va, vn, vc, rfl⟩ := hO.ints.shape3
      exact hK _ _ _ _ hO hb
theorem wpList_app_lists {ops : Array Oper} {rest : List Oper} {o : Oper} {a : Act} {Q : Exit → Act → World → Prop} (w : World)
    (hgd : o.guard = none) (s x : Operand) (ho : o.op = .call { callee := .builtin .append, args := #[s, x], argTypes := #[24, 24] })
    (B : Nat) (P D : List (List Int)) (xs : List Value) (vs vx : Value) (n : Nat) (hs : a.eval s = vs) (hn : n = P.length) (hR : Row w B vs P xs) (hx : a.eval x = vx) (w0 : World) (hD : IntsL w0 vx D) (hnil : Nil0 vx) (hb0 : Below w0.heap.size w0 w) (hB : B = w0.heap.size) (hlen : P.length + D.length ≤ 1000000)
    (hK : ∀ va vn vc w', IntsL w' (.slice va vn vc) (P ++ D) → Below B w w' → wpList Try.prog ops Q rest (a.put o.dst (.slice va vn vc)) w') :
    wpList Try.prog ops Q (o :: rest) a w := by
  subst hn
  subst hB
  obtain ⟨i23, hi, hz0, hz1, hz2⟩ := infoI
  have hsz := hb0.size
  have hown := hR.own
  have hlt : ∀ k, vs.ownBlock = some k → w0.heap.size ≤ k := fun k hk => (hown.lt k hk).1
  have hD' := hD
  rcases hnil with rfl | ⟨ad, m, c, rfl⟩
  · have h0 : D = [] := by
      obtain ⟨_, _, _, e, _, _⟩ := hD'
      simp only [Value.slice.injEq] at e
      exact List.eq_nil_of_length_eq_zero e.2.1.symm
    subst h0
    refine wpList_append_own_none hgd s x 24 ho w0.heap.size 23 i23 1 Try.underlying24 hi vs P.length xs hs hown hx ?_
    have hI := hR.intsL (by unfold big; omega)
    obtain ⟨va, vn, vc, rfl⟩ := row_shape3 hR
    exact hK _ _ _ _ (by rw [List.append_nil]; exact hI) (Below.refl _ _)
  · obtain ⟨hmD, news, hnl, hn1, hn2, hn3⟩ := hD.vals
    subst hmD
    refine wpList_append_own_at w hgd s x 24 ho w0.heap.size 23 i23 (.slice none 0 0) 1 24 Try.underlying24 hi hz0 hz1 hz2 rfl (by decide) vs P.length xs hs hown ad D.length c news hx (by omega) (fun j u hj => cell_later hb0 (hn1 j u hj)) hn3 (by unfold maxLen; omega) (by omega) hsz ?_
    intro v' w' h4 hg _ hat
    have hr5 := hR.appK (E := D) rfl (fun i hi => by
      obtain ⟨y, hy, hy2⟩ := hn2 i hi
      exact ⟨y, hy, Elt.older hy2 hb0 hlt⟩) h4 hg _ rfl hat
    have hb : Below w0.heap.size w w' := (Below.refl _ _).grown hg hsz hlt
    have hI := hr5.intsL (by rw [List.length_append]; unfold big; omega)
    obtain ⟨va, vn, vc, rfl⟩ := row_shape3 hr5
    exact hK _ _ _ _ hI hb
end Go.Proofs.Ytjfkhfahpjdidaa
