/- graduslaw6's KernelAny: its walk. -/
import Derived.Test.YtheddpjaihhbdaaGreatK5
namespace Go.Proofs.YtheddpjaihhbdaaGreat
set_option linter.unusedVariables false
set_option linter.unusedSimpArgs false
set_option maxRecDepth 100000
open Go.RowKit

structure FrAny (va : Option Addr) (B vn vc : Nat) (a : Act) : Prop where
  d : a.defers = []
  s : a.tmps.size = 16
  f1 : a.tmps.getD 1 undef = .pointer (some ⟨B, 0, none⟩)
  f3 : a.tmps.getD 3 undef = .slice va vn vc
set_option maxRecDepth 100000 in
theorem lit16 (g : Nat → Value) : (g 0 :: g 1 :: g 2 :: g 3 :: g 4 :: g 5 :: g 6 :: g 7 :: g 8 :: g 9 :: g 10 :: g 11 :: g 12 :: g 13 :: g 14 :: g 15 :: []).toArray = ((List.range 16).map g).toArray := by rfl
set_option maxRecDepth 100000 in
theorem act16 (a : Act) (hd : a.defers = []) (hs : a.tmps.size = 16) : ∃ g : Nat → Value, (∀ i, a.tmps.getD i undef = g i) ∧ a = { tmps := (g 0 :: g 1 :: g 2 :: g 3 :: g 4 :: g 5 :: g 6 :: g 7 :: g 8 :: g 9 :: g 10 :: g 11 :: g 12 :: g 13 :: g 14 :: g 15 :: []).toArray, defers := [] } := by
  refine ⟨fun i => a.tmps.getD i undef, fun _ => rfl, ?_⟩
  have h := lit16 (fun i => a.tmps.getD i undef)
  have e : a.tmps = ((List.range 16).map (fun i => a.tmps.getD i undef)).toArray := by
    apply Array.ext
    · simp [hs]
    · intro i h1 h2
      simp [h1]
  exact (show a = Act.mk a.tmps a.defers from rfl).trans (by rw [hd]; exact congrArg (fun t => Act.mk t []) (e.trans h.symm))
theorem Ints.take {w : World} {a : Option Addr} {n c : Nat} {l : List Int} (h : Ints w (.slice a n c) l) (k : Nat) (hk : k ≤ n) : Ints w (.slice a k c) (l.take k) := by
  rcases h with ⟨e, rfl⟩ | ⟨a', c', e, h1, h2, h3⟩
  · simp only [Value.slice.injEq] at e
    obtain ⟨rfl, rfl, rfl⟩ := e
    obtain rfl : k = 0 := by omega
    exact Ints.nil _
  · simp only [Value.slice.injEq] at e
    obtain ⟨rfl, rfl, rfl⟩ := e
    refine Or.inr ⟨a', _, by rw [List.length_take, Nat.min_eq_left hk], by rw [List.length_take]; omega, by rw [List.length_take]; omega, fun i hi => ?_⟩
    rw [List.length_take] at hi
    obtain ⟨b, off, e, hc⟩ := h3 i (by omega)
    exact ⟨b, off, e, by rw [List.getElem_take]; exact hc⟩
set_option maxRecDepth 100000 in
set_option maxHeartbeats 8000000 in
theorem kernelAny_walk {f0 f1 f2 f3 : Value} {T : List Ten} {N K : List Int} {D : List (List Int)} {w : World} (hT : TensL w f0 T) (hN : Ints w f1 N ∧ N.length ≤ 17592186043904) (hD : IntsL w f2 D ∧ Nil0 f2) (hK : Ints w f3 K ∧ K.length ≤ 17592186043904) :
    Calls Tryz.prog 3 #[.agg #[f0, f1, f2, f3]] w fun e w' => e = .returned (.bool true) ∧ Below w.heap.size w w' := by
  obtain ⟨a0, n0, c0, rfl⟩ := hT.shape3
  obtain ⟨a1, n1, c1, rfl⟩ := hN.1.shape3
  obtain ⟨a2, n2, c2, rfl⟩ : ∃ a n c, f2 = .slice a n c := by obtain ⟨⟨_, a, c, e, _⟩, _⟩ := hD; exact ⟨a, _, c, e⟩
  obtain ⟨a3, n3, c3, rfl⟩ := hK.1.shape3
  have hb : Below w.heap.size w (w.alloc (.cells #[.slice a0 n0 c0, .slice a1 n1 c1, .slice a2 n2 c2, .slice a3 n3 c3] 28)) := Below.push (Below.refl _ _) _
  have HT : Hid (TensL (w.alloc (.cells #[.slice a0 n0 c0, .slice a1 n1 c1, .slice a2 n2 c2, .slice a3 n3 c3] 28)) (.slice a0 n0 c0) T) := hT.later hb
  have HN : Hid (Ints (w.alloc (.cells #[.slice a0 n0 c0, .slice a1 n1 c1, .slice a2 n2 c2, .slice a3 n3 c3] 28)) (.slice a1 n1 c1) N) := hN.1.later hb
  have HD : Hid (IntsL (w.alloc (.cells #[.slice a0 n0 c0, .slice a1 n1 c1, .slice a2 n2 c2, .slice a3 n3 c3] 28)) (.slice a2 n2 c2) D) := hD.1.later hb
  have HK : Hid (Ints (w.alloc (.cells #[.slice a0 n0 c0, .slice a1 n1 c1, .slice a2 n2 c2, .slice a3 n3 c3] 28)) (.slice a3 n3 c3) K) := hK.1.later hb
  have HB : Hid (Below w.heap.size w (w.alloc (.cells #[.slice a0 n0 c0, .slice a1 n1 c1, .slice a2 n2 c2, .slice a3 n3 c3] 28))) := hb
  have HNL : Hid (N.length ≤ 17592186043904 ∧ Nil0 (.slice a2 n2 c2)) := ⟨hN.2, hD.2⟩
  have HKL : Hid (K.length ≤ 17592186043904) := hK.2
  obtain ⟨i3, hi3, hy0, hy1, hy2⟩ := info3
  have HI3 : Hid (Tryz.prog.info? 3 = some i3) := hi3
  have HY0 : Hid (i3.zero = some (.int .i64 0)) := hy0
  have HY1 : Hid (i3.size = 1) := hy1
  have HY2 : Hid (i3.bytes = 8) := hy2
  clear hT hN hD hK hb hi3 hy0 hy1 hy2
  obtain ⟨U, hU⟩ : ∃ U, U = (w.alloc (.cells #[.slice a0 n0 c0, .slice a1 n1 c1, .slice a2 n2 c2, .slice a3 n3 c3] 28)) := ⟨_, rfl⟩
  obtain ⟨B, hB⟩ : ∃ B, w.heap.size = B := ⟨_, rfl⟩
  have h0 : U.cell? ⟨B, 0, none⟩ = some (.slice a0 n0 c0) := by rw [hU, ← hB]; simp
  have h1 : U.cell? ⟨B, 1, none⟩ = some (.slice a1 n1 c1) := by rw [hU, ← hB]; simp
  have h2 : U.cell? ⟨B, 2, none⟩ = some (.slice a2 n2 c2) := by rw [hU, ← hB]; simp
  have h3 : U.cell? ⟨B, 3, none⟩ = some (.slice a3 n3 c3) := by rw [hU, ← hB]; simp
  have HC : Hid (U.cell? ⟨B, 0, none⟩ = some (.slice a0 n0 c0) ∧ U.cell? ⟨B, 1, none⟩ = some (.slice a1 n1 c1) ∧ U.cell? ⟨B, 2, none⟩ = some (.slice a2 n2 c2) ∧ U.cell? ⟨B, 3, none⟩ = some (.slice a3 n3 c3)) := ⟨h0, h1, h2, h3⟩
  clear h0 h1 h2 h3
  rw [← hU] at HT HN HD HK HB
  go_enter Tryz.func3, Tryz.ntmps3
  go_upto_region 1 with fail
  rw [← hU]
  clear hU hB
  refine wp_cut (fun a' w' => ∃ va vn vc ks, FrAny va B vn vc a' ∧ Ints w' (.slice va vn vc) ks ∧ Below U.heap.size U w') ?_ ?_
  · intro a5 w5 ⟨va, vn, vc, ks, hf5, hks, hb5⟩
    obtain ⟨G5, hg5, e5⟩ := act16 a5 hf5.d hf5.s
    obtain ⟨hz1, hz2, g1, g3⟩ := hf5
    rw [hg5] at g1 g3
    clear hz1 hz2
    subst e5
    clear hg5
    rw [g1, g3]
    clear g1 g3
    have HKS5 : Hid (Ints w5 (.slice va vn vc) ks) := hks
    have HB5 : Hid (Below U.heap.size U w5) := hb5
    have d0 := cell_later hb5 HC.out.1
    have d1 := cell_later hb5 HC.out.2.1
    have d2 := cell_later hb5 HC.out.2.2.1
    have d3 := cell_later hb5 HC.out.2.2.2
    have hvc : vn ≤ vc := by
      rcases hks with ⟨e, _⟩ | ⟨a', c', e, h1, _, _⟩
      · simp only [Value.slice.injEq] at e; omega
      · simp only [Value.slice.injEq] at e; omega
    clear hks hb5
    rename_i K1 hK1
    apply hK1
    clear hK1
    by_cases h7 : 7 < vn
    · have h7' : (7 : Int) < vn := by omega
      have h7c : (7 : Int) ≤ vc := by omega
      have HKS6 : Hid (Ints w5 (.slice va 7 vc) (ks.take 7)) := HKS5.out.take 7 (by omega)
      go_wp2_with fail
      refine (kinds_any (HT.out.later HB5.out) (HN.out.later HB5.out) HNL.out.1 (HD.out.later HB5.out) HNL.out.2 (HK.out.later HB5.out) HKS6.out).mono ?_
      rintro e w6 ⟨rfl, hb6⟩
      have HB6 : Hid (Below w.heap.size w w6) := Below.after HB.out (Below.after HB5.out hb6)
      clear hb6
      go_wp2
      go_ret
      exact ⟨rfl, HB6.out⟩
    · have h7' : ¬ (7 : Int) < vn := by omega
      go_wp2_with fail
      refine (kinds_any (HT.out.later HB5.out) (HN.out.later HB5.out) HNL.out.1 (HD.out.later HB5.out) HNL.out.2 (HK.out.later HB5.out) HKS5.out).mono ?_
      rintro e w6 ⟨rfl, hb6⟩
      have HB6 : Hid (Below w.heap.size w w6) := Below.after HB.out (Below.after HB5.out hb6)
      clear hb6
      go_wp2
      go_ret
      exact ⟨rfl, HB6.out⟩
  · intro J K' hJ hK'
    have HJ : Hid _ := hJ
    have HK' : Hid _ := hK'
    clear hJ hK'
    have HS6 : Hid ((U.alloc (.cells #[.int .i64 (-1), .int .i64 0, .int .i64 18] 3)).ownsRow U.heap.size 3 1 (.slice (some ⟨U.heap.size, 0, none⟩) 3 3) 3 ([-1, 0, 18].map (Value.int .i64))) := ((Blk.new U [-1, 0, 18]).own (Nat.le_refl _) rfl (by simp [big])).row
    have hcn := cell_later (Below.push (Below.refl U.heap.size U) (.cells #[.int .i64 (-1), .int .i64 0, .int .i64 18] 3)) HC.out.2.2.2
    have hK5 := HK.out
    rcases hK5 with ⟨e, rfl⟩ | ⟨a, c, e, hc1, _, hcell⟩
    · simp only [Value.slice.injEq] at e
      obtain ⟨rfl, rfl, rfl⟩ := e
      go_wp2_with (at_builtin; refine wpList_append_own_none rfl _ _ 23 rfl U.heap.size 3 i3 1 Tryz.underlying23 HI3.out _ 3 _ rfl HS6.out rfl ?_)
      exact HK'.out _ _ (Met.intro (HJ.out _ _ ⟨_, 3, 3, [-1, 0, 18], ⟨rfl, rfl, rfl, rfl⟩, (Blk.new U [-1, 0, 18]).ints 3 3 rfl (Nat.le_refl _) (by decide), Below.push (Below.refl _ _) _⟩))
    · have hnn := HKL.out
      obtain ⟨Nn, hNn⟩ : ∃ x, K.length = x := ⟨_, rfl⟩
      have HNN : Hid (K.length = Nn) := hNn
      simp only [Value.slice.injEq] at e
      rw [hNn] at e hnn
      obtain ⟨rfl, rfl, rfl⟩ := e
      have HNC : Hid (∀ j u, (K.map (Value.int .i64))[j]? = some u → (U.alloc (.cells #[.int .i64 (-1), .int .i64 0, .int .i64 18] 3)).cell? (a.add j) = some u) := by
        intro j u hj
        simp only [List.getElem?_map, Option.map_eq_some_iff] at hj
        obtain ⟨x, hx, rfl⟩ := hj
        obtain ⟨hlt, rfl⟩ := List.getElem?_eq_some_iff.1 hx
        obtain ⟨b, off, rfl, hc⟩ := hcell j hlt
        refine cell_later (Below.push (Below.refl _ _) _) ?_
        by_cases h0 : j = 0
        · subst h0; simpa [Addr.add] using hc
        · simpa [Addr.add, h0] using hc
      have HLM : Hid ((K.map (Value.int .i64)).length = n3 * 1) := by show _ = _; rw [List.length_map, hNn]; omega
      clear hcell hNn
      go_wp2_with (at_builtin; refine wpList_append_own_at _ rfl _ _ 23 rfl U.heap.size 3 i3 (.int .i64 0) 1 8 Tryz.underlying23 HI3.out HY0.out HY1.out HY2.out rfl (by decide) _ 3 _ rfl HS6.out a n3 c3 (K.map (Value.int .i64)) rfl HLM.out ?c1 (ints_one K) ?c3 ?c4 ?c5 ?_)
      case c1 => exact HNC.out
      case c3 => unfold maxLen; omega
      case c4 => omega
      case c5 => simp
      intro v' w7 ho hg _ hat
      have hown : Own w7 U.heap.size v' ([-1, 0, 18] ++ K) := ⟨by rw [List.length_append, List.map_append, HNN.out]; exact ho, by rw [List.length_append, HNN.out]; unfold big; simp; omega⟩
      obtain ⟨va, vn, vc, rfl⟩ := hown.ints.shape3
      have HO7 : Hid (Ints w7 (.slice va vn vc) ([-1, 0, 18] ++ K)) := hown.ints
      have HB7 : Hid (Below U.heap.size U w7) := (Below.push (Below.refl _ _) _).grown hg (by simp) (by intro k hk; simp [Value.ownBlock] at hk; omega)
      clear ho hg hat hown
      go_wp2
      exact HK'.out _ _ (Met.intro (HJ.out _ _ ⟨va, vn, vc, _, ⟨rfl, rfl, rfl, rfl⟩, HO7.out, HB7.out⟩))
end Go.Proofs.YtheddpjaihhbdaaGreat
