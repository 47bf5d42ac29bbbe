/- The law ShapePlaces: its walk. -/
import Derived.Test.YthkmcjniibohkaaRT
import Derived.Test.YthkmcjniibohkaaRF
import Derived.Test.YthkmcjniibohkaaL6
namespace Go.Proofs.Ythkmcjniibohkaa
set_option linter.unusedVariables false
set_option linter.unusedSimpArgs false
open Go.RowKit

set_option maxRecDepth 1000000 in
set_option maxHeartbeats 4000000 in
theorem loop1 {B g gcap c0 c1 : Nat} {f3 : Value} {a0 a1 : Option Addr} {D P : List (List Int)} {T : List (List Int × List Int)} {N : List Int} {W : World} {Q : Exit → Act → World → Prop}
    (hD : D.length ≤ 17592186044416) (hcD : D.length ≤ c0) (hP : P.length ≤ 17592186044416) (hcP : P.length ≤ c1) (hN : N.length ≤ 17592186043904) (hgc : 6 + N.length ≤ gcap)
    (HE : Hid (Env B g (.slice a0 D.length c0) (.slice a1 P.length c1) f3 D P T (six ++ N) W))
    (hexit : ∀ a' w' q, Fr0 B g gcap (6 + N.length) q a' → Below W.heap.size W w' → Q (.exit 0) a' w')
    (a : Act) (w : World) (ha : Fr0 B g gcap (6 + N.length) 0 a) (hb : Below W.heap.size W w) :
    Code.wp Try.prog (.loop (((Try.f3.body.map loopsIn).getD []).getD 0 .skip)) Q a w := by
  refine wp_loop (fun a' w' => (∃ q : Nat, q ≤ D.length ∧ q ≤ 6 ∧ Fr0 B g gcap (6 + N.length) q a') ∧ Below W.heap.size W w') (fun a' _ => 6 - slotNat a' 4) ⟨⟨0, by omega, by omega, ha⟩, hb⟩ ?_
  clear ha hb
  clear a w
  intro a w ⟨⟨q, hq, hq6, hf⟩, hb⟩
  have HEX : Hid (∀ a' w' q, Fr0 B g gcap (6 + N.length) q a' → Below W.heap.size W w' → Q (.exit 0) a' w') := hexit
  have HB : Hid (Below W.heap.size W w) := hb
  have HEW := HE.out.later hb
  clear hexit hb
  by_cases hlt : q < D.length
  · by_cases hlt6 : q < 6
    · obtain ⟨b, off, xa, xc, rfl, hcx, HIX⟩ := HEW.hD.row q hlt
      have HEND : Hid (∀ a' w', Fr0 B g gcap (6 + N.length) (q + 1) a' → Below w.heap.size w w' → Exit.then (fun a' w' => ((∃ q : Nat, q ≤ D.length ∧ q ≤ 6 ∧ Fr0 B g gcap (6 + N.length) q a') ∧ Below W.heap.size W w') ∧ 6 - slotNat a' 4 < 6 - slotNat a 4) Q .normal a' w') := by
        intro a' w' ha' hb'
        refine ⟨⟨⟨q + 1, by omega, by omega, ha'⟩, Below.after HB.out hb'⟩, ?_⟩
        simp only [slotNat, ha'.f4, hf.f4, intOf]
        omega
      cases ho : okd D[q] with
      | true => exact roundT (c3 := 0) (G := fun _ => undef) hD hcD hP hcP hN hgc hlt hlt6 HEW hcx HIX ho HEND a hf
      | false => exact roundF (c3 := 0) (G := fun _ => undef) hD hcD hP hcP hN hgc hlt hlt6 HEW hcx HIX ho HEND a hf
    · have hbx := HEW.b0
      clear HEW
      obtain ⟨G, hg, e⟩ := act371 a hf.d hf.s
      obtain ⟨hz1, hz2, g1, g3, g4⟩ := hf
      rw [hg] at g1 g3 g4
      clear hz1 hz2
      subst e
      clear hg
      rw [g1, g3, g4]
      clear g1 g3 g4
      conv => arg 2; whnf
      go_wp2
      exact HEX.out _ _ q ⟨rfl, rfl, rfl, rfl, rfl⟩ HB.out
  · have hbx := HEW.b0
    clear HEW
    obtain ⟨G, hg, e⟩ := act371 a hf.d hf.s
    obtain ⟨hz1, hz2, g1, g3, g4⟩ := hf
    rw [hg] at g1 g3 g4
    clear hz1 hz2
    subst e
    clear hg
    rw [g1, g3, g4]
    clear g1 g3 g4
    conv => arg 2; whnf
    go_wp2
    exact HEX.out _ _ q ⟨rfl, rfl, rfl, rfl, rfl⟩ HB.out

set_option maxRecDepth 100000 in
set_option maxHeartbeats 8000000 in
theorem shapePlaces_any {f0 f1 f2 f3 : Value} {D P : List (List Int)} {N : List Int} {T : List (List Int × List Int)} {w : World} (h0 : IntsL w f0 D) (h1 : IntsL w f1 P) (h2 : Ints w f2 N ∧ N.length ≤ 17592186043904) (h3 : TensL w f3 T) :
    Calls Try.prog 3 #[.agg #[f0, f1, f2, f3]] w fun e w' => e = .returned (.bool true) ∧ Below w.heap.size w w' := by
  obtain ⟨h2, hN8⟩ := h2
  have hb : Below w.heap.size w (w.alloc (.cells #[f0, f1, f2, f3] 26)) := (Below.refl _ _).alloc (Nat.le_refl _) _
  obtain ⟨na, nc, rfl⟩ := h2.shape
  obtain ⟨a0, c0, rfl⟩ : ∃ a c, f0 = .slice a D.length c := by obtain ⟨_, a0, c0, rfl, _⟩ := h0; exact ⟨_, _, rfl⟩
  obtain ⟨a1, c1, rfl⟩ : ∃ a c, f1 = .slice a P.length c := by obtain ⟨_, a0, c0, rfl, _⟩ := h1; exact ⟨_, _, rfl⟩
  obtain ⟨a3, c3, rfl⟩ : ∃ a c, f3 = .slice a T.length c := by obtain ⟨_, a0, c0, rfl, _⟩ := h3; exact ⟨_, _, rfl⟩
  have HB : Hid (Below w.heap.size w (w.alloc (.cells #[.slice a0 D.length c0, .slice a1 P.length c1, .slice na N.length nc, .slice a3 T.length c3] 26))) := hb
  have H0 : Hid (IntsL (w.alloc (.cells #[.slice a0 D.length c0, .slice a1 P.length c1, .slice na N.length nc, .slice a3 T.length c3] 26)) (.slice a0 D.length c0) D) := h0.later hb
  have H1 : Hid (IntsL (w.alloc (.cells #[.slice a0 D.length c0, .slice a1 P.length c1, .slice na N.length nc, .slice a3 T.length c3] 26)) (.slice a1 P.length c1) P) := h1.later hb
  have H2 : Hid (Ints (w.alloc (.cells #[.slice a0 D.length c0, .slice a1 P.length c1, .slice na N.length nc, .slice a3 T.length c3] 26)) (.slice na N.length nc) N) := h2.later hb
  have H3 : Hid (TensL (w.alloc (.cells #[.slice a0 D.length c0, .slice a1 P.length c1, .slice na N.length nc, .slice a3 T.length c3] 26)) (.slice a3 T.length c3) T) := h3.later hb
  have hD := h0.1
  have hP := h1.1
  have hT := h3.1
  unfold big at hD hP hT
  obtain ⟨i3, hi, hz0, hz1, hz2⟩ := info3
  have HI : Hid (Try.prog.info? 3 = some i3) := hi
  have HZ0 : Hid (i3.zero = some (.int .i64 0)) := hz0
  have HZ1 : Hid (i3.size = 1) := hz1
  have HZ2 : Hid (i3.bytes = 8) := hz2
  clear h0 h1 h3 hb hi hz0 hz1 hz2
  have hlen2 := h2
  clear h2
  go_enter Try.func3, Try.ntmps3
  go_wp2_with fail
  refine (heavy_any H0.out H1.out H2.out H3.out).mono ?_
  rintro e w1 ⟨hv, rfl, hb1⟩
  have HB1 : Hid (Below w.heap.size w w1) := Below.after HB.out hb1
  have hws := hb1.size
  simp at hws
  cases hv with
  | true =>
    clear hlen2
    go_wp2
    go_ret
    exact ⟨rfl, HB1.out⟩
  | false =>
    have hbox2 : w1.cell? ⟨w.heap.size, 2, none⟩ = some (.slice na N.length nc) := cell_later hb1 (by simp)
    have HX0 : Hid (w1.cell? ⟨w.heap.size, 0, none⟩ = some (.slice a0 D.length c0)) := cell_later hb1 (by simp)
    have HX1 : Hid (w1.cell? ⟨w.heap.size, 1, none⟩ = some (.slice a1 P.length c1)) := cell_later hb1 (by simp)
    have HX3 : Hid (w1.cell? ⟨w.heap.size, 3, none⟩ = some (.slice a3 T.length c3)) := cell_later hb1 (by simp)
    have HD : Hid (IntsL w1 (.slice a0 D.length c0) D) := H0.out.later hb1
    have HP : Hid (IntsL w1 (.slice a1 P.length c1) P) := H1.out.later hb1
    have HT : Hid (TensL w1 (.slice a3 T.length c3) T) := H3.out.later hb1
    have HN : Hid (Ints w1 (.slice na N.length nc) N) := H2.out.later hb1
    have HS6 : Hid ((w1.alloc (.cells #[.int .i64 0, .int .i64 1, .int .i64 5, .int .i64 63, .int .i64 64, .int .i64 (-1)] 3)).ownsRow w1.heap.size 3 1 (.slice (some ⟨w1.heap.size, 0, none⟩) 6 6) 6 sixV) := World.ownsRow_lit w1 _ 6 (Nat.le_refl _) (by decide) rfl
    clear hb1 H0 H1 H2 H3 HB hlen2
    have hws2 : w.heap.size < w1.heap.size := by omega
    go_upto_region 3 with (fail)
    refine wp_cut (fun a' w' => a'.defers = [] ∧ a'.tmps.size = 371 ∧ a'.tmps.getD 1 undef = .pointer (some ⟨w.heap.size, 0, none⟩) ∧ ∃ g cap, a'.tmps.getD 3 undef = .slice (some ⟨g, 0, none⟩) (6 + N.length) cap ∧ 6 + N.length ≤ cap ∧ Hid (∀ i (h : i < (six ++ N).length), w'.cell? ⟨g, i, none⟩ = some (.int .i64 (six ++ N)[i])) ∧ Below w1.heap.size w1 w') ?_ ?_
    · intro a2 w2 ⟨hd2, hs2, f21, g, gcap, f23, hgc, hns, hb2⟩
      obtain ⟨G, hg, e⟩ := act371 a2 hd2 hs2
      rw [hg] at f21 f23
      clear hd2 hs2
      subst e
      clear hg
      rw [f21, f23]
      clear f21 f23
      have HE : Hid (Env w.heap.size g (.slice a0 D.length c0) (.slice a1 P.length c1) (.slice a3 T.length c3) D P T (six ++ N) w2) :=
        ⟨cell_later hb2 HX0.out, cell_later hb2 HX1.out, cell_later hb2 HX3.out, HD.out.later hb2, HP.out.later hb2, HT.out.later hb2, hns.out⟩
      have HBW : Hid (Below w.heap.size w w2) := Below.after HB1.out hb2
      have hcD := HD.out.le
      have hcP := HP.out.le
      have hcT : T.length ≤ c3 := by
        obtain ⟨_, a', c', e, h1, _⟩ := HT.out
        simp only [Value.slice.injEq] at e
        omega
      clear hb2 hns HX0 HX1 HX3 HD HP HT HN HS6 HB1 HI HZ0 HZ1 HZ2 hbox2
      go_wp2
      refine loop1 (W := w2) hD hcD hP hcP hN8 hgc HE ?_ _ _ ⟨rfl, rfl, rfl, rfl, rfl⟩ (Below.refl _ _)
      intro a3' w3 q hf3 hb3
      obtain ⟨G3, hg3, e3⟩ := act371 a3' hf3.d hf3.s
      obtain ⟨hz1, hz2, g1, g3, g4⟩ := hf3
      rw [hg3] at g1
      clear hz1 hz2 g3 g4
      subst e3
      clear hg3
      rw [g1]
      clear g1
      go_wp2
      refine loop6 (W := w2) hT hcT HE.out.b3 HE.out.hT ?_ _ _ ⟨rfl, rfl, rfl⟩ rfl hb3
      clear hb3
      intro a4 w4 hf4 hb4
      obtain ⟨G4, hg4, e4⟩ := act371 a4 hf4.d hf4.s
      clear hf4
      subst e4
      clear hg4
      go_wp2_with fail
      refine (wakes_any _).mono ?_
      rintro e w5 ⟨rfl, hb5⟩
      have HB5 : Hid (Below w.heap.size w w5) := Below.after HBW.out (Below.after hb4 hb5)
      clear hb4 hb5
      go_wp2
      go_ret
      exact ⟨rfl, HB5.out⟩
    · intro J K' hJ hK'
      have HJ : Hid _ := hJ
      have HK' : Hid _ := hK'
      clear hJ hK'
      rcases HN.out with ⟨e, rfl⟩ | ⟨a, c, e, hc1, _, hcell⟩
      · simp only [Value.slice.injEq, List.length_nil, true_and] at e
        obtain ⟨rfl, rfl⟩ := e
        rw [List.length_nil] at hbox2
        go_wp2_with (at_builtin; refine wpList_append_own_none rfl _ _ 23 rfl w1.heap.size 3 i3 1 Try.underlying23 HI.out _ 6 sixV rfl HS6.out rfl ?_)
        refine HK'.out _ _ (Met.intro (HJ.out _ _ ⟨rfl, rfl, rfl, ?_⟩))
        · obtain ⟨g, cap, e1, e2, e3⟩ := ns_own (N := []) (n := 0) (by simpa using HS6.out) rfl
          exact ⟨g, cap, e1, e2, e3, (Below.refl _ _).alloc (Nat.le_refl _) _⟩
      · simp only [Value.slice.injEq, true_and] at e
        obtain ⟨rfl, rfl⟩ := e
        have HNC : Hid (∀ j u, (N.map (Value.int .i64))[j]? = some u → (w1.alloc (.cells #[.int .i64 0, .int .i64 1, .int .i64 5, .int .i64 63, .int .i64 64, .int .i64 (-1)] 3)).cell? (a.add j) = some u) := by
          intro j u hj
          simp only [List.getElem?_map, Option.map_eq_some_iff] at hj
          obtain ⟨x, hx, rfl⟩ := hj
          obtain ⟨hlt, rfl⟩ := List.getElem?_eq_some_iff.1 hx
          obtain ⟨b, off, rfl, hc⟩ := hcell j hlt
          refine cell_later ((Below.refl _ _).alloc (Nat.le_refl _) _) ?_
          by_cases h0 : j = 0
          · subst h0; simpa [Addr.add] using hc
          · simpa [Addr.add, h0] using hc
        clear hcell
        go_wp2_with (at_builtin; refine wpList_append_own _ rfl _ _ 23 rfl w1.heap.size 3 i3 (.int .i64 0) 1 8 Try.underlying23 HI.out HZ0.out HZ1.out HZ2.out rfl (by decide) _ _ _ rfl HS6.out a N.length nc (N.map (Value.int .i64)) rfl ?c0 ?c1 ?c2 ?c3 ?c4 ?c5 ?_)
        case c0 => simp
        case c1 => exact HNC.out
        case c2 => exact ints_one N
        case c3 => unfold maxLen; omega
        case c4 => omega
        case c5 => simp
        intro v2 w2 ho hg _
        have HO2 : Hid (w2.ownsRow w1.heap.size 3 1 v2 (6 + N.length) (sixV ++ N.map (Value.int .i64))) := ho
        have HB2 : Hid (Below w1.heap.size w1 w2) := ((Below.refl _ _).alloc (Nat.le_refl _) _).grown hg (by simp) (by intro k hk; simp [Value.ownBlock] at hk; omega)
        clear ho hg
        go_wp2
        refine HK'.out _ _ (Met.intro (HJ.out _ _ ⟨rfl, rfl, rfl, ?_⟩))
        · obtain ⟨g, cap, e1, e2, e3⟩ := ns_own HO2.out rfl
          exact ⟨g, cap, e1, e2, e3, HB2.out⟩
end Go.Proofs.Ythkmcjniibohkaa
