/- The law MatMuls: its walk. -/
import Derived.Test.YtgnicnaiaijdcaaDoorMb
import Derived.Test.YtgnicnaiaijdcaaDoorMe
namespace Go.Proofs.YtgnicnaiaijdcaaDoor
set_option linter.unusedVariables false
set_option linter.unusedSimpArgs false
open Go.RowKit

def nine : List Int := [0, 1, 2, 7, 8, 9, 1073741824, 1073741825, -1]
def nineV : List Value := [.int .i64 0, .int .i64 1, .int .i64 2, .int .i64 7, .int .i64 8, .int .i64 9, .int .i64 1073741824, .int .i64 1073741825, .int .i64 (-1)]
theorem ns_nine {w : World} {base n : Nat} {v : Value} {L : List Int} (h : w.ownsRow base 3 1 v (9 + n) (nineV ++ L.map (Value.int .i64))) (hn : n = L.length) :
    ∃ g cap, v = .slice (some ⟨g, 0, none⟩) (9 + L.length) cap ∧ 9 + L.length ≤ cap ∧ Hid (∀ i (h : i < (nine ++ L).length), w.cell? ⟨g, i, none⟩ = some (.int .i64 (nine ++ L)[i])) := by
  subst hn
  rcases h.2 with ⟨_, h0⟩ | ⟨g, cap, cur, rfl, _, hh, h1, h2, h3, h4⟩
  · omega
  refine ⟨g, cap, rfl, h1, fun i hi => ?_⟩
  have hi' : i < 9 + L.length := by simp [nine] at hi; omega
  have e : nineV ++ L.map (Value.int .i64) = (nine ++ L).map (Value.int .i64) := by simp [nineV, nine]
  rw [e] at h4
  rw [cell_of_row w g i cur 3 (0, 0) hh, ← Array.getElem?_toList]
  have : cur.toList[i]? = (cur.toList.take ((9 + L.length) * 1))[i]? := by rw [List.getElem?_take, if_pos (by omega)]
  rw [this, h4, List.getElem?_map, List.getElem?_eq_getElem hi]
  rfl

set_option maxRecDepth 100000 in
set_option maxHeartbeats 8000000 in
theorem matMuls_any {f0 f1 : Value} {T : List Ten} {L : List Int} {w : World} (hg : w.cell? ⟨2, 1, none⟩ = some (.int .u8 1)) (h0 : TensL w f0 T ∧ ∀ t ∈ T, Rg t.2) (h1 : Ints w f1 L ∧ L.length ≤ 17592186043904) :
    Calls Tryd.prog 3 #[.agg #[f0, f1]] w fun e w' => e = .returned (.bool true) ∧ Below w.heap.size w w' := by
  obtain ⟨h0, hrt⟩ := h0
  obtain ⟨h1, hN8⟩ := h1
  have HRT : Hid (∀ t ∈ T, Rg t.2) := hrt
  have hb : Below w.heap.size w (w.alloc (.cells #[f0, f1] 25)) := (Below.refl _ _).alloc (Nat.le_refl _) _
  obtain ⟨na, nc, rfl⟩ := h1.shape
  obtain ⟨a0, c0, rfl⟩ : ∃ a c, f0 = .slice a T.length c := by obtain ⟨_, a0, c0, rfl, _⟩ := h0; exact ⟨_, _, rfl⟩
  have HB : Hid (Below w.heap.size w (w.alloc (.cells #[.slice a0 T.length c0, .slice na L.length nc] 25))) := hb
  have HG : Hid ((w.alloc (.cells #[.slice a0 T.length c0, .slice na L.length nc] 25)).cell? ⟨2, 1, none⟩ = some (.int .u8 1)) := cell_later hb hg
  have H0 : Hid (TensL (w.alloc (.cells #[.slice a0 T.length c0, .slice na L.length nc] 25)) (.slice a0 T.length c0) T) := h0.later hb
  have H1 : Hid (Ints (w.alloc (.cells #[.slice a0 T.length c0, .slice na L.length nc] 25)) (.slice na L.length nc) L) := h1.later hb
  have hT := h0.1
  unfold big at hT
  have hcT : T.length ≤ c0 := by
    obtain ⟨_, a', c', e, h1, _⟩ := h0
    simp only [Value.slice.injEq] at e
    omega
  obtain ⟨i3, hi, hz0, hz1, hz2⟩ := info3
  have HI : Hid (Tryd.prog.info? 3 = some i3) := hi
  have HZ0 : Hid (i3.zero = some (.int .i64 0)) := hz0
  have HZ1 : Hid (i3.size = 1) := hz1
  have HZ2 : Hid (i3.bytes = 8) := hz2
  clear h0 h1 hb hrt hg hi hz0 hz1 hz2
  go_enter Tryd.func3, Tryd.ntmps3
  go_wp2_with fail
  refine (heavy2_any H0.out H1.out).mono ?_
  rintro e w1 ⟨hv, rfl, hb1⟩
  have HB1 : Hid (Below w.heap.size w w1) := Below.after HB.out hb1
  have hws := hb1.size
  simp at hws
  cases hv with
  | true =>
    go_wp2
    go_ret
    exact ⟨rfl, HB1.out⟩
  | false =>
    have HE1 : Hid (EnvM w.heap.size (.slice a0 T.length c0) (.slice na L.length nc) T L w1) := ⟨cell_later hb1 (by simp), cell_later hb1 (by simp), H0.out.later hb1, H1.out.later hb1, cell_later hb1 HG.out⟩
    clear hb1 H0 H1 HB HG
    go_wp2
    refine mloop1 (W := w1) hcT hT HE1 ?_ _ _ ⟨rfl, rfl, rfl, rfl⟩ (Below.refl _ _)
    intro a2 w2 i2 hf2 hb2
    obtain ⟨G2, hg2, e2⟩ := act235 a2 hf2.d hf2.s
    obtain ⟨hz1, hz2, g1, g3⟩ := hf2
    rw [hg2] at g1 g3
    clear hz1 hz2
    subst e2
    clear hg2
    rw [g1, g3]
    clear g1 g3
    have HE : Hid (EnvM w.heap.size (.slice a0 T.length c0) (.slice na L.length nc) T L w2) := HE1.out.later hb2
    have HB2 : Hid (Below w.heap.size w w2) := Below.after HB1.out hb2
    have hws2 := hb2.size
    clear hb2 HE1 HB1
    have hbox1 := HE.out.b1
    have HS6 : Hid ((w2.alloc (.cells #[.int .i64 0, .int .i64 1, .int .i64 2, .int .i64 7, .int .i64 8, .int .i64 9, .int .i64 1073741824, .int .i64 1073741825, .int .i64 (-1)] 3)).ownsRow w2.heap.size 3 1 (.slice (some ⟨w2.heap.size, 0, none⟩) 9 9) 9 nineV) := World.ownsRow_lit w2 _ 9 (Nat.le_refl _) (by decide) rfl
    have hbox1' : (w2.alloc (.cells #[.int .i64 0, .int .i64 1, .int .i64 2, .int .i64 7, .int .i64 8, .int .i64 9, .int .i64 1073741824, .int .i64 1073741825, .int .i64 (-1)] 3)).cell? ⟨w.heap.size, 1, none⟩ = some (.slice na L.length nc) := cell_later (Below.push (Below.refl _ _) _) hbox1
    go_upto_region 20 with (fail)
    refine wp_cut (fun a' w' => a'.defers = [] ∧ a'.tmps.size = 235 ∧ a'.tmps.getD 1 undef = .pointer (some ⟨w.heap.size, 0, none⟩) ∧ ∃ g cap, a'.tmps.getD 11 undef = .slice (some ⟨g, 0, none⟩) (9 + L.length) cap ∧ 9 + L.length ≤ cap ∧ Hid (∀ i (h : i < (nine ++ L).length), w'.cell? ⟨g, i, none⟩ = some (.int .i64 (nine ++ L)[i])) ∧ Below w2.heap.size w2 w') ?_ ?_
    · intro a3 w3 ⟨hd3, hs3, f31, g, gcap, f33, hgc, hns, hb3⟩
      obtain ⟨G3, hg3, e3⟩ := act235 a3 hd3 hs3
      rw [hg3] at f31 f33
      clear hd3 hs3
      subst e3
      clear hg3
      rw [f31, f33]
      clear f31 f33
      have HEN : Hid (EnvN w.heap.size g (.slice a0 T.length c0) T (nine ++ L) w3) := ⟨cell_later hb3 HE.out.b0, HE.out.hT.later hb3, hns.out, cell_later hb3 HE.out.hg⟩
      have HBW : Hid (Below w.heap.size w w3) := Below.after HB2.out hb3
      clear hb3 hns HS6 HI HZ0 HZ1 HZ2 hbox1 hbox1' HE HB2
      go_wp2
      refine mloop3 (W := w3) (ns := nine ++ L) (n := 9 + L.length) (by simp [nine]; omega) (by omega) hgc hcT hT HRT HEN ?_ _ _ ⟨rfl, rfl, rfl, rfl, rfl⟩ (Below.refl _ _)
      intro a4 w4 q hf4 hb4
      obtain ⟨G4, hg4, e4⟩ := act235 a4 hf4.d hf4.s
      clear hf4
      subst e4
      clear hg4
      go_wp2_with fail
      refine wakes4_any.mono ?_
      rintro e w5 ⟨rfl, hb5⟩
      have HB5 : Hid (Below w.heap.size w w5) := Below.after HBW.out (Below.after hb4 hb5)
      clear hb4 hb5
      go_wp2
      go_ret
      exact ⟨rfl, HB5.out⟩
    · intro J K' hJ hK'
      have HJ : Hid _ := hJ
      have HK' : Hid _ := hK'
      clear hJ hK'
      rcases HE.out.hL with ⟨e, rfl⟩ | ⟨a, c, e, hc1, _, hcell⟩
      · simp only [Value.slice.injEq, List.length_nil, true_and] at e
        obtain ⟨rfl, rfl⟩ := e
        rw [List.length_nil] at hbox1 hbox1'
        go_wp2
        refine HK'.out _ _ (Met.intro (HJ.out _ _ ⟨rfl, rfl, rfl, ?_⟩))
        · obtain ⟨g, cap, e1, e2, e3⟩ := ns_nine (L := []) (n := 0) (by simpa using HS6.out) rfl
          exact ⟨g, cap, e1, e2, e3, (Below.refl _ _).alloc (Nat.le_refl _) _⟩
      · simp only [Value.slice.injEq, true_and] at e
        obtain ⟨rfl, rfl⟩ := e
        have HNC : Hid (∀ j u, (L.map (Value.int .i64))[j]? = some u → (w2.alloc (.cells #[.int .i64 0, .int .i64 1, .int .i64 2, .int .i64 7, .int .i64 8, .int .i64 9, .int .i64 1073741824, .int .i64 1073741825, .int .i64 (-1)] 3)).cell? (a.add j) = some u) := by
          intro j u hj
          simp only [List.getElem?_map, Option.map_eq_some_iff] at hj
          obtain ⟨x, hx, rfl⟩ := hj
          obtain ⟨hlt, rfl⟩ := List.getElem?_eq_some_iff.1 hx
          obtain ⟨b, off, rfl, hc⟩ := hcell j hlt
          refine cell_later ((Below.refl _ _).alloc (Nat.le_refl _) _) ?_
          by_cases h0 : j = 0
          · subst h0; simpa [Addr.add] using hc
          · simpa [Addr.add, h0] using hc
        clear hcell
        go_wp2_with (at_builtin; refine wpList_append_own _ rfl _ _ 23 rfl w2.heap.size 3 i3 (.int .i64 0) 1 8 Tryd.underlying23 HI.out HZ0.out HZ1.out HZ2.out rfl (by decide) _ _ _ rfl HS6.out a L.length nc (L.map (Value.int .i64)) rfl ?c0 ?c1 ?c2 ?c3 ?c4 ?c5 ?_)
        case c0 => simp
        case c1 => exact HNC.out
        case c2 => exact ints_one L
        case c3 => unfold maxLen; omega
        case c4 => omega
        case c5 => simp
        intro v4 w4 ho hg _
        have HO2 : Hid (w4.ownsRow w2.heap.size 3 1 v4 (9 + L.length) (nineV ++ L.map (Value.int .i64))) := ho
        have HB4 : Hid (Below w2.heap.size w2 w4) := ((Below.refl _ _).alloc (Nat.le_refl _) _).grown hg (by simp) (by intro k hk; simp [Value.ownBlock] at hk; omega)
        clear ho hg
        go_wp2
        refine HK'.out _ _ (Met.intro (HJ.out _ _ ⟨rfl, rfl, rfl, ?_⟩))
        · obtain ⟨g, cap, e1, e2, e3⟩ := ns_nine HO2.out rfl
          exact ⟨g, cap, e1, e2, e3, HB4.out⟩
end Go.Proofs.YtgnicnaiaijdcaaDoor
