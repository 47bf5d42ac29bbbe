/- The law RingScales: its walk. -/
import Derived.Test.YtoocfoodnkikeaaS2
namespace Go.Proofs.Ytoocfoodnkikeaa
set_option linter.unusedVariables false
set_option linter.unusedSimpArgs false
open Go.RowKit

def five : List Int := [0, 1, -1, 7, 4611686018427387904]
def fiveV : List Value := [.int .i64 0, .int .i64 1, .int .i64 (-1), .int .i64 7, .int .i64 4611686018427387904]
theorem ns_own {w : World} {base n : Nat} {v : Value} {L : List Int} (h : w.ownsRow base 3 1 v (5 + n) (fiveV ++ L.map (Value.int .i64))) (hn : n = L.length) :
    ∃ g cap, v = .slice (some ⟨g, 0, none⟩) (5 + L.length) cap ∧ 5 + L.length ≤ cap ∧ Hid (∀ i (h : i < (five ++ L).length), w.cell? ⟨g, i, none⟩ = some (.int .i64 (five ++ L)[i])) := by
  subst hn
  rcases h.2 with ⟨_, h0⟩ | ⟨g, cap, cur, rfl, _, hh, h1, h2, h3, h4⟩
  · omega
  refine ⟨g, cap, rfl, h1, fun i hi => ?_⟩
  have hi' : i < 5 + L.length := by simp [five] at hi; omega
  have e : fiveV ++ L.map (Value.int .i64) = (five ++ L).map (Value.int .i64) := by simp [fiveV, five]
  rw [e] at h4
  rw [cell_of_row w g i cur 3 (0, 0) hh, ← Array.getElem?_toList]
  have : cur.toList[i]? = (cur.toList.take ((5 + L.length) * 1))[i]? := by rw [List.getElem?_take, if_pos (by omega)]
  rw [this, h4, List.getElem?_map, List.getElem?_eq_getElem hi]
  rfl

set_option maxRecDepth 100000 in
set_option maxHeartbeats 8000000 in
theorem ringScales_any {f0 f1 : Value} {T : List Ten} {L : List Int} {w : World} (h0 : TensL w f0 T ∧ ∀ t ∈ T, Rg t.2) (h1 : Ints w f1 L ∧ L.length ≤ 17592186043904) :
    Calls Try.prog 4 #[.agg #[f0, f1]] w fun e w' => e = .returned (.bool true) ∧ Below w.heap.size w w' := by
  obtain ⟨h0, _⟩ := h0
  obtain ⟨h1, hN8⟩ := h1
  have hb : Below w.heap.size w (w.alloc (.cells #[f0, f1] 25)) := (Below.refl _ _).alloc (Nat.le_refl _) _
  obtain ⟨na, nc, rfl⟩ := h1.shape
  obtain ⟨a0, c0, rfl⟩ : ∃ a c, f0 = .slice a T.length c := by obtain ⟨_, a0, c0, rfl, _⟩ := h0; exact ⟨_, _, rfl⟩
  have HB : Hid (Below w.heap.size w (w.alloc (.cells #[.slice a0 T.length c0, .slice na L.length nc] 25))) := hb
  have H0 : Hid (TensL (w.alloc (.cells #[.slice a0 T.length c0, .slice na L.length nc] 25)) (.slice a0 T.length c0) T) := h0.later hb
  have H1 : Hid (Ints (w.alloc (.cells #[.slice a0 T.length c0, .slice na L.length nc] 25)) (.slice na L.length nc) L) := h1.later hb
  have hT := h0.1
  unfold big at hT
  have hcT : T.length ≤ c0 := by
    obtain ⟨_, a', c', e, h1, _⟩ := h0
    simp only [Value.slice.injEq] at e
    omega
  obtain ⟨i3, hi, hz0, hz1, hz2⟩ := info3
  have HI : Hid (Try.prog.info? 3 = some i3) := hi
  have HZ0 : Hid (i3.zero = some (.int .i64 0)) := hz0
  have HZ1 : Hid (i3.size = 1) := hz1
  have HZ2 : Hid (i3.bytes = 8) := hz2
  clear h0 h1 hb hi hz0 hz1 hz2
  go_enter Try.func4, Try.ntmps4
  go_wp2_with fail
  refine (heavy2_any H0.out H1.out).mono ?_
  rintro e w1 ⟨hv, rfl, hb1⟩
  have HB1 : Hid (Below w.heap.size w w1) := Below.after HB.out hb1
  have hws := hb1.size
  simp at hws
  cases hv with
  | true =>
    go_wp2
    go_ret
    exact ⟨rfl, HB1.out⟩
  | false =>
    have hbox1 : w1.cell? ⟨w.heap.size, 1, none⟩ = some (.slice na L.length nc) := cell_later hb1 (by simp)
    have HX0 : Hid (w1.cell? ⟨w.heap.size, 0, none⟩ = some (.slice a0 T.length c0)) := cell_later hb1 (by simp)
    have HT : Hid (TensL w1 (.slice a0 T.length c0) T) := H0.out.later hb1
    have HN : Hid (Ints w1 (.slice na L.length nc) L) := H1.out.later hb1
    have HS6 : Hid ((w1.alloc (.cells #[.int .i64 0, .int .i64 1, .int .i64 (-1), .int .i64 7, .int .i64 4611686018427387904] 3)).ownsRow w1.heap.size 3 1 (.slice (some ⟨w1.heap.size, 0, none⟩) 5 5) 5 fiveV) := World.ownsRow_lit w1 _ 5 (Nat.le_refl _) (by decide) rfl
    have hbox1' : (w1.alloc (.cells #[.int .i64 0, .int .i64 1, .int .i64 (-1), .int .i64 7, .int .i64 4611686018427387904] 3)).cell? ⟨w.heap.size, 1, none⟩ = some (.slice na L.length nc) := cell_later (Below.push (Below.refl _ _) _) hbox1
    clear hb1 H0 H1 HB
    go_upto_region 3 with (fail)
    refine wp_cut (fun a' w' => a'.defers = [] ∧ a'.tmps.size = 125 ∧ a'.tmps.getD 1 undef = .pointer (some ⟨w.heap.size, 0, none⟩) ∧ ∃ g cap, a'.tmps.getD 3 undef = .slice (some ⟨g, 0, none⟩) (5 + L.length) cap ∧ 5 + L.length ≤ cap ∧ Hid (∀ i (h : i < (five ++ L).length), w'.cell? ⟨g, i, none⟩ = some (.int .i64 (five ++ L)[i])) ∧ Below w1.heap.size w1 w') ?_ ?_
    · intro a2 w2 ⟨hd2, hs2, f21, g, gcap, f23, hgc, hns, hb2⟩
      obtain ⟨G, hg, e⟩ := act125 a2 hd2 hs2
      rw [hg] at f21 f23
      clear hd2 hs2
      subst e
      clear hg
      rw [f21, f23]
      clear f21 f23
      have HE : Hid (EnvO w.heap.size g (.slice a0 T.length c0) T (five ++ L) w2) := ⟨cell_later hb2 HX0.out, HT.out.later hb2, hns.out⟩
      have HBW : Hid (Below w.heap.size w w2) := Below.after HB1.out hb2
      clear hb2 hns HX0 HT HN HS6 HB1 HI HZ0 HZ1 HZ2 hbox1 hbox1'
      go_wp2
      refine sloop1 (W := w2) (ns := five ++ L) (n := 5 + L.length) (by simp [five]; omega) (by omega) hgc hcT hT HE ?_ _ _ ⟨rfl, rfl, rfl, rfl, rfl⟩ (Below.refl _ _)
      intro a3' w3 q hf3 hb3
      obtain ⟨G3, hg3, e3⟩ := act125 a3' hf3.d hf3.s
      clear hf3
      subst e3
      clear hg3
      go_wp2_with fail
      refine (wakes_any _).mono ?_
      rintro e w5 ⟨rfl, hb5⟩
      have HB5 : Hid (Below w.heap.size w w5) := Below.after HBW.out (Below.after hb3 hb5)
      clear hb3 hb5
      go_wp2
      go_ret
      exact ⟨rfl, HB5.out⟩
    · intro J K' hJ hK'
      have HJ : Hid _ := hJ
      have HK' : Hid _ := hK'
      clear hJ hK'
      rcases HN.out with ⟨e, rfl⟩ | ⟨a, c, e, hc1, _, hcell⟩
      · simp only [Value.slice.injEq, List.length_nil, true_and] at e
        obtain ⟨rfl, rfl⟩ := e
        rw [List.length_nil] at hbox1 hbox1'
        go_wp2_with (at_builtin; refine wpList_append_own_none rfl _ _ 23 rfl w1.heap.size 3 i3 1 Try.underlying23 HI.out _ 5 fiveV rfl HS6.out rfl ?_)
        refine HK'.out _ _ (Met.intro (HJ.out _ _ ⟨rfl, rfl, rfl, ?_⟩))
        · obtain ⟨g, cap, e1, e2, e3⟩ := ns_own (L := []) (n := 0) (by simpa using HS6.out) rfl
          exact ⟨g, cap, e1, e2, e3, (Below.refl _ _).alloc (Nat.le_refl _) _⟩
      · simp only [Value.slice.injEq, true_and] at e
        obtain ⟨rfl, rfl⟩ := e
        have HNC : Hid (∀ j u, (L.map (Value.int .i64))[j]? = some u → (w1.alloc (.cells #[.int .i64 0, .int .i64 1, .int .i64 (-1), .int .i64 7, .int .i64 4611686018427387904] 3)).cell? (a.add j) = some u) := by
          intro j u hj
          simp only [List.getElem?_map, Option.map_eq_some_iff] at hj
          obtain ⟨x, hx, rfl⟩ := hj
          obtain ⟨hlt, rfl⟩ := List.getElem?_eq_some_iff.1 hx
          obtain ⟨b, off, rfl, hc⟩ := hcell j hlt
          refine cell_later ((Below.refl _ _).alloc (Nat.le_refl _) _) ?_
          by_cases h0 : j = 0
          · subst h0; simpa [Addr.add] using hc
          · simpa [Addr.add, h0] using hc
        clear hcell
        go_wp2_with (at_builtin; refine wpList_append_own _ rfl _ _ 23 rfl w1.heap.size 3 i3 (.int .i64 0) 1 8 Try.underlying23 HI.out HZ0.out HZ1.out HZ2.out rfl (by decide) _ _ _ rfl HS6.out a L.length nc (L.map (Value.int .i64)) rfl ?c0 ?c1 ?c2 ?c3 ?c4 ?c5 ?_)
        case c0 => simp
        case c1 => exact HNC.out
        case c2 => exact ints_one L
        case c3 => unfold maxLen; omega
        case c4 => omega
        case c5 => simp
        intro v2 w2 ho hg _
        have HO2 : Hid (w2.ownsRow w1.heap.size 3 1 v2 (5 + L.length) (fiveV ++ L.map (Value.int .i64))) := ho
        have HB2 : Hid (Below w1.heap.size w1 w2) := ((Below.refl _ _).alloc (Nat.le_refl _) _).grown hg (by simp) (by intro k hk; simp [Value.ownBlock] at hk; omega)
        clear ho hg
        go_wp2
        refine HK'.out _ _ (Met.intro (HJ.out _ _ ⟨rfl, rfl, rfl, ?_⟩))
        · obtain ⟨g, cap, e1, e2, e3⟩ := ns_own HO2.out rfl
          exact ⟨g, cap, e1, e2, e3, HB2.out⟩
end Go.Proofs.Ytoocfoodnkikeaa
