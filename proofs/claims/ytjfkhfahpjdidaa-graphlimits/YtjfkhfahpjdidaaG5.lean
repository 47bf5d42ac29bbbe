/- Contracts: graph's Uses. -/
import Derived.Test.YtjfkhfahpjdidaaG4
namespace Go.Proofs.Ytjfkhfahpjdidaa
set_option linter.unusedVariables false
set_option linter.unusedSimpArgs false
set_option maxRecDepth 100000
open Go.RowKit

theorem useN_len8 (L : List Nod) (i : Int) (hl : L.length ≤ 1000000) : (useN L i L.length).length ≤ 1000000 := Nat.le_trans (useN_len L i L.length) hl
set_option maxHeartbeats 8000000 in
theorem uses8_any {v : Value} {L : List Nod} {w : World} (h : NodesL w v L) (hs : Small L) (i : Int) (z : Int) (hz : useE L i = z) :
    Calls Try.prog 16 #[v, .int .i64 i] w fun e w' => ∃ x, e = .returned (.tuple #[x, .int .i64 z]) ∧ Own w' w.heap.size x (useR L i) ∧ Below w.heap.size w w' := by
  have HN : Hid (NodesL w v L) := h
  have HS : Hid (Small L) := hs
  have HZ : Hid (useE L i = z) := hz
  obtain ⟨va, vc, rfl, hc1, hc2⟩ := h.shape
  obtain ⟨i3, hi, hz0, hz1, hz2⟩ := info3
  have HI : Hid (Try.prog.info? 3 = some i3) := hi
  have HZ0 : Hid (i3.zero = some (.int .i64 0)) := hz0
  have HZ1 : Hid (i3.size = 1) := hz1
  have HZ2 : Hid (i3.bytes = 8) := hz2
  have hLn := hs.n
  unfold big at hc2
  clear h hs hz hi hz0 hz1 hz2
  cases hn : nodesB L with
  | false =>
    have HNB : Hid (nodesB L = false) := hn
    have HV : Hid (z = 1 ∧ useR L i = []) := by show _ ∧ _; rw [← HZ.out, useE, useR, hn]; exact ⟨rfl, rfl⟩
    clear hn
    go_enter Try.func16, Try.ntmps16
    go_wp2_with (go_at_call 17; refine (nodes8_any HN.out HS.out false HNB.out).mono ?_; rintro e w2 ⟨rfl, hb2⟩; have HB2 : Hid (Below w.heap.size w w2) := hb2; clear hb2)
    go_ret2
    exact ⟨_, by rw [HV.out.1]; rfl, by rw [HV.out.2]; exact Own.nil _ _, HB2.out⟩
  | true =>
    have HNB : Hid (nodesB L = true) := hn
    by_cases hr : 0 ≤ i ∧ i < L.length
    case neg =>
      have HV : Hid (z = 3 ∧ useR L i = []) := by
        have he : (decide (0 ≤ i) && decide (i < (L.length : Int))) = false := by
          by_cases h0 : 0 ≤ i
          · rw [decide_eq_false (p := i < (L.length : Int)) (by omega), Bool.and_false]
          · rw [decide_eq_false h0, Bool.false_and]
        show _ ∧ _
        rw [← HZ.out, useE, useR, hn, he]
        exact ⟨rfl, rfl⟩
      clear hn
      by_cases h0 : i < 0
      · clear hr
        go_enter Try.func16, Try.ntmps16
        go_wp2_with (go_at_call 17; refine (nodes8_any HN.out HS.out true HNB.out).mono ?_; rintro e w2 ⟨rfl, hb2⟩; have HB2 : Hid (Below w.heap.size w w2) := hb2; clear hb2)
        go_ret2
        exact ⟨_, by rw [HV.out.1]; rfl, by rw [HV.out.2]; exact Own.nil _ _, HB2.out⟩
      · have h1 : (L.length : Int) ≤ i := by omega
        clear hr
        go_enter Try.func16, Try.ntmps16
        go_wp2_with (go_at_call 17; refine (nodes8_any HN.out HS.out true HNB.out).mono ?_; rintro e w2 ⟨rfl, hb2⟩; have HB2 : Hid (Below w.heap.size w w2) := hb2; clear hb2)
        go_ret2
        exact ⟨_, by rw [HV.out.1]; rfl, by rw [HV.out.2]; exact Own.nil _ _, HB2.out⟩
    case pos =>
    obtain ⟨hr0, hr1⟩ := hr
    have HV : Hid (z = 0 ∧ useR L i = useN L i L.length) := by
      have he : (decide (0 ≤ i) && decide (i < (L.length : Int))) = true := by rw [decide_eq_true hr0, decide_eq_true hr1]; rfl
      show _ ∧ _
      rw [← HZ.out, useE, useR, hn, he]
      exact ⟨rfl, rfl⟩
    have g0 : ¬ i < 0 := by omega
    have g1 : ¬ (L.length : Int) ≤ i := by omega
    clear hn hr0 hr1
    go_enter Try.func16, Try.ntmps16
    go_wp2_with (go_at_call 17; refine (nodes8_any HN.out HS.out true HNB.out).mono ?_; rintro e w2 ⟨rfl, hb2⟩; have HB2 : Hid (Below w.heap.size w w2) := hb2; clear hb2)
    go_loopw [6, 22] (fun v i' w' => ∃ (k : Nat), k ≤ L.length ∧ i' = .int .i64 k ∧ Hid (Own w' w.heap.size v (useN L i k)) ∧ Hid (Below w.heap.size w w')) (fun _ i _ => L.length - (intOf i).toNat)
    case atStart => exact ⟨0, Nat.zero_le _, rfl, Own.nil _ _, HB2.out⟩
    case round =>
      obtain ⟨k, hk, rfl, HO, HB⟩ := hrel
      by_cases hlt : k < L.length
      · obtain ⟨b, off, x, y, rfl, hnd⟩ := (HN.out.later HB.out).row k hlt
        obtain ⟨t, ht⟩ : ∃ t, L[k] = t := ⟨_, rfl⟩
        have HL : Hid (L[k]? = some t) := by show _ = _; rw [List.getElem?_eq_getElem hlt, ht]
        rw [ht] at hnd
        obtain ⟨nm, kd, ar, ds, n⟩ := t
        obtain ⟨c0, c1, c2, c3, c4, ha, hd, hz⟩ := hnd
        simp only at c0 c1 c2 c3 c4 ha hd hz
        obtain ⟨ya, yn, yc, rfl⟩ := hd.shape3
        have ha' := ha
        obtain ⟨xa, xn, xc, rfl⟩ := ha'.shape3
        obtain ⟨V, hV⟩ : ∃ V, V = wr.alloc (.cells #[.string nm, .int .i64 kd, .slice xa xn xc, .slice ya yn yc, .int .i64 n] 42) := ⟨_, rfl⟩
        have HVV : Hid (V = wr.alloc (.cells #[.string nm, .int .i64 kd, .slice xa xn xc, .slice ya yn yc, .int .i64 n] 42)) := hV
        have HPV : Hid (Below wr.heap.size wr V) := by show Below _ _ _; rw [hV]; exact Below.push (Below.refl _ _) _
        have HBV : Hid (Below w.heap.size w V) := by show Below _ _ _; rw [hV]; exact Below.push HB.out _
        have v2 : V.cell? ⟨wr.heap.size, 2, none⟩ = some (.slice xa xn xc) := by rw [hV]; simp
        have HA : Hid (Ints V (.slice xa xn xc) ar) := ha.later HPV.out
        have HOV : Hid (Own V w.heap.size u6 (useN L i k)) := HO.out.later HPV.out
        have hsz : w.heap.size ≤ V.heap.size := HBV.out.size
        have gk : (k : Int) < L.length := by omega
        have hul := useN_len L i k
        clear ha hd hz ht hV ha'
        cases hm : decide (i ∈ ar) with
        | false =>
          have HM : Hid (decide (i ∈ ar) = false) := hm
          have HU : Hid (useN L i (k + 1) = useN L i k) := by show _ = _; rw [useN, HL.out]; simp only [hm]; simp
          clear hm
          go_upto_region 9 with fail
          rw [← HVV.out]
          go_wp2_with (go_at_call 29; refine (contains_any i HA.out false HM.out).mono ?_; rintro e w3 ⟨rfl, rfl⟩)
          go_roundw
          case rel => exact ⟨k + 1, by omega, by go_num, by show Own _ _ _ _; rw [HU.out]; exact HOV.out, HBV.out⟩
          case measure => simp [intOf]; omega
        | true =>
          have HM : Hid (decide (i ∈ ar) = true) := hm
          have HU : Hid (useN L i (k + 1) = useN L i k ++ [(k : Int)]) := by show _ = _; rw [useN, HL.out]; simp only [hm]; simp
          clear hm
          go_upto_region 9 with fail
          rw [← HVV.out]
          go_wp2_with (first
            | (go_at_call 29; refine (contains_any i HA.out true HM.out).mono ?_; rintro e w3 ⟨rfl, rfl⟩)
            | (at_builtin; refine wpList_append_own _ rfl _ _ 23 rfl w.heap.size 3 i3 (.int .i64 0) 1 8 Try.underlying23 HI.out HZ0.out HZ1.out HZ2.out rfl (by decide) _ _ _ rfl (HOV.out.row.alloc _) ⟨V.heap.size, 0, none⟩ 1 1 [.int .i64 k] rfl rfl ?c1 ?c2 ?c3 ?c4 ?c5 ?_))
          case c1 => exact cell_one_new _ _ _
          case c2 => intro u hu; simp at hu; subst hu; rfl
          case c3 => unfold maxLen; omega
          case c4 => omega
          case c5 => simp; omega
          intro v1 w1 ho hg _
          have HO1 : Hid (Own w1 w.heap.size v1 (useN L i (k + 1))) := by
            refine ⟨?_, ?_⟩
            · rw [HU.out, List.length_append, List.map_append]
              exact ho
            · have := useN_len L i (k + 1)
              unfold big
              omega
          have HB1 : Hid (Below w.heap.size w w1) := (HBV.out.alloc hsz _).grown hg (by simp; omega) (fun q hq => (HOV.out.row.lt q hq).1)
          clear ho hg
          go_wp2
          go_roundw
          case rel => exact ⟨k + 1, by omega, by go_num, HO1.out, HB1.out⟩
          case measure => simp [intOf]; omega
      · have hk' : k = L.length := by omega
        subst hk'
        have HO2 : Hid (Own wr w.heap.size u6 (useR L i)) := by show Own _ _ _ _; rw [HV.out.2]; exact HO.out
        obtain ⟨s7, n7, c7, rfl⟩ := HO.out.ints.shape3
        go_wp2
        go_ret2
        exact ⟨_, by rw [HV.out.1]; rfl, HO2.out, HB.out⟩
end Go.Proofs.Ytjfkhfahpjdidaa
