/- Joined: G5, G5b, G6. -/
import Derived.Test.YtjfkhfahpjdidaaG4
namespace Go.Proofs.Ytjfkhfahpjdidaa
section
set_option linter.unusedVariables false
set_option linter.unusedSimpArgs false
set_option maxRecDepth 100000
open Go.RowKit

theorem useN_len8 (L : List Nod) (i : Int) (hl : L.length ≤ 1000000) : (useN L i L.length).length ≤ 1000000 := Nat.le_trans (useN_len L i L.length) hl
set_option maxHeartbeats 8000000 in
theorem uses8_any {v : Value} {L : List Nod} {w : World} (h : NodesL w v L) (hs : Small L) (i : Int) (z : Int) (hz : useE L i = z) :
    Calls Try.prog 16 #[v, .int .i64 i] w fun e w' => ∃ x, e = .returned (.tuple #[x, .int .i64 z]) ∧ Own w' w.heap.size x (useR L i) ∧ Below w.heap.size w w' := by
  have HN : Hid (NodesL w v L) := h
  have HS : Hid (Small L) := hs
  have HZ : Hid (useE L i = z) := hz
  obtain ⟨va, vc, rfl, hc1, hc2⟩ := h.shape
  obtain ⟨i3, hi, hz0, hz1, hz2⟩ := info3
  have HI : Hid (Try.prog.info? 3 = some i3) := hi
  have HZ0 : Hid (i3.zero = some (.int .i64 0)) := hz0
  have HZ1 : Hid (i3.size = 1) := hz1
  have HZ2 : Hid (i3.bytes = 8) := hz2
  have hLn := hs.n
  unfold big at hc2
  clear h hs hz hi hz0 hz1 hz2
  cases hn : nodesB L with
  | false =>
    have HNB : Hid (nodesB L = false) := hn
    have HV : Hid (z = 1 ∧ useR L i = []) := by show _ ∧ _; rw [← HZ.out, useE, useR, hn]; exact ⟨rfl, rfl⟩
    clear hn
    go_enter Try.func16, Try.ntmps16
    go_wp2_with (go_at_call 17; refine (nodes8_any HN.out HS.out false HNB.out).mono ?_; rintro e w2 ⟨rfl, hb2⟩; have HB2 : Hid (Below w.heap.size w w2) := hb2; clear hb2)
    go_ret2
    exact ⟨_, by rw [HV.out.1]; rfl, by rw [HV.out.2]; exact Own.nil _ _, HB2.out⟩
  | true =>
    have HNB : Hid (nodesB L = true) := hn
    by_cases hr : 0 ≤ i ∧ i < L.length
    case neg =>
      have HV : Hid (z = 3 ∧ useR L i = []) := by
        have he : (decide (0 ≤ i) && decide (i < (L.length : Int))) = false := by
          by_cases h0 : 0 ≤ i
          · rw [decide_eq_false (p := i < (L.length : Int)) (by omega), Bool.and_false]
          · rw [decide_eq_false h0, Bool.false_and]
        show _ ∧ _
        rw [← HZ.out, useE, useR, hn, he]
        exact ⟨rfl, rfl⟩
      clear hn
      by_cases h0 : i < 0
      · clear hr
        go_enter Try.func16, Try.ntmps16
        go_wp2_with (go_at_call 17; refine (nodes8_any HN.out HS.out true HNB.out).mono ?_; rintro e w2 ⟨rfl, hb2⟩; have HB2 : Hid (Below w.heap.size w w2) := hb2; clear hb2)
        go_ret2
        exact ⟨_, by rw [HV.out.1]; rfl, by rw [HV.out.2]; exact Own.nil _ _, HB2.out⟩
      · have h1 : (L.length : Int) ≤ i := by omega
        clear hr
        go_enter Try.func16, Try.ntmps16
        go_wp2_with (go_at_call 17; refine (nodes8_any HN.out HS.out true HNB.out).mono ?_; rintro e w2 ⟨rfl, hb2⟩; have HB2 : Hid (Below w.heap.size w w2) := hb2; clear hb2)
        go_ret2
        exact ⟨_, by rw [HV.out.1]; rfl, by rw [HV.out.2]; exact Own.nil _ _, HB2.out⟩
    case pos =>
    obtain ⟨hr0, hr1⟩ := hr
    have HV : Hid (z = 0 ∧ useR L i = useN L i L.length) := by
      have he : (decide (0 ≤ i) && decide (i < (L.length : Int))) = true := by rw [decide_eq_true hr0, decide_eq_true hr1]; rfl
      show _ ∧ _
      rw [← HZ.out, useE, useR, hn, he]
      exact ⟨rfl, rfl⟩
    have g0 : ¬ i < 0 := by omega
    have g1 : ¬ (L.length : Int) ≤ i := by omega
    clear hn hr0 hr1
    go_enter Try.func16, Try.ntmps16
    go_wp2_with (go_at_call 17; refine (nodes8_any HN.out HS.out true HNB.out).mono ?_; rintro e w2 ⟨rfl, hb2⟩; have HB2 : Hid (Below w.heap.size w w2) := hb2; clear hb2)
    go_loopw [6, 22] (fun v i' w' => ∃ (k : Nat), k ≤ L.length ∧ i' = .int .i64 k ∧ Hid (Own w' w.heap.size v (useN L i k)) ∧ Hid (Below w.heap.size w w')) (fun _ i _ => L.length - (intOf i).toNat)
    case atStart => exact ⟨0, Nat.zero_le _, rfl, Own.nil _ _, HB2.out⟩
    case round =>
      obtain ⟨k, hk, rfl, HO, HB⟩ := hrel
      by_cases hlt : k < L.length
      · obtain ⟨b, off, x, y, rfl, hnd⟩ := (HN.out.later HB.out).row k hlt
        obtain ⟨t, ht⟩ : ∃ t, L[k] = t := ⟨_, rfl⟩
        have HL : Hid (L[k]? = some t) := by show _ = _; rw [List.getElem?_eq_getElem hlt, ht]
        rw [ht] at hnd
        obtain ⟨nm, kd, ar, ds, n⟩ := t
        obtain ⟨c0, c1, c2, c3, c4, ha, hd, hz⟩ := hnd
        simp only at c0 c1 c2 c3 c4 ha hd hz
        obtain ⟨ya, yn, yc, rfl⟩ := hd.shape3
        have ha' := ha
        obtain ⟨xa, xn, xc, rfl⟩ := ha'.shape3
        obtain ⟨V, hV⟩ : ∃ V, V = wr.alloc (.cells #[.string nm, .int .i64 kd, .slice xa xn xc, .slice ya yn yc, .int .i64 n] 42) := ⟨_, rfl⟩
        have HVV : Hid (V = wr.alloc (.cells #[.string nm, .int .i64 kd, .slice xa xn xc, .slice ya yn yc, .int .i64 n] 42)) := hV
        have HPV : Hid (Below wr.heap.size wr V) := by show Below _ _ _; rw [hV]; exact Below.push (Below.refl _ _) _
        have HBV : Hid (Below w.heap.size w V) := by show Below _ _ _; rw [hV]; exact Below.push HB.out _
        have v2 : V.cell? ⟨wr.heap.size, 2, none⟩ = some (.slice xa xn xc) := by rw [hV]; simp
        have HA : Hid (Ints V (.slice xa xn xc) ar) := ha.later HPV.out
        have HOV : Hid (Own V w.heap.size u6 (useN L i k)) := HO.out.later HPV.out
        have hsz : w.heap.size ≤ V.heap.size := HBV.out.size
        have gk : (k : Int) < L.length := by omega
        have hul := useN_len L i k
        clear ha hd hz ht hV ha'
        cases hm : decide (i ∈ ar) with
        | false =>
          have HM : Hid (decide (i ∈ ar) = false) := hm
          have HU : Hid (useN L i (k + 1) = useN L i k) := by show _ = _; rw [useN, HL.out]; simp only [hm]; simp
          clear hm
          go_upto_region 9 with fail
          rw [← HVV.out]
          go_wp2_with (go_at_call 29; refine (contains_any i HA.out false HM.out).mono ?_; rintro e w3 ⟨rfl, rfl⟩)
          go_roundw
          case rel => exact ⟨k + 1, by omega, by go_num, by show Own _ _ _ _; rw [HU.out]; exact HOV.out, HBV.out⟩
          case measure => simp [intOf]; omega
        | true =>
          have HM : Hid (decide (i ∈ ar) = true) := hm
          have HU : Hid (useN L i (k + 1) = useN L i k ++ [(k : Int)]) := by show _ = _; rw [useN, HL.out]; simp only [hm]; simp
          clear hm
          go_upto_region 9 with fail
          rw [← HVV.out]
          go_wp2_with (first
            | (go_at_call 29; refine (contains_any i HA.out true HM.out).mono ?_; rintro e w3 ⟨rfl, rfl⟩)
            | (at_builtin; refine wpList_append_own _ rfl _ _ 23 rfl w.heap.size 3 i3 (.int .i64 0) 1 8 Try.underlying23 HI.out HZ0.out HZ1.out HZ2.out rfl (by decide) _ _ _ rfl (HOV.out.row.alloc _) ⟨V.heap.size, 0, none⟩ 1 1 [.int .i64 k] rfl rfl ?c1 ?c2 ?c3 ?c4 ?c5 ?_))
          case c1 => exact cell_one_new _ _ _
          case c2 => intro u hu; simp at hu; subst hu; rfl
          case c3 => unfold maxLen; omega
          case c4 => omega
          case c5 => simp; omega
          intro v1 w1 ho hg _
          have HO1 : Hid (Own w1 w.heap.size v1 (useN L i (k + 1))) := by
            refine ⟨?_, ?_⟩
            · rw [HU.out, List.length_append, List.map_append]
              exact ho
            · have := useN_len L i (k + 1)
              unfold big
              omega
          have HB1 : Hid (Below w.heap.size w w1) := (HBV.out.alloc hsz _).grown hg (by simp; omega) (fun q hq => (HOV.out.row.lt q hq).1)
          clear ho hg
          go_wp2
          go_roundw
          case rel => exact ⟨k + 1, by omega, by go_num, HO1.out, HB1.out⟩
          case measure => simp [intOf]; omega
      · have hk' : k = L.length := by omega
        subst hk'
        have HO2 : Hid (Own wr w.heap.size u6 (useR L i)) := by show Own _ _ _ _; rw [HV.out.2]; exact HO.out
        obtain ⟨s7, n7, c7, rfl⟩ := HO.out.ints.shape3
        go_wp2
        go_ret2
        exact ⟨_, by rw [HV.out.1]; rfl, HO2.out, HB.out⟩
end
section
set_option linter.unusedVariables false
set_option linter.unusedSimpArgs false
set_option maxRecDepth 100000
open Go.RowKit

theorem Own.iterAt {w : World} {B I : Nat} {v : Value} {d : List Int} (h : Own w B v d) (hi : I < B) (s : ByteArray) (q : Nat) : Own (w.iterAt I s q) B v d := h.at fun k hk => Lib.iterAt_other w I k s q (by have := h.frm k hk; omega)
set_option maxHeartbeats 16000000 in
theorem leaves8_any {v : Value} {L : List Nod} {w : World} (h : NodesL w v L) (hs : Small L) (q : Bool) (hq : grpB L = q) :
    Calls Try.prog 14 #[v] w fun e w' => ∃ x, e = .returned (.tuple #[x, .int .i64 (if q then 0 else 1)]) ∧ Own w' w.heap.size x (if q then levs L else []) ∧ Below w.heap.size w w' := by
  have HN : Hid (NodesL w v L) := h
  have HS : Hid (Small L) := hs
  have HQ : Hid (grpB L = q) := hq
  obtain ⟨va, vc, rfl, hc1, hc2⟩ := h.shape
  obtain ⟨i3, hi, hz0, hz1, hz2⟩ := info3
  have HI : Hid (Try.prog.info? 3 = some i3) := hi
  have HZ0 : Hid (i3.zero = some (.int .i64 0)) := hz0
  have HZ1 : Hid (i3.size = 1) := hz1
  have HZ2 : Hid (i3.bytes = 8) := hz2
  have hLn := hs.n
  unfold big at hc2
  clear h hs hq hi hz0 hz1 hz2
  cases q with
  | false =>
    go_enter Try.func14, Try.ntmps14
    go_wp2_with (go_at_call 19; refine (check8_any HN.out HS.out false HQ.out).mono ?_; rintro e w2 ⟨rfl, hb2⟩; have HB2 : Hid (Below w.heap.size w w2) := hb2; clear hb2)
    go_ret2
    exact ⟨_, rfl, Own.nil _ _, HB2.out⟩
  | true =>
    go_enter Try.func14, Try.ntmps14
    go_wp2_with fail
    refine (check8_any HN.out HS.out true HQ.out).mono ?_
    rintro e w2 ⟨rfl, hb2⟩
    have HB2 : Hid (Below w.heap.size w w2) := hb2
    have hd0 : Utf8.decode ⟨#[1, 2]⟩ 0 = (1, 1) := by decide +kernel
    have HD1 : Hid (Utf8.decode ⟨#[1, 2]⟩ 1 = (2, 1)) := by show _ = _; decide +kernel
    have hn1 : ∀ ty, (Instr.next (.pointer (some ⟨w2.heap.size, 0, none⟩)) true ty).run Try.prog (w2.iter ⟨#[1, 2]⟩ 0) = _ := fun ty => run_next_any w2 ⟨#[1, 2]⟩ 0 ty (by decide)
    rw [hd0] at hn1
    simp only [Nat.zero_add] at hn1
    obtain ⟨J, hJ⟩ : ∃ J, w2.iter ⟨#[1, 2]⟩ 1 = J := ⟨_, rfl⟩
    have HIT : Hid (It J w2.heap.size ⟨#[1, 2]⟩ 1) := by show It _ _ _ _; rw [← hJ]; exact It.new w2 _ 1
    have HJS : Hid (w2.heap.size < J.heap.size) := HIT.out.lt
    have HBJ : Hid (Below w.heap.size w J) := by show Below _ _ _; rw [← hJ]; exact Below.after hb2 ((Below.refl _ _).alloc (Nat.le_refl _) _)
    have HW2 : Hid (w.heap.size ≤ w2.heap.size) := hb2.size
    rw [hJ] at hn1
    clear hb2 hd0 hJ
    go_wp2
    refine wp_loop_rounds 3 ?_
    rw [rounds_succ]
    go_wp2
    go_loopw [4, 18] (fun v i' w' => ∃ (j : Nat), j ≤ L.length ∧ i' = .int .i64 j ∧ Hid (Own w' J.heap.size v (lvN L 1 j)) ∧ Hid (Below J.heap.size J w')) (fun _ i _ => L.length - (intOf i).toNat)
    case atStart => exact ⟨0, Nat.zero_le _, rfl, Own.nil _ _, Below.refl _ _⟩
    case round =>
      obtain ⟨k, hk, rfl, HO, HB⟩ := hrel
      have HBW : Hid (Below w.heap.size w wr) := Below.after HBJ.out HB.out
      by_cases hlt : k < L.length
      · obtain ⟨b, off, y0, y1, rfl, hnd⟩ := (HN.out.later HBW.out).row k hlt
        obtain ⟨t, ht⟩ : ∃ t, L[k] = t := ⟨_, rfl⟩
        have HL : Hid (L[k]? = some t) := by show _ = _; rw [List.getElem?_eq_getElem hlt, ht]
        rw [ht] at hnd
        obtain ⟨nm, kd, ar, ds, n⟩ := t
        obtain ⟨c0, c1, c2, c3, c4, ha, hd, hz⟩ := hnd
        simp only at c0 c1 c2 c3 c4 ha hd hz
        obtain ⟨ya, yn, yc, rfl⟩ := hd.shape3
        obtain ⟨xa, xn, xc, rfl⟩ := ha.shape3
        obtain ⟨V, hV⟩ : ∃ V, V = wr.alloc (.cells #[.string nm, .int .i64 kd, .slice xa xn xc, .slice ya yn yc, .int .i64 n] 42) := ⟨_, rfl⟩
        have HVV : Hid (V = wr.alloc (.cells #[.string nm, .int .i64 kd, .slice xa xn xc, .slice ya yn yc, .int .i64 n] 42)) := hV
        have HPV : Hid (Below wr.heap.size wr V) := by show Below _ _ _; rw [hV]; exact Below.push (Below.refl _ _) _
        have hsr : J.heap.size ≤ wr.heap.size := HB.out.size
        have HBV : Hid (Below J.heap.size J V) := by show Below _ _ _; rw [hV]; exact HB.out.alloc hsr _
        have v1 : V.cell? ⟨wr.heap.size, 1, none⟩ = some (.int .i64 kd) := by rw [hV]; simp
        have HOV : Hid (Own V J.heap.size u4 (lvN L 1 k)) := HO.out.later HPV.out
        have hsz : J.heap.size ≤ V.heap.size := Nat.le_trans hsr HPV.out.size
        have gk : (k : Int) < L.length := by omega
        have hul := lvN_len L 1 L.length
        have hul2 := lvN_len L 1 k
        have hul3 := lvN_len L 1 (k + 1)
        clear ha hd hz ht hV
        by_cases hm : kd = 1
        · have HU : Hid (lvN L 1 (k + 1) = lvN L 1 k ++ [(k : Int)]) := by show _ = _; rw [lvN, HL.out]; simp only [hm, if_true]
          have hb : (kd == 1) = true := by simpa using hm
          clear hm
          go_upto_region 10 with fail
          rw [← HVV.out]
          go_wp2_with (at_builtin; refine wpList_append_own _ rfl _ _ 23 rfl J.heap.size 3 i3 (.int .i64 0) 1 8 Try.underlying23 HI.out HZ0.out HZ1.out HZ2.out rfl (by decide) _ _ _ rfl (HOV.out.row.alloc _) ⟨V.heap.size, 0, none⟩ 1 1 [.int .i64 k] rfl rfl ?c1 ?c2 ?c3 ?c4 ?c5 ?_)
          case c1 => exact cell_one_new _ _ _
          case c2 => intro u hu; simp at hu; subst hu; rfl
          case c3 => unfold maxLen; first | omega | (simp only [List.length_append]; omega)
          case c4 => first | omega | (simp only [List.length_append]; omega)
          case c5 => first | (simp only [List.length_append]; omega) | (simp; omega)
          intro v1 w1 ho hg _
          have HO1 : Hid (Own w1 J.heap.size v1 (lvN L 1 (k + 1))) := by
            refine ⟨?_, ?_⟩
            · rw [HU.out]
              simp only [List.length_append, List.map_append, ← List.append_assoc, List.length_cons, List.length_nil, List.map_cons, List.map_nil, Nat.add_assoc] at ho ⊢
              exact ho
            · try simp only [List.length_append]
              unfold big
              omega
          have HB1 : Hid (Below J.heap.size J w1) := (HBV.out.alloc hsz _).grown hg (by simp; omega) (fun q hq => (HOV.out.row.lt q hq).1)
          clear ho hg
          go_wp2
          go_roundw
          case rel => exact ⟨k + 1, by omega, by go_num, HO1.out, HB1.out⟩
          case measure => simp [intOf]; omega
        · have HU : Hid (lvN L 1 (k + 1) = lvN L 1 k) := by show _ = _; rw [lvN, HL.out]; simp only [if_neg hm, List.append_nil]
          have hb : (kd == 1) = false := by simpa using hm
          clear hm
          go_upto_region 10 with fail
          rw [← HVV.out]
          go_wp2
          go_roundw
          case rel => exact ⟨k + 1, by omega, by go_num, by show Own _ _ _ _; rw [HU.out]; exact HOV.out, HBV.out⟩
          case measure => simp [intOf]; omega
      · have hk' : k = L.length := by omega
        subst hk'
        have HIT1 : Hid (It wr w2.heap.size ⟨#[1, 2]⟩ 1) := (HB.out.block _ HJS.out).trans HIT.out
        have hn2 : ∀ ty, (Instr.next (.pointer (some ⟨w2.heap.size, 0, none⟩)) true ty).run Try.prog wr = _ := fun ty => HIT1.out.nx (by decide) 2 (by decide) (by decide) ty
        obtain ⟨K, hK⟩ : ∃ K, wr.iterAt w2.heap.size ⟨#[1, 2]⟩ (1 + 1) = K := ⟨_, rfl⟩
        have HIT2 : Hid (It K w2.heap.size ⟨#[1, 2]⟩ 2) := by show It _ _ _ _; rw [← hK]; exact HIT1.out.moved 2
        have HOK : Hid (Own K J.heap.size u4 (lvN L 1 L.length)) := by show Own _ _ _ _; rw [← hK]; exact HO.out.iterAt HJS.out _ _
        have HBK : Hid (Below w.heap.size w K) := by show Below _ _ _; rw [← hK]; exact Lib.below_iterAt HBW.out HW2.out _ _
        have HKS : Hid (J.heap.size ≤ K.heap.size) := by show _ ≤ _; rw [← hK, Lib.iterAt_size]; exact HB.out.size
        have HWJ : Hid (w.heap.size ≤ J.heap.size) := Nat.le_trans HW2.out (Nat.le_of_lt HJS.out)
        rw [hK] at hn2
        clear hK
        go_wp2
        rw [rounds_succ]
        go_wp2
        go_loopw [4, 18] (fun v i' w' => ∃ (j : Nat), j ≤ L.length ∧ i' = .int .i64 j ∧ Hid (Own w' J.heap.size v (lvN L 1 L.length ++ lvN L 2 j)) ∧ Hid (Below J.heap.size K w')) (fun _ i _ => L.length - (intOf i).toNat)
        case atStart => exact ⟨0, Nat.zero_le _, rfl, by show Own _ _ _ _; rw [lvN, List.append_nil]; exact HOK.out, Below.refl _ _⟩
        case round =>
          obtain ⟨k, hk, rfl, HO, HB⟩ := hrel
          have HBW : Hid (Below w.heap.size w wr) := HBK.out.trans (HB.out.mono HWJ.out)
          by_cases hlt : k < L.length
          · obtain ⟨b, off, y0, y1, rfl, hnd⟩ := (HN.out.later HBW.out).row k hlt
            obtain ⟨t, ht⟩ : ∃ t, L[k] = t := ⟨_, rfl⟩
            have HL : Hid (L[k]? = some t) := by show _ = _; rw [List.getElem?_eq_getElem hlt, ht]
            rw [ht] at hnd
            obtain ⟨nm, kd, ar, ds, n⟩ := t
            obtain ⟨c0, c1, c2, c3, c4, ha, hd, hz⟩ := hnd
            simp only at c0 c1 c2 c3 c4 ha hd hz
            obtain ⟨ya, yn, yc, rfl⟩ := hd.shape3
            obtain ⟨xa, xn, xc, rfl⟩ := ha.shape3
            obtain ⟨V, hV⟩ : ∃ V, V = wr.alloc (.cells #[.string nm, .int .i64 kd, .slice xa xn xc, .slice ya yn yc, .int .i64 n] 42) := ⟨_, rfl⟩
            have HVV : Hid (V = wr.alloc (.cells #[.string nm, .int .i64 kd, .slice xa xn xc, .slice ya yn yc, .int .i64 n] 42)) := hV
            have HPV : Hid (Below wr.heap.size wr V) := by show Below _ _ _; rw [hV]; exact Below.push (Below.refl _ _) _
            have hsr : J.heap.size ≤ wr.heap.size := Nat.le_trans HKS.out HB.out.size
            have HBV : Hid (Below J.heap.size K V) := by show Below _ _ _; rw [hV]; exact HB.out.alloc hsr _
            have v1 : V.cell? ⟨wr.heap.size, 1, none⟩ = some (.int .i64 kd) := by rw [hV]; simp
            have HOV : Hid (Own V J.heap.size u4 (lvN L 1 L.length ++ lvN L 2 k)) := HO.out.later HPV.out
            have hsz : J.heap.size ≤ V.heap.size := Nat.le_trans hsr HPV.out.size
            have gk : (k : Int) < L.length := by omega
            have hul := lvN_len L 1 L.length
            have hul2 := lvN_len L 2 k
            have hul3 := lvN_len L 2 (k + 1)
            clear ha hd hz ht hV
            by_cases hm : kd = 2
            · have HU : Hid (lvN L 2 (k + 1) = lvN L 2 k ++ [(k : Int)]) := by show _ = _; rw [lvN, HL.out]; simp only [hm, if_true]
              have hb : (kd == 2) = true := by simpa using hm
              clear hm
              go_upto_region 10 with fail
              rw [← HVV.out]
              go_wp2_with (at_builtin; refine wpList_append_own _ rfl _ _ 23 rfl J.heap.size 3 i3 (.int .i64 0) 1 8 Try.underlying23 HI.out HZ0.out HZ1.out HZ2.out rfl (by decide) _ _ _ rfl (HOV.out.row.alloc _) ⟨V.heap.size, 0, none⟩ 1 1 [.int .i64 k] rfl rfl ?c1 ?c2 ?c3 ?c4 ?c5 ?_)
              case c1 => exact cell_one_new _ _ _
              case c2 => intro u hu; simp at hu; subst hu; rfl
              case c3 => unfold maxLen; first | omega | (simp only [List.length_append]; omega)
              case c4 => first | omega | (simp only [List.length_append]; omega)
              case c5 => first | (simp only [List.length_append]; omega) | (simp; omega)
              intro v1 w1 ho hg _
              have HO1 : Hid (Own w1 J.heap.size v1 (lvN L 1 L.length ++ lvN L 2 (k + 1))) := by
                refine ⟨?_, ?_⟩
                · rw [HU.out]
                  simp only [List.length_append, List.map_append, ← List.append_assoc, List.length_cons, List.length_nil, List.map_cons, List.map_nil, Nat.add_assoc] at ho ⊢
                  exact ho
                · try simp only [List.length_append]
                  unfold big
                  omega
              have HB1 : Hid (Below J.heap.size K w1) := (HBV.out.alloc hsz _).grown hg (by simp; omega) (fun q hq => (HOV.out.row.lt q hq).1)
              clear ho hg
              go_wp2
              go_roundw
              case rel => exact ⟨k + 1, by omega, by go_num, HO1.out, HB1.out⟩
              case measure => simp [intOf]; omega
            · have HU : Hid (lvN L 2 (k + 1) = lvN L 2 k) := by show _ = _; rw [lvN, HL.out]; simp only [if_neg hm, List.append_nil]
              have hb : (kd == 2) = false := by simpa using hm
              clear hm
              go_upto_region 10 with fail
              rw [← HVV.out]
              go_wp2
              go_roundw
              case rel => exact ⟨k + 1, by omega, by go_num, by show Own _ _ _ _; rw [HU.out]; exact HOV.out, HBV.out⟩
              case measure => simp [intOf]; omega
          · have hk' : k = L.length := by omega
            subst hk'
            have HIT3 : Hid (It wr w2.heap.size ⟨#[1, 2]⟩ 2) := (HB.out.block _ HJS.out).trans HIT2.out
            have hn3 : ∀ ty, (Instr.next (.pointer (some ⟨w2.heap.size, 0, none⟩)) true ty).run Try.prog wr = _ := fun ty => HIT3.out.nd (by decide) ty
            have HOE : Hid (Own wr w.heap.size u4 (levs L)) := HO.out.mono HWJ.out
            obtain ⟨s7, n7, c7, rfl⟩ := HO.out.ints.shape3
            go_wp2
            rw [rounds_succ]
            go_wp2
            go_ret2
            exact ⟨_, rfl, HOE.out, HBW.out⟩
/-- What the package's ways tell. -/
theorem faces8 : Faces := ⟨fun h hs q hq => check8_any h hs q hq, fun h hs q hq => nodes8_any h hs q hq, fun h hs q hq => leaves8_any h hs q hq, fun h hs i z hz => uses8_any h hs i z hz⟩
end
section
set_option linter.unusedVariables false
set_option linter.unusedSimpArgs false
set_option maxRecDepth 100000
open Go.RowKit

set_option maxHeartbeats 4000000 in
theorem infer8_any {vd v u : Value} {d A : List Int} {L : List Nod} {w : World} (k n : Int) (h : NodesL w v L) (hs : Small L) (hd : Ints w vd d) (hA : Ints w u A) (hlen : A.length ≤ 100000000) (q : Bool) (hq : nodesB L = q) (E : Int) (R : List Int) (hE : inE k n d L A = E) (hR : inR k n d L A = R) :
    Calls Try.prog 8 #[.int .i64 k, .int .i64 n, vd, v, u] w fun e w' => ∃ x, e = .returned (.tuple #[x, .int .i64 (if q then E else 1)]) ∧ Own w' w.heap.size x (if q then R else []) ∧ Below w.heap.size w w' := by
  have HN : Hid (NodesL w v L) := h
  have HS : Hid (Small L) := hs
  have HA : Hid (Ints w u A) := hA
  have HD : Hid (Ints w vd d) := hd
  have HQ : Hid (nodesB L = q) := hq
  have HE : Hid (inE k n d L A = E) := hE
  have HR : Hid (inR k n d L A = R) := hR
  obtain ⟨va, vc, rfl, hc1, hc2⟩ := h.shape
  obtain ⟨da, dn, dc, rfl⟩ := hd.shape3
  obtain ⟨ua, un, uc, rfl⟩ := hA.shape3
  unfold big at hc2
  clear h hs hd hA hq hE hR
  cases q with
  | false =>
    go_enter Try.func8, Try.ntmps8
    go_wp2_with (go_at_call 17; refine (nodes8_any HN.out HS.out false HQ.out).mono ?_; rintro e w2 ⟨rfl, hb2⟩; have HB2 : Hid (Below w.heap.size w w2) := hb2; clear hb2)
    go_ret2
    exact ⟨_, rfl, Own.nil _ _, HB2.out⟩
  | true =>
    go_enter Try.func8, Try.ntmps8
    go_wp2_with (first
      | (go_at_call 17; refine (nodes8_any HN.out HS.out true HQ.out).mono ?_; rintro e w2 ⟨rfl, hb2⟩; have HB2 : Hid (Below w.heap.size w w2) := hb2; clear hb2)
      | (go_at_call 23; refine (made_any k n (HN.out.later HB2.out) (HD.out.later HB2.out) (HA.out.later HB2.out) hlen E R HE.out HR.out).mono ?_; rintro e w3 ⟨x3, rfl, ho, hb3⟩; have HO3 : Hid (Own w3 w.heap.size x3 R) := ho.mono HB2.out.size; have HB3 : Hid (Below w.heap.size w w3) := Below.after HB2.out hb3; obtain ⟨s7, n7, c7, rfl⟩ := ho.ints.shape3; clear ho hb3))
    go_ret2
    exact ⟨_, rfl, HO3.out, HB3.out⟩
end
end Go.Proofs.Ytjfkhfahpjdidaa
