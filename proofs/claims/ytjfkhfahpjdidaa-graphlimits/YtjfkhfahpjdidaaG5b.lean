/- Contract: graph's Leaves; all of the package's ways. -/
import Derived.Test.YtjfkhfahpjdidaaG5
namespace Go.Proofs.Ytjfkhfahpjdidaa
set_option linter.unusedVariables false
set_option linter.unusedSimpArgs false
set_option maxRecDepth 100000
open Go.RowKit

theorem Own.iterAt {w : World} {B I : Nat} {v : Value} {d : List Int} (h : Own w B v d) (hi : I < B) (s : ByteArray) (q : Nat) : Own (w.iterAt I s q) B v d := h.at fun k hk => Lib.iterAt_other w I k s q (by have := h.frm k hk; omega)
set_option maxHeartbeats 16000000 in
theorem leaves8_any {v : Value} {L : List Nod} {w : World} (h : NodesL w v L) (hs : Small L) (q : Bool) (hq : grpB L = q) :
    Calls Try.prog 14 #[v] w fun e w' => ∃ x, e = .returned (.tuple #[x, .int .i64 (if q then 0 else 1)]) ∧ Own w' w.heap.size x (if q then levs L else []) ∧ Below w.heap.size w w' := by
  have HN : Hid (NodesL w v L) := h
  have HS : Hid (Small L) := hs
  have HQ : Hid (grpB L = q) := hq
  obtain ⟨va, vc, rfl, hc1, hc2⟩ := h.shape
  obtain ⟨i3, hi, hz0, hz1, hz2⟩ := info3
  have HI : Hid (Try.prog.info? 3 = some i3) := hi
  have HZ0 : Hid (i3.zero = some (.int .i64 0)) := hz0
  have HZ1 : Hid (i3.size = 1) := hz1
  have HZ2 : Hid (i3.bytes = 8) := hz2
  have hLn := hs.n
  unfold big at hc2
  clear h hs hq hi hz0 hz1 hz2
  cases q with
  | false =>
    go_enter Try.func14, Try.ntmps14
    go_wp2_with (go_at_call 19; refine (check8_any HN.out HS.out false HQ.out).mono ?_; rintro e w2 ⟨rfl, hb2⟩; have HB2 : Hid (Below w.heap.size w w2) := hb2; clear hb2)
    go_ret2
    exact ⟨_, rfl, Own.nil _ _, HB2.out⟩
  | true =>
    go_enter Try.func14, Try.ntmps14
    go_wp2_with fail
    refine (check8_any HN.out HS.out true HQ.out).mono ?_
    rintro e w2 ⟨rfl, hb2⟩
    have HB2 : Hid (Below w.heap.size w w2) := hb2
    have hd0 : Utf8.decode ⟨#[1, 2]⟩ 0 = (1, 1) := by decide +kernel
    have HD1 : Hid (Utf8.decode ⟨#[1, 2]⟩ 1 = (2, 1)) := by show _ = _; decide +kernel
    have hn1 : ∀ ty, (Instr.next (.pointer (some ⟨w2.heap.size, 0, none⟩)) true ty).run Try.prog (w2.iter ⟨#[1, 2]⟩ 0) = _ := fun ty => run_next_any w2 ⟨#[1, 2]⟩ 0 ty (by decide)
    rw [hd0] at hn1
    simp only [Nat.zero_add] at hn1
    obtain ⟨J, hJ⟩ : ∃ J, w2.iter ⟨#[1, 2]⟩ 1 = J := ⟨_, rfl⟩
    have HIT : Hid (It J w2.heap.size ⟨#[1, 2]⟩ 1) := by show It _ _ _ _; rw [← hJ]; exact It.new w2 _ 1
    have HJS : Hid (w2.heap.size < J.heap.size) := HIT.out.lt
    have HBJ : Hid (Below w.heap.size w J) := by show Below _ _ _; rw [← hJ]; exact Below.after hb2 ((Below.refl _ _).alloc (Nat.le_refl _) _)
    have HW2 : Hid (w.heap.size ≤ w2.heap.size) := hb2.size
    rw [hJ] at hn1
    clear hb2 hd0 hJ
    go_wp2
    refine wp_loop_rounds 3 ?_
    rw [rounds_succ]
    go_wp2
    go_loopw [4, 18] (fun v i' w' => ∃ (j : Nat), j ≤ L.length ∧ i' = .int .i64 j ∧ Hid (Own w' J.heap.size v (lvN L 1 j)) ∧ Hid (Below J.heap.size J w')) (fun _ i _ => L.length - (intOf i).toNat)
    case atStart => exact ⟨0, Nat.zero_le _, rfl, Own.nil _ _, Below.refl _ _⟩
    case round =>
      obtain ⟨k, hk, rfl, HO, HB⟩ := hrel
      have HBW : Hid (Below w.heap.size w wr) := Below.after HBJ.out HB.out
      by_cases hlt : k < L.length
      · obtain ⟨b, off, y0, y1, rfl, hnd⟩ := (HN.out.later HBW.out).row k hlt
        obtain ⟨t, ht⟩ : ∃ t, L[k] = t := ⟨_, rfl⟩
        have HL : Hid (L[k]? = some t) := by show _ = _; rw [List.getElem?_eq_getElem hlt, ht]
        rw [ht] at hnd
        obtain ⟨nm, kd, ar, ds, n⟩ := t
        obtain ⟨c0, c1, c2, c3, c4, ha, hd, hz⟩ := hnd
        simp only at c0 c1 c2 c3 c4 ha hd hz
        obtain ⟨ya, yn, yc, rfl⟩ := hd.shape3
        obtain ⟨xa, xn, xc, rfl⟩ := ha.shape3
        obtain ⟨V, hV⟩ : ∃ V, V = wr.alloc (.cells #[.string nm, .int .i64 kd, .slice xa xn xc, .slice ya yn yc, .int .i64 n] 42) := ⟨_, rfl⟩
        have HVV : Hid (V = wr.alloc (.cells #[.string nm, .int .i64 kd, .slice xa xn xc, .slice ya yn yc, .int .i64 n] 42)) := hV
        have HPV : Hid (Below wr.heap.size wr V) := by show Below _ _ _; rw [hV]; exact Below.push (Below.refl _ _) _
        have hsr : J.heap.size ≤ wr.heap.size := HB.out.size
        have HBV : Hid (Below J.heap.size J V) := by show Below _ _ _; rw [hV]; exact HB.out.alloc hsr _
        have v1 : V.cell? ⟨wr.heap.size, 1, none⟩ = some (.int .i64 kd) := by rw [hV]; simp
        have HOV : Hid (Own V J.heap.size u4 (lvN L 1 k)) := HO.out.later HPV.out
        have hsz : J.heap.size ≤ V.heap.size := Nat.le_trans hsr HPV.out.size
        have gk : (k : Int) < L.length := by omega
        have hul := lvN_len L 1 L.length
        have hul2 := lvN_len L 1 k
        have hul3 := lvN_len L 1 (k + 1)
        clear ha hd hz ht hV
        by_cases hm : kd = 1
        · have HU : Hid (lvN L 1 (k + 1) = lvN L 1 k ++ [(k : Int)]) := by show _ = _; rw [lvN, HL.out]; simp only [hm, if_true]
          have hb : (kd == 1) = true := by simpa using hm
          clear hm
          go_upto_region 10 with fail
          rw [← HVV.out]
          go_wp2_with (at_builtin; refine wpList_append_own _ rfl _ _ 23 rfl J.heap.size 3 i3 (.int .i64 0) 1 8 Try.underlying23 HI.out HZ0.out HZ1.out HZ2.out rfl (by decide) _ _ _ rfl (HOV.out.row.alloc _) ⟨V.heap.size, 0, none⟩ 1 1 [.int .i64 k] rfl rfl ?c1 ?c2 ?c3 ?c4 ?c5 ?_)
          case c1 => exact cell_one_new _ _ _
          case c2 => intro u hu; simp at hu; subst hu; rfl
          case c3 => unfold maxLen; first | omega | (simp only [List.length_append]; omega)
          case c4 => first | omega | (simp only [List.length_append]; omega)
          case c5 => first | (simp only [List.length_append]; omega) | (simp; omega)
          intro v1 w1 ho hg _
          have HO1 : Hid (Own w1 J.heap.size v1 (lvN L 1 (k + 1))) := by
            refine ⟨?_, ?_⟩
            · rw [HU.out]
              simp only [List.length_append, List.map_append, ← List.append_assoc, List.length_cons, List.length_nil, List.map_cons, List.map_nil, Nat.add_assoc] at ho ⊢
              exact ho
            · try simp only [List.length_append]
              unfold big
              omega
          have HB1 : Hid (Below J.heap.size J w1) := (HBV.out.alloc hsz _).grown hg (by simp; omega) (fun q hq => (HOV.out.row.lt q hq).1)
          clear ho hg
          go_wp2
          go_roundw
          case rel => exact ⟨k + 1, by omega, by go_num, HO1.out, HB1.out⟩
          case measure => simp [intOf]; omega
        · have HU : Hid (lvN L 1 (k + 1) = lvN L 1 k) := by show _ = _; rw [lvN, HL.out]; simp only [if_neg hm, List.append_nil]
          have hb : (kd == 1) = false := by simpa using hm
          clear hm
          go_upto_region 10 with fail
          rw [← HVV.out]
          go_wp2
          go_roundw
          case rel => exact ⟨k + 1, by omega, by go_num, by show Own _ _ _ _; rw [HU.out]; exact HOV.out, HBV.out⟩
          case measure => simp [intOf]; omega
      · have hk' : k = L.length := by omega
        subst hk'
        have HIT1 : Hid (It wr w2.heap.size ⟨#[1, 2]⟩ 1) := (HB.out.block _ HJS.out).trans HIT.out
        have hn2 : ∀ ty, (Instr.next (.pointer (some ⟨w2.heap.size, 0, none⟩)) true ty).run Try.prog wr = _ := fun ty => HIT1.out.nx (by decide) 2 (by decide) (by decide) ty
        obtain ⟨K, hK⟩ : ∃ K, wr.iterAt w2.heap.size ⟨#[1, 2]⟩ (1 + 1) = K := ⟨_, rfl⟩
        have HIT2 : Hid (It K w2.heap.size ⟨#[1, 2]⟩ 2) := by show It _ _ _ _; rw [← hK]; exact HIT1.out.moved 2
        have HOK : Hid (Own K J.heap.size u4 (lvN L 1 L.length)) := by show Own _ _ _ _; rw [← hK]; exact HO.out.iterAt HJS.out _ _
        have HBK : Hid (Below w.heap.size w K) := by show Below _ _ _; rw [← hK]; exact Lib.below_iterAt HBW.out HW2.out _ _
        have HKS : Hid (J.heap.size ≤ K.heap.size) := by show _ ≤ _; rw [← hK, Lib.iterAt_size]; exact HB.out.size
        have HWJ : Hid (w.heap.size ≤ J.heap.size) := Nat.le_trans HW2.out (Nat.le_of_lt HJS.out)
        rw [hK] at hn2
        clear hK
        go_wp2
        rw [rounds_succ]
        go_wp2
        go_loopw [4, 18] (fun v i' w' => ∃ (j : Nat), j ≤ L.length ∧ i' = .int .i64 j ∧ Hid (Own w' J.heap.size v (lvN L 1 L.length ++ lvN L 2 j)) ∧ Hid (Below J.heap.size K w')) (fun _ i _ => L.length - (intOf i).toNat)
        case atStart => exact ⟨0, Nat.zero_le _, rfl, by show Own _ _ _ _; rw [lvN, List.append_nil]; exact HOK.out, Below.refl _ _⟩
        case round =>
          obtain ⟨k, hk, rfl, HO, HB⟩ := hrel
          have HBW : Hid (Below w.heap.size w wr) := HBK.out.trans (HB.out.mono HWJ.out)
          by_cases hlt : k < L.length
          · obtain ⟨b, off, y0, y1, rfl, hnd⟩ := (HN.out.later HBW.out).row k hlt
            obtain ⟨t, ht⟩ : ∃ t, L[k] = t := ⟨_, rfl⟩
            have HL : Hid (L[k]? = some t) := by show _ = _; rw [List.getElem?_eq_getElem hlt, ht]
            rw [ht] at hnd
            obtain ⟨nm, kd, ar, ds, n⟩ := t
            obtain ⟨c0, c1, c2, c3, c4, ha, hd, hz⟩ := hnd
            simp only at c0 c1 c2 c3 c4 ha hd hz
            obtain ⟨ya, yn, yc, rfl⟩ := hd.shape3
            obtain ⟨xa, xn, xc, rfl⟩ := ha.shape3
            obtain ⟨V, hV⟩ : ∃ V, V = wr.alloc (.cells #[.string nm, .int .i64 kd, .slice xa xn xc, .slice ya yn yc, .int .i64 n] 42) := ⟨_, rfl⟩
            have HVV : Hid (V = wr.alloc (.cells #[.string nm, .int .i64 kd, .slice xa xn xc, .slice ya yn yc, .int .i64 n] 42)) := hV
            have HPV : Hid (Below wr.heap.size wr V) := by show Below _ _ _; rw [hV]; exact Below.push (Below.refl _ _) _
            have hsr : J.heap.size ≤ wr.heap.size := Nat.le_trans HKS.out HB.out.size
            have HBV : Hid (Below J.heap.size K V) := by show Below _ _ _; rw [hV]; exact HB.out.alloc hsr _
            have v1 : V.cell? ⟨wr.heap.size, 1, none⟩ = some (.int .i64 kd) := by rw [hV]; simp
            have HOV : Hid (Own V J.heap.size u4 (lvN L 1 L.length ++ lvN L 2 k)) := HO.out.later HPV.out
            have hsz : J.heap.size ≤ V.heap.size := Nat.le_trans hsr HPV.out.size
            have gk : (k : Int) < L.length := by omega
            have hul := lvN_len L 1 L.length
            have hul2 := lvN_len L 2 k
            have hul3 := lvN_len L 2 (k + 1)
            clear ha hd hz ht hV
            by_cases hm : kd = 2
            · have HU : Hid (lvN L 2 (k + 1) = lvN L 2 k ++ [(k : Int)]) := by show _ = _; rw [lvN, HL.out]; simp only [hm, if_true]
              have hb : (kd == 2) = true := by simpa using hm
              clear hm
              go_upto_region 10 with fail
              rw [← HVV.out]
              go_wp2_with (at_builtin; refine wpList_append_own _ rfl _ _ 23 rfl J.heap.size 3 i3 (.int .i64 0) 1 8 Try.underlying23 HI.out HZ0.out HZ1.out HZ2.out rfl (by decide) _ _ _ rfl (HOV.out.row.alloc _) ⟨V.heap.size, 0, none⟩ 1 1 [.int .i64 k] rfl rfl ?c1 ?c2 ?c3 ?c4 ?c5 ?_)
              case c1 => exact cell_one_new _ _ _
              case c2 => intro u hu; simp at hu; subst hu; rfl
              case c3 => unfold maxLen; first | omega | (simp only [List.length_append]; omega)
              case c4 => first | omega | (simp only [List.length_append]; omega)
              case c5 => first | (simp only [List.length_append]; omega) | (simp; omega)
              intro v1 w1 ho hg _
              have HO1 : Hid (Own w1 J.heap.size v1 (lvN L 1 L.length ++ lvN L 2 (k + 1))) := by
                refine ⟨?_, ?_⟩
                · rw [HU.out]
                  simp only [List.length_append, List.map_append, ← List.append_assoc, List.length_cons, List.length_nil, List.map_cons, List.map_nil, Nat.add_assoc] at ho ⊢
                  exact ho
                · try simp only [List.length_append]
                  unfold big
                  omega
              have HB1 : Hid (Below J.heap.size K w1) := (HBV.out.alloc hsz _).grown hg (by simp; omega) (fun q hq => (HOV.out.row.lt q hq).1)
              clear ho hg
              go_wp2
              go_roundw
              case rel => exact ⟨k + 1, by omega, by go_num, HO1.out, HB1.out⟩
              case measure => simp [intOf]; omega
            · have HU : Hid (lvN L 2 (k + 1) = lvN L 2 k) := by show _ = _; rw [lvN, HL.out]; simp only [if_neg hm, List.append_nil]
              have hb : (kd == 2) = false := by simpa using hm
              clear hm
              go_upto_region 10 with fail
              rw [← HVV.out]
              go_wp2
              go_roundw
              case rel => exact ⟨k + 1, by omega, by go_num, by show Own _ _ _ _; rw [HU.out]; exact HOV.out, HBV.out⟩
              case measure => simp [intOf]; omega
          · have hk' : k = L.length := by omega
            subst hk'
            have HIT3 : Hid (It wr w2.heap.size ⟨#[1, 2]⟩ 2) := (HB.out.block _ HJS.out).trans HIT2.out
            have hn3 : ∀ ty, (Instr.next (.pointer (some ⟨w2.heap.size, 0, none⟩)) true ty).run Try.prog wr = _ := fun ty => HIT3.out.nd (by decide) ty
            have HOE : Hid (Own wr w.heap.size u4 (levs L)) := HO.out.mono HWJ.out
            obtain ⟨s7, n7, c7, rfl⟩ := HO.out.ints.shape3
            go_wp2
            rw [rounds_succ]
            go_wp2
            go_ret2
            exact ⟨_, rfl, HOE.out, HBW.out⟩
/-- What the package's ways tell. -/
theorem faces8 : Faces := ⟨fun h hs q hq => check8_any h hs q hq, fun h hs q hq => nodes8_any h hs q hq, fun h hs q hq => leaves8_any h hs q hq, fun h hs i z hz => uses8_any h hs i z hz⟩
end Go.Proofs.Ytjfkhfahpjdidaa
