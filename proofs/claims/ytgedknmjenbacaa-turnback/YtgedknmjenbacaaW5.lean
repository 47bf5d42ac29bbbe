/- Contracts: Tensor, Clone, CopyNumbers. -/
import Derived.Test.YtgedknmjenbacaaArg
import Derived.Lib.SliceRun
namespace Go.Proofs.Ytgedknmjenbacaa
set_option linter.unusedVariables false
set_option linter.unusedSimpArgs false
open Go.RowKit

theorem own_ints {w : World} {base : Nat} {v : Value} {d : List Int} {n : Nat} {xs : List Value} (hx : xs = d.map (Value.int .i64)) (h : w.ownsRow base 3 1 v n xs) (hb : d.length ≤ big) : Ints w v d := by
  subst hx
  have hl := h.1
  simp at hl
  subst hl
  rcases h.2 with ⟨rfl, h0⟩ | ⟨g, cap, cur, rfl, _, hh, h1, h2, h3, h4⟩
  · have : d = [] := List.eq_nil_of_length_eq_zero h0
    subst this
    exact Ints.nil _
  · refine Ints.mk rfl h1 hb fun i hi => ?_
    rw [Nat.zero_add, cell_of_row w g i cur 3 (0, 0) hh, ← Array.getElem?_toList]
    have : cur.toList[i]? = (cur.toList.take (d.length * 1))[i]? := by rw [List.getElem?_take, if_pos (by omega)]
    rw [this, h4]
    simp [hi]

def tok (t : List Int × List Int) : Bool := okd t.1 && decide ((t.2.length : Int) = prd t.1)
def tkE (t : List Int × List Int) : Int := if tok t then 0 else 1

set_option maxHeartbeats 400000 in
theorem tensor_any {v0 v1 : Value} {t : List Int × List Int} {w : World} (h : Tens w v0 v1 t) :
    Calls Try.prog 30 #[.agg #[v0, v1]] w fun e w' => e = .returned (.int .i64 (tkE t)) ∧ Below w.heap.size w w' := by
  have hb : Below w.heap.size w (w.alloc (.cells #[v0, v1] 31)) := (Below.refl _ _).alloc (Nat.le_refl _) _
  have H0 : Hid (Ints (w.alloc (.cells #[v0, v1] 31)) v0 t.1) := h.1.later hb
  have hl := h.2.len
  unfold big at hl
  obtain ⟨a1, c1, rfl⟩ := h.2.shape
  have HB : Hid (Below w.heap.size w (w.alloc (.cells #[v0, .slice a1 t.2.length c1] 31))) := hb
  clear hb h
  cases ho : okd t.1 with
  | false =>
    have HO : Hid (okd t.1 = false) := ho
    have HT : Hid (tkE t = 1) := by show _ = _; simp [tkE, tok, ho]
    clear ho
    go_enter Try.func30, Try.ntmps30
    go_wp2_with (go_at_call 46; refine (cells_bad H0.out HO.out).mono ?_; rintro e w' ⟨rfl, rfl⟩)
    go_ret
    exact ⟨by rw [HT.out]; rfl, HB.out⟩
  | true =>
    have HO : Hid (okd t.1 = true) := ho
    by_cases hp : (t.2.length : Int) = prd t.1
    · have HT : Hid (tkE t = 0) := by show _ = _; simp [tkE, tok, ho, hp]
      have hne : ((t.2.length : Int) != prd t.1) = false := by simp [hp]
      clear ho hp
      go_enter Try.func30, Try.ntmps30
      go_wp2_with fail
      refine (cells_ok H0.out HO.out).mono ?_
      rintro e w' ⟨rfl, hb⟩
      have hc : w'.cell? ⟨w.heap.size, 1, none⟩ = some (.slice a1 t.2.length c1) := cell_later hb (by simp)
      have HB1 : Hid (Below w.heap.size w w') := Below.after HB.out hb
      clear hb
      go_wp2
      go_ret
      exact ⟨by rw [HT.out]; rfl, HB1.out⟩
    · have HT : Hid (tkE t = 1) := by show _ = _; simp [tkE, tok, ho, hp]
      have hne : ((t.2.length : Int) != prd t.1) = true := by simp [hp]
      clear ho hp
      go_enter Try.func30, Try.ntmps30
      go_wp2_with fail
      refine (cells_ok H0.out HO.out).mono ?_
      rintro e w' ⟨rfl, hb⟩
      have hc : w'.cell? ⟨w.heap.size, 1, none⟩ = some (.slice a1 t.2.length c1) := cell_later hb (by simp)
      have HB1 : Hid (Below w.heap.size w w') := Below.after HB.out hb
      clear hb
      go_wp2
      go_ret
      exact ⟨by rw [HT.out]; rfl, HB1.out⟩

theorem news_cells {w : World} {d : List Int} {b off : Nat} (HC : Hid (∀ i (h : i < d.length), w.cell? ⟨b, off + i, none⟩ = some (.int .i64 d[i]))) :
    ∀ j u, (d.map (Value.int .i64))[j]? = some u → w.cell? ((⟨b, off, none⟩ : Addr).add j) = some u := by
  intro j u hj
  simp only [List.getElem?_map, Option.map_eq_some_iff] at hj
  obtain ⟨x, hx, rfl⟩ := hj
  obtain ⟨hlt, rfl⟩ := List.getElem?_eq_some_iff.1 hx
  have := HC.out j hlt
  by_cases h0 : j = 0
  · subst h0; simpa [Addr.add] using this
  · simpa [Addr.add, h0] using this
theorem ints_one (d : List Int) : ∀ u ∈ d.map (Value.int .i64), u.oneCell' = true := by
  intro u hu
  simp only [List.mem_map] at hu
  obtain ⟨x, _, rfl⟩ := hu
  rfl

set_option maxHeartbeats 400000 in
theorem clone_any {v : Value} {d : List Int} {w : World} (h : Ints w v d) (h1 : 1 ≤ d.length) :
    Calls Try.prog 47 #[v] w fun e w' => ∃ v', e = .returned v' ∧ Ints w' v' d ∧ From w.heap.size v' ∧ Below w.heap.size w w' := by
  have hl := h.len
  rcases h.cases with ⟨rfl, a1, c1, rfl⟩ | ⟨b, off, c, rfl, h0, h2, h3, HC⟩
  · simp only [List.length_nil] at h1; omega
  obtain ⟨i3, hi, hz0, hz1, hz2⟩ := info3
  have HI : Hid (Try.prog.info? 3 = some i3) := hi
  have HZ0 : Hid (i3.zero = some (.int .i64 0)) := hz0
  have HZ1 : Hid (i3.size = 1) := hz1
  have HZ2 : Hid (i3.bytes = 8) := hz2
  have hnil := fun w => Lib.run_eql_slice_nil (P := Try.prog) w 23 3 (some ⟨b, off, none⟩) d.length c 0 0 Try.underlying23
  have HL : Hid (d.length ≤ big) := hl
  clear h hi hz0 hz1 hz2 h3
  unfold big at hl
  go_enter Try.func47, Try.ntmps47
  go_wp2_with (at_builtin; refine wpList_append_own _ rfl _ _ 23 rfl w.heap.size 3 i3 (.int .i64 0) 1 8 Try.underlying23 HI.out HZ0.out HZ1.out HZ2.out rfl (by decide) _ _ _ rfl (World.ownsRow_made w #[] 0 (Nat.le_refl _) (Nat.zero_le _) rfl) ⟨b, off, none⟩ d.length c (d.map (Value.int .i64)) rfl ?c0 ?c1 ?c2 ?c3 ?c4 ?c5 ?_)
  case c0 => simp
  case c1 => exact news_cells (fun i h => cell_later ((Below.refl _ _).alloc (Nat.le_refl _) _) (HC.out i h))
  case c2 => exact ints_one d
  case c3 => unfold maxLen; omega
  case c4 => omega
  case c5 => simp
  intro v1 w1 ho hg _
  have HO : Hid (Ints w1 v1 d) := own_ints rfl ho HL.out
  have HF : Hid (From w.heap.size v1) := fun k hk => (ho.lt k hk).1
  have HB : Hid (Below w.heap.size w w1) := ((Below.refl _ _).alloc (Nat.le_refl _) _).grown hg (by simp) (by intro k hk; simp [Value.ownBlock] at hk; omega)
  clear ho hg
  go_wp2
  go_ret
  exact ⟨_, rfl, HO.out, HF.out, HB.out⟩

set_option maxHeartbeats 400000 in
theorem copy_own {v : Value} {d : List Int} {w : World} (h : Ints w v d) :
    Calls Try.prog 15 #[v] w fun e w' => ∃ v', e = .returned v' ∧ w'.ownsRow w.heap.size 3 1 v' d.length (d.map (Value.int .i64)) ∧ Below w.heap.size w w' := by
  have hl := h.len
  have HL : Hid (d.length ≤ big) := hl
  unfold big at hl
  rcases h.cases with ⟨rfl, a1, c1, rfl⟩ | ⟨b, off, c, rfl, h0, h2, h3, HC⟩
  · clear h
    go_enter Try.func15, Try.ntmps15
    go_wp2
    refine wp_loop_rounds 1 ?_
    rw [rounds_succ]
    go_wp2
    go_ret
    exact ⟨_, rfl, World.ownsRow_nil _ _ _ _, Below.refl _ _⟩
  obtain ⟨i3, hi, hz0, hz1, hz2⟩ := info3
  have HI : Hid (Try.prog.info? 3 = some i3) := hi
  have HZ0 : Hid (i3.zero = some (.int .i64 0)) := hz0
  have HZ1 : Hid (i3.size = 1) := hz1
  have HZ2 : Hid (i3.bytes = 8) := hz2
  clear h hi hz0 hz1 hz2 h3
  go_enter Try.func15, Try.ntmps15
  go_wp2
  go_loopw [3, 4] (fun v i w' => ∃ k : Nat, k ≤ d.length ∧ i = .int .i64 k ∧ w'.ownsRow w.heap.size 3 1 v k ((d.take k).map (Value.int .i64)) ∧ Below w.heap.size w w') (fun _ i _ => d.length - (intOf i).toNat)
  case atStart => exact ⟨0, Nat.zero_le _, rfl, World.ownsRow_nil _ _ _ _, Below.refl _ _⟩
  case round =>
    obtain ⟨k, hk, rfl, hown, hbel⟩ := hrel
    have HB : Hid (Below w.heap.size w wr) := hbel
    have HO : Hid (wr.ownsRow w.heap.size 3 1 _ k ((d.take k).map (Value.int .i64))) := hown
    have hsz := hbel.size
    clear hbel hown
    by_cases hlt : k < d.length
    · have hc := cell_later HB.out (HC.out k hlt)
      have HT : Hid (d.take (k + 1) = d.take k ++ [d[k]]) := take_snoc d k hlt
      go_wp2_with (at_builtin; refine wpList_append_own _ rfl _ _ 23 rfl w.heap.size 3 i3 (.int .i64 0) 1 8 Try.underlying23 HI.out HZ0.out HZ1.out HZ2.out rfl (by decide) _ _ _ rfl (HO.out.alloc _) ⟨wr.heap.size, 0, none⟩ 1 1 [.int .i64 d[k]] rfl rfl ?c1 ?c2 ?c3 ?c4 ?c5 ?_)
      case c1 => exact cell_one_new _ _ _
      case c2 => intro u hu; simp at hu; subst hu; rfl
      case c3 => unfold maxLen; omega
      case c4 => omega
      case c5 => simp; omega
      intro v1 w1 ho hg _
      have HO1 : Hid (w1.ownsRow w.heap.size 3 1 v1 (k + 1) ((d.take (k + 1)).map (Value.int .i64))) := by
        show World.ownsRow _ _ _ _ _ _ _
        rw [HT.out, List.map_append, List.map_take]
        exact ho
      have HB1 : Hid (Below w.heap.size w w1) := (HB.out.alloc hsz _).grown hg (by simp; omega) (fun q hq => (HO.out.lt q hq).1)
      clear ho hg
      go_wp2
      go_roundw
      case rel => exact ⟨k + 1, by omega, by go_num, HO1.out, HB1.out⟩
      case measure => simp [intOf]; omega
    · have hk' : k = d.length := by omega
      subst hk'
      go_wp2
      go_ret
      have := HO.out
      rw [List.take_length] at this
      exact ⟨_, rfl, this, HB.out⟩

theorem copy_any {v : Value} {d : List Int} {w : World} (h : Ints w v d) :
    Calls Try.prog 15 #[v] w fun e w' => ∃ v', e = .returned v' ∧ Ints w' v' d ∧ From w.heap.size v' ∧ Below w.heap.size w w' := by
  refine (copy_own h).mono ?_
  rintro e w' ⟨v', rfl, ho, hb⟩
  exact ⟨v', rfl, own_ints rfl ho h.len, fun k hk => (ho.lt k hk).1, hb⟩

theorem own_set {w : World} {base g n cap : Nat} {d : List Int} (h : w.ownsRow base 3 1 (.slice (some ⟨g, 0, none⟩) n cap) n (d.map (Value.int .i64))) (hb : d.length ≤ big) (j : Nat) (hj : j < d.length) (x : Int) :
    w.cell? ⟨g, j, none⟩ = some (.int .i64 d[j]) ∧ w.frozen? ⟨g, j, none⟩ = false ∧ base ≤ g ∧ Ints (w.setCell ⟨g, j, none⟩ (.int .i64 x)) (.slice (some ⟨g, 0, none⟩) n cap) (d.set j x) := by
  have hl := h.1
  simp at hl
  subst hl
  rcases h.2 with ⟨h0, _⟩ | ⟨g', cap', cur, he, hbase, hh, h1, h2, h3, h4⟩
  · simp at h0
  simp only [Value.slice.injEq, Option.some.injEq, Addr.mk.injEq, and_true, true_and] at he
  obtain ⟨rfl, rfl⟩ := he
  have hcell : ∀ i (hi : i < d.length), cur[i]? = some (.int .i64 d[i]) := by
    intro i hi
    rw [← Array.getElem?_toList]
    have : cur.toList[i]? = (cur.toList.take (d.length * 1))[i]? := by rw [List.getElem?_take, if_pos (by omega)]
    rw [this, h4]
    simp [hi]
  refine ⟨?_, frozen_of_row w g j cur 3 hh, hbase, ?_⟩
  · rw [cell_of_row w g j cur 3 (0, 0) hh, hcell j hj]
  · have hs := heap_setCell_same w g j cur 3 (.int .i64 x) hh
    refine Ints.mk (by simp) (by simpa using h1) (by simpa using hb) fun i hi => ?_
    have hi' : i < d.length := by simpa using hi
    rw [Nat.zero_add, cell_of_row _ g i _ 3 (0, 0) hs]
    by_cases e : j = i
    · subst e
      have : j < cur.size := by omega
      simp [this]
    · rw [Array.getElem?_setIfInBounds, if_neg e, hcell i hi']
      simp [List.getElem_set, e]
end Go.Proofs.Ytgedknmjenbacaa
