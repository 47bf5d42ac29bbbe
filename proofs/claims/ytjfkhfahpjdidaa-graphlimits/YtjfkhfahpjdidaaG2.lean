/- Contract: graph's made. -/
import Derived.Test.YtjfkhfahpjdidaaG1
namespace Go.Proofs.Ytjfkhfahpjdidaa
set_option linter.unusedVariables false
set_option linter.unusedSimpArgs false
set_option maxRecDepth 100000
open Go.RowKit

theorem make_rows (n : Nat) (h : n ≤ 1000000000) :
    ∃ arr : Array Value, arr.size = n ∧ ∀ w : World, (Instr.makeSlice 24 (.int .i64 n) (.int .i64 n)).run Try.prog w = .ok (.slice (some ⟨w.heap.size, 0, none⟩) n n) (w.alloc (.cells arr 23)) := by
  obtain ⟨i, h1, h2, h3, h4⟩ := infoI
  have hs := size_madeCells (Value.cells (.slice none 0 0)) (n * i.size)
  refine ⟨_, hs.trans (by rw [h3]; omega), fun w => ?_⟩
  have := run_make (P := Try.prog) w 24 23 i (.slice none 0 0) Try.underlying24 h1 h2 .i64 .i64 n n (by omega) (by omega) (by rw [h4]; omega) (by omega)
  rw [Int.toNat_natCast] at this
  exact this
/-- The first k of the parts are laid. -/
structure PB (w0 w : World) (Z n k : Nat) (P : List (List Int)) : Prop where
  blk : ∃ arr : Array Value, w.heap[Z]? = some (.cells arr 23 (0, 0)) ∧ arr.size = n
  elt : ∀ i (h : i < P.length), i < k → ∃ x, w.cell? ⟨Z, i, none⟩ = some x ∧ Ints w0 x P[i]
theorem PB.cell {w0 w : World} {Z n k : Nat} {P : List (List Int)} (h : PB w0 w Z n k P) (j : Nat) (hj : j < n) : (∃ u, w.cell? ⟨Z, j, none⟩ = some u) ∧ w.frozen? ⟨Z, j, none⟩ = false := by
  obtain ⟨arr, ha, hs⟩ := h.blk
  refine ⟨⟨arr[j]'(by omega), ?_⟩, ?_⟩
  · rw [cell_of_row w Z j arr _ _ ha, Array.getElem?_eq_getElem (by omega)]
  · exact frozen_of_row w Z j arr _ ha
theorem PB.put {w0 w : World} {Z n k : Nat} {P : List (List Int)} {x : Value} (h : PB w0 w Z n k P) (hk : k < P.length) (hn : P.length = n) (ho : Ints w0 x P[k]) :
    PB w0 (w.setCell ⟨Z, k, none⟩ x) Z n (k + 1) P := by
  obtain ⟨arr, ha, hs⟩ := h.blk
  have e1 := heap_setCell_same w Z k arr 23 x ha
  refine ⟨⟨_, e1, by simp [hs]⟩, fun i h1 h2 => ?_⟩
  by_cases hi : i = k
  · subst hi
    refine ⟨x, ?_, ho⟩
    rw [cell_of_row _ Z _ _ _ _ e1]
    have q1 : i < arr.size := by omega
    simp [Array.getElem?_setIfInBounds, q1]
  · obtain ⟨x', c0, ho'⟩ := h.elt i h1 (by omega)
    refine ⟨x', ?_, ho'⟩
    rw [cell_of_row w Z _ _ _ _ ha] at c0
    rw [cell_of_row _ Z _ _ _ _ e1, Array.getElem?_setIfInBounds_ne (by omega)]
    exact c0
theorem PB.intsL {w0 w : World} {Z n : Nat} {P : List (List Int)} (h : PB w0 w Z n n P) (hn : P.length = n) (hb : n ≤ big) (hbel : Below w0.heap.size w0 w) : IntsL w (.slice (some ⟨Z, 0, none⟩) n n) P := by
  refine ⟨by rw [hn]; exact hb, _, n, by rw [hn], by omega, fun i hi => ?_⟩
  obtain ⟨x, c0, ho⟩ := h.elt i hi (by omega)
  exact ⟨Z, 0, x, rfl, by simpa using c0, ho.later hbel⟩
theorem argsB_none {A : List Int} {n : Nat} {k : Nat} (h : k < A.length) (hb : A[k] < 0 ∨ (n : Int) ≤ A[k]) : argsB A n = false := argsB_at h (by
  rcases hb with h | h
  · rw [decide_eq_false (p := 0 ≤ A[k]) (by omega)]; rfl
  · rw [decide_eq_false (p := A[k] ≤ (n : Int) - 1) (by omega), Bool.and_false])
theorem dimsAt_get {L : List Nod} {A : List Int} {k : Nat} (h : k < A.length) (m : Nat) (hm : m < L.length) (e : A[k] = (m : Int)) : (dimsAt L A)[k]'(by rw [dimsAt_len]; exact h) = L[m].dims := by
  simp [dimsAt, e, hm]
set_option maxHeartbeats 8000000 in
theorem made_any {vd v u : Value} {d A : List Int} {L : List Nod} {w : World} (k n : Int) (h : NodesL w v L) (hd : Ints w vd d) (hA : Ints w u A) (hlen : A.length ≤ 100000000) (E : Int) (R : List Int) (hE : inE k n d L A = E) (hR : inR k n d L A = R) :
    Calls Try.prog 23 #[.int .i64 k, .int .i64 n, vd, v, u] w fun e w' => ∃ x, e = .returned (.tuple #[x, .int .i64 E]) ∧ Own w' w.heap.size x R ∧ Below w.heap.size w w' := by
  have HN : Hid (NodesL w v L) := h
  have HA : Hid (Ints w u A) := hA
  have HD : Hid (Ints w vd d) := hd
  obtain ⟨va, vc, rfl, hc1, hc2⟩ := h.shape
  obtain ⟨da, dn, dc, rfl⟩ := hd.shape3
  obtain ⟨ua, uc, rfl⟩ := hA.shape
  unfold big at hc2
  obtain ⟨arr, harr, hmk⟩ := make_rows A.length (by omega)
  have HARR : Hid (arr.size = A.length) := harr
  have HE : Hid (inE k n d L A = E) := hE
  have HR : Hid (inR k n d L A = R) := hR
  clear h hd hA harr hE hR
  go_enter Try.func23, Try.ntmps23
  go_wp2_with fail
  refine wp_scope_jumps 0 (fun a' w' => (Below w.heap.size w w' ∧ argsB A L.length = false) ∧ ∃ (u0 u1 u2 u3 u4 u5 u6 u7 u8 u9 u10 u11 u12 u13 u14 u15 u16 u17 u18 u19 u20 u21 u22 u23 u24 u25 u26 u27 u28 u29 u30 u31 u32 u33 u34 u35 u36 u37 u38 u39 u40 u41 u42 u43 u44 u45 u46 u47 u48 : Value), a' = { tmps := #[u0, u1, u2, u3, u4, u5, u6, u7, u8, u9, u10, u11, u12, u13, u14, u15, u16, u17, u18, u19, u20, u21, u22, u23, u24, u25, u26, u27, u28, u29, u30, u31, u32, u33, u34, u35, u36, u37, u38, u39, u40, u41, u42, u43, u44, u45, u46, u47, u48], defers := [] }) (fun _ _ => 0) rfl ?_ ?_
  · go_wp2
    go_loopw [20] (fun i w' => ∃ j : Nat, j ≤ A.length ∧ i = .int .i64 j ∧ Hid (PB w w' w.heap.size A.length j (dimsAt L A)) ∧ Hid (∀ p (h : p < A.length), p < j → (decide (0 ≤ A[p]) && decide (A[p] ≤ (L.length : Int) - 1)) = true) ∧ Hid (Below w.heap.size w w')) (fun i _ => A.length - (intOf i).toNat)
    case atStart => exact ⟨0, Nat.zero_le _, rfl, ⟨⟨arr, heap_alloc_new w _, HARR.out⟩, fun p h1 h2 => by omega⟩, fun p h1 h2 => by omega, Below.push (Below.refl _ _) _⟩
    case round =>
      obtain ⟨j, hj, rfl, HPB, HF, HB⟩ := hrel
      by_cases hlt : j < A.length
      · obtain ⟨ub, uo, rfl, _, hcell⟩ := HA.out.addr (by omega)
        have hx := cell_later HB.out (hcell j hlt)
        obtain ⟨y, hy⟩ : ∃ y, A[j] = y := ⟨_, rfl⟩
        have HY : Hid (A[j] = y) := hy
        rw [hy] at hx
        have g1 : (j : Int) < A.length := by omega
        have g2 : (0 : Int) ≤ j := by omega
        clear hcell hy
        by_cases hy0 : y < 0
        · have HQ : Hid (argsB A L.length = false) := argsB_none hlt (Or.inl (by rw [HY.out]; exact hy0))
          go_wp2
          go_step3
          exact ⟨rfl, ⟨HB.out, HQ.out⟩, _, _, _, _, _, _, _, _, _, _, _, _, _, _, _, _, _, _, _, _, _, _, _, _, _, _, _, _, _, _, _, _, _, _, _, _, _, _, _, _, _, _, _, _, _, _, _, _, _, rfl⟩
        · by_cases hyL : (L.length : Int) ≤ y
          · have HQ : Hid (argsB A L.length = false) := argsB_none hlt (Or.inr (by rw [HY.out]; exact hyL))
            go_wp2
            go_step3
            exact ⟨rfl, ⟨HB.out, HQ.out⟩, _, _, _, _, _, _, _, _, _, _, _, _, _, _, _, _, _, _, _, _, _, _, _, _, _, _, _, _, _, _, _, _, _, _, _, _, _, _, _, _, _, _, _, _, _, _, _, _, _, rfl⟩
          · obtain ⟨m, hm⟩ : ∃ m : Nat, y = m := ⟨y.toNat, by omega⟩
            subst hm
            have hmL : m < L.length := by omega
            obtain ⟨b, off, y0, y1, rfl, hnd⟩ := (HN.out.later HB.out).row m hmL
            obtain ⟨b2, off2, y2, y3, eb, hnd2⟩ := HN.out.row m hmL
            simp only [Option.some.injEq, Addr.mk.injEq] at eb
            obtain ⟨rfl, rfl, _⟩ := eb
            have hd3 := hnd.c3
            have hd3' := cell_later HB.out hnd2.c3
            rw [hd3] at hd3'
            simp only [Option.some.injEq] at hd3'
            subst hd3'
            have HT : Hid (Ints w y1 L[m].dims) := hnd2.d
            obtain ⟨ya, yn, yc, rfl⟩ := hnd2.d.shape3
            obtain ⟨⟨z, hz⟩, hfz⟩ := HPB.out.cell j hlt
            have HDM : Hid ((dimsAt L A)[j]'(by rw [dimsAt_len]; exact hlt) = L[m].dims) := dimsAt_get hlt m hmL HY.out
            have HPB2 : Hid (PB w (wr.setCell ⟨w.heap.size, j, none⟩ (.slice ya yn yc)) w.heap.size A.length (j + 1) (dimsAt L A)) := HPB.out.put (by rw [dimsAt_len]; exact hlt) (dimsAt_len L A) (by rw [HDM.out]; exact HT.out)
            have HB2 : Hid (Below w.heap.size w (wr.setCell ⟨w.heap.size, j, none⟩ (.slice ya yn yc))) := HB.out.setCell (Nat.le_refl _) _
            have HF2 : Hid (∀ p (h : p < A.length), p < j + 1 → (decide (0 ≤ A[p]) && decide (A[p] ≤ (L.length : Int) - 1)) = true) := fun p h1 h2 => by
              by_cases e : p = j
              · subst e
                rw [HY.out, decide_eq_true (p := (0 : Int) ≤ (m : Int)) (by omega), decide_eq_true (p := (m : Int) ≤ (L.length : Int) - 1) (by omega)]
                rfl
              · exact HF.out p h1 (by omega)
            have g3 : (m : Int) < L.length := by omega
            have g4 : (0 : Int) ≤ m := by omega
            clear hnd hnd2 hy0 hyL
            go_wp2
            go_roundw
            case rel => exact ⟨j + 1, by omega, by go_num, HPB2.out, HF2.out, HB2.out⟩
            case measure => simp [intOf]; omega
      · have hj' : j = A.length := by omega
        subst hj'
        have HQ : Hid (argsB A L.length = true) := argsB_all (fun p h => HF.out p h h)
        have HLL : Hid (IntsL wr (.slice (some ⟨w.heap.size, 0, none⟩) A.length A.length) (dimsAt L A)) := HPB.out.intsL (dimsAt_len L A) (by unfold big; omega) HB.out
        have HE2 : Hid (diE k n d (dimsAt L A) = E) := by show _ = _; rw [← HE.out, (inE_yes HQ.out).1]
        have HR2 : Hid (diR k n d (dimsAt L A) = R) := by show _ = _; rw [← HR.out, (inE_yes HQ.out).2]
        go_wp2_with fail
        refine (dims_at k n (HD.out.later HB.out) HLL.out).mono ?_
        rw [HE2.out, HR2.out]
        rintro e w2 ⟨x2, rfl, ho, hb2⟩
        have HO2 : Hid (Own w2 w.heap.size x2 R) := ho.mono HB.out.size
        have HB3 : Hid (Below w.heap.size w w2) := Below.after HB.out hb2
        obtain ⟨s7, n7, c7, rfl⟩ := ho.ints.shape3
        clear ho hb2
        go_wp2
        rw [jump_ret]
        go_ret2
        exact ⟨_, rfl, HO2.out, HB3.out⟩
  · rintro a w' ⟨⟨hbj, hq⟩, u0, u1, u2, u3, u4, u5, u6, u7, u8, u9, u10, u11, u12, u13, u14, u15, u16, u17, u18, u19, u20, u21, u22, u23, u24, u25, u26, u27, u28, u29, u30, u31, u32, u33, u34, u35, u36, u37, u38, u39, u40, u41, u42, u43, u44, u45, u46, u47, u48, rfl⟩
    have HBJ : Hid (Below w.heap.size w w') := hbj
    have HER : Hid (E = 1 ∧ R = []) := by show _ ∧ _; rw [← HE.out, ← HR.out]; exact inE_no hq
    clear hbj hq
    go_wp2
    rw [jump_ret]
    go_ret2
    exact ⟨_, by rw [HER.out.1]; rfl, by rw [HER.out.2]; exact Own.nil _ _, HBJ.out⟩
end Go.Proofs.Ytjfkhfahpjdidaa
