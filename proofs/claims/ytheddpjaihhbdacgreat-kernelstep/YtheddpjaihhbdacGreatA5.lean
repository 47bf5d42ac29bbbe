/- Contract: kernel's Dims. -/
import Derived.Test.YtheddpjaihhbdacGreatA4
import Derived.Test.YtheddpjaihhbdacGreatB1
namespace Go.Proofs.YtheddpjaihhbdacGreat
set_option linter.unusedVariables false
set_option linter.unusedSimpArgs false
set_option maxRecDepth 100000
open Go.RowKit

theorem make_tens (n : Nat) (h : n ≤ 1000000000) :
    ∃ arr : Array Value, arr.size = n * 2 ∧ ∀ w : World, (Instr.makeSlice 22 (.int .i64 n) (.int .i64 n)).run Tryz.prog w = .ok (.slice (some ⟨w.heap.size, 0, none⟩) n n) (w.alloc (.cells arr 34)) := by
  obtain ⟨i, h1, h2, h3, h4⟩ := infoT
  refine ⟨_, size_madeCells (Value.cells (.agg #[.slice none 0 0, .slice none 0 0])) _, fun w => ?_⟩
  have := run_make (P := Tryz.prog) w 22 34 i (.agg #[.slice none 0 0, .slice none 0 0]) Tryz.underlying22 h1 h2 .i64 .i64 n n (by omega) (by omega) (by rw [h4]; omega) (by omega)
  rw [h3, Int.toNat_natCast] at this
  exact this
/-- The first k of the zeros are laid. -/
structure ZB (w : World) (Z n k : Nat) (Ls : List (List Int)) : Prop where
  blk : ∃ arr : Array Value, w.heap[Z]? = some (.cells arr 34 (0, 0)) ∧ arr.size = n * 2
  elt : ∀ i (h : i < Ls.length), i < k → ∃ x y, w.cell? ⟨Z, i * 2, none⟩ = some x ∧ w.cell? ⟨Z, i * 2 + 1, none⟩ = some y ∧ OwnT w (Z + 1) x y (zT Ls[i])
theorem ZB.lt {w : World} {Z n k : Nat} {Ls : List (List Int)} (h : ZB w Z n k Ls) : Z < w.heap.size := by
  obtain ⟨arr, ha, hs⟩ := h.blk
  exact (Array.getElem?_eq_some_iff.1 ha).1
theorem ZB.later {w w' : World} {Z n k : Nat} {Ls : List (List Int)} (hb : Below w.heap.size w w') (h : ZB w Z n k Ls) : ZB w' Z n k Ls := by
  have hlt := h.lt
  obtain ⟨arr, ha, hs⟩ := h.blk
  refine ⟨⟨arr, (hb.block Z hlt).trans ha, hs⟩, fun i h1 h2 => ?_⟩
  obtain ⟨x, y, c0, c1, ho⟩ := h.elt i h1 h2
  exact ⟨x, y, cell_later hb c0, cell_later hb c1, ho.later hb⟩
theorem ZB.cell {w : World} {Z n k : Nat} {Ls : List (List Int)} (h : ZB w Z n k Ls) (j : Nat) (hj : j < n * 2) : (∃ u, w.cell? ⟨Z, j, none⟩ = some u) ∧ w.frozen? ⟨Z, j, none⟩ = false := by
  obtain ⟨arr, ha, hs⟩ := h.blk
  refine ⟨⟨arr[j]'(by omega), ?_⟩, ?_⟩
  · rw [cell_of_row w Z j arr _ _ ha, Array.getElem?_eq_getElem (by omega)]
  · exact frozen_of_row w Z j arr _ ha
theorem ZB.put {w : World} {Z n k : Nat} {Ls : List (List Int)} {x y : Value} (h : ZB w Z n k Ls) (hk : k < Ls.length) (hn : Ls.length = n) (ho : OwnT w (Z + 1) x y (zT Ls[k])) :
    ZB ((w.setCell ⟨Z, k * 2, none⟩ x).setCell ⟨Z, k * 2 + 1, none⟩ y) Z n (k + 1) Ls := by
  obtain ⟨arr, ha, hs⟩ := h.blk
  have e1 := heap_setCell_same w Z (k * 2) arr 34 x ha
  have e2 := heap_setCell_same _ Z (k * 2 + 1) _ 34 y e1
  refine ⟨⟨_, e2, by simp [hs]⟩, fun i h1 h2 => ?_⟩
  by_cases hi : i = k
  · subst hi
    refine ⟨x, y, ?_, ?_, (ho.setCell _ _ (by simp)).setCell _ _ (by simp)⟩
    · rw [cell_of_row _ Z _ _ _ _ e2]
      have q1 : i * 2 < arr.size := by omega
      simp [Array.getElem?_setIfInBounds, q1]
    · rw [cell_of_row _ Z _ _ _ _ e2]
      have q1 : i * 2 + 1 < arr.size := by omega
      simp [Array.getElem?_setIfInBounds, q1]
  · obtain ⟨x', y', c0, c1, ho'⟩ := h.elt i h1 (by omega)
    refine ⟨x', y', ?_, ?_, (ho'.setCell _ _ (by simp)).setCell _ _ (by simp)⟩
    · rw [cell_of_row w Z _ _ _ _ ha] at c0
      rw [cell_of_row _ Z _ _ _ _ e2, Array.getElem?_setIfInBounds_ne (by omega), Array.getElem?_setIfInBounds_ne (by omega)]
      exact c0
    · rw [cell_of_row w Z _ _ _ _ ha] at c1
      rw [cell_of_row _ Z _ _ _ _ e2, Array.getElem?_setIfInBounds_ne (by omega), Array.getElem?_setIfInBounds_ne (by omega)]
      exact c1
theorem ZB.tensL {w : World} {Z n : Nat} {Ls : List (List Int)} (h : ZB w Z n n Ls) (hn : Ls.length = n) (hb : n ≤ big) : TensL w (.slice (some ⟨Z, 0, none⟩) n n) (Ls.map zT) := by
  refine ⟨by simp [hn]; exact hb, _, n, by rw [List.length_map, hn], by simp [hn], fun i hi => ?_⟩
  rw [List.length_map] at hi
  obtain ⟨x, y, c0, c1, ho⟩ := h.elt i hi (by omega)
  refine ⟨Z, 0, x, y, rfl, by simpa using c0, by simpa using c1, ?_⟩
  rw [List.getElem_map]
  exact ⟨ho.dims.ints, ho.data.ints⟩
set_option maxHeartbeats 4000000 in
theorem dims_any {vd v : Value} {d : List Int} {L : List (List Int)} {w : World} (k n : Int) (hd : Ints w vd d) (hl : IntsL w v L) (h2 : L.length ≤ 2) :
    Calls Tryz.prog 19 #[.int .i64 k, .int .i64 n, vd, v] w fun e w' => ∃ x, e = .returned (.tuple #[x, .int .i64 (diE k n d L)]) ∧ Own w' w.heap.size x (diR k n d L) ∧ Below w.heap.size w w' := by
  obtain ⟨_, va, vc, ev, hvc, hcell⟩ := hl
  obtain ⟨m, hm⟩ : ∃ m, L.length = m := ⟨_, rfl⟩
  rw [hm] at ev h2 hvc
  subst ev
  have HM : Hid (L.length = m) := hm
  have HD : Hid (Ints w vd d) := hd
  have HL : Hid (∀ i (h : i < L.length), ∃ b off x, va = some ⟨b, off, none⟩ ∧ w.cell? ⟨b, off + i, none⟩ = some x ∧ Ints w x L[i]) := hcell
  clear hd hm hcell
  cases hf : frm k n d m with
  | false =>
    have HF : Hid (frE k n d m = 1) := by show _ = _; rw [frE, hf]; rfl
    have HE : Hid (diE k n d L = 1 ∧ diR k n d L = []) := by show _ ∧ _; simp [diE, diR, HM.out, hf]
    clear hf
    go_enter Tryz.func19, Tryz.ntmps19
    go_wp2_with fail
    refine (form_any k n m (by unfold big; omega) HD.out 1 HF.out).mono ?_
    rintro e w1 ⟨rfl, hb1⟩
    have HB1 : Hid (Below w.heap.size w w1) := hb1
    clear hb1
    go_wp2
    go_ret2
    exact ⟨_, by rw [HE.out.1]; rfl, by rw [HE.out.2]; exact Own.nil _ _, HB1.out⟩
  | true =>
    have HF : Hid (frE k n d m = 0) := by show _ = _; rw [frE, hf]; rfl
    obtain ⟨⟨hk1, hk2⟩, hc, hdk, _⟩ := frm_parts hf
    have HC : Hid (L.length = many k.toNat) := by show _ = _; rw [HM.out]; exact hc
    by_cases h3 : k < 3
    · have HE : Hid (diE k n d L = 0 ∧ diR k n d L = d) := by show _ ∧ _; simp [diE, diR, HM.out, hf, h3]
      have hok : okd d = true := by
        have : k = 1 ∨ k = 2 := by omega
        rcases this with rfl | rfl <;> exact hdk
      have HK : Hid (1 ≤ d.length) := (okd_parts hok).1
      clear hf hc hdk hok
      have hk12 : k = 1 ∨ k = 2 := by omega
      clear h3 hk1 hk2
      rcases hk12 with rfl | rfl <;>
      · go_enter Tryz.func19, Tryz.ntmps19
        go_wp2_with fail
        refine (form_any _ n m (by unfold big; omega) HD.out 0 HF.out).mono ?_
        rintro e w1 ⟨rfl, hb1⟩
        have HB1 : Hid (Below w.heap.size w w1) := hb1
        clear hb1
        go_wp2_with fail
        refine (clone_own (HD.out.later HB1.out) HK.out).mono ?_
        rintro e w2 ⟨x, rfl, ho, hb2⟩
        have HO : Hid (Own w2 w.heap.size x d) := ho.mono HB1.out.size
        have HB2 : Hid (Below w.heap.size w w2) := Below.after HB1.out hb2
        clear ho hb2
        go_wp2
        go_ret2
        exact ⟨_, by rw [HE.out.1]; rfl, by rw [HE.out.2]; exact HO.out, HB2.out⟩
    · have n1 : ¬ k = 1 := by omega
      have n2 : ¬ k = 2 := by omega
      have b1 : (k == 1) = false := by simpa using n1
      have b2 : (k == 2) = false := by simpa using n2
      have HE : Hid (diE k n d L = (if L.all okd = true then vE k.toNat n d ((L.map zT).getD 0 no) ((L.map zT).getD 1 no) else 1) ∧ diR k n d L = (if L.all okd = true then (vR k.toNat n d ((L.map zT).getD 0 no) ((L.map zT).getD 1 no)).1 else [])) := by show _ ∧ _; simp only [diE, diR, HM.out, hf, if_true, if_neg h3]; exact ⟨trivial, trivial⟩
      have HV : Hid (∀ {w : World} {u : Value} (hd : Ints w vd d) (hl : TensL w u (L.map zT)), Calls Tryz.prog 38 #[.int .i64 k, .int .i64 n, vd, u] w fun e w' => ∃ x0 x1, e = .returned (.tuple #[.agg #[x0, x1], .int .i64 (vE k.toNat n d ((L.map zT).getD 0 no) ((L.map zT).getD 1 no))]) ∧ OwnT w' w.heap.size x0 x1 (vR k.toNat n d ((L.map zT).getD 0 no) ((L.map zT).getD 1 no)) ∧ Below w.heap.size w w') := by
        intro w u hd hl
        exact value_any k n ⟨hk1, hk2⟩ (by rw [List.length_map]; exact HC.out) hd hl
      obtain ⟨arr, harr, hmk⟩ := make_tens m (by omega)
      have HARR : Hid (arr.size = m * 2) := harr
      clear hf hc hdk hk1 hk2 h3 harr
      go_enter Tryz.func19, Tryz.ntmps19
      go_wp2_with fail
      refine (form_any _ n m (by unfold big; omega) HD.out 0 HF.out).mono ?_
      rintro e w1 ⟨rfl, hb1⟩
      have HB1 : Hid (Below w.heap.size w w1) := hb1
      have hs1 := hb1.size
      have HZ1 : Hid (ZB (w1.alloc (.cells arr 34)) w1.heap.size m 0 L) := ⟨⟨arr, heap_alloc_new w1 _, HARR.out⟩, fun i h1 h2 => by omega⟩
      have HB2 : Hid (Below w.heap.size w (w1.alloc (.cells arr 34))) := hb1.alloc hs1 _
      clear hb1
      go_upto_region 6 with fail
      generalize hU : w1.alloc (.cells arr 34) = U at HZ1 HB2 ⊢
      clear hU hmk HARR
      obtain ⟨Z, hZ⟩ : ∃ Z, w1.heap.size = Z := ⟨_, rfl⟩
      rw [hZ] at HZ1 hs1 ⊢
      have HIN : Hid (∀ {w' : World}, Below w.heap.size w w' → Ints w' vd d) := fun hb => HD.out.later hb
      clear hZ HB1
      go_wp2
      go_loopw [37] (fun i w' => ∃ (j : Nat), j ≤ m ∧ i = .int .i64 j ∧ Hid (ZB w' Z m j L) ∧ Hid (Below w.heap.size w w') ∧ Hid (∀ q (h : q < L.length), q < j → okd L[q] = true)) (fun i _ => m - (intOf i).toNat)
      case atStart => exact ⟨0, Nat.zero_le _, rfl, HZ1, HB2, fun q h1 h2 => by omega⟩
      case round =>
        obtain ⟨j, hj, rfl, HZ, HB, HK⟩ := hrel
        by_cases hlt : j < m
        · have hlt' : j < L.length := by rw [HM.out]; exact hlt
          obtain ⟨b, off, x, rfl, c0, hx⟩ := HL.out j hlt'
          have d0 := cell_later HB.out c0
          have HX : Hid (Ints wr x L[j]) := hx.later HB.out
          obtain ⟨xa, xn, xc, rfl⟩ := hx.shape3
          have hsz := HB.out.size
          have hzl := HZ.out.lt
          clear c0 hx
          cases hok : okd L[j] with
          | false =>
            have HF2 : Hid (erf L[j] = 1) := erf_bad hok
            have HE2 : Hid (diE k n d L = 1 ∧ diR k n d L = []) := by
              show _ ∧ _
              have : ¬ L.all okd = true := by
                rw [List.all_eq_true]
                intro h
                have := h L[j] (List.getElem_mem hlt')
                rw [hok] at this
                cases this
              rw [HE.out.1, HE.out.2, if_neg this, if_neg this]
              exact ⟨rfl, rfl⟩
            clear hok
            go_wp2_with fail
            refine (fill_to 0 1 _ HX.out HF2.out rfl).mono ?_
            rintro e w2 ⟨x0, x1, rfl, ho, hb2⟩
            obtain ⟨pa, pn, pc, rfl⟩ := ho.dims.ints.shape3
            obtain ⟨qa, qn, qc, rfl⟩ := ho.data.ints.shape3
            have HB3 : Hid (Below w.heap.size w (w2.alloc (.cells #[.slice pa pn pc, .slice qa qn qc] 34))) := Below.push (Below.after HB.out hb2) _
            clear ho hb2
            go_wp2
            go_ret2
            exact ⟨_, by rw [HE2.out.1]; rfl, by rw [HE2.out.2]; exact Own.nil _ _, HB3.out⟩
          | true =>
            have HF2 : Hid (erf L[j] = 0) := erf_ok hok
            have HO0 : Hid (okd L[j] = true) := hok
            have HV3 : Hid (vR 3 0 L[j] no no = zT L[j]) := by show _ = _; simp [vR, hok, zT]
            clear hok
            go_wp2_with fail
            refine (fill_to 0 0 _ HX.out HF2.out HV3.out).mono ?_
            rintro e w2 ⟨x0, x1, rfl, ho, hb2⟩
            obtain ⟨pa, pn, pc, rfl⟩ := ho.dims.ints.shape3
            obtain ⟨qa, qn, qc, rfl⟩ := ho.data.ints.shape3
            have ho2 : OwnT w2 (Z + 1) (.slice pa pn pc) (.slice qa qn qc) (zT L[j]) := ho.mono hzl
            go_upto_region 10 with fail
            obtain ⟨U2, hU2⟩ : ∃ U2, U2 = w2.alloc (.cells #[.slice pa pn pc, .slice qa qn qc] 34) := ⟨_, rfl⟩
            have hb3 : Below wr.heap.size wr U2 := by rw [hU2]; exact Below.push hb2 _
            have hbx : Box U2 w2.heap.size (.slice pa pn pc) (.slice qa qn qc) := by rw [hU2]; exact Box.new w2 _ _
            have ho3 : OwnT U2 (Z + 1) (.slice pa pn pc) (.slice qa qn qc) (zT L[j]) := by rw [hU2]; exact ho2.later (Below.push (Below.refl _ _) _)
            rw [← hU2]
            have hz3 := HZ.out.later hb3
            obtain ⟨⟨u0, z0⟩, f0⟩ := hz3.cell (j * 2) (by omega)
            obtain ⟨⟨u1, z1⟩, f1⟩ := hz3.cell (j * 2 + 1) (by omega)
            have l0 := hbx.c0
            have l1 := hbx.c1
            have HZ4 : Hid (ZB ((U2.setCell ⟨Z, j * 2, none⟩ (.slice pa pn pc)).setCell ⟨Z, j * 2 + 1, none⟩ (.slice qa qn qc)) Z m (j + 1) L) := hz3.put hlt' HM.out ho3
            have HB4 : Hid (Below w.heap.size w ((U2.setCell ⟨Z, j * 2, none⟩ (.slice pa pn pc)).setCell ⟨Z, j * 2 + 1, none⟩ (.slice qa qn qc))) := ((Below.after HB.out hb3).setCell hs1 _).setCell hs1 _
            clear hU2 hb3 hbx ho3 ho2 ho hb2 hz3
            go_wp2
            go_roundw
            case rel =>
              refine ⟨j + 1, by omega, by go_num, HZ4.out, HB4.out, fun q h1 h2 => ?_⟩
              by_cases e : q = j
              · subst e; exact HO0.out
              · exact HK.out q h1 (by omega)
            case measure => simp [intOf]; omega
        · obtain rfl : j = m := by omega
          have hall : L.all okd = true := by
            rw [List.all_eq_true]
            intro t ht
            obtain ⟨q, hq, rfl⟩ := List.getElem_of_mem ht
            exact HK.out q hq (by rw [← HM.out]; exact hq)
          have HE2 : Hid (diE k n d L = vE k.toNat n d ((L.map zT).getD 0 no) ((L.map zT).getD 1 no) ∧ diR k n d L = (vR k.toNat n d ((L.map zT).getD 0 no) ((L.map zT).getD 1 no)).1) := by
            show _ ∧ _
            rw [HE.out.1, HE.out.2, if_pos hall, if_pos hall]
            exact ⟨rfl, rfl⟩
          clear hall HE
          obtain ⟨x, hx⟩ : ∃ x, vE k.toNat n d ((L.map zT).getD 0 no) ((L.map zT).getD 1 no) = x := ⟨_, rfl⟩
          obtain ⟨u, hu⟩ : ∃ u, vR k.toNat n d ((L.map zT).getD 0 no) ((L.map zT).getD 1 no) = u := ⟨_, rfl⟩
          rw [hx, hu] at HE2 HV
          clear hx hu
          have HT : Hid (TensL wr (.slice (some ⟨Z, 0, none⟩) j j) (L.map zT)) := HZ.out.tensL HM.out (by unfold big; omega)
          have hsz := HB.out.size
          go_wp2_with fail
          refine (HV.out (HIN.out HB.out) HT.out).mono ?_
          rintro e w2 ⟨x0, x1, rfl, ho, hb2⟩
          obtain ⟨pa, pn, pc, rfl⟩ := ho.dims.ints.shape3
          obtain ⟨qa, qn, qc, rfl⟩ := ho.data.ints.shape3
          have HO : Hid (Own (w2.alloc (.cells #[.slice pa pn pc, .slice qa qn qc] 34)) w.heap.size (.slice pa pn pc) u.1) := (ho.dims.mono hsz).later (Below.push (Below.refl _ _) _)
          have HB3 : Hid (Below w.heap.size w (w2.alloc (.cells #[.slice pa pn pc, .slice qa qn qc] 34))) := Below.push (Below.after HB.out hb2) _
          clear ho hb2
          go_wp2
          go_ret2
          exact ⟨_, by rw [HE2.out.1]; rfl, by rw [HE2.out.2]; exact HO.out, HB3.out⟩
end Go.Proofs.YtheddpjaihhbdacGreat
