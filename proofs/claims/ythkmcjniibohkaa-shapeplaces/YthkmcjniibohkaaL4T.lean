/- ShapePlaces, dims that may be: its loop over numbers. -/
import Derived.Test.YthkmcjniibohkaaAct
namespace Go.Proofs.Ythkmcjniibohkaa
set_option linter.unusedVariables false
set_option linter.unusedSimpArgs false
open Go.RowKit

theorem ints_ne {w : World} {F : Nat} {v x y : Value} {d : List Int} (h : Ints w v d) (h1 : 1 ≤ d.length) (hF : w.heap[F]? = some (.cells #[x, y] 44 (0, 0))) (hx : ∀ n, x ≠ .int .i64 n) (hy : ∀ n, y ≠ .int .i64 n) : ∀ k, v.ownBlock = some k → k ≠ F := by
  intro k hk e
  subst e
  rcases h.cases with ⟨rfl, _⟩ | ⟨b, off, c, rfl, h0, _, _, hc⟩
  · simp at h1
  · simp [Value.ownBlock] at hk
    subst hk
    have := hc.out 0 h0
    rw [cell_of_row w b _ _ 44 (0, 0) hF] at this
    match off, this with
    | 0, t => simp at t; exact hx _ t
    | 1, t => simp at t; exact hy _ t
    | n + 2, t => simp at t

set_option maxRecDepth 1000000 in
set_option maxHeartbeats 4000000 in
theorem loop4T {B g gcap q c0 c1 c3 : Nat} {f3 vd vl : Value} {a0 a1 : Option Addr} {D P : List (List Int)} {T : List (List Int × List Int)} {N d : List Int} {W : World} {Q : Exit → Act → World → Prop}
    (hD : D.length ≤ 17592186044416) (hcD : D.length ≤ c0) (hP : P.length ≤ 17592186044416) (hcP : P.length ≤ c1) (hN : N.length ≤ 17592186043904) (hgc : 6 + N.length ≤ gcap)
    (HE : Hid (Env B g (.slice a0 D.length c0) (.slice a1 P.length c1) f3 D P T (six ++ N) W)) (HV : Hid (Ints W vd d)) (HO : Hid (okd d = true)) {m : Nat} (HM : Hid (prd d = m)) (hm1 : 1 ≤ m) (hm2 : m ≤ 64)
    (hexit : ∀ a' w', Fr B g gcap (6 + N.length) q vd vl true 0 m a' → Below W.heap.size W w' → Q (.exit 6) a' w')
    (a : Act) (w : World) (ha : Fr B g gcap (6 + N.length) q vd vl true 0 m a) (hs : a.tmps.getD 21 undef = .int .i64 0) (hb : Below W.heap.size W w) :
    Code.wp Try.prog (.loop (((Try.f3.body.map loopsIn).getD []).getD 3 .skip)) Q a w := by
  refine wp_loop (fun a' w' => Fr B g gcap (6 + N.length) q vd vl true 0 m a' ∧ (∃ k : Nat, k ≤ 6 + N.length ∧ k ≤ 12 ∧ a'.tmps.getD 21 undef = .int .i64 k) ∧ Below W.heap.size W w') (fun a' _ => 12 - slotNat a' 21) ⟨ha, ⟨0, by omega, by omega, hs⟩, hb⟩ ?_
  clear hs ha hb
  clear a w
  intro a w ⟨hf, ⟨k, hk, hk6, hs⟩, hb⟩
  obtain ⟨G, hg, e⟩ := act371 a hf.d hf.s
  obtain ⟨hz1, hz2, g1, g3, g4, g5, g6, g9, g11, g12⟩ := hf
  rw [hg] at g1 g3 g4 g5 g6 g9 g11 g12 hs
  clear hz1 hz2
  subst e
  clear hg
  rw [g1, g3, g4, g5, g6, g9, g11, g12, hs]
  have HEX : Hid (∀ a' w', Fr B g gcap (6 + N.length) q vd vl true 0 m a' → Below W.heap.size W w' → Q (.exit 6) a' w') := hexit
  have HB : Hid (Below W.heap.size W w) := hb
  have HEW := HE.out.later hb
  clear hexit hb g1 g3 g4 g5 g6 g9 g11 g12 hs
  conv => arg 2; whnf
  by_cases hlt : k < 6 + N.length
  · by_cases hlt6 : k < 12
    · have hns := HEW.ns k (by simp [six]; omega)
      generalize (six ++ N)[k]'(by simp [six]; omega) = x at hns
      have HV1 : Hid (Ints w vd d) := HV.out.later HB.out
      have HMN : Hid ((prd d).toNat = m) := by show _ = _; rw [HM.out]; simp
      have hl1 : 1 ≤ d.length := (okd_parts HO.out).1
      have hl2 : d.length ≤ 3 := (okd_parts HO.out).2.1
      clear HEW
      by_cases hin : 0 ≤ x ∧ x < (m : Int)
      · skip
        obtain ⟨hi0, hi1⟩ := hin
        have HX1 : Hid (x < prd d) := by show _ < _; rw [HM.out]; exact hi1
        have HNB : Hid ((decide (0 ≤ x) && decide (x ≤ (m : Int) - 1)) = true) := by show _ = _; simp; omega
        go_wp2_with fail
        refine (where_ok _ HV1.out HO.out hi0 HX1.out).mono ?_
        rintro e w2 ⟨B2, hB2z, rfl, hk2, hb2⟩
        have HK2 : Hid (Blk w2 B2 (whr d x)) := hk2
        have hlt2 := hk2.lt
        replace hns := cell_later hb2 hns
        have HV2 : Hid (Ints w2 vd d) := HV1.out.later hb2
        have HB2 : Hid (Below W.heap.size W w2) := Below.after HB.out hb2
        clear hb2 HV1 hk2
        go_wp2_with fail
        refine (fill_ok _ HV2.out HO.out).mono ?_
        rw [HMN.out]
        rintro e w3 ⟨ta, tc, tb, rfl, hti, htb, hb3⟩
        have HB3 : Hid (Below W.heap.size W w3) := Below.after HB2.out hb3
        have HTI : Hid (Ints w3 (.slice ta d.length tc) d) := hti
        have HTB : Hid (Blk w3 tb (List.replicate m x)) := htb
        replace hns := cell_later hb3 hns
        have HK3 : Hid (Blk w3 B2 (whr d x)) := HK2.out.later hb3 hlt2
        have hbb : Below w3.heap.size w3 ((w3.alloc (.cells #[.slice ta d.length tc, .slice (some ⟨tb, 0, none⟩) m m] 44)).alloc (.cells #[.slice none 0 0, .slice none 0 0] 44)) := ((Below.refl _ _).alloc (Nat.le_refl _) _).alloc (by simp) _
        have HV4 : Hid (Ints ((w3.alloc (.cells #[.slice ta d.length tc, .slice (some ⟨tb, 0, none⟩) m m] 44)).alloc (.cells #[.slice none 0 0, .slice none 0 0] 44)) vd d) := (HV2.out.later hb3).later hbb
        have hz3 := World.block_lt_of_cell? _ _ hns
        simp only at hz3
        clear hb3 hti htb
        go_wp2_with fail
        refine (rfill_ok _ HV4.out HO.out).mono ?_
        rw [HMN.out]
        rintro e w5 ⟨ua, uc, ub, ud, rfl, hu0, hu1, hb5⟩
        have hz5 := hb5.size
        simp at hz5
        have hF5 : w5.heap[w3.heap.size + 1]? = some (.cells #[.slice none 0 0, .slice none 0 0] 44 (0, 0)) := by
          rw [hb5.block (w3.heap.size + 1) (by simp)]
          exact heap_alloc2_new _ _ _
        have hf0 := frozen_of_row w5 (w3.heap.size + 1) 0 _ _ hF5
        have hf1 := frozen_of_row w5 (w3.heap.size + 1) 1 _ _ hF5
        have hg0 := cell_of_row w5 (w3.heap.size + 1) 0 _ _ _ hF5
        have hg1 := cell_of_row w5 (w3.heap.size + 1) 1 _ _ _ hF5
        simp at hg0 hg1
        have hn0 := ints_ne hu0 (by omega) hF5 (by simp) (by simp)
        have hn1 := ints_ne hu1 (by simp; omega) hF5 (by simp) (by simp)
        have hs1 := heap_setCell_same w5 (w3.heap.size + 1) 0 _ 44 (.slice ua d.length uc) hF5
        have hs2 := heap_setCell_same _ (w3.heap.size + 1) 1 _ 44 (.slice ub m ud) hs1
        obtain ⟨W6, hW6⟩ : ∃ W6, W6 = (w5.setCell ⟨w3.heap.size + 1, 0, none⟩ (.slice ua d.length uc)).setCell ⟨w3.heap.size + 1, 1, none⟩ (.slice ub m ud) := ⟨_, rfl⟩
        have HU0 : Hid (Ints W6 (.slice ua d.length uc) d) := by rw [hW6]; exact (hu0.setCell _ _ hn0).setCell _ _ hn0
        have HU1 : Hid (Ints W6 (.slice ub m ud) (List.replicate m x)) := by rw [hW6]; exact (hu1.setCell _ _ hn1).setCell _ _ hn1
        have hb36 : Below w3.heap.size w3 W6 := by rw [hW6]; exact ((Below.after hbb hb5).setCell (by simp) _).setCell (by simp) _
        have hb46 : Below (w3.heap.size + 1) ((w3.alloc (.cells #[.slice ta d.length tc, .slice (some ⟨tb, 0, none⟩) m m] 44)).alloc (.cells #[.slice none 0 0, .slice none 0 0] 44)) W6 := by rw [hW6]; exact ((hb5.mono (by simp)).setCell (by simp) _).setCell (by simp) _
        have hx0 : W6.cell? ⟨w3.heap.size + 1, 0, none⟩ = some (.slice ua d.length uc) := by rw [hW6, cell_of_row _ (w3.heap.size + 1) 0 _ _ _ hs2]; rfl
        have hx1 : W6.cell? ⟨w3.heap.size + 1, 1, none⟩ = some (.slice ub m ud) := by rw [hW6, cell_of_row _ (w3.heap.size + 1) 1 _ _ _ hs2]; rfl
        have hy0 : W6.cell? ⟨w3.heap.size, 0, none⟩ = some (.slice ta d.length tc) := by rw [hb46.cell (p := ⟨w3.heap.size, 0, none⟩) (by simp)]; simp
        have hy1 : W6.cell? ⟨w3.heap.size, 1, none⟩ = some (.slice (some ⟨tb, 0, none⟩) m m) := by rw [hb46.cell (p := ⟨w3.heap.size, 1, none⟩) (by simp)]; simp
        replace HTI : Hid (Ints W6 (.slice ta d.length tc) d) := HTI.out.later hb36
        replace HTB : Hid (Ints W6 (.slice (some ⟨tb, 0, none⟩) m m) (List.replicate m x)) := (HTB.out.later hb36 HTB.out.lt).ints m m (by simp) (Nat.le_refl _) (by unfold big; omega)
        have HK6 : Hid (Ints W6 (.slice (some ⟨B2, 0, none⟩) d.length d.length) (whr d x)) := (HK3.out.later hb36 HK3.out.lt).ints _ _ (whr_length d x).symm (Nat.le_refl _) (by unfold big; omega)
        have hns5 := cell_later (Below.after hbb hb5) hns
        replace hns := cell_later hb36 hns
        have HB6 : Hid (Below W.heap.size W W6) := Below.after HB3.out hb36
        have HWX : Hid (W6 = (w5.setCell ⟨w3.heap.size + 1, 0, none⟩ (.slice ua d.length uc)).setCell ⟨w3.heap.size + 1, 1, none⟩ (.slice ub m ud)) := hW6
        clear hb36 hb46 hs1 hs2 hn0 hn1 hF5 hu0 hu1 hb5 hW6 hbb
        go_upto_region 41 with fail
        rw [← HWX.out]
        clear HWX hf0 hf1 hg0 hg1 hns5
        go_wp2_with fail
        refine (numb_to true _ _ _ HNB.out).mono ?_
        rintro e w' ⟨rfl, rfl⟩
        have HV6 : Hid (Ints W6 vd d) := HV.out.later HB6.out
        go_wp2_with fail
        refine (rwhere_ok _ HV6.out HO.out hi0 HX1.out).mono ?_
        rintro e w7 ⟨rfl, hk7, hb7⟩
        have HK7 : Hid (Ints w7 (.slice (some ⟨W6.heap.size, 0, none⟩) d.length d.length) (whr d x)) := hk7.ints _ _ (whr_length d x).symm (Nat.le_refl _) (by unfold big; omega)
        replace HK6 : Hid (Ints w7 (.slice (some ⟨B2, 0, none⟩) d.length d.length) (whr d x)) := HK6.out.later hb7
        replace HTI : Hid (Ints w7 (.slice ta d.length tc) d) := HTI.out.later hb7
        replace HTB : Hid (Ints w7 (.slice (some ⟨tb, 0, none⟩) m m) (List.replicate m x)) := HTB.out.later hb7
        replace HU0 : Hid (Ints w7 (.slice ua d.length uc) d) := HU0.out.later hb7
        replace HU1 : Hid (Ints w7 (.slice ub m ud) (List.replicate m x)) := HU1.out.later hb7
        replace hx0 := cell_later hb7 hx0
        replace hx1 := cell_later hb7 hx1
        replace hy0 := cell_later hb7 hy0
        replace hy1 := cell_later hb7 hy1
        have HB7 : Hid (Below W.heap.size W w7) := Below.after HB6.out hb7
        clear hb7 hk7 hns
        go_wp2_with (go_at_call 14; refine (num_any _ _).mono ?_; rintro e w' ⟨rfl, rfl⟩)
        refine (eqn_any HK6.out HK7.out).mono ?_
        rw [beq_self_eq_true]
        rintro e w7' ⟨rfl, nn, rfl⟩
        go_wp2_with (go_at_call 14; refine (num_any _ _).mono ?_; rintro e w' ⟨rfl, rfl⟩)
        refine (eqt_true (HTI.out.drewN nn) (HTB.out.drewN nn) (HU0.out.drewN nn) (HU1.out.drewN nn)).mono ?_
        rintro e w8 ⟨rfl, hb8⟩
        have HB8 : Hid (Below W.heap.size W w8) := Below.after (Below.drewN HB7.out nn) hb8
        clear hb8
        go_wp2
        refine ⟨⟨⟨rfl, rfl, rfl, rfl, rfl, rfl, rfl, rfl, rfl, rfl⟩, ⟨k + 1, by omega, by omega, ?_⟩, HB8.out⟩, ?_⟩
        · show Value.int .i64 _ = _
          go_num
        · show 12 - (intOf (Value.int .i64 _)).toNat < 12 - (intOf (Value.int .i64 _)).toNat
          simp [intOf]
          omega
      · skip
        have HW : Hid (wok d x = false) := by show _ = _; simp [wok, HO.out, HM.out]; omega
        have HNB : Hid ((decide (0 ≤ x) && decide (x ≤ (m : Int) - 1)) = false) := by show _ = _; simp; omega
        clear hin
        go_wp2_with fail
        refine (where_bad _ HV1.out HW.out).mono ?_
        rintro e w2 ⟨rfl, hb2⟩
        replace hns := cell_later hb2 hns
        have HV2 : Hid (Ints w2 vd d) := HV1.out.later hb2
        have HB2 : Hid (Below W.heap.size W w2) := Below.after HB.out hb2
        clear hb2 HV1
        go_wp2_with fail
        refine (fill_ok _ HV2.out HO.out).mono ?_
        rw [HMN.out]
        rintro e w3 ⟨ta, tc, tb, rfl, hti, htb, hb3⟩
        have HB3 : Hid (Below W.heap.size W w3) := Below.after HB2.out hb3
        have HTI : Hid (Ints w3 (.slice ta d.length tc) d) := hti
        have HTB : Hid (Blk w3 tb (List.replicate m x)) := htb
        replace hns := cell_later hb3 hns
        skip
        have hbb : Below w3.heap.size w3 ((w3.alloc (.cells #[.slice ta d.length tc, .slice (some ⟨tb, 0, none⟩) m m] 44)).alloc (.cells #[.slice none 0 0, .slice none 0 0] 44)) := ((Below.refl _ _).alloc (Nat.le_refl _) _).alloc (by simp) _
        have HV4 : Hid (Ints ((w3.alloc (.cells #[.slice ta d.length tc, .slice (some ⟨tb, 0, none⟩) m m] 44)).alloc (.cells #[.slice none 0 0, .slice none 0 0] 44)) vd d) := (HV2.out.later hb3).later hbb
        have hz3 := World.block_lt_of_cell? _ _ hns
        simp only at hz3
        clear hb3 hti htb
        go_wp2_with fail
        refine (rfill_ok _ HV4.out HO.out).mono ?_
        rw [HMN.out]
        rintro e w5 ⟨ua, uc, ub, ud, rfl, hu0, hu1, hb5⟩
        have hz5 := hb5.size
        simp at hz5
        have hF5 : w5.heap[w3.heap.size + 1]? = some (.cells #[.slice none 0 0, .slice none 0 0] 44 (0, 0)) := by
          rw [hb5.block (w3.heap.size + 1) (by simp)]
          exact heap_alloc2_new _ _ _
        have hf0 := frozen_of_row w5 (w3.heap.size + 1) 0 _ _ hF5
        have hf1 := frozen_of_row w5 (w3.heap.size + 1) 1 _ _ hF5
        have hg0 := cell_of_row w5 (w3.heap.size + 1) 0 _ _ _ hF5
        have hg1 := cell_of_row w5 (w3.heap.size + 1) 1 _ _ _ hF5
        simp at hg0 hg1
        have hn0 := ints_ne hu0 (by omega) hF5 (by simp) (by simp)
        have hn1 := ints_ne hu1 (by simp; omega) hF5 (by simp) (by simp)
        have hs1 := heap_setCell_same w5 (w3.heap.size + 1) 0 _ 44 (.slice ua d.length uc) hF5
        have hs2 := heap_setCell_same _ (w3.heap.size + 1) 1 _ 44 (.slice ub m ud) hs1
        obtain ⟨W6, hW6⟩ : ∃ W6, W6 = (w5.setCell ⟨w3.heap.size + 1, 0, none⟩ (.slice ua d.length uc)).setCell ⟨w3.heap.size + 1, 1, none⟩ (.slice ub m ud) := ⟨_, rfl⟩
        have HU0 : Hid (Ints W6 (.slice ua d.length uc) d) := by rw [hW6]; exact (hu0.setCell _ _ hn0).setCell _ _ hn0
        have HU1 : Hid (Ints W6 (.slice ub m ud) (List.replicate m x)) := by rw [hW6]; exact (hu1.setCell _ _ hn1).setCell _ _ hn1
        have hb36 : Below w3.heap.size w3 W6 := by rw [hW6]; exact ((Below.after hbb hb5).setCell (by simp) _).setCell (by simp) _
        have hb46 : Below (w3.heap.size + 1) ((w3.alloc (.cells #[.slice ta d.length tc, .slice (some ⟨tb, 0, none⟩) m m] 44)).alloc (.cells #[.slice none 0 0, .slice none 0 0] 44)) W6 := by rw [hW6]; exact ((hb5.mono (by simp)).setCell (by simp) _).setCell (by simp) _
        have hx0 : W6.cell? ⟨w3.heap.size + 1, 0, none⟩ = some (.slice ua d.length uc) := by rw [hW6, cell_of_row _ (w3.heap.size + 1) 0 _ _ _ hs2]; rfl
        have hx1 : W6.cell? ⟨w3.heap.size + 1, 1, none⟩ = some (.slice ub m ud) := by rw [hW6, cell_of_row _ (w3.heap.size + 1) 1 _ _ _ hs2]; rfl
        have hy0 : W6.cell? ⟨w3.heap.size, 0, none⟩ = some (.slice ta d.length tc) := by rw [hb46.cell (p := ⟨w3.heap.size, 0, none⟩) (by simp)]; simp
        have hy1 : W6.cell? ⟨w3.heap.size, 1, none⟩ = some (.slice (some ⟨tb, 0, none⟩) m m) := by rw [hb46.cell (p := ⟨w3.heap.size, 1, none⟩) (by simp)]; simp
        replace HTI : Hid (Ints W6 (.slice ta d.length tc) d) := HTI.out.later hb36
        replace HTB : Hid (Ints W6 (.slice (some ⟨tb, 0, none⟩) m m) (List.replicate m x)) := (HTB.out.later hb36 HTB.out.lt).ints m m (by simp) (Nat.le_refl _) (by unfold big; omega)
        skip
        have hns5 := cell_later (Below.after hbb hb5) hns
        replace hns := cell_later hb36 hns
        have HB6 : Hid (Below W.heap.size W W6) := Below.after HB3.out hb36
        have HWX : Hid (W6 = (w5.setCell ⟨w3.heap.size + 1, 0, none⟩ (.slice ua d.length uc)).setCell ⟨w3.heap.size + 1, 1, none⟩ (.slice ub m ud)) := hW6
        clear hb36 hb46 hs1 hs2 hn0 hn1 hF5 hu0 hu1 hb5 hW6 hbb
        go_upto_region 41 with fail
        rw [← HWX.out]
        clear HWX hf0 hf1 hg0 hg1 hns5
        go_wp2_with fail
        refine (numb_to false _ _ _ HNB.out).mono ?_
        rintro e w' ⟨rfl, rfl⟩
        go_wp2_with (go_at_call 14; refine (num_any _ _).mono ?_; rintro e w' ⟨rfl, rfl⟩)
        refine (eqn_any (Ints.nil _) (Ints.nil _)).mono ?_
        rw [beq_self_eq_true]
        rintro e w7 ⟨rfl, nn, rfl⟩
        go_wp2_with (go_at_call 14; refine (num_any _ _).mono ?_; rintro e w' ⟨rfl, rfl⟩)
        refine (eqt_true (HTI.out.drewN nn) (HTB.out.drewN nn) (HU0.out.drewN nn) (HU1.out.drewN nn)).mono ?_
        rintro e w8 ⟨rfl, hb8⟩
        have HB8 : Hid (Below W.heap.size W w8) := Below.after (Below.drewN HB6.out nn) hb8
        clear hb8
        go_wp2
        refine ⟨⟨⟨rfl, rfl, rfl, rfl, rfl, rfl, rfl, rfl, rfl, rfl⟩, ⟨k + 1, by omega, by omega, ?_⟩, HB8.out⟩, ?_⟩
        · show Value.int .i64 _ = _
          go_num
        · show 12 - (intOf (Value.int .i64 _)).toNat < 12 - (intOf (Value.int .i64 _)).toNat
          simp [intOf]
          omega
    · go_wp2
      exact HEX.out _ _ ⟨rfl, rfl, rfl, rfl, rfl, rfl, rfl, rfl, rfl, rfl⟩ HB.out
  · go_wp2
    exact HEX.out _ _ ⟨rfl, rfl, rfl, rfl, rfl, rfl, rfl, rfl, rfl, rfl⟩ HB.out

end Go.Proofs.Ythkmcjniibohkaa
