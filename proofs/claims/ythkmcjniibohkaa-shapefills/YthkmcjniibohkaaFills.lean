/- The law ShapeFills: its walk. -/
import Derived.Test.YthkmcjniibohkaaW6
import Derived.Deep.DeepCutAuto
namespace Go.Proofs.Ythkmcjniibohkaa
set_option linter.unusedVariables false
open Go.RowKit

theorem bcell {W w1 : World} (hb : Below W.heap.size W w1) : ∀ b o, b < W.heap.size → w1.cell? ⟨b, o, none⟩ = W.cell? ⟨b, o, none⟩ :=
  fun b o h => hb.cell (p := ⟨b, o, none⟩) h

theorem tensor_at {W w : World} {v0 v1 : Value} {t : List Int × List Int} (x : Int) (h : Tens W v0 v1 t) (hx : tkE t = x) (hb : Below W.heap.size W w) :
    Calls Try.prog 29 #[.agg #[v0, v1]] w fun e w' => e = .returned (.int .i64 x) ∧ Below W.heap.size W w' := by
  subst hx
  refine (tensor_any ⟨h.1.later hb, h.2.later hb⟩).mono ?_
  rintro e w' ⟨rfl, h2⟩
  exact ⟨rfl, Below.after hb h2⟩
theorem eqn_at {W w : World} {v v' : Value} {a b : List Int} (x : Bool) (ha : Ints W v a) (hb : Ints W v' b) (hx : (a == b) = x) (hw : Below W.heap.size W w) :
    Calls Try.prog 16 #[v, v'] w fun e w' => e = .returned (.bool x) ∧ Below W.heap.size W w' := by
  subst hx
  refine (eqn_any (ha.later hw) (hb.later hw)).mono ?_
  rintro e w' ⟨rfl, n, rfl⟩
  exact ⟨rfl, Below.drewN hw n⟩

set_option maxRecDepth 100000 in
set_option maxHeartbeats 4000000 in
theorem shapeFills_any {f0 f1 f2 f3 : Value} {D P : List (List Int)} {N : List Int} {T : List (List Int × List Int)} {w : World} (h0 : IntsL w f0 D) (h1 : IntsL w f1 P) (h2 : Ints w f2 N) (h3 : TensL w f3 T) :
    Calls Try.prog 5 #[.agg #[f0, f1, f2, f3]] w fun e w' => e = .returned (.bool true) ∧ Below w.heap.size w w' := by
  have hb : Below w.heap.size w (w.alloc (.cells #[f0, f1, f2, f3] 26)) := (Below.refl _ _).alloc (Nat.le_refl _) _
  obtain ⟨na, nc, rfl⟩ := h2.shape
  obtain ⟨a0, c0, rfl⟩ : ∃ a c, f0 = .slice a D.length c := by obtain ⟨_, a0, c0, rfl, _⟩ := h0; exact ⟨_, _, rfl⟩
  obtain ⟨a1, c1, rfl⟩ : ∃ a c, f1 = .slice a P.length c := by obtain ⟨_, a0, c0, rfl, _⟩ := h1; exact ⟨_, _, rfl⟩
  obtain ⟨a3, c3, rfl⟩ : ∃ a c, f3 = .slice a T.length c := by obtain ⟨_, a0, c0, rfl, _⟩ := h3; exact ⟨_, _, rfl⟩
  have HB : Hid (Below w.heap.size w (w.alloc (.cells #[.slice a0 D.length c0, .slice a1 P.length c1, .slice na N.length nc, .slice a3 T.length c3] 26))) := hb
  have H0 : Hid (IntsL (w.alloc (.cells #[.slice a0 D.length c0, .slice a1 P.length c1, .slice na N.length nc, .slice a3 T.length c3] 26)) (.slice a0 D.length c0) D) := h0.later hb
  have H1 : Hid (IntsL (w.alloc (.cells #[.slice a0 D.length c0, .slice a1 P.length c1, .slice na N.length nc, .slice a3 T.length c3] 26)) (.slice a1 P.length c1) P) := h1.later hb
  have H2 : Hid (Ints (w.alloc (.cells #[.slice a0 D.length c0, .slice a1 P.length c1, .slice na N.length nc, .slice a3 T.length c3] 26)) (.slice na N.length nc) N) := h2.later hb
  have H3 : Hid (TensL (w.alloc (.cells #[.slice a0 D.length c0, .slice a1 P.length c1, .slice na N.length nc, .slice a3 T.length c3] 26)) (.slice a3 T.length c3) T) := h3.later hb
  have hD := h0.1
  unfold big at hD
  clear h0 h1 h2 h3 hb
  go_enter Try.func5, Try.ntmps5
  go_wp2_with fail
  refine (heavy_any H0.out H1.out H2.out H3.out).mono ?_
  rintro e w1 ⟨hv, rfl, hb1⟩
  have HB1 : Hid (Below w.heap.size w w1) := Below.after HB.out hb1
  have hws := hb1.size
  simp at hws
  cases hv with
  | true =>
    go_wp2
    go_ret
    exact ⟨rfl, HB1.out⟩
  | false =>
    have hbox : w1.cell? ⟨w.heap.size, 0, none⟩ = some (.slice a0 D.length c0) := cell_later hb1 (by simp)
    have HX : Hid (w1.cell? ⟨w.heap.size, 0, none⟩ = some (.slice a0 D.length c0)) := hbox
    have HD : Hid (IntsL w1 (.slice a0 D.length c0) D) := H0.out.later hb1
    clear hb1 hbox H0 H1 H2 H3 HB
    go_wp2
    go_loopw [3] (fun i w' => ∃ k : Nat, k ≤ D.length ∧ k ≤ 6 ∧ i = .int .i64 k ∧ Below w1.heap.size w1 w') (fun i _ => 6 - (intOf i).toNat)
    case atStart => exact ⟨0, by omega, by omega, rfl, Below.refl _ _⟩
    case round =>
      obtain ⟨k, hk, hk6, rfl, hbel⟩ := hrel
      have hbox := cell_later hbel HX.out
      have HBL : Hid (Below w1.heap.size w1 wr) := hbel
      by_cases hlt : k < D.length
      · by_cases hlt6 : k < 6
        · have hwr := hbel.size
          obtain ⟨_, b0, oc0, hsh, hcc, hrow⟩ := HD.out.later hbel
          obtain ⟨b, off, x, hax, hcx, hix⟩ := hrow k hlt
          simp only [Value.slice.injEq, true_and] at hsh
          obtain ⟨rfl, rfl⟩ := hsh
          subst hax
          have HIX : Hid (Ints wr x D[k]) := hix
          obtain ⟨xa, xc, rfl⟩ := hix.shape
          clear hrow hix hbel
          cases ho : okd D[k] with
          | false =>
            have HO : Hid (okd D[k] = false) := ho
            clear ho
            go_wp2_with fail
            refine (fill_bad _ HIX.out HO.out).mono ?_
            rintro e w2 ⟨rfl, hb2⟩
            have hbox2 := cell_later hb2 hbox
            have hcx2 := cell_later hb2 hcx
            have hz1 := World.block_lt_of_cell? _ _ hbox2
            have hz2 := World.block_lt_of_cell? _ _ hcx2
            simp only at hz1 hz2
            have HI2 : Hid (Ints w2 (.slice xa D[k].length xc) D[k]) := HIX.out.later hb2
            have HBL2 : Hid (Below w1.heap.size w1 w2) := Below.after HBL.out hb2
            clear hb2 hbox hcx
            go_wp2_with fail
            refine (cells_bad (HI2.out.later ((Below.refl _ _).alloc (Nat.le_refl _) _)) HO.out).mono ?_
            rintro e w3 ⟨rfl, rfl⟩
            go_wp2_with (go_at_call 14; refine (num_any _ _).mono ?_; rintro e w' ⟨rfl, rfl⟩)
            go_roundw
            case rel => exact ⟨k + 1, by omega, by omega, by go_num, HBL2.out.alloc HBL2.out.size _⟩
            case measure => simp [intOf]; omega
          | true =>
            have HO : Hid (okd D[k] = true) := ho
            obtain ⟨hl1, hl2, hin, hp⟩ := okd_parts ho
            have hp1 := prd_lo hin
            obtain ⟨m, hm⟩ : ∃ m : Nat, prd D[k] = m := ⟨(prd D[k]).toNat, by omega⟩
            have HM : Hid (prd D[k] = m) := hm
            have HN : Hid ((prd D[k]).toNat = m) := by show _ = _; omega
            have hm1 : 1 ≤ m := by omega
            have hm2 : m ≤ 64 := by omega
            clear ho hin hp hp1 hm
            go_wp2_with fail
            refine (fill_ok _ HIX.out HO.out).mono ?_
            rw [HN.out]
            rintro e w2 ⟨da, dc, db, rfl, hdi, hdb, hb2⟩
            have hbox2 := cell_later hb2 hbox
            have hcx2 := cell_later hb2 hcx
            have hz1 := World.block_lt_of_cell? _ _ hbox2
            have hz2 := World.block_lt_of_cell? _ _ hcx2
            simp only at hz1 hz2
            have HI2 : Hid (Ints w2 (.slice xa D[k].length xc) D[k]) := HIX.out.later hb2
            have HDI : Hid (Ints w2 (.slice da D[k].length dc) D[k]) := hdi
            have HDB : Hid (Blk w2 db (List.replicate m (↑k * 7 - 3))) := hdb
            have HBL2 : Hid (Below w1.heap.size w1 w2) := Below.after HBL.out hb2
            clear hb2 hbox hcx hdi hdb HIX
            go_wp2_with fail
            have hal : Below w2.heap.size w2 (w2.alloc (.cells #[.slice da D[k].length dc, .slice (some ⟨db, 0, none⟩) m m] 44)) := (Below.refl _ _).alloc (Nat.le_refl _) _
            refine (cells_ok (HI2.out.later hal) HO.out).mono ?_
            rw [HM.out]
            rintro e w3 ⟨rfl, hb3⟩
            have hb3' := Below.after hal hb3
            replace HI2 : Hid (Ints w3 (.slice xa D[k].length xc) D[k]) := HI2.out.later hb3'
            replace HDI : Hid (Ints w3 (.slice da D[k].length dc) D[k]) := HDI.out.later hb3'
            replace HDB : Hid (Blk w3 db (List.replicate m (↑k * 7 - 3))) := HDB.out.later hb3' HDB.out.lt
            replace HBL2 : Hid (Below w1.heap.size w1 w3) := Below.after HBL2.out hb3'
            replace hbox2 := cell_later hb3' hbox2
            replace hcx2 := cell_later hb3' hcx2
            have ht0 : w3.cell? ⟨w2.heap.size, 0, none⟩ = some (.slice da D[k].length dc) := cell_later hb3 (by simp)
            have ht1 : w3.cell? ⟨w2.heap.size, 1, none⟩ = some (.slice (some ⟨db, 0, none⟩) m m) := cell_later hb3 (by simp)
            clear hb3 hb3' hal
            go_wp2_with (go_at_call 14; refine (num_any _ _).mono ?_; rintro e w' ⟨rfl, rfl⟩)
            have HTT : Hid (Tens w3 (.slice da D[k].length dc) (.slice (some ⟨db, 0, none⟩) m m) (D[k], List.replicate m (↑k * 7 - 3))) := ⟨HDI.out, HDB.out.ints m m (by simp) (Nat.le_refl _) (by unfold big; omega)⟩
            have HTZ : Hid (tkE (D[k], List.replicate m ((k : Int) * 7 - 3)) = 0) := by show _ = _; simp [tkE, tok, HO.out, HM.out]
            go_cut [72] (fun u w' => u = .bool false ∧ Below w3.heap.size w3 w')
            case first =>
              go_region_with (first
                | (go_at_call 29; refine (tensor_at 0 HTT.out HTZ.out ?_).mono ?_; exact (Below.refl _ _).drew; rintro e w' ⟨rfl, hq⟩; have hbox3 := cell_later hq hbox2; have hcx3 := cell_later hq hcx2; have ht3 := cell_later hq ht0; have ht4 := cell_later hq ht1; have HQ : Hid (Below w3.heap.size w3 w') := hq; clear hq)
                | (go_at_call 14; refine (num_any _ _).mono ?_; rintro e w' ⟨rfl, rfl⟩)
                | (go_at_call 16; refine (eqn_at true HDI.out HI2.out (by simp) ?_).mono ?_; exact HQ.out; rintro e w' ⟨rfl, hq⟩; have hbox4 := cell_later hq hbox2; have hcx4 := cell_later hq hcx2; have ht5 := cell_later hq ht0; have ht6 := cell_later hq ht1; have HQ2 : Hid (Below w3.heap.size w3 w') := hq; clear hq))
              all_goals
                go_wp2
                go_meet
                case rel => exact ⟨rfl, HQ2.out⟩
            case rest =>
              obtain ⟨rfl, hb4⟩ := hcut
              have hbox4 := cell_later hb4 hbox2
              have hcx4 := cell_later hb4 hcx2
              have ht4 := cell_later hb4 ht0
              have ht5 := cell_later hb4 ht1
              have HDI4 : Hid (Ints wc (.slice da D[k].length dc) D[k]) := HDI.out.later hb4
              have HDB4 : Hid (Blk wc db (List.replicate m (↑k * 7 - 3))) := HDB.out.later hb4 HDB.out.lt
              have HBL4 : Hid (Below w1.heap.size w1 wc) := Below.after HBL2.out hb4
              clear hb4 hbox2 hcx2 ht0 ht1 HDI HDB HI2 HTT HBL2
              go_wp2
              go_loop [8] (fun i => ∃ j : Nat, j ≤ m ∧ i = .int .i64 j) (fun i => m - (intOf i).toNat)
              case atStart => exact ⟨0, by omega, rfl⟩
              case round =>
                obtain ⟨j, hj, rfl⟩ := hrel
                by_cases hltj : j < m
                · have hcd : wc.cell? ⟨db, j, none⟩ = some (.int .i64 (↑k * 7 - 3)) := by
                    rw [HDB4.out.cell j (by simpa using hltj)]
                    simp
                  go_wp2
                  exact ⟨⟨j + 1, by omega, by go_num⟩, by simp [intOf]; omega⟩
                · have hjm : j = m := by omega
                  subst hjm
                  have HTT : Hid (Tens wc (.slice da D[k].length dc) (.slice (some ⟨db, 0, none⟩) (j - 1) j) (D[k], List.replicate (j - 1) (↑k * 7 - 3))) :=
                    ⟨HDI4.out, Ints.mk (by simp) (by simp) (by unfold big; simp; omega) fun i hi => by
                      rw [Nat.zero_add, HDB4.out.cell i (by simp at hi ⊢; omega)]
                      simp⟩
                  have HTZ : Hid (tkE (D[k], List.replicate (j - 1) ((k : Int) * 7 - 3)) = 1) := by
                    show _ = _
                    have : ¬ (((j - 1 : Nat) : Int) = (j : Int)) := by omega
                    simp [tkE, tok, HO.out, HM.out, this]
                  clear HDB4 HDI4
                  have hj0 : ¬ j = 0 := by omega
                  go_wp2
                  go_cut [97] (fun u w' => u = .bool false ∧ Below wc.heap.size wc w')
                  case first =>
                    have hj1 : (1 : Int) ≤ (j : Int) := by omega
                    have hj2 : (j : Int) - 1 ≤ (j : Int) := by omega
                    have hj3 : ((j : Int) - 1).toNat = j - 1 := by omega
                    have hj4 : IntKind.i64.wrap ((j : Int) - 1) = (j : Int) - 1 := wrap_small _ (by omega) (by omega)
                    go_region_with (first
                      | (go_at_call 29; refine (tensor_at 1 HTT.out HTZ.out ?_).mono ?_; exact (Below.refl _ _).drew; rintro e w' ⟨rfl, hq⟩; have HQ : Hid (Below wc.heap.size wc w') := hq; clear hq)
                      | (go_at_call 14; refine (num_any _ _).mono ?_; rintro e w' ⟨rfl, rfl⟩))
                    all_goals
                      go_wp2
                      go_meet
                      case rel => exact ⟨rfl, HQ.out⟩
                  case rest =>
                    obtain ⟨rfl, hb5⟩ := hcut
                    have HBL5 : Hid (Below w1.heap.size w1 wc) := Below.after HBL4.out hb5
                    clear hb5
                    go_wp2
                    go_roundw
                    case rel => exact ⟨k + 1, by omega, by omega, by go_num, HBL5.out⟩
                    case measure => simp [intOf]; omega
        · go_wp2_with (go_at_call 31; refine (wakes_any _).mono ?_; rintro e w' ⟨rfl, hbw⟩)
          go_ret
          exact ⟨rfl, Below.after HB1.out (Below.after HBL.out hbw)⟩
      · go_wp2_with (go_at_call 31; refine (wakes_any _).mono ?_; rintro e w' ⟨rfl, hbw⟩)
        go_ret
        exact ⟨rfl, Below.after HB1.out (Below.after HBL.out hbw)⟩
end Go.Proofs.Ythkmcjniibohkaa
