/- GraphTells, over what the page's Name tells where the tables stand. -/
import Derived.Test.YtjfkhfahpjdidaaGreatDoorRB
namespace Go.Proofs.YtjfkhfahpjdidaaGreatDoor
set_option linter.unusedVariables false
set_option linter.unusedSimpArgs false
set_option maxRecDepth 100000
open Go.RowKit

theorem NodesLL.row' {w : World} {a : Option Addr} {n c : Nat} {T : List (List Nod)} (h : NodesLL w (.slice a n c) T) (i : Nat) (hi : i < T.length) : ∃ b off x, a = some ⟨b, off, none⟩ ∧ w.cell? ⟨b, off + i, none⟩ = some x ∧ NodesL w x T[i] := by
  obtain ⟨_, a', c', e, _, hr⟩ := h
  simp only [Value.slice.injEq] at e
  obtain ⟨rfl, rfl, rfl⟩ := e
  exact hr i hi
theorem use_no {L : List Nod} {j : Int} (h : nodesB L = false) : useE L j = 1 ∧ useR L j = [] := by rw [useE, useR, h]; exact ⟨rfl, rfl⟩
theorem use_out {L : List Nod} {j : Int} (h : nodesB L = true) (hj : (decide (0 ≤ j) && decide (j ≤ (L.length : Int) - 1)) = false) : useE L j = 3 ∧ useR L j = [] := by
  have e : (decide (0 ≤ j) && decide (j < (L.length : Int))) = false := by
    by_cases h0 : 0 ≤ j
    · rw [decide_eq_true h0, Bool.true_and, decide_eq_false_iff_not] at hj
      rw [decide_eq_false (p := j < (L.length : Int)) (by omega), Bool.and_false]
    · rw [decide_eq_false h0, Bool.false_and]
  rw [useE, useR, h, e]
  exact ⟨rfl, rfl⟩
theorem use_in {L : List Nod} {j : Int} (h : nodesB L = true) (hj : (decide (0 ≤ j) && decide (j ≤ (L.length : Int) - 1)) = true) : useE L j = 0 ∧ useR L j = useN L j L.length := by
  have e : (decide (0 ≤ j) && decide (j < (L.length : Int))) = true := by
    rw [Bool.and_eq_true, decide_eq_true_eq, decide_eq_true_eq] at hj ⊢
    omega
  rw [useE, useR, h, e]
  exact ⟨rfl, rfl⟩
set_option maxRecDepth 1000000 in
set_option maxHeartbeats 64000000 in
theorem graphTells8 {TB : World → Prop} (R : RName TB) {f0 f1 f2 : Value} {T : List (List Nod)} {N : List Int} {D : List (List Int)} {w : World} (h0 : NodesLL w f0 T) (h1 : Ints w f1 N) (h2 : IntsL w f2 D) (hT : TB w) :
    Calls Tryz.prog 3 #[.agg #[f0, f1, f2]] w fun e w' => e = .returned (.bool true) ∧ Below w.heap.size w w' := by
  have H0 : Hid (NodesLL w f0 T) := h0
  have H1 : Hid (Ints w f1 N) := h1
  have H2 : Hid (IntsL w f2 D) := h2
  have HTB : Hid (TB w) := hT
  obtain ⟨hTb, a0, k0, rfl, hTc, hTr⟩ := h0
  obtain ⟨a1, n1, k1, rfl⟩ := h1.shape3
  obtain ⟨a2, n2, k2, rfl⟩ : ∃ a n c, f2 = .slice a n c := by obtain ⟨_, a, c, e, _⟩ := h2; exact ⟨a, _, c, e⟩
  unfold big at hTb
  obtain ⟨U, hU⟩ : ∃ U, U = w.alloc (.cells #[.slice a0 T.length k0, .slice a1 n1 k1, .slice a2 n2 k2] 26) := ⟨_, rfl⟩
  have HUU : Hid (U = w.alloc (.cells #[.slice a0 T.length k0, .slice a1 n1 k1, .slice a2 n2 k2] 26)) := hU
  have hb : Below w.heap.size w U := by rw [hU]; exact Below.push (Below.refl _ _) _
  have HB : Hid (Below w.heap.size w U) := hb
  have HU0 : Hid (U.cell? ⟨w.heap.size, 0, none⟩ = some (.slice a0 T.length k0)) := by show _ = _; rw [hU]; simp
  have HT0 : Hid (NodesLL U (.slice a0 T.length k0) T) := H0.out.later hb
  obtain ⟨bh, hbh⟩ : ∃ bh, decide (1200 < hv T N D) = bh := ⟨_, rfl⟩
  have HBH : Hid (decide (1200 < hv T N D) = bh) := hbh
  clear h1 h2 hb hTr hU hbh hT
  cases bh with
  | true =>
    go_enter Tryz.func3, Tryz.ntmps3
    go_wp2_with fail
    rw [← HUU.out]
    refine (heavy8_any (H0.out.later HB.out) (H1.out.later HB.out) (H2.out.later HB.out) true HBH.out).mono ?_
    rintro e w1 ⟨rfl, hb1⟩
    have HB1 : Hid (Below w.heap.size w w1) := Below.after HB.out hb1
    clear hb1
    go_wp2
    go_ret
    exact ⟨rfl, HB1.out⟩
  | false =>
    have HLI : Hid (Light T N D) := hv_light (by have := of_decide_eq_false HBH.out; omega)
    go_enter Tryz.func3, Tryz.ntmps3
    go_wp2_with fail
    rw [← HUU.out]
    refine (heavy8_any (H0.out.later HB.out) (H1.out.later HB.out) (H2.out.later HB.out) false HBH.out).mono ?_
    rintro e w1 ⟨rfl, hb1⟩
    have HB1 : Hid (Below U.heap.size U w1) := hb1
    clear hb1
    go_wp2
    go_loopw [3] (fun i w' => ∃ k : Nat, k ≤ T.length ∧ k ≤ 5 ∧ i = .int .i64 k ∧ Hid (Below U.heap.size U w')) (fun i _ => 5 - (intOf i).toNat)
    case atStart => exact ⟨0, Nat.zero_le _, by omega, rfl, HB1.out⟩
    case round =>
      obtain ⟨i, hi, hi5, rfl, HBR⟩ := hrel
      have c0 := cell_later HBR.out HU0.out
      by_cases hlt : i < T.length ∧ i < 5
      case neg =>
        by_cases hlt1 : i < T.length
        · have h5 : i = 5 := by omega
          subst h5
          have g1 : ((5 : Nat) : Int) < T.length := by omega
          clear hlt
          go_wp2_with (go_at_call 19; refine (wakes8 faces8 _).mono ?_; rintro e w9 ⟨rfl, hb9⟩; have HB9 : Hid (Below w.heap.size w w9) := Below.after HB.out (Below.after HBR.out hb9); clear hb9)
          go_ret
          exact ⟨rfl, HB9.out⟩
        · have g1 : ¬ (i : Int) < T.length := by omega
          clear hlt
          go_wp2_with (go_at_call 19; refine (wakes8 faces8 _).mono ?_; rintro e w9 ⟨rfl, hb9⟩; have HB9 : Hid (Below w.heap.size w w9) := Below.after HB.out (Below.after HBR.out hb9); clear hb9)
          go_ret
          exact ⟨rfl, HB9.out⟩
      case pos =>
      obtain ⟨hlt1, hlt5⟩ := hlt
      obtain ⟨b, off, x, rfl, hc, hnl⟩ := (HT0.out.later HBR.out).row' i hlt1
      have HNL : Hid (NodesL wr x T[i]) := hnl
      have HSM : Hid (Small T[i]) := light_small HLI.out i hlt1
      obtain ⟨la, lc, rfl, hlc, hlb⟩ := hnl.shape
      have g1 : (i : Int) < T.length := by omega
      have g5 : (i : Int) < 5 := by omega
      have g0 : (0 : Int) ≤ i := by omega
      generalize T[i] = L at HNL HSM hc hlc
      clear hlb
      have HAR : Hid (∀ t ∈ L, t.args.length ≤ 100000000) := fun t ht => by
        obtain ⟨i, hi, rfl⟩ := List.getElem_of_mem ht
        have := HSM.out.a i hi
        omega
      have hLn := HSM.out.n
      obtain ⟨q, hq⟩ : ∃ q, grpB L = q := ⟨_, rfl⟩
      have HQ : Hid (grpB L = q) := hq
      obtain ⟨r, hr⟩ : ∃ r, nodesB L = r := ⟨_, rfl⟩
      have HR : Hid (nodesB L = r) := hr
      clear hnl hq hr
      go_wp2_with fail
      refine (copyNs_any HNL.out hLn).mono ?_
      rintro e w2 ⟨vi, xs, rfl, hrow, hb2⟩
      have HB2 : Hid (Below U.heap.size U w2) := Below.after HBR.out hb2
      have hni := hrow.nodesL (by unfold big; omega)
      have HNI : Hid (NodesL w2 vi L) := hni
      obtain ⟨ia, ic, rfl, hic, _⟩ := hni.shape
      have HN2 : Hid (NodesL w2 (.slice la L.length lc) L) := HNL.out.later hb2
      have HTW : Hid (TB w2) := R.later (Below.after HB.out HB2.out) HTB.out
      have d0 := cell_later hb2 c0
      have d1 := cell_later hb2 hc
      have D0 : Hid (w2.cell? ⟨w.heap.size, 0, none⟩ = some (.slice (some ⟨b, off, none⟩) T.length k0)) := d0
      have D1 : Hid (w2.cell? ⟨b, off + i, none⟩ = some (.slice la L.length lc)) := d1
      clear hrow hb2 hni c0 hc
      go_wp2_with fail
      go_region_held3 (fun w' => w'.cell? ⟨w.heap.size, 0, none⟩ = some (.slice (some ⟨b, off, none⟩) T.length k0) ∧ w'.cell? ⟨b, off + i, none⟩ = some (.slice la L.length lc)) (refine ⟨?_, ?_⟩ <;> first | assumption | go_keep)
        (first
          | (go_at_call 6; refine (rgraph_any R ?_ HSM.out ?_ q HQ.out).mono ?_; exact HN2.out.later (Below.refl _ _).drew; exact R.later (Below.refl _ _).drew HTW.out; rintro e w3 ⟨rfl, hb3⟩; have HB3 : Hid (Below w2.heap.size w2 w3) := Below.after (Below.refl _ _).drew hb3; have a_0 := cell_later HB3.out d0; have a_1 := cell_later HB3.out d1; clear hb3)
          | (go_at_call 7; refine (rnodes_any ?_ HAR.out r HR.out).mono ?_; exact HN2.out.later HB3.out; rintro e w4 ⟨rfl, hb4⟩; have HB4 : Hid (Below w2.heap.size w2 w4) := Below.after HB3.out hb4; have b_0 := cell_later HB4.out d0; have b_1 := cell_later HB4.out d1; clear hb4))
      clear a_0 a_1 d0 d1
      go_wp2_with fail
      refine (leaves8_any (HNI.out.later HB4.out) HSM.out q HQ.out).mono ?_
      rintro e w5 ⟨x5, rfl, ho5, hb5⟩
      have HB5 : Hid (Below w2.heap.size w2 w5) := Below.after HB4.out hb5
      have e_0 := cell_later HB5.out D0.out
      have e_1 := cell_later HB5.out D1.out
      obtain ⟨s5, n5, c5, rfl⟩ := ho5.ints.shape3
      clear b_0 b_1 hb5
      cases q with
      | true =>
        have HR1 : Hid (r = true) := by show _ = _; rw [← HR.out]; exact grp_nodes HQ.out
        obtain rfl : r = true := HR1.out
        have HX5 : Hid (Ints w5 (.slice s5 n5 c5) (levs L)) := ho5.ints
        clear ho5
        go_wp2_with fail
        refine (rleaves_any (HN2.out.later HB5.out) hLn).mono ?_
        rintro e w6 ⟨x6, rfl, ho6, hb6⟩
        have HX6 : Hid (Ints w6 x6 (levs L)) := ho6.ints
        have HX56 : Hid (Ints w6 (.slice s5 n5 c5) (levs L)) := HX5.out.later hb6
        have HB6 : Hid (Below w2.heap.size w2 w6) := Below.after HB5.out hb6
        obtain ⟨s6, n6, c6, rfl⟩ := ho6.ints.shape3
        clear ho6 hb6
        go_wp2_with (first
          | (go_at_call 10; refine (num8 _ _).mono ?_; rintro e w' ⟨rfl, rfl⟩)
          | (go_at_call 11; refine (check8_any (HNI.out.later HB6.out) HSM.out true HQ.out).mono ?_; rintro e w7 ⟨rfl, hb7⟩; have HB7 : Hid (Below w2.heap.size w2 w7) := Below.after HB6.out hb7; have HC7 : Hid (Below w6.heap.size w6 w7) := hb7; clear hb7)
          | (go_at_call 12; refine (nodes8_any (HNI.out.later HB7.out) HSM.out true HR.out).mono ?_; rintro e w8 ⟨rfl, hb8⟩; have HB8 : Hid (Below w2.heap.size w2 w8) := Below.after HB7.out hb8; have HC8 : Hid (Below w6.heap.size w6 w8) := Below.after HC7.out hb8; clear hb8)
          | (go_at_call 13; refine (eqn_to true (HX56.out.later HC8.out) (HX6.out.later HC8.out) (by simp)).mono ?_; rintro e w9 ⟨rfl, m8, rfl⟩))
        obtain ⟨W0, hW0⟩ : ∃ W0, w8.drewN m8 = W0 := ⟨_, rfl⟩
        have HBZ : Hid (Below w2.heap.size w2 W0) := by show Below _ _ _; rw [← hW0]; exact Below.drewN HB8.out _
        rw [hW0]
        clear hW0
        go_loopw [11] (fun v w' => ∃ j : Int, -1 ≤ j ∧ j ≤ (L.length : Int) + 1 ∧ j ≤ 30 ∧ v = .int .i64 j ∧ Hid (Below w2.heap.size w2 w')) (fun v _ => ((L.length : Int) + 2 - intOf v).toNat)
        case atStart => exact ⟨-1, by omega, by omega, by omega, rfl, HBZ.out⟩
        case round =>
          obtain ⟨j, hj0, hj1, hj30, rfl, HBJ⟩ := hrel
          have f_0 := cell_later HBJ.out D0.out
          have f_1 := cell_later HBJ.out D1.out
          have HNIJ : Hid (NodesL wr (.slice ia L.length ic) L) := HNI.out.later HBJ.out
          have HNJ : Hid (NodesL wr (.slice la L.length lc) L) := HN2.out.later HBJ.out
          by_cases hjl : j ≤ (L.length : Int)
          · by_cases hj3 : j < 30
            · have gwj : IntKind.i64.wrap (j + 1) = j + 1 := wrap_small _ (by omega) (by omega)
              have gwl : IntKind.i64.wrap ((L.length : Int) - 1) = (L.length : Int) - 1 := by simp [IntKind.wrap, IntKind.signed, IntKind.bits]; omega
              obtain ⟨z, hz⟩ : ∃ z, useE L j = z := ⟨_, rfl⟩
              have HZ : Hid (useE L j = z) := hz
              clear hz
              go_wp2_with fail
              refine (uses8_any HNIJ.out HSM.out j z HZ.out).mono ?_
              rintro e wu ⟨xu, rfl, hou, hbu⟩
              have HOU : Hid (Own wu wr.heap.size xu (useR L j)) := hou
              have HXU : Hid (Ints wu xu (useR L j)) := hou.ints
              have HBU : Hid (Below wr.heap.size wr wu) := hbu
              have h_0 := cell_later hbu f_0
              have h_1 := cell_later hbu f_1
              obtain ⟨su, nu, cu, rfl⟩ := hou.ints.shape3
              clear hou hbu
              obtain ⟨y, hy⟩ : ∃ y, (decide (0 ≤ j) && decide (j ≤ (L.length : Int) - 1)) = y := ⟨_, rfl⟩
              have HY : Hid ((decide (0 ≤ j) && decide (j ≤ (L.length : Int) - 1)) = y) := hy
              clear hy
              cases y with
              | false =>
                have HV : Hid (z = 3 ∧ useR L j = []) := by show _ ∧ _; rw [← HZ.out]; exact use_out HR.out HY.out
                have HXN : Hid (Ints wu (.slice su nu cu) []) := by show Ints _ _ _; rw [← HV.out.2]; exact HXU.out
                obtain rfl : z = 3 := HV.out.1
                go_wp2_with (first
                  | (go_at_call 10; refine (num8 _ _).mono ?_; rintro e w' ⟨rfl, rfl⟩)
                  | (go_at_call 15; refine (rnum_to _ _ _ false HY.out).mono ?_; rintro e w' ⟨rfl, rfl⟩)
                  | (go_at_call 13; refine (eqn_to true HXN.out (Ints.nil _) (by simp)).mono ?_; rintro e we ⟨rfl, me, rfl⟩; have HOF : Hid (Own (wu.drewN me) wr.heap.size (.slice su nu cu) (useR L j)) := HOU.out.later (Below.drewN (Below.refl _ _) _); have HBE : Hid (Below wr.heap.size wr (wu.drewN me)) := Below.drewN HBU.out _)
                  | (go_at_call 17; refine (numbers8_any HOF.out).mono ?_; rintro e wn ⟨rfl, hbn⟩; have HBF : Hid (Below wr.heap.size wr wn) := HBE.out.trans hbn; clear hbn))
                go_roundw
                case rel => exact ⟨j + 1, by omega, by omega, by omega, by go_num, Below.after HBJ.out HBF.out⟩
                case measure => simp [intOf]; omega
              | true =>
                have HV : Hid (z = 0 ∧ useR L j = useN L j L.length) := by show _ ∧ _; rw [← HZ.out]; exact use_in HR.out HY.out
                have HXN : Hid (Ints wu (.slice su nu cu) (useN L j L.length)) := by show Ints _ _ _; rw [← HV.out.2]; exact HXU.out
                obtain rfl : z = 0 := HV.out.1
                go_wp2_with (first
                  | (go_at_call 10; refine (num8 _ _).mono ?_; rintro e w' ⟨rfl, rfl⟩)
                  | (go_at_call 15; refine (rnum_to _ _ _ true HY.out).mono ?_; rintro e w' ⟨rfl, rfl⟩)
                  | (go_at_call 16; refine (ruses_any (HNJ.out.later HBU.out) j hLn).mono ?_; rintro e wv ⟨xv, rfl, hov, hbv⟩; obtain ⟨sv, nv, cv, rfl⟩ := hov.ints.shape3; have HXV : Hid (Ints wv (.slice sv nv cv) (useN L j L.length)) := hov.ints; have HXN2 : Hid (Ints wv (.slice su nu cu) (useN L j L.length)) := HXN.out.later hbv; have HOU2 : Hid (Own wv wr.heap.size (.slice su nu cu) (useR L j)) := HOU.out.later hbv; have HBV : Hid (Below wr.heap.size wr wv) := Below.after HBU.out hbv; clear hov hbv)
                  | (go_at_call 13; refine (eqn_to true HXN2.out HXV.out (by simp)).mono ?_; rintro e we ⟨rfl, me, rfl⟩; have HOF : Hid (Own (wv.drewN me) wr.heap.size (.slice su nu cu) (useR L j)) := HOU2.out.later (Below.drewN (Below.refl _ _) _); have HBE : Hid (Below wr.heap.size wr (wv.drewN me)) := Below.drewN HBV.out _)
                  | (go_at_call 17; refine (numbers8_any HOF.out).mono ?_; rintro e wn ⟨rfl, hbn⟩; have HBF : Hid (Below wr.heap.size wr wn) := HBE.out.trans hbn; clear hbn))
                go_roundw
                case rel => exact ⟨j + 1, by omega, by omega, by omega, by go_num, Below.after HBJ.out HBF.out⟩
                case measure => simp [intOf]; omega
            · go_wp2_with (go_at_call 18; refine (eqNs_same HNIJ.out HNJ.out).mono ?_; rintro e w9 ⟨rfl, hb9⟩; have HB9 : Hid (Below w2.heap.size w2 w9) := Below.after HBJ.out hb9; clear hb9)
              go_roundw
              case rel => exact ⟨i + 1, by omega, by omega, by go_num, Below.after HB2.out HB9.out⟩
              case measure => simp [intOf]; omega
          · go_wp2_with (go_at_call 18; refine (eqNs_same HNIJ.out HNJ.out).mono ?_; rintro e w9 ⟨rfl, hb9⟩; have HB9 : Hid (Below w2.heap.size w2 w9) := Below.after HBJ.out hb9; clear hb9)
            go_roundw
            case rel => exact ⟨i + 1, by omega, by omega, by go_num, Below.after HB2.out HB9.out⟩
            case measure => simp [intOf]; omega
      | false =>
        cases r with
        | false =>
          have HX5 : Hid (Ints w5 (.slice s5 n5 c5) []) := ho5.ints
          clear ho5
          go_wp2_with (first
            | (go_at_call 10; refine (num8 _ _).mono ?_; rintro e w' ⟨rfl, rfl⟩)
            | (go_at_call 11; refine (check8_any (HNI.out.later HB5.out) HSM.out false HQ.out).mono ?_; rintro e w7 ⟨rfl, hb7⟩; have HB7 : Hid (Below w2.heap.size w2 w7) := Below.after HB5.out hb7; have HC7 : Hid (Below w5.heap.size w5 w7) := hb7; clear hb7)
            | (go_at_call 12; refine (nodes8_any (HNI.out.later HB7.out) HSM.out false HR.out).mono ?_; rintro e w8 ⟨rfl, hb8⟩; have HB8 : Hid (Below w2.heap.size w2 w8) := Below.after HB7.out hb8; have HC8 : Hid (Below w5.heap.size w5 w8) := Below.after HC7.out hb8; clear hb8)
            | (go_at_call 13; refine (eqn_to true (HX5.out.later HC8.out) (Ints.nil _) (by simp)).mono ?_; rintro e w9 ⟨rfl, m8, rfl⟩))
          obtain ⟨W0, hW0⟩ : ∃ W0, w8.drewN m8 = W0 := ⟨_, rfl⟩
          have HBZ : Hid (Below w2.heap.size w2 W0) := by show Below _ _ _; rw [← hW0]; exact Below.drewN HB8.out _
          rw [hW0]
          clear hW0
          go_loopw [11] (fun v w' => ∃ j : Int, -1 ≤ j ∧ j ≤ (L.length : Int) + 1 ∧ j ≤ 30 ∧ v = .int .i64 j ∧ Hid (Below w2.heap.size w2 w')) (fun v _ => ((L.length : Int) + 2 - intOf v).toNat)
          case atStart => exact ⟨-1, by omega, by omega, by omega, rfl, HBZ.out⟩
          case round =>
            obtain ⟨j, hj0, hj1, hj30, rfl, HBJ⟩ := hrel
            have f_0 := cell_later HBJ.out D0.out
            have f_1 := cell_later HBJ.out D1.out
            have HNIJ : Hid (NodesL wr (.slice ia L.length ic) L) := HNI.out.later HBJ.out
            have HNJ : Hid (NodesL wr (.slice la L.length lc) L) := HN2.out.later HBJ.out
            by_cases hjl : j ≤ (L.length : Int)
            · by_cases hj3 : j < 30
              · have gwj : IntKind.i64.wrap (j + 1) = j + 1 := wrap_small _ (by omega) (by omega)
                have gwl : IntKind.i64.wrap ((L.length : Int) - 1) = (L.length : Int) - 1 := by simp [IntKind.wrap, IntKind.signed, IntKind.bits]; omega
                obtain ⟨z, hz⟩ : ∃ z, useE L j = z := ⟨_, rfl⟩
                have HZ : Hid (useE L j = z) := hz
                clear hz
                go_wp2_with fail
                refine (uses8_any HNIJ.out HSM.out j z HZ.out).mono ?_
                rintro e wu ⟨xu, rfl, hou, hbu⟩
                have HOU : Hid (Own wu wr.heap.size xu (useR L j)) := hou
                have HXU : Hid (Ints wu xu (useR L j)) := hou.ints
                have HBU : Hid (Below wr.heap.size wr wu) := hbu
                have h_0 := cell_later hbu f_0
                have h_1 := cell_later hbu f_1
                obtain ⟨su, nu, cu, rfl⟩ := hou.ints.shape3
                clear hou hbu
                have HV : Hid (z = 1 ∧ useR L j = []) := by show _ ∧ _; rw [← HZ.out]; exact use_no HR.out
                have HXN : Hid (Ints wu (.slice su nu cu) []) := by show Ints _ _ _; rw [← HV.out.2]; exact HXU.out
                obtain rfl : z = 1 := HV.out.1
                go_wp2_with (first
                  | (go_at_call 10; refine (num8 _ _).mono ?_; rintro e w' ⟨rfl, rfl⟩)
                  | (go_at_call 13; refine (eqn_to true HXN.out (Ints.nil _) (by simp)).mono ?_; rintro e we ⟨rfl, me, rfl⟩; have HOF : Hid (Own (wu.drewN me) wr.heap.size (.slice su nu cu) (useR L j)) := HOU.out.later (Below.drewN (Below.refl _ _) _); have HBE : Hid (Below wr.heap.size wr (wu.drewN me)) := Below.drewN HBU.out _)
                  | (go_at_call 17; refine (numbers8_any HOF.out).mono ?_; rintro e wn ⟨rfl, hbn⟩; have HBF : Hid (Below wr.heap.size wr wn) := HBE.out.trans hbn; clear hbn))
                go_roundw
                case rel => exact ⟨j + 1, by omega, by omega, by omega, by go_num, Below.after HBJ.out HBF.out⟩
                case measure => simp [intOf]; omega
              · go_wp2_with (go_at_call 18; refine (eqNs_same HNIJ.out HNJ.out).mono ?_; rintro e w9 ⟨rfl, hb9⟩; have HB9 : Hid (Below w2.heap.size w2 w9) := Below.after HBJ.out hb9; clear hb9)
                go_roundw
                case rel => exact ⟨i + 1, by omega, by omega, by go_num, Below.after HB2.out HB9.out⟩
                case measure => simp [intOf]; omega
            · go_wp2_with (go_at_call 18; refine (eqNs_same HNIJ.out HNJ.out).mono ?_; rintro e w9 ⟨rfl, hb9⟩; have HB9 : Hid (Below w2.heap.size w2 w9) := Below.after HBJ.out hb9; clear hb9)
              go_roundw
              case rel => exact ⟨i + 1, by omega, by omega, by go_num, Below.after HB2.out HB9.out⟩
              case measure => simp [intOf]; omega
        | true =>
          have HX5 : Hid (Ints w5 (.slice s5 n5 c5) []) := ho5.ints
          clear ho5
          go_wp2_with (first
            | (go_at_call 10; refine (num8 _ _).mono ?_; rintro e w' ⟨rfl, rfl⟩)
            | (go_at_call 11; refine (check8_any (HNI.out.later HB5.out) HSM.out false HQ.out).mono ?_; rintro e w7 ⟨rfl, hb7⟩; have HB7 : Hid (Below w2.heap.size w2 w7) := Below.after HB5.out hb7; have HC7 : Hid (Below w5.heap.size w5 w7) := hb7; clear hb7)
            | (go_at_call 12; refine (nodes8_any (HNI.out.later HB7.out) HSM.out true HR.out).mono ?_; rintro e w8 ⟨rfl, hb8⟩; have HB8 : Hid (Below w2.heap.size w2 w8) := Below.after HB7.out hb8; have HC8 : Hid (Below w5.heap.size w5 w8) := Below.after HC7.out hb8; clear hb8)
            | (go_at_call 13; refine (eqn_to true (HX5.out.later HC8.out) (Ints.nil _) (by simp)).mono ?_; rintro e w9 ⟨rfl, m8, rfl⟩))
          obtain ⟨W0, hW0⟩ : ∃ W0, w8.drewN m8 = W0 := ⟨_, rfl⟩
          have HBZ : Hid (Below w2.heap.size w2 W0) := by show Below _ _ _; rw [← hW0]; exact Below.drewN HB8.out _
          rw [hW0]
          clear hW0
          go_loopw [11] (fun v w' => ∃ j : Int, -1 ≤ j ∧ j ≤ (L.length : Int) + 1 ∧ j ≤ 30 ∧ v = .int .i64 j ∧ Hid (Below w2.heap.size w2 w')) (fun v _ => ((L.length : Int) + 2 - intOf v).toNat)
          case atStart => exact ⟨-1, by omega, by omega, by omega, rfl, HBZ.out⟩
          case round =>
            obtain ⟨j, hj0, hj1, hj30, rfl, HBJ⟩ := hrel
            have f_0 := cell_later HBJ.out D0.out
            have f_1 := cell_later HBJ.out D1.out
            have HNIJ : Hid (NodesL wr (.slice ia L.length ic) L) := HNI.out.later HBJ.out
            have HNJ : Hid (NodesL wr (.slice la L.length lc) L) := HN2.out.later HBJ.out
            by_cases hjl : j ≤ (L.length : Int)
            · by_cases hj3 : j < 30
              · have gwj : IntKind.i64.wrap (j + 1) = j + 1 := wrap_small _ (by omega) (by omega)
                have gwl : IntKind.i64.wrap ((L.length : Int) - 1) = (L.length : Int) - 1 := by simp [IntKind.wrap, IntKind.signed, IntKind.bits]; omega
                obtain ⟨z, hz⟩ : ∃ z, useE L j = z := ⟨_, rfl⟩
                have HZ : Hid (useE L j = z) := hz
                clear hz
                go_wp2_with fail
                refine (uses8_any HNIJ.out HSM.out j z HZ.out).mono ?_
                rintro e wu ⟨xu, rfl, hou, hbu⟩
                have HOU : Hid (Own wu wr.heap.size xu (useR L j)) := hou
                have HXU : Hid (Ints wu xu (useR L j)) := hou.ints
                have HBU : Hid (Below wr.heap.size wr wu) := hbu
                have h_0 := cell_later hbu f_0
                have h_1 := cell_later hbu f_1
                obtain ⟨su, nu, cu, rfl⟩ := hou.ints.shape3
                clear hou hbu
                obtain ⟨y, hy⟩ : ∃ y, (decide (0 ≤ j) && decide (j ≤ (L.length : Int) - 1)) = y := ⟨_, rfl⟩
                have HY : Hid ((decide (0 ≤ j) && decide (j ≤ (L.length : Int) - 1)) = y) := hy
                clear hy
                cases y with
                | false =>
                  have HV : Hid (z = 3 ∧ useR L j = []) := by show _ ∧ _; rw [← HZ.out]; exact use_out HR.out HY.out
                  have HXN : Hid (Ints wu (.slice su nu cu) []) := by show Ints _ _ _; rw [← HV.out.2]; exact HXU.out
                  obtain rfl : z = 3 := HV.out.1
                  go_wp2_with (first
                    | (go_at_call 10; refine (num8 _ _).mono ?_; rintro e w' ⟨rfl, rfl⟩)
                    | (go_at_call 15; refine (rnum_to _ _ _ false HY.out).mono ?_; rintro e w' ⟨rfl, rfl⟩)
                    | (go_at_call 13; refine (eqn_to true HXN.out (Ints.nil _) (by simp)).mono ?_; rintro e we ⟨rfl, me, rfl⟩; have HOF : Hid (Own (wu.drewN me) wr.heap.size (.slice su nu cu) (useR L j)) := HOU.out.later (Below.drewN (Below.refl _ _) _); have HBE : Hid (Below wr.heap.size wr (wu.drewN me)) := Below.drewN HBU.out _)
                    | (go_at_call 17; refine (numbers8_any HOF.out).mono ?_; rintro e wn ⟨rfl, hbn⟩; have HBF : Hid (Below wr.heap.size wr wn) := HBE.out.trans hbn; clear hbn))
                  go_roundw
                  case rel => exact ⟨j + 1, by omega, by omega, by omega, by go_num, Below.after HBJ.out HBF.out⟩
                  case measure => simp [intOf]; omega
                | true =>
                  have HV : Hid (z = 0 ∧ useR L j = useN L j L.length) := by show _ ∧ _; rw [← HZ.out]; exact use_in HR.out HY.out
                  have HXN : Hid (Ints wu (.slice su nu cu) (useN L j L.length)) := by show Ints _ _ _; rw [← HV.out.2]; exact HXU.out
                  obtain rfl : z = 0 := HV.out.1
                  go_wp2_with (first
                    | (go_at_call 10; refine (num8 _ _).mono ?_; rintro e w' ⟨rfl, rfl⟩)
                    | (go_at_call 15; refine (rnum_to _ _ _ true HY.out).mono ?_; rintro e w' ⟨rfl, rfl⟩)
                    | (go_at_call 16; refine (ruses_any (HNJ.out.later HBU.out) j hLn).mono ?_; rintro e wv ⟨xv, rfl, hov, hbv⟩; obtain ⟨sv, nv, cv, rfl⟩ := hov.ints.shape3; have HXV : Hid (Ints wv (.slice sv nv cv) (useN L j L.length)) := hov.ints; have HXN2 : Hid (Ints wv (.slice su nu cu) (useN L j L.length)) := HXN.out.later hbv; have HOU2 : Hid (Own wv wr.heap.size (.slice su nu cu) (useR L j)) := HOU.out.later hbv; have HBV : Hid (Below wr.heap.size wr wv) := Below.after HBU.out hbv; clear hov hbv)
                    | (go_at_call 13; refine (eqn_to true HXN2.out HXV.out (by simp)).mono ?_; rintro e we ⟨rfl, me, rfl⟩; have HOF : Hid (Own (wv.drewN me) wr.heap.size (.slice su nu cu) (useR L j)) := HOU2.out.later (Below.drewN (Below.refl _ _) _); have HBE : Hid (Below wr.heap.size wr (wv.drewN me)) := Below.drewN HBV.out _)
                    | (go_at_call 17; refine (numbers8_any HOF.out).mono ?_; rintro e wn ⟨rfl, hbn⟩; have HBF : Hid (Below wr.heap.size wr wn) := HBE.out.trans hbn; clear hbn))
                  go_roundw
                  case rel => exact ⟨j + 1, by omega, by omega, by omega, by go_num, Below.after HBJ.out HBF.out⟩
                  case measure => simp [intOf]; omega
              · go_wp2_with (go_at_call 18; refine (eqNs_same HNIJ.out HNJ.out).mono ?_; rintro e w9 ⟨rfl, hb9⟩; have HB9 : Hid (Below w2.heap.size w2 w9) := Below.after HBJ.out hb9; clear hb9)
                go_roundw
                case rel => exact ⟨i + 1, by omega, by omega, by go_num, Below.after HB2.out HB9.out⟩
                case measure => simp [intOf]; omega
            · go_wp2_with (go_at_call 18; refine (eqNs_same HNIJ.out HNJ.out).mono ?_; rintro e w9 ⟨rfl, hb9⟩; have HB9 : Hid (Below w2.heap.size w2 w9) := Below.after HBJ.out hb9; clear hb9)
              go_roundw
              case rel => exact ⟨i + 1, by omega, by omega, by go_num, Below.after HB2.out HB9.out⟩
              case measure => simp [intOf]; omega
end Go.Proofs.YtjfkhfahpjdidaaGreatDoor
