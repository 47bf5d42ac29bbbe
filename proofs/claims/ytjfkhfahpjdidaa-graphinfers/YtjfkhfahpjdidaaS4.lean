/- GraphLeaves, over what the package's ways tell. -/
import Derived.Test.YtjfkhfahpjdidaaS3
namespace Go.Proofs.Ytjfkhfahpjdidaa
set_option linter.unusedVariables false
set_option linter.unusedSimpArgs false
set_option maxRecDepth 100000
open Go.RowKit

theorem levs_len (L : List Nod) : (levs L).length ≤ L.length + L.length := by
  have h1 := lvN_len L 1 L.length
  have h2 := lvN_len L 2 L.length
  rw [levs, List.length_append]
  omega
theorem useR_len (L : List Nod) (i : Int) : (useR L i).length ≤ L.length := by
  have h1 := useN_len L i L.length
  rw [useR]
  split
  · exact h1
  · simp
theorem grp_one {L : List Nod} (h : grpB L = true) : 1 ≤ L.length := by
  simp only [grpB, Bool.and_eq_true] at h
  exact of_decide_eq_true h.1.1.1.1
theorem NodesLL.row {w : World} {a : Option Addr} {n c : Nat} {T : List (List Nod)} (h : NodesLL w (.slice a n c) T) (i : Nat) (hi : i < T.length) : ∃ b off x, a = some ⟨b, off, none⟩ ∧ w.cell? ⟨b, off + i, none⟩ = some x ∧ NodesL w x T[i] := by
  obtain ⟨_, a', c', e, _, hr⟩ := h
  simp only [Value.slice.injEq] at e
  obtain ⟨rfl, rfl, rfl⟩ := e
  exact hr i hi
set_option maxRecDepth 1000000 in
set_option maxHeartbeats 16000000 in
theorem graphLeaves8 (F : Faces) {f0 f1 f2 : Value} {T : List (List Nod)} {N : List Int} {D : List (List Int)} {w : World} (h0 : NodesLL w f0 T) (h1 : Ints w f1 N) (h2 : IntsL w f2 D) :
    Calls Try.prog 4 #[.agg #[f0, f1, f2]] w fun e w' => e = .returned (.bool true) ∧ Below w.heap.size w w' := by
  have H0 : Hid (NodesLL w f0 T) := h0
  have H1 : Hid (Ints w f1 N) := h1
  have H2 : Hid (IntsL w f2 D) := h2
  obtain ⟨hTb, a0, k0, rfl, hTc, hTr⟩ := h0
  obtain ⟨a1, n1, k1, rfl⟩ := h1.shape3
  obtain ⟨a2, n2, k2, rfl⟩ : ∃ a n c, f2 = .slice a n c := by obtain ⟨_, a, c, e, _⟩ := h2; exact ⟨a, _, c, e⟩
  unfold big at hTb
  obtain ⟨U, hU⟩ : ∃ U, U = w.alloc (.cells #[.slice a0 T.length k0, .slice a1 n1 k1, .slice a2 n2 k2] 26) := ⟨_, rfl⟩
  have HUU : Hid (U = w.alloc (.cells #[.slice a0 T.length k0, .slice a1 n1 k1, .slice a2 n2 k2] 26)) := hU
  have hb : Below w.heap.size w U := by rw [hU]; exact Below.push (Below.refl _ _) _
  have HB : Hid (Below w.heap.size w U) := hb
  have HU0 : Hid (U.cell? ⟨w.heap.size, 0, none⟩ = some (.slice a0 T.length k0)) := by show _ = _; rw [hU]; simp
  have HT0 : Hid (NodesLL U (.slice a0 T.length k0) T) := H0.out.later hb
  obtain ⟨bh, hbh⟩ : ∃ bh, decide (1200 < hv T N D) = bh := ⟨_, rfl⟩
  have HBH : Hid (decide (1200 < hv T N D) = bh) := hbh
  clear h1 h2 hb hTr hU hbh
  cases bh with
  | true =>
    go_enter Try.func4, Try.ntmps4
    go_wp2_with fail
    rw [← HUU.out]
    refine (heavy8_any (H0.out.later HB.out) (H1.out.later HB.out) (H2.out.later HB.out) true HBH.out).mono ?_
    rintro e w1 ⟨rfl, hb1⟩
    have HB1 : Hid (Below w.heap.size w w1) := Below.after HB.out hb1
    clear hb1
    go_wp2
    go_ret
    exact ⟨rfl, HB1.out⟩
  | false =>
    have HLI : Hid (Light T N D) := hv_light (by have := of_decide_eq_false HBH.out; omega)
    go_enter Try.func4, Try.ntmps4
    go_wp2_with fail
    rw [← HUU.out]
    refine (heavy8_any (H0.out.later HB.out) (H1.out.later HB.out) (H2.out.later HB.out) false HBH.out).mono ?_
    rintro e w1 ⟨rfl, hb1⟩
    have HB1 : Hid (Below U.heap.size U w1) := hb1
    clear hb1
    go_wp2
    go_loopw [3] (fun i w' => ∃ k : Nat, k ≤ T.length ∧ k ≤ 5 ∧ i = .int .i64 k ∧ Hid (Below U.heap.size U w')) (fun i _ => 5 - (intOf i).toNat)
    case atStart => exact ⟨0, Nat.zero_le _, by omega, rfl, HB1.out⟩
    case round =>
      obtain ⟨k, hk, hk5, rfl, HBR⟩ := hrel
      have c0 := cell_later HBR.out HU0.out
      by_cases hlt : k < T.length ∧ k < 5
      case neg =>
        by_cases hlt1 : k < T.length
        · have h5 : k = 5 := by omega
          subst h5
          have g1 : ((5 : Nat) : Int) < T.length := by omega
          clear hlt
          go_wp2_with (go_at_call 13; refine (wakes8 F _).mono ?_; rintro e w9 ⟨rfl, hb9⟩; have HB9 : Hid (Below w.heap.size w w9) := Below.after HB.out (Below.after HBR.out hb9); clear hb9)
          go_ret
          exact ⟨rfl, HB9.out⟩
        · have g1 : ¬ (k : Int) < T.length := by omega
          clear hlt
          go_wp2_with (go_at_call 13; refine (wakes8 F _).mono ?_; rintro e w9 ⟨rfl, hb9⟩; have HB9 : Hid (Below w.heap.size w w9) := Below.after HB.out (Below.after HBR.out hb9); clear hb9)
          go_ret
          exact ⟨rfl, HB9.out⟩
      case pos =>
      obtain ⟨hlt1, hlt5⟩ := hlt
      obtain ⟨b, off, x, rfl, hc, hnl⟩ := (HT0.out.later HBR.out).row k hlt1
      have HNL : Hid (NodesL wr x T[k]) := hnl
      have HSM : Hid (Small T[k]) := light_small HLI.out k hlt1
      obtain ⟨la, lc, rfl, hlc, hlb⟩ := hnl.shape
      have g1 : (k : Int) < T.length := by omega
      have g5 : (k : Int) < 5 := by omega
      generalize T[k] = L at HNL HSM hc hlc
      clear hlb
      obtain ⟨q, hq⟩ : ∃ q, grpB L = q := ⟨_, rfl⟩
      have HQ : Hid (grpB L = q) := hq
      clear hnl hq
      go_wp2_with fail
      refine (F.leaves HNL.out HSM.out q HQ.out).mono ?_
      rintro e w2 ⟨vx, rfl, ho, hb2⟩
      have HB2 : Hid (Below U.heap.size U w2) := Below.after HBR.out hb2
      have HN2 : Hid (NodesL w2 (.slice la L.length lc) L) := HNL.out.later hb2
      cases q with
      | false =>
        clear ho hb2
        go_wp2_with (go_at_call 10; refine (num8 _ _).mono ?_; rintro e w' ⟨rfl, rfl⟩)
        go_roundw
        case rel => exact ⟨k + 1, by omega, by omega, by go_num, HB2.out⟩
        case measure => simp [intOf]; omega
      | true =>
        have HX : Hid (Ints w2 vx (levs L)) := ho.ints
        obtain ⟨xa, xc, rfl⟩ := HX.out.shape
        have HND : Hid (nodesB L = true) := grp_nodes HQ.out
        clear ho hb2
        go_wp2_with (go_at_call 10; refine (num8 _ _).mono ?_; rintro e w' ⟨rfl, rfl⟩)
        have hLn := HSM.out.n
        have hL1 := grp_one HQ.out
        have gw : IntKind.i64.wrap ((L.length : Int) - 1) = (L.length : Int) - 1 := wrap_small ((L.length : Int) - 1) (by omega) (by omega)
        have hlv := levs_len L
        go_loop [7] (fun i => ∃ j : Nat, j ≤ (levs L).length ∧ i = .int .i64 j) (fun i => (levs L).length - (intOf i).toNat)
        case atStart => exact ⟨0, Nat.zero_le _, rfl⟩
        case round =>
          obtain ⟨j, hj, rfl⟩ := hrel
          by_cases hjl : j < (levs L).length
          · rcases HX.out.cases with ⟨e0, _⟩ | ⟨b1, o1, c1, e1, h0, h1, h2, h3⟩
            · rw [e0] at hjl; simp at hjl
            simp only [Value.slice.injEq, true_and] at e1
            obtain ⟨rfl, rfl⟩ := e1
            have hx := h3.out j hjl
            obtain ⟨m, hm, em, hkd⟩ := mem_levs (List.getElem_mem hjl)
            rw [em] at hx
            obtain ⟨b2, o2, y0, y1, rfl, hnd⟩ := HN2.out.row m hm
            have d2 := hnd.c2
            have hno := nodeB_leaf (nodesB_at HND.out m hm) hkd
            have hya : Ints w2 y0 [] := by rw [← hno]; exact hnd.a
            obtain ⟨ya, yc, rfl⟩ := hya.shape
            have gj : (j : Int) < (levs L).length := by omega
            have gm : (m : Int) < L.length := by omega
            clear hnd hno hya h0 h1 h2 h3 em hkd
            go_wp2_with (go_at_call 15; refine (rnum_to _ _ _ true (by simp; omega)).mono ?_; rintro e w' ⟨rfl, rfl⟩)
            go_round
            case rel => exact ⟨j + 1, by omega, by go_num⟩
            case measure => simp [intOf]; omega
          · have gj : ¬ (j : Int) < (levs L).length := by omega
            go_wp2
            go_loopw [8] (fun i w' => ∃ j : Nat, j ≤ L.length ∧ i = .int .i64 j ∧ Hid (Below U.heap.size U w') ∧ Hid (NodesL w' (.slice la L.length lc) L)) (fun i _ => L.length - (intOf i).toNat)
            case atStart => exact ⟨0, Nat.zero_le _, rfl, HB2.out, HN2.out⟩
            case round =>
              obtain ⟨j, hj, rfl, HBJ, HNJ⟩ := hrel
              by_cases hjl : j < L.length
              · have gj : (j : Int) < L.length := by omega
                go_wp2_with fail
                refine (F.uses HNJ.out HSM.out j 0 (useE_ok HND.out j hjl)).mono ?_
                rintro e w3 ⟨vu, rfl, ho, hb3⟩
                have HB3 : Hid (Below U.heap.size U w3) := Below.after HBJ.out hb3
                have HN3 : Hid (NodesL w3 (.slice la L.length lc) L) := HNJ.out.later hb3
                have HUX : Hid (Ints w3 vu (useR L (j : Int))) := ho.ints
                obtain ⟨ua, uc, rfl⟩ := HUX.out.shape
                clear ho hb3
                go_wp2_with (go_at_call 10; refine (num8 _ _).mono ?_; rintro e w' ⟨rfl, rfl⟩)
                go_loop [11] (fun i => ∃ p : Nat, p ≤ (useR L (j : Int)).length ∧ i = .int .i64 p) (fun i => (useR L (j : Int)).length - (intOf i).toNat)
                case atStart => exact ⟨0, Nat.zero_le _, rfl⟩
                case round =>
                  obtain ⟨p, hp, rfl⟩ := hrel
                  have hul := useR_len L (j : Int)
                  by_cases hpl : p < (useR L (j : Int)).length
                  · rcases HUX.out.cases with ⟨e0, _⟩ | ⟨b1, o1, c1, e1, h0, h1, h2, h3⟩
                    · rw [e0] at hpl; simp at hpl
                    simp only [Value.slice.injEq, true_and] at e1
                    obtain ⟨rfl, rfl⟩ := e1
                    have hx := h3.out p hpl
                    have hbe := uses_behind HND.out (List.getElem_mem hpl)
                    obtain ⟨y, hy⟩ : ∃ y, (useR L (j : Int))[p] = y := ⟨_, rfl⟩
                    rw [hy] at hx hbe
                    have gp : (p : Int) < (useR L (j : Int)).length := by omega
                    have gy : ¬ y ≤ (j : Int) := by omega
                    clear hy h0 h1 h2 h3
                    go_wp2
                    go_round
                    case rel => exact ⟨p + 1, by omega, by go_num⟩
                    case measure => simp [intOf]; omega
                  · have gp : ¬ (p : Int) < (useR L (j : Int)).length := by omega
                    have gjc : (j : Int) ≤ lc := by omega
                    have HTK : Hid (NodesL w3 (.slice la j lc) (L.take j)) := HN3.out.take j (by omega)
                    go_wp2_with fail
                    refine (F.nodes HTK.out (small_take HSM.out j) true (nodesB_take HND.out j (by omega))).mono ?_
                    rintro e w4 ⟨rfl, hb4⟩
                    have HB4 : Hid (Below U.heap.size U w4) := Below.after HB3.out hb4
                    have HN4 : Hid (NodesL w4 (.slice la L.length lc) L) := HN3.out.later hb4
                    clear hb4
                    go_wp2_with (go_at_call 10; refine (num8 _ _).mono ?_; rintro e w' ⟨rfl, rfl⟩)
                    go_roundw
                    case rel => exact ⟨j + 1, by omega, by go_num, HB4.out, HN4.out⟩
                    case measure => simp [intOf]; omega
              · have gj : ¬ (j : Int) < L.length := by omega
                go_wp2
                go_roundw
                case rel => exact ⟨k + 1, by omega, by omega, by go_num, HBJ.out⟩
                case measure => simp [intOf]; omega
end Go.Proofs.Ytjfkhfahpjdidaa
