/- The law ShapeBack: its walk. -/
import Derived.Test.YthkmcjniibohkaaAtw
import Derived.Test.YthkmcjniibohkaaW5
import Derived.Test.YthkmcjniibohkaaW8
namespace Go.Proofs.Ythkmcjniibohkaa
set_option linter.unusedVariables false
set_option linter.unusedSimpArgs false
open Go.RowKit

theorem bump_eq (p : List Int) (j : Nat) (hj : j < p.length) : bump p j = p.set j (p[j] + 1) := by simp [bump, hj]
theorem bump_get (p : List Int) (j : Nat) (hj : j < p.length) : (bump p j).getD j 0 = p[j] + 1 := by simp [bump, hj]
/-- What the innermost round meets: one more at place j is a place, or beyond its dim. -/
theorem back_j {d : List Int} (h : okd d = true) (k : Nat) (hk : (k : Int) < prd d) (j : Nat) (hj : j < d.length) (hj2 : j < (whr d k).length) :
    (aok d (bump (whr d k) j) = true ∧ (whr d k)[j] + 1 < d[j] ∧ atR d (bump (whr d k) j) = (k : Int) + stE d d.length j ∧ atE d (bump (whr d k) j) = 0) ∨
    (¬ ((whr d k)[j] + 1 < d[j]) ∧ atE d (bump (whr d k) j) = 1 ∧ atR d (bump (whr d k) j) = 0) := by
  obtain ⟨_, _, h3⟩ := chk_k h k hk
  have h4 := h3 j hj
  simp only [chkJ, Bool.and_eq_true, beq_iff_eq] at h4
  have e1 := h4.1.1.1
  have e2 := h4.1.1.2
  rw [bump_get _ _ hj2] at e1
  have ed : d.getD j 0 = d[j] := by simp [hj]
  rw [ed] at e1
  cases e : pok d (bump (whr d k) j) with
  | true =>
    rw [e] at e1 e2
    have ea : aok d (bump (whr d k) j) = true := by simp [aok, h, e]
    refine Or.inl ⟨ea, of_decide_eq_true e1.symm, ?_, ?_⟩
    · rw [atR, ea]
      simpa using e2
    · rw [atE, ea]; rfl
  | false =>
    rw [e] at e1
    have ea : aok d (bump (whr d k) j) = false := by simp [aok, e]
    exact Or.inr ⟨of_decide_eq_false e1.symm, by rw [atE, ea]; rfl, by rw [atR, ea]; rfl⟩
theorem back_k {d : List Int} (h : okd d = true) (k : Nat) (hk : (k : Int) < prd d) : atR d (whr d k) = k ∧ atE d (whr d k) = 0 := by
  obtain ⟨h1, h2, _⟩ := chk_k h k hk
  have ea : aok d (whr d k) = true := by simp [aok, h, h1]
  exact ⟨by rw [atR, ea]; exact h2, by rw [atE, ea]; rfl⟩
theorem whr_bd {d : List Int} (h : okd d = true) (k : Nat) (hk : (k : Int) < prd d) (j : Nat) (hj : j < d.length) (hj2 : j < (whr d k).length) : 0 ≤ (whr d k)[j] ∧ (whr d k)[j] < 8 := by
  obtain ⟨h1, _, _⟩ := chk_k h k hk
  have := pok_at h1 j hj
  obtain ⟨_, _, hin, _⟩ := okd_parts h
  have hd := inr_mem hin (List.getElem_mem hj)
  rw [show (whr d k).getD j 0 = (whr d k)[j] by simp [hj2], show d.getD j 0 = d[j] by simp [hj]] at this
  omega

theorem at_to {W w : World} {v v' : Value} {d p : List Int} (x y : Int) (hd : Ints W v d) (hp : Ints w v' p) (hw : Below W.heap.size W w) (hok : okd d = true) (hx : atR d p = x) (hy : atE d p = y) :
    Calls Try.prog 17 #[v, v'] w fun e w' => e = .returned (.tuple #[.int .i64 x, .int .i64 y]) ∧ Below w.heap.size w w' := by
  subst hx hy
  exact at_ok (hd.later hw) hp hok

set_option maxRecDepth 100000 in
set_option maxHeartbeats 4000000 in
theorem shapeBack_any {f0 f1 f2 f3 : Value} {D P : List (List Int)} {N : List Int} {T : List (List Int × List Int)} {w : World} (h0 : IntsL w f0 D) (h1 : IntsL w f1 P) (h2 : Ints w f2 N) (h3 : TensL w f3 T) :
    Calls Try.prog 4 #[.agg #[f0, f1, f2, f3]] w fun e w' => e = .returned (.bool true) ∧ Below w.heap.size w w' := by
  have hb : Below w.heap.size w (w.alloc (.cells #[f0, f1, f2, f3] 26)) := (Below.refl _ _).alloc (Nat.le_refl _) _
  obtain ⟨na, nc, rfl⟩ := h2.shape
  obtain ⟨a0, c0, rfl⟩ : ∃ a c, f0 = .slice a D.length c := by obtain ⟨_, a0, c0, rfl, _⟩ := h0; exact ⟨_, _, rfl⟩
  obtain ⟨a1, c1, rfl⟩ : ∃ a c, f1 = .slice a P.length c := by obtain ⟨_, a0, c0, rfl, _⟩ := h1; exact ⟨_, _, rfl⟩
  obtain ⟨a3, c3, rfl⟩ : ∃ a c, f3 = .slice a T.length c := by obtain ⟨_, a0, c0, rfl, _⟩ := h3; exact ⟨_, _, rfl⟩
  have HB : Hid (Below w.heap.size w (w.alloc (.cells #[.slice a0 D.length c0, .slice a1 P.length c1, .slice na N.length nc, .slice a3 T.length c3] 26))) := hb
  have H0 : Hid (IntsL (w.alloc (.cells #[.slice a0 D.length c0, .slice a1 P.length c1, .slice na N.length nc, .slice a3 T.length c3] 26)) (.slice a0 D.length c0) D) := h0.later hb
  have H1 : Hid (IntsL (w.alloc (.cells #[.slice a0 D.length c0, .slice a1 P.length c1, .slice na N.length nc, .slice a3 T.length c3] 26)) (.slice a1 P.length c1) P) := h1.later hb
  have H2 : Hid (Ints (w.alloc (.cells #[.slice a0 D.length c0, .slice a1 P.length c1, .slice na N.length nc, .slice a3 T.length c3] 26)) (.slice na N.length nc) N) := h2.later hb
  have H3 : Hid (TensL (w.alloc (.cells #[.slice a0 D.length c0, .slice a1 P.length c1, .slice na N.length nc, .slice a3 T.length c3] 26)) (.slice a3 T.length c3) T) := h3.later hb
  have hD := h0.1
  unfold big at hD
  clear h0 h1 h2 h3 hb
  go_enter Try.func4, Try.ntmps4
  go_wp2_with fail
  refine (heavy_any H0.out H1.out H2.out H3.out).mono ?_
  rintro e w1 ⟨hv, rfl, hb1⟩
  have HB1 : Hid (Below w.heap.size w w1) := Below.after HB.out hb1
  have hws := hb1.size
  simp at hws
  cases hv with
  | true =>
    go_wp2
    go_ret
    exact ⟨rfl, HB1.out⟩
  | false =>
    have hbox : w1.cell? ⟨w.heap.size, 0, none⟩ = some (.slice a0 D.length c0) := cell_later hb1 (by simp)
    have HX : Hid (w1.cell? ⟨w.heap.size, 0, none⟩ = some (.slice a0 D.length c0)) := hbox
    have HD : Hid (IntsL w1 (.slice a0 D.length c0) D) := H0.out.later hb1
    clear hb1 hbox H0 H1 H2 H3 HB
    go_wp2
    go_loopw [3] (fun i w' => ∃ q : Nat, q ≤ D.length ∧ q ≤ 6 ∧ i = .int .i64 q ∧ Below w1.heap.size w1 w') (fun i _ => 6 - (intOf i).toNat)
    case atStart => exact ⟨0, by omega, by omega, rfl, Below.refl _ _⟩
    case round =>
      obtain ⟨q, hq, hq6, rfl, hbel⟩ := hrel
      have hbox := cell_later hbel HX.out
      have HBL : Hid (Below w1.heap.size w1 wr) := hbel
      by_cases hlt : q < D.length
      · by_cases hlt6 : q < 6
        · obtain ⟨_, b0, oc0, hsh, hcc, hrow⟩ := HD.out.later hbel
          obtain ⟨b, off, x, hax, hcx, hix⟩ := hrow q hlt
          simp only [Value.slice.injEq, true_and] at hsh
          obtain ⟨rfl, rfl⟩ := hsh
          subst hax
          have HIX : Hid (Ints wr x D[q]) := hix
          obtain ⟨xa, xc, rfl⟩ := hix.shape
          clear hrow hix hbel
          generalize D[q] = d at *
          cases ho : okd d with
          | false =>
            have HO : Hid (okd d = false) := ho
            clear ho
            go_wp2_with fail
            refine (cells_bad HIX.out HO.out).mono ?_
            rintro e w2 ⟨rfl, rfl⟩
            go_wp2_with fail
            refine (steps_bad HIX.out HO.out).mono ?_
            rintro e w2 ⟨rfl, rfl⟩
            go_wp2_with (go_at_call 14; refine (num_any _ _).mono ?_; rintro e w' ⟨rfl, rfl⟩)
            go_roundw
            case rel => exact ⟨q + 1, by omega, by omega, by go_num, HBL.out⟩
            case measure => simp [intOf]; omega
          | true =>
            have HO : Hid (okd d = true) := ho
            obtain ⟨hl1, hl2, hin, hp⟩ := okd_parts ho
            have hp1 := prd_lo hin
            obtain ⟨m, hm⟩ : ∃ m : Nat, prd d = m := ⟨(prd d).toNat, by omega⟩
            have HM : Hid (prd d = m) := hm
            have hm1 : 1 ≤ m := by omega
            have hm2 : m ≤ 64 := by omega
            obtain ⟨db, dof, rfl, HDC⟩ : ∃ db dof, xa = some ⟨db, dof, none⟩ ∧ Hid (∀ i (h : i < d.length), wr.cell? ⟨db, dof + i, none⟩ = some (.int .i64 d[i])) := by
              rcases HIX.out.cases with ⟨rfl, a1, c1, e⟩ | ⟨b1, o1, c1, e, h0, h1, h2, h3⟩
              · simp only [List.length_nil] at hl1; omega
              · simp only [Value.slice.injEq, true_and] at e
                obtain ⟨rfl, rfl⟩ := e
                exact ⟨b1, o1, rfl, h3⟩
            clear ho hin hp hp1 hm
            go_wp2_with fail
            refine (cells_ok HIX.out HO.out).mono ?_
            rw [HM.out]
            rintro e w2 ⟨rfl, hb2⟩
            go_wp2_with fail
            refine (steps_ok (HIX.out.later hb2) HO.out).mono ?_
            rintro e w3 ⟨rfl, hk3, hb3⟩
            have hb3' := Below.after hb2 hb3
            have HI3 : Hid (Ints w3 (.slice (some ⟨db, dof, none⟩) d.length xc) d) := HIX.out.later hb3'
            have HS3 : Hid (Blk w3 w2.heap.size (stp d)) := hk3
            have HDC3 : Hid (∀ i (h : i < d.length), w3.cell? ⟨db, dof + i, none⟩ = some (.int .i64 d[i])) := fun i h => cell_later hb3' (HDC.out i h)
            have HBL3 : Hid (Below w1.heap.size w1 w3) := Below.after HBL.out hb3'
            have hz3 := hk3.lt
            clear hb2 hb3 hb3' hk3 HIX HDC
            go_wp2_with (go_at_call 14; refine (num_any _ _).mono ?_; rintro e w' ⟨rfl, rfl⟩)
            go_loopw [9] (fun i w' => ∃ k : Nat, k ≤ m ∧ i = .int .i64 k ∧ Below w3.heap.size w3 w') (fun i _ => m - (intOf i).toNat)
            case atStart => exact ⟨0, by omega, rfl, Below.refl _ _⟩
            case round =>
              obtain ⟨k, hk, rfl, hbel⟩ := hrel
              have HBL4 : Hid (Below w3.heap.size w3 wr) := hbel
              by_cases hltk : k < m
              · have hkp : (k : Int) < prd d := by rw [HM.out]; omega
                obtain ⟨e1, e2⟩ := back_k HO.out k hkp
                have E1 : Hid (atR d (whr d k) = k) := e1
                have E2 : Hid (atE d (whr d k) = 0) := e2
                have HKP : Hid ((k : Int) < prd d) := hkp
                have HI4 : Hid (Ints wr (.slice (some ⟨db, dof, none⟩) d.length xc) d) := HI3.out.later hbel
                clear hbel hkp e1 e2
                go_wp2_with fail
                refine (where_ok _ HI4.out HO.out (by omega) HKP.out).mono ?_
                rintro e w5 ⟨B, hBz, rfl, hk5, hb5⟩
                have HW5 : Hid (Ints w5 (.slice (some ⟨B, 0, none⟩) d.length d.length) (whr d k)) := hk5.ints _ _ (whr_length d k).symm (Nat.le_refl _) (by unfold big; omega)
                have HI5 : Hid (Ints w5 (.slice (some ⟨db, dof, none⟩) d.length xc) d) := HI4.out.later hb5
                have HBL5 : Hid (Below w3.heap.size w3 w5) := Below.after HBL4.out hb5
                clear hk5 hb5
                go_wp2_with fail
                refine (at_to _ _ HI5.out HW5.out (Below.refl _ _) HO.out E1.out E2.out).mono ?_
                rintro e w6 ⟨rfl, hb6⟩
                have HW6 : Hid (Ints w6 (.slice (some ⟨B, 0, none⟩) d.length d.length) (whr d k)) := HW5.out.later hb6
                have HI6 : Hid (Ints w6 (.slice (some ⟨db, dof, none⟩) d.length xc) d) := HI5.out.later hb6
                have HBL6 : Hid (Below w3.heap.size w3 w6) := Below.after HBL5.out hb6
                clear hb6 HW5 HI5 HBL5 HI4 HBL4
                go_wp2_with (go_at_call 14; refine (num_any _ _).mono ?_; rintro e w' ⟨rfl, rfl⟩)
                go_loopw [14] (fun i w' => ∃ j : Nat, j ≤ d.length ∧ i = .int .i64 j ∧ Below w6.heap.size w6 w') (fun i _ => d.length - (intOf i).toNat)
                case atStart => exact ⟨0, by omega, rfl, Below.refl _ _⟩
                case round =>
                  obtain ⟨j, hj, rfl, hbel⟩ := hrel
                  have HBL7 : Hid (Below w6.heap.size w6 wr) := hbel
                  by_cases hltj : j < d.length
                  · have HW7 : Hid (Ints wr (.slice (some ⟨B, 0, none⟩) d.length d.length) (whr d k)) := HW6.out.later hbel
                    have hj2 : j < (whr d k).length := by rw [whr_length]; exact hltj
                    have hbd := whr_bd HO.out k HKP.out j hltj hj2
                    obtain ⟨hbd1, hbd2⟩ := hbd
                    have hbj := back_j HO.out k HKP.out j hltj hj2
                    have HBJ : Hid _ := hbj
                    obtain ⟨s1, s2⟩ := stE_bd2 (okd_parts HO.out).2.2.1 hl2 j hltj
                    clear hbel hbj
                    go_wp2_with fail
                    refine (copy_own HW7.out).mono ?_
                    rintro e w8 ⟨v8, rfl, hown, hb8⟩
                    rw [whr_length] at hown
                    obtain ⟨g, cap, rfl, hcap⟩ : ∃ g cap, v8 = .slice (some ⟨g, 0, none⟩) d.length cap ∧ d.length ≤ cap := by
                      rcases hown.2 with ⟨_, h0⟩ | ⟨g, cap, cur, e, _, _, h1, _⟩
                      · omega
                      · exact ⟨g, cap, e, h1⟩
                    obtain ⟨hc8, hf8, hg8, hi8⟩ := own_set hown (by rw [whr_length]; unfold big; omega) j hj2 ((whr d k)[j] + 1)
                    rw [← bump_eq _ _ hj2] at hi8
                    have hgs := hb8.size
                    have HIN : Hid (Ints (w8.setCell ⟨g, j, none⟩ (.int .i64 ((whr d k)[j] + 1))) (.slice (some ⟨g, 0, none⟩) d.length cap) (bump (whr d k) j)) := hi8
                    have HBL8 : Hid (Below w6.heap.size w6 (w8.setCell ⟨g, j, none⟩ (.int .i64 ((whr d k)[j] + 1)))) := (Below.after HBL7.out hb8).setCell (by have := HBL7.out.size; simp; omega) _
                    have HCX : Hid ((w8.setCell ⟨g, j, none⟩ (.int .i64 ((whr d k)[j] + 1))).cell? ⟨g, j, none⟩ = some (.int .i64 ((whr d k)[j] + 1))) := by
                      show _ = _
                      rcases HIN.out.cases with ⟨e, _⟩ | ⟨b1, o1, c1, e, _, _, _, h3⟩
                      · have hlb : (bump (whr d k) j).length = d.length := by simp [bump, whr_length]
                        rw [e] at hlb
                        simp at hlb
                        omega
                      · simp only [Value.slice.injEq, Option.some.injEq, Addr.mk.injEq, and_true] at e
                        obtain ⟨⟨rfl, rfl⟩, _, _⟩ := e
                        have := h3.out j (by simp [bump, whr_length]; exact hltj)
                        rw [Nat.zero_add] at this
                        rw [this]
                        simp [bump, hj2]
                    clear hown hb8 hi8 hgs
                    rcases HBJ.out with ⟨b1, b2, b3, b4⟩ | ⟨b2, b4, b3⟩
                    · have F1 : Hid (atR d (bump (whr d k) j) = (k : Int) + stE d d.length j) := b3
                      have F2 : Hid (atE d (bump (whr d k) j) = 0) := b4
                      clear b1 b3 b4
                      go_wp2_with fail
                      refine (at_to _ _ HI6.out HIN.out HBL8.out HO.out F1.out F2.out).mono ?_
                      rintro e w9 ⟨rfl, hb9⟩
                      have hc9 : w9.cell? ⟨g, j, none⟩ = some (.int .i64 ((whr d k)[j] + 1)) := cell_later hb9 HCX.out
                      have HBL9 : Hid (Below w6.heap.size w6 w9) := Below.after HBL8.out hb9
                      have hd9 : w9.cell? ⟨db, dof + j, none⟩ = some (.int .i64 d[j]) := cell_later (Below.after HBL6.out HBL9.out) (HDC3.out j hltj)
                      have hs9 : w9.cell? ⟨w2.heap.size, j, none⟩ = some (.int .i64 (stE d d.length j)) := by
                        have hB9 := HS3.out.later (Below.after HBL6.out HBL9.out) hz3
                        rw [hB9.cell j (by rw [stp_length]; exact hltj), stp_get]
                      have hdec : decide ((whr d k)[j] + 1 < d[j]) = true := by simp [b2]
                      clear hb9
                      go_wp2
                      go_quiet ((go_at_call 14; exact quiet_eq (num_any _ _)))
                      go_wp2
                      exact ⟨⟨j + 1, by omega, by go_num, Below.drewN HBL9.out _⟩, by simp [intOf]; omega⟩
                    · have F1 : Hid (atR d (bump (whr d k) j) = 0) := b3
                      have F2 : Hid (atE d (bump (whr d k) j) = 1) := b4
                      clear b3 b4
                      go_wp2_with fail
                      refine (at_to _ _ HI6.out HIN.out HBL8.out HO.out F1.out F2.out).mono ?_
                      rintro e w9 ⟨rfl, hb9⟩
                      have hc9 : w9.cell? ⟨g, j, none⟩ = some (.int .i64 ((whr d k)[j] + 1)) := cell_later hb9 HCX.out
                      have HBL9 : Hid (Below w6.heap.size w6 w9) := Below.after HBL8.out hb9
                      have hd9 : w9.cell? ⟨db, dof + j, none⟩ = some (.int .i64 d[j]) := cell_later (Below.after HBL6.out HBL9.out) (HDC3.out j hltj)
                      have hs9 : w9.cell? ⟨w2.heap.size, j, none⟩ = some (.int .i64 (stE d d.length j)) := by
                        have hB9 := HS3.out.later (Below.after HBL6.out HBL9.out) hz3
                        rw [hB9.cell j (by rw [stp_length]; exact hltj), stp_get]
                      have hdec : decide ((whr d k)[j] + 1 < d[j]) = false := by simp; omega
                      clear hb9
                      go_wp2
                      go_quiet ((go_at_call 14; exact quiet_eq (num_any _ _)))
                      go_wp2
                      exact ⟨⟨j + 1, by omega, by go_num, Below.drewN HBL9.out _⟩, by simp [intOf]; omega⟩
                  · go_wp2
                    exact ⟨⟨k + 1, by omega, by go_num, Below.after HBL6.out HBL7.out⟩, by simp [intOf]; omega⟩
              · go_wp2
                go_roundw
                case rel => exact ⟨q + 1, by omega, by omega, by go_num, Below.after HBL3.out HBL4.out⟩
                case measure => simp [intOf]; omega
        · go_wp2_with (go_at_call 31; refine (wakes_any _).mono ?_; rintro e w' ⟨rfl, hbw⟩)
          go_ret
          exact ⟨rfl, Below.after HB1.out (Below.after HBL.out hbw)⟩
      · go_wp2_with (go_at_call 31; refine (wakes_any _).mono ?_; rintro e w' ⟨rfl, hbw⟩)
        go_ret
        exact ⟨rfl, Below.after HB1.out (Below.after HBL.out hbw)⟩
end Go.Proofs.Ythkmcjniibohkaa
