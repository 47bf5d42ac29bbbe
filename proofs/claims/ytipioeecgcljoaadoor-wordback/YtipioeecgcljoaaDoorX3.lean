/- Contract: package word's Number. -/
import Derived.Test.YtipioeecgcljoaaDoorX2
namespace Go.Proofs.YtipioeecgcljoaaDoor
set_option linter.unusedVariables false
set_option linter.unusedSimpArgs false
set_option maxRecDepth 100000
open Go.RowKit

theorem cutp_to (s : ByteArray) (w : World) :
    Calls Tryd.prog 23 #[.string s, .string ⟨#[45]⟩] w fun e w' => e = .returned (.tuple #[.string (digB s), .bool (negB s)]) ∧ w' = w := by
  have h := Tryd.strings_CutPrefix s ⟨#[45]⟩ w
  have h1 := trim_all s
  rw [show (⟨#[45]⟩ : ByteArray).data.toList = [45] from rfl, h1.1, h1.2] at h
  exact h
theorem digit_at {D : ByteArray} {p r k : Nat} (h : p < D.size) (hr : Utf8.decode D p = (r, k)) (hd : digR r = false) : ¬ (48 ≤ (D[p]'h).toNat ∧ (D[p]'h).toNat ≤ 57) := by
  intro hc
  rw [decode_ascii D p h (by omega)] at hr
  have h1 := congrArg Prod.fst hr
  simp only at h1
  rw [← h1] at hd
  simp [digR] at hd
  omega
theorem digV_first (D : ByteArray) (h0 : 0 < D.size) (p : Nat) (hp : 1 ≤ p) (hps : p ≤ D.size) : (D[0]'h0).toNat - 48 ≤ digV (D.data.toList.take p) := by
  have h1 := digV_mono D.data.toList (p - 1) 1 (by rw [len_list]; omega)
  rw [show 1 + (p - 1) = p by omega] at h1
  have h2 := digV_take D.data.toList 0 (by rw [len_list]; exact h0)
  rw [get_list D 0 h0] at h2
  simp only [Nat.zero_add] at h2
  omega
theorem digV_one (D : ByteArray) (h0 : 0 < D.size) : digV (D.data.toList.take 1) = (D[0]'h0).toNat - 48 := by
  have h2 := digV_take D.data.toList 0 (by rw [len_list]; exact h0)
  rw [get_list D 0 h0] at h2
  simpa [digV] using h2
theorem not_zero {s D : ByteArray} (hD : digB s = D) (h0 : 0 < D.size) (h48 : (D[0]'h0).toNat = 48) (h : 1 < D.size ∨ negB s = true) : ¬ numP s.data.toList := by
  subst hD
  exact numP_not_zero h0 h48 h
theorem well_at {s D : ByteArray} (hD : digB s = D) (h1 : 0 < D.size) (h2 : ∀ j (hj : j < D.size), 48 ≤ (D[j]'hj).toNat ∧ (D[j]'hj).toNat ≤ 57) (h3 : (D[0]'h1).toNat = 48 → D.size = 1 ∧ negB s = false) (h4 : digV D.data.toList ≤ 1073741824) :
    numK s.data.toList = true ∧ numV s.data.toList = if negB s then -(digV D.data.toList : Int) else digV D.data.toList := by
  subst hD
  exact num_well h1 h2 h3 h4
/-- What the loop over the digits keeps. -/
structure NumI (D : ByteArray) (p : Nat) : Prop where
  dig : ∀ j (hj : j < D.size), j < p → 48 ≤ (D[j]'hj).toNat ∧ (D[j]'hj).toNat ≤ 57
  zero : ∀ h0 : 0 < D.size, (D[0]'h0).toNat = 48 → p ≤ 1
  max : digV (D.data.toList.take p) ≤ 1073741824
theorem NumI.start (D : ByteArray) : NumI D 0 := ⟨fun _ _ h => by omega, fun _ _ => by omega, by simp [digV]⟩
theorem NumI.zeroAt {D : ByteArray} {p : Nat} (h : NumI D p) (hp : p ≤ D.size) (h1 : 1 ≤ p) (hv : digV (D.data.toList.take p) = 0) : ∃ h0 : 0 < D.size, (D[0]'h0).toNat = 48 := by
  have h0 : 0 < D.size := by omega
  have h2 := digV_first D h0 p h1 hp
  have h3 := h.dig 0 h0 (by omega)
  exact ⟨h0, by omega⟩
theorem NumI.next {D : ByteArray} {p r : Nat} (h : NumI D p) (hp : p < D.size) (hb : (D[p]'hp).toNat = r) (hr : 48 ≤ r ∧ r ≤ 57) (hz : p = 0 ∨ ¬ digV (D.data.toList.take p) = 0) :
    digV (D.data.toList.take (p + 1)) = digV (D.data.toList.take p) * 10 + (r - 48) ∧ (digV (D.data.toList.take p) * 10 + (r - 48) ≤ 1073741824 → NumI D (p + 1)) := by
  have e := digV_take D.data.toList p (by rw [len_list]; exact hp)
  rw [get_list D p hp, hb] at e
  refine ⟨by omega, fun hm => ⟨fun j hj hjp => ?_, fun h0 h48 => ?_, by omega⟩⟩
  · by_cases ej : j = p
    · subst ej; omega
    · exact h.dig j hj (by omega)
  · have h1 := h.zero h0 h48
    rcases hz with hz | hz
    · omega
    · by_cases e0 : p = 0
      · omega
      · have : p = 1 := by omega
        subst this
        rw [digV_one D h0, h48] at hz
        exact absurd rfl hz
set_option maxHeartbeats 8000000 in
theorem number_to (s : ByteArray) (w : World) :
    Calls Tryd.prog 8 #[.string s] w fun e w' => e = .returned (.tuple #[.int .i64 (numV s.data.toList), .int .i64 (if numK s.data.toList then 0 else 1)]) ∧ Below w.heap.size w w' := by
  obtain ⟨D, hD⟩ : ∃ D, digB s = D := ⟨_, rfl⟩
  obtain ⟨N, hN⟩ : ∃ N, negB s = N := ⟨_, rfl⟩
  have HD : Hid (digB s = D) := hD
  have HN : Hid (negB s = N) := hN
  have HC : Hid (∀ w, Calls Tryd.prog 23 #[.string s, .string ⟨#[45]⟩] w fun e w' => e = .returned (.tuple #[.string D, .bool N]) ∧ w' = w) := fun w => by
    have := cutp_to s w
    rw [hD, hN] at this
    exact this
  clear hD hN
  go_enter Tryd.func8, Tryd.ntmps8
  go_wp2_with fail
  refine wp_scope_jumps 0 (fun a' w' => (Below w.heap.size w w' ∧ numV s.data.toList = 0 ∧ numK s.data.toList = false) ∧ ∃ (u0 u1 u2 u3 u4 u5 u6 u7 u8 u9 u10 u11 u12 u13 u14 u15 u16 u17 u18 u19 u20 u21 u22 u23 u24 u25 u26 u27 u28 u29 u30 u31 u32 u33 u34 u35 u36 u37 u38 u39 u40 u41 u42 u43 u44 u45 u46 u47 u48 u49 u50 u51 : Value), a' = { tmps := #[u0, u1, u2, u3, u4, u5, u6, u7, u8, u9, u10, u11, u12, u13, u14, u15, u16, u17, u18, u19, u20, u21, u22, u23, u24, u25, u26, u27, u28, u29, u30, u31, u32, u33, u34, u35, u36, u37, u38, u39, u40, u41, u42, u43, u44, u45, u46, u47, u48, u49, u50, u51], defers := [] }) (fun _ _ => 0) rfl ?_ ?_
  · go_wp2_with (go_at_call 23; refine (HC.out _).mono ?_; rintro e w2 ⟨rfl, rfl⟩)
    go_loopw [4] (fun n w' => ∃ (p V : Nat), p ≤ D.size ∧ w' = w2.iter D p ∧ n = .int .i64 V ∧ Hid (digV (D.data.toList.take p) = V ∧ NumI D p) ∧ V ≤ 1073741824) (fun _ w' => D.size - w'.iterPos w2.heap.size)
    case atStart => exact ⟨0, 0, Nat.zero_le _, rfl, rfl, ⟨by simp [digV], NumI.start D⟩, by omega⟩
    case round =>
      obtain ⟨p, V, hp, rfl, rfl, HI, hV⟩ := hrel
      have HB : Hid (Below w2.heap.size w2 (w2.iter D p)) := (Below.refl _ _).alloc (Nat.le_refl _) _
      by_cases hlt : p < D.size
      · obtain ⟨⟨r, k⟩, hrk⟩ : ∃ x, Utf8.decode D p = x := ⟨_, rfl⟩
        have hk1 := decode_lo D p
        have hk2 := decode_le D p hlt
        have hnx : ∀ ty, (Instr.next (.pointer (some ⟨w2.heap.size, 0, none⟩)) true ty).run Tryd.prog (w2.iter D p) = _ := fun ty => run_next_any w2 D p ty hlt
        rw [hrk] at hk1 hk2 hnx
        simp only at hk1 hk2 hnx
        have HRK : Hid (Utf8.decode D p = (r, k)) := hrk
        have HB2 : Hid (Below w2.heap.size w2 (w2.iter D (p + k))) := (Below.refl _ _).alloc (Nat.le_refl _) _
        clear hrk
        cases hd : digR r with
        | false =>
          have HDG : Hid (digR r = false) := hd
          have HNN : Hid (numV s.data.toList = 0 ∧ numK s.data.toList = false) := num_not (by
            exact numP_not_rune (by rw [HD.out]; exact hlt) (fun h => digit_at hlt HRK.out hd (by simpa only [HD.out] using h)))
          clear hd
          go_wp2_with (go_at_call 24; refine (digit_to r _ false HDG.out).mono ?_; rintro e w3 ⟨rfl, rfl⟩)
          go_step3
          exact ⟨rfl, ⟨HB2.out, HNN.out.1, HNN.out.2⟩, _, _, _, _, _, _, _, _, _, _, _, _, _, _, _, _, _, _, _, _, _, _, _, _, _, _, _, _, _, _, _, _, _, _, _, _, _, _, _, _, _, _, _, _, _, _, _, _, _, _, _, _, rfl⟩
        | true =>
          have HDG : Hid (digR r = true) := hd
          have hr2 : 48 ≤ r ∧ r ≤ 57 := by simpa [digR] using hd
          have hlow := dec_low hlt HRK.out (by omega)
          obtain ⟨hk3, hb3⟩ := hlow
          subst hk3
          have HB3 : Hid ((D[p]'hlt).toNat = r) := hb3
          clear hd hb3
          obtain ⟨hr3, hr4⟩ := hr2
          have g1 : IntKind.i32.wrap ((r : Int) - 48) = (r : Int) - 48 := by simp [IntKind.wrap, IntKind.signed, IntKind.bits]; omega
          have g2 : IntKind.i64.wrap ((r : Int) - 48) = (r : Int) - 48 := by simp [IntKind.wrap, IntKind.signed, IntKind.bits]; omega
          by_cases hz : p = 0 ∨ ¬ V = 0
          · have HZ : Hid (p = 0 ∨ ¬ digV (D.data.toList.take p) = 0) := by show _ ∨ _; rw [HI.out.1]; exact hz
            have HX := HI.out.2.next hlt HB3.out ⟨hr3, hr4⟩ HZ.out
            rw [HI.out.1] at HX
            have HX2 : Hid (digV (D.data.toList.take (p + 1)) = V * 10 + (r - 48) ∧ (V * 10 + (r - 48) ≤ 1073741824 → NumI D (p + 1))) := HX
            clear HX
            obtain ⟨U, hU⟩ : ∃ U, V * 10 + (r - 48) = U := ⟨_, rfl⟩
            have g3 : (V : Int) * 10 + ((r : Int) - 48) = (U : Int) := by omega
            rw [hU] at HX2
            by_cases hm : U ≤ 1073741824
            · have g4 : ¬ (1073741824 : Int) < (U : Int) := by omega
              have HI2 : Hid (digV (D.data.toList.take (p + 1)) = U ∧ NumI D (p + 1)) := ⟨HX2.out.1, HX2.out.2 hm⟩
              clear hU HX2
              rcases Nat.eq_zero_or_pos p with h0 | h0
              · subst h0
                clear hz
                go_wp2_with (go_at_call 24; refine (digit_to r _ true HDG.out).mono ?_; rintro e w3 ⟨rfl, rfl⟩)
                go_roundw
                case rel => exact ⟨0 + 1, U, by omega, rfl, rfl, HI2.out, by omega⟩
                case measure => simp; omega
              · have hz2 : ¬ V = 0 := by omega
                have g5 : ((V : Int) == 0) = false := by rw [beq_eq_false_iff_ne]; omega
                have g6 : (0 : Int) < (p : Int) := by omega
                clear hz
                go_wp2_with (go_at_call 24; refine (digit_to r _ true HDG.out).mono ?_; rintro e w3 ⟨rfl, rfl⟩)
                go_roundw
                case rel => exact ⟨p + 1, U, by omega, rfl, rfl, HI2.out, by omega⟩
                case measure => simp; omega
            · have g4 : (1073741824 : Int) < (U : Int) := by omega
              have HNN : Hid (numV s.data.toList = 0 ∧ numK s.data.toList = false) := num_not (by
                have h1 := HX2.out.1
                exact numP_not_many (s := s) (k := p + 1) (by rw [HD.out]; omega) (by rw [HD.out, h1]; omega))
              clear hU HX2
              rcases Nat.eq_zero_or_pos p with h0 | h0
              · subst h0
                clear hz
                go_wp2_with (go_at_call 24; refine (digit_to r _ true HDG.out).mono ?_; rintro e w3 ⟨rfl, rfl⟩)
                go_step3
                exact ⟨rfl, ⟨HB2.out, HNN.out.1, HNN.out.2⟩, _, _, _, _, _, _, _, _, _, _, _, _, _, _, _, _, _, _, _, _, _, _, _, _, _, _, _, _, _, _, _, _, _, _, _, _, _, _, _, _, _, _, _, _, _, _, _, _, _, _, _, _, rfl⟩
              · have hz2 : ¬ V = 0 := by omega
                have g5 : ((V : Int) == 0) = false := by rw [beq_eq_false_iff_ne]; omega
                have g6 : (0 : Int) < (p : Int) := by omega
                clear hz
                go_wp2_with (go_at_call 24; refine (digit_to r _ true HDG.out).mono ?_; rintro e w3 ⟨rfl, rfl⟩)
                go_step3
                exact ⟨rfl, ⟨HB2.out, HNN.out.1, HNN.out.2⟩, _, _, _, _, _, _, _, _, _, _, _, _, _, _, _, _, _, _, _, _, _, _, _, _, _, _, _, _, _, _, _, _, _, _, _, _, _, _, _, _, _, _, _, _, _, _, _, _, _, _, _, _, rfl⟩
          · have h0 : 1 ≤ p := by omega
            have hV0 : V = 0 := by omega
            subst hV0
            have g5 : (((0 : Nat) : Int) == 0) = true := rfl
            have g6 : (0 : Int) < (p : Int) := by omega
            have HNN : Hid (numV s.data.toList = 0 ∧ numK s.data.toList = false) := num_not (by
              obtain ⟨z0, z1⟩ := HI.out.2.zeroAt hp h0 HI.out.1
              exact not_zero HD.out z0 z1 (Or.inl (by omega)))
            clear hz
            go_wp2_with (go_at_call 24; refine (digit_to r _ true HDG.out).mono ?_; rintro e w3 ⟨rfl, rfl⟩)
            go_step3
            exact ⟨rfl, ⟨HB2.out, HNN.out.1, HNN.out.2⟩, _, _, _, _, _, _, _, _, _, _, _, _, _, _, _, _, _, _, _, _, _, _, _, _, _, _, _, _, _, _, _, _, _, _, _, _, _, _, _, _, _, _, _, _, _, _, _, _, _, _, _, _, rfl⟩
      · obtain rfl : p = D.size := by omega
        have hnx : ∀ ty, (Instr.next (.pointer (some ⟨w2.heap.size, 0, none⟩)) true ty).run Tryd.prog (w2.iter D D.size) = _ := fun ty => run_next_end w2 D D.size ty hlt
        have HTK : Hid (digV D.data.toList = V) := by
          have h := HI.out.1
          rw [← len_list, List.take_length] at h
          exact h
        by_cases hz : D.size = 0
        · have HNN : Hid (numV s.data.toList = 0 ∧ numK s.data.toList = false) := num_not (numP_not_none (by rw [HD.out]; exact hz))
          have g7 : (D.toList == []) = true := by rw [Lib.toList_data, beq_iff_eq]; exact List.eq_nil_of_length_eq_zero (by rw [len_list]; exact hz)
          clear hz
          go_wp2
          go_step3
          exact ⟨rfl, ⟨HB.out, HNN.out.1, HNN.out.2⟩, _, _, _, _, _, _, _, _, _, _, _, _, _, _, _, _, _, _, _, _, _, _, _, _, _, _, _, _, _, _, _, _, _, _, _, _, _, _, _, _, _, _, _, _, _, _, _, _, _, _, _, _, rfl⟩
        · have g7 : (D.toList == []) = false := by rw [Lib.toList_data, beq_eq_false_iff_ne]; intro e; have := len_list D; rw [e] at this; simp at this; omega
          have h1 : 0 < D.size := by omega
          cases N with
          | true =>
            by_cases hV0 : V = 0
            · subst hV0
              have HNN : Hid (numV s.data.toList = 0 ∧ numK s.data.toList = false) := num_not (by
                obtain ⟨z0, z1⟩ := HI.out.2.zeroAt hp (by omega) HI.out.1
                exact not_zero HD.out z0 z1 (Or.inr HN.out))
              go_wp2
              go_step3
              exact ⟨rfl, ⟨HB.out, HNN.out.1, HNN.out.2⟩, _, _, _, _, _, _, _, _, _, _, _, _, _, _, _, _, _, _, _, _, _, _, _, _, _, _, _, _, _, _, _, _, _, _, _, _, _, _, _, _, _, _, _, _, _, _, _, _, _, _, _, _, rfl⟩
            · have g5 : ((V : Int) == 0) = false := by rw [beq_eq_false_iff_ne]; omega
              have HW : Hid (numK s.data.toList = true ∧ numV s.data.toList = -(V : Int)) := by
                have := well_at HD.out h1 (fun j hj => HI.out.2.dig j hj hj) (fun h48 => by
                  exfalso
                  have h5 := HI.out.2.zero h1 h48
                  have h6 : D.size = 1 := by omega
                  have h7 := digV_one D h1
                  have h8 := HI.out.1
                  rw [h6, h7, h48] at h8
                  omega) (by rw [HTK.out]; exact hV)
                rw [HN.out, if_pos rfl, HTK.out] at this
                exact this
              go_wp2
              rw [jump_ret]
              go_ret2
              exact ⟨by rw [HW.out.1, HW.out.2]; rfl, HB.out⟩
          | false =>
            have HW : Hid (numK s.data.toList = true ∧ numV s.data.toList = (V : Int)) := by
              have := well_at HD.out h1 (fun j hj => HI.out.2.dig j hj hj) (fun h48 => by
                have h5 := HI.out.2.zero h1 h48
                exact ⟨by omega, HN.out⟩) (by rw [HTK.out]; exact hV)
              rw [HN.out, if_neg (by decide), HTK.out] at this
              exact this
            go_wp2
            rw [jump_ret]
            go_ret2
            exact ⟨by rw [HW.out.1, HW.out.2]; rfl, HB.out⟩
  · rintro a w' ⟨⟨hbj, hv, hk⟩, u0, u1, u2, u3, u4, u5, u6, u7, u8, u9, u10, u11, u12, u13, u14, u15, u16, u17, u18, u19, u20, u21, u22, u23, u24, u25, u26, u27, u28, u29, u30, u31, u32, u33, u34, u35, u36, u37, u38, u39, u40, u41, u42, u43, u44, u45, u46, u47, u48, u49, u50, u51, rfl⟩
    have HBJ : Hid (Below w.heap.size w w') := hbj
    have HK : Hid (numV s.data.toList = 0 ∧ numK s.data.toList = false) := ⟨hv, hk⟩
    clear hbj hv hk
    go_wp2
    rw [jump_ret]
    go_ret2
    exact ⟨by rw [HK.out.1, HK.out.2]; rfl, HBJ.out⟩
end Go.Proofs.YtipioeecgcljoaaDoor
