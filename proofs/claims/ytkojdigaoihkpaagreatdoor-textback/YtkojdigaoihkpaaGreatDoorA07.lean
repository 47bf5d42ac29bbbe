/- Part 7 of the texts that the theorem leans on. -/
import Derived.Test.YtkojdigaoihkpaaGreatDoorA06
section
namespace Go.Proofs.YtkojdigaoihkpaaGreatDoor
set_option linter.unusedVariables false
set_option linter.unusedSimpArgs false
set_option maxRecDepth 100000
open Go.RowKit

set_option maxHeartbeats 8000000 in
theorem number_to (s : ByteArray) (w : World) :
    Calls Tryz.prog 95 #[.string s] w fun e w' => e = .returned (.tuple #[.int .i64 (numV s.data.toList), .int .i64 (if numK s.data.toList then 0 else 1)]) ∧ Below w.heap.size w w' := by
  obtain ⟨D, hD⟩ : ∃ D, digB s = D := ⟨_, rfl⟩
  obtain ⟨N, hN⟩ : ∃ N, negB s = N := ⟨_, rfl⟩
  have HD : Hid (digB s = D) := hD
  have HN : Hid (negB s = N) := hN
  have HC : Hid (∀ w, Calls Tryz.prog 112 #[.string s, .string ⟨#[45]⟩] w fun e w' => e = .returned (.tuple #[.string D, .bool N]) ∧ w' = w) := fun w => by
    have := cutp_to s w
    rw [hD, hN] at this
    exact this
  clear hD hN
  go_enter Tryz.func95, Tryz.ntmps95
  go_wp2_with fail
  refine wp_scope_jumps 0 (fun a' w' => (Below w.heap.size w w' ∧ numV s.data.toList = 0 ∧ numK s.data.toList = false) ∧ ∃ (u0 u1 u2 u3 u4 u5 u6 u7 u8 u9 u10 u11 u12 u13 u14 u15 u16 u17 u18 u19 u20 u21 u22 u23 u24 u25 u26 u27 u28 u29 u30 u31 u32 u33 u34 u35 u36 u37 u38 u39 u40 u41 u42 u43 u44 u45 u46 u47 u48 u49 u50 u51 : Value), a' = { tmps := #[u0, u1, u2, u3, u4, u5, u6, u7, u8, u9, u10, u11, u12, u13, u14, u15, u16, u17, u18, u19, u20, u21, u22, u23, u24, u25, u26, u27, u28, u29, u30, u31, u32, u33, u34, u35, u36, u37, u38, u39, u40, u41, u42, u43, u44, u45, u46, u47, u48, u49, u50, u51], defers := [] }) (fun _ _ => 0) rfl ?_ ?_
  · go_wp2_with (go_at_call 112; refine (HC.out _).mono ?_; rintro e w2 ⟨rfl, rfl⟩)
    go_loopw [4] (fun n w' => ∃ (p V : Nat), p ≤ D.size ∧ w' = w2.iter D p ∧ n = .int .i64 V ∧ Hid (digV (D.data.toList.take p) = V ∧ NumI D p) ∧ V ≤ 1073741824) (fun _ w' => D.size - w'.iterPos w2.heap.size)
    case atStart => exact ⟨0, 0, Nat.zero_le _, rfl, rfl, ⟨by simp [digV], NumI.start D⟩, by omega⟩
    case round =>
      obtain ⟨p, V, hp, rfl, rfl, HI, hV⟩ := hrel
      have HB : Hid (Below w2.heap.size w2 (w2.iter D p)) := (Below.refl _ _).alloc (Nat.le_refl _) _
      by_cases hlt : p < D.size
      · obtain ⟨⟨r, k⟩, hrk⟩ : ∃ x, Utf8.decode D p = x := ⟨_, rfl⟩
        have hk1 := decode_lo D p
        have hk2 := decode_le D p hlt
        have hnx : ∀ ty, (Instr.next (.pointer (some ⟨w2.heap.size, 0, none⟩)) true ty).run Tryz.prog (w2.iter D p) = _ := fun ty => run_next_any w2 D p ty hlt
        rw [hrk] at hk1 hk2 hnx
        simp only at hk1 hk2 hnx
        have HRK : Hid (Utf8.decode D p = (r, k)) := hrk
        have HB2 : Hid (Below w2.heap.size w2 (w2.iter D (p + k))) := (Below.refl _ _).alloc (Nat.le_refl _) _
        clear hrk
        cases hd : digR r with
        | false =>
          have HDG : Hid (digR r = false) := hd
          have HNN : Hid (numV s.data.toList = 0 ∧ numK s.data.toList = false) := num_not (by
            exact numP_not_rune (by rw [HD.out]; exact hlt) (fun h => digit_at hlt HRK.out hd (by simpa only [HD.out] using h)))
          clear hd
          go_wp2_with (go_at_call 74; refine (digit_to r _ false HDG.out).mono ?_; rintro e w3 ⟨rfl, rfl⟩)
          go_step3
          exact ⟨rfl, ⟨HB2.out, HNN.out.1, HNN.out.2⟩, _, _, _, _, _, _, _, _, _, _, _, _, _, _, _, _, _, _, _, _, _, _, _, _, _, _, _, _, _, _, _, _, _, _, _, _, _, _, _, _, _, _, _, _, _, _, _, _, _, _, _, _, rfl⟩
        | true =>
          have HDG : Hid (digR r = true) := hd
          have hr2 : 48 ≤ r ∧ r ≤ 57 := by simpa [digR] using hd
          have hlow := dec_low hlt HRK.out (by omega)
          obtain ⟨hk3, hb3⟩ := hlow
          subst hk3
          have HB3 : Hid ((D[p]'hlt).toNat = r) := hb3
          clear hd hb3
          obtain ⟨hr3, hr4⟩ := hr2
          have g1 : IntKind.i32.wrap ((r : Int) - 48) = (r : Int) - 48 := by simp [IntKind.wrap, IntKind.signed, IntKind.bits]; omega
          have g2 : IntKind.i64.wrap ((r : Int) - 48) = (r : Int) - 48 := by simp [IntKind.wrap, IntKind.signed, IntKind.bits]; omega
          by_cases hz : p = 0 ∨ ¬ V = 0
          · have HZ : Hid (p = 0 ∨ ¬ digV (D.data.toList.take p) = 0) := by show _ ∨ _; rw [HI.out.1]; exact hz
            have HX := HI.out.2.next hlt HB3.out ⟨hr3, hr4⟩ HZ.out
            rw [HI.out.1] at HX
            have HX2 : Hid (digV (D.data.toList.take (p + 1)) = V * 10 + (r - 48) ∧ (V * 10 + (r - 48) ≤ 1073741824 → NumI D (p + 1))) := HX
            clear HX
            obtain ⟨U, hU⟩ : ∃ U, V * 10 + (r - 48) = U := ⟨_, rfl⟩
            have g3 : (V : Int) * 10 + ((r : Int) - 48) = (U : Int) := by omega
            rw [hU] at HX2
            by_cases hm : U ≤ 1073741824
            · have g4 : ¬ (1073741824 : Int) < (U : Int) := by omega
              have HI2 : Hid (digV (D.data.toList.take (p + 1)) = U ∧ NumI D (p + 1)) := ⟨HX2.out.1, HX2.out.2 hm⟩
              clear hU HX2
              rcases Nat.eq_zero_or_pos p with h0 | h0
              · subst h0
                clear hz
                go_wp2_with (go_at_call 74; refine (digit_to r _ true HDG.out).mono ?_; rintro e w3 ⟨rfl, rfl⟩)
                go_roundw
                case rel => exact ⟨0 + 1, U, by omega, rfl, rfl, HI2.out, by omega⟩
                case measure => simp; omega
              · have hz2 : ¬ V = 0 := by omega
                have g5 : ((V : Int) == 0) = false := by rw [beq_eq_false_iff_ne]; omega
                have g6 : (0 : Int) < (p : Int) := by omega
                clear hz
                go_wp2_with (go_at_call 74; refine (digit_to r _ true HDG.out).mono ?_; rintro e w3 ⟨rfl, rfl⟩)
                go_roundw
                case rel => exact ⟨p + 1, U, by omega, rfl, rfl, HI2.out, by omega⟩
                case measure => simp; omega
            · have g4 : (1073741824 : Int) < (U : Int) := by omega
              have HNN : Hid (numV s.data.toList = 0 ∧ numK s.data.toList = false) := num_not (by
                have h1 := HX2.out.1
                exact numP_not_many (s := s) (k := p + 1) (by rw [HD.out]; omega) (by rw [HD.out, h1]; omega))
              clear hU HX2
              rcases Nat.eq_zero_or_pos p with h0 | h0
              · subst h0
                clear hz
                go_wp2_with (go_at_call 74; refine (digit_to r _ true HDG.out).mono ?_; rintro e w3 ⟨rfl, rfl⟩)
                go_step3
                exact ⟨rfl, ⟨HB2.out, HNN.out.1, HNN.out.2⟩, _, _, _, _, _, _, _, _, _, _, _, _, _, _, _, _, _, _, _, _, _, _, _, _, _, _, _, _, _, _, _, _, _, _, _, _, _, _, _, _, _, _, _, _, _, _, _, _, _, _, _, _, rfl⟩
              · have hz2 : ¬ V = 0 := by omega
                have g5 : ((V : Int) == 0) = false := by rw [beq_eq_false_iff_ne]; omega
                have g6 : (0 : Int) < (p : Int) := by omega
                clear hz
                go_wp2_with (go_at_call 74; refine (digit_to r _ true HDG.out).mono ?_; rintro e w3 ⟨rfl, rfl⟩)
                go_step3
                exact ⟨rfl, ⟨HB2.out, HNN.out.1, HNN.out.2⟩, _, _, _, _, _, _, _, _, _, _, _, _, _, _, _, _, _, _, _, _, _, _, _, _, _, _, _, _, _, _, _, _, _, _, _, _, _, _, _, _, _, _, _, _, _, _, _, _, _, _, _, _, rfl⟩
          · have h0 : 1 ≤ p := by omega
            have hV0 : V = 0 := by omega
            subst hV0
            have g5 : (((0 : Nat) : Int) == 0) = true := rfl
            have g6 : (0 : Int) < (p : Int) := by omega
            have HNN : Hid (numV s.data.toList = 0 ∧ numK s.data.toList = false) := num_not (by
              obtain ⟨z0, z1⟩ := HI.out.2.zeroAt hp h0 HI.out.1
              exact not_zero HD.out z0 z1 (Or.inl (by omega)))
            clear hz
            go_wp2_with (go_at_call 74; refine (digit_to r _ true HDG.out).mono ?_; rintro e w3 ⟨rfl, rfl⟩)
            go_step3
            exact ⟨rfl, ⟨HB2.out, HNN.out.1, HNN.out.2⟩, _, _, _, _, _, _, _, _, _, _, _, _, _, _, _, _, _, _, _, _, _, _, _, _, _, _, _, _, _, _, _, _, _, _, _, _, _, _, _, _, _, _, _, _, _, _, _, _, _, _, _, _, rfl⟩
      · obtain rfl : p = D.size := by omega
        have hnx : ∀ ty, (Instr.next (.pointer (some ⟨w2.heap.size, 0, none⟩)) true ty).run Tryz.prog (w2.iter D D.size) = _ := fun ty => run_next_end w2 D D.size ty hlt
        have HTK : Hid (digV D.data.toList = V) := by
          have h := HI.out.1
          rw [← len_list, List.take_length] at h
          exact h
        by_cases hz : D.size = 0
        · have HNN : Hid (numV s.data.toList = 0 ∧ numK s.data.toList = false) := num_not (numP_not_none (by rw [HD.out]; exact hz))
          have g7 : (D.toList == []) = true := by rw [Lib.toList_data, beq_iff_eq]; exact List.eq_nil_of_length_eq_zero (by rw [len_list]; exact hz)
          clear hz
          go_wp2
          go_step3
          exact ⟨rfl, ⟨HB.out, HNN.out.1, HNN.out.2⟩, _, _, _, _, _, _, _, _, _, _, _, _, _, _, _, _, _, _, _, _, _, _, _, _, _, _, _, _, _, _, _, _, _, _, _, _, _, _, _, _, _, _, _, _, _, _, _, _, _, _, _, _, rfl⟩
        · have g7 : (D.toList == []) = false := by rw [Lib.toList_data, beq_eq_false_iff_ne]; intro e; have := len_list D; rw [e] at this; simp at this; omega
          have h1 : 0 < D.size := by omega
          cases N with
          | true =>
            by_cases hV0 : V = 0
            · subst hV0
              have HNN : Hid (numV s.data.toList = 0 ∧ numK s.data.toList = false) := num_not (by
                obtain ⟨z0, z1⟩ := HI.out.2.zeroAt hp (by omega) HI.out.1
                exact not_zero HD.out z0 z1 (Or.inr HN.out))
              go_wp2
              go_step3
              exact ⟨rfl, ⟨HB.out, HNN.out.1, HNN.out.2⟩, _, _, _, _, _, _, _, _, _, _, _, _, _, _, _, _, _, _, _, _, _, _, _, _, _, _, _, _, _, _, _, _, _, _, _, _, _, _, _, _, _, _, _, _, _, _, _, _, _, _, _, _, rfl⟩
            · have g5 : ((V : Int) == 0) = false := by rw [beq_eq_false_iff_ne]; omega
              have HW : Hid (numK s.data.toList = true ∧ numV s.data.toList = -(V : Int)) := by
                have := well_at HD.out h1 (fun j hj => HI.out.2.dig j hj hj) (fun h48 => by
                  exfalso
                  have h5 := HI.out.2.zero h1 h48
                  have h6 : D.size = 1 := by omega
                  have h7 := digV_one D h1
                  have h8 := HI.out.1
                  rw [h6, h7, h48] at h8
                  omega) (by rw [HTK.out]; exact hV)
                rw [HN.out, if_pos rfl, HTK.out] at this
                exact this
              go_wp2
              rw [jump_ret]
              go_ret2
              exact ⟨by rw [HW.out.1, HW.out.2]; rfl, HB.out⟩
          | false =>
            have HW : Hid (numK s.data.toList = true ∧ numV s.data.toList = (V : Int)) := by
              have := well_at HD.out h1 (fun j hj => HI.out.2.dig j hj hj) (fun h48 => by
                have h5 := HI.out.2.zero h1 h48
                exact ⟨by omega, HN.out⟩) (by rw [HTK.out]; exact hV)
              rw [HN.out, if_neg (by decide), HTK.out] at this
              exact this
            go_wp2
            rw [jump_ret]
            go_ret2
            exact ⟨by rw [HW.out.1, HW.out.2]; rfl, HB.out⟩
  · rintro a w' ⟨⟨hbj, hv, hk⟩, u0, u1, u2, u3, u4, u5, u6, u7, u8, u9, u10, u11, u12, u13, u14, u15, u16, u17, u18, u19, u20, u21, u22, u23, u24, u25, u26, u27, u28, u29, u30, u31, u32, u33, u34, u35, u36, u37, u38, u39, u40, u41, u42, u43, u44, u45, u46, u47, u48, u49, u50, u51, rfl⟩
    have HBJ : Hid (Below w.heap.size w w') := hbj
    have HK : Hid (numV s.data.toList = 0 ∧ numK s.data.toList = false) := ⟨hv, hk⟩
    clear hbj hv hk
    go_wp2
    rw [jump_ret]
    go_ret2
    exact ⟨by rw [HK.out.1, HK.out.2]; rfl, HBJ.out⟩
theorem ofNat_dig (i : Nat) (h : i < 10) : (UInt8.ofNat (48 + i)).toNat = 48 + i := by
  rw [UInt8.toNat_ofNat']; omega
theorem dec_small {u : Nat} (h : u < 10) : Lib.decDigits u = [UInt8.ofNat (48 + u)] := by rw [Lib.decDigits, dif_pos h]
theorem dec_big {u : Nat} (h : ¬ u < 10) : Lib.decDigits u = Lib.decDigits (u / 10) ++ [UInt8.ofNat (48 + u % 10)] := by rw [Lib.decDigits, dif_neg h]
theorem dec_all (u : Nat) : ∀ c ∈ Lib.decDigits u, 48 ≤ c.toNat ∧ c.toNat ≤ 57 := by
  induction u using Nat.strongRecOn with
  | _ u ih =>
    by_cases h : u < 10
    · rw [dec_small h]
      intro c hc
      simp only [List.mem_cons, List.not_mem_nil, or_false] at hc
      rw [hc, ofNat_dig u h]
      omega
    · rw [dec_big h]
      intro c hc
      rcases List.mem_append.1 hc with hc | hc
      · exact ih (u / 10) (by omega) c hc
      · simp only [List.mem_cons, List.not_mem_nil, or_false] at hc
        rw [hc, ofNat_dig _ (by omega)]
        omega
theorem dec_val (u : Nat) : digV (Lib.decDigits u) = u := by
  induction u using Nat.strongRecOn with
  | _ u ih =>
    by_cases h : u < 10
    · rw [dec_small h]
      have := ofNat_dig u h
      simp only [digV, List.foldl]
      omega
    · rw [dec_big h, digV_snoc, ih (u / 10) (by omega), ofNat_dig _ (by omega)]
      omega
theorem dec_head (u : Nat) (hu : ¬ u = 0) : ∃ c r, Lib.decDigits u = c :: r ∧ 49 ≤ c.toNat := by
  induction u using Nat.strongRecOn with
  | _ u ih =>
    by_cases h : u < 10
    · exact ⟨_, _, dec_small h, by rw [ofNat_dig u h]; omega⟩
    · obtain ⟨c, r, e, hc⟩ := ih (u / 10) (by omega) (by omega)
      exact ⟨c, r ++ [UInt8.ofNat (48 + u % 10)], by rw [dec_big h, e]; rfl, hc⟩
theorem dec_len (u : Nat) (hu : u ≤ 1073741824) : 1 ≤ (Lib.decDigits u).length ∧ (Lib.decDigits u).length ≤ 10 := by
  by_cases h0 : u = 0
  · subst h0; rw [dec_small (by decide)]; exact ⟨by decide, by decide⟩
  · obtain ⟨c, r, e, hc⟩ := dec_head u h0
    refine ⟨by rw [e]; simp, ?_⟩
    apply Nat.le_of_not_lt
    intro hlt
    have h5 := digV_pow (Lib.decDigits u) (fun h => by simpa [e] using hc) 10 hlt
    have h6 := digV_all (Lib.decDigits u) (10 + 1) (by omega)
    rw [dec_val] at h6
    omega
theorem numD_dec (u : Nat) : numD (Lib.decDigits u) = Lib.decDigits u := by
  cases e : Lib.decDigits u with
  | nil => rfl
  | cons c r =>
    have := dec_all u c (by rw [e]; simp)
    show (if c.toNat = 45 then r else c :: r) = c :: r
    rw [if_neg (by omega)]
theorem numP_dec (l : List UInt8) (u : Nat) (hu : u ≤ 1073741824) (e : numD l = Lib.decDigits u) (hz : u = 0 → l = [48]) : numP l := by
  have hl := dec_len u hu
  refine ⟨by rw [e]; exact hl.1, by rw [e]; exact hl.2, ?_, by rw [e]; exact dec_all u, by rw [e, dec_val]; exact hu⟩
  rintro ⟨g1, g2⟩
  by_cases h0 : u = 0
  · exact g2 (hz h0)
  · obtain ⟨c, r, ec, hc⟩ := dec_head u h0
    rw [e, ec] at g1
    simp at g1
    omega
theorem itoa_num (n : Int) (h1 : -1073741824 ≤ n) (h2 : n ≤ 1073741824) : numK (Lib.itoa n) = true ∧ numV (Lib.itoa n) = n := by
  by_cases h0 : n < 0
  · have e : Lib.itoa n = 45 :: Lib.decDigits n.natAbs := by rw [Lib.itoa, if_pos h0]
    have ed : numD (Lib.itoa n) = Lib.decDigits n.natAbs := by rw [e]; rfl
    obtain ⟨e1, e2⟩ := num_yes (numP_dec (Lib.itoa n) n.natAbs (by omega) ed (fun h => by omega))
    refine ⟨e2, ?_⟩
    rw [e1, ed, e, if_pos (by simp), dec_val]
    omega
  · have e : Lib.itoa n = Lib.decDigits n.toNat := by rw [Lib.itoa, if_neg h0]
    have ed : numD (Lib.itoa n) = Lib.decDigits n.toNat := by rw [e, numD_dec]
    obtain ⟨e1, e2⟩ := num_yes (numP_dec (Lib.itoa n) n.toNat (by omega) ed (fun h => by rw [e, h, dec_small (by decide)]; rfl))
    refine ⟨e2, ?_⟩
    rw [e1, ed, e, if_neg (by omega), dec_val]
    omega
theorem below_grown (w : World) (k : Nat) (os : Array Obj) : Below w.heap.size w (Sort.grow (w.drewN k) os) :=
  ⟨rfl, rfl, rfl, by show w.heap.size ≤ (w.heap ++ os).size; rw [Array.size_append]; omega, fun i hi => by show (w.heap ++ os)[i]? = _; rw [Array.getElem?_append_left hi]⟩
/-- The table of the powers of ten, as laid. -/
def PowT (w : World) : Prop := Lib.TabIs Tryz.prog w "internal/strconv.uint64pow10" .u64 Lib.pow10Tab
theorem digits_ok (n : Int) (w : World) (h0 : ¬ n < -1073741824) (h1 : ¬ 1073741824 < n) (hT : PowT w) :
    Calls Tryz.prog 66 #[.int .i64 n] w fun e w' => e = .returned (.tuple #[.string ⟨(Lib.itoa n).toArray⟩, .int .i64 0]) ∧ Below w.heap.size w w' := by
  have HT : Hid (PowT w) := hT
  clear hT
  go_enter Tryz.func66, Tryz.ntmps66
  go_wp2_with (go_at_call 44; refine (Tryz.strconv_Itoa n (by omega) (by omega) _ HT.out).mono ?_; rintro e w2 ⟨rfl, k, os, rfl⟩)
  go_ret2
  exact ⟨rfl, below_grown _ _ _⟩
theorem put_same (v : Value) (s : ByteArray) (a : Nat) (w : World) :
    Calls Tryz.prog 75 #[v, .string s, .int .i64 a, .int .i64 a] w fun e w' => e = .returned v ∧ w = w' := by
  have g1 : ((a : Int) == (a : Int)) = true := by simp
  go_enter Tryz.func75, Tryz.ntmps75
  go_wp2
  go_ret
  exact ⟨rfl, rfl⟩
theorem grownBy_then {w w1 w2 : World} {row : Option Nat} (hb : Below w.heap.size w w1) (hg : w1.grownBy w2 row) : w.grownBy w2 row :=
  ⟨hg.os.trans hb.os, hg.tape.trans hb.tape, hg.output.trans hb.output, Nat.le_trans hb.size hg.size, fun k hk hne => (hg.block k (Nat.lt_of_lt_of_le hk hb.size) hne).trans (hb.block k hk)⟩
set_option maxHeartbeats 4000000 in
theorem put_new (B : Nat) (v : Value) (s : ByteArray) (l : List Tok) (a b : Nat) (w : World) (hO : w.ownsRow B 106 2 v l.length (cellsT l)) (hB : B ≤ w.heap.size) (hl : l.length ≤ 3000000) (hs : s.size ≤ 1000000) (hab : a < b) (hb : b ≤ s.size) :
    Calls Tryz.prog 75 #[v, .string s, .int .i64 a, .int .i64 b] w fun e w' => ∃ v', e = .returned v' ∧ w'.ownsRow B 106 2 v' (l ++ [(s.extract a b, a)]).length (cellsT (l ++ [(s.extract a b, a)])) ∧ w.grownBy w' v.ownBlock := by
  obtain ⟨iT, hi, hz0, hz1, hz2⟩ := infoK
  have HI : Hid (Tryz.prog.info? 106 = some iT) := hi
  have HZ0 : Hid (iT.zero = some (.agg #[.string ⟨#[]⟩, .int .i64 0])) := hz0
  have HZ1 : Hid (iT.size = 2) := hz1
  have HZ2 : Hid (iT.bytes = 24) := hz2
  have HO : Hid (w.ownsRow B 106 2 v l.length (cellsT l)) := hO
  have g1 : ((a : Int) == (b : Int)) = false := by rw [beq_eq_false_iff_ne]; omega
  have g2 : (0 : Int) ≤ (a : Int) := by omega
  have g3 : (a : Int) ≤ (b : Int) := by omega
  have g4 : (b : Int) ≤ (s.size : Int) := by omega
  clear hi hz0 hz1 hz2 hO
  obtain ⟨t, ht⟩ : ∃ t, s.extract a b = t := ⟨_, rfl⟩
  have HT : Hid (s.extract a b = t) := ht
  have hts : t.size ≤ 1000000 := by rw [← ht, ByteArray.size_extract]; omega
  clear ht
  go_enter Tryz.func75, Tryz.ntmps75
  go_wp2_with (first
    | (go_at_call 49; rw [HT.out]; refine (clone_to t _ (by omega)).mono ?_; rintro e w1 ⟨rfl, hb1⟩; have HB1 : Hid (Below w.heap.size w w1) := hb1; have hs1 := hb1.size; clear hb1)
    | (at_builtin; refine wpList_append_lies _ rfl _ _ 65 rfl B 106 iT (.agg #[.string ⟨#[]⟩, .int .i64 0]) 2 24 Tryz.underlying65 HI.out HZ0.out HZ1.out HZ2.out rfl (by decide) v (l.length) (cellsT l) rfl ?c0 ⟨w1.heap.size, 0, none⟩ 1 1 [.string t, .int .i64 a] rfl rfl ?c1 ?c2 (by decide) ?c3 ?c4 ?c5 (w1.heap.size + 1) ?c6 ?_))
  case c0 => exact World.ownsRow.alloc (ownsR_later HO.out HB1.out) _
  case c1 => exact World.news_of_block (heap_alloc_new w1 (.cells #[.string t, .int .i64 a] 106))
  case c2 => intro u hu; simp only [List.mem_cons, List.not_mem_nil, or_false] at hu; rcases hu with rfl | rfl <;> rfl
  case c3 => unfold maxLen; omega
  case c4 => omega
  case c5 => simp; omega
  case c6 => simp
  intro g cap w2 ho hg hat hlt2
  have HO2 : Hid (w2.ownsRow B 106 2 (.slice (some ⟨g, 0, none⟩) (l.length + 1) cap) (l ++ [(t, a)]).length (cellsT (l ++ [(t, a)]))) := by show World.ownsRow _ _ _ _ _ _ _; rw [List.length_append, cellsT_snoc]; exact ho
  have HG2 : Hid (w.grownBy w2 v.ownBlock) := grownBy_then (HB1.out.trans ((Below.refl _ _).alloc HB1.out.size _)) hg
  clear ho hg hat
  go_wp2
  go_ret
  exact ⟨_, rfl, by rw [HT.out]; exact HO2.out, HG2.out⟩
theorem put_to (B : Nat) (v : Value) (s : ByteArray) (l : List Tok) (a b : Nat) (w : World) (hO : w.ownsRow B 106 2 v l.length (cellsT l)) (hB : B ≤ w.heap.size) (hl : l.length ≤ 3000000) (hs : s.size ≤ 1000000) (hab : a ≤ b) (hb : b ≤ s.size) :
    Calls Tryz.prog 75 #[v, .string s, .int .i64 a, .int .i64 b] w fun e w' => ∃ v', e = .returned v' ∧ w'.ownsRow B 106 2 v' (putL l s a b).length (cellsT (putL l s a b)) ∧ w.grownBy w' v.ownBlock := by
  rw [putL]
  by_cases h : a = b
  · subst h
    rw [if_pos rfl]
    refine (put_same v s a w).mono ?_
    rintro e w2 ⟨rfl, rfl⟩
    exact ⟨v, rfl, hO, rfl, rfl, rfl, Nat.le_refl _, fun _ _ _ => rfl⟩
  · rw [if_neg h]
    exact put_new B v s l a b w hO hB hl hs (by omega) hb
theorem own_not_it {w : World} {B I p k n : Nat} {e : TypeId} {s : ByteArray} {v : Value} {xs : List Value} (h : w.ownsRow B e k v n xs) (hi : It w I s p) : ∀ g, v.ownBlock = some g → I ≠ g := by
  intro g hg
  rcases h.2 with ⟨rfl, _⟩ | ⟨g', cap, cur, rfl, _, hgg, _⟩
  · simp [Value.ownBlock] at hg
  · simp [Value.ownBlock] at hg
    subst hg
    rintro rfl
    rw [It, hgg] at hi
    cases hi
theorem It.nx_2 {w : World} {I p : Nat} {s : ByteArray} (h : It w I s p) (hp : p < s.size) {r k : Nat} (hr : Utf8.decode s p = (r, k)) (ty : TypeId) :
    (Instr.next (.pointer (some ⟨I, 0, none⟩)) true ty).run Tryz.prog w = .ok (.tuple #[.bool true, .int .i64 p, .int .i32 r]) (w.iterAt I s (p + k)) := by
  have := Lib.run_next_any_at (P := Tryz.prog) w I s p ty h hp
  rw [hr] at this
  exact this
theorem It.done_2 {w : World} {I p : Nat} {s : ByteArray} (h : It w I s p) (hp : ¬ p < s.size) (ty : TypeId) :
    (Instr.next (.pointer (some ⟨I, 0, none⟩)) true ty).run Tryz.prog w = .ok (.tuple #[.bool false]) w := Lib.run_next_end_at w I s p ty h hp
theorem It.grown {w w' : World} {B I p k n : Nat} {e : TypeId} {s : ByteArray} {v : Value} {xs : List Value} (hi : It w I s p) (h : w.ownsRow B e k v n xs) (hg : w.grownBy w' v.ownBlock) : It w' I s p :=
  (hg.block I hi.lt (fun e => own_not_it h hi I e.symm rfl)).trans hi
theorem own_moved {w : World} {B I p k n : Nat} {e : TypeId} {s : ByteArray} {v : Value} {xs : List Value} (h : w.ownsRow B e k v n xs) (hi : It w I s p) (q : Nat) : (w.iterAt I s q).ownsRow B e k v n xs := by
  refine ⟨h.1, ?_⟩
  have hne := own_not_it h hi
  rcases h.2 with h0 | ⟨g, cap, cur, rfl, h1, hh, h2⟩
  · exact Or.inl h0
  · exact Or.inr ⟨g, cap, cur, rfl, h1, (Lib.iterAt_other w I g s q (fun e => hne g rfl e.symm)).trans hh, h2⟩
set_option maxHeartbeats 8000000 in
theorem words_to (s : ByteArray) (w : World) (hs : s.size ≤ 1000000) (bq : Option Nat) (hbq : badW s = bq) :
    Calls Tryz.prog 50 #[.string s] w fun e w' => (∃ v, e = .returned (.tuple #[v, .int .i64 (bq.getD 0), .int .i64 (if bq.isNone then 0 else 5)]) ∧ HoldsC w' v (if bq.isNone then toksW s else []).length (cellsT (if bq.isNone then toksW s else []))) ∧ Below w.heap.size w w' := by
  have HQ0 : Hid (badN s (s.size + 1) 0 = bq) := hbq
  have HS : Hid (s.size ≤ 1000000) := hs
  clear hbq
  go_enter Tryz.func50, Tryz.ntmps50
  go_wp2_with fail
  refine wp_scope_jumps 0 (fun a' w' => ∃ (u0 u1 u2 u3 u4 u5 u6 u7 u8 u9 u10 u11 u12 u13 u14 u15 u16 u17 u18 u19 u20 u21 u22 u23 u24 u25 u26 u27 u28 u29 u30 u31 u32 u33 u34 u35 u36 u37 u38 u39 u40 u41 u42 u43 u44 u45 u46 u47 u48 u49 u50 u51 u52 u53 u54 u55 : Value), ((Below w.heap.size w w' ∧ ∃ q, bq = some q ∧ u3 = .int .i64 q) ∧ a' = { tmps := #[u0, u1, u2, u3, u4, u5, u6, u7, u8, u9, u10, u11, u12, u13, u14, u15, u16, u17, u18, u19, u20, u21, u22, u23, u24, u25, u26, u27, u28, u29, u30, u31, u32, u33, u34, u35, u36, u37, u38, u39, u40, u41, u42, u43, u44, u45, u46, u47, u48, u49, u50, u51, u52, u53, u54, u55], defers := [] })) (fun _ _ => 0) rfl ?_ ?_
  · go_wp2
    go_loopw [2, 5] (fun v fr w' => ∃ (p a f : Nat) (l : List Tok), p ≤ s.size ∧ fr = .int .i64 a ∧ Hid (WordI s p a l) ∧ Hid (s.size - p < f ∧ badN s f p = bq) ∧ Hid (w'.ownsRow w.heap.size 106 2 v l.length (cellsT l)) ∧ Hid (It w' w.heap.size s p) ∧ Hid (Below w.heap.size w w')) (fun _ _ w' => s.size - w'.iterPos w.heap.size)
    case atStart => exact ⟨0, 0, s.size + 1, [], Nat.zero_le _, rfl, WordI.start s, ⟨by omega, HQ0.out⟩, World.ownsRow_nil _ _ _ _, It.new _ _ _, (Below.refl _ _).alloc (Nat.le_refl _) _⟩
    case round =>
      obtain ⟨p, a, f, l, hp, rfl, HX, HF, HO, HI, HB⟩ := hrel
      have HP : Hid (wr.iterPos w.heap.size = p) := HI.out.pos
      have hap := HX.out.le
      have HLL : Hid (l.length ≤ 2 * s.size) := by
        have h1 := tokSt_len s p
        rw [HX.out.1] at h1
        show _ ≤ _
        omega
      by_cases hlt : p < s.size
      · obtain ⟨⟨r, k⟩, hrk⟩ : ∃ x, Utf8.decode s p = x := ⟨_, rfl⟩
        have hk1 := decode_lo s p
        have hk2 := decode_le s p hlt
        have hnx := fun ty => It.nx_2 HI.out hlt hrk ty
        rw [hrk] at hk1 hk2
        simp only at hk1 hk2
        have HRK : Hid (Utf8.decode s p = (r, k)) := hrk
        obtain ⟨g, hg⟩ : ∃ g, f = g + 1 := ⟨f - 1, by have := HF.out.1; omega⟩
        subst hg
        have HF2 : Hid ((if badR r k = true then some p else badN s g (p + k)) = bq) := by
          have h := HF.out.2
          rw [badN, if_pos hlt, hrk] at h
          exact h
        have HG : Hid (s.size - (p + k) < g) := by have := HF.out.1; show _ < _; omega
        obtain ⟨W1, hW1⟩ : ∃ W1, wr.iterAt w.heap.size s (p + k) = W1 := ⟨_, rfl⟩
        have HI1 : Hid (It W1 w.heap.size s (p + k)) := by show It _ _ _ _; rw [← hW1]; exact HI.out.moved _
        have HO1 : Hid (W1.ownsRow w.heap.size 106 2 u2 l.length (cellsT l)) := by show World.ownsRow _ _ _ _ _ _ _; rw [← hW1]; exact own_moved HO.out HI.out _
        have HB1 : Hid (Below w.heap.size w W1) := by show Below _ _ _; rw [← hW1]; exact Below.moved HB.out (Nat.le_refl _) _ _
        rw [hW1] at hnx
        clear hrk HF hW1 HO HI HB
        cases hl : letR r with
        | true =>
          have HL : Hid (letR r = true) := hl
          have HGD : Hid (letR r = true ∨ digR r = true ∨ r = 45 ∨ r = 61 ∨ r = 32 ∨ r = 9) := Or.inl hl
          have hr3 : ¬ r = 32 ∧ ¬ r = 9 ∧ ¬ r = 61 := by
            refine ⟨?_, ?_, ?_⟩ <;> (rintro rfl; simp [letR] at hl)
          obtain ⟨hr4, hr5, hr6⟩ := hr3
          clear hl
          have HX1 : Hid (WordI s (p + k) a l) := HX.out.rune hlt HRK.out (by omega) (by omega) (by omega)
          have HN : Hid (badN s g (p + k) = bq) := by have h := HF2.out; rw [if_neg (by rw [badR_not HGD.out]; decide)] at h; exact h
          clear HF2
          go_wp2_with (first
            | (go_at_call 73; refine (letter_to r _ true HL.out).mono ?_; rintro e w3 ⟨rfl, rfl⟩))
          go_roundw
          case rel => exact ⟨p + k, a, g, l, by omega, rfl, HX1.out, ⟨HG.out, HN.out⟩, HO1.out, HI1.out, HB1.out⟩
          case measure => rw [HI1.out.pos, HP.out]; omega
        | false =>
          have HL : Hid (letR r = false) := hl
          cases hd : digR r with
          | true =>
            have HDG : Hid (digR r = true) := hd
            have HGD : Hid (letR r = true ∨ digR r = true ∨ r = 45 ∨ r = 61 ∨ r = 32 ∨ r = 9) := Or.inr (Or.inl hd)
            have hr3 : ¬ r = 32 ∧ ¬ r = 9 ∧ ¬ r = 61 := by
              refine ⟨?_, ?_, ?_⟩ <;> (rintro rfl; simp [digR] at hd)
            obtain ⟨hr4, hr5, hr6⟩ := hr3
            clear hl hd
            have HX1 : Hid (WordI s (p + k) a l) := HX.out.rune hlt HRK.out (by omega) (by omega) (by omega)
            have HN : Hid (badN s g (p + k) = bq) := by have h := HF2.out; rw [if_neg (by rw [badR_not HGD.out]; decide)] at h; exact h
            clear HF2
            go_wp2_with (first
              | (go_at_call 73; refine (letter_to r _ false HL.out).mono ?_; rintro e w3 ⟨rfl, rfl⟩)
              | (go_at_call 74; refine (digit_to r _ true HDG.out).mono ?_; rintro e w3 ⟨rfl, rfl⟩))
            go_roundw
            case rel => exact ⟨p + k, a, g, l, by omega, rfl, HX1.out, ⟨HG.out, HN.out⟩, HO1.out, HI1.out, HB1.out⟩
            case measure => rw [HI1.out.pos, HP.out]; omega
          | false =>
            have HDG : Hid (digR r = false) := hd
            clear hl hd
            by_cases h45 : r = 45
            · have HGD : Hid (letR r = true ∨ digR r = true ∨ r = 45 ∨ r = 61 ∨ r = 32 ∨ r = 9) := Or.inr (Or.inr (Or.inl h45))
              have n45 : ((r : Int) == 45) = true := by rw [beq_iff_eq]; omega
              have hr4 : ¬ r = 32 := by omega
              have hr5 : ¬ r = 9 := by omega
              have hr6 : ¬ r = 61 := by omega
              clear h45
              have HX1 : Hid (WordI s (p + k) a l) := HX.out.rune hlt HRK.out (by omega) (by omega) (by omega)
              have HN : Hid (badN s g (p + k) = bq) := by have h := HF2.out; rw [if_neg (by rw [badR_not HGD.out]; decide)] at h; exact h
              clear HF2
              go_wp2_with (first
                | (go_at_call 73; refine (letter_to r _ false HL.out).mono ?_; rintro e w3 ⟨rfl, rfl⟩)
                | (go_at_call 74; refine (digit_to r _ false HDG.out).mono ?_; rintro e w3 ⟨rfl, rfl⟩))
              go_roundw
              case rel => exact ⟨p + k, a, g, l, by omega, rfl, HX1.out, ⟨HG.out, HN.out⟩, HO1.out, HI1.out, HB1.out⟩
              case measure => rw [HI1.out.pos, HP.out]; omega
            · have n45 : ((r : Int) == 45) = false := by rw [beq_eq_false_iff_ne]; omega
              by_cases h61 : r = 61
              · have HGD : Hid (letR r = true ∨ digR r = true ∨ r = 45 ∨ r = 61 ∨ r = 32 ∨ r = 9) := Or.inr (Or.inr (Or.inr (Or.inl h61)))
                have n61 : ((r : Int) != 61) = false := by rw [bne_eq_false_iff_eq]; omega
                have m61 : ((r : Int) == 61) = true := by rw [beq_iff_eq]; omega
                have hXX := HX.out.eq hlt HRK.out h61
                obtain ⟨hk3, hX3⟩ := hXX
                subst hk3
                have HX3 : Hid (WordI s (p + 1) (p + 1) (putL (putL l s a p) s p (p + 1))) := hX3
                have HN : Hid (badN s g (p + 1) = bq) := by have h := HF2.out; rw [if_neg (by rw [badR_not HGD.out]; decide)] at h; exact h
                have HL2 : Hid ((putL l s a p).length ≤ 2 * s.size + 1) := by have := HLL.out; have := putL_len l s a p; show _ ≤ _; omega
                clear HF2 hX3 h61
                go_wp2_with (first
                  | (go_at_call 73; refine (letter_to r _ false HL.out).mono ?_; rintro e w3 ⟨rfl, rfl⟩)
                  | (go_at_call 74; refine (digit_to r _ false HDG.out).mono ?_; rintro e w3 ⟨rfl, rfl⟩)
                  | (go_at_call 75; refine (put_to w.heap.size v4 s (putL l s a p) p (p + 1) _ HO4.out HB4.out.size (by have := HL2.out; omega) HS.out (by omega) (by omega)).mono ?_; rintro e w5 ⟨v5, rfl, ho5, hg5⟩; have HO5 : Hid (w5.ownsRow w.heap.size 106 2 v5 (putL (putL l s a p) s p (p + 1)).length (cellsT (putL (putL l s a p) s p (p + 1)))) := ho5; have HI5 : Hid (It w5 w.heap.size s (p + 1)) := HI4.out.grown HO4.out hg5; have HB5 : Hid (Below w.heap.size w w5) := HB4.out.grown hg5 HB4.out.size (fun q hq => (HO4.out.lt q hq).1); clear ho5 hg5)
                  | (go_at_call 75; refine (put_to w.heap.size u2 s l a p _ HO1.out HB1.out.size (by have := HLL.out; omega) HS.out (by omega) (by omega)).mono ?_; rintro e w4 ⟨v4, rfl, ho4, hg4⟩; have HO4 : Hid (w4.ownsRow w.heap.size 106 2 v4 (putL l s a p).length (cellsT (putL l s a p))) := ho4; have HI4 : Hid (It w4 w.heap.size s (p + 1)) := HI1.out.grown HO1.out hg4; have HB4 : Hid (Below w.heap.size w w4) := HB1.out.grown hg4 HB1.out.size (fun q hq => (HO1.out.lt q hq).1); clear ho4 hg4))
                go_roundw
                case rel => exact ⟨p + 1, p + 1, g, _, by omega, by go_num, HX3.out, ⟨HG.out, HN.out⟩, HO5.out, HI5.out, HB5.out⟩
                case measure => rw [HI5.out.pos, HP.out]; omega
              · have n61 : ((r : Int) != 61) = true := by rw [bne_iff_ne]; omega
                have m61 : ((r : Int) == 61) = false := by rw [beq_eq_false_iff_ne]; omega
                by_cases h329 : r = 32 ∨ r = 9
                · have HGD : Hid (letR r = true ∨ digR r = true ∨ r = 45 ∨ r = 61 ∨ r = 32 ∨ r = 9) := Or.inr (Or.inr (Or.inr (Or.inr h329)))
                  have hXX := HX.out.gap hlt HRK.out h329
                  obtain ⟨hk3, hX3⟩ := hXX
                  subst hk3
                  have HX3 : Hid (WordI s (p + 1) (p + 1) (putL l s a p)) := hX3
                  have HN : Hid (badN s g (p + 1) = bq) := by have h := HF2.out; rw [if_neg (by rw [badR_not HGD.out]; decide)] at h; exact h
                  clear HF2 hX3
                  by_cases h32 : r = 32
                  · have n32 : ((r : Int) != 32) = false := by rw [bne_eq_false_iff_eq]; omega
                    clear h32 h329
                    go_wp2_with (first
                      | (go_at_call 73; refine (letter_to r _ false HL.out).mono ?_; rintro e w3 ⟨rfl, rfl⟩)
                      | (go_at_call 74; refine (digit_to r _ false HDG.out).mono ?_; rintro e w3 ⟨rfl, rfl⟩)
                      | (go_at_call 75; refine (put_to w.heap.size u2 s l a p _ HO1.out HB1.out.size (by have := HLL.out; omega) HS.out (by omega) (by omega)).mono ?_; rintro e w4 ⟨v4, rfl, ho4, hg4⟩; have HO4 : Hid (w4.ownsRow w.heap.size 106 2 v4 (putL l s a p).length (cellsT (putL l s a p))) := ho4; have HI4 : Hid (It w4 w.heap.size s (p + 1)) := HI1.out.grown HO1.out hg4; have HB4 : Hid (Below w.heap.size w w4) := HB1.out.grown hg4 HB1.out.size (fun q hq => (HO1.out.lt q hq).1); clear ho4 hg4))
                    go_roundw
                    case rel => exact ⟨p + 1, p + 1, g, _, by omega, by go_num, HX3.out, ⟨HG.out, HN.out⟩, HO4.out, HI4.out, HB4.out⟩
                    case measure => rw [HI4.out.pos, HP.out]; omega
                  · have n32 : ((r : Int) != 32) = true := by rw [bne_iff_ne]; omega
                    have n9 : ((r : Int) != 9) = false := by rw [bne_eq_false_iff_eq]; omega
                    clear h32 h329
                    go_wp2_with (first
                      | (go_at_call 73; refine (letter_to r _ false HL.out).mono ?_; rintro e w3 ⟨rfl, rfl⟩)
                      | (go_at_call 74; refine (digit_to r _ false HDG.out).mono ?_; rintro e w3 ⟨rfl, rfl⟩)
                      | (go_at_call 75; refine (put_to w.heap.size u2 s l a p _ HO1.out HB1.out.size (by have := HLL.out; omega) HS.out (by omega) (by omega)).mono ?_; rintro e w4 ⟨v4, rfl, ho4, hg4⟩; have HO4 : Hid (w4.ownsRow w.heap.size 106 2 v4 (putL l s a p).length (cellsT (putL l s a p))) := ho4; have HI4 : Hid (It w4 w.heap.size s (p + 1)) := HI1.out.grown HO1.out hg4; have HB4 : Hid (Below w.heap.size w w4) := HB1.out.grown hg4 HB1.out.size (fun q hq => (HO1.out.lt q hq).1); clear ho4 hg4))
                    go_roundw
                    case rel => exact ⟨p + 1, p + 1, g, _, by omega, by go_num, HX3.out, ⟨HG.out, HN.out⟩, HO4.out, HI4.out, HB4.out⟩
                    case measure => rw [HI4.out.pos, HP.out]; omega
                · have n32 : ((r : Int) != 32) = true := by rw [bne_iff_ne]; omega
                  have n9 : ((r : Int) != 9) = true := by rw [bne_iff_ne]; omega
                  have HBQ : Hid (bq = some p) := by have h := HF2.out; rw [if_pos (badR_yes HL.out HDG.out h45 h61 (by omega) (by omega))] at h; exact h.symm
                  clear HF2 h45 h61 h329
                  go_wp2_with (first
                    | (go_at_call 73; refine (letter_to r _ false HL.out).mono ?_; rintro e w3 ⟨rfl, rfl⟩)
                    | (go_at_call 74; refine (digit_to r _ false HDG.out).mono ?_; rintro e w3 ⟨rfl, rfl⟩))
                  go_step3
                  exact ⟨rfl, _, _, _, _, _, _, _, _, _, _, _, _, _, _, _, _, _, _, _, _, _, _, _, _, _, _, _, _, _, _, _, _, _, _, _, _, _, _, _, _, _, _, _, _, _, _, _, _, _, _, _, _, _, _, _, _, ⟨HB1.out, p, HBQ.out, rfl⟩, rfl⟩
      · obtain rfl : p = s.size := by omega
        have HBQ : Hid (bq = none) := by
          obtain ⟨g, hg⟩ : ∃ g, f = g + 1 := ⟨f - 1, by have := HF.out.1; omega⟩
          have h := HF.out.2
          rw [hg, badN, if_neg hlt] at h
          exact h.symm
        have hnx := fun ty => It.done_2 HI.out hlt ty
        have HTW : Hid (putL l s a s.size = toksW s) := HX.out.last
        clear HF hlt
        go_wp2_with (first
          | (go_at_call 75; refine (put_to w.heap.size u2 s l a s.size _ HO.out HB.out.size (by have := HLL.out; omega) HS.out (by omega) (by omega)).mono ?_; rintro e w4 ⟨v4, rfl, ho4, hg4⟩; have HO4 : Hid (w4.ownsRow w.heap.size 106 2 v4 (putL l s a s.size).length (cellsT (putL l s a s.size))) := ho4; have HI4 : Hid (It w4 w.heap.size s s.size) := HI.out.grown HO.out hg4; have HB4 : Hid (Below w.heap.size w w4) := HB.out.grown hg4 HB.out.size (fun q hq => (HO.out.lt q hq).1); clear ho4 hg4))
        rw [jump_ret]
        go_ret3
        exact ⟨⟨_, by rw [HBQ.out]; rfl, by rw [HBQ.out]; show HoldsC _ _ (toksW s).length (cellsT (toksW s)); rw [← HTW.out]; exact HoldsC.own HO4.out⟩, HB4.out⟩
  · rintro a w' ⟨u0, u1, u2, u3, u4, u5, u6, u7, u8, u9, u10, u11, u12, u13, u14, u15, u16, u17, u18, u19, u20, u21, u22, u23, u24, u25, u26, u27, u28, u29, u30, u31, u32, u33, u34, u35, u36, u37, u38, u39, u40, u41, u42, u43, u44, u45, u46, u47, u48, u49, u50, u51, u52, u53, u54, u55, ⟨hbj, q, hq, rfl⟩, rfl⟩
    have HBJ : Hid (Below w.heap.size w w') := hbj
    clear hbj
    subst hq
    go_wp2
    rw [jump_ret]
    go_ret3
    exact ⟨⟨_, rfl, HoldsC.nil _⟩, HBJ.out⟩
theorem index_one (c : UInt8) : ∀ l : List UInt8, (Lib.index l [c] = -1 ∧ ∀ j (h : j < l.length), l[j] ≠ c) ∨ (∃ i : Nat, Lib.index l [c] = (i : Int) ∧ ∃ h : i < l.length, l[i] = c ∧ ∀ j (hj : j < i), l[j]'(by omega) ≠ c)
  | [] => Or.inl ⟨rfl, fun j h => by simp at h⟩
  | b :: l => by
    by_cases hb : b = c
    · refine Or.inr ⟨0, ?_, by simp, by simpa using hb, fun j hj => by omega⟩
      rw [Lib.index, if_pos (by simp [hb])]
      rfl
    · have hp : ¬ ([c].isPrefixOf (b :: l) = true) := by
        have : ¬ c = b := fun e => hb e.symm
        simp [this]
      rcases index_one c l with ⟨h1, h2⟩ | ⟨i, h1, h2, h3, h4⟩
      · refine Or.inl ⟨?_, fun j h => ?_⟩
        · rw [Lib.index, if_neg hp, if_pos (by rw [h1]; rfl), ]
        · cases j with
          | zero => exact hb
          | succ j => exact h2 j (by simpa using h)
      · refine Or.inr ⟨i + 1, ?_, by simpa using h2, by simpa using h3, fun j hj => ?_⟩
        · rw [Lib.index, if_neg hp, if_neg (by rw [h1, beq_iff_eq]; omega), h1]
          rfl
        · cases j with
          | zero => exact hb
          | succ j => exact h4 j (by omega)
theorem cut_hash (x : ByteArray) : (⟨(Lib.cut x.data.toList [35]).1.toArray⟩ : ByteArray) = cutH x := by
  have e : (Lib.cut x.data.toList [35]).1 = x.data.toList.take (cutN x) := by
    rcases index_one 35 x.data.toList with ⟨h1, h2⟩ | ⟨i, h1, h2, h3, h4⟩
    · rw [Lib.cut, if_neg (by rw [h1]; decide)]
      have : cutN x = x.data.toList.length := by
        have key : ∀ m, m ≤ x.data.toList.length → m ≤ cutN x := by
          intro m
          induction m with
          | zero => intro _; omega
          | succ m ih =>
            intro hm
            exact tw_yes _ _ m (by omega) (ih (by omega)) (by
              have := h2 m (by omega)
              rw [decide_eq_true_eq]
              intro e
              exact this (UInt8.toNat_inj.1 e))
        have h5 := key _ (Nat.le_refl _)
        have h6 := cutN_le x
        rw [len_list] at h5 ⊢
        omega
      rw [this, List.take_length]
    · rw [Lib.cut, if_pos (by rw [h1]; omega), h1]
      have : cutN x = i := by
        have key : ∀ m, m ≤ i → m ≤ cutN x := by
          intro m
          induction m with
          | zero => intro _; omega
          | succ m ih =>
            intro hm
            exact tw_yes _ _ m (by omega) (ih (by omega)) (by
              have := h4 m (by omega)
              rw [decide_eq_true_eq]
              intro e
              exact this (UInt8.toNat_inj.1 e))
        exact tw_no _ _ i h2 (key i (Nat.le_refl _)) (by rw [h3]; decide)
      rw [this]
      rfl
  apply ByteArray.ext
  apply Array.toList_inj.1
  rw [cutH, Lib.extract_from_zero]
  exact e
/-- A list without its last element, if that is empty. -/
def finL : List ByteArray → List ByteArray
  | [] => []
  | [x] => if x.size = 0 then [] else [x]
  | x :: y :: r => x :: finL (y :: r)
theorem finL_cons (x : ByteArray) (l : List ByteArray) (h : l ≠ []) : finL (x :: l) = x :: finL l := by
  cases l with
  | nil => exact absurd rfl h
  | cons y r => rfl
theorem finL_snoc (x : ByteArray) : ∀ l : List ByteArray, finL (l ++ [x]) = if x.size = 0 then l else l ++ [x]
  | [] => rfl
  | a :: l => by
    rw [List.cons_append, finL_cons _ _ (by simp), finL_snoc x l]
    split <;> rfl
def nl : ByteArray := ⟨#[10]⟩
theorem linSt_run (s : ByteArray) (a : Nat) (acc : List ByteArray) : ∀ d : Nat, a + d ≤ s.size → (∀ j, j < d → byteE s (a + j) ≠ 10) → linSt s a = (a, acc) → linSt s (a + d) = (a, acc)
  | 0, _, _, h => h
  | d + 1, hd, hn, h => by
    have ih := linSt_run s a acc d (by omega) (fun j hj => hn j (by omega)) h
    rw [← Nat.add_assoc, linSt, ih, linStep, if_pos ⟨by omega, hn d (by omega)⟩]
theorem rest_byte (s : ByteArray) (a j : Nat) (h : a + j < s.size) (h2 : j < (s.extract a s.size).data.toList.length) : ((s.extract a s.size).data.toList[j]).toNat = byteE s (a + j) := by
  have h3 : j < (s.extract a s.size).size := by rw [rest_size]; omega
  rw [get_list _ j h3, byteE_lt h]
  rw [ByteArray.getElem_extract]
theorem no_nl {s : ByteArray} {a : Nat} (h : ∀ j (h : j < (s.extract a s.size).data.toList.length), (s.extract a s.size).data.toList[j] ≠ 10) (j : Nat) (hj : a + j < s.size) : byteE s (a + j) ≠ 10 := by
  have hl : j < (s.extract a s.size).data.toList.length := by rw [len_list, rest_size]; omega
  rw [← rest_byte s a j hj hl]
  intro e
  exact h j hl (UInt8.toNat_inj.1 e)
theorem lines_from (s : ByteArray) : ∀ (k a : Nat) (acc : List ByteArray), a ≤ s.size → Lib.countB (s.extract a s.size) nl = k → linSt s a = (a, acc) →
    (linSt s (s.size + 1)).2 = acc ++ finL ((Lib.splitB nl 0 k (s.extract a s.size)).map cutH) := by
  intro k
  induction k with
  | zero =>
    intro a acc ha hc hl
    rcases index_one 10 (s.extract a s.size).data.toList with ⟨h1, h2⟩ | ⟨i, h1, h2, h3, h4⟩
    · have hr := linSt_run s a acc (s.size - a) (by omega) (fun j hj => no_nl h2 j (by omega)) hl
      rw [show a + (s.size - a) = s.size by omega] at hr
      rw [linSt, hr, linStep, if_neg (by omega), Lib.splitB_zero]
      show (if s.size = s.size ∧ (cutH (s.extract a s.size)).size = 0 then (a, acc) else _).2 = acc ++ (if (cutH (s.extract a s.size)).size = 0 then [] else [cutH (s.extract a s.size)])
      by_cases hz : (cutH (s.extract a s.size)).size = 0
      · rw [if_pos ⟨rfl, hz⟩, if_pos hz, List.append_nil]
      · rw [if_neg (fun h => hz h.2), if_neg hz]
    · have := Lib.countB_hit (s.extract a s.size) nl i (by decide) h1
      omega
  | succ k ih =>
    intro a acc ha hc hl
    rcases index_one 10 (s.extract a s.size).data.toList with ⟨h1, h2⟩ | ⟨i, h1, h2, h3, h4⟩
    · have := Lib.countB_miss (s.extract a s.size) nl h1
      omega
    · have hi : a + i < s.size := by rw [len_list, rest_size] at h2; omega
      have hb : byteE s (a + i) = 10 := by
        rw [← rest_byte s a i hi h2, h3]
        rfl
      have hr := linSt_run s a acc i (by omega) (fun j hj => by
        have hl2 : j < (s.extract a s.size).data.toList.length := by omega
        rw [← rest_byte s a j (by omega) hl2]
        intro e
        exact h4 j hj (UInt8.toNat_inj.1 e)) hl
      have hn : linSt s (a + i + 1) = (a + i + 1, acc ++ [cutH (s.extract a (a + i))]) := by
        rw [linSt, hr, linStep, if_neg (fun h => h.2 hb), if_neg (fun h => by have := h.1; omega)]
      have hx := Lib.countB_hit (s.extract a s.size) nl i (by decide) h1
      have hs := Lib.splitB_hit nl 0 k (s.extract a s.size) i h1
      have e1 : (s.extract a s.size).extract (i + nl.size) (s.extract a s.size).size = s.extract (a + i + 1) s.size := by
        rw [rest_rest]
        rfl
      have e2 : (s.extract a s.size).extract 0 (i + 0) = s.extract a (a + i) := by
        apply ByteArray.ext
        simp only [ByteArray.data_extract, Array.extract_extract]
        congr 1
        all_goals (have : s.data.size = s.size := rfl; omega)
      rw [e1] at hx hs
      rw [e2] at hs
      have := ih (a + i + 1) (acc ++ [cutH (s.extract a (a + i))]) (by omega) (by omega) hn
      rw [this, hs, List.map_cons, finL_cons, List.append_assoc]
      · rfl
      · intro e
        have h5 := congrArg List.length e
        have h6 := Lib.splitB_all nl (by decide) 0 k (s.extract (a + i + 1) s.size) (by omega)
        rw [List.length_map, h6] at h5
        simp at h5
/-- The lines, by the library's split. -/
theorem linesL_split (s : ByteArray) : linesL s = finL ((Lib.splitB nl 0 (Lib.countB s nl) s).map cutH) := by
  have h := lines_from s (Lib.countB s nl) 0 [] (Nat.zero_le _) (by rw [rest_all]) rfl
  rw [rest_all] at h
  rw [linesL, h, List.nil_append]
theorem drewNW {w w' : World} {B : Nat} (h : Below B w w') (n : Nat) : Below B w (w'.drewN n) :=
  h.trans ⟨rfl, rfl, rfl, Nat.le_refl _, fun _ _ => rfl⟩
/-- A row of texts in a block of its own. -/
def sa (l : List ByteArray) : Array Value := (l.map Value.string).toArray
def RowS (w : World) (g : Nat) (l : List ByteArray) : Prop := w.heap[g]? = some (.cells (sa l) 9 (0, 0))
theorem sa_get (l : List ByteArray) (j : Nat) (h : j < l.length) : (sa l)[j]? = some (.string l[j]) := by simp [sa, h]
theorem RowS.cell {w : World} {g : Nat} {l : List ByteArray} (h : RowS w g l) (j : Nat) (hj : j < l.length) : w.cell? ⟨g, j, none⟩ = some (.string l[j]) := by
  rw [cell_of_row w g j (sa l) 9 (0, 0) h, sa_get l j hj]
theorem RowS.frozen {w : World} {g : Nat} {l : List ByteArray} (h : RowS w g l) (j : Nat) : w.frozen? ⟨g, j, none⟩ = false := frozen_of_row w g j (sa l) 9 h
theorem RowS.lt {w : World} {g : Nat} {l : List ByteArray} (h : RowS w g l) : g < w.heap.size := (Array.getElem?_eq_some_iff.1 h).1
theorem RowS.set {w : World} {g : Nat} {l : List ByteArray} (h : RowS w g l) (j : Nat) (y : ByteArray) : RowS (w.setCell ⟨g, j, none⟩ (.string y)) g (l.set j y) := by
  have := heap_setCell_same w g j (sa l) 9 (.string y) h
  show _ = _
  rw [this]
  simp [sa]
theorem RowS.later {w w' : World} {g : Nat} {l : List ByteArray} (h : RowS w g l) (hb : Below w.heap.size w w') : RowS w' g l := (hb.block g h.lt).trans h
theorem RowS.new (w : World) (l : List ByteArray) : RowS (w.alloc (.cells (sa l) 9)) w.heap.size l := heap_alloc_new w _
/-- The lines, the first k of them cut. -/
def mixL (P : List ByteArray) (k : Nat) : List ByteArray := (P.take k).map cutH ++ P.drop k
theorem mixL_len (P : List ByteArray) (k : Nat) : (mixL P k).length = P.length := by simp [mixL]; omega
theorem mixL_at (P : List ByteArray) (k : Nat) (h : k < P.length) (h2 : k < (mixL P k).length) : (mixL P k)[k] = P[k] := by
  simp only [mixL]
  rw [List.getElem_append_right (by simp; omega)]
  simp
  congr 1
  omega
theorem mixL_set (P : List ByteArray) (k : Nat) (h : k < P.length) : (mixL P k).set k (cutH P[k]) = mixL P (k + 1) := by
  have hl : ((P.take k).map cutH).length = k := by simp; omega
  rw [mixL, mixL, List.set_append_right _ _ (by omega), hl, Nat.sub_self, List.drop_eq_getElem_cons h, List.take_succ_eq_append_getElem h, List.set_cons_zero, List.map_append, List.append_assoc]
  rfl
theorem mixL_all (P : List ByteArray) : mixL P P.length = P.map cutH := by simp [mixL]
theorem mixL_zero (P : List ByteArray) : mixL P 0 = P := by simp [mixL]
theorem split_each (sep : ByteArray) : ∀ (k : Nat) (s : ByteArray), ∀ x ∈ Lib.splitB sep 0 k s, x.size ≤ s.size
  | 0, s, x, hx => by
    rw [Lib.splitB_zero] at hx
    simp at hx
    rw [hx]
    exact Nat.le_refl _
  | k + 1, s, x, hx => by
    rcases Lib.indexB_cases s sep with h | ⟨i, h, _⟩
    · rw [Lib.splitB_miss sep 0 (k + 1) s h] at hx
      simp at hx
      rw [hx]
      exact Nat.le_refl _
    · rw [Lib.splitB_hit sep 0 k s i h] at hx
      rcases List.mem_cons.1 hx with rfl | hx
      · rw [ByteArray.size_extract]; omega
      · have := split_each sep k _ x hx
        rw [ByteArray.size_extract] at this
        omega
theorem Holds.row {w : World} {g : Nat} {l : List ByteArray} (h : RowS w g l) (n c : Nat) (m : List ByteArray) (hn : m.length = n) (hm : ∀ j (h1 : j < m.length), ∃ h2 : j < l.length, l[j] = m[j]) : Holds w (.slice (some ⟨g, 0, none⟩) n c) m.length (cellsS m) := by
  refine ⟨_, c, by rw [hn], fun j u hu => ⟨g, 0, rfl, ?_⟩⟩
  rw [Nat.zero_add]
  have hj : j < m.length := by
    have := (List.getElem?_eq_some_iff.1 hu).1
    rw [cellsS_len] at this
    exact this
  rw [cellsS_at m j hj] at hu
  obtain ⟨h2, e⟩ := hm j hj
  rw [h.cell j h2, e]
  exact hu
set_option maxHeartbeats 8000000 in
theorem lines_long (s : ByteArray) (w : World) (h : 3000 < s.size) :
    Calls Tryz.prog 26 #[.string s] w fun e w' => e = .returned (.tuple #[.slice none 0 0, .int .i64 2]) ∧ w = w' := by
  have g1 : (3000 : Int) < ((s.size : Nat) : Int) := by omega
  go_enter Tryz.func26, Tryz.ntmps26
  go_wp2
  go_ret2
  exact ⟨rfl, rfl⟩
theorem split_to (s : ByteArray) (m : Int) (w : World) (hs : s.size ≤ 3000) (hm : w.cell? ⟨2, 0, none⟩ = some (.int .i64 m)) (P : List ByteArray) (hP : Lib.splitB nl 0 (Lib.countB s nl) s = P) :
    Calls Tryz.prog 47 #[.string s, .string ⟨#[10]⟩] w fun e w' => e = .returned (.slice (some ⟨w.heap.size, 0, none⟩) P.length P.length) ∧ w' = w.alloc (.cells (P.map Value.string).toArray 9) := by
  have h := Tryz.strings_Split s nl m w (by omega) hm (by decide)
  have hl := Lib.splitB_all nl (by decide) 0 (Lib.countB s nl) s rfl
  rw [hP] at h hl
  rw [← hl] at h
  exact h
theorem cut_to (x : ByteArray) (m : Int) (w : World) (hs : x.size ≤ 3000) (hm : w.cell? ⟨2, 0, none⟩ = some (.int .i64 m)) (y : ByteArray) (hy : cutH x = y) :
    Calls Tryz.prog 48 #[.string x, .string ⟨#[35]⟩] w fun e w' => (∃ u b, e = .returned (.tuple #[.string y, .string u, .bool b])) ∧ ∃ n, w' = w.drewN n := by
  refine (Tryz.strings_Cut x ⟨#[35]⟩ m w (by omega) hm).mono ?_
  rintro e w2 ⟨rfl, hn⟩
  exact ⟨⟨_, _, by rw [← hy, ← cut_hash]⟩, hn⟩
set_option maxHeartbeats 8000000 in
theorem lines_ok (s : ByteArray) (m : Int) (w : World) (h : s.size ≤ 3000) (hm : w.cell? ⟨2, 0, none⟩ = some (.int .i64 m)) :
    Calls Tryz.prog 26 #[.string s] w fun e w' => ∃ v, e = .returned (.tuple #[v, .int .i64 0]) ∧ Holds w' v (linesL s).length (cellsS (linesL s)) ∧ Below w.heap.size w w' := by
  have g1 : ¬ (3000 : Int) < ((s.size : Nat) : Int) := by omega
  obtain ⟨P, hP⟩ : ∃ P, Lib.splitB nl 0 (Lib.countB s nl) s = P := ⟨_, rfl⟩
  have HSP : Hid (∀ w : World, w.cell? ⟨2, 0, none⟩ = some (.int .i64 m) → Calls Tryz.prog 47 #[.string s, .string ⟨#[10]⟩] w fun e w' => e = .returned (.slice (some ⟨w.heap.size, 0, none⟩) P.length P.length) ∧ w' = w.alloc (.cells (P.map Value.string).toArray 9)) := fun w hm => split_to s m w h hm P hP
  have HL : Hid (linesL s = finL (P.map cutH)) := by show _ = _; rw [← hP]; exact linesL_split s
  have HM : Hid (w.cell? ⟨2, 0, none⟩ = some (.int .i64 m)) := hm
  have HPS : Hid (∀ x ∈ P, x.size ≤ 3000) := fun x hx => by
    rw [← hP] at hx
    have := split_each nl _ s x hx
    omega
  have hlen : P.length = Lib.countB s nl + 1 := by rw [← hP]; exact Lib.splitB_all nl (by decide) 0 _ s rfl
  have hcb := Lib.countB_le nl (by decide) s.size s (Nat.le_refl _)
  have hpl : 1 ≤ P.length ∧ P.length ≤ 3001 := by omega
  obtain ⟨hp1, hp2⟩ := hpl
  clear hP hm hlen hcb
  go_enter Tryz.func26, Tryz.ntmps26
  go_wp2_with (go_at_call 47; refine (HSP.out _ HM.out).mono ?_; rintro e w1 ⟨rfl, rfl⟩)
  obtain ⟨g, hg⟩ : ∃ g, w.heap.size = g := ⟨_, rfl⟩
  have HG : Hid (w.heap.size = g) := hg
  rw [hg]
  go_loopw [18] (fun i w' => ∃ (k : Nat), k ≤ P.length ∧ i = .int .i64 k ∧ Hid (RowS w' g (mixL P k)) ∧ Hid (Below w.heap.size w w')) (fun i _ => P.length - (intOf i).toNat)
  case atStart => exact ⟨0, Nat.zero_le _, rfl, by show RowS _ _ _; rw [mixL_zero, ← hg]; exact RowS.new w P, (Below.refl _ _).alloc (Nat.le_refl _) _⟩
  case round =>
    obtain ⟨k, hk, rfl, HR, HB⟩ := hrel
    have hml := mixL_len P k
    by_cases hlt : k < P.length
    · have hc := HR.out.cell k (by omega)
      rw [mixL_at P k hlt] at hc
      have hfz := HR.out.frozen k
      obtain ⟨x, hx⟩ : ∃ x, P[k] = x := ⟨_, rfl⟩
      have hxs := HPS.out x (by rw [← hx]; exact List.getElem_mem _)
      obtain ⟨y, hy⟩ : ∃ y, cutH x = y := ⟨_, rfl⟩
      have hys : y.size ≤ 3000 := by have h1 := cutN_le x; rw [← hy, cutH_size]; omega
      have HY : Hid (cutH P[k] = y) := by show _ = _; rw [hx, hy]
      have HCT : Hid (∀ w : World, w.cell? ⟨2, 0, none⟩ = some (.int .i64 m) → Calls Tryz.prog 48 #[.string x, .string ⟨#[35]⟩] w fun e w' => (∃ u b, e = .returned (.tuple #[.string y, .string u, .bool b])) ∧ ∃ n, w' = w.drewN n) := fun w hm => cut_to x m w hxs hm y hy
      have hmm := cell_later HB.out HM.out
      rw [hx] at hc
      clear hx hy
      go_wp2_with (first
        | (go_at_call 48; refine (HCT.out _ (cell_later HB.out HM.out)).mono ?_; rintro e w2 ⟨⟨u, b, rfl⟩, n, rfl⟩)
        | (go_at_call 49; refine (clone_to y _ (by omega)).mono ?_; rintro e w3 ⟨rfl, hb3⟩; have HR3 : Hid (RowS w3 g (mixL P k)) := RowS.later (w := wr.drewN n) HR.out hb3; have HB3 : Hid (Below w.heap.size w w3) := Below.after (drewNW HB.out n) hb3; have hc3 := HR3.out.cell k (by omega); have hf3 := HR3.out.frozen k; clear hb3))
      go_roundw
      case rel => exact ⟨k + 1, by omega, by go_num, by show RowS _ _ _; rw [← mixL_set P k hlt, HY.out]; exact HR3.out.set k y, HB3.out.setCell (by have := HG.out; simp; omega) _⟩
      case measure => simp [intOf]; omega
    · obtain rfl : k = P.length := by omega
      obtain ⟨q, hq⟩ : ∃ q, P.length = q + 1 := ⟨P.length - 1, by omega⟩
      obtain ⟨M, hM⟩ : ∃ M, P.map cutH = M := ⟨_, rfl⟩
      have HR2 : Hid (RowS wr g M) := by show RowS _ _ _; rw [← hM, ← mixL_all]; exact HR.out
      have hml2 : M.length = q + 1 := by rw [← hM, List.length_map, hq]
      have HLL : Hid (linesL s = finL M) := by show _ = _; rw [HL.out, hM]
      have hc := HR2.out.cell q (by omega)
      obtain ⟨z, hz⟩ : ∃ z, M[q]'(by omega) = z := ⟨_, rfl⟩
      have HF : Hid (M = M.take q ++ [z]) := by
        show _ = _
        rw [← hz, ← List.take_succ_eq_append_getElem (by omega), List.take_of_length_le (by omega)]
      have HF2 : Hid (finL M = if z.size = 0 then M.take q else M) := by
        have h := finL_snoc z (M.take q)
        rw [← HF.out] at h
        exact h
      have HML : Hid (M.length = q + 1) := hml2
      rw [hz] at hc
      have hq3 : q ≤ 3000 := by omega
      rw [hq]
      clear hz hM HR HL hml hml2 hlt hp1 hp2 hk hq HSP HPS
      by_cases hz0 : z.size = 0
      · have g7 : (z.toList == []) = true := by rw [Lib.toList_data, beq_iff_eq]; exact List.eq_nil_of_length_eq_zero (by rw [len_list]; exact hz0)
        have HE : Hid (linesL s = M.take q) := by show _ = _; rw [HLL.out, HF2.out, if_pos hz0]
        clear hz0
        go_wp2
        go_ret2
        exact ⟨_, rfl, by rw [HE.out]; exact Holds.row HR2.out q _ (M.take q) (by rw [List.length_take, HML.out]; omega) (fun j hj => ⟨by rw [List.length_take] at hj; omega, by rw [List.getElem_take]⟩), HB.out⟩
      · have g7 : (z.toList == []) = false := by rw [Lib.toList_data, beq_eq_false_iff_ne]; intro e; have := len_list z; rw [e] at this; simp at this; omega
        have HE : Hid (linesL s = M) := by show _ = _; rw [HLL.out, HF2.out, if_neg hz0]
        clear hz0
        go_wp2
        go_ret2
        exact ⟨_, rfl, by rw [HE.out]; exact Holds.row HR2.out (q + 1) _ M HML.out (fun j hj => ⟨hj, rfl⟩), HB.out⟩
theorem lines_to (s : ByteArray) (m : Int) (w : World) (hm : w.cell? ⟨2, 0, none⟩ = some (.int .i64 m)) :
    Calls Tryz.prog 26 #[.string s] w fun e w' => (∃ v, e = .returned (.tuple #[v, .int .i64 (if s.size ≤ 3000 then 0 else 2)]) ∧ Holds w' v (if s.size ≤ 3000 then linesL s else []).length (cellsS (if s.size ≤ 3000 then linesL s else []))) ∧ Below w.heap.size w w' := by
  by_cases h : s.size ≤ 3000
  · refine (lines_ok s m w h hm).mono ?_
    rintro e w2 ⟨v, rfl, hh, hb⟩
    exact ⟨⟨v, by rw [if_pos h], by rw [if_pos h]; exact hh⟩, hb⟩
  · refine (lines_long s w (by omega)).mono ?_
    rintro e w2 ⟨rfl, rfl⟩
    exact ⟨⟨_, by rw [if_neg h], by rw [if_neg h]; exact Holds.nil _⟩, Below.refl _ _⟩
end Go.Proofs.YtkojdigaoihkpaaGreatDoor

end
section
namespace Go.Proofs.YtkojdigaoihkpaaGreatDoor
set_option linter.unusedVariables false
set_option linter.unusedSimpArgs false
set_option maxRecDepth 100000
open Go.RowKit

/-- A byte of a word, if it is one of one byte. -/
def bytW (b : Nat) : Bool := (decide (97 ≤ b) && decide (b ≤ 122)) || (decide (48 ≤ b) && decide (b ≤ 57)) || decide (b = 45)
def greW (b c : Nat) : Bool := decide (128 ≤ b) && decide (b / 32 = 6) && decide (128 ≤ c) && decide (c / 64 = 2) && decide (945 ≤ b % 32 * 64 + c % 64) && decide (b % 32 * 64 + c % 64 ≤ 969)
def bytG (b : Nat) : Bool := decide (b = 61) || decide (b = 32) || decide (b = 9)
/-- Bytes of words, g: and of what stands between. -/
def okB (g : Bool) : List UInt8 → Bool
  | [] => true
  | [b] => bytW b.toNat || (g && bytG b.toNat)
  | b :: c :: r => if bytW b.toNat || (g && bytG b.toNat) then okB g (c :: r) else (greW b.toNat c.toNat && okB g r)
theorem okB_one (g : Bool) (b : UInt8) (r : List UInt8) (h : (bytW b.toNat || (g && bytG b.toNat)) = true) : okB g (b :: r) = okB g r := by
  cases r with
  | nil => exact h
  | cons c r => rw [okB, if_pos h]
theorem gre_not {b c : Nat} (h : greW b c = true) (g : Bool) : ¬ (bytW b || (g && bytG b)) = true := by
  simp only [greW, Bool.and_eq_true, decide_eq_true_eq] at h
  simp only [bytW, bytG, Bool.or_eq_true, Bool.and_eq_true, decide_eq_true_eq]
  omega
theorem okB_two (g : Bool) (b c : UInt8) (r : List UInt8) (h : greW b.toNat c.toNat = true) : okB g (b :: c :: r) = okB g r := by
  rw [okB, if_neg (gre_not h g), h, Bool.true_and]
theorem okB_append (g : Bool) (v : List UInt8) (hv : okB g v = true) : ∀ (n : Nat) (u : List UInt8), u.length ≤ n → okB g u = true → okB g (u ++ v) = true
  | _, [], _, _ => hv
  | 0, _ :: _, h, _ => by simp at h
  | n + 1, [b], _, hu => by
    rw [okB] at hu
    rw [List.cons_append, okB_one g b _ hu]
    exact hv
  | n + 1, b :: c :: r, hn, hu => by
    by_cases h : (bytW b.toNat || (g && bytG b.toNat)) = true
    · rw [okB_one g b _ h] at hu
      rw [List.cons_append, okB_one g b _ h]
      exact okB_append g v hv n (c :: r) (by simpa using hn) hu
    · rw [okB, if_neg h, Bool.and_eq_true] at hu
      rw [List.cons_append, List.cons_append, okB_two g b c _ hu.1]
      exact okB_append g v hv n r (by simp at hn; omega) hu.2
theorem okB_weak : ∀ (n : Nat) (u : List UInt8), u.length ≤ n → okB false u = true → okB true u = true
  | _, [], _, _ => rfl
  | 0, _ :: _, h, _ => by simp at h
  | n + 1, [b], _, hu => by
    rw [okB] at hu ⊢
    simp only [Bool.false_and, Bool.or_false] at hu
    rw [hu]; rfl
  | n + 1, b :: c :: r, hn, hu => by
    by_cases h : (bytW b.toNat || (false && bytG b.toNat)) = true
    · rw [okB_one false b _ h] at hu
      rw [okB_one true b _ (by simp only [Bool.false_and, Bool.or_false] at h; rw [h]; rfl)]
      exact okB_weak n (c :: r) (by simpa using hn) hu
    · rw [okB, if_neg h, Bool.and_eq_true] at hu
      rw [okB_two true b c _ hu.1]
      exact okB_weak n r (by simp at hn; omega) hu.2
/-- No byte of a word ends it. -/
theorem okB_bytes : ∀ (n : Nat) (u : List UInt8), u.length ≤ n → okB false u = true → ∀ j (h : j < u.length), ¬ (u[j]).toNat = 32 ∧ ¬ (u[j]).toNat = 9 ∧ ¬ (u[j]).toNat = 61
  | _, [], _, _, j, h => by simp at h
  | 0, _ :: _, h, _, _, _ => by simp at h
  | n + 1, [b], _, hu, j, h => by
    have : j = 0 := by simp at h; omega
    subst this
    rw [okB] at hu
    simp only [bytW, Bool.false_and, Bool.or_false, Bool.or_eq_true, Bool.and_eq_true, decide_eq_true_eq] at hu
    simp only [List.getElem_cons_zero]
    omega
  | n + 1, b :: c :: r, hn, hu, j, h => by
    by_cases hb : (bytW b.toNat || (false && bytG b.toNat)) = true
    · rw [okB_one false b _ hb] at hu
      cases j with
      | zero =>
        simp only [bytW, Bool.false_and, Bool.or_false, Bool.or_eq_true, Bool.and_eq_true, decide_eq_true_eq] at hb
        simp only [List.getElem_cons_zero]
        omega
      | succ j => exact okB_bytes n (c :: r) (by simpa using hn) hu j (by simpa using h)
    · rw [okB, if_neg hb, Bool.and_eq_true] at hu
      have hg := hu.1
      simp only [greW, Bool.and_eq_true, decide_eq_true_eq] at hg
      match j, h with
      | 0, _ => simp only [List.getElem_cons_zero]; omega
      | 1, _ => simp only [List.getElem_cons_succ, List.getElem_cons_zero]; omega
      | j + 2, h => exact okB_bytes n r (by simp at hn; omega) hu.2 j (by simpa using h)
/- Runes. -/
theorem dec_greek {s : ByteArray} {p : Nat} (h : p + 1 < s.size) (hg : greW (s[p]'(by omega)).toNat (s[p + 1]'h).toNat = true) :
    Utf8.decode s p = ((s[p]'(by omega)).toNat % 32 * 64 + (s[p + 1]'h).toNat % 64, 2) := by
  simp only [greW, Bool.and_eq_true, decide_eq_true_eq] at hg
  rw [Lib.decode_at, get_in s p (by omega), get_in s (p + 1) h, Lib.decodeN, if_neg (by omega), if_pos (by omega), if_pos (by omega)]
theorem bytW_rune {b : Nat} (h : bytW b = true) : b < 128 ∧ badR b 1 = false := by
  simp only [bytW, Bool.or_eq_true, Bool.and_eq_true, decide_eq_true_eq] at h
  refine ⟨by omega, badR_not ?_⟩
  simp only [letR, digR, Bool.or_eq_true, Bool.and_eq_true, decide_eq_true_eq]
  omega
theorem bytG_rune {b : Nat} (h : bytG b = true) : b < 128 ∧ badR b 1 = false := by
  simp only [bytG, Bool.or_eq_true, decide_eq_true_eq] at h
  refine ⟨by omega, badR_not ?_⟩
  omega
theorem one_rune {b : Nat} {g : Bool} (h : (bytW b || (g && bytG b)) = true) : b < 128 ∧ badR b 1 = false := by
  rw [Bool.or_eq_true] at h
  rcases h with h | h
  · exact bytW_rune h
  · rw [Bool.and_eq_true] at h; exact bytG_rune h.2
/-- A line of such bytes has no bad place. -/
theorem okB_fine (s : ByteArray) : ∀ (f p : Nat), p ≤ s.size → okB true (s.data.toList.drop p) = true → badN s f p = none
  | 0, _, _, _ => rfl
  | f + 1, p, hp, hk => by
    rw [badN]
    split
    · rename_i hlt
      have hl : p < s.data.toList.length := by rw [len_list]; exact hlt
      rw [List.drop_eq_getElem_cons hl] at hk
      have e0 : s.data.toList[p] = s[p] := get_list s p hlt hl
      by_cases hb : (bytW (s[p]'hlt).toNat || (true && bytG (s[p]'hlt).toNat)) = true
      · obtain ⟨h1, h2⟩ := one_rune hb
        rw [e0, okB_one true _ _ hb] at hk
        rw [decode_ascii s p hlt h1]
        simp only
        rw [if_neg (by rw [h2]; decide)]
        exact okB_fine s f (p + 1) (by omega) hk
      · by_cases hl2 : p + 1 < s.size
        · have hl3 : p + 1 < s.data.toList.length := by rw [len_list]; exact hl2
          have e1 : s.data.toList[p + 1] = s[p + 1] := get_list s (p + 1) hl2 hl3
          rw [List.drop_eq_getElem_cons hl3, e0, e1, okB, if_neg hb, Bool.and_eq_true] at hk
          rw [dec_greek hl2 hk.1]
          have hg := hk.1
          simp only [greW, Bool.and_eq_true, decide_eq_true_eq] at hg
          simp only
          rw [if_neg (by
            rw [badR_not (Or.inl (by simp only [letR, Bool.or_eq_true, Bool.and_eq_true, decide_eq_true_eq]; omega))]
            decide)]
          exact okB_fine s f (p + 2) (by omega) hk.2
        · rw [List.drop_of_length_le (by rw [len_list]; omega), e0, okB] at hk
          exact absurd hk hb
    · rfl
/-- The bytes of a good rune. -/
theorem rune_okB {s : ByteArray} {p r k : Nat} (hp : p < s.size) (hr : Utf8.decode s p = (r, k)) (h : letR r = true ∨ digR r = true ∨ r = 45) : okB false (s.extract p (p + k)).data.toList = true := by
  rw [Lib.extract_data]
  have hl : p < s.data.toList.length := by rw [len_list]; exact hp
  by_cases hlo : r < 128
  · obtain ⟨rfl, hb⟩ := dec_low hp hr hlo
    rw [List.drop_eq_getElem_cons hl, get_list s p hp hl, show p + 1 - p = 0 + 1 by omega, List.take_succ_cons, List.take_zero, okB, hb]
    simp only [Bool.false_and, Bool.or_false, bytW, Bool.or_eq_true, Bool.and_eq_true, decide_eq_true_eq]
    simp only [letR, digR, Bool.or_eq_true, Bool.and_eq_true, decide_eq_true_eq] at h
    omega
  · have hle : letR r = true := by
      rcases h with h | h | h
      · exact h
      · simp only [digR, Bool.and_eq_true, decide_eq_true_eq] at h; omega
      · omega
    simp only [letR, Bool.or_eq_true, Bool.and_eq_true, decide_eq_true_eq] at hle
    have h0 := dec_high hp hr (by omega)
    have hs := Lib.decodeN_shape (s.size - p) (s.get! p).toNat (s.get! (p + 1)).toNat (s.get! (p + 2)).toNat (s.get! (p + 3)).toNat
    rw [← Lib.decode_at, hr, get_in s p hp] at hs
    simp only [Prod.mk.injEq] at hs
    have hs2 : (s[p]'hp).toNat / 32 = 6 ∧ 1 < s.size - p ∧ (s.get! (p + 1)).toNat / 64 = 2 ∧ 128 ≤ (s[p]'hp).toNat % 32 * 64 + (s.get! (p + 1)).toNat % 64 ∧ r = (s[p]'hp).toNat % 32 * 64 + (s.get! (p + 1)).toNat % 64 ∧ k = 2 := by
      rcases hs with hs | hs | hs | hs | hs
      · omega
      · exact hs
      · omega
      · omega
      · omega
    obtain ⟨q1, q2, q3, q4, q5, rfl⟩ := hs2
    have hp1 : p + 1 < s.size := by omega
    have hl1 : p + 1 < s.data.toList.length := by rw [len_list]; exact hp1
    rw [get_in s (p + 1) hp1] at q3 q4 q5
    rw [List.drop_eq_getElem_cons hl, List.drop_eq_getElem_cons hl1, get_list s p hp hl, get_list s (p + 1) hp1 hl1, show p + 2 - p = 0 + 1 + 1 by omega, List.take_succ_cons, List.take_succ_cons, List.take_zero, okB_two]
    · rfl
    · simp only [greW, Bool.and_eq_true, decide_eq_true_eq]
      omega
/-- A word, as it stands in its line. -/
def TokOK (x : ByteArray) (t : Tok) : Prop := t.2 + t.1.size ≤ x.size ∧ x.extract t.2 (t.2 + t.1.size) = t.1 ∧ ((okB false t.1.data.toList = true ∧ 0 < t.1.size) ∨ t.1 = ⟨#[61]⟩)
theorem extract_join (s : ByteArray) (a p q : Nat) (h1 : a ≤ p) (h2 : p ≤ q) : (s.extract a q).data.toList = (s.extract a p).data.toList ++ (s.extract p q).data.toList := by
  rw [← List.append_nil (s.extract a q).data.toList]
  simp only [Lib.extract_data, List.append_nil]
  rw [show q - a = (p - a) + (q - p) by omega, List.take_add, List.drop_drop, show a + (p - a) = p by omega]
theorem putL_ok {x : ByteArray} {l : List Tok} {a p : Nat} (hl : ∀ t ∈ l, TokOK x t) (hap : a ≤ p) (hp : p ≤ x.size) (ha : okB false (x.extract a p).data.toList = true) : ∀ t ∈ putL l x a p, TokOK x t := by
  rw [putL]
  split
  · exact hl
  · intro t ht
    rcases List.mem_append.1 ht with ht | ht
    · exact hl t ht
    · simp only [List.mem_cons, List.not_mem_nil, or_false] at ht
      have hs : (x.extract a p).size = p - a := by rw [ByteArray.size_extract]; omega
      subst ht
      refine ⟨by show a + (x.extract a p).size ≤ _; omega, ?_, Or.inl ⟨ha, by show 0 < (x.extract a p).size; omega⟩⟩
      show x.extract a (a + (x.extract a p).size) = x.extract a p
      rw [hs, show a + (p - a) = p by omega]
theorem okB_none (x : ByteArray) (p : Nat) : okB false (x.extract p p).data.toList = true := by
  rw [Lib.extract_data, Nat.sub_self]; rfl
theorem toks_ok (x : ByteArray) : ∀ (f p a : Nat) (l : List Tok), p ≤ x.size → x.size - p < f → badN x f p = none → WordI x p a l → (∀ t ∈ l, TokOK x t) → okB false (x.extract a p).data.toList = true → ∀ t ∈ toksW x, TokOK x t := by
  intro f
  induction f with
  | zero => intro p a l hp hf; omega
  | succ f ih =>
    intro p a l hp hf hb hW hl ha
    have hap := hW.le
    by_cases hlt : p < x.size
    · obtain ⟨⟨r, k⟩, hrk⟩ : ∃ y, Utf8.decode x p = y := ⟨_, rfl⟩
      have hk1 := decode_lo x p
      have hk2 := decode_le x p hlt
      rw [badN, if_pos hlt, hrk] at hb
      rw [hrk] at hk1 hk2
      simp only at hb hk1 hk2
      by_cases hbr : badR r k = true
      · rw [if_pos hbr] at hb; cases hb
      · rw [if_neg hbr] at hb
        by_cases h61 : r = 61
        · obtain ⟨rfl, hW2⟩ := hW.eq hlt hrk h61
          refine ih (p + 1) (p + 1) _ hk2 (by omega) hb hW2 ?_ (okB_none x _)
          have h1 := putL_ok hl hap hp ha
          have hb1 := (dec_low hlt hrk (by omega)).2
          intro t ht
          rw [putL, if_neg (by omega)] at ht
          rcases List.mem_append.1 ht with ht | ht
          · exact h1 t ht
          · simp only [List.mem_cons, List.not_mem_nil, or_false] at ht
            have e := one_61 hlt (by omega)
            subst ht
            refine ⟨?_, ?_, Or.inr e⟩
            · show p + (x.extract p (p + 1)).size ≤ _
              rw [e]; exact hk2
            · show x.extract p (p + (x.extract p (p + 1)).size) = x.extract p (p + 1)
              rw [e]; exact e
        · by_cases hg : r = 32 ∨ r = 9
          · obtain ⟨rfl, hW2⟩ := hW.gap hlt hrk hg
            exact ih (p + 1) (p + 1) _ hk2 (by omega) hb hW2 (putL_ok hl hap hp ha) (okB_none x _)
          · have hgood : letR r = true ∨ digR r = true ∨ r = 45 := by
              cases e1 : letR r with
              | true => exact Or.inl rfl
              | false =>
                cases e2 : digR r with
                | true => exact Or.inr (Or.inl rfl)
                | false =>
                  by_cases e3 : r = 45
                  · exact Or.inr (Or.inr e3)
                  · exact absurd (badR_yes e1 e2 e3 h61 (by omega) (by omega)) hbr
            refine ih (p + k) a l hk2 (by omega) hb (hW.rune hlt hrk (by omega) (by omega) h61) hl ?_
            rw [extract_join x a p (p + k) hap (by omega)]
            exact okB_append false _ (rune_okB hlt hrk hgood) _ _ (Nat.le_refl _) ha
    · obtain rfl : p = x.size := by omega
      rw [← hW.last]
      exact putL_ok hl hap (Nat.le_refl _) ha
theorem fine_toks {x : ByteArray} (h : badW x = none) : ∀ t ∈ toksW x, TokOK x t :=
  toks_ok x (x.size + 1) 0 0 [] (Nat.zero_le _) (by omega) h (WordI.start x) (fun t ht => by simp at ht) (okB_none x 0)
theorem app_list (s u : ByteArray) : (s ++ u).data.toList = s.data.toList ++ u.data.toList := by
  rw [ByteArray.data_append, Array.toList_append]
theorem app_size (s u : ByteArray) : (s ++ u).size = s.size + u.size := by simp
theorem byteE_list (s : ByteArray) (k : Nat) : byteE s k = (s.data.toList.getD k 32).toNat := by
  by_cases h : k < s.size
  · have hl : k < s.data.toList.length := by rw [len_list]; exact h
    rw [byteE_lt h, List.getD_eq_getElem?_getD, List.getElem?_eq_getElem hl, Option.getD_some, get_list s k h hl]
  · rw [byteE, dif_neg h, List.getD_eq_getElem?_getD, List.getElem?_eq_none (by rw [len_list]; omega)]
    rfl
theorem byteE_left (s u : ByteArray) (k : Nat) (h : k < s.size) : byteE (s ++ u) k = byteE s k := by
  rw [byteE_list, byteE_list, app_list, List.getD_eq_getElem?_getD, List.getD_eq_getElem?_getD, List.getElem?_append_left (by rw [len_list]; exact h)]
theorem byteE_right (s u : ByteArray) (j : Nat) : byteE (s ++ u) (s.size + j) = byteE u j := by
  rw [byteE_list, byteE_list, app_list, List.getD_eq_getElem?_getD, List.getD_eq_getElem?_getD, List.getElem?_append_right (by rw [len_list]; omega), len_list, Nat.add_sub_cancel_left]
theorem ext_list {a b : ByteArray} (h : a.data.toList = b.data.toList) : a = b := ByteArray.ext (Array.toList_inj.1 h)
theorem extract_left (s u : ByteArray) (a b : Nat) (h : b ≤ s.size) : (s ++ u).extract a b = s.extract a b := by
  apply ext_list
  rw [Lib.extract_data, Lib.extract_data, app_list]
  by_cases hab : a ≤ b
  · rw [List.drop_append_of_le_length (by rw [len_list]; omega), List.take_append_of_le_length (by rw [List.length_drop, len_list]; omega)]
  · rw [show b - a = 0 by omega, List.take_zero, List.take_zero]
theorem extract_right (s u : ByteArray) : (s ++ u).extract s.size (s.size + u.size) = u := by
  apply ext_list
  rw [Lib.extract_data, app_list, List.drop_append_of_le_length (by rw [len_list]; exact Nat.le_refl _), List.drop_of_length_le (by rw [len_list]; exact Nat.le_refl _), List.nil_append, List.take_of_length_le (by rw [len_list]; omega)]
theorem tokSt_left (s u : ByteArray) : ∀ k, k ≤ s.size → tokSt (s ++ u) k = tokSt s k
  | 0, _ => rfl
  | k + 1, h => by
    rw [tokSt, tokSt, tokSt_left s u k (by omega)]
    generalize tokSt s k = st
    have e1 := byteE_left s u k (by omega)
    have e2 : endT (s ++ u) k st = endT s k st := by
      rw [endT, endT]
      split
      · rw [extract_left s u _ k (by omega)]
      · rfl
    rw [tokStep, tokStep, endB, endB, e1, e2]
theorem WordI.left {s : ByteArray} {p a : Nat} {l : List Tok} (h : WordI s p a l) (u : ByteArray) (hp : p ≤ s.size) : WordI (s ++ u) p a l := by
  unfold WordI
  rw [tokSt_left s u p hp]
  exact h
theorem WordI.gapB {s : ByteArray} {p a : Nat} {l : List Tok} (h : WordI s p a l) (hb : byteE s p = 32 ∨ byteE s p = 9) : WordI s (p + 1) (p + 1) (putL l s a p) := by
  have e : tokSt s (p + 1) = (none, endT s p (tokSt s p)) := by rw [tokSt, step_end hb]
  exact ⟨by rw [e, h.fin], Or.inr ⟨by rw [e], rfl⟩⟩
theorem WordI.eqB {s : ByteArray} {p a : Nat} {l : List Tok} (h : WordI s p a l) (hb : byteE s p = 61) : WordI s (p + 1) (p + 1) (putL l s a p ++ [(⟨#[61]⟩, p)]) := by
  have e : tokSt s (p + 1) = (none, endT s p (tokSt s p) ++ [(⟨#[61]⟩, p)]) := by rw [tokSt, step_eq hb]
  exact ⟨by rw [e, h.fin], Or.inr ⟨by rw [e], rfl⟩⟩
theorem WordI.inB {s : ByteArray} {a : Nat} {l : List Tok} : ∀ {k p : Nat}, WordI s p a l → (∀ j, j < k → ¬ byteE s (p + j) = 32 ∧ ¬ byteE s (p + j) = 9 ∧ ¬ byteE s (p + j) = 61) → WordI s (p + k) a l
  | 0, p, h, _ => h
  | k + 1, p, h, hk => by
    obtain ⟨h1, h2, h3⟩ := hk 0 (by omega)
    rw [Nat.add_zero] at h1 h2 h3
    have := WordI.inB (k := k) (h.in1 h1 h2 h3) (fun j hj => by have := hk (j + 1) (by omega); rw [Nat.add_assoc, Nat.add_comm 1 j]; exact this)
    rw [show p + (k + 1) = p + 1 + k by omega]
    exact this
theorem WordI.gaps {s : ByteArray} : ∀ {k p : Nat} {l : List Tok}, WordI s p p l → (∀ j, j < k → byteE s (p + j) = 32 ∨ byteE s (p + j) = 9) → WordI s (p + k) (p + k) l
  | 0, p, l, h, _ => h
  | k + 1, p, l, h, hk => by
    have h1 := h.gapB (hk 0 (by omega))
    rw [putL, if_pos rfl] at h1
    have := WordI.gaps (k := k) h1 (fun j hj => by have := hk (j + 1) (by omega); rw [Nat.add_assoc, Nat.add_comm 1 j]; exact this)
    rw [show p + (k + 1) = p + 1 + k by omega]
    exact this
/-- A text whose words, so far, are these. -/
def Built (s : ByteArray) (T : List ByteArray) : Prop := okB true s.data.toList = true ∧ ∃ L : List Tok, WordI s s.size s.size L ∧ L.map Prod.fst = T
def WordT (t : ByteArray) : Prop := (okB false t.data.toList = true ∧ 0 < t.size) ∨ t = ⟨#[61]⟩
def GapT (g : ByteArray) : Prop := 0 < g.size ∧ okB true g.data.toList = true ∧ ∀ j, j < g.size → byteE g j = 32 ∨ byteE g j = 9
theorem wordT_ok {t : ByteArray} (h : WordT t) : okB true t.data.toList = true := by
  rcases h with h | rfl
  · exact okB_weak _ _ (Nat.le_refl _) h.1
  · decide
theorem WordI.word {s t : ByteArray} {L : List Tok} (h : WordI s s.size s.size L) (ht : WordT t) : ∃ a l, WordI (s ++ t) (s ++ t).size a l ∧ (putL l (s ++ t) a (s ++ t).size).map Prod.fst = L.map Prod.fst ++ [t] := by
  have h0 := h.left t (Nat.le_refl _)
  have hs := app_size s t
  rcases ht with ⟨ht, hz⟩ | rfl
  · have hw := okB_bytes _ _ (Nat.le_refl _) ht
    have h1 := h0.inB (k := t.size) (fun j hj => by
      rw [byteE_right, byteE_list, List.getD_eq_getElem?_getD, List.getElem?_eq_getElem (by rw [len_list]; exact hj), Option.getD_some]
      exact hw j _)
    rw [← hs] at h1
    refine ⟨_, _, h1, ?_⟩
    rw [putL, if_neg (by omega), List.map_append]
    congr 1
    simp only [List.map_cons, List.map_nil]
    rw [hs, extract_right]
  · have h1 := h0.eqB (by have := byteE_right s ⟨#[61]⟩ 0; rw [Nat.add_zero] at this; rw [this]; decide)
    rw [show s.size + 1 = (s ++ ⟨#[61]⟩).size by rw [hs]; rfl] at h1
    refine ⟨_, _, h1, ?_⟩
    rw [putL, if_pos rfl, putL, if_pos rfl, List.map_append]
    rfl
theorem WordI.gapT {s g : ByteArray} {a : Nat} {l : List Tok} (h : WordI s s.size a l) (hg : GapT g) : WordI (s ++ g) (s ++ g).size (s ++ g).size (putL l s a s.size) := by
  have h0 := h.left g (Nat.le_refl _)
  have hs := app_size s g
  have e0 := byteE_right s g 0
  rw [Nat.add_zero] at e0
  have h1 := h0.gapB (by rw [e0]; exact hg.2.2 0 hg.1)
  have h2 := h1.gaps (k := g.size - 1) (fun j hj => by
    rw [show s.size + 1 + j = s.size + (1 + j) by omega, byteE_right]
    exact hg.2.2 _ (by omega))
  rw [show s.size + 1 + (g.size - 1) = (s ++ g).size by rw [hs]; have := hg.1; omega] at h2
  have e : putL l (s ++ g) a s.size = putL l s a s.size := by rw [putL, putL, extract_left s g a s.size (Nat.le_refl _)]
  rw [e] at h2
  exact h2
theorem Built.next {s t g : ByteArray} {T : List ByteArray} (h : Built s T) (ht : WordT t) (hg : GapT g) : Built (s ++ t ++ g) (T ++ [t]) := by
  obtain ⟨hk, L, hL, hT⟩ := h
  obtain ⟨a, l, h1, h2⟩ := hL.word ht
  refine ⟨?_, _, h1.gapT hg, by rw [h2, hT]⟩
  rw [app_list, app_list]
  exact okB_append true _ hg.2.1 _ _ (Nat.le_refl _) (okB_append true _ (wordT_ok ht) _ _ (Nat.le_refl _) hk)
theorem Built.words {s : ByteArray} {T : List ByteArray} (h : Built s T) : badW s = none ∧ (toksW s).map Prod.fst = T := by
  obtain ⟨hk, L, hL, hT⟩ := h
  refine ⟨okB_fine s _ 0 (Nat.zero_le _) hk, ?_⟩
  rw [← hL.last, putL, if_pos rfl, hT]
end Go.Proofs.YtkojdigaoihkpaaGreatDoor

end
section
namespace Go.Proofs.YtkojdigaoihkpaaGreatDoor
set_option linter.unusedVariables false
set_option linter.unusedSimpArgs false
set_option maxRecDepth 100000
open Go.RowKit

theorem powG : Tryz.prog.globalNamed "internal/strconv.uint64pow10" = some 3 := by kernel_rfl
end Go.Proofs.YtkojdigaoihkpaaGreatDoor

end
section
namespace Go.Proofs.YtkojdigaoihkpaaGreatDoor
set_option linter.unusedVariables false
set_option linter.unusedSimpArgs false
set_option maxRecDepth 100000
open Go.ChangeShapes Go.WideShapes Go.ChangeAt Go.RowKit Go.Lib

theorem tab_of_reads {P : Program} {W : World} {name : String} {k : IntKind} {zs : List Int} {g : Nat} {t e : TypeId} {n : Nat}
    (hg : P.globalNamed name = some g) (hgt : (P.globals[g]?).map (·.type) = some t) (ht : P.underlying t = some (.array n e)) (he : P.underlying e = some (.int k)) (hce : P.cellsOf e = 1) (hct : P.cellsOf t = n)
    (h : VarReads P W name (tabData k zs)) : TabIs P W name k zs := by
  obtain ⟨g', t', cs, fuel, p, hg', ht', hvar, hd⟩ := h
  obtain rfl := Option.some.inj (hg.symm.trans hg')
  obtain rfl := Option.some.inj (hgt.symm.trans ht')
  unfold TabIs
  rw [hvar, ← cells_of_tab ht he hce hct hd]
theorem powType : (Tryz.prog.globals[3]?).map (·.type) = some 162 := by kernel_rfl
theorem cellsU64 : Tryz.prog.cellsOf 145 = 1 := by kernel_rfl
theorem cellsPow : Tryz.prog.cellsOf 162 = 20 := by kernel_rfl
theorem pow_met {W : World} (h : VarReads Tryz.prog W "internal/strconv.uint64pow10" Rows.laid_internal_strconv_uint64pow10) : PowT W :=
  tab_of_reads powG powType Tryz.underlying162 Tryz.underlying145 cellsU64 cellsPow h
end Go.Proofs.YtkojdigaoihkpaaGreatDoor

end
section
namespace Go.Proofs.YtkojdigaoihkpaaGreatDoor
set_option linter.unusedVariables false
set_option linter.unusedSimpArgs false
set_option maxRecDepth 100000
open Go.RowKit

theorem nodeB_args {L : List Nod} {i : Nat} {t : Nod} (h : nodeB L i t = true) : argsB t.args i = true := by
  rw [nodeB, Bool.and_eq_true] at h
  exact h.1
theorem small_nil : Small [] := ⟨by decide, fun i h => by simp at h, fun i h => by simp at h, fun i h => by simp at h⟩
theorem PowT.stays {w w' : World} (h : PowT w) (hb : Below w.heap.size w w') : PowT w' := Joins.tab_stays powG h hb (Nat.le_refl _)
theorem gap1 : GapT ⟨#[32]⟩ := ⟨by decide, by decide, fun j hj => by
  have : j = 0 := by have : (⟨#[32]⟩ : ByteArray).size = 1 := rfl; omega
  subst this; exact Or.inl (by decide)⟩
end Go.Proofs.YtkojdigaoihkpaaGreatDoor

end
section
namespace Go.Proofs.YtkojdigaoihkpaaGreatDoor
set_option linter.unusedVariables false
set_option linter.unusedSimpArgs false
set_option maxRecDepth 100000
open Go.RowKit

/-- The kinds' names. -/
def kindsL : List ByteArray := [⟨#[]⟩, ⟨#[105, 110]⟩, ⟨#[112, 97, 114, 97, 109]⟩, ⟨#[102, 105, 108, 108]⟩, ⟨#[97, 100, 100]⟩, ⟨#[115, 117, 98]⟩, ⟨#[109, 117, 108]⟩, ⟨#[110, 101, 103]⟩, ⟨#[115, 99, 97, 108, 101]⟩, ⟨#[109, 97, 116]⟩, ⟨#[116, 117, 114, 110]⟩, ⟨#[115, 104, 97, 112, 101]⟩, ⟨#[119, 105, 100, 101]⟩, ⟨#[115, 117, 109]⟩, ⟨#[114, 101, 108, 117]⟩, ⟨#[109, 97, 120]⟩]
/-- Where the first one of a list that is s stands, from i on; 0: nowhere. -/
def kindG (s : ByteArray) : List ByteArray → Nat → Nat
  | [], _ => 0
  | t :: r, i => if t = s then i else kindG s r (i + 1)
def kindF (s : ByteArray) : Nat := kindG s (kindsL.drop 1) 1
def kindN (k : Nat) : ByteArray := kindsL.getD k ⟨#[]⟩
def numbI (k : Nat) : Bool := decide (k = 3) || decide (k = 8) || decide (k = 15)
/-- As many names of nodes as asked for; their numbers, what is left. -/
def argsF (L : List Nod) : Nat → List ByteArray → Option (List Int × List ByteArray)
  | 0, T => some ([], T)
  | _ + 1, [] => none
  | k + 1, t :: T => if nameB t && decide (0 ≤ nmdN L t 0) then (argsF L k T).map fun p => (nmdN L t 0 :: p.1, p.2) else none
/-- A number, if the kind has one. -/
noncomputable def numbF (k : Nat) (T : List ByteArray) : Option (Int × List ByteArray) :=
  if numbI k then (match T with
    | [] => none
    | t :: r => if numK t.data.toList then some (numV t.data.toList, r) else none) else some (0, T)
noncomputable def dimsG : Nat → List ByteArray → Option (List Int × List ByteArray)
  | 0, T => some ([], T)
  | _ + 1, [] => some ([], [])
  | k + 1, t :: T => if numK t.data.toList then (dimsG k T).map fun p => (numV t.data.toList :: p.1, p.2) else none
noncomputable def dimsF (k : Nat) (T : List ByteArray) : Option (List Int × List ByteArray) :=
  if askI k then (match dimsG 3 T with
    | some ([], _) => none
    | o => o) else some ([], T)
def nod0 : Nod := ⟨⟨#[]⟩, 0, [], [], 0⟩
/-- A line's words as a node behind those of L: the error, the node. -/
noncomputable def lineF (L : List Nod) : List ByteArray → Int × Nod
  | t0 :: t1 :: t2 :: r =>
    if nameB t0 && decide (nmdN L t0 0 < 0) && decide (t1 = ⟨#[61]⟩) && decide (kindF t2 ≠ 0) then
      match argsF L (many (kindF t2)) r with
      | none => (5, nod0)
      | some (A, r1) =>
        match numbF (kindF t2) r1 with
        | none => (5, nod0)
        | some (n, r2) =>
          match dimsF (kindF t2) r2 with
          | none => (5, nod0)
          | some (d, r3) =>
            if r3 = [] then (if 24 ≤ L.length then (2, nod0) else (inE (kindF t2) n d L A, ⟨t0, kindF t2, A, inR (kindF t2) n d L A, n⟩)) else (5, nod0)
    else (5, nod0)
  | _ => (5, nod0)
/-- Line by line: the graph, the line, the error. -/
noncomputable def readN : List ByteArray → Nat → List Nod → List Nod × Int × Int
  | [], i, L => if grpB L then (L, 0, 0) else ([], i, 1)
  | x :: X, i, L =>
    if (badW x).isSome then ([], i, 5)
    else if toksW x = [] then readN X (i + 1) L
    else if (lineF L ((toksW x).map Prod.fst)).1 = 0 then readN X (i + 1) (L ++ [(lineF L ((toksW x).map Prod.fst)).2])
    else ([], i, (lineF L ((toksW x).map Prod.fst)).1)
noncomputable def readF (s : ByteArray) : List Nod × Int × Int := if 3000 < s.size then ([], 0, 2) else readN (linesL s) 0 []
/- Texts of graphs. -/
def itoaB (n : Int) : ByteArray := ⟨(Lib.itoa n).toArray⟩
def nameAt (L : List Nod) (a : Int) : ByteArray := match L[a.toNat]? with
  | some u => u.name
  | none => ⟨#[]⟩
/-- The words behind the kind. -/
def lineR (L : List Nod) (t : Nod) : List ByteArray :=
  t.args.map (nameAt L) ++ ((if numbI t.kind.toNat then [itoaB t.n] else []) ++ (if askI t.kind then t.dims.map itoaB else []))
def lineT (L : List Nod) (t : Nod) : List ByteArray := t.name :: ⟨#[61]⟩ :: kindN t.kind.toNat :: lineR L t
def putW (s : ByteArray) (T : List ByteArray) : ByteArray := T.foldl (fun s t => s ++ (⟨#[32]⟩ ++ t)) s
def lineS (L : List Nod) (s : ByteArray) (t : Nod) : ByteArray := putW (s ++ t.name ++ ⟨#[32, 61, 32]⟩ ++ kindN t.kind.toNat) (lineR L t) ++ ⟨#[10]⟩
def showN (L : List Nod) : Nat → ByteArray
  | 0 => ⟨#[]⟩
  | k + 1 => match L[k]? with
    | some t => lineS L (showN L k) t
    | none => showN L k
def showB (L : List Nod) : ByteArray := showN L L.length
end Go.Proofs.YtkojdigaoihkpaaGreatDoor

end
section
namespace Go.Proofs.YtkojdigaoihkpaaGreatDoor
set_option linter.unusedVariables false
set_option linter.unusedSimpArgs false
set_option maxRecDepth 100000
open Go.RowKit

theorem kind_back : ∀ k : Nat, 1 ≤ k → k ≤ 15 → kindF (kindN k) = k := by
  have h : ∀ k : Nat, k < 16 → 1 ≤ k → kindF (kindN k) = k := by decide +kernel
  exact fun k h1 h2 => h k (by omega) h1
theorem nmd_none : ∀ (L : List Nod) (s : ByteArray) (k : Nat), (∀ i (h : i < L.length), ¬ L[i].name = s) → nmdN L s k = -1
  | [], _, _, _ => rfl
  | t :: r, s, k, h => by
    rw [nmdN, if_neg (show ¬ t.name = s from h 0 (by simp))]
    exact nmd_none r s (k + 1) fun i hi => by have := h (i + 1) (by simpa using hi); simpa using this
theorem grp_at {L : List Nod} (hg : grpB L = true) {i : Nat} (hi : i < L.length) : nameB L[i].name = true ∧ nmdN L L[i].name 0 = (i : Int) ∧ L[i].kind ≤ 15 ∧ (-1073741824 ≤ L[i].n ∧ L[i].n ≤ 1073741824) := by
  have h : grpI L i = true := by
    simp only [grpB, Bool.and_eq_true, List.all_eq_true] at hg
    exact hg.1.2 i (List.mem_range.2 hi)
  rw [grpI_at' hi] at h
  simp only [Bool.and_eq_true, decide_eq_true_eq] at h
  exact ⟨h.1.1.1, h.1.1.2, h.1.2, h.2⟩
theorem grp_names {L : List Nod} (hg : grpB L = true) {i j : Nat} (hi : i < L.length) (hj : j < i) : ¬ (L[j]'(by omega)).name = L[i].name := by
  intro e
  have h1 := nmd_le L L[i].name 0 j (by omega) e
  have h2 := (grp_at hg hi).2.1
  omega
theorem nmd_take_new {L : List Nod} (hg : grpB L = true) {i : Nat} (hi : i < L.length) : nmdN (L.take i) L[i].name 0 = -1 := by
  refine nmd_none _ _ _ fun j hj => ?_
  rw [List.length_take] at hj
  rw [List.getElem_take]
  exact grp_names hg hi (by omega)
theorem nmd_take_old {L : List Nod} (hg : grpB L = true) {i a : Nat} (hi : i ≤ L.length) (ha : a < i) : nmdN (L.take i) (L[a]'(by omega)).name 0 = (a : Int) := by
  have hl : (L.take i).length = i := by rw [List.length_take]; omega
  have := nmd_eq (L.take i) (L[a]'(by omega)).name 0 a (by omega) (by rw [List.getElem_take]) (fun j hj => by rw [List.getElem_take]; exact grp_names hg (by omega) hj)
  rw [this]
  simp
theorem args_back {L : List Nod} (hg : grpB L = true) {i : Nat} (hi : i ≤ L.length) (r : List ByteArray) : ∀ A : List Int, (∀ x ∈ A, 0 ≤ x ∧ x < (i : Int)) → argsF (L.take i) A.length (A.map (nameAt L) ++ r) = some (A, r)
  | [], _ => rfl
  | x :: A, h => by
    have ih := args_back hg hi r A (fun y hy => h y (by simp [hy]))
    obtain ⟨h0, h1⟩ := h x (by simp)
    obtain ⟨a, rfl⟩ : ∃ a : Nat, x = a := ⟨x.toNat, by omega⟩
    have hn : nameAt L (a : Int) = (L[a]'(by omega)).name := by
      rw [nameAt, Int.toNat_natCast, List.getElem?_eq_getElem (by omega)]
    rw [List.map_cons, List.cons_append, List.length_cons, argsF, hn, nmd_take_old hg hi (by omega), (grp_at hg (i := a) (by omega)).1, decide_eq_true (p := (0 : Int) ≤ (a : Int)) (by omega), ih]
    rfl
theorem itoaB_num {n : Int} (h1 : -1073741824 ≤ n) (h2 : n ≤ 1073741824) : numK (itoaB n).data.toList = true ∧ numV (itoaB n).data.toList = n := itoa_num n h1 h2
theorem dimsG_back : ∀ (k : Nat) (d : List Int), d.length ≤ k → (∀ x ∈ d, 1 ≤ x ∧ x ≤ 8) → dimsG k (d.map itoaB) = some (d, [])
  | 0, [], _, _ => rfl
  | 0, x :: d, h, _ => by simp at h
  | k + 1, [], _, _ => rfl
  | k + 1, x :: d, h, hx => by
    have ih := dimsG_back k d (by simpa using h) (fun y hy => hx y (by simp [hy]))
    obtain ⟨h1, h2⟩ := hx x (by simp)
    obtain ⟨e1, e2⟩ := itoaB_num (n := x) (by omega) (by omega)
    rw [List.map_cons, dimsG, e1, ih, e2]
    rfl
/-- What node i of a graph is shown as is read as it, behind those ahead. -/
theorem line_back {L : List Nod} (hg : grpB L = true) {i : Nat} (hi : i < L.length) : lineF (L.take i) (lineT L L[i]) = (0, L[i]) := by
  have hnb := nodesB_at (grp_nodes hg) i hi
  obtain ⟨hn, hnm, hk15, hn1, hn2⟩ := grp_at hg hi
  have hnew := nmd_take_new hg hi
  obtain ⟨hl1, hl24⟩ : 1 ≤ L.length ∧ L.length ≤ 24 := by
    simp only [grpB, Bool.and_eq_true, decide_eq_true_eq] at hg
    exact ⟨hg.1.1.1.1, hg.1.1.1.2⟩
  have hargs := fun x hx => argsB_lt (nodeB_args hnb) (x := x) hx
  have hokd := nodeB_okd hnb
  have hin := nodeB_in (L := L) (i := i) (by omega) L[i]
  rw [hnb] at hin
  have hm : may L[i].kind L[i].n (askD L[i]) (dimsAt L L[i].args) = true := by
    have h := hnb
    simp only [nodeB, Bool.and_eq_true] at h
    exact h.2.1
  have hfrm : frm L[i].kind L[i].n (askD L[i]) L[i].args.length = true := by
    have h := hm
    rw [may, Bool.and_eq_true, dimsAt_len] at h
    exact h.1
  obtain ⟨hk, hc, hd, hno⟩ := frm_parts1 hfrm
  generalize ht : L[i] = t at *
  obtain ⟨nm, kd, ar, ds, n⟩ := t
  simp only at hn hnm hk15 hn1 hn2 hnew hargs hokd hin hk hc hd hno
  obtain ⟨k, rfl⟩ : ∃ k : Nat, kd = k := ⟨kd.toNat, by omega⟩
  rw [Int.toNat_natCast] at hc hd hno
  have hkf := kind_back k (by omega) (by omega)
  have hll : (L.take i).length = i := by rw [List.length_take]; omega
  have h1 : numbF k ((if numbI k then [itoaB n] else []) ++ (if askI (k : Int) then ds.map itoaB else [])) = some (n, if askI (k : Int) then ds.map itoaB else []) := by
    unfold numbF
    cases hnk : numbI k with
    | true =>
      obtain ⟨e1, e2⟩ := itoaB_num hn1 hn2
      rw [if_pos rfl, if_pos rfl]
      show (if numK (itoaB n).data.toList = true then _ else none) = _
      rw [if_pos e1, e2]
      rfl
    | false =>
      have hz : n = 0 := by
        have h3 : ¬ k = 3 := fun e => by rw [e] at hnk; simp [numbI] at hnk
        have h8 : ¬ k = 8 := fun e => by rw [e] at hnk; simp [numbI] at hnk
        have h15 : ¬ k = 15 := fun e => by rw [e] at hnk; simp [numbI] at hnk
        rw [nok, if_neg (by omega), if_neg (by omega)] at hno
        exact of_decide_eq_true hno
      rw [hz]
      rfl
  have h2 : dimsF k (if askI (k : Int) then ds.map itoaB else []) = some (askD ⟨nm, (k : Int), ar, ds, n⟩, []) := by
    rw [dimsF, askD]
    cases ha : askI (k : Int) with
    | true =>
      obtain ⟨o1, o2, o3, _⟩ := okd_parts hokd
      have := dimsG_back 3 ds o2 (fun x hx => inr_mem o3 hx)
      simp only [if_true]
      rw [this]
      cases ds with
      | nil => simp at o1
      | cons x r => rfl
    | false => rfl
  have hin := hin.symm
  rw [Bool.and_eq_true, decide_eq_true_eq, decide_eq_true_eq] at hin
  show (if nameB nm && decide (nmdN (L.take i) nm 0 < 0) && decide ((⟨#[61]⟩ : ByteArray) = ⟨#[61]⟩) && decide (kindF (kindN k) ≠ 0) then _ else _) = _
  rw [hn, hnew, hkf, decide_eq_true (p := k ≠ 0) (by omega)]
  simp only [lineR, Int.toNat_natCast, hkf]
  rw [← hc, args_back hg (by omega) _ ar hargs]
  simp only [h1, h2]
  rw [if_neg (by omega : ¬ 24 ≤ (L.take i).length), hin.1, hin.2]
  rfl
end Go.Proofs.YtkojdigaoihkpaaGreatDoor

end
section
namespace Go.Proofs.YtkojdigaoihkpaaGreatDoor
set_option linter.unusedVariables false
set_option linter.unusedSimpArgs false
set_option maxRecDepth 100000
open Go.RowKit

/-- A line that has just these words. -/
def Fine (x : ByteArray) (T : List ByteArray) : Prop := okB true x.data.toList = true ∧ badW x = none ∧ (toksW x).map Prod.fst = T
theorem Built.nil : Built ⟨#[]⟩ [] := ⟨by decide, [], ⟨by decide, by decide⟩, rfl⟩
theorem Built.fine {s : ByteArray} {T : List ByteArray} (h : Built s T) : Fine s T := ⟨h.1, h.words⟩
theorem Built.last {s t : ByteArray} {T : List ByteArray} (h : Built s T) (ht : WordT t) : Fine (s ++ t) (T ++ [t]) := by
  obtain ⟨hk, L, hL, hT⟩ := h
  obtain ⟨a, l, h1, h2⟩ := hL.word ht
  have hok : okB true (s ++ t).data.toList = true := by
    rw [app_list]
    exact okB_append true _ (wordT_ok ht) _ _ (Nat.le_refl _) hk
  refine ⟨hok, okB_fine (s ++ t) _ 0 (Nat.zero_le _) hok, ?_⟩
  rw [← h1.last, h2, hT]
/-- Words with a gap between. -/
def joinG (g : ByteArray) : List ByteArray → ByteArray
  | [] => ⟨#[]⟩
  | [t] => t
  | t :: r => t ++ g ++ joinG g r
theorem app_assoc (a b c : ByteArray) : a ++ b ++ c = a ++ (b ++ c) := by
  apply ext_list
  simp only [app_list, List.append_assoc]
theorem app_nil (a : ByteArray) : a ++ ⟨#[]⟩ = a := by
  apply ext_list
  rw [app_list]
  simp
theorem nil_app (a : ByteArray) : (⟨#[]⟩ : ByteArray) ++ a = a := by
  apply ext_list
  rw [app_list]
  rfl
theorem join_fine {g : ByteArray} (hg : GapT g) : ∀ (T : List ByteArray) (s : ByteArray) (P : List ByteArray), Built s P → (∀ t ∈ T, WordT t) → T ≠ [] → Fine (s ++ joinG g T) (P ++ T)
  | [], _, _, _, _, h => absurd rfl h
  | [t], s, P, hb, hw, _ => hb.last (hw t (by simp))
  | t :: u :: r, s, P, hb, hw, _ => by
    have := join_fine hg (u :: r) (s ++ t ++ g) (P ++ [t]) (hb.next (hw t (by simp)) hg) (fun x hx => hw x (by simp at hx ⊢; exact Or.inr hx)) (by simp)
    rw [joinG, ← app_assoc, ← app_assoc]
    · rw [List.append_assoc] at this
      exact this
    · simp
theorem join_gap {g g2 : ByteArray} (hg : GapT g) (hg2 : GapT g2) : ∀ (T : List ByteArray) (s : ByteArray) (P : List ByteArray), Built s P → (∀ t ∈ T, WordT t) → T ≠ [] → Fine (s ++ joinG g T ++ g2) (P ++ T)
  | [], _, _, _, _, h => absurd rfl h
  | [t], s, P, hb, hw, _ => (hb.next (hw t (by simp)) hg2).fine
  | t :: u :: r, s, P, hb, hw, _ => by
    have := join_gap hg hg2 (u :: r) (s ++ t ++ g) (P ++ [t]) (hb.next (hw t (by simp)) hg) (fun x hx => hw x (by simp at hx ⊢; exact Or.inr hx)) (by simp)
    rw [joinG, ← app_assoc, ← app_assoc]
    · rw [List.append_assoc P] at this
      exact this
    · simp
theorem join_put : ∀ (R : List ByteArray) (s t : ByteArray), s ++ joinG ⟨#[32]⟩ (t :: R) = putW (s ++ t) R
  | [], s, t => rfl
  | r :: R, s, t => by
    have := join_put R (s ++ (t ++ ⟨#[32]⟩)) r
    rw [joinG, ← app_assoc, this, putW, putW, List.foldl_cons]
    · rw [app_assoc, app_assoc, app_assoc]
    · simp
/-- A node's line. -/
def lineX (L : List Nod) (t : Nod) : ByteArray := joinG ⟨#[32]⟩ (lineT L t)
theorem lineS_eq (L : List Nod) (s : ByteArray) (t : Nod) : lineS L s t = s ++ (lineX L t ++ nl) := by
  have h := join_put (lineR L t) (s ++ t.name ++ ⟨#[32, 61, 32]⟩) (kindN t.kind.toNat)
  rw [lineS, ← h, lineX, lineT]
  show _ = s ++ ((t.name ++ ⟨#[32]⟩ ++ ((⟨#[61]⟩ : ByteArray) ++ ⟨#[32]⟩ ++ joinG ⟨#[32]⟩ (kindN t.kind.toNat :: lineR L t))) ++ ⟨#[10]⟩)
  apply ext_list
  simp only [app_list, List.append_assoc]
  rfl
/-- Lines, each with its end. -/
def textB : List ByteArray → ByteArray
  | [] => ⟨#[]⟩
  | x :: X => x ++ nl ++ textB X
theorem textB_app : ∀ (X Y : List ByteArray), textB (X ++ Y) = textB X ++ textB Y
  | [], Y => (nil_app _).symm
  | x :: X, Y => by rw [List.cons_append, textB, textB_app X Y, textB, app_assoc, app_assoc, app_assoc]
theorem showN_text (L : List Nod) : ∀ k, k ≤ L.length → showN L k = textB ((L.take k).map (lineX L))
  | 0, _ => rfl
  | k + 1, h => by
    rw [showN, List.getElem?_eq_getElem (by omega)]
    simp only
    rw [lineS_eq, showN_text L k (by omega), List.take_succ_eq_append_getElem (by omega), List.map_append, textB_app]
    simp only [List.map_cons, List.map_nil, textB, app_nil]
theorem showB_text (L : List Nod) : showB L = textB (L.map (lineX L)) := by rw [showB, showN_text L _ (Nat.le_refl _), List.take_length]
theorem text_step {s : ByteArray} {P R : List ByteArray} {x : ByteArray} (hs : s = textB (P ++ x :: R)) (h1 : linSt s (textB P).size = ((textB P).size, P.map cutH)) (hx : ∀ j, j < x.size → byteE x j ≠ 10) :
    linSt s (textB (P ++ [x])).size = ((textB (P ++ [x])).size, (P ++ [x]).map cutH) := by
  have hsz : (textB (P ++ [x])).size = (textB P).size + x.size + 1 := by
    rw [textB_app, app_size]
    show (textB P).size + (x ++ nl ++ ⟨#[]⟩).size = _
    rw [app_nil, app_size]
    rfl
  have hs2 : s = textB P ++ (x ++ (nl ++ textB R)) := by
    rw [hs, textB_app]
    show textB P ++ (x ++ nl ++ textB R) = _
    rw [app_assoc x]
  have hlen : s.size = (textB P).size + (x.size + (1 + (textB R).size)) := by rw [hs2, app_size, app_size, app_size]; rfl
  have hb : ∀ j, j < x.size → byteE s ((textB P).size + j) = byteE x j := fun j hj => by rw [hs2, byteE_right, byteE_left _ _ _ hj]
  have hr := linSt_run s (textB P).size (P.map cutH) x.size (by omega) (fun j hj => by rw [hb j hj]; exact hx j hj) h1
  have hn : byteE s ((textB P).size + x.size) = 10 := by
    rw [hs2, byteE_right]
    have := byteE_right x (nl ++ textB R) 0
    rw [Nat.add_zero] at this
    rw [this, byteE_left _ _ _ (by decide)]
    decide
  have he : s.extract (textB P).size ((textB P).size + x.size) = x := by
    have h2 : s = (textB P ++ x) ++ (nl ++ textB R) := by rw [hs2, app_assoc]
    rw [h2, extract_left _ _ _ _ (by rw [app_size]; exact Nat.le_refl _), extract_right]
  rw [hsz, linSt, hr, linStep, if_neg (fun h => h.2 hn), if_neg (fun h => by omega), he, List.map_append]
  rfl
theorem text_lines (s : ByteArray) : ∀ (X P R : List ByteArray), s = textB (P ++ (X ++ R)) → linSt s (textB P).size = ((textB P).size, P.map cutH) → (∀ x ∈ X, ∀ j, j < x.size → byteE x j ≠ 10) → linSt s (textB (P ++ X)).size = ((textB (P ++ X)).size, (P ++ X).map cutH)
  | [], P, R, _, h, _ => by rw [List.append_nil]; exact h
  | x :: X, P, R, hs, h, hx => by
    have h1 := text_step (P := P) (R := X ++ R) (x := x) hs h (hx x (by simp))
    have h2 := text_lines s X (P ++ [x]) R (by rw [hs, List.append_assoc]; rfl) h1 (fun y hy => hx y (by simp [hy]))
    rw [List.append_assoc] at h2
    exact h2
/-- The lines of a text of lines. -/
theorem lines_text (X : List ByteArray) (hx : ∀ x ∈ X, ∀ j, j < x.size → byteE x j ≠ 10) : linesL (textB X) = X.map cutH := by
  have h := text_lines (textB X) X [] [] (by simp) rfl hx
  rw [List.nil_append] at h
  have he : ((textB X).extract (textB X).size (textB X).size).size = 0 := by simp
  have hc : (cutH ((textB X).extract (textB X).size (textB X).size)).size = 0 := by
    have := cutN_le ((textB X).extract (textB X).size (textB X).size)
    rw [cutH_size]
    omega
  rw [linesL, linSt, h, linStep, if_neg (fun h => by omega), if_pos ⟨rfl, hc⟩]
/-- No byte of a line ends it, or begins a remark. -/
theorem okB_plain (g : Bool) : ∀ (n : Nat) (u : List UInt8), u.length ≤ n → okB g u = true → ∀ j (h : j < u.length), ¬ (u[j]).toNat = 10 ∧ ¬ (u[j]).toNat = 35
  | _, [], _, _, j, h => by simp at h
  | 0, _ :: _, h, _, _, _ => by simp at h
  | n + 1, [b], _, hu, j, h => by
    have : j = 0 := by simp at h; omega
    subst this
    rw [okB] at hu
    simp only [bytW, bytG, Bool.or_eq_true, Bool.and_eq_true, decide_eq_true_eq] at hu
    simp only [List.getElem_cons_zero]
    omega
  | n + 1, b :: c :: r, hn, hu, j, h => by
    by_cases hb : (bytW b.toNat || (g && bytG b.toNat)) = true
    · rw [okB_one g b _ hb] at hu
      have ih := okB_plain g n (c :: r) (by simpa using hn) hu
      cases j with
      | zero =>
        simp only [bytW, bytG, Bool.or_eq_true, Bool.and_eq_true, decide_eq_true_eq] at hb
        simp only [List.getElem_cons_zero]
        omega
      | succ j => simpa using ih j (by simpa using h)
    · rw [okB, if_neg hb, Bool.and_eq_true] at hu
      have ih := okB_plain g n r (by simp at hn; omega) hu.2
      have hg := hu.1
      simp only [greW, Bool.and_eq_true, decide_eq_true_eq] at hg
      match j with
      | 0 => simp only [List.getElem_cons_zero]; omega
      | 1 => simp only [List.getElem_cons_succ, List.getElem_cons_zero]; omega
      | j + 2 => simpa using ih j (by simpa using h)
theorem Fine.bytes {x : ByteArray} {T : List ByteArray} (h : Fine x T) (j : Nat) (hj : j < x.size) : byteE x j ≠ 10 ∧ byteE x j ≠ 35 := by
  have := okB_plain true _ _ (Nat.le_refl _) h.1 j (by rw [len_list]; exact hj)
  rw [byteE_list, List.getD_eq_getElem?_getD, List.getElem?_eq_getElem (by rw [len_list]; exact hj), Option.getD_some]
  exact this
theorem cutH_plain {x : ByteArray} (h : ∀ j, j < x.size → byteE x j ≠ 35) : cutH x = x := by
  refine cutH_all ?_
  have key : ∀ m, m ≤ x.size → m ≤ cutN x := by
    intro m
    induction m with
    | zero => intro _; exact Nat.zero_le _
    | succ m ih =>
      intro hm
      exact cutN_not (by omega) (ih (by omega)) (by have := h m (by omega); rw [byteE_lt (by omega)] at this; exact this)
  exact key _ (Nat.le_refl _)
end Go.Proofs.YtkojdigaoihkpaaGreatDoor

end
section
namespace Go.Proofs.YtkojdigaoihkpaaGreatDoor
set_option linter.unusedVariables false
set_option linter.unusedSimpArgs false
set_option maxRecDepth 100000
open Go.RowKit

theorem nameN_ok (s : ByteArray) : ∀ (f p n : Nat), nameN s f p n = true → okB false (s.extract p s.size).data.toList = true
  | 0, _, _, h => by simp [nameN] at h
  | f + 1, p, n, h => by
    by_cases hp : p < s.size
    · rw [nameN, if_pos hp] at h
      by_cases hl : (letR (Utf8.decode s p).1 || (decide (n ≠ 0) && digR (Utf8.decode s p).1)) = true
      · rw [if_pos hl] at h
        obtain ⟨⟨r, k⟩, hrk⟩ : ∃ x, Utf8.decode s p = x := ⟨_, rfl⟩
        rw [hrk] at h hl
        simp only at h hl
        have hle := decode_le s p hp
        rw [hrk] at hle
        simp only at hle
        have ih := nameN_ok s f (p + k) (n + 1) h
        have hr := rune_okB hp hrk (by
          simp only [Bool.or_eq_true, Bool.and_eq_true] at hl
          rcases hl with hl | hl
          · exact Or.inl hl
          · exact Or.inr (Or.inl hl.2))
        rw [extract_join s p (p + k) s.size (by omega) hle]
        exact okB_append false _ ih _ _ (Nat.le_refl _) hr
      · rw [if_neg hl] at h
        simp at h
    · have e : (s.extract p s.size).data.toList = [] := by
        rw [Lib.extract_to_end, List.drop_of_length_le (by rw [len_list]; omega)]
      rw [e]
      rfl
theorem name_word {s : ByteArray} (h : nameB s = true) : WordT s := by
  have h1 := nameN_ok s _ 0 0 h
  rw [show s.extract 0 s.size = s by simp] at h1
  refine Or.inl ⟨h1, ?_⟩
  by_cases h0 : 0 < s.size
  · exact h0
  · rw [nameB, nameN, if_neg h0] at h
    simp at h
theorem okB_every : ∀ u : List UInt8, (∀ c ∈ u, bytW c.toNat = true) → okB false u = true
  | [], _ => rfl
  | c :: r, h => by
    rw [okB_one false c r (by rw [h c (by simp)]; rfl)]
    exact okB_every r fun x hx => h x (by simp [hx])
theorem itoa_word (n : Int) : WordT (itoaB n) := by
  refine Or.inl ⟨okB_every _ fun c hc => ?_, ?_⟩
  · have hc' : c ∈ Lib.itoa n := by simpa [itoaB] using hc
    rw [Lib.itoa] at hc'
    split at hc'
    · rcases List.mem_cons.1 hc' with rfl | hc'
      · decide
      · have := dec_all _ c hc'
        simp only [bytW, Bool.or_eq_true, Bool.and_eq_true, decide_eq_true_eq]
        omega
    · have := dec_all _ c hc'
      simp only [bytW, Bool.or_eq_true, Bool.and_eq_true, decide_eq_true_eq]
      omega
  · show 0 < (Lib.itoa n).toArray.size
    rw [List.size_toArray, Lib.itoa]
    split
    · simp
    · by_cases h0 : n.toNat = 0
      · rw [h0, dec_small (by decide)]; simp
      · obtain ⟨c, r, e, _⟩ := dec_head n.toNat h0
        rw [e]; simp
theorem kind_word {k : Nat} (h1 : 1 ≤ k) (h2 : k ≤ 15) : WordT (kindN k) := by
  have h : ∀ k : Nat, k < 16 → 1 ≤ k → okB false (kindN k).data.toList = true ∧ 0 < (kindN k).size := by decide +kernel
  exact Or.inl (h k (by omega) h1)
theorem line_words {L : List Nod} (hg : grpB L = true) {i : Nat} (hi : i < L.length) : ∀ t ∈ lineT L L[i], WordT t := by
  have hnb := nodesB_at (grp_nodes hg) i hi
  obtain ⟨hn, _, hk15, _⟩ := grp_at hg hi
  have hk1 : 1 ≤ L[i].kind := by
    have h := hnb
    simp only [nodeB, Bool.and_eq_true, may] at h
    exact (frm_parts1 h.2.1.1).1.1
  have hargs := fun x hx => argsB_lt (nodeB_args hnb) (x := x) hx
  intro t ht
  simp only [lineT, lineR, List.mem_cons, List.mem_append, List.mem_map] at ht
  rcases ht with rfl | rfl | rfl | ⟨a, ha, rfl⟩ | ht | ht
  · exact name_word hn
  · exact Or.inr rfl
  · exact kind_word (by omega) (by omega)
  · obtain ⟨h0, h1⟩ := hargs a ha
    rw [nameAt, List.getElem?_eq_getElem (by omega)]
    exact name_word (grp_at hg (by omega)).1
  · split at ht
    · simp only [List.mem_cons, List.not_mem_nil, or_false] at ht
      rw [ht]
      exact itoa_word _
    · simp at ht
  · split at ht
    · obtain ⟨d, _, rfl⟩ := List.mem_map.1 ht
      exact itoa_word _
    · simp at ht
theorem line_fine {L : List Nod} (hg : grpB L = true) {i : Nat} (hi : i < L.length) {g : ByteArray} (hgap : GapT g) : Fine (joinG g (lineT L L[i])) (lineT L L[i]) := by
  have := join_fine hgap (lineT L L[i]) ⟨#[]⟩ [] Built.nil (line_words hg hi) (by simp [lineT])
  rw [nil_app] at this
  exact this
theorem line_fine2 {L : List Nod} (hg : grpB L = true) {i : Nat} (hi : i < L.length) {g g2 : ByteArray} (hgap : GapT g) (hgap2 : GapT g2) : Fine (joinG g (lineT L L[i]) ++ g2) (lineT L L[i]) := by
  have := join_gap hgap hgap2 (lineT L L[i]) ⟨#[]⟩ [] Built.nil (line_words hg hi) (by simp [lineT])
  rw [nil_app] at this
  exact this
/-- Lines that tell the nodes of L from node k on, in order; empty ones between. -/
def LinesOf (L : List Nod) : List ByteArray → Nat → Prop
  | [], k => k = L.length
  | x :: X, k => badW x = none ∧ ((toksW x = [] ∧ LinesOf L X k) ∨ (∃ h : k < L.length, (toksW x).map Prod.fst = lineT L L[k] ∧ LinesOf L X (k + 1)))
theorem readN_lines {L : List Nod} (hg : grpB L = true) : ∀ (X : List ByteArray) (i k : Nat), k ≤ L.length → LinesOf L X k → readN X i (L.take k) = (L, 0, 0)
  | [], i, k, hk, h => by
    have hk' : k = L.length := h
    rw [readN, hk', List.take_length, if_pos hg]
  | x :: X, i, k, hk, ⟨hb, h⟩ => by
    rw [readN, hb, if_neg (by simp)]
    rcases h with ⟨h0, h1⟩ | ⟨hlt, h0, h1⟩
    · rw [if_pos h0]
      exact readN_lines hg X (i + 1) k hk h1
    · have hne : ¬ toksW x = [] := fun e => by rw [e] at h0; simp [lineT] at h0
      rw [if_neg hne, h0, line_back hg hlt, if_pos rfl]
      have := readN_lines hg X (i + 1) (k + 1) hlt h1
      rw [List.take_succ_eq_append_getElem hlt] at this
      exact this
theorem linesOf_all {L : List Nod} (hg : grpB L = true) (f : Nod → ByteArray) (hf : ∀ i (h : i < L.length), badW (f L[i]) = none ∧ (toksW (f L[i])).map Prod.fst = lineT L L[i]) : ∀ k, k ≤ L.length → LinesOf L ((L.drop k).map f) k := by
  have key : ∀ m k, L.length - k = m → k ≤ L.length → LinesOf L ((L.drop k).map f) k := by
    intro m
    induction m with
    | zero => intro k h1 h2; rw [List.drop_of_length_le (by omega)]; show k = L.length; omega
    | succ m ih =>
      intro k h1 h2
      rw [List.drop_eq_getElem_cons (by omega), List.map_cons]
      exact ⟨(hf k (by omega)).1, Or.inr ⟨by omega, (hf k (by omega)).2, ih (k + 1) (by omega) (by omega)⟩⟩
  exact fun k hk => key _ k rfl hk
theorem lineX_plain {L : List Nod} (hg : grpB L = true) : ∀ x ∈ L.map (lineX L), (∀ j, j < x.size → byteE x j ≠ 10) ∧ cutH x = x := by
  intro x hx
  obtain ⟨t, ht, rfl⟩ := List.mem_map.1 hx
  obtain ⟨i, hi, rfl⟩ := List.getElem_of_mem ht
  have hf := line_fine hg hi gap1
  exact ⟨fun j hj => (hf.bytes j hj).1, cutH_plain fun j hj => (hf.bytes j hj).2⟩
/-- What is shown is read as it. -/
theorem read_show {L : List Nod} (hg : grpB L = true) (hs : (showB L).size ≤ 3000) : readF (showB L) = (L, 0, 0) := by
  rw [readF, if_neg (by omega), showB_text, lines_text _ (fun x hx => (lineX_plain hg x hx).1)]
  have e : (L.map (lineX L)).map cutH = L.map (lineX L) := by
    have : ∀ X : List ByteArray, (∀ x ∈ X, cutH x = x) → X.map cutH = X := fun X hX => by
      induction X with
      | nil => rfl
      | cons x X ih => rw [List.map_cons, hX x (by simp), ih fun y hy => hX y (by simp [hy])]
    exact this _ fun x hx => (lineX_plain hg x hx).2
  rw [e]
  have h := linesOf_all hg (lineX L) (fun i hi => (line_fine hg hi gap1).2) 0 (Nat.zero_le _)
  rw [List.drop_zero] at h
  have := readN_lines hg _ 0 0 (Nat.zero_le _) h
  rw [List.take_zero] at this
  exact this
end Go.Proofs.YtkojdigaoihkpaaGreatDoor

end
section
namespace Go.Proofs.YtkojdigaoihkpaaGreatDoor
set_option linter.unusedVariables false
set_option linter.unusedSimpArgs false
set_option maxRecDepth 100000
open Go.RowKit

def widC (c : UInt8) : List UInt8 := if c.toNat = 32 then [32, 9, 32] else if c.toNat = 10 then [32, 35, 32, 115, 111, 10, 10] else [c]
def widL (u : List UInt8) : List UInt8 := u.flatMap widC
def rem0 : ByteArray := ⟨#[35, 32, 97, 32, 114, 101, 109, 97, 114, 107]⟩
def remS : ByteArray := ⟨#[32, 35, 32, 115, 111]⟩
def gapW : ByteArray := ⟨#[32, 9, 32]⟩
def wideB (s : ByteArray) : ByteArray := rem0 ++ nl ++ ⟨(widL s.data.toList).toArray⟩
theorem gapW_ok : GapT gapW := ⟨by decide, by decide, fun j hj => by
  have h3 : gapW.size = 3 := rfl
  have : j = 0 ∨ j = 1 ∨ j = 2 := by omega
  rcases this with rfl | rfl | rfl
  · exact Or.inl (by decide)
  · exact Or.inr (by decide)
  · exact Or.inl (by decide)⟩
theorem widL_app (u v : List UInt8) : widL (u ++ v) = widL u ++ widL v := by simp [widL]
theorem widL_same : ∀ u : List UInt8, (∀ c ∈ u, ¬ c.toNat = 32 ∧ ¬ c.toNat = 10) → widL u = u
  | [], _ => rfl
  | c :: r, h => by
    obtain ⟨h1, h2⟩ := h c (by simp)
    have := widL_same r fun x hx => h x (by simp [hx])
    rw [widL, List.flatMap_cons, widC, if_neg h1, if_neg h2, ← widL, this]
    rfl
theorem word_same {t : ByteArray} (h : WordT t) : widL t.data.toList = t.data.toList := by
  refine widL_same _ fun c hc => ?_
  rcases h with ⟨h, _⟩ | rfl
  · obtain ⟨j, hj, rfl⟩ := List.getElem_of_mem hc
    exact ⟨(okB_bytes _ _ (Nat.le_refl _) h j hj).1, (okB_plain false _ _ (Nat.le_refl _) h j hj).1⟩
  · have : c = 61 := by simpa using hc
    subst this
    decide
theorem join_wide : ∀ T : List ByteArray, (∀ t ∈ T, WordT t) → widL (joinG ⟨#[32]⟩ T).data.toList = (joinG gapW T).data.toList
  | [], _ => rfl
  | [t], h => word_same (h t (by simp))
  | t :: u :: r, h => by
    have ih := join_wide (u :: r) fun x hx => h x (by simp at hx ⊢; exact Or.inr hx)
    have e : ∀ g, joinG g (t :: u :: r) = t ++ g ++ joinG g (u :: r) := fun _ => rfl
    rw [e, e, app_list, app_list, widL_app, widL_app, ih, word_same (h t (by simp)), app_list, app_list]
    rfl
/-- What the widened text's lines are. -/
def wideY (L : List Nod) : List Nod → List ByteArray
  | [] => []
  | t :: r => (joinG gapW (lineT L t) ++ remS) :: ⟨#[]⟩ :: wideY L r
theorem wide_text {L : List Nod} (hw : ∀ t ∈ L, ∀ x ∈ lineT L t, WordT x) : ∀ R : List Nod, (∀ t ∈ R, t ∈ L) → widL (textB (R.map (lineX L))).data.toList = (textB (wideY L R)).data.toList
  | [], _ => rfl
  | t :: R, h => by
    have ih := wide_text hw R fun x hx => h x (by simp [hx])
    rw [List.map_cons, textB, wideY, textB, textB, app_list, app_list, widL_app, widL_app, ih, lineX, join_wide _ (hw t (h t (by simp)))]
    simp only [app_list, List.append_assoc]
    rfl
theorem hash_cut {x : ByteArray} (h : ∀ j, j < x.size → byteE x j ≠ 35) : cutH (x ++ remS) = x ++ ⟨#[32]⟩ := by
  have hs : (x ++ remS).size = x.size + 5 := by rw [app_size]; rfl
  have hm : ∀ m, m ≤ x.size + 1 → m ≤ cutN (x ++ remS) := by
    intro m
    induction m with
    | zero => intro _; exact Nat.zero_le _
    | succ m ih =>
      intro hm
      refine cutN_not (by omega) (ih (by omega)) ?_
      rw [← byteE_lt (by omega)]
      by_cases hx : m < x.size
      · rw [byteE_left _ _ _ hx]; exact h m hx
      · have e : m = x.size + 0 := by omega
        rw [e, byteE_right]; decide
  have hc : cutN (x ++ remS) = x.size + 1 := cutN_hit (by omega) (hm _ (Nat.le_refl _)) (by
    rw [← byteE_lt (by omega), byteE_right]; decide)
  rw [cutH, hc]
  have e : x ++ remS = (x ++ ⟨#[32]⟩) ++ ⟨#[35, 32, 115, 111]⟩ := by rw [app_assoc]; rfl
  rw [e, extract_left _ _ _ _ (by rw [app_size]; exact Nat.le_refl _)]
  rw [show x.size + 1 = (x ++ (⟨#[32]⟩ : ByteArray)).size by rw [app_size]; rfl]
  have h0 : ∀ y : ByteArray, y.extract 0 y.size = y := fun y => by simp
  exact h0 _
theorem wideY_lines {L : List Nod} (hg : grpB L = true) : ∀ m k, L.length - k = m → k ≤ L.length → (∀ x ∈ wideY L (L.drop k), ∀ j, j < x.size → byteE x j ≠ 10) ∧ LinesOf L ((wideY L (L.drop k)).map cutH) k := by
  intro m
  induction m with
  | zero =>
    intro k h1 h2
    rw [List.drop_of_length_le (by omega)]
    exact ⟨fun x hx => by simp [wideY] at hx, (by omega : k = L.length)⟩
  | succ m ih =>
    intro k h1 h2
    have hk : k < L.length := by omega
    obtain ⟨i1, i2⟩ := ih (k + 1) (by omega) (by omega)
    rw [List.drop_eq_getElem_cons hk, wideY]
    have hf := line_fine hg hk gapW_ok
    have hf2 := line_fine2 hg hk gapW_ok gap1
    refine ⟨fun x hx j hj => ?_, ?_⟩
    · rcases List.mem_cons.1 hx with rfl | hx
      · have hs : (joinG gapW (lineT L L[k]) ++ remS).size = (joinG gapW (lineT L L[k])).size + 5 := by rw [app_size]; rfl
        by_cases hx : j < (joinG gapW (lineT L L[k])).size
        · rw [byteE_left _ _ _ hx]; exact (hf.bytes j hx).1
        · obtain ⟨d, rfl⟩ : ∃ d, j = (joinG gapW (lineT L L[k])).size + d := ⟨j - (joinG gapW (lineT L L[k])).size, by omega⟩
          rw [byteE_right]
          have hd : d < 5 := by omega
          have : ∀ d, d < 5 → byteE remS d ≠ 10 := by decide
          exact this d hd
      · rcases List.mem_cons.1 hx with rfl | hx
        · exact absurd hj (by show ¬ j < 0; omega)
        · exact i1 x hx j hj
    · rw [List.map_cons, List.map_cons, hash_cut fun j hj => (hf.bytes j hj).2]
      exact ⟨hf2.2.1, Or.inr ⟨hk, hf2.2.2, by decide, Or.inl ⟨by decide, i2⟩⟩⟩
theorem read_wide {L : List Nod} (hg : grpB L = true) (hs : (wideB (showB L)).size ≤ 3000) : readF (wideB (showB L)) = (L, 0, 0) := by
  have hw : ∀ t ∈ L, ∀ x ∈ lineT L t, WordT x := fun t ht x hx => by
    obtain ⟨i, hi, rfl⟩ := List.getElem_of_mem ht
    exact line_words hg hi x hx
  have e : wideB (showB L) = textB (rem0 :: wideY L L) := by
    apply ext_list
    rw [wideB, textB, app_list, app_list]
    congr 1
    show widL (showB L).data.toList = _
    rw [showB_text]
    exact wide_text hw L fun _ h => h
  obtain ⟨h1, h2⟩ := wideY_lines hg _ 0 rfl (Nat.zero_le _)
  rw [List.drop_zero] at h1 h2
  rw [readF, if_neg (by omega), e, lines_text _ (fun x hx => by
    rcases List.mem_cons.1 hx with rfl | hx
    · have : ∀ j, j < 10 → byteE rem0 j ≠ 10 := by decide
      exact this
    · exact h1 x hx), List.map_cons]
  have h3 : LinesOf L (cutH rem0 :: (wideY L L).map cutH) 0 := by
    have hc : cutH rem0 = ⟨#[]⟩ := by
      rw [cutH, show cutN rem0 = 0 from by decide]
      rfl
    rw [hc]
    exact ⟨by decide, Or.inl ⟨by decide, h2⟩⟩
  have := readN_lines hg _ 0 0 (Nat.zero_le _) h3
  rw [List.take_zero] at this
  exact this
/- How long it is. -/
theorem widL_len : ∀ u : List UInt8, (widL u).length ≤ 3 * u.length + 4 * u.countP (fun c => decide (c.toNat = 10))
  | [] => Nat.zero_le _
  | c :: r => by
    have ih := widL_len r
    rw [widL, List.flatMap_cons, List.length_append, ← widL, List.length_cons, List.countP_cons, widC]
    split
    · rename_i h; simp; omega
    · split
      · rename_i h; simp [h]; omega
      · rename_i h; simp [h]; omega
theorem count_plain : ∀ u : List UInt8, (∀ j (h : j < u.length), ¬ (u[j]).toNat = 10) → u.countP (fun c => decide (c.toNat = 10)) = 0 := fun u h => by
  rw [List.countP_eq_zero]
  intro c hc
  obtain ⟨j, hj, rfl⟩ := List.getElem_of_mem hc
  simpa using h j hj
theorem text_count (X : List ByteArray) (hx : ∀ x ∈ X, ∀ j, j < x.size → byteE x j ≠ 10) : (textB X).data.toList.countP (fun c => decide (c.toNat = 10)) = X.length := by
  induction X with
  | nil => rfl
  | cons x X ih =>
    have h0 : x.data.toList.countP (fun c => decide (c.toNat = 10)) = 0 := count_plain _ fun j hj => by
      have := hx x (by simp) j (by rw [← len_list]; exact hj)
      rw [byteE_list, List.getD_eq_getElem?_getD, List.getElem?_eq_getElem hj, Option.getD_some] at this
      exact this
    rw [textB, app_list, app_list, List.countP_append, List.countP_append, h0, ih fun y hy => hx y (by simp [hy])]
    simp [nl]
    omega
theorem wide_size {L : List Nod} (hg : grpB L = true) (h9 : (showB L).size ≤ 900) : (wideB (showB L)).size ≤ 3000 := by
  obtain ⟨_, hl24⟩ : 1 ≤ L.length ∧ L.length ≤ 24 := by
    simp only [grpB, Bool.and_eq_true, decide_eq_true_eq] at hg
    exact ⟨hg.1.1.1.1, hg.1.1.1.2⟩
  have h1 := widL_len (showB L).data.toList
  have h2 : (showB L).data.toList.countP (fun c => decide (c.toNat = 10)) = L.length := by
    rw [showB_text, text_count _ (fun x hx => (lineX_plain hg x hx).1), List.length_map]
  have h3 : (wideB (showB L)).size = 11 + (widL (showB L).data.toList).length := by
    rw [wideB, app_size, app_size]
    show 10 + 1 + (widL (showB L).data.toList).toArray.size = _
    rw [List.size_toArray]
  rw [h2, len_list] at h1
  omega
end Go.Proofs.YtkojdigaoihkpaaGreatDoor

end
section
namespace Go.Proofs.YtkojdigaoihkpaaGreatDoor
set_option linter.unusedVariables false
set_option linter.unusedSimpArgs false
set_option maxRecDepth 100000
open Go.RowKit

theorem rune_two {s : ByteArray} {p r k : Nat} (hp : p < s.size) (hr : Utf8.decode s p = (r, k)) (h : letR r = true ∨ digR r = true) : k ≤ 2 := by
  by_cases hlo : r < 128
  · have := (dec_low hp hr hlo).1
    omega
  · have hle : letR r = true := by
      rcases h with h | h
      · exact h
      · simp only [digR, Bool.and_eq_true, decide_eq_true_eq] at h; omega
    simp only [letR, Bool.or_eq_true, Bool.and_eq_true, decide_eq_true_eq] at hle
    have h0 := dec_high hp hr (by omega)
    have hs := Lib.decodeN_shape (s.size - p) (s.get! p).toNat (s.get! (p + 1)).toNat (s.get! (p + 2)).toNat (s.get! (p + 3)).toNat
    rw [← Lib.decode_at, hr, get_in s p hp] at hs
    simp only [Prod.mk.injEq] at hs
    rcases hs with hs | hs | hs | hs | hs <;> omega
theorem nameN_size (s : ByteArray) : ∀ (f p n : Nat), p ≤ s.size → nameN s f p n = true → n ≤ 6 ∧ s.size - p ≤ 2 * (6 - n)
  | 0, _, _, _, h => by simp [nameN] at h
  | f + 1, p, n, hps, h => by
    by_cases hp : p < s.size
    · rw [nameN, if_pos hp] at h
      by_cases hl : (letR (Utf8.decode s p).1 || (decide (n ≠ 0) && digR (Utf8.decode s p).1)) = true
      · rw [if_pos hl] at h
        obtain ⟨⟨r, k⟩, hrk⟩ : ∃ x, Utf8.decode s p = x := ⟨_, rfl⟩
        rw [hrk] at h hl
        simp only at h hl
        have hle := decode_le s p hp
        rw [hrk] at hle
        simp only at hle
        have h2 := rune_two hp hrk (by
          simp only [Bool.or_eq_true, Bool.and_eq_true] at hl
          rcases hl with hl | hl
          · exact Or.inl hl
          · exact Or.inr hl.2)
        have ih := nameN_size s f (p + k) (n + 1) hle h
        omega
      · rw [if_neg hl] at h
        simp at h
    · rw [nameN, if_neg hp, decide_eq_true_eq] at h
      omega
theorem name_size {s : ByteArray} (h : nameB s = true) : s.size ≤ 12 := by
  have := nameN_size s _ 0 0 (Nat.zero_le _) h
  omega
theorem itoaB_size {n : Int} (h1 : -1073741824 ≤ n) (h2 : n ≤ 1073741824) : (itoaB n).size ≤ 11 := by
  show (Lib.itoa n).toArray.size ≤ 11
  rw [List.size_toArray, Lib.itoa]
  split
  · have := dec_len n.natAbs (by omega)
    rw [List.length_cons]
    omega
  · have := dec_len n.toNat (by omega)
    omega
theorem kindN_size {k : Nat} (h : k ≤ 15) : (kindN k).size ≤ 5 := by
  have h2 : ∀ k : Nat, k < 16 → (kindN k).size ≤ 5 := by decide
  exact h2 k (by omega)
theorem joinG_size (g : ByteArray) (hg : g.size ≤ 3) (b : Nat) : ∀ T : List ByteArray, (∀ t ∈ T, t.size ≤ b) → (joinG g T).size ≤ T.length * (b + 3)
  | [], _ => Nat.zero_le _
  | [t], h => by have := h t (by simp); show t.size ≤ 1 * (b + 3); omega
  | t :: u :: r, h => by
    have ih := joinG_size g hg b (u :: r) fun x hx => h x (by simp at hx ⊢; exact Or.inr hx)
    have h0 := h t (by simp)
    have e : joinG g (t :: u :: r) = t ++ g ++ joinG g (u :: r) := rfl
    rw [e, app_size, app_size, List.length_cons, Nat.add_mul]
    omega
theorem line_count {L : List Nod} (hg : grpB L = true) {i : Nat} (hi : i < L.length) : (lineT L L[i]).length ≤ 7 ∧ ∀ t ∈ lineT L L[i], t.size ≤ 12 := by
  have hnb := nodesB_at (grp_nodes hg) i hi
  obtain ⟨hn, _, hk15, hn1, hn2⟩ := grp_at hg hi
  have hf : frm L[i].kind L[i].n (askD L[i]) L[i].args.length = true := by
    have h := hnb
    simp only [nodeB, Bool.and_eq_true, may] at h
    have := h.2.1.1
    rwa [dimsAt_len] at this
  obtain ⟨hk, hc, hd, hno⟩ := frm_parts1 hf
  have hargs := fun x hx => argsB_lt (nodeB_args hnb) (x := x) hx
  have hokd := nodeB_okd hnb
  obtain ⟨o1, o2, o3, _⟩ := okd_parts hokd
  have hm := many_le L[i].kind.toNat
  generalize ht : L[i] = t at *
  obtain ⟨nm, kd, ar, ds, n⟩ := t
  simp only at hn hk15 hn1 hn2 hargs hokd hk hc hd hno o1 o2 o3 hm
  constructor
  · obtain ⟨k, rfl⟩ : ∃ k : Nat, kd = k := ⟨kd.toNat, by omega⟩
    rw [Int.toNat_natCast] at hc hm
    simp only [lineT, lineR, List.length_cons, List.length_append, List.length_map, Int.toNat_natCast]
    have hk' : k ≤ 15 := by omega
    have key : ∀ k : Nat, k < 16 → many k + ((if numbI k then 1 else 0) + (if askI (k : Int) then 3 else 0)) ≤ 4 := by decide
    have h4 := key k (by omega)
    have e1 : (if numbI k then [itoaB n] else []).length = if numbI k then 1 else 0 := by split <;> rfl
    have e2 : (if askI (k : Int) then ds.map itoaB else []).length ≤ if askI (k : Int) then 3 else 0 := by
      split
      · rw [List.length_map]; exact o2
      · exact Nat.le_refl _
    rw [e1]
    omega
  · intro t ht2
    simp only [lineT, lineR, List.mem_cons, List.mem_append, List.mem_map] at ht2
    rcases ht2 with rfl | rfl | rfl | ⟨a, ha, rfl⟩ | ht2 | ht2
    · exact name_size hn
    · decide
    · exact Nat.le_trans (kindN_size (by omega)) (by decide)
    · obtain ⟨h0, h1⟩ := hargs a ha
      rw [nameAt, List.getElem?_eq_getElem (by omega)]
      exact name_size (grp_at hg (by omega)).1
    · split at ht2
      · simp only [List.mem_cons, List.not_mem_nil, or_false] at ht2
        rw [ht2]
        exact Nat.le_trans (itoaB_size hn1 hn2) (by decide)
      · simp at ht2
    · split at ht2
      · obtain ⟨d, hd2, rfl⟩ := List.mem_map.1 ht2
        have := inr_mem o3 hd2
        exact Nat.le_trans (itoaB_size (by omega) (by omega)) (by decide)
      · simp at ht2
theorem lineX_size {L : List Nod} (hg : grpB L = true) {i : Nat} (hi : i < L.length) : (lineX L L[i]).size ≤ 105 := by
  obtain ⟨h1, h2⟩ := line_count hg hi
  have := joinG_size ⟨#[32]⟩ (by decide) 12 _ h2
  rw [lineX]
  omega
theorem textB_size (b : Nat) : ∀ X : List ByteArray, (∀ x ∈ X, x.size ≤ b) → (textB X).size ≤ X.length * (b + 1)
  | [], _ => Nat.zero_le _
  | x :: X, h => by
    have ih := textB_size b X fun y hy => h y (by simp [hy])
    have h0 := h x (by simp)
    have h1 : nl.size = 1 := rfl
    rw [textB, app_size, app_size, List.length_cons, Nat.add_mul]
    omega
theorem showN_size {L : List Nod} (hg : grpB L = true) (k : Nat) (hk : k ≤ L.length) : (showN L k).size ≤ 2544 := by
  obtain ⟨_, hl24⟩ : 1 ≤ L.length ∧ L.length ≤ 24 := by
    simp only [grpB, Bool.and_eq_true, decide_eq_true_eq] at hg
    exact ⟨hg.1.1.1.1, hg.1.1.1.2⟩
  have h := textB_size 105 ((L.take k).map (lineX L)) fun x hx => by
    obtain ⟨t, ht, rfl⟩ := List.mem_map.1 hx
    obtain ⟨i, hi, rfl⟩ := List.getElem_of_mem (List.mem_of_mem_take ht)
    exact lineX_size hg hi
  rw [List.length_map, List.length_take] at h
  rw [showN_text L k hk]
  have : min k L.length * 106 ≤ 24 * 106 := Nat.mul_le_mul_right _ (by omega)
  omega
theorem show_size {L : List Nod} (hg : grpB L = true) : (showB L).size ≤ 2544 := showN_size hg _ (Nat.le_refl _)
end Go.Proofs.YtkojdigaoihkpaaGreatDoor

end
section
namespace Go.Proofs.YtkojdigaoihkpaaGreatDoor
set_option linter.unusedVariables false
set_option linter.unusedSimpArgs false
set_option maxRecDepth 100000
open Go.RowKit

theorem read_show' {L : List Nod} (hg : grpB L = true) : readF (showB L) = (L, 0, 0) := read_show hg (by have := show_size hg; omega)
end Go.Proofs.YtkojdigaoihkpaaGreatDoor

end
section
namespace Go.Proofs.YtkojdigaoihkpaaGreatDoor
set_option linter.unusedVariables false
set_option linter.unusedSimpArgs false
set_option maxRecDepth 100000
open Go.RowKit

theorem kindG_at (s : ByteArray) : ∀ k, k < 16 → kindG s (kindsL.drop k) k = if kindN k = s then k else kindG s (kindsL.drop (k + 1)) (k + 1) := by
  intro k hk
  have h : kindsL.drop k = kindN k :: kindsL.drop (k + 1) := by
    have hl : k < kindsL.length := hk
    rw [List.drop_eq_getElem_cons hl, kindN, List.getD_eq_getElem?_getD, List.getElem?_eq_getElem hl]
    rfl
  rw [h, kindG]
theorem str_ne9 {a b : ByteArray} (h : ¬ a = b) : (a.toList == b.toList) = false := by
  rw [beq_eq_false_iff_ne]
  intro e
  rw [Lib.toList_data, Lib.toList_data] at e
  exact h (by cases a; cases b; simp only [ByteArray.mk.injEq]; exact Array.toList_inj.1 e)
end Go.Proofs.YtkojdigaoihkpaaGreatDoor

end
section
namespace Go.Proofs.YtkojdigaoihkpaaGreatDoor
set_option linter.unusedVariables false
set_option linter.unusedSimpArgs false
set_option maxRecDepth 100000
open Go.RowKit

/-- Words only. -/
def HoldsW (w : World) (v : Value) (T : List ByteArray) : Prop :=
  ∃ a c, v = .slice a T.length c ∧ T.length ≤ c ∧ ∀ j (h : j < T.length), ∃ b off, a = some ⟨b, off, none⟩ ∧ w.cell? ⟨b, off + j * 2, none⟩ = some (.string T[j])
theorem cellsT_at : ∀ (T : List Tok) (j : Nat) (h : j < T.length), (cellsT T)[j * 2]? = some (.string T[j].1)
  | t :: r, 0, h => rfl
  | t :: r, j + 1, h => by
    have e : (j + 1) * 2 = j * 2 + 2 := by omega
    rw [cellsT, e]
    show (cellsT r)[j * 2]? = _
    rw [cellsT_at r j (by simpa using h)]
    rfl
theorem HoldsC.words {w : World} {v : Value} {T : List Tok} (h : HoldsC w v T.length (cellsT T)) : HoldsW w v (T.map Prod.fst) := by
  obtain ⟨a, c, rfl, hn, hc⟩ := h
  refine ⟨a, c, by rw [List.length_map], by rw [List.length_map]; exact hn, fun j hj => ?_⟩
  rw [List.length_map] at hj
  obtain ⟨b, off, e1, e2⟩ := hc (j * 2) _ (cellsT_at T j hj)
  exact ⟨b, off, e1, by rw [e2, List.getElem_map]⟩
/-- Without the first k of them. -/
theorem HoldsW.drop {w : World} {a : Option Addr} {n c : Nat} {T : List ByteArray} (h : HoldsW w (.slice a n c) T) (k : Nat) (hk : k ≤ T.length) : HoldsW w (.slice (if c = k then a else a.map (·.add (k * 2))) (n - k) (c - k)) (T.drop k) := by
  obtain ⟨a', c', e, hn, hc⟩ := h
  simp only [Value.slice.injEq] at e
  obtain ⟨rfl, rfl, rfl⟩ := e
  refine ⟨_, _, by rw [List.length_drop], by rw [List.length_drop]; omega, fun j hj => ?_⟩
  rw [List.length_drop] at hj
  obtain ⟨b, off, rfl, hx⟩ := hc (k + j) (by omega)
  rw [if_neg (by omega)]
  refine ⟨b, off + k * 2, by simp [Addr.add], ?_⟩
  rw [show off + k * 2 + j * 2 = off + (k + j) * 2 by omega, hx, List.getElem_drop]
theorem HoldsW.first {w : World} {a : Option Addr} {n c : Nat} {t : ByteArray} {r : List ByteArray} (h : HoldsW w (.slice a n c) (t :: r)) : ∃ b off, a = some ⟨b, off, none⟩ ∧ n = r.length + 1 ∧ n ≤ c ∧ w.cell? ⟨b, off, none⟩ = some (.string t) := by
  obtain ⟨a', c', e, hn, hc⟩ := h
  simp only [Value.slice.injEq] at e
  obtain ⟨rfl, rfl, rfl⟩ := e
  obtain ⟨b, off, e1, e2⟩ := hc 0 (by simp)
  exact ⟨b, off, e1, rfl, hn, e2⟩
theorem HoldsW.three {w : World} {a : Option Addr} {n c : Nat} {t0 t1 t2 : ByteArray} {r : List ByteArray} (h : HoldsW w (.slice a n c) (t0 :: t1 :: t2 :: r)) : ∃ b off, a = some ⟨b, off, none⟩ ∧ n = r.length + 3 ∧ n ≤ c ∧ w.cell? ⟨b, off, none⟩ = some (.string t0) ∧ w.cell? ⟨b, off + 2, none⟩ = some (.string t1) ∧ w.cell? ⟨b, off + 4, none⟩ = some (.string t2) := by
  obtain ⟨a', c', e, hn, hc⟩ := h
  simp only [Value.slice.injEq] at e
  obtain ⟨rfl, rfl, rfl⟩ := e
  obtain ⟨b, off, rfl, e2⟩ := hc 0 (by simp)
  obtain ⟨b1, o1, e3, e4⟩ := hc 1 (by simp)
  obtain ⟨b2, o2, e5, e6⟩ := hc 2 (by simp)
  simp only [Option.some.injEq, Addr.mk.injEq] at e3 e5
  obtain ⟨rfl, rfl, _⟩ := e3
  obtain ⟨rfl, rfl, _⟩ := e5
  exact ⟨_, _, rfl, rfl, hn, e2, e4, e6⟩
theorem HoldsW.shape {w : World} {v : Value} {T : List ByteArray} (h : HoldsW w v T) : ∃ a c, v = .slice a T.length c ∧ T.length ≤ c := by
  obtain ⟨a, c, e, hn, _⟩ := h
  exact ⟨a, c, e, hn⟩
/-- Behind the dims. -/
noncomputable def lineD (L : List Nod) (t0 : ByteArray) (k : Nat) (A : List Int) (n : Int) (d : List Int) (T : List ByteArray) : Int × Nod :=
  if T = [] then (if 24 ≤ L.length then (2, nod0) else (inE k n d L A, ⟨t0, k, A, inR k n d L A, n⟩)) else (5, nod0)
noncomputable def lineG (L : List Nod) (t0 : ByteArray) (k : Nat) (A : List Int) (n : Int) (d : List Int) (j : Nat) (T : List ByteArray) : Int × Nod :=
  match dimsG j T with
  | none => (5, nod0)
  | some (d', r) => if d ++ d' = [] then (5, nod0) else lineD L t0 k A n (d ++ d') r
/-- Behind the number. -/
noncomputable def lineC (L : List Nod) (t0 : ByteArray) (k : Nat) (A : List Int) (n : Int) (T : List ByteArray) : Int × Nod :=
  if askI k then lineG L t0 k A n [] 3 T else lineD L t0 k A n [] T
/-- Behind the names. -/
noncomputable def lineB (L : List Nod) (t0 : ByteArray) (k : Nat) (A : List Int) (T : List ByteArray) : Int × Nod :=
  if numbI k then (match T with
    | [] => (5, nod0)
    | t :: r => if numK t.data.toList then lineC L t0 k A (numV t.data.toList) r else (5, nod0)) else lineC L t0 k A 0 T
/-- With j names to come. -/
noncomputable def lineA (L : List Nod) (t0 : ByteArray) (k : Nat) (A : List Int) (j : Nat) (T : List ByteArray) : Int × Nod :=
  match argsF L j T with
  | none => (5, nod0)
  | some (A', r) => lineB L t0 k (A ++ A') r
theorem lineA_zero (L : List Nod) (t0 : ByteArray) (k : Nat) (A : List Int) (T : List ByteArray) : lineA L t0 k A 0 T = lineB L t0 k A T := by
  rw [lineA, argsF]
  simp
theorem lineA_nil (L : List Nod) (t0 : ByteArray) (k : Nat) (A : List Int) (j : Nat) : lineA L t0 k A (j + 1) [] = (5, nod0) := by
  rw [lineA, argsF]
theorem lineA_cons (L : List Nod) (t0 : ByteArray) (k : Nat) (A : List Int) (j : Nat) (t : ByteArray) (T : List ByteArray) :
    lineA L t0 k A (j + 1) (t :: T) = if nameB t && decide (0 ≤ nmdN L t 0) then lineA L t0 k (A ++ [nmdN L t 0]) j T else (5, nod0) := by
  by_cases hb : (nameB t && decide (0 ≤ nmdN L t 0)) = true
  · rw [lineA, argsF, if_pos hb, if_pos hb, lineA]
    cases argsF L j T with
    | none => rfl
    | some p => simp
  · rw [lineA, argsF, if_neg hb, if_neg hb]
theorem lineG_nil (L : List Nod) (t0 : ByteArray) (k : Nat) (A : List Int) (n : Int) (d : List Int) (j : Nat) : lineG L t0 k A n d j [] = if d = [] then (5, nod0) else lineD L t0 k A n d [] := by
  cases j with
  | zero => rw [lineG, dimsG]; simp
  | succ j => rw [lineG, dimsG]; simp
theorem lineC_dims (L : List Nod) (t0 : ByteArray) (k : Nat) (A : List Int) (n : Int) (T : List ByteArray) : lineC L t0 k A n T = match dimsF k T with
    | none => (5, nod0)
    | some (d, r3) => lineD L t0 k A n d r3 := by
  rw [lineC, dimsF]
  split
  · rw [lineG]
    cases h : dimsG 3 T with
    | none => rfl
    | some p =>
      obtain ⟨d, r⟩ := p
      cases d with
      | nil => simp
      | cons x d => simp
  · rfl
theorem lineB_numb (L : List Nod) (t0 : ByteArray) (k : Nat) (A : List Int) (T : List ByteArray) : lineB L t0 k A T = match numbF k T with
    | none => (5, nod0)
    | some (n, r2) => lineC L t0 k A n r2 := by
  cases T with
  | nil =>
    simp only [lineB, numbF]
    split <;> rfl
  | cons t r =>
    simp only [lineB, numbF]
    by_cases h : numbI k = true
    · rw [if_pos h, if_pos h]
      by_cases h2 : numK t.data.toList = true
      · rw [if_pos h2, if_pos h2]
      · rw [if_neg h2, if_neg h2]
    · rw [if_neg h, if_neg h]
theorem lineB_no (L : List Nod) (t0 : ByteArray) (k : Nat) (A : List Int) (T : List ByteArray) (h : numbI k = false) : lineB L t0 k A T = lineC L t0 k A 0 T := by
  cases T with
  | nil => simp only [lineB, h]; rfl
  | cons t r => simp only [lineB, h]; rfl
theorem lineB_nil (L : List Nod) (t0 : ByteArray) (k : Nat) (A : List Int) (h : numbI k = true) : lineB L t0 k A [] = (5, nod0) := by
  simp only [lineB, h]
  rfl
theorem lineB_cons (L : List Nod) (t0 : ByteArray) (k : Nat) (A : List Int) (t : ByteArray) (T : List ByteArray) (h : numbI k = true) : lineB L t0 k A (t :: T) = if numK t.data.toList then lineC L t0 k A (numV t.data.toList) T else (5, nod0) := by
  simp only [lineB, h]
  rfl
/-- Is the line's head as it must be? -/
def headB (L : List Nod) (t0 t1 t2 : ByteArray) : Bool := nameB t0 && decide (nmdN L t0 0 < 0) && decide (t1 = ⟨#[61]⟩) && decide (kindF t2 ≠ 0)
theorem lineF_head (L : List Nod) (t0 t1 t2 : ByteArray) (r : List ByteArray) : lineF L (t0 :: t1 :: t2 :: r) = if headB L t0 t1 t2 then lineA L t0 (kindF t2) [] (many (kindF t2)) r else (5, nod0) := by
  rw [lineF, headB]
  split
  · rw [lineA]
    cases argsF L (many (kindF t2)) r with
    | none => rfl
    | some p =>
      obtain ⟨A, r1⟩ := p
      simp only [List.nil_append]
      rw [lineB_numb]
      cases numbF (kindF t2) r1 with
      | none => rfl
      | some q =>
        obtain ⟨n, r2⟩ := q
        simp only
        rw [lineC_dims]
        cases dimsF (kindF t2) r2 with
        | none => rfl
        | some u =>
          obtain ⟨d, r3⟩ := u
          simp only
          rw [lineD]
  · rfl
end Go.Proofs.YtkojdigaoihkpaaGreatDoor

end
section
namespace Go.Proofs.YtkojdigaoihkpaaGreatDoor
set_option linter.unusedVariables false
set_option linter.unusedSimpArgs false
set_option maxRecDepth 100000
open Go.RowKit

/-- What stands behind a kind's name. -/
def restL (k : Nat) : List Nat := if k = 1 ∨ k = 2 then [100] else if k = 3 then [110, 100] else if k = 4 ∨ k = 5 ∨ k = 6 ∨ k = 9 then [111, 111] else if k = 7 ∨ k = 10 ∨ k = 14 then [111] else if k = 8 ∨ k = 15 then [111, 110] else if k = 11 ∨ k = 12 ∨ k = 13 then [111, 100] else []
def restB (k : Nat) : ByteArray := ⟨((restL k).map fun c => UInt8.ofNat c).toArray⟩
def inKI (k : Int) : Bool := decide (1 ≤ k) && decide (k ≤ 15)
def nameI (k : Int) : ByteArray := if inKI k then kindN k.toNat else ⟨#[]⟩
def restI (k : Int) : ByteArray := if inKI k then restB k.toNat else ⟨#[]⟩
/-- Sign by sign: the names' numbers, the number, the dims. -/
noncomputable def partsL (L : List Nod) : List Nat → List Int → Int → List Int → List ByteArray → Option (List Int × Int × List Int)
  | [], A, n, D, T => if T = [] then some (A, n, D) else none
  | c :: R, A, n, D, [] => none
  | c :: R, A, n, D, t :: T =>
    if c = 111 then (if nmdN L t 0 < 0 then none else partsL L R (A ++ [nmdN L t 0]) n D T)
    else if c = 110 then (if numK t.data.toList then partsL L R A (numV t.data.toList) D T else none)
    else if c = 100 then (match dimsG (3 - D.length) (t :: T) with
      | none => none
      | some (d, r) => partsL L R A n (D ++ d) r)
    else partsL L R A n D (t :: T)
/-- What the parts make. -/
noncomputable def lineZ (L : List Nod) (t0 : ByteArray) (k : Nat) (o : Option (List Int × Int × List Int)) : Int × Nod := match o with
  | none => (5, nod0)
  | some (A, n, d) => if 24 ≤ L.length then (2, nod0) else (inE k n d L A, ⟨t0, k, A, inR k n d L A, n⟩)
theorem lineZ_nil (L : List Nod) (t0 : ByteArray) (k : Nat) (A : List Int) (n : Int) (D : List Int) (T : List ByteArray) : lineZ L t0 k (partsL L [] A n D T) = lineD L t0 k A n D T := by
  rw [partsL, lineD]
  split <;> rfl
theorem lineZ_dims (L : List Nod) (t0 : ByteArray) (k : Nat) (A : List Int) (n : Int) (T : List ByteArray) : lineZ L t0 k (partsL L [100] A n [] T) = lineG L t0 k A n [] 3 T := by
  cases T with
  | nil => rw [lineG_nil, if_pos rfl]; rfl
  | cons t T =>
    rw [partsL, if_neg (by decide), if_neg (by decide), if_pos rfl, lineG]
    have h3 : 3 - ([] : List Int).length = 3 := rfl
    rw [h3]
    cases h : dimsG 3 (t :: T) with
    | none => rfl
    | some p =>
      obtain ⟨d, r⟩ := p
      simp only [List.nil_append]
      have hd : d ≠ [] := by
        rw [dimsG] at h
        split at h
        · cases h2 : dimsG 2 T with
          | none => rw [h2] at h; simp at h
          | some q => rw [h2] at h; simp only [Option.map_some, Option.some.injEq, Prod.mk.injEq] at h; rw [← h.1]; simp
        · simp at h
      rw [if_neg hd, lineZ_nil]
theorem lineZ_numb (L : List Nod) (t0 : ByteArray) (k : Nat) (R : List Nat) (A : List Int) (n : Int) (D : List Int) (T : List ByteArray) : lineZ L t0 k (partsL L (110 :: R) A n D T) = match T with
    | [] => (5, nod0)
    | t :: T => if numK t.data.toList then lineZ L t0 k (partsL L R A (numV t.data.toList) D T) else (5, nod0) := by
  cases T with
  | nil => rfl
  | cons t T =>
    show lineZ L t0 k (partsL L (110 :: R) A n D (t :: T)) = (if numK t.data.toList then lineZ L t0 k (partsL L R A (numV t.data.toList) D T) else (5, nod0))
    rw [partsL, if_neg (by decide), if_pos rfl]
    by_cases h : numK t.data.toList = true
    · rw [if_pos h, if_pos h]
    · rw [if_neg h, if_neg h]
      rfl
theorem lineZ_name (L : List Nod) (hL : ∀ t, 0 ≤ nmdN L t 0 → nameB t = true) (t0 : ByteArray) (k : Nat) (R : List Nat) (A : List Int) (n : Int) (D : List Int) (T : List ByteArray) : lineZ L t0 k (partsL L (111 :: R) A n D T) = match T with
    | [] => (5, nod0)
    | t :: T => if nameB t && decide (0 ≤ nmdN L t 0) then lineZ L t0 k (partsL L R (A ++ [nmdN L t 0]) n D T) else (5, nod0) := by
  cases T with
  | nil => rfl
  | cons t T =>
    show lineZ L t0 k (partsL L (111 :: R) A n D (t :: T)) = (if nameB t && decide (0 ≤ nmdN L t 0) then lineZ L t0 k (partsL L R (A ++ [nmdN L t 0]) n D T) else (5, nod0))
    rw [partsL, if_pos rfl]
    by_cases h : nmdN L t 0 < 0
    · rw [if_pos h, if_neg (by simp; omega)]
      rfl
    · rw [if_neg h, if_pos (by rw [hL t (by omega)]; simp; omega)]
/-- All the kinds. -/
theorem lineZ_all (L : List Nod) (hL : ∀ t, 0 ≤ nmdN L t 0 → nameB t = true) (t0 : ByteArray) : ∀ (k : Nat), 1 ≤ k → k ≤ 15 → ∀ T, lineZ L t0 k (partsL L (restL k) [] 0 [] T) = lineA L t0 k [] (many k) T := by
  intro k h1 h2 T
  have hc : (k = 1 ∨ k = 2) ∨ k = 3 ∨ (k = 4 ∨ k = 5 ∨ k = 6 ∨ k = 9) ∨ (k = 7 ∨ k = 10 ∨ k = 14) ∨ (k = 8 ∨ k = 15) ∨ (k = 11 ∨ k = 12 ∨ k = 13) := by omega
  have e0 : ∀ k, lineZ L t0 k (partsL L [100] [] 0 [] T) = lineZ L t0 k (partsL L [100] [] 0 [] T) := fun _ => rfl
  rcases hc with hc | hc | hc | hc | hc | hc
  · have hr : restL k = [100] := by rcases hc with rfl | rfl <;> rfl
    have hm : many k = 0 := by rcases hc with rfl | rfl <;> rfl
    have hn : numbI k = false := by rcases hc with rfl | rfl <;> rfl
    have ha : askI k = true := by rcases hc with rfl | rfl <;> rfl
    rw [hr, hm, lineA_zero, lineB_no _ _ _ _ _ hn, lineC, if_pos ha, lineZ_dims]
  · subst hc
    have hn : numbI 3 = true := rfl
    have ha : askI ((3 : Nat) : Int) = true := rfl
    rw [show restL 3 = [110, 100] from rfl, show many 3 = 0 from rfl, lineA_zero, lineZ_numb]
    cases T with
    | nil => rw [lineB_nil _ _ _ _ hn]
    | cons t T =>
      rw [lineB_cons _ _ _ _ _ _ hn]
      simp only [lineC, ha, if_true, lineZ_dims]
  · have hr : restL k = [111, 111] := by rcases hc with rfl | rfl | rfl | rfl <;> rfl
    have hm : many k = 2 := by rcases hc with rfl | rfl | rfl | rfl <;> rfl
    have hn : numbI k = false := by rcases hc with rfl | rfl | rfl | rfl <;> rfl
    have ha : askI k = false := by rcases hc with rfl | rfl | rfl | rfl <;> rfl
    rw [hr, hm, lineZ_name L hL]
    cases T with
    | nil => rw [lineA_nil]
    | cons t T =>
      rw [lineA_cons]
      simp only [lineZ_name L hL]
      split
      · cases T with
        | nil => rw [lineA_nil]
        | cons u T =>
          rw [lineA_cons]
          simp only [lineZ_nil, lineA_zero, lineB_no _ _ _ _ _ hn, lineC, ha]
          rfl
      · rfl
  · have hr : restL k = [111] := by rcases hc with rfl | rfl | rfl <;> rfl
    have hm : many k = 1 := by rcases hc with rfl | rfl | rfl <;> rfl
    have hn : numbI k = false := by rcases hc with rfl | rfl | rfl <;> rfl
    have ha : askI k = false := by rcases hc with rfl | rfl | rfl <;> rfl
    rw [hr, hm, lineZ_name L hL]
    cases T with
    | nil => rw [lineA_nil]
    | cons t T =>
      rw [lineA_cons]
      simp only [lineZ_nil, lineA_zero, lineB_no _ _ _ _ _ hn, lineC, ha]
      rfl
  · have hr : restL k = [111, 110] := by rcases hc with rfl | rfl <;> rfl
    have hm : many k = 1 := by rcases hc with rfl | rfl <;> rfl
    have hn : numbI k = true := by rcases hc with rfl | rfl <;> rfl
    have ha : askI k = false := by rcases hc with rfl | rfl <;> rfl
    rw [hr, hm, lineZ_name L hL]
    cases T with
    | nil => rw [lineA_nil]
    | cons t T =>
      rw [lineA_cons]
      simp only [lineZ_numb, lineA_zero]
      split
      · cases T with
        | nil => rw [lineB_nil _ _ _ _ hn]
        | cons u T =>
          rw [lineB_cons _ _ _ _ _ _ hn]
          simp only [lineZ_nil, lineC, ha]
          rfl
      · rfl
  · have hr : restL k = [111, 100] := by rcases hc with rfl | rfl | rfl <;> rfl
    have hm : many k = 1 := by rcases hc with rfl | rfl | rfl <;> rfl
    have hn : numbI k = false := by rcases hc with rfl | rfl | rfl <;> rfl
    have ha : askI k = true := by rcases hc with rfl | rfl | rfl <;> rfl
    rw [hr, hm, lineZ_name L hL]
    cases T with
    | nil => rw [lineA_nil]
    | cons t T =>
      rw [lineA_cons]
      simp only [lineZ_dims, lineA_zero, lineB_no _ _ _ _ _ hn, lineC, ha, if_true]
/-- A line, by its head and its parts. -/
theorem lineF_parts (L : List Nod) (hL : ∀ t, 0 ≤ nmdN L t 0 → nameB t = true) (t0 t1 t2 : ByteArray) (r : List ByteArray) (hk : kindF t2 ≤ 15) :
    lineF L (t0 :: t1 :: t2 :: r) = if headB L t0 t1 t2 then lineZ L t0 (kindF t2) (partsL L (restL (kindF t2)) [] 0 [] r) else (5, nod0) := by
  rw [lineF_head]
  by_cases h : headB L t0 t1 t2 = true
  · rw [if_pos h, if_pos h]
    have h0 : kindF t2 ≠ 0 := by
      simp only [headB, Bool.and_eq_true, decide_eq_true_eq] at h
      exact h.2
    exact (lineZ_all L hL t0 _ (by omega) hk r).symm
  · rw [if_neg h, if_neg h]
theorem kindG_le (s : ByteArray) : ∀ (l : List ByteArray) (i : Nat), 0 < i → kindG s l i < i + l.length
  | [], i, hi => by simpa [kindG] using hi
  | t :: r, i, hi => by
    rw [kindG]
    split
    · simp
    · have := kindG_le s r (i + 1) (by omega)
      simp only [List.length_cons]
      omega
theorem kindF_le (s : ByteArray) : kindF s ≤ 15 := by
  have := kindG_le s (kindsL.drop 1) 1 (by omega)
  have hl : (kindsL.drop 1).length = 15 := rfl
  rw [kindF]
  omega
end Go.Proofs.YtkojdigaoihkpaaGreatDoor

end
