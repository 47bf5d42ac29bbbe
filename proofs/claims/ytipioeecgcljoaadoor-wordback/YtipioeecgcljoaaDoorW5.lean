/- Contract: the page's Words, of a line that has no bad place. -/
import Derived.Test.YtipioeecgcljoaaDoorW4
namespace Go.Proofs.YtipioeecgcljoaaDoor
set_option linter.unusedVariables false
set_option linter.unusedSimpArgs false
set_option maxRecDepth 100000
open Go.RowKit

set_option maxHeartbeats 8000000 in
theorem rwords_ok (s : ByteArray) (w : World) (hs : s.size ≤ 1000000) (hT : Lib.Utf8Tabs 0 1 w) (hq : badW s = none) :
    Calls Tryd.prog 14 #[.string s] w fun e w' => ∃ v, e = .returned (.tuple #[v, .int .i64 0, .bool true]) ∧ Holds w' v (toksW s).length (cellsT (toksW s)) ∧ Below w.heap.size w w' := by
  have HT : Hid (Lib.Utf8Tabs 0 1 w) := hT
  have HQ0 : Hid (badN s (s.size + 1) 0 = none) := hq
  obtain ⟨iT, hi, hz0, hz1, hz2⟩ := infoK
  have HI : Hid (Tryd.prog.info? 53 = some iT) := hi
  have HZ0 : Hid (iT.zero = some (.agg #[.string ⟨#[]⟩, .int .i64 0])) := hz0
  have HZ1 : Hid (iT.size = 2) := hz1
  have HZ2 : Hid (iT.bytes = 24) := hz2
  clear hi hz0 hz1 hz2 hT hq
  go_enter Tryd.func14, Tryd.ntmps14
  go_wp2
  go_loopw [5] (fun i w' => ∃ (p f : Nat), p ≤ s.size ∧ i = .int .i64 p ∧ Hid (s.size - p < f ∧ badN s f p = none) ∧ Hid (Below w.heap.size w w')) (fun i _ => s.size - (intOf i).toNat)
  case atStart => exact ⟨0, s.size + 1, Nat.zero_le _, rfl, ⟨by omega, HQ0.out⟩, Below.refl _ _⟩
  case round =>
    obtain ⟨p, f, hp, rfl, HF, HB⟩ := hrel
    by_cases hlt : p < s.size
    · obtain ⟨⟨r, k⟩, hrk⟩ : ∃ x, Utf8.decode s p = x := ⟨_, rfl⟩
      have hk1 := decode_lo s p
      have hk2 := decode_le s p hlt
      rw [hrk] at hk1 hk2
      simp only at hk1 hk2
      obtain ⟨g, hg⟩ : ∃ g, f = g + 1 := ⟨f - 1, by have := HF.out.1; omega⟩
      subst hg
      have HF2 : Hid ((if badR r k = true then some p else badN s g (p + k)) = none) := by
        have h := HF.out.2
        rw [badN, if_pos hlt, hrk] at h
        exact h
      have HG : Hid (s.size - (p + k) < g) := by have := HF.out.1; show _ < _; omega
      have HRK : Hid (Utf8.decode s p = (r, k)) := hrk
      obtain ⟨b, hb⟩ : ∃ b, s.extract p s.size = b := ⟨_, rfl⟩
      have HD : Hid (∀ (w : World), Lib.Utf8Tabs 0 1 w → Calls Tryd.prog 26 #[.string b] w fun e w' => e = .returned (.tuple #[.int .i32 r, .int .i64 k]) ∧ Below w.heap.size w w') := fun w hT => by
        have h := decode_to s p hlt w hT r k HRK.out
        rw [hb] at h
        exact h
      clear HF hrk
      by_cases h1 : r = 65533
      · have HL : Hid (letR r = false) := by show _ = _; rw [h1]; rfl
        have HDG : Hid (digR r = false) := by show _ = _; rw [h1]; rfl
        have H1 : Hid (r = 65533) := h1
        have e1 : ((r : Int) == 65533) = true := by rw [beq_iff_eq]; omega
        have n45 : ((r : Int) != 45) = true := by rw [bne_iff_ne]; omega
        have n61 : ((r : Int) != 61) = true := by rw [bne_iff_ne]; omega
        have n32 : ((r : Int) != 32) = true := by rw [bne_iff_ne]; omega
        have n9 : ((r : Int) != 9) = true := by rw [bne_iff_ne]; omega
        by_cases hk3 : k ≤ 1
        · have g3 : (k : Int) ≤ 1 := by omega
          clear h1
          have h := HF2.out
          rw [if_pos (by rw [badR, H1.out]; simp [hk3])] at h
          simp at h
        · have g3 : ¬ (k : Int) ≤ 1 := by omega
          clear h1
          have h := HF2.out
          rw [if_pos (by rw [badR, HL.out, HDG.out, H1.out]; simp)] at h
          simp at h
      · have e1 : ((r : Int) == 65533) = false := by rw [beq_eq_false_iff_ne]; omega
        cases hl : letR r with
        | true =>
          have HL : Hid (letR r = true) := hl
          have HN : Hid (badN s g (p + k) = none) := by
            have h := HF2.out
            rw [if_neg (by rw [badR, hl]; simp [h1])] at h
            exact h
          clear HF2
          go_wp2_with (first
              | (go_at_call 26; refine (HD.out _ (Utf8Tabs_below HT.out HB.out)).mono ?_; rintro e w1 ⟨rfl, hb1⟩; have HB1 : Hid (Below w.heap.size w w1) := Below.after HB.out hb1; clear hb1)
              | (go_at_call 27; refine (rletter_to r _ true HL.out).mono ?_; rintro e w2 ⟨rfl, rfl⟩))
          go_roundw
          case rel => exact ⟨p + k, g, by omega, by go_num, ⟨HG.out, HN.out⟩, HB1.out⟩
          case measure => simp [intOf]; omega
        | false =>
          have HL : Hid (letR r = false) := hl
          cases hd : digR r with
          | true =>
            have HDG : Hid (digR r = true) := hd
            have HN : Hid (badN s g (p + k) = none) := by
              have h := HF2.out
              rw [if_neg (by rw [badR, hl, hd]; simp [h1])] at h
              exact h
            clear HF2
            go_wp2_with (first
                | (go_at_call 26; refine (HD.out _ (Utf8Tabs_below HT.out HB.out)).mono ?_; rintro e w1 ⟨rfl, hb1⟩; have HB1 : Hid (Below w.heap.size w w1) := Below.after HB.out hb1; clear hb1)
                | (go_at_call 27; refine (rletter_to r _ false HL.out).mono ?_; rintro e w2 ⟨rfl, rfl⟩)
                | (go_at_call 28; refine (rdigit_to r _ true HDG.out).mono ?_; rintro e w2 ⟨rfl, rfl⟩))
            go_roundw
            case rel => exact ⟨p + k, g, by omega, by go_num, ⟨HG.out, HN.out⟩, HB1.out⟩
            case measure => simp [intOf]; omega
          | false =>
            have HDG : Hid (digR r = false) := hd
            clear hl hd
            by_cases h45 : r = 45
            · have n45 : ((r : Int) != 45) = false := by rw [bne_eq_false_iff_eq]; omega
              have H9 : Hid (r = 45) := h45
              clear h45
              have HN : Hid (badN s g (p + k) = none) := by
                have h := HF2.out
                rw [if_neg (by rw [badR, H9.out]; simp)] at h
                exact h
              clear HF2
              go_wp2_with (first
                  | (go_at_call 26; refine (HD.out _ (Utf8Tabs_below HT.out HB.out)).mono ?_; rintro e w1 ⟨rfl, hb1⟩; have HB1 : Hid (Below w.heap.size w w1) := Below.after HB.out hb1; clear hb1)
                  | (go_at_call 27; refine (rletter_to r _ false HL.out).mono ?_; rintro e w2 ⟨rfl, rfl⟩)
                  | (go_at_call 28; refine (rdigit_to r _ false HDG.out).mono ?_; rintro e w2 ⟨rfl, rfl⟩))
              go_roundw
              case rel => exact ⟨p + k, g, by omega, by go_num, ⟨HG.out, HN.out⟩, HB1.out⟩
              case measure => simp [intOf]; omega
            · have n45 : ((r : Int) != 45) = true := by rw [bne_iff_ne]; omega
              by_cases h61 : r = 61
              · have n61 : ((r : Int) != 61) = false := by rw [bne_eq_false_iff_eq]; omega
                have H9 : Hid (r = 61) := h61
                clear h61
                have HN : Hid (badN s g (p + k) = none) := by
                  have h := HF2.out
                  rw [if_neg (by rw [badR, H9.out]; simp)] at h
                  exact h
                clear HF2
                go_wp2_with (first
                    | (go_at_call 26; refine (HD.out _ (Utf8Tabs_below HT.out HB.out)).mono ?_; rintro e w1 ⟨rfl, hb1⟩; have HB1 : Hid (Below w.heap.size w w1) := Below.after HB.out hb1; clear hb1)
                    | (go_at_call 27; refine (rletter_to r _ false HL.out).mono ?_; rintro e w2 ⟨rfl, rfl⟩)
                    | (go_at_call 28; refine (rdigit_to r _ false HDG.out).mono ?_; rintro e w2 ⟨rfl, rfl⟩))
                go_roundw
                case rel => exact ⟨p + k, g, by omega, by go_num, ⟨HG.out, HN.out⟩, HB1.out⟩
                case measure => simp [intOf]; omega
              · have n61 : ((r : Int) != 61) = true := by rw [bne_iff_ne]; omega
                by_cases h32 : r = 32
                · have n32 : ((r : Int) != 32) = false := by rw [bne_eq_false_iff_eq]; omega
                  have H9 : Hid (r = 32) := h32
                  clear h32
                  have HN : Hid (badN s g (p + k) = none) := by
                    have h := HF2.out
                    rw [if_neg (by rw [badR, H9.out]; simp)] at h
                    exact h
                  clear HF2
                  go_wp2_with (first
                      | (go_at_call 26; refine (HD.out _ (Utf8Tabs_below HT.out HB.out)).mono ?_; rintro e w1 ⟨rfl, hb1⟩; have HB1 : Hid (Below w.heap.size w w1) := Below.after HB.out hb1; clear hb1)
                      | (go_at_call 27; refine (rletter_to r _ false HL.out).mono ?_; rintro e w2 ⟨rfl, rfl⟩)
                      | (go_at_call 28; refine (rdigit_to r _ false HDG.out).mono ?_; rintro e w2 ⟨rfl, rfl⟩))
                  go_roundw
                  case rel => exact ⟨p + k, g, by omega, by go_num, ⟨HG.out, HN.out⟩, HB1.out⟩
                  case measure => simp [intOf]; omega
                · have n32 : ((r : Int) != 32) = true := by rw [bne_iff_ne]; omega
                  by_cases h9 : r = 9
                  · have n9 : ((r : Int) != 9) = false := by rw [bne_eq_false_iff_eq]; omega
                    have H9 : Hid (r = 9) := h9
                    clear h9
                    have HN : Hid (badN s g (p + k) = none) := by
                      have h := HF2.out
                      rw [if_neg (by rw [badR, H9.out]; simp)] at h
                      exact h
                    clear HF2
                    go_wp2_with (first
                        | (go_at_call 26; refine (HD.out _ (Utf8Tabs_below HT.out HB.out)).mono ?_; rintro e w1 ⟨rfl, hb1⟩; have HB1 : Hid (Below w.heap.size w w1) := Below.after HB.out hb1; clear hb1)
                        | (go_at_call 27; refine (rletter_to r _ false HL.out).mono ?_; rintro e w2 ⟨rfl, rfl⟩)
                        | (go_at_call 28; refine (rdigit_to r _ false HDG.out).mono ?_; rintro e w2 ⟨rfl, rfl⟩))
                    go_roundw
                    case rel => exact ⟨p + k, g, by omega, by go_num, ⟨HG.out, HN.out⟩, HB1.out⟩
                    case measure => simp [intOf]; omega
                  · have n9 : ((r : Int) != 9) = true := by rw [bne_iff_ne]; omega
                    have h := HF2.out
                    rw [if_pos (by rw [badR, HL.out, HDG.out]; simp [h45, h61, h32, h9])] at h
                    simp at h
    · obtain rfl : p = s.size := by omega
      clear HF hlt
      obtain ⟨wo, hwo⟩ : ∃ wo : World, wo = wr := ⟨_, rfl⟩
      rw [← hwo] at HB ⊢
      clear hwo
      go_wp2
      go_loopw [8, 9, 10] (fun v fr i w' => ∃ (k : Nat), k ≤ s.size + 1 ∧ i = .int .i64 k ∧ fr = fromV (tokSt s k).1 ∧ Hid (w'.ownsRow w.heap.size 53 2 v (tokSt s k).2.length (cellsT (tokSt s k).2)) ∧ Hid (Below w.heap.size w w')) (fun _ _ i _ => s.size + 1 - (intOf i).toNat)
      case atStart => exact ⟨0, Nat.zero_le _, rfl, rfl, World.ownsRow_nil _ _ _ _, HB.out⟩
      case round =>
        obtain ⟨k, hk, rfl, rfl, HO, HB⟩ := hrel
        have hsz : w.heap.size ≤ wr.heap.size := HB.out.size
        have hlen := tokSt_len s k
        have hfo := tokSt_lt s k
        obtain ⟨⟨fo, l⟩, hst⟩ : ∃ st, tokSt s k = st := ⟨_, rfl⟩
        have HST : Hid (tokSt s (k + 1) = tokStep s k (fo, l)) := by show _ = _; rw [tokSt, hst]
        rw [hst] at HO hlen hfo ⊢
        simp only at HO hlen hfo ⊢
        have HEQ : k = s.size + 1 → (fo, l) = tokSt s (s.size + 1) := fun e => by rw [← hst, e]
        clear hst
        by_cases hle : k ≤ s.size
        · have gle : (k : Int) ≤ (s.size : Int) := by omega
          by_cases hlt : k < s.size
          · have gk : ((k : Int) == (s.size : Int)) = false := by rw [beq_eq_false_iff_ne]; omega
            have hby := byteE_lt hlt
            obtain ⟨c, hc⟩ : ∃ c, s[k].toNat = c := ⟨_, rfl⟩
            have HBY : Hid (byteE s k = c) := by show _ = _; rw [hby, hc]
            clear hby
            by_cases h32 : c = 32
            · have n32 : ((c : Int) == 32) = true := by rw [beq_iff_eq]; omega
              have H9 : Hid (byteE s k = 32) := by show _ = _; rw [HBY.out, h32]
              clear h32
              cases fo with
              | none =>
                rw [show fromV none = .int .i64 (-1) from rfl]
                have HNX : Hid (tokSt s (k + 1) = (none, l)) := by
                  show _ = _
                  rw [HST.out, step_end (Or.inl H9.out)]
                  all_goals rfl
                go_wp2
                go_roundw
                case rel => exact ⟨k + 1, by omega, by go_num, by rw [HNX.out]; rfl, by rw [HNX.out]; exact HO.out, HB.out⟩
                case measure => simp [intOf]; omega
              | some z =>
                have hzk : z < k := hfo z rfl
                rw [show fromV (some z) = .int .i64 z from rfl]
                have HNX : Hid (tokSt s (k + 1) = (none, l ++ [(s.extract z k, z)])) := by
                  show _ = _
                  rw [HST.out, step_end (Or.inl H9.out)]
                  all_goals rfl
                go_wp2_with (at_builtin; refine wpList_append_lies _ rfl _ _ 35 rfl w.heap.size 53 iT (.agg #[.string ⟨#[]⟩, .int .i64 0]) 2 24 Tryd.underlying35 HI.out HZ0.out HZ1.out HZ2.out rfl (by decide) u8 (l.length) (cellsT l) rfl ?c0 ⟨wr.heap.size, 0, none⟩ 1 1 [.string (s.extract z k), .int .i64 z] rfl rfl ?c1 ?c2 (by decide) ?c3 ?c4 ?c5 (wr.heap.size + 1) ?c6 ?_)
                case c0 => exact World.ownsRow.alloc HO.out _
                case c1 => exact World.news_of_block (heap_alloc_new wr (.cells #[.string (s.extract z k), .int .i64 z] 53))
                case c2 => intro u hu; simp only [List.mem_cons, List.not_mem_nil, or_false] at hu; rcases hu with rfl | rfl <;> rfl
                case c3 => unfold maxLen; omega
                case c4 => omega
                case c5 => simp; omega
                case c6 => simp
                intro g cap w2 ho hg hat hlt2
                have hs2 := hg.size
                have HO2 : Hid (w2.ownsRow w.heap.size 53 2 (.slice (some ⟨g, 0, none⟩) (l.length + 1) cap) (l ++ [(s.extract z k, z)]).length (cellsT (l ++ [(s.extract z k, z)]))) := by show World.ownsRow _ _ _ _ _ _ _; rw [List.length_append, cellsT_snoc]; exact ho
                have HB2 : Hid (Below w.heap.size w w2) := (Below.push HB.out _).grown hg (by simp; omega) (fun q hq => (HO.out.lt q hq).1)
                clear ho hg hat
                go_wp2
                go_roundw
                case rel => exact ⟨k + 1, by omega, by go_num, by rw [HNX.out]; rfl, by rw [HNX.out]; exact HO2.out, HB2.out⟩
                case measure => simp [intOf]; omega
            · have n32 : ((c : Int) == 32) = false := by rw [beq_eq_false_iff_ne]; omega
              by_cases h9 : c = 9
              · have n9 : ((c : Int) == 9) = true := by rw [beq_iff_eq]; omega
                have H9 : Hid (byteE s k = 9) := by show _ = _; rw [HBY.out, h9]
                clear h9
                cases fo with
                | none =>
                  rw [show fromV none = .int .i64 (-1) from rfl]
                  have HNX : Hid (tokSt s (k + 1) = (none, l)) := by
                    show _ = _
                    rw [HST.out, step_end (Or.inr H9.out)]
                    all_goals rfl
                  go_wp2
                  go_roundw
                  case rel => exact ⟨k + 1, by omega, by go_num, by rw [HNX.out]; rfl, by rw [HNX.out]; exact HO.out, HB.out⟩
                  case measure => simp [intOf]; omega
                | some z =>
                  have hzk : z < k := hfo z rfl
                  rw [show fromV (some z) = .int .i64 z from rfl]
                  have HNX : Hid (tokSt s (k + 1) = (none, l ++ [(s.extract z k, z)])) := by
                    show _ = _
                    rw [HST.out, step_end (Or.inr H9.out)]
                    all_goals rfl
                  go_wp2_with (at_builtin; refine wpList_append_lies _ rfl _ _ 35 rfl w.heap.size 53 iT (.agg #[.string ⟨#[]⟩, .int .i64 0]) 2 24 Tryd.underlying35 HI.out HZ0.out HZ1.out HZ2.out rfl (by decide) u8 (l.length) (cellsT l) rfl ?c0 ⟨wr.heap.size, 0, none⟩ 1 1 [.string (s.extract z k), .int .i64 z] rfl rfl ?c1 ?c2 (by decide) ?c3 ?c4 ?c5 (wr.heap.size + 1) ?c6 ?_)
                  case c0 => exact World.ownsRow.alloc HO.out _
                  case c1 => exact World.news_of_block (heap_alloc_new wr (.cells #[.string (s.extract z k), .int .i64 z] 53))
                  case c2 => intro u hu; simp only [List.mem_cons, List.not_mem_nil, or_false] at hu; rcases hu with rfl | rfl <;> rfl
                  case c3 => unfold maxLen; omega
                  case c4 => omega
                  case c5 => simp; omega
                  case c6 => simp
                  intro g cap w2 ho hg hat hlt2
                  have hs2 := hg.size
                  have HO2 : Hid (w2.ownsRow w.heap.size 53 2 (.slice (some ⟨g, 0, none⟩) (l.length + 1) cap) (l ++ [(s.extract z k, z)]).length (cellsT (l ++ [(s.extract z k, z)]))) := by show World.ownsRow _ _ _ _ _ _ _; rw [List.length_append, cellsT_snoc]; exact ho
                  have HB2 : Hid (Below w.heap.size w w2) := (Below.push HB.out _).grown hg (by simp; omega) (fun q hq => (HO.out.lt q hq).1)
                  clear ho hg hat
                  go_wp2
                  go_roundw
                  case rel => exact ⟨k + 1, by omega, by go_num, by rw [HNX.out]; rfl, by rw [HNX.out]; exact HO2.out, HB2.out⟩
                  case measure => simp [intOf]; omega
              · have n9 : ((c : Int) == 9) = false := by rw [beq_eq_false_iff_ne]; omega
                by_cases h61 : c = 61
                · have n61 : ((c : Int) == 61) = true := by rw [beq_iff_eq]; omega
                  have H9 : Hid (byteE s k = 61) := by show _ = _; rw [HBY.out, h61]
                  clear h61
                  cases fo with
                  | none =>
                    rw [show fromV none = .int .i64 (-1) from rfl]
                    have HNX : Hid (tokSt s (k + 1) = (none, l ++ [(⟨#[61]⟩, k)])) := by
                      show _ = _
                      rw [HST.out, step_eq H9.out]
                      all_goals rfl
                    go_wp2_with (at_builtin; refine wpList_append_lies _ rfl _ _ 35 rfl w.heap.size 53 iT (.agg #[.string ⟨#[]⟩, .int .i64 0]) 2 24 Tryd.underlying35 HI.out HZ0.out HZ1.out HZ2.out rfl (by decide) u8 (l.length) (cellsT l) rfl ?c0 ⟨wr.heap.size, 0, none⟩ 1 1 [.string ⟨#[61]⟩, .int .i64 k] rfl rfl ?c1 ?c2 (by decide) ?c3 ?c4 ?c5 (wr.heap.size + 1) ?c6 ?_)
                    case c0 => exact World.ownsRow.alloc HO.out _
                    case c1 => exact World.news_of_block (heap_alloc_new wr (.cells #[.string ⟨#[61]⟩, .int .i64 k] 53))
                    case c2 => intro u hu; simp only [List.mem_cons, List.not_mem_nil, or_false] at hu; rcases hu with rfl | rfl <;> rfl
                    case c3 => unfold maxLen; omega
                    case c4 => omega
                    case c5 => simp; omega
                    case c6 => simp
                    intro g cap w2 ho hg hat hlt2
                    have hs2 := hg.size
                    have HO2 : Hid (w2.ownsRow w.heap.size 53 2 (.slice (some ⟨g, 0, none⟩) (l.length + 1) cap) (l ++ [((⟨#[61]⟩ : ByteArray), k)]).length (cellsT (l ++ [((⟨#[61]⟩ : ByteArray), k)]))) := by show World.ownsRow _ _ _ _ _ _ _; rw [List.length_append, cellsT_snoc]; exact ho
                    have HB2 : Hid (Below w.heap.size w w2) := (Below.push HB.out _).grown hg (by simp; omega) (fun q hq => (HO.out.lt q hq).1)
                    clear ho hg hat
                    go_wp2
                    go_roundw
                    case rel => exact ⟨k + 1, by omega, by go_num, by rw [HNX.out]; rfl, by rw [HNX.out]; exact HO2.out, HB2.out⟩
                    case measure => simp [intOf]; omega
                  | some z =>
                    have hzk : z < k := hfo z rfl
                    rw [show fromV (some z) = .int .i64 z from rfl]
                    have HNX : Hid (tokSt s (k + 1) = (none, l ++ [(s.extract z k, z)] ++ [(⟨#[61]⟩, k)])) := by
                      show _ = _
                      rw [HST.out, step_eq H9.out]
                      all_goals rfl
                    go_wp2_with (at_builtin; refine wpList_append_lies _ rfl _ _ 35 rfl w.heap.size 53 iT (.agg #[.string ⟨#[]⟩, .int .i64 0]) 2 24 Tryd.underlying35 HI.out HZ0.out HZ1.out HZ2.out rfl (by decide) u8 (l.length) (cellsT l) rfl ?c0 ⟨wr.heap.size, 0, none⟩ 1 1 [.string (s.extract z k), .int .i64 z] rfl rfl ?c1 ?c2 (by decide) ?c3 ?c4 ?c5 (wr.heap.size + 1) ?c6 ?_)
                    case c0 => exact World.ownsRow.alloc HO.out _
                    case c1 => exact World.news_of_block (heap_alloc_new wr (.cells #[.string (s.extract z k), .int .i64 z] 53))
                    case c2 => intro u hu; simp only [List.mem_cons, List.not_mem_nil, or_false] at hu; rcases hu with rfl | rfl <;> rfl
                    case c3 => unfold maxLen; omega
                    case c4 => omega
                    case c5 => simp; omega
                    case c6 => simp
                    intro g cap w2 ho hg hat hlt2
                    have hs2 := hg.size
                    have HO2 : Hid (w2.ownsRow w.heap.size 53 2 (.slice (some ⟨g, 0, none⟩) (l.length + 1) cap) (l.length + 1) (cellsT (l ++ [(s.extract z k, z)]))) := by show World.ownsRow _ _ _ _ _ _ _; rw [cellsT_snoc]; exact ho
                    have HB2 : Hid (Below w.heap.size w w2) := (Below.push HB.out _).grown hg (by simp; omega) (fun q hq => (HO.out.lt q hq).1)
                    have hw2 : w.heap.size ≤ w2.heap.size := HB2.out.size
                    clear ho hg hat
                    go_wp2_with (at_builtin; refine wpList_append_lies _ rfl _ _ 35 rfl w.heap.size 53 iT (.agg #[.string ⟨#[]⟩, .int .i64 0]) 2 24 Tryd.underlying35 HI.out HZ0.out HZ1.out HZ2.out rfl (by decide) (.slice (some ⟨g, 0, none⟩) (l.length + 1) cap) (l.length + 1) (cellsT (l ++ [(s.extract z k, z)])) rfl ?c0 ⟨w2.heap.size, 0, none⟩ 1 1 [.string ⟨#[61]⟩, .int .i64 k] rfl rfl ?c1 ?c2 (by decide) ?c3 ?c4 ?c5 (w2.heap.size + 1) ?c6 ?_)
                    case c0 => exact World.ownsRow.alloc HO2.out _
                    case c1 => exact World.news_of_block (heap_alloc_new w2 (.cells #[.string ⟨#[61]⟩, .int .i64 k] 53))
                    case c2 => intro u hu; simp only [List.mem_cons, List.not_mem_nil, or_false] at hu; rcases hu with rfl | rfl <;> rfl
                    case c3 => unfold maxLen; omega
                    case c4 => omega
                    case c5 => simp; omega
                    case c6 => simp
                    intro g3 cap3 w3 ho hg hat hlt3
                    have hs3 := hg.size
                    have HO3 : Hid (w3.ownsRow w.heap.size 53 2 (.slice (some ⟨g3, 0, none⟩) (l.length + 1 + 1) cap3) (l ++ [(s.extract z k, z)] ++ [((⟨#[61]⟩ : ByteArray), k)]).length (cellsT (l ++ [(s.extract z k, z)] ++ [((⟨#[61]⟩ : ByteArray), k)]))) := by show World.ownsRow _ _ _ _ _ _ _; rw [List.length_append, List.length_append, cellsT_snoc]; exact ho
                    have HB3 : Hid (Below w.heap.size w w3) := (Below.push HB2.out _).grown hg (by simp; omega) (fun q hq => (HO2.out.lt q hq).1)
                    clear ho hg hat
                    go_wp2
                    go_roundw
                    case rel => exact ⟨k + 1, by omega, by go_num, by rw [HNX.out]; rfl, by rw [HNX.out]; exact HO3.out, HB3.out⟩
                    case measure => simp [intOf]; omega
                · have n61 : ((c : Int) == 61) = false := by rw [beq_eq_false_iff_ne]; omega
                  cases fo with
                  | none =>
                    rw [show fromV none = .int .i64 (-1) from rfl]
                    have HNX : Hid (tokSt s (k + 1) = (some k, l)) := by
                      show _ = _
                      rw [HST.out, step_in (by rw [HBY.out]; exact h32) (by rw [HBY.out]; exact h9) (by rw [HBY.out]; exact h61)]
                      all_goals rfl
                    go_wp2
                    go_roundw
                    case rel => exact ⟨k + 1, by omega, by go_num, by rw [HNX.out]; rfl, by rw [HNX.out]; exact HO.out, HB.out⟩
                    case measure => simp [intOf]; omega
                  | some z =>
                    have hzk : z < k := hfo z rfl
                    rw [show fromV (some z) = .int .i64 z from rfl]
                    have HNX : Hid (tokSt s (k + 1) = (some z, l)) := by
                      show _ = _
                      rw [HST.out, step_in (by rw [HBY.out]; exact h32) (by rw [HBY.out]; exact h9) (by rw [HBY.out]; exact h61)]
                      all_goals rfl
                    go_wp2
                    go_roundw
                    case rel => exact ⟨k + 1, by omega, by go_num, by rw [HNX.out]; rfl, by rw [HNX.out]; exact HO.out, HB.out⟩
                    case measure => simp [intOf]; omega
          · have gk : ((k : Int) == (s.size : Int)) = true := by rw [beq_iff_eq]; omega
            have H9 : Hid (byteE s k = 32) := by show _ = _; rw [show k = s.size from by omega, byteE_end]
            cases fo with
            | none =>
              rw [show fromV none = .int .i64 (-1) from rfl]
              have HNX : Hid (tokSt s (k + 1) = (none, l)) := by
                show _ = _
                rw [HST.out, step_end (Or.inl H9.out)]
                all_goals rfl
              go_wp2
              go_roundw
              case rel => exact ⟨k + 1, by omega, by go_num, by rw [HNX.out]; rfl, by rw [HNX.out]; exact HO.out, HB.out⟩
              case measure => simp [intOf]; omega
            | some z =>
              have hzk : z < k := hfo z rfl
              rw [show fromV (some z) = .int .i64 z from rfl]
              have HNX : Hid (tokSt s (k + 1) = (none, l ++ [(s.extract z k, z)])) := by
                show _ = _
                rw [HST.out, step_end (Or.inl H9.out)]
                all_goals rfl
              go_wp2_with (at_builtin; refine wpList_append_lies _ rfl _ _ 35 rfl w.heap.size 53 iT (.agg #[.string ⟨#[]⟩, .int .i64 0]) 2 24 Tryd.underlying35 HI.out HZ0.out HZ1.out HZ2.out rfl (by decide) u8 (l.length) (cellsT l) rfl ?c0 ⟨wr.heap.size, 0, none⟩ 1 1 [.string (s.extract z k), .int .i64 z] rfl rfl ?c1 ?c2 (by decide) ?c3 ?c4 ?c5 (wr.heap.size + 1) ?c6 ?_)
              case c0 => exact World.ownsRow.alloc HO.out _
              case c1 => exact World.news_of_block (heap_alloc_new wr (.cells #[.string (s.extract z k), .int .i64 z] 53))
              case c2 => intro u hu; simp only [List.mem_cons, List.not_mem_nil, or_false] at hu; rcases hu with rfl | rfl <;> rfl
              case c3 => unfold maxLen; omega
              case c4 => omega
              case c5 => simp; omega
              case c6 => simp
              intro g cap w2 ho hg hat hlt2
              have hs2 := hg.size
              have HO2 : Hid (w2.ownsRow w.heap.size 53 2 (.slice (some ⟨g, 0, none⟩) (l.length + 1) cap) (l ++ [(s.extract z k, z)]).length (cellsT (l ++ [(s.extract z k, z)]))) := by show World.ownsRow _ _ _ _ _ _ _; rw [List.length_append, cellsT_snoc]; exact ho
              have HB2 : Hid (Below w.heap.size w w2) := (Below.push HB.out _).grown hg (by simp; omega) (fun q hq => (HO.out.lt q hq).1)
              clear ho hg hat
              go_wp2
              go_roundw
              case rel => exact ⟨k + 1, by omega, by go_num, by rw [HNX.out]; rfl, by rw [HNX.out]; exact HO2.out, HB2.out⟩
              case measure => simp [intOf]; omega
        · have gle : ¬ (k : Int) ≤ (s.size : Int) := by omega
          have HE : Hid ((fo, l) = tokSt s (s.size + 1)) := HEQ (by omega)
          go_wp2
          go_ret3
          have h := HO.out
          have e : l = toksW s := by rw [toksW, ← HE.out]
          rw [e] at h
          exact ⟨_, rfl, Holds.own h, HB.out⟩
end Go.Proofs.YtipioeecgcljoaaDoor
