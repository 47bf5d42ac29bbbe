/- Contract: the page's Lines. -/
import Derived.Test.YtipioeecgcljoaaDoorW6
namespace Go.Proofs.YtipioeecgcljoaaDoor
set_option linter.unusedVariables false
set_option linter.unusedSimpArgs false
set_option maxRecDepth 100000
open Go.RowKit

theorem rlines_long (s : ByteArray) (w : World) (hs : 3000 < s.size) :
    Calls Tryd.prog 17 #[.string s] w fun e w' => e = .returned (.tuple #[.slice none 0 0, .bool false]) ∧ w = w' := by
  have g : (3000 : Int) < (s.size : Int) := by omega
  go_enter Tryd.func17, Tryd.ntmps17
  go_wp2
  go_ret2
  exact ⟨rfl, rfl⟩
set_option maxHeartbeats 8000000 in
theorem rlines_ok (s : ByteArray) (w : World) (hs : s.size ≤ 3000) :
    Calls Tryd.prog 17 #[.string s] w fun e w' => ∃ v, e = .returned (.tuple #[v, .bool true]) ∧ Holds w' v (linesL s).length (cellsS (linesL s)) ∧ Below w.heap.size w w' := by
  have g0 : ¬ (3000 : Int) < (s.size : Int) := by omega
  obtain ⟨iT, hi, hz0, hz1, hz2⟩ := infoS
  have HI : Hid (Tryd.prog.info? 9 = some iT) := hi
  have HZ0 : Hid (iT.zero = some (.string ⟨#[]⟩)) := hz0
  have HZ1 : Hid (iT.size = 1) := hz1
  have HZ2 : Hid (iT.bytes = 16) := hz2
  clear hi hz0 hz1 hz2
  go_enter Tryd.func17, Tryd.ntmps17
  go_wp2
  go_loopw [4, 5, 6] (fun v fr i w' => ∃ (k : Nat), k ≤ s.size + 1 ∧ i = .int .i64 k ∧ fr = .int .i64 ((linSt s k).1 : Nat) ∧ Hid (w'.ownsRow w.heap.size 9 1 v (linSt s k).2.length (cellsS (linSt s k).2)) ∧ Hid (Below w.heap.size w w')) (fun _ _ i _ => s.size + 1 - (intOf i).toNat)
  case atStart => exact ⟨0, Nat.zero_le _, rfl, rfl, World.ownsRow_nil _ _ _ _, Below.refl _ _⟩
  case round =>
    obtain ⟨k, hk, rfl, rfl, HO, HB⟩ := hrel
    have hsz : w.heap.size ≤ wr.heap.size := HB.out.size
    have hlen := linSt_len s k
    have hz := linSt_le s k
    obtain ⟨⟨z, l⟩, hst⟩ : ∃ st, linSt s k = st := ⟨_, rfl⟩
    have HST : Hid (linSt s (k + 1) = linStep s k (z, l)) := by show _ = _; rw [linSt, hst]
    rw [hst] at HO hlen hz ⊢
    simp only at HO hlen hz ⊢
    have HEQ : k = s.size + 1 → (z, l) = linSt s (s.size + 1) := fun e => by rw [← hst, e]
    clear hst
    by_cases hle : k ≤ s.size
    · have gle : (k : Int) ≤ (s.size : Int) := by omega
      by_cases hlt : k < s.size
      · have glt : (k : Int) < (s.size : Int) := by omega
        have gk : ((k : Int) == (s.size : Int)) = false := by rw [beq_eq_false_iff_ne]; omega
        have hby := byteE_lt hlt
        obtain ⟨c, hc⟩ : ∃ c, s[k].toNat = c := ⟨_, rfl⟩
        have HBY : Hid (byteE s k = c) := by show _ = _; rw [hby, hc]
        clear hby
        by_cases h10 : c = 10
        · have e10 : ((c : Int) != 10) = false := by rw [bne_eq_false_iff_eq]; omega
          have HNX0 : Hid (linSt s (k + 1) = (k + 1, l ++ [cutH (s.extract z k)])) := by
            show _ = _
            rw [HST.out, linStep, if_neg (fun h => h.2 (by rw [HBY.out, h10])), if_neg (fun h => by omega)]
          clear h10
          obtain ⟨x0, hx0⟩ : ∃ x0, s.extract z k = x0 := ⟨_, rfl⟩
          have HX0 : Hid (s.extract z k = x0) := hx0
          have hxs : x0.size ≤ 1000000 := by rw [← hx0, ByteArray.size_extract]; omega
          go_wp2
          clear hx0
          go_loop [7, 8] (fun x j => ∃ (y : ByteArray) (m : Nat), x = .string y ∧ j = .int .i64 m ∧ Hid (CutI x0 y m)) (fun x j => strLen x + 1 - (intOf j).toNat)
          case atStart => exact ⟨x0, 0, rfl, rfl, Or.inl ⟨rfl, Nat.zero_le _, Nat.zero_le _⟩⟩
          case round =>
            obtain ⟨y, m, rfl, rfl, HC⟩ := hrel
            by_cases hm : m < y.size
            · rcases HC.out with ⟨rfl, h1, h2⟩ | ⟨_, h1⟩
              case inr => omega
              by_cases h35 : y[m].toNat = 35
              · have e1 : ((y[m].toNat : Int) == 35) = true := by rw [beq_iff_eq]; omega
                have hc := cutN_hit hm h2 h35
                have HY : Hid (y.extract 0 m = cutH y) := by show _ = _; rw [cutH, hc]
                have HZ : Hid ((cutH y).size = m) := by show _ = _; rw [cutH_size, hc]
                clear HC h1 h2 hc h35
                go_wp2
                go_round
                case rel => exact ⟨cutH y, m + 1, by rw [HY.out], by go_num, Or.inr ⟨rfl, by rw [HZ.out]⟩⟩
                case measure => have := HZ.out; rw [HY.out]; simp [intOf, strLen]; omega
              · have e1 : ((y[m].toNat : Int) == 35) = false := by rw [beq_eq_false_iff_ne]; omega
                have hc := cutN_not hm h2 h35
                have HC2 : Hid (CutI y y (m + 1)) := Or.inl ⟨rfl, by omega, hc⟩
                clear HC h1 h2 hc h35
                go_wp2
                go_round
                case rel => exact ⟨y, m + 1, rfl, by go_num, HC2.out⟩
                case measure => simp [intOf, strLen]; omega
            · have HYE : Hid (y = cutH x0) := by
                rcases HC.out with ⟨e, h1, h2⟩ | ⟨e, _⟩
                · subst e; exact (cutH_all (by omega)).symm
                · exact e
              clear HC
              have HNX : Hid (linSt s (k + 1) = (k + 1, l ++ [y])) := by show _ = _; rw [HNX0.out, HX0.out, HYE.out]
              go_wp2_with (at_builtin; (refine wpList_append_lies _ rfl _ _ 22 rfl w.heap.size 9 iT (.string ⟨#[]⟩) 1 16 Tryd.underlying22 HI.out HZ0.out HZ1.out HZ2.out rfl (by decide) u4 (l.length) (cellsS l) rfl ?c0 ⟨wr.heap.size, 0, none⟩ 1 1 [.string y] rfl rfl ?c1 ?c2 (by decide) ?c3 ?c4 ?c5 (wr.heap.size + 1) ?c6 ?_))
              try case c0 => exact World.ownsRow.alloc HO.out _
              try case c1 => exact World.news_of_block (heap_alloc_new wr (.cells #[.string y] 9))
              try case c2 => first | rfl | (intro u hu; simp only [List.mem_cons, List.not_mem_nil, or_false] at hu; subst hu; rfl)
              try case c3 => unfold maxLen; omega
              try case c4 => first | omega | (simp; omega)
              try case c5 => first | omega | (simp; omega)
              try case c6 => first | rfl | simp
              intro g cap w2 ho hg hat hlt2
              have hs2 := hg.size
              have HO2 : Hid (w2.ownsRow w.heap.size 9 1 (.slice (some ⟨g, 0, none⟩) (l.length + 1) cap) (l ++ [y]).length (cellsS (l ++ [y]))) := by show World.ownsRow _ _ _ _ _ _ _; rw [List.length_append, cellsS_snoc]; exact ho
              have HB2 : Hid (Below w.heap.size w w2) := (Below.push HB.out _).grown hg (by simp; omega) (fun q hq => (HO.out.lt q hq).1)
              clear ho hg hat
              go_wp2
              go_roundw
              case rel => exact ⟨k + 1, by omega, by go_num, by rw [HNX.out]; first | done | rfl | go_num, by rw [HNX.out]; exact HO2.out, HB2.out⟩
              case measure => simp [intOf]; omega
        · have e10 : ((c : Int) != 10) = true := by rw [bne_iff_ne]; omega
          have HNX : Hid (linSt s (k + 1) = (z, l)) := by
            show _ = _
            rw [HST.out, linStep, if_pos ⟨hlt, by rw [HBY.out]; exact h10⟩]
          go_wp2
          go_roundw
          case rel => exact ⟨k + 1, by omega, by go_num, by rw [HNX.out]; first | done | rfl | go_num, by rw [HNX.out]; exact HO.out, HB.out⟩
          case measure => simp [intOf]; omega
      · have glt : ¬ (k : Int) < (s.size : Int) := by omega
        have gk : ((k : Int) == (s.size : Int)) = true := by rw [beq_iff_eq]; omega
        have HNX0 : Hid (linSt s (k + 1) = (if (cutH (s.extract z k)).size = 0 then (z, l) else (k + 1, l ++ [cutH (s.extract z k)]))) := by
          show _ = _
          rw [HST.out, linStep, if_neg (fun h => by omega)]
          by_cases e : (cutH (s.extract z k)).size = 0
          · rw [if_pos e, if_pos ⟨by omega, e⟩]
          · rw [if_neg e, if_neg (fun h => e h.2)]
        obtain ⟨x0, hx0⟩ : ∃ x0, s.extract z k = x0 := ⟨_, rfl⟩
        have HX0 : Hid (s.extract z k = x0) := hx0
        have hxs : x0.size ≤ 1000000 := by rw [← hx0, ByteArray.size_extract]; omega
        go_wp2
        clear hx0
        go_loop [7, 8] (fun x j => ∃ (y : ByteArray) (m : Nat), x = .string y ∧ j = .int .i64 m ∧ Hid (CutI x0 y m)) (fun x j => strLen x + 1 - (intOf j).toNat)
        case atStart => exact ⟨x0, 0, rfl, rfl, Or.inl ⟨rfl, Nat.zero_le _, Nat.zero_le _⟩⟩
        case round =>
          obtain ⟨y, m, rfl, rfl, HC⟩ := hrel
          by_cases hm : m < y.size
          · rcases HC.out with ⟨rfl, h1, h2⟩ | ⟨_, h1⟩
            case inr => omega
            by_cases h35 : y[m].toNat = 35
            · have e1 : ((y[m].toNat : Int) == 35) = true := by rw [beq_iff_eq]; omega
              have hc := cutN_hit hm h2 h35
              have HY : Hid (y.extract 0 m = cutH y) := by show _ = _; rw [cutH, hc]
              have HZ : Hid ((cutH y).size = m) := by show _ = _; rw [cutH_size, hc]
              clear HC h1 h2 hc h35
              go_wp2
              go_round
              case rel => exact ⟨cutH y, m + 1, by rw [HY.out], by go_num, Or.inr ⟨rfl, by rw [HZ.out]⟩⟩
              case measure => have := HZ.out; rw [HY.out]; simp [intOf, strLen]; omega
            · have e1 : ((y[m].toNat : Int) == 35) = false := by rw [beq_eq_false_iff_ne]; omega
              have hc := cutN_not hm h2 h35
              have HC2 : Hid (CutI y y (m + 1)) := Or.inl ⟨rfl, by omega, hc⟩
              clear HC h1 h2 hc h35
              go_wp2
              go_round
              case rel => exact ⟨y, m + 1, rfl, by go_num, HC2.out⟩
              case measure => simp [intOf, strLen]; omega
          · have HYE : Hid (y = cutH x0) := by
              rcases HC.out with ⟨e, h1, h2⟩ | ⟨e, _⟩
              · subst e; exact (cutH_all (by omega)).symm
              · exact e
            clear HC
            by_cases hy0 : y.size = 0
            · have HL : Hid (l = linesL s) := by
                show _ = _
                have h := HNX0.out
                rw [HX0.out, ← HYE.out, if_pos hy0, show k + 1 = s.size + 1 from by omega] at h
                rw [linesL, h]
              have HLE : Hid (y.toList = []) := by
                show _ = _
                rw [Lib.toList_data]
                exact List.eq_nil_of_length_eq_zero (by rw [len_list]; exact hy0)
              have e0 : (y.toList == []) = true := by rw [HLE.out]; rfl
              go_wp2
              go_ret2
              have h := HO.out
              rw [HL.out] at h
              exact ⟨_, rfl, Holds.own h, HB.out⟩
            · have e0 : (y.toList == []) = false := by
                cases e : y.toList == [] with
                | false => rfl
                | true =>
                  exfalso
                  have e1 : y.toList = [] := by simpa using e
                  rw [Lib.toList_data] at e1
                  have e2 := len_list y
                  rw [e1] at e2
                  simp at e2
                  omega
              have HNX : Hid (linSt s (k + 1) = (k + 1, l ++ [y])) := by
                show _ = _
                rw [HNX0.out, HX0.out, ← HYE.out, if_neg hy0]
              go_wp2_with (at_builtin; (refine wpList_append_lies _ rfl _ _ 22 rfl w.heap.size 9 iT (.string ⟨#[]⟩) 1 16 Tryd.underlying22 HI.out HZ0.out HZ1.out HZ2.out rfl (by decide) u4 (l.length) (cellsS l) rfl ?d0 ⟨wr.heap.size, 0, none⟩ 1 1 [.string y] rfl rfl ?d1 ?d2 (by decide) ?d3 ?d4 ?d5 (wr.heap.size + 1) ?d6 ?_))
              try case d0 => exact World.ownsRow.alloc HO.out _
              try case d1 => exact World.news_of_block (heap_alloc_new wr (.cells #[.string y] 9))
              try case d2 => first | rfl | (intro u hu; simp only [List.mem_cons, List.not_mem_nil, or_false] at hu; subst hu; rfl)
              try case d3 => unfold maxLen; omega
              try case d4 => first | omega | (simp; omega)
              try case d5 => first | omega | (simp; omega)
              try case d6 => first | rfl | simp
              intro g cap w2 ho hg hat hlt2
              have hs2 := hg.size
              have HO2 : Hid (w2.ownsRow w.heap.size 9 1 (.slice (some ⟨g, 0, none⟩) (l.length + 1) cap) (l ++ [y]).length (cellsS (l ++ [y]))) := by show World.ownsRow _ _ _ _ _ _ _; rw [List.length_append, cellsS_snoc]; exact ho
              have HB2 : Hid (Below w.heap.size w w2) := (Below.push HB.out _).grown hg (by simp; omega) (fun q hq => (HO.out.lt q hq).1)
              clear ho hg hat
              go_wp2
              go_roundw
              case rel => exact ⟨k + 1, by omega, by go_num, by rw [HNX.out]; first | done | rfl | go_num, by rw [HNX.out]; exact HO2.out, HB2.out⟩
              case measure => simp [intOf]; omega
    · have gle : ¬ (k : Int) ≤ (s.size : Int) := by omega
      have HE : Hid ((z, l) = linSt s (s.size + 1)) := HEQ (by omega)
      go_wp2
      go_ret2
      have h := HO.out
      have e : l = linesL s := by rw [linesL, ← HE.out]
      rw [e] at h
      exact ⟨_, rfl, Holds.own h, HB.out⟩
end Go.Proofs.YtipioeecgcljoaaDoor
