/- Contracts: the page's EqTokens, EqStrings. -/
import Derived.Test.YtipioeecgcljoaaDoorW6
import Derived.Laws.StructEq
namespace Go.Proofs.YtipioeecgcljoaaDoor
set_option linter.unusedVariables false
set_option linter.unusedSimpArgs false
set_option maxRecDepth 100000
open Go.RowKit

theorem bytes_eq {a b : ByteArray} (h : a.toList = b.toList) : a = b := by
  rw [Lib.toList_data, Lib.toList_data] at h
  obtain ⟨⟨x⟩⟩ := a
  obtain ⟨⟨y⟩⟩ := b
  simp at h
  rw [h]
set_option maxHeartbeats 4000000 in
theorem eqstr_any {v v' : Value} {a b : List ByteArray} {w : World} (ha : Holds w v a.length (cellsS a)) (hb : Holds w v' b.length (cellsS b)) (hn : a.length ≤ 1000000000) :
    Calls Tryd.prog 18 #[v, v'] w fun e w' => e = .returned (.bool (decide (a = b))) ∧ ∃ n, w' = w.drewN n := by
  obtain ⟨pa, ca, rfl, ha⟩ := ha
  obtain ⟨pb, cb, rfl, hb⟩ := hb
  have HA : Hid (∀ j u, (cellsS a)[j]? = some u → ∃ b off, pa = some ⟨b, off, none⟩ ∧ w.cell? ⟨b, off + j, none⟩ = some u) := ha
  have HB : Hid (∀ j u, (cellsS b)[j]? = some u → ∃ b off, pb = some ⟨b, off, none⟩ ∧ w.cell? ⟨b, off + j, none⟩ = some u) := hb
  clear ha hb
  by_cases hl : a.length = b.length
  · have HL : Hid (a.length = b.length) := hl
    have hne : ((a.length : Int) != (b.length : Int)) = false := by rw [bne_eq_false_iff_eq]; omega
    clear hl
    go_enter Tryd.func18, Tryd.ntmps18
    go_wp2
    go_loopw [5] (fun i w' => ∃ k m : Nat, k ≤ a.length ∧ i = .int .i64 k ∧ w' = w.drewN m ∧ Hid (a.take k = b.take k)) (fun i _ => a.length - (intOf i).toNat)
    case atStart => exact ⟨0, 0, Nat.zero_le _, rfl, rfl, rfl⟩
    case round =>
      obtain ⟨k, m, hk, rfl, rfl, hpre⟩ := hrel
      by_cases hlt : k < a.length
      · have hlt' : k < b.length := by have := HL.out; omega
        have T1 : Hid (a.take (k + 1) = a.take k ++ [a[k]]) := List.take_succ_eq_append_getElem hlt
        have T2 : Hid (b.take (k + 1) = b.take k ++ [b[k]]) := List.take_succ_eq_append_getElem hlt'
        obtain ⟨A, hA⟩ : ∃ A, a[k] = A := ⟨_, rfl⟩
        obtain ⟨B, hB⟩ : ∃ B, b[k] = B := ⟨_, rfl⟩
        obtain ⟨g1, o1, ea, hx⟩ := HA.out k _ (cellsS_at a k hlt)
        obtain ⟨g2, o2, eb, hy⟩ := HB.out k _ (cellsS_at b k hlt')
        subst ea
        subst eb
        rw [hA] at hx T1
        rw [hB] at hy T2
        have HNE : ¬ A = B → Hid (¬ a = b) := fun h e => h (by rw [← hA, ← hB]; subst e; rfl)
        clear hA hB
        cases e1 : A.toList == B.toList with
        | true =>
          have HE : Hid (A = B) := bytes_eq (by simpa using e1)
          clear HNE
          go_wp2
          go_quiet (fail)
          go_wp2
          go_roundw
          case rel => exact ⟨k + 1, m + nq, by omega, by go_num, rfl, by show _ = _; rw [T1.out, T2.out, hpre.out, HE.out]⟩
          case measure => simp [intOf]; omega
        | false =>
          have HN : Hid (¬ a = b) := HNE (fun h => by subst h; simp at e1)
          clear HNE
          go_wp2
          go_quiet (fail)
          go_wp2
          go_ret
          exact ⟨by rw [decide_eq_false HN.out]; rfl, m + nq, by rw [World.drewN_drewN]⟩
      · have hk' : k = a.length := by omega
        have HE : Hid (a = b) := by
          have := hpre.out
          rw [List.take_of_length_le (by omega), List.take_of_length_le (by have := HL.out; omega)] at this
          exact this
        go_wp2
        go_ret
        exact ⟨by rw [decide_eq_true HE.out]; rfl, _, rfl⟩
  · have HN : Hid (¬ a = b) := fun e => hl (by rw [e])
    have hne : ((a.length : Int) != (b.length : Int)) = true := by rw [bne_iff_ne]; omega
    clear hl
    go_enter Tryd.func18, Tryd.ntmps18
    go_wp2
    go_ret
    exact ⟨by rw [decide_eq_false HN.out]; rfl, 0, rfl⟩
end Go.Proofs.YtipioeecgcljoaaDoor
