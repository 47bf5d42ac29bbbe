/- Joined: R1, R2. -/
import Derived.Test.YtjfkhfahpjdidaaGreatDoorSA
namespace Go.Proofs.YtjfkhfahpjdidaaGreatDoor
section
set_option linter.unusedVariables false
set_option linter.unusedSimpArgs false
set_option maxRecDepth 100000
open Go.RowKit

set_option maxHeartbeats 4000000 in
theorem in_any {v : Value} {A : List Int} {w : World} (n : Int) (hA : Ints w v A) (q : Bool) (hq : decide (n ∈ A) = q) :
    Calls Tryz.prog 34 #[v, .int .i64 n] w fun e w' => (∃ r : Int, e = .returned (.int .i64 r) ∧ decide (0 ≤ r) = q) ∧ w = w' := by
  have HQ : Hid (decide (n ∈ A) = q) := hq
  clear hq
  rcases hA.cases with ⟨rfl, a1, c1, rfl⟩ | ⟨b1, o1, c1, rfl, h0, h1, h2, h3⟩
  · have HQ2 : Hid (q = false) := by show _ = _; rw [← HQ.out]; rfl
    clear hA
    go_enter Tryz.func34, Tryz.ntmps34
    go_wp2
    refine wp_loop_rounds 1 ?_
    rw [rounds_succ]
    go_wp2
    go_ret
    exact ⟨⟨-1, rfl, by rw [HQ2.out]; rfl⟩, rfl⟩
  · have HA3 := h3
    clear hA
    unfold big at h2
    go_enter Tryz.func34, Tryz.ntmps34
    go_wp2
    go_loop [5] (fun i => ∃ k : Nat, k ≤ A.length ∧ i = .int .i64 k ∧ Hid (∀ j (h : j < A.length), j < k → ¬ A[j] = n)) (fun i => A.length - (intOf i).toNat)
    case atStart => exact ⟨0, Nat.zero_le _, rfl, fun j h1 h2 => by omega⟩
    case round =>
      obtain ⟨k, hk, rfl, HP⟩ := hrel
      by_cases hlt : k < A.length
      · have hx := h3.out k hlt
        obtain ⟨y, hy⟩ : ∃ y, A[k] = y := ⟨_, rfl⟩
        rw [hy] at hx
        have HY : Hid (A[k] = y) := hy
        clear hy
        by_cases e : y = n
        · have HQ2 : Hid (q = true) := by show _ = _; rw [← HQ.out]; exact decide_eq_true (by rw [← e, ← HY.out]; exact List.getElem_mem hlt)
          have hb : (y == n) = true := by simpa using e
          clear e
          go_wp2
          go_ret
          exact ⟨⟨k, rfl, by rw [HQ2.out]; exact decide_eq_true (by omega)⟩, rfl⟩
        · have HNE : Hid (¬ y = n) := e
          have hb : (y == n) = false := by simpa using e
          clear e
          go_wp2
          go_round
          case rel =>
            refine ⟨k + 1, by omega, by go_num, fun j h1 h2 => ?_⟩
            by_cases e : j = k
            · subst e; rw [HY.out]; exact HNE.out
            · exact HP.out j h1 (by omega)
          case measure => simp [intOf]; omega
      · have HQ2 : Hid (q = false) := by
          show _ = _
          rw [← HQ.out]
          refine decide_eq_false fun hm => ?_
          obtain ⟨j, hj, e⟩ := List.getElem_of_mem hm
          exact HP.out j hj (by omega) e
        go_wp2
        go_ret
        exact ⟨⟨-1, rfl, by rw [HQ2.out]; rfl⟩, rfl⟩
set_option maxHeartbeats 4000000 in
theorem rnamed_any {v : Value} {L : List Nod} {w : World} (h : NodesL w v L) (s : ByteArray) (x : Int) (hx : nmdN L s 0 = x) :
    Calls Tryz.prog 25 #[v, .string s] w fun e w' => e = .returned (.int .i64 x) ∧ w = w' := by
  have HN : Hid (NodesL w v L) := h
  have HX : Hid (nmdN (L.drop 0) s 0 = x) := hx
  obtain ⟨va, vc, rfl, hc1, hc2⟩ := h.shape
  unfold big at hc2
  clear h hx
  go_enter Tryz.func25, Tryz.ntmps25
  go_wp2
  go_loop [5] (fun i => ∃ k : Nat, k ≤ L.length ∧ i = .int .i64 k ∧ Hid (nmdN (L.drop k) s k = x)) (fun i => L.length - (intOf i).toNat)
  case atStart => exact ⟨0, Nat.zero_le _, rfl, HX.out⟩
  case round =>
    obtain ⟨k, hk, rfl, HI⟩ := hrel
    by_cases hlt : k < L.length
    · have HD : Hid (L.drop k = L[k] :: L.drop (k + 1)) := List.drop_eq_getElem_cons hlt
      obtain ⟨b, off, y0, y1, rfl, hnd⟩ := HN.out.row k hlt
      obtain ⟨t, ht⟩ : ∃ t, L[k] = t := ⟨_, rfl⟩
      rw [ht] at hnd HD
      have d0 := hnd.c0
      obtain ⟨nm, hnm⟩ : ∃ z, t.name = z := ⟨_, rfl⟩
      rw [hnm] at d0
      have g1 : (k : Int) < L.length := by omega
      clear hnd ht
      by_cases e : nm = s
      · have HV : Hid (x = (k : Int)) := by
          have h := HI.out
          rw [HD.out, nmdN, if_pos (hnm.trans e)] at h
          exact h.symm
        have hb : (nm.toList == s.toList) = true := by rw [e]; simp
        clear e HD hnm
        go_wp2
        go_ret
        exact ⟨by rw [HV.out]; rfl, rfl⟩
      · have HV : Hid (nmdN (L.drop (k + 1)) s (k + 1) = x) := by
          have h := HI.out
          rw [HD.out, nmdN, if_neg (by rw [hnm]; exact e)] at h
          exact h
        have hb : (nm.toList == s.toList) = false := by rw [beq_eq_false_iff_ne]; intro h; rw [Lib.toList_data, Lib.toList_data] at h; exact e (by cases nm; cases s; simp only [ByteArray.mk.injEq]; exact Array.toList_inj.1 h)
        clear e HD hnm
        go_wp2
        go_round
        case rel => exact ⟨k + 1, by omega, by go_num, HV.out⟩
        case measure => simp [intOf]; omega
    · have HV : Hid (x = -1) := by
        have h := HI.out
        rw [List.drop_of_length_le (by omega), nmdN] at h
        exact h.symm
      go_wp2
      go_ret
      exact ⟨by rw [HV.out]; rfl, rfl⟩
set_option maxHeartbeats 4000000 in
theorem ruses_any {v : Value} {L : List Nod} {w : World} (h : NodesL w v L) (i : Int) (hlen : L.length ≤ 1000000) :
    Calls Tryz.prog 16 #[v, .int .i64 i] w fun e w' => ∃ x, e = .returned x ∧ Own w' w.heap.size x (useN L i L.length) ∧ Below w.heap.size w w' := by
  have HN : Hid (NodesL w v L) := h
  obtain ⟨va, vc, rfl, hc1, hc2⟩ := h.shape
  obtain ⟨i3, hi, hz0, hz1, hz2⟩ := info3
  have HI : Hid (Tryz.prog.info? 3 = some i3) := hi
  have HZ0 : Hid (i3.zero = some (.int .i64 0)) := hz0
  have HZ1 : Hid (i3.size = 1) := hz1
  have HZ2 : Hid (i3.bytes = 8) := hz2
  clear h hi hz0 hz1 hz2
  go_enter Tryz.func16, Tryz.ntmps16
  go_wp2
  go_loopw [5, 6] (fun v i' w' => ∃ (k : Nat), k ≤ L.length ∧ i' = .int .i64 k ∧ Hid (Own w' w.heap.size v (useN L i k)) ∧ Below w.heap.size w w') (fun _ i _ => L.length - (intOf i).toNat)
  case atStart => exact ⟨0, Nat.zero_le _, rfl, Own.nil _ _, Below.refl _ _⟩
  case round =>
    obtain ⟨k, hk, rfl, HO, hbel⟩ := hrel
    have HB : Hid (Below w.heap.size w wr) := hbel
    have hsz := hbel.size
    clear hbel
    by_cases hlt : k < L.length
    · obtain ⟨b, off, y0, y1, rfl, hnd⟩ := (HN.out.later HB.out).row k hlt
      obtain ⟨t, ht⟩ : ∃ t, L[k] = t := ⟨_, rfl⟩
      rw [ht] at hnd
      have HL : Hid (L[k]? = some t) := by show _ = _; rw [List.getElem?_eq_getElem hlt, ht]
      have d2 := hnd.c2
      have HA : Hid (Ints wr y0 t.args) := hnd.a
      obtain ⟨ya, yn, yc, rfl⟩ := hnd.a.shape3
      have g1 : (k : Int) < L.length := by omega
      have hul := useN_len L i k
      clear hnd ht
      cases hm : decide (i ∈ t.args) with
      | false =>
        have HM : Hid (decide (i ∈ t.args) = false) := hm
        have HU : Hid (useN L i (k + 1) = useN L i k) := by show _ = _; rw [useN, HL.out]; simp only [hm]; simp
        clear hm
        go_wp2_with (go_at_call 34; refine (in_any i HA.out false HM.out).mono ?_; rintro e w2 ⟨⟨r, rfl, hr⟩, rfl⟩; have hr1 : ¬ (0 : Int) ≤ r := of_decide_eq_false hr; clear hr)
        go_roundw
        case rel => exact ⟨k + 1, by omega, by go_num, by show Own _ _ _ _; rw [HU.out]; exact HO.out, HB.out⟩
        case measure => simp [intOf]; omega
      | true =>
        have HM : Hid (decide (i ∈ t.args) = true) := hm
        have HU : Hid (useN L i (k + 1) = useN L i k ++ [(k : Int)]) := by show _ = _; rw [useN, HL.out]; simp only [hm]; simp
        clear hm
        go_wp2_with (first
          | (go_at_call 34; refine (in_any i HA.out true HM.out).mono ?_; rintro e w2 ⟨⟨r, rfl, hr⟩, rfl⟩; have hr1 : (0 : Int) ≤ r := of_decide_eq_true hr; clear hr)
          | (at_builtin; refine wpList_append_own _ rfl _ _ 23 rfl w.heap.size 3 i3 (.int .i64 0) 1 8 Tryz.underlying23 HI.out HZ0.out HZ1.out HZ2.out rfl (by decide) _ _ _ rfl (HO.out.row.alloc _) ⟨wr.heap.size, 0, none⟩ 1 1 [.int .i64 k] rfl rfl ?c1 ?c2 ?c3 ?c4 ?c5 ?_))
        case c1 => exact cell_one_new _ _ _
        case c2 => intro u hu; simp at hu; subst hu; rfl
        case c3 => unfold maxLen; omega
        case c4 => omega
        case c5 => simp; omega
        intro v1 w1 ho hg _
        have HO1 : Hid (Own w1 w.heap.size v1 (useN L i (k + 1))) := by
          refine ⟨?_, ?_⟩
          · rw [HU.out, List.length_append, List.map_append]
            exact ho
          · have := useN_len L i (k + 1)
            unfold big
            omega
        have HB1 : Hid (Below w.heap.size w w1) := (HB.out.alloc hsz _).grown hg (by simp; omega) (fun q hq => (HO.out.row.lt q hq).1)
        clear ho hg
        go_wp2
        go_roundw
        case rel => exact ⟨k + 1, by omega, by go_num, HO1.out, HB1.out⟩
        case measure => simp [intOf]; omega
    · have hk' : k = L.length := by omega
      subst hk'
      go_wp2
      go_ret
      exact ⟨_, rfl, HO.out, HB.out⟩
end
section
set_option linter.unusedVariables false
set_option linter.unusedSimpArgs false
set_option maxRecDepth 100000
open Go.RowKit

set_option maxHeartbeats 4000000 in
theorem rleaves_any {v : Value} {L : List Nod} {w : World} (h : NodesL w v L) (hlen : L.length ≤ 1000000) :
    Calls Tryz.prog 9 #[v] w fun e w' => ∃ x, e = .returned x ∧ Own w' w.heap.size x (lvN L 1 L.length ++ lvN L 2 L.length) ∧ Below w.heap.size w w' := by
  have HN : Hid (NodesL w v L) := h
  obtain ⟨va, vc, rfl, hc1, hc2⟩ := h.shape
  obtain ⟨i3, hi, hz0, hz1, hz2⟩ := info3
  have HI : Hid (Tryz.prog.info? 3 = some i3) := hi
  have HZ0 : Hid (i3.zero = some (.int .i64 0)) := hz0
  have HZ1 : Hid (i3.size = 1) := hz1
  have HZ2 : Hid (i3.bytes = 8) := hz2
  clear h hi hz0 hz1 hz2
  go_enter Tryz.func9, Tryz.ntmps9
  go_wp2
  refine wp_loop_rounds 3 ?_
  rw [rounds_succ]
  go_wp2
  go_loopw [3, 5] (fun v i' w' => ∃ (j : Nat), j ≤ L.length ∧ i' = .int .i64 j ∧ Hid (Own w' w.heap.size v (lvN L 1 j)) ∧ Below w.heap.size w w') (fun _ i _ => L.length - (intOf i).toNat)
  case atStart => exact ⟨0, Nat.zero_le _, rfl, by exact Own.nil _ _, by first | exact Below.refl _ _ | exact HB.out⟩
  case round =>
    obtain ⟨k, hk, rfl, HO, hbel⟩ := hrel
    have HB : Hid (Below w.heap.size w wr) := hbel
    have hsz := hbel.size
    clear hbel
    by_cases hlt : k < L.length
    · obtain ⟨b, off, y0, y1, rfl, hnd⟩ := (HN.out.later HB.out).row k hlt
      obtain ⟨t, ht⟩ : ∃ t, L[k] = t := ⟨_, rfl⟩
      rw [ht] at hnd
      have HL : Hid (L[k]? = some t) := by show _ = _; rw [List.getElem?_eq_getElem hlt, ht]
      obtain ⟨kd, hkd⟩ : ∃ z, t.kind = z := ⟨_, rfl⟩
      have d1 := hnd.c1
      rw [hkd] at d1
      have g1 : (k : Int) < L.length := by omega
      have hul := lvN_len L 1 L.length
      have hul2 := lvN_len L 1 k
      clear hnd ht
      by_cases hm : kd = 1
      · have HU : Hid (lvN L 1 (k + 1) = lvN L 1 k ++ [(k : Int)]) := by show _ = _; rw [lvN, HL.out]; simp only [hkd, hm, if_true]
        have hb : (kd == 1) = true := by simpa using hm
        clear hm hkd
        go_wp2_with (at_builtin; refine wpList_append_own _ rfl _ _ 23 rfl w.heap.size 3 i3 (.int .i64 0) 1 8 Tryz.underlying23 HI.out HZ0.out HZ1.out HZ2.out rfl (by decide) _ _ _ rfl (HO.out.row.alloc _) ⟨wr.heap.size, 0, none⟩ 1 1 [.int .i64 k] rfl rfl ?c1 ?c2 ?c3 ?c4 ?c5 ?_)
        case c1 => exact cell_one_new _ _ _
        case c2 => intro u hu; simp at hu; subst hu; rfl
        case c3 => unfold maxLen; first | omega | (simp only [List.length_append]; omega)
        case c4 => first | omega | (simp only [List.length_append]; omega)
        case c5 => first | (simp only [List.length_append]; omega) | (simp; omega)
        intro v1 w1 ho hg _
        have HO1 : Hid (Own w1 w.heap.size v1 (lvN L 1 (k + 1))) := by
          refine ⟨?_, ?_⟩
          · rw [HU.out]
            simp only [List.length_append, List.map_append, ← List.append_assoc, List.length_cons, List.length_nil, List.map_cons, List.map_nil, Nat.add_assoc] at ho ⊢
            exact ho
          · have h1 := lvN_len L 1 (k + 1)
            try simp only [List.length_append]
            unfold big
            omega
        have HB1 : Hid (Below w.heap.size w w1) := (HB.out.alloc hsz _).grown hg (by simp; omega) (fun q hq => (HO.out.row.lt q hq).1)
        clear ho hg
        go_wp2
        go_roundw
        case rel => exact ⟨k + 1, by omega, by go_num, HO1.out, HB1.out⟩
        case measure => simp [intOf]; omega
      · have HU : Hid (lvN L 1 (k + 1) = lvN L 1 k) := by show _ = _; rw [lvN, HL.out]; simp only [hkd, if_neg hm, List.append_nil]
        have hb : (kd == 1) = false := by simpa using hm
        clear hm hkd
        go_wp2
        go_roundw
        case rel => exact ⟨k + 1, by omega, by go_num, by show Own _ _ _ _; rw [HU.out]; exact HO.out, HB.out⟩
        case measure => simp [intOf]; omega
    · have hk' : k = L.length := by omega
      subst hk'
      go_wp2
      rw [rounds_succ]
      go_wp2
      go_loopw [3, 5] (fun v i' w' => ∃ (j : Nat), j ≤ L.length ∧ i' = .int .i64 j ∧ Hid (Own w' w.heap.size v (lvN L 1 L.length ++ lvN L 2 j)) ∧ Below w.heap.size w w') (fun _ i _ => L.length - (intOf i).toNat)
      case atStart => exact ⟨0, Nat.zero_le _, rfl, by show Own _ _ _ _; rw [lvN, List.append_nil]; exact HO.out, by first | exact Below.refl _ _ | exact HB.out⟩
      case round =>
        obtain ⟨k, hk, rfl, HO, hbel⟩ := hrel
        have HB : Hid (Below w.heap.size w wr) := hbel
        have hsz := hbel.size
        clear hbel
        by_cases hlt : k < L.length
        · obtain ⟨b, off, y0, y1, rfl, hnd⟩ := (HN.out.later HB.out).row k hlt
          obtain ⟨t, ht⟩ : ∃ t, L[k] = t := ⟨_, rfl⟩
          rw [ht] at hnd
          have HL : Hid (L[k]? = some t) := by show _ = _; rw [List.getElem?_eq_getElem hlt, ht]
          obtain ⟨kd, hkd⟩ : ∃ z, t.kind = z := ⟨_, rfl⟩
          have d1 := hnd.c1
          rw [hkd] at d1
          have g1 : (k : Int) < L.length := by omega
          have hul := lvN_len L 1 L.length
          have hul2 := lvN_len L 2 k
          clear hnd ht
          by_cases hm : kd = 2
          · have HU : Hid (lvN L 2 (k + 1) = lvN L 2 k ++ [(k : Int)]) := by show _ = _; rw [lvN, HL.out]; simp only [hkd, hm, if_true]
            have hb : (kd == 2) = true := by simpa using hm
            clear hm hkd
            go_wp2_with (at_builtin; refine wpList_append_own _ rfl _ _ 23 rfl w.heap.size 3 i3 (.int .i64 0) 1 8 Tryz.underlying23 HI.out HZ0.out HZ1.out HZ2.out rfl (by decide) _ _ _ rfl (HO.out.row.alloc _) ⟨wr.heap.size, 0, none⟩ 1 1 [.int .i64 k] rfl rfl ?c1 ?c2 ?c3 ?c4 ?c5 ?_)
            case c1 => exact cell_one_new _ _ _
            case c2 => intro u hu; simp at hu; subst hu; rfl
            case c3 => unfold maxLen; first | omega | (simp only [List.length_append]; omega)
            case c4 => first | omega | (simp only [List.length_append]; omega)
            case c5 => first | (simp only [List.length_append]; omega) | (simp; omega)
            intro v1 w1 ho hg _
            have HO1 : Hid (Own w1 w.heap.size v1 (lvN L 1 L.length ++ lvN L 2 (k + 1))) := by
              refine ⟨?_, ?_⟩
              · rw [HU.out]
                simp only [List.length_append, List.map_append, ← List.append_assoc, List.length_cons, List.length_nil, List.map_cons, List.map_nil, Nat.add_assoc] at ho ⊢
                exact ho
              · have h1 := lvN_len L 2 (k + 1)
                try simp only [List.length_append]
                unfold big
                omega
            have HB1 : Hid (Below w.heap.size w w1) := (HB.out.alloc hsz _).grown hg (by simp; omega) (fun q hq => (HO.out.row.lt q hq).1)
            clear ho hg
            go_wp2
            go_roundw
            case rel => exact ⟨k + 1, by omega, by go_num, HO1.out, HB1.out⟩
            case measure => simp [intOf]; omega
          · have HU : Hid (lvN L 2 (k + 1) = lvN L 2 k) := by show _ = _; rw [lvN, HL.out]; simp only [hkd, if_neg hm, List.append_nil]
            have hb : (kd == 2) = false := by simpa using hm
            clear hm hkd
            go_wp2
            go_roundw
            case rel => exact ⟨k + 1, by omega, by go_num, by show Own _ _ _ _; rw [HU.out]; exact HO.out, HB.out⟩
            case measure => simp [intOf]; omega
        · have hk' : k = L.length := by omega
          subst hk'
          go_wp2
          rw [rounds_succ]
          go_wp2
          go_ret
          exact ⟨_, rfl, HO.out, HB.out⟩
end
end Go.Proofs.YtjfkhfahpjdidaaGreatDoor
