/- Contracts: the page's DimsOf, Tensors, EqTensors, Many, Asked. -/
import Derived.Test.YtheddpjaihhbdacGreatB1
namespace Go.Proofs.YtheddpjaihhbdacGreat
set_option linter.unusedVariables false
set_option linter.unusedSimpArgs false
set_option maxRecDepth 100000
open Go.RowKit

set_option maxHeartbeats 4000000 in
theorem dimsOf_any {v : Value} {L : List Ten} {w : World} (h : TensL w v L) (h2 : L.length ≤ 2) :
    Calls Tryz.prog 18 #[v] w fun e w' => ∃ v' xs, e = .returned v' ∧ Row w' w.heap.size v' (L.map Prod.fst) xs ∧ Below w.heap.size w w' := by
  obtain ⟨hlen, a, c, rfl, hc, HC0⟩ := h
  have HC : Hid (∀ i (h : i < L.length), ∃ b off x y, a = some ⟨b, off, none⟩ ∧ w.cell? ⟨b, off + i * 2, none⟩ = some x ∧ w.cell? ⟨b, off + i * 2 + 1, none⟩ = some y ∧ Tens w x y L[i]) := HC0
  obtain ⟨iT, hi, hz0, hz1, hz2⟩ := infoI
  have HI : Hid (Tryz.prog.info? 23 = some iT) := hi
  have HZ0 : Hid (iT.zero = some (.slice none 0 0)) := hz0
  have HZ1 : Hid (iT.size = 1) := hz1
  have HZ2 : Hid (iT.bytes = 24) := hz2
  clear hi hz0 hz1 hz2 HC0 hlen
  go_enter Tryz.func18, Tryz.ntmps18
  go_wp2
  go_loopw [3, 4] (fun v i w' => ∃ (k : Nat) (xs : List Value), k ≤ L.length ∧ i = .int .i64 k ∧ Hid (Row w' w.heap.size v ((L.take k).map Prod.fst) xs) ∧ Below w.heap.size w w') (fun _ i _ => L.length - (intOf i).toNat)
  case atStart => exact ⟨0, [], Nat.zero_le _, rfl, Row.none _ _, Below.refl _ _⟩
  case round =>
    obtain ⟨k, xs, hk, rfl, HO, hbel⟩ := hrel
    have HB : Hid (Below w.heap.size w wr) := hbel
    have hsz := hbel.size
    clear hbel
    by_cases hlt : k < L.length
    · obtain ⟨b, off, x, y, rfl, c0, c1, ht⟩ := HC.out k hlt
      have d0 := cell_later HB.out c0
      have HT : Hid (Ints w x L[k].1) := ht.1
      obtain ⟨xa, xn, xc, rfl⟩ := ht.1.shape3
      have hll : ((L.take k).map Prod.fst).length = k := by simp; omega
      clear c0 c1 ht
      have HR1 : Hid (Row (wr.alloc (.cells #[.slice xa xn xc] 23)) w.heap.size u3 ((L.take k).map Prod.fst) xs) := HO.out.later (Below.push (Below.refl _ _) _)
      go_wp2_with (at_builtin; refine wpList_append_lies _ rfl _ _ 26 rfl w.heap.size 23 iT (.slice none 0 0) 1 24 Tryz.underlying26 HI.out HZ0.out HZ1.out HZ2.out rfl (by decide) u3 k xs rfl ?c0 ⟨wr.heap.size, 0, none⟩ 1 1 [.slice xa xn xc] rfl rfl ?c1 ?c2 (by decide) ?c3 ?c4 ?c5 (wr.heap.size + 1) ?c6 ?_)
      case c0 => have := HR1.out.own; rw [hll] at this; exact this
      case c1 => exact World.news_of_block (heap_alloc_new wr (.cells #[.slice xa xn xc] 23))
      case c2 => intro u hu; simp only [List.mem_cons, List.not_mem_nil, or_false] at hu; subst hu; rfl
      case c3 => unfold maxLen; omega
      case c4 => omega
      case c5 => simp; omega
      case c6 => simp
      intro g cap w2 ho hg hat hlt2
      have hr := Row.app (E := [L[k].1]) (m := 1) HR1.out rfl (news := [.slice xa xn xc]) (fun i hi => by
        have h0 : i = 0 := by simp at hi; omega
        subst h0
        refine ⟨_, rfl, ?_⟩
        exact Elt.older HT.out (Below.push HB.out _) (fun q hq => (HO.out.lt q hq).1)) (by rw [hll]; exact ho) hg (by
          rcases hat with h | h
          · exact Or.inl h.symm
          · exact Or.inr (by rw [h]; simp [Value.ownBlock]))
      have HO2 : Hid (Row w2 w.heap.size (.slice (some ⟨g, 0, none⟩) (k + 1) cap) ((L.take (k + 1)).map Prod.fst) (xs ++ [.slice xa xn xc])) := by show Row _ _ _ _ _; rw [take_snocT L k hlt, List.map_append]; exact hr
      have HB2 : Hid (Below w.heap.size w w2) := (Below.push HB.out _).grown hg (by simp; omega) (fun q hq => (HO.out.lt q hq).1)
      clear ho hg hat hr
      go_wp2
      go_roundw
      case rel => exact ⟨k + 1, _, by omega, by go_num, HO2.out, HB2.out⟩
      case measure => simp [intOf]; omega
    · have hk' : k = L.length := by omega
      subst hk'
      go_wp2
      go_ret
      have h9 := HO.out
      rw [List.take_length] at h9
      exact ⟨_, _, rfl, h9, HB.out⟩
set_option maxHeartbeats 4000000 in
theorem rtensors_to {v : Value} {L : List Ten} {w : World} (q : Bool) (h : TensL w v L) (hq : L.all tok = q) :
    Calls Tryz.prog 23 #[v] w fun e w' => e = .returned (.bool q) ∧ Below w.heap.size w w' := by
  obtain ⟨hlen, a, c, rfl, hc, HC0⟩ := h
  have HC : Hid (∀ i (h : i < L.length), ∃ b off x y, a = some ⟨b, off, none⟩ ∧ w.cell? ⟨b, off + i * 2, none⟩ = some x ∧ w.cell? ⟨b, off + i * 2 + 1, none⟩ = some y ∧ Tens w x y L[i]) := HC0
  have HQ : Hid (L.all tok = q) := hq
  unfold big at hlen
  clear HC0 hq
  go_enter Tryz.func23, Tryz.ntmps23
  go_wp2
  go_loopw [3] (fun i w' => ∃ (k : Nat), k ≤ L.length ∧ i = .int .i64 k ∧ Hid (∀ j (h : j < L.length), j < k → tok L[j] = true) ∧ Hid (Below w.heap.size w w')) (fun i _ => L.length - (intOf i).toNat)
  case atStart => exact ⟨0, Nat.zero_le _, rfl, fun j h1 h2 => by omega, Below.refl _ _⟩
  case round =>
    obtain ⟨k, hk, rfl, HT, HB⟩ := hrel
    by_cases hlt : k < L.length
    · obtain ⟨b, off, x, y, rfl, c0, c1, ht⟩ := HC.out k hlt
      have d0 := cell_later HB.out c0
      have d1 := cell_later HB.out c1
      have HA : Hid (Tens wr x y L[k]) := ht.later HB.out
      obtain ⟨xa, xn, xc, rfl⟩ := ht.1.shape3
      obtain ⟨ya, yn, yc, rfl⟩ := ht.2.shape3
      clear c0 c1 ht
      cases hk2 : tok L[k] with
      | true =>
        have HK : Hid (tok L[k] = true) := hk2
        clear hk2
        go_wp2_with (go_at_call 12; refine (rtensor_to true HA.out HK.out).mono ?_; rintro e w1 ⟨rfl, hb1⟩; have HB1 : Hid (Below w.heap.size w w1) := Below.after HB.out hb1; clear hb1)
        go_roundw
        case rel =>
          refine ⟨k + 1, by omega, by go_num, fun j h1 h2 => ?_, HB1.out⟩
          by_cases e : j = k
          · subst e; exact HK.out
          · exact HT.out j h1 (by omega)
        case measure => simp [intOf]; omega
      | false =>
        have HK : Hid (tok L[k] = false) := hk2
        have HQ2 : Hid (q = false) := by
          show _ = _
          rw [← HQ.out, List.all_eq_false]
          exact ⟨L[k], List.getElem_mem hlt, by rw [hk2]; decide⟩
        clear hk2
        go_wp2_with (go_at_call 12; refine (rtensor_to false HA.out HK.out).mono ?_; rintro e w1 ⟨rfl, hb1⟩; have HB1 : Hid (Below w.heap.size w w1) := Below.after HB.out hb1; clear hb1)
        go_ret
        exact ⟨by rw [HQ2.out]; rfl, HB1.out⟩
    · have hk' : k = L.length := by omega
      have HQ2 : Hid (q = true) := by
        show _ = _
        rw [← HQ.out, List.all_eq_true]
        intro t ht
        obtain ⟨j, hj, rfl⟩ := List.getElem_of_mem ht
        exact HT.out j hj (by omega)
      clear hk'
      go_wp2
      go_ret
      exact ⟨by rw [HQ2.out]; rfl, HB.out⟩
set_option maxHeartbeats 4000000 in
theorem eqTs_to {v u : Value} {L : List Ten} {w : World} (h : TensL w v L) (h' : TensL w u L) :
    Calls Tryz.prog 28 #[v, u] w fun e w' => e = .returned (.bool true) ∧ Below w.heap.size w w' := by
  obtain ⟨hlen, a, c, rfl, hc, HC0⟩ := h
  obtain ⟨_, a', c', rfl, hc', HC1⟩ := h'
  have HC : Hid (∀ i (h : i < L.length), ∃ b off x y, a = some ⟨b, off, none⟩ ∧ w.cell? ⟨b, off + i * 2, none⟩ = some x ∧ w.cell? ⟨b, off + i * 2 + 1, none⟩ = some y ∧ Tens w x y L[i]) := HC0
  have HC' : Hid (∀ i (h : i < L.length), ∃ b off x y, a' = some ⟨b, off, none⟩ ∧ w.cell? ⟨b, off + i * 2, none⟩ = some x ∧ w.cell? ⟨b, off + i * 2 + 1, none⟩ = some y ∧ Tens w x y L[i]) := HC1
  unfold big at hlen
  clear HC0 HC1
  go_enter Tryz.func28, Tryz.ntmps28
  go_wp2
  go_loopw [5] (fun i w' => ∃ (k : Nat), k ≤ L.length ∧ i = .int .i64 k ∧ Hid (Below w.heap.size w w')) (fun i _ => L.length - (intOf i).toNat)
  case atStart => exact ⟨0, Nat.zero_le _, rfl, Below.refl _ _⟩
  case round =>
    obtain ⟨k, hk, rfl, HB⟩ := hrel
    by_cases hlt : k < L.length
    · obtain ⟨b, off, x, y, rfl, c0, c1, ht⟩ := HC.out k hlt
      obtain ⟨b', off', x', y', rfl, c0', c1', ht'⟩ := HC'.out k hlt
      have d0 := cell_later HB.out c0
      have d1 := cell_later HB.out c1
      have e0 := cell_later HB.out c0'
      have e1 := cell_later HB.out c1'
      have HA : Hid (Tens wr x y L[k]) := ht.later HB.out
      have HT : Hid (Tens wr x' y' L[k]) := ht'.later HB.out
      obtain ⟨xa, xn, xc, rfl⟩ := ht.1.shape3
      obtain ⟨ya, yn, yc, rfl⟩ := ht.2.shape3
      obtain ⟨za, zn, zc, rfl⟩ := ht'.1.shape3
      obtain ⟨ta, tn, tc, rfl⟩ := ht'.2.shape3
      clear c0 c1 ht c0' c1' ht'
      go_wp2_with fail
      go_region_held3 (fun w' => w'.cell? ⟨b, off + k * 2, none⟩ = some (.slice xa xn xc) ∧ w'.cell? ⟨b, off + k * 2 + 1, none⟩ = some (.slice ya yn yc) ∧ w'.cell? ⟨b', off' + k * 2, none⟩ = some (.slice za zn zc) ∧ w'.cell? ⟨b', off' + k * 2 + 1, none⟩ = some (.slice ta tn tc)) (go_keep)
        (first | (go_at_call 27; refine (eqt_to (s := L[k]) (t := L[k]) ?_ ?_ rfl).mono ?_; exact HA.out.later (Below.refl _ _).drew; exact HT.out.later (Below.refl _ _).drew; rintro r w2 ⟨rfl, hb2⟩; have HB2 : Hid (Below wr.heap.size wr w2) := Below.after (Below.refl _ _).drew hb2; have a_0 := cell_later HB2.out d0; have a_1 := cell_later HB2.out d1; have a_2 := cell_later HB2.out e0; have a_3 := cell_later HB2.out e1; clear hb2))
      clear a_0 a_1 a_2 a_3 d0 d1 e0 e1
      go_wp2
      go_roundw
      case rel => exact ⟨k + 1, by omega, by go_num, Below.after HB.out HB2.out⟩
      case measure => simp [intOf]; omega
    · have hk' : k = L.length := by omega
      subst hk'
      go_wp2
      go_ret
      exact ⟨rfl, HB.out⟩
def manyI (k : Int) : Int := if 1 ≤ k ∧ k ≤ 17 then (many k.toNat : Int) else -1
set_option maxHeartbeats 400000 in
theorem many_k1 (w : World) : Calls Tryz.prog 39 #[.int .i64 1] w fun e w' => e = .returned (.int .i64 (manyI 1)) ∧ w = w' := by
  go_enter Tryz.func39, Tryz.ntmps39
  go_wp2
  go_ret
  exact ⟨rfl, rfl⟩
set_option maxHeartbeats 400000 in
theorem many_k2 (w : World) : Calls Tryz.prog 39 #[.int .i64 2] w fun e w' => e = .returned (.int .i64 (manyI 2)) ∧ w = w' := by
  go_enter Tryz.func39, Tryz.ntmps39
  go_wp2
  go_ret
  exact ⟨rfl, rfl⟩
set_option maxHeartbeats 400000 in
theorem many_k3 (w : World) : Calls Tryz.prog 39 #[.int .i64 3] w fun e w' => e = .returned (.int .i64 (manyI 3)) ∧ w = w' := by
  go_enter Tryz.func39, Tryz.ntmps39
  go_wp2
  go_ret
  exact ⟨rfl, rfl⟩
set_option maxHeartbeats 400000 in
theorem many_k4 (w : World) : Calls Tryz.prog 39 #[.int .i64 4] w fun e w' => e = .returned (.int .i64 (manyI 4)) ∧ w = w' := by
  go_enter Tryz.func39, Tryz.ntmps39
  go_wp2
  go_ret
  exact ⟨rfl, rfl⟩
set_option maxHeartbeats 400000 in
theorem many_k5 (w : World) : Calls Tryz.prog 39 #[.int .i64 5] w fun e w' => e = .returned (.int .i64 (manyI 5)) ∧ w = w' := by
  go_enter Tryz.func39, Tryz.ntmps39
  go_wp2
  go_ret
  exact ⟨rfl, rfl⟩
set_option maxHeartbeats 400000 in
theorem many_k6 (w : World) : Calls Tryz.prog 39 #[.int .i64 6] w fun e w' => e = .returned (.int .i64 (manyI 6)) ∧ w = w' := by
  go_enter Tryz.func39, Tryz.ntmps39
  go_wp2
  go_ret
  exact ⟨rfl, rfl⟩
set_option maxHeartbeats 400000 in
theorem many_k7 (w : World) : Calls Tryz.prog 39 #[.int .i64 7] w fun e w' => e = .returned (.int .i64 (manyI 7)) ∧ w = w' := by
  go_enter Tryz.func39, Tryz.ntmps39
  go_wp2_with (go_at_call 41; refine (between_t _ _ _ _ (by decide) (by decide)).mono ?_; rintro e w2 ⟨rfl, rfl⟩)
  go_ret
  exact ⟨rfl, rfl⟩
set_option maxHeartbeats 400000 in
theorem many_k8 (w : World) : Calls Tryz.prog 39 #[.int .i64 8] w fun e w' => e = .returned (.int .i64 (manyI 8)) ∧ w = w' := by
  go_enter Tryz.func39, Tryz.ntmps39
  go_wp2_with (go_at_call 41; refine (between_t _ _ _ _ (by decide) (by decide)).mono ?_; rintro e w2 ⟨rfl, rfl⟩)
  go_ret
  exact ⟨rfl, rfl⟩
set_option maxHeartbeats 400000 in
theorem many_k9 (w : World) : Calls Tryz.prog 39 #[.int .i64 9] w fun e w' => e = .returned (.int .i64 (manyI 9)) ∧ w = w' := by
  go_enter Tryz.func39, Tryz.ntmps39
  go_wp2
  go_ret
  exact ⟨rfl, rfl⟩
set_option maxHeartbeats 400000 in
theorem many_k10 (w : World) : Calls Tryz.prog 39 #[.int .i64 10] w fun e w' => e = .returned (.int .i64 (manyI 10)) ∧ w = w' := by
  go_enter Tryz.func39, Tryz.ntmps39
  go_wp2_with (go_at_call 41; refine (between_t _ _ _ _ (by decide) (by decide)).mono ?_; rintro e w2 ⟨rfl, rfl⟩)
  go_ret
  exact ⟨rfl, rfl⟩
set_option maxHeartbeats 400000 in
theorem many_k11 (w : World) : Calls Tryz.prog 39 #[.int .i64 11] w fun e w' => e = .returned (.int .i64 (manyI 11)) ∧ w = w' := by
  go_enter Tryz.func39, Tryz.ntmps39
  go_wp2_with (go_at_call 41; refine (between_t _ _ _ _ (by decide) (by decide)).mono ?_; rintro e w2 ⟨rfl, rfl⟩)
  go_ret
  exact ⟨rfl, rfl⟩
set_option maxHeartbeats 400000 in
theorem many_k12 (w : World) : Calls Tryz.prog 39 #[.int .i64 12] w fun e w' => e = .returned (.int .i64 (manyI 12)) ∧ w = w' := by
  go_enter Tryz.func39, Tryz.ntmps39
  go_wp2_with (go_at_call 41; refine (between_t _ _ _ _ (by decide) (by decide)).mono ?_; rintro e w2 ⟨rfl, rfl⟩)
  go_ret
  exact ⟨rfl, rfl⟩
set_option maxHeartbeats 400000 in
theorem many_k13 (w : World) : Calls Tryz.prog 39 #[.int .i64 13] w fun e w' => e = .returned (.int .i64 (manyI 13)) ∧ w = w' := by
  go_enter Tryz.func39, Tryz.ntmps39
  go_wp2_with (go_at_call 41; refine (between_t _ _ _ _ (by decide) (by decide)).mono ?_; rintro e w2 ⟨rfl, rfl⟩)
  go_ret
  exact ⟨rfl, rfl⟩
set_option maxHeartbeats 400000 in
theorem many_k14 (w : World) : Calls Tryz.prog 39 #[.int .i64 14] w fun e w' => e = .returned (.int .i64 (manyI 14)) ∧ w = w' := by
  go_enter Tryz.func39, Tryz.ntmps39
  go_wp2_with (go_at_call 41; refine (between_t _ _ _ _ (by decide) (by decide)).mono ?_; rintro e w2 ⟨rfl, rfl⟩)
  go_ret
  exact ⟨rfl, rfl⟩
set_option maxHeartbeats 400000 in
theorem many_k15 (w : World) : Calls Tryz.prog 39 #[.int .i64 15] w fun e w' => e = .returned (.int .i64 (manyI 15)) ∧ w = w' := by
  go_enter Tryz.func39, Tryz.ntmps39
  go_wp2_with (go_at_call 41; refine (between_t _ _ _ _ (by decide) (by decide)).mono ?_; rintro e w2 ⟨rfl, rfl⟩)
  go_ret
  exact ⟨rfl, rfl⟩
set_option maxHeartbeats 400000 in
theorem many_k16 (w : World) : Calls Tryz.prog 39 #[.int .i64 16] w fun e w' => e = .returned (.int .i64 (manyI 16)) ∧ w = w' := by
  go_enter Tryz.func39, Tryz.ntmps39
  go_wp2
  go_ret
  exact ⟨rfl, rfl⟩
set_option maxHeartbeats 400000 in
theorem many_k17 (w : World) : Calls Tryz.prog 39 #[.int .i64 17] w fun e w' => e = .returned (.int .i64 (manyI 17)) ∧ w = w' := by
  go_enter Tryz.func39, Tryz.ntmps39
  go_wp2
  go_ret
  exact ⟨rfl, rfl⟩
set_option maxHeartbeats 1000000 in
theorem many_none (k : Int) (w : World) (h : ¬ (1 ≤ k ∧ k ≤ 17)) : Calls Tryz.prog 39 #[.int .i64 k] w fun e w' => e = .returned (.int .i64 (manyI k)) ∧ w = w' := by
  have HE : Hid (manyI k = -1) := by show _ = _; rw [manyI, if_neg h]
  have HN : Hid (k < 7 ∨ 15 < k) := by show _ ∨ _; omega
  have h1 : ¬ k = 1 := by omega
  have h2 : ¬ k = 2 := by omega
  have h3 : ¬ k = 3 := by omega
  have h4 : ¬ k = 4 := by omega
  have h5 : ¬ k = 5 := by omega
  have h6 : ¬ k = 6 := by omega
  have h9 : ¬ k = 9 := by omega
  have h16 : ¬ k = 16 := by omega
  have h17 : ¬ k = 17 := by omega
  clear h
  go_enter Tryz.func39, Tryz.ntmps39
  go_wp2_with (go_at_call 41; refine (between_f _ _ _ _ HN.out).mono ?_; rintro e w2 ⟨rfl, rfl⟩)
  go_ret
  exact ⟨by rw [HE.out]; rfl, rfl⟩
theorem many_to (k : Int) (w : World) (x : Int) (hx : manyI k = x) : Calls Tryz.prog 39 #[.int .i64 k] w fun e w' => e = .returned (.int .i64 x) ∧ w = w' := by
  subst hx
  by_cases h : 1 ≤ k ∧ k ≤ 17
  · have hk : k = 1 ∨ k = 2 ∨ k = 3 ∨ k = 4 ∨ k = 5 ∨ k = 6 ∨ k = 7 ∨ k = 8 ∨ k = 9 ∨ k = 10 ∨ k = 11 ∨ k = 12 ∨ k = 13 ∨ k = 14 ∨ k = 15 ∨ k = 16 ∨ k = 17 := by omega
    rcases hk with rfl | rfl | rfl | rfl | rfl | rfl | rfl | rfl | rfl | rfl | rfl | rfl | rfl | rfl | rfl | rfl | rfl
    · exact many_k1 w
    · exact many_k2 w
    · exact many_k3 w
    · exact many_k4 w
    · exact many_k5 w
    · exact many_k6 w
    · exact many_k7 w
    · exact many_k8 w
    · exact many_k9 w
    · exact many_k10 w
    · exact many_k11 w
    · exact many_k12 w
    · exact many_k13 w
    · exact many_k14 w
    · exact many_k15 w
    · exact many_k16 w
    · exact many_k17 w
  · exact many_none k w h
def askI (k : Int) : Bool := decide (1 ≤ k ∧ k ≤ 3) || decide (11 ≤ k ∧ k ≤ 13)
set_option maxHeartbeats 1000000 in
theorem asked_to (k : Int) (w : World) (x : Bool) (hx : askI k = x) : Calls Tryz.prog 40 #[.int .i64 k] w fun e w' => e = .returned (.bool x) ∧ w = w' := by
  by_cases h1 : 1 ≤ k ∧ k ≤ 3
  · have HX : Hid (x = true) := by show _ = _; rw [← hx, askI, decide_eq_true h1, Bool.true_or]
    clear hx
    go_enter Tryz.func40, Tryz.ntmps40
    go_wp2_with (go_at_call 41; refine (between_t _ _ _ _ h1.1 h1.2).mono ?_; rintro e w2 ⟨rfl, rfl⟩)
    go_ret
    exact ⟨by rw [HX.out]; rfl, rfl⟩
  · have g1 : k < 1 ∨ 3 < k := by omega
    by_cases h2 : 11 ≤ k ∧ k ≤ 13
    · have HX : Hid (x = true) := by show _ = _; rw [← hx, askI, decide_eq_true h2, Bool.or_true]
      clear hx
      go_enter Tryz.func40, Tryz.ntmps40
      go_wp2_with (first | (go_at_call_of 41 (Value.int .i64 3); refine (between_f _ _ _ _ g1).mono ?_; rintro e w2 ⟨rfl, rfl⟩) | (go_at_call 41; refine (between_t _ _ _ _ h2.1 h2.2).mono ?_; rintro e w2 ⟨rfl, rfl⟩))
      go_ret
      exact ⟨by rw [HX.out]; rfl, rfl⟩
    · have g2 : k < 11 ∨ 13 < k := by omega
      have HX : Hid (x = false) := by show _ = _; rw [← hx, askI, decide_eq_false h1, decide_eq_false h2]; rfl
      clear hx
      go_enter Tryz.func40, Tryz.ntmps40
      go_wp2_with (first | (go_at_call_of 41 (Value.int .i64 3); refine (between_f _ _ _ _ g1).mono ?_; rintro e w2 ⟨rfl, rfl⟩) | (go_at_call 41; refine (between_f _ _ _ _ g2).mono ?_; rintro e w2 ⟨rfl, rfl⟩))
      go_ret
      exact ⟨by rw [HX.out]; rfl, rfl⟩
end Go.Proofs.YtheddpjaihhbdacGreat
