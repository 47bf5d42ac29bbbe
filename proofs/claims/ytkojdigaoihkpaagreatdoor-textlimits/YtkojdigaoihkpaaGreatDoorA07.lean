/- Part 7 of the texts that the theorem leans on. -/
import Derived.Test.YtkojdigaoihkpaaGreatDoorA06
section
namespace Go.Proofs.YtkojdigaoihkpaaGreatDoor
set_option linter.unusedVariables false
set_option linter.unusedSimpArgs false
set_option maxRecDepth 100000
open Go.RowKit

set_option maxHeartbeats 4000000 in
theorem rnamed_any {v : Value} {L : List Nod} {w : World} (h : NodesL w v L) (s : ByteArray) (x : Int) (hx : nmdN L s 0 = x) :
    Calls Tryz.prog 42 #[v, .string s] w fun e w' => e = .returned (.int .i64 x) ∧ w = w' := by
  have HN : Hid (NodesL w v L) := h
  have HX : Hid (nmdN (L.drop 0) s 0 = x) := hx
  obtain ⟨va, vc, rfl, hc1, hc2⟩ := h.shape
  unfold big at hc2
  clear h hx
  go_enter Tryz.func42, Tryz.ntmps42
  go_wp2
  go_loop [5] (fun i => ∃ k : Nat, k ≤ L.length ∧ i = .int .i64 k ∧ Hid (nmdN (L.drop k) s k = x)) (fun i => L.length - (intOf i).toNat)
  case atStart => exact ⟨0, Nat.zero_le _, rfl, HX.out⟩
  case round =>
    obtain ⟨k, hk, rfl, HI⟩ := hrel
    by_cases hlt : k < L.length
    · have HD : Hid (L.drop k = L[k] :: L.drop (k + 1)) := List.drop_eq_getElem_cons hlt
      obtain ⟨b, off, y0, y1, rfl, hnd⟩ := HN.out.row k hlt
      obtain ⟨t, ht⟩ : ∃ t, L[k] = t := ⟨_, rfl⟩
      rw [ht] at hnd HD
      have d0 := hnd.c0
      obtain ⟨nm, hnm⟩ : ∃ z, t.name = z := ⟨_, rfl⟩
      rw [hnm] at d0
      have g1 : (k : Int) < L.length := by omega
      clear hnd ht
      by_cases e : nm = s
      · have HV : Hid (x = (k : Int)) := by
          have h := HI.out
          rw [HD.out, nmdN, if_pos (hnm.trans e)] at h
          exact h.symm
        have hb : (nm.toList == s.toList) = true := by rw [e]; simp
        clear e HD hnm
        go_wp2
        go_ret
        exact ⟨by rw [HV.out]; rfl, rfl⟩
      · have HV : Hid (nmdN (L.drop (k + 1)) s (k + 1) = x) := by
          have h := HI.out
          rw [HD.out, nmdN, if_neg (by rw [hnm]; exact e)] at h
          exact h
        have hb : (nm.toList == s.toList) = false := by rw [beq_eq_false_iff_ne]; intro h; rw [Lib.toList_data, Lib.toList_data] at h; exact e (by cases nm; cases s; simp only [ByteArray.mk.injEq]; exact Array.toList_inj.1 h)
        clear e HD hnm
        go_wp2
        go_round
        case rel => exact ⟨k + 1, by omega, by go_num, HV.out⟩
        case measure => simp [intOf]; omega
    · have HV : Hid (x = -1) := by
        have h := HI.out
        rw [List.drop_of_length_le (by omega), nmdN] at h
        exact h.symm
      go_wp2
      go_ret
      exact ⟨by rw [HV.out]; rfl, rfl⟩
/-- The page's Name, where TB holds (tables of unicode/utf8). -/
structure RName (TB : World → Prop) : Prop where
  later : ∀ {w w' : World}, Below w.heap.size w w' → TB w → TB w'
  name : ∀ {s : ByteArray} {w : World} (hs : s.size ≤ 140737488355328) (hT : TB w) (q : Bool) (hq : nameB s = q),
    Calls Tryz.prog 41 #[.string s] w fun e w' => e = .returned (.bool q) ∧ Below w.heap.size w w'
theorem grpI_at {L : List Nod} {i : Nat} (h : i < L.length) : grpI L i = (nameB L[i].name && decide (nmdN L L[i].name 0 = (i : Int)) && decide (L[i].kind ≤ 15) && (decide (-1073741824 ≤ L[i].n) && decide (L[i].n ≤ 1073741824))) := by
  rw [grpI, List.getElem?_eq_getElem h]
theorem grpB_not {L : List Nod} {i : Nat} (h : i < L.length) (hi : grpI L i = false) : grpB L = false := by
  cases e : grpB L with
  | false => rfl
  | true =>
    simp only [grpB, Bool.and_eq_true, List.all_eq_true] at e
    have := e.1.2 i (List.mem_range.2 h)
    rw [hi] at this
    exact this.symm
set_option maxHeartbeats 8000000 in
theorem rgraph_any {TB : World → Prop} (R : RName TB) {v : Value} {L : List Nod} {w : World} (h : NodesL w v L) (hs : Small L) (hT : TB w) (q : Bool) (hq : grpB L = q) :
    Calls Tryz.prog 19 #[v] w fun e w' => e = .returned (.bool q) ∧ Below w.heap.size w w' := by
  have HN : Hid (NodesL w v L) := h
  have HT : Hid (TB w) := hT
  have HQ : Hid (grpB L = q) := hq
  have HA : Hid (∀ t ∈ L, t.args.length ≤ 100000000) := fun t ht => by
    obtain ⟨i, hi, rfl⟩ := List.getElem_of_mem ht
    have := hs.a i hi
    omega
  have HS : Hid (Small L) := hs
  obtain ⟨va, vc, rfl, hc1, hc2⟩ := h.shape
  unfold big at hc2
  clear h hT hq hs
  by_cases hl : 1 ≤ (L.length : Int) ∧ (L.length : Int) ≤ 24
  case neg =>
    have HQ2 : Hid (q = false) := by
      show _ = _
      rw [← HQ.out, grpB]
      by_cases h1 : 1 ≤ L.length
      · rw [decide_eq_false (p := L.length ≤ 24) (by omega), Bool.and_false]; simp only [Bool.false_and]
      · rw [decide_eq_false (p := 1 ≤ L.length) (by omega)]; simp only [Bool.false_and]
    have hl2 : (L.length : Int) < 1 ∨ 24 < (L.length : Int) := by omega
    clear hl
    go_enter Tryz.func19, Tryz.ntmps19
    go_wp2_with (go_at_call 22; refine (between_f _ _ _ _ hl2).mono ?_; rintro e w2 ⟨rfl, rfl⟩)
    go_ret
    exact ⟨by rw [HQ2.out]; rfl, Below.refl _ _⟩
  case pos =>
  obtain ⟨hl1, hl2⟩ := hl
  cases hn : nodesB L with
  | false =>
    have HNB : Hid (nodesB L = false) := hn
    have HQ2 : Hid (q = false) := by show _ = _; rw [← HQ.out, grpB, hn, Bool.and_false]; simp only [Bool.false_and]
    clear hn
    go_enter Tryz.func19, Tryz.ntmps19
    go_wp2_with (first
      | (go_at_call 22; refine (between_t _ _ _ _ hl1 hl2).mono ?_; rintro e w2 ⟨rfl, rfl⟩)
      | (go_at_call 40; refine (rnodes_any HN.out HA.out false HNB.out).mono ?_; rintro e w2 ⟨rfl, hb2⟩; have HB2 : Hid (Below w.heap.size w w2) := hb2; clear hb2))
    go_ret
    exact ⟨by rw [HQ2.out]; rfl, HB2.out⟩
  | true =>
    have HNB : Hid (nodesB L = true) := hn
    clear hn
    go_enter Tryz.func19, Tryz.ntmps19
    go_wp2_with (first
      | (go_at_call 22; refine (between_t _ _ _ _ hl1 hl2).mono ?_; rintro e w2 ⟨rfl, rfl⟩)
      | (go_at_call 40; refine (rnodes_any HN.out HA.out true HNB.out).mono ?_; rintro e w2 ⟨rfl, hb2⟩; have HB2 : Hid (Below w.heap.size w w2) := hb2; clear hb2))
    go_loopw [3] (fun i w' => ∃ k : Nat, k ≤ L.length ∧ i = .int .i64 k ∧ Hid (∀ j, j < k → grpI L j = true) ∧ Below w.heap.size w w') (fun i _ => L.length - (intOf i).toNat)
    case atStart => exact ⟨0, Nat.zero_le _, rfl, (fun j h => by omega), HB2.out⟩
    case round =>
      obtain ⟨k, hk, rfl, HP, hbel⟩ := hrel
      have HB : Hid (Below w.heap.size w wr) := hbel
      clear hbel
      by_cases hlt : k < L.length
      · have HGI : Hid (grpI L k = _) := grpI_at hlt
        have HGN : Hid (grpI L k = false → q = false) := fun h => by rw [← HQ.out]; exact grpB_not hlt h
        have HZS : Hid (L[k].name.size ≤ 1000000) := HS.out.s k hlt
        obtain ⟨b, off, y0, y1, rfl, hnd⟩ := (HN.out.later HB.out).row k hlt
        obtain ⟨t, ht⟩ : ∃ t, L[k] = t := ⟨_, rfl⟩
        rw [ht] at hnd HGI HZS
        obtain ⟨nm, kd, ar, ds, n⟩ := t
        simp only at HGI HZS
        have d0 := hnd.c0
        have d1 := hnd.c1
        have d4 := hnd.c4
        simp only at d0 d1 d4
        have g1 : (k : Int) < L.length := by omega
        have HNK : Hid (NodesL wr (.slice (some ⟨b, off, none⟩) L.length vc) L) := HN.out.later HB.out
        have HTK : Hid (TB wr) := R.later HB.out HT.out
        clear hnd ht
        cases hc1x : nameB nm with
        | false =>
          have HC1 : Hid (nameB nm = false) := hc1x
          have HQ2 : Hid (q = false) := by show _ = _; refine HGN.out ?_; rw [HGI.out]; rw [hc1x]; simp only [Bool.false_and]
          go_wp2_with (first
            | (go_at_call 41; refine (R.name (by have := HZS.out; omega) HTK.out false HC1.out).mono ?_; rintro e w3 ⟨rfl, hb3⟩; have HB3 : Hid (Below w.heap.size w w3) := Below.after HB.out hb3; have HN3 : Hid (NodesL w3 (.slice (some ⟨b, off, none⟩) L.length vc) L) := HNK.out.later hb3; have f0 := cell_later hb3 d0; have f1 := cell_later hb3 d1; have f4 := cell_later hb3 d4; clear hb3))
          go_ret
          exact ⟨by rw [HQ2.out]; rfl, HB3.out⟩
        | true =>
          have HC1 : Hid (nameB nm = true) := hc1x
          obtain ⟨z, hz⟩ : ∃ z, nmdN L nm 0 = z := ⟨_, rfl⟩
          have HZ : Hid (nmdN L nm 0 = z) := hz
          by_cases hzk : z = (k : Int)
          case neg =>
            have hzb : (z != (k : Int)) = true := by rw [bne_iff_ne]; exact hzk
            have HQ2 : Hid (q = false) := by show _ = _; refine HGN.out ?_; rw [HGI.out]; rw [hz, decide_eq_false hzk]; simp only [Bool.and_false, Bool.false_and]
            go_wp2_with (first
              | (go_at_call 41; refine (R.name (by have := HZS.out; omega) HTK.out true HC1.out).mono ?_; rintro e w3 ⟨rfl, hb3⟩; have HB3 : Hid (Below w.heap.size w w3) := Below.after HB.out hb3; have HN3 : Hid (NodesL w3 (.slice (some ⟨b, off, none⟩) L.length vc) L) := HNK.out.later hb3; have f0 := cell_later hb3 d0; have f1 := cell_later hb3 d1; have f4 := cell_later hb3 d4; clear hb3)
              | (go_at_call 42; refine (rnamed_any HN3.out nm z HZ.out).mono ?_; rintro e w4 ⟨rfl, rfl⟩))
            go_ret
            exact ⟨by rw [HQ2.out]; rfl, HB3.out⟩
          case pos =>
          have hzb : (z != (k : Int)) = false := by rw [hzk]; simp
          by_cases hkd : kd ≤ 15
          case neg =>
            have hkb : 15 < kd := by omega
            have HQ2 : Hid (q = false) := by show _ = _; refine HGN.out ?_; rw [HGI.out]; rw [decide_eq_false hkd]; simp only [Bool.and_false, Bool.false_and]
            go_wp2_with (first
              | (go_at_call 41; refine (R.name (by have := HZS.out; omega) HTK.out true HC1.out).mono ?_; rintro e w3 ⟨rfl, hb3⟩; have HB3 : Hid (Below w.heap.size w w3) := Below.after HB.out hb3; have HN3 : Hid (NodesL w3 (.slice (some ⟨b, off, none⟩) L.length vc) L) := HNK.out.later hb3; have f0 := cell_later hb3 d0; have f1 := cell_later hb3 d1; have f4 := cell_later hb3 d4; clear hb3)
              | (go_at_call 42; refine (rnamed_any HN3.out nm z HZ.out).mono ?_; rintro e w4 ⟨rfl, rfl⟩))
            go_ret
            exact ⟨by rw [HQ2.out]; rfl, HB3.out⟩
          case pos =>
          have hkb : ¬ 15 < kd := by omega
          by_cases hnr : -1073741824 ≤ n ∧ n ≤ 1073741824
          case neg =>
            have hnb : n < -1073741824 ∨ 1073741824 < n := by omega
            have HQ2 : Hid (q = false) := by show _ = _; refine HGN.out ?_; rw [HGI.out]; rw [show (decide (-1073741824 ≤ n) && decide (n ≤ 1073741824)) = false from by rw [← Bool.decide_and]; exact decide_eq_false hnr]; simp only [Bool.and_false]
            go_wp2_with (first
              | (go_at_call 41; refine (R.name (by have := HZS.out; omega) HTK.out true HC1.out).mono ?_; rintro e w3 ⟨rfl, hb3⟩; have HB3 : Hid (Below w.heap.size w w3) := Below.after HB.out hb3; have HN3 : Hid (NodesL w3 (.slice (some ⟨b, off, none⟩) L.length vc) L) := HNK.out.later hb3; have f0 := cell_later hb3 d0; have f1 := cell_later hb3 d1; have f4 := cell_later hb3 d4; clear hb3)
              | (go_at_call 42; refine (rnamed_any HN3.out nm z HZ.out).mono ?_; rintro e w4 ⟨rfl, rfl⟩)
              | (go_at_call 22; refine (between_f _ _ _ _ hnb).mono ?_; rintro e w4 ⟨rfl, rfl⟩))
            go_ret
            exact ⟨by rw [HQ2.out]; rfl, HB3.out⟩
          case pos =>
          obtain ⟨hn1, hn2⟩ := hnr
          have HGT : Hid (grpI L k = true) := by show _ = _; rw [HGI.out, hc1x, hz, hzk, decide_eq_true hkd, decide_eq_true hn1, decide_eq_true hn2]; simp
          clear hc1x hz
          go_wp2_with (first
            | (go_at_call 41; refine (R.name (by have := HZS.out; omega) HTK.out true HC1.out).mono ?_; rintro e w3 ⟨rfl, hb3⟩; have HB3 : Hid (Below w.heap.size w w3) := Below.after HB.out hb3; have HN3 : Hid (NodesL w3 (.slice (some ⟨b, off, none⟩) L.length vc) L) := HNK.out.later hb3; have f0 := cell_later hb3 d0; have f1 := cell_later hb3 d1; have f4 := cell_later hb3 d4; clear hb3)
            | (go_at_call 42; refine (rnamed_any HN3.out nm z HZ.out).mono ?_; rintro e w4 ⟨rfl, rfl⟩)
            | (go_at_call 22; refine (between_t _ _ _ _ hn1 hn2).mono ?_; rintro e w4 ⟨rfl, rfl⟩))
          go_roundw
          case rel =>
            refine ⟨k + 1, by omega, by go_num, fun j hj => ?_, HB3.out⟩
            by_cases e : j = k
            · rw [e]; exact HGT.out
            · exact HP.out j (by omega)
          case measure => simp [intOf]; omega
      · have hk' : k = L.length := by omega
        subst hk'
        have hlast : L.length - 1 < L.length := by omega
        have hgl : L.getLast? = some (L[L.length - 1]'hlast) := by rw [List.getLast?_eq_getElem?, List.getElem?_eq_getElem hlast]
        obtain ⟨b, off, y0, y1, rfl, hnd⟩ := (HN.out.later HB.out).row (L.length - 1) hlast
        have hok := nodeB_okd (nodesB_at HNB.out (L.length - 1) hlast)
        obtain ⟨t, ht⟩ : ∃ t, L[L.length - 1]'hlast = t := ⟨_, rfl⟩
        rw [ht] at hnd hok hgl
        have d3 := hnd.c3
        have HD : Hid (Ints wr y1 t.dims) := hnd.d
        have HOK : Hid (okd t.dims = true) := hok
        have HQ2 : Hid (decide (prd t.dims = 1) = q) := by
          show _ = _
          rw [← HQ.out, grpB, HNB.out, hgl, decide_eq_true (p := 1 ≤ L.length) (by omega), decide_eq_true (p := L.length ≤ 24) (by omega), show (List.range L.length).all (grpI L) = true from List.all_eq_true.2 fun j hj => HP.out j (List.mem_range.1 hj)]
          simp
        obtain ⟨ya, yn, yc, rfl⟩ := hnd.d.shape3
        have e1 : ((L.length - 1 : Nat) : Int) = (L.length : Int) - 1 := by omega
        have g0 : IntKind.i64.wrap ((L.length : Int) - 1) = ((L.length - 1 : Nat) : Int) := by rw [e1]; exact wrap_small _ (by omega) (by omega)
        have g1 : ((L.length - 1 : Nat) : Int) < L.length := by omega
        have g2 : (0 : Int) ≤ ((L.length - 1 : Nat) : Int) := by omega
        obtain ⟨j, hj⟩ : ∃ j, L.length - 1 = j := ⟨_, rfl⟩
        rw [hj] at d3 g0 g1 g2
        clear hnd ht hok hgl e1
        go_wp2_with (go_at_call 43; refine (rcells_to _ HD.out HOK.out rfl).mono ?_; rintro e w3 ⟨rfl, rfl⟩)
        go_ret
        exact ⟨by rw [← HQ2.out]; rfl, HB.out⟩
set_option maxHeartbeats 4000000 in
theorem eqN_same {s : ByteArray} {k n : Int} {x y x' y' : Value} {A D : List Int} {w : World} (hx : Ints w x A) (hy : Ints w y D) (hx' : Ints w x' A) (hy' : Ints w y' D) :
    Calls Tryz.prog 32 #[.agg #[.string s, .int .i64 k, x, y, .int .i64 n], .agg #[.string s, .int .i64 k, x', y', .int .i64 n]] w fun e w' => e = .returned (.bool true) ∧ Below w.heap.size w w' := by
  have HX : Hid (Ints w x A) := hx
  have HY : Hid (Ints w y D) := hy
  have HX' : Hid (Ints w x' A) := hx'
  have HY' : Hid (Ints w y' D) := hy'
  obtain ⟨xa, xn, xc, rfl⟩ := hx.shape3
  obtain ⟨ya, yn, yc, rfl⟩ := hy.shape3
  obtain ⟨za, zn, zc, rfl⟩ := hx'.shape3
  obtain ⟨ta, tn, tc, rfl⟩ := hy'.shape3
  clear hx hy hx' hy'
  have HB : Hid (Below w.heap.size w ((w.alloc (.cells #[.string s, .int .i64 k, .slice xa xn xc, .slice ya yn yc, .int .i64 n] 55)).alloc (.cells #[.string s, .int .i64 k, .slice za zn zc, .slice ta tn tc, .int .i64 n] 55))) := Below.push (Below.push (Below.refl _ _) _) _
  go_enter Tryz.func32, Tryz.ntmps32
  go_wp2_with fail
  refine (eqn_to true (HX.out.later HB.out) (HX'.out.later HB.out) (by simp)).mono ?_
  rintro e w1 ⟨rfl, m1, rfl⟩
  go_wp2_with fail
  refine (eqn_to true (HY.out.later (Below.drewN HB.out _)) (HY'.out.later (Below.drewN HB.out _)) (by simp)).mono ?_
  rintro e w2 ⟨rfl, m2, rfl⟩
  go_wp2
  go_ret
  exact ⟨rfl, Below.drewN HB.out _⟩
set_option maxHeartbeats 4000000 in
theorem eqNs_same {v u : Value} {L : List Nod} {w : World} (h : NodesL w v L) (h' : NodesL w u L) :
    Calls Tryz.prog 13 #[v, u] w fun e w' => e = .returned (.bool true) ∧ Below w.heap.size w w' := by
  have HN : Hid (NodesL w v L) := h
  have HN' : Hid (NodesL w u L) := h'
  obtain ⟨va, vc, rfl, hc1, hc2⟩ := h.shape
  obtain ⟨ua, uc, rfl, hc3, hc4⟩ := h'.shape
  unfold big at hc2 hc4
  clear h h'
  go_enter Tryz.func13, Tryz.ntmps13
  go_wp2
  go_loopw [5] (fun i w' => ∃ (k : Nat), k ≤ L.length ∧ i = .int .i64 k ∧ Hid (Below w.heap.size w w')) (fun i _ => L.length - (intOf i).toNat)
  case atStart => exact ⟨0, Nat.zero_le _, rfl, Below.refl _ _⟩
  case round =>
    obtain ⟨k, hk, rfl, HB⟩ := hrel
    by_cases hlt : k < L.length
    · obtain ⟨b, off, x, y, rfl, hnd⟩ := (HN.out.later HB.out).row k hlt
      obtain ⟨b', off', x', y', rfl, hnd'⟩ := (HN'.out.later HB.out).row k hlt
      obtain ⟨t, ht⟩ : ∃ t, L[k] = t := ⟨_, rfl⟩
      rw [ht] at hnd hnd'
      obtain ⟨nm, kd, ar, ds, n⟩ := t
      obtain ⟨d0, d1, d2, d3, d4, ha, hd, hz⟩ := hnd
      obtain ⟨e0, e1, e2, e3, e4, ha', hd', hz'⟩ := hnd'
      simp only at d0 d1 d2 d3 d4 ha hd hz e0 e1 e2 e3 e4 ha' hd' hz'
      have HA : Hid (Ints wr x ar) := ha
      have HD : Hid (Ints wr y ds) := hd
      have HA' : Hid (Ints wr x' ar) := ha'
      have HD' : Hid (Ints wr y' ds) := hd'
      obtain ⟨xa, xn, xc, rfl⟩ := ha.shape3
      obtain ⟨ya, yn, yc, rfl⟩ := hd.shape3
      obtain ⟨za, zn, zc, rfl⟩ := ha'.shape3
      obtain ⟨ta, tn, tc, rfl⟩ := hd'.shape3
      have g1 : (k : Int) < L.length := by omega
      clear ha hd hz ha' hd' hz' ht
      go_wp2_with fail
      go_region_held3 (fun w' => w'.cell? ⟨b, off + k * 5, none⟩ = some (.string nm) ∧ w'.cell? ⟨b, off + k * 5 + 1, none⟩ = some (.int .i64 kd) ∧ w'.cell? ⟨b, off + k * 5 + 2, none⟩ = some (.slice xa xn xc) ∧ w'.cell? ⟨b, off + k * 5 + 3, none⟩ = some (.slice ya yn yc) ∧ w'.cell? ⟨b, off + k * 5 + 4, none⟩ = some (.int .i64 n) ∧ w'.cell? ⟨b', off' + k * 5, none⟩ = some (.string nm) ∧ w'.cell? ⟨b', off' + k * 5 + 1, none⟩ = some (.int .i64 kd) ∧ w'.cell? ⟨b', off' + k * 5 + 2, none⟩ = some (.slice za zn zc) ∧ w'.cell? ⟨b', off' + k * 5 + 3, none⟩ = some (.slice ta tn tc) ∧ w'.cell? ⟨b', off' + k * 5 + 4, none⟩ = some (.int .i64 n)) (go_keep)
        (first | (go_at_call 32; refine (eqN_same (A := ar) (D := ds) ?_ ?_ ?_ ?_).mono ?_; exact HA.out.later (Below.refl _ _).drew; exact HD.out.later (Below.refl _ _).drew; exact HA'.out.later (Below.refl _ _).drew; exact HD'.out.later (Below.refl _ _).drew; rintro r w2 ⟨rfl, hb2⟩; have HB2 : Hid (Below wr.heap.size wr w2) := Below.after (Below.refl _ _).drew hb2; have a_0 := cell_later HB2.out d0; have a_1 := cell_later HB2.out d1; have a_2 := cell_later HB2.out d2; have a_3 := cell_later HB2.out d3; have a_4 := cell_later HB2.out d4; have b_0 := cell_later HB2.out e0; have b_1 := cell_later HB2.out e1; have b_2 := cell_later HB2.out e2; have b_3 := cell_later HB2.out e3; have b_4 := cell_later HB2.out e4; clear hb2))
      clear a_0 a_1 a_2 a_3 a_4 b_0 b_1 b_2 b_3 b_4 d0 d1 d2 d3 d4 e0 e1 e2 e3 e4
      go_wp2
      go_roundw
      case rel => exact ⟨k + 1, by omega, by go_num, Below.after HB.out HB2.out⟩
      case measure => simp [intOf]; omega
    · have hk' : k = L.length := by omega
      subst hk'
      go_wp2
      go_ret
      exact ⟨rfl, HB.out⟩
set_option maxHeartbeats 4000000 in
theorem infer8_any {vd v u : Value} {d A : List Int} {L : List Nod} {w : World} (k n : Int) (h : NodesL w v L) (hs : Small L) (hd : Ints w vd d) (hA : Ints w u A) (hlen : A.length ≤ 100000000) (q : Bool) (hq : nodesB L = q) (E : Int) (R : List Int) (hE : inE k n d L A = E) (hR : inR k n d L A = R) :
    Calls Tryz.prog 52 #[.int .i64 k, .int .i64 n, vd, v, u] w fun e w' => ∃ x, e = .returned (.tuple #[x, .int .i64 (if q then E else 1)]) ∧ Own w' w.heap.size x (if q then R else []) ∧ Below w.heap.size w w' := by
  have HN : Hid (NodesL w v L) := h
  have HS : Hid (Small L) := hs
  have HA : Hid (Ints w u A) := hA
  have HD : Hid (Ints w vd d) := hd
  have HQ : Hid (nodesB L = q) := hq
  have HE : Hid (inE k n d L A = E) := hE
  have HR : Hid (inR k n d L A = R) := hR
  obtain ⟨va, vc, rfl, hc1, hc2⟩ := h.shape
  obtain ⟨da, dn, dc, rfl⟩ := hd.shape3
  obtain ⟨ua, un, uc, rfl⟩ := hA.shape3
  unfold big at hc2
  clear h hs hd hA hq hE hR
  cases q with
  | false =>
    go_enter Tryz.func52, Tryz.ntmps52
    go_wp2_with (go_at_call 53; refine (nodes8_any HN.out HS.out false HQ.out).mono ?_; rintro e w2 ⟨rfl, hb2⟩; have HB2 : Hid (Below w.heap.size w w2) := hb2; clear hb2)
    go_ret2
    exact ⟨_, rfl, Own.nil _ _, HB2.out⟩
  | true =>
    go_enter Tryz.func52, Tryz.ntmps52
    go_wp2_with (first
      | (go_at_call 53; refine (nodes8_any HN.out HS.out true HQ.out).mono ?_; rintro e w2 ⟨rfl, hb2⟩; have HB2 : Hid (Below w.heap.size w w2) := hb2; clear hb2)
      | (go_at_call 78; refine (made_any k n (HN.out.later HB2.out) (HD.out.later HB2.out) (HA.out.later HB2.out) hlen E R HE.out HR.out).mono ?_; rintro e w3 ⟨x3, rfl, ho, hb3⟩; have HO3 : Hid (Own w3 w.heap.size x3 R) := ho.mono HB2.out.size; have HB3 : Hid (Below w.heap.size w w3) := Below.after HB2.out hb3; obtain ⟨s7, n7, c7, rfl⟩ := ho.ints.shape3; clear ho hb3))
    go_ret2
    exact ⟨_, rfl, HO3.out, HB3.out⟩
theorem wpList_app_ints {ops : Array Oper} {rest : List Oper} {o : Oper} {a : Act} {Q : Exit → Act → World → Prop} (w : World)
    (hgd : o.guard = none) (s x : Operand) (ho : o.op = .call { callee := .builtin .append, args := #[s, x], argTypes := #[23, 23] })
    (B : Nat) (l N : List Int) (vs vx : Value) (n : Nat) (hs : a.eval s = vs) (hn : n = l.length) (hown : w.ownsRow B 3 1 vs n (l.map (Value.int .i64))) (hx : a.eval x = vx) (hN : Ints w vx N) (hB : B ≤ w.heap.size) (hlen : l.length + N.length ≤ 1000000)
    (hK : ∀ va vn vc w', Own w' B (.slice va vn vc) (l ++ N) → Below B w w' → wpList Tryz.prog ops Q rest (a.put o.dst (.slice va vn vc)) w') :
    wpList Tryz.prog ops Q (o :: rest) a w := by
  subst hn
  obtain ⟨i3, hi, hz0, hz1, hz2⟩ := info3
  rcases hN with ⟨rfl, rfl⟩ | ⟨ad, c, rfl, h1, h2, h3⟩
  · refine wpList_append_own_none hgd s x 23 ho B 3 i3 1 Tryz.underlying23 hi vs l.length _ hs hown hx ?_
    have hO : Own w B vs (l ++ []) := by rw [List.append_nil]; exact ⟨hown, by unfold big; omega⟩
    obtain ⟨va, vn, vc, rfl⟩ := hO.ints.shape3
    exact hK _ _ _ _ hO (Below.refl _ _)
  · refine wpList_append_own_at w hgd s x 23 ho B 3 i3 (.int .i64 0) 1 8 Tryz.underlying23 hi hz0 hz1 hz2 rfl (by decide) vs l.length _ hs hown ad N.length c (N.map (Value.int .i64)) hx (by simp) ?_ (ints_one N) (by unfold maxLen; omega) (by omega) hB ?_
    · intro j u hj
      simp only [List.getElem?_map, Option.map_eq_some_iff] at hj
      obtain ⟨y, hy, rfl⟩ := hj
      obtain ⟨hlt, rfl⟩ := List.getElem?_eq_some_iff.1 hy
      obtain ⟨b, off, rfl, hc⟩ := h3 j hlt
      by_cases h0 : j = 0
      · subst h0; simpa [Addr.add] using hc
      · simpa [Addr.add, h0] using hc
    · intro v' w' h4 hg _ _
      have hO : Own w' B v' (l ++ N) := ⟨by rw [List.length_append, List.map_append]; exact h4, by rw [List.length_append]; unfold big; omega⟩
      have hb : Below B w w' := (Below.refl _ _).grown hg hB (fun k hk => (hown.lt k hk).1)
      obtain ⟨va, vn, vc, rfl⟩ := hO.ints.shape3
      exact hK _ _ _ _ hO hb
def infO (k n : Int) (d : List Int) (P : List (List Int)) : Bool := inf k.toNat n d (P.getD 0 []) (P.getD 1 [])
def rinE (k n : Int) (d : List Int) (L : List Nod) (A : List Int) : Int :=
  if argsB A L.length && may k n d (dimsAt L A) then (if infO k n d (dimsAt L A) then 0 else 4) else 1
def rinR (k n : Int) (d : List Int) (L : List Nod) (A : List Int) : List Int :=
  if argsB A L.length && may k n d (dimsAt L A) then (if infO k n d (dimsAt L A) then inD k.toNat n d ((dimsAt L A).getD 0 []) ((dimsAt L A).getD 1 []) else []) else []
set_option maxHeartbeats 4000000 in
theorem rinfer_any {vd v u : Value} {d A : List Int} {L : List Nod} {w : World} (k n : Int) (h : NodesL w v L) (hd : Ints w vd d) (hA : Ints w u A) (hlen : A.length ≤ 100000000) :
    Calls Tryz.prog 62 #[.int .i64 k, .int .i64 n, vd, v, u] w fun e w' => ∃ x, e = .returned (.tuple #[x, .int .i64 (rinE k n d L A)]) ∧ Own w' w.heap.size x (rinR k n d L A) ∧ Below w.heap.size w w' := by
  have HN : Hid (NodesL w v L) := h
  have HA : Hid (Ints w u A) := hA
  have HD : Hid (Ints w vd d) := hd
  obtain ⟨va, vc, rfl, hc1, hc2⟩ := h.shape
  obtain ⟨da, dn, dc, rfl⟩ := hd.shape3
  obtain ⟨ua, un, uc, rfl⟩ := hA.shape3
  unfold big at hc2
  clear h hd hA
  obtain ⟨E, hE⟩ : ∃ E, rinE k n d L A = E := ⟨_, rfl⟩
  obtain ⟨R, hR⟩ : ∃ R, rinR k n d L A = R := ⟨_, rfl⟩
  rw [hE, hR]
  cases ha : argsB A L.length with
  | false =>
    have HA0 : Hid (argsB A L.length = false) := ha
    have HE : Hid (E = 1 ∧ R = []) := by show _ ∧ _; rw [← hE, ← hR, rinE, rinR, ha]; exact ⟨rfl, rfl⟩
    clear ha hE hR
    go_enter Tryz.func62, Tryz.ntmps62
    go_wp2_with (go_at_call 82; refine (args_any L.length (by omega) HA.out false HA0.out).mono ?_; rintro e w2 ⟨rfl, rfl⟩)
    go_ret2
    exact ⟨_, by rw [HE.out.1]; rfl, by rw [HE.out.2]; exact Own.nil _ _, Below.refl _ _⟩
  | true =>
    have HA0 : Hid (argsB A L.length = true) := ha
    cases hm : may k n d (dimsAt L A) with
    | false =>
      have HM : Hid (may k n d (dimsAt L A) = false) := hm
      have HE : Hid (E = 1 ∧ R = []) := by show _ ∧ _; rw [← hE, ← hR, rinE, rinR, ha, hm]; exact ⟨rfl, rfl⟩
      clear ha hE hR hm
      go_enter Tryz.func62, Tryz.ntmps62
      go_wp2_with (first
        | (go_at_call 82; refine (args_any L.length (by omega) HA.out true HA0.out).mono ?_; rintro e w2 ⟨rfl, rfl⟩)
        | (go_at_call 84; refine (ndimsOf_any HN.out HA.out L.length (by omega) HA0.out hlen).mono ?_; rintro e w2 ⟨v2, xs, rfl, hr2, hb2⟩; have HB2 : Hid (Below w.heap.size w w2) := hb2; have HL2 : Hid (IntsL w2 v2 (dimsAt L A)) := hr2.intsL (by rw [dimsAt_len]; unfold big; omega); clear hb2 hr2)
        | (go_at_call 83; refine (may_any k n false (HD.out.later HB2.out) HL2.out HM.out).mono ?_; rintro e w5 ⟨rfl, hb5⟩; have HB5 : Hid (Below w2.heap.size w2 w5) := hb5; clear hb5))
      go_ret2
      exact ⟨_, by rw [HE.out.1]; rfl, by rw [HE.out.2]; exact Own.nil _ _, Below.after HB2.out HB5.out⟩
    | true =>
      have HM : Hid (may k n d (dimsAt L A) = true) := hm
      obtain ⟨ok, hok⟩ : ∃ ok, infO k n d (dimsAt L A) = ok := ⟨_, rfl⟩
      have HOK : Hid (inf k.toNat n d ((dimsAt L A).getD 0 []) ((dimsAt L A).getD 1 []) = ok) := hok
      have HE : Hid (E = (if ok then 0 else 4) ∧ R = (if ok then inD k.toNat n d ((dimsAt L A).getD 0 []) ((dimsAt L A).getD 1 []) else [])) := by show _ ∧ _; rw [← hE, ← hR, rinE, rinR, ha, hm, hok]; exact ⟨rfl, rfl⟩
      clear ha hE hR hm hok
      go_enter Tryz.func62, Tryz.ntmps62
      go_wp2_with (first
        | (go_at_call 82; refine (args_any L.length (by omega) HA.out true HA0.out).mono ?_; rintro e w2 ⟨rfl, rfl⟩)
        | (go_at_call 84; refine (ndimsOf_any HN.out HA.out L.length (by omega) HA0.out hlen).mono ?_; rintro e w2 ⟨v2, xs, rfl, hr2, hb2⟩; have HB2 : Hid (Below w.heap.size w w2) := hb2; have HL2 : Hid (IntsL w2 v2 (dimsAt L A)) := hr2.intsL (by rw [dimsAt_len]; unfold big; omega); clear hb2 hr2)
        | (go_at_call 83; refine (may_any k n true (HD.out.later HB2.out) HL2.out HM.out).mono ?_; rintro e w5 ⟨rfl, hb5⟩; have HB5 : Hid (Below w.heap.size w w5) := Below.after HB2.out hb5; clear hb5))
      go_at_call 84
      refine (ndimsOf_any (HN.out.later HB5.out) (HA.out.later HB5.out) L.length (by omega) HA0.out hlen).mono ?_
      rintro e w6 ⟨v6, ys, rfl, hr6, hb6⟩
      have HB6 : Hid (Below w.heap.size w w6) := Below.after HB5.out hb6
      have HR6 : Hid (Row w6 w5.heap.size v6 (dimsAt L A) ys) := hr6
      clear hb6 hr6
      go_wp2_with fail
      refine (infer_to k n HM.out (HD.out.later HB6.out) HR6.out ok HOK.out).mono ?_
      rintro e w7 ⟨x7, z7, rfl, ho7, hz7, hb7⟩
      have HB7 : Hid (Below w.heap.size w w7) := Below.after HB6.out hb7
      cases ok with
      | false =>
        clear ho7 hz7 hb7
        go_wp2
        go_ret2
        exact ⟨_, by rw [HE.out.1]; rfl, by rw [HE.out.2]; exact Own.nil _ _, HB7.out⟩
      | true =>
        have HO7 : Hid (Own w7 w.heap.size x7 z7) := ho7.mono HB6.out.size
        have HZ7 : Hid (z7 = inD k.toNat n d ((dimsAt L A).getD 0 []) ((dimsAt L A).getD 1 [])) := hz7 rfl
        obtain ⟨s7, n7, c7, rfl⟩ := ho7.ints.shape3
        clear ho7 hz7 hb7
        go_wp2
        go_ret2
        exact ⟨_, by rw [HE.out.1]; rfl, by rw [HE.out.2]; show Own _ _ _ (inD k.toNat n d ((dimsAt L A).getD 0 []) ((dimsAt L A).getD 1 [])); rw [← HZ7.out]; exact HO7.out, HB7.out⟩
theorem in_rin (k n : Int) (d : List Int) (L : List Nod) (A : List Int) : rinE k n d L A = inE k n d L A ∧ rinR k n d L A = inR k n d L A := by
  rw [inE, inR, rinE, rinR]
  cases h : argsB A L.length with
  | false => exact ⟨rfl, rfl⟩
  | true =>
    by_cases hm : may k n d (dimsAt L A) = true
    · obtain ⟨e1, e2⟩ := di_yes hm
      rw [hm, e1, e2]
      exact ⟨rfl, rfl⟩
    · obtain ⟨e1, e2⟩ := di_no hm
      have hm' : may k n d (dimsAt L A) = false := by simpa using hm
      rw [hm', e1, e2]
      exact ⟨rfl, rfl⟩
/-- append of one node in a box of its own. -/
theorem wpList_app_node {ops : Array Oper} {rest : List Oper} {o : Oper} {a : Act} {Q : Exit → Act → World → Prop} (w0 : World) (t : Nod) (x y : Value)
    (hgd : o.guard = none) (s xo : Operand) (ho : o.op = .call { callee := .builtin .append, args := #[s, xo], argTypes := #[29, 29] })
    (B : Nat) (L : List Nod) (xs : List Value) (vs : Value) (hs : a.eval s = vs) (hR : RowN w0 B vs L xs)
    (b : Nat) (hx : a.eval xo = .slice (some ⟨b, 0, none⟩) 1 1) (hb0 : w0.heap.size = b) (ex : Elt w0 vs.ownBlock x t.args) (ey : Elt w0 vs.ownBlock y t.dims) (hz : t.name.size ≤ 140737488355327) (hlen : L.length ≤ 1000) (hB : B ≤ w0.heap.size)
    (hK : ∀ g cap w' xs', RowN w' B (.slice (some ⟨g, 0, none⟩) (L.length + 1) cap) (L ++ [t]) xs' → Below B w0 w' → wpList Tryz.prog ops Q rest (a.put o.dst (.slice (some ⟨g, 0, none⟩) (L.length + 1) cap)) w') :
    wpList Tryz.prog ops Q (o :: rest) a (w0.alloc (.cells #[.string t.name, .int .i64 t.kind, x, y, .int .i64 t.n] 55)) := by
  subst hb0
  obtain ⟨iT, hi, hz0, hz1, hz2⟩ := infoN
  obtain ⟨xa, xn, xc, rfl⟩ := ex.1.shape3
  obtain ⟨ya, yn, yc, rfl⟩ := ey.1.shape3
  have hp : Below w0.heap.size w0 (w0.alloc (.cells #[.string t.name, .int .i64 t.kind, .slice xa xn xc, .slice ya yn yc, .int .i64 t.n] 55)) := Below.push (Below.refl _ _) _
  refine wpList_append_lies _ hgd s xo 29 ho B 55 iT (.agg #[.string ⟨#[]⟩, .int .i64 0, .slice none 0 0, .slice none 0 0, .int .i64 0]) 5 80 Tryz.underlying29 hi hz0 hz1 hz2 rfl (by decide) vs L.length xs hs (hR.later hp).own ⟨w0.heap.size, 0, none⟩ 1 1 [.string t.name, .int .i64 t.kind, .slice xa xn xc, .slice ya yn yc, .int .i64 t.n] hx rfl
    (World.news_of_block (heap_alloc_new w0 (.cells #[.string t.name, .int .i64 t.kind, .slice xa xn xc, .slice ya yn yc, .int .i64 t.n] 55))) (by intro u hu; simp only [List.mem_cons, List.not_mem_nil, or_false] at hu; rcases hu with rfl | rfl | rfl | rfl | rfl <;> rfl) (by decide) (by unfold maxLen; omega) (by omega) (by simp; omega) (w0.heap.size + 1) (by simp) ?_
  intro g cap w2 ho2 hg hat hlt2
  refine hK g cap w2 _ (RowN.app (E := [t]) (m := 1) (hR.later hp) rfl (news := [.string t.name, .int .i64 t.kind, .slice xa xn xc, .slice ya yn yc, .int .i64 t.n]) (fun i hi => by
    have h0 : i = 0 := by simp at hi; omega
    subst h0
    exact ⟨_, _, rfl, rfl, rfl, rfl, rfl, Elt.later hp ex, Elt.later hp ey, hz⟩) ho2 hg (by
    rcases hat with h | h
    · exact Or.inl h.symm
    · exact Or.inr (by rw [h]; simp [Value.ownBlock]))) (((Below.refl B w0).alloc hB _).grown hg (by simp; omega) (fun q hq => (hR.lt q hq).1))
end Go.Proofs.YtkojdigaoihkpaaGreatDoor

end
section
namespace Go.Proofs.YtkojdigaoihkpaaGreatDoor
set_option linter.unusedVariables false
set_option linter.unusedSimpArgs false
set_option maxRecDepth 100000
open Go.Shelf

def Tryz.lays103_ren : Go.Shelf.Ren := ⟨fun | 103 => 112 | 210 => 125 | 206 => 145 | n => n, fun | 9 => 9 | 4 => 4 | 24 => 151 | 3 => 3 | n => n, fun | n => n⟩
theorem Tryz.lays103 : Go.Proofs.Lays.n103 Tryz.prog Tryz.lays103_ren := {
  mixed := by kernel_rfl
  f103 := Tryz.func112.trans (congrArg some (by kernel_rfl))
  f206 := Tryz.func145.trans (congrArg some (by kernel_rfl))
  f210 := Tryz.func125.trans (congrArg some (by kernel_rfl))
  t3 := Tryz.underlying3
  a3 := Tryz.isAgg3
  z3 := Tryz.sizeOf3
  v3 := Tryz.zeroValue3
  t4 := Tryz.underlying4
  a4 := Tryz.isAgg4
  z4 := Tryz.sizeOf4
  v4 := Tryz.zeroValue4
  t9 := Tryz.underlying9
  a9 := Tryz.isAgg9
  z9 := Tryz.sizeOf9
  v9 := Tryz.zeroValue9
  t24 := Tryz.underlying151
  a24 := Tryz.isAgg151
  z24 := Tryz.sizeOf151
  v24 := Tryz.zeroValue151 }
open Go.RowKit in
theorem Tryz.strings_CutPrefix (s p : ByteArray) (w : World) :
    Calls Tryz.prog 112 #[.string s, .string p] w fun e w' => e = .returned (.tuple #[.string ⟨(Lib.trimPrefix s.data.toList p.data.toList).toArray⟩, .bool (Lib.hasPrefix s.data.toList p.data.toList)]) ∧ w' = w := Any.strings_CutPrefix Tryz.lays103 s p w
def Tryz.laysM316_ren : Go.Shelf.Ren := ⟨fun | 316 => 72 | n => n, fun | 9 => 9 | 3 => 3 | 4 => 4 | 37 => 28 | 0 => 0 | 127 => 116 | 5 => 5 | n => n, fun | n => n⟩
theorem Tryz.laysM316 : Go.Proofs.LaysM.n316 Tryz.prog Tryz.laysM316_ren := {
  mixed := by kernel_rfl
  f316 := Tryz.func72.trans (congrArg some (by kernel_rfl))
  t0 := Tryz.underlying0
  a0 := Tryz.isAgg0
  z0 := Tryz.sizeOf0
  v0 := Tryz.zeroValue0
  t3 := Tryz.underlying3
  a3 := Tryz.isAgg3
  z3 := Tryz.sizeOf3
  v3 := Tryz.zeroValue3
  t4 := Tryz.underlying4
  a4 := Tryz.isAgg4
  z4 := Tryz.sizeOf4
  v4 := Tryz.zeroValue4
  t9 := Tryz.underlying9
  a9 := Tryz.isAgg9
  z9 := Tryz.sizeOf9
  v9 := Tryz.zeroValue9
  t37 := Tryz.underlying28
  a37 := Tryz.isAgg28
  z37 := Tryz.sizeOf28
  v37 := Tryz.zeroValue28
  t127 := Tryz.underlying116
  a127 := Tryz.isAgg116
  z127 := Tryz.sizeOf116
  v127 := Tryz.zeroValue116
  t5 := Tryz.underlying5
  a5 := Tryz.isAgg5
  z5 := Tryz.sizeOf5
  v5 := Tryz.zeroValue5
  i0 := by kernel_rfl
  i3 := by kernel_rfl
  i4 := by kernel_rfl
  i5 := by kernel_rfl
  i9 := by kernel_rfl
  i37 := by kernel_rfl
  i127 := by kernel_rfl }
open Go.RowKit in
theorem Tryz.stringslite_Clone (s : ByteArray) (w : World) (hlim : s.size ≤ 281474976710656) :
    Calls Tryz.prog 72 #[.string s] w fun e w' => e = .returned (.string s) ∧ Below w.heap.size w w' := Any.stringslite_Clone Tryz.laysM316 s w hlim
def Tryz.lays145_ren : Go.Shelf.Ren := ⟨fun | 145 => 48 | 220 => 71 | 219 => 92 | 217 => 108 | 225 => 109 | 224 => 110 | 267 => 111 | 266 => 123 | 314 => 124 | n => n, fun | 9 => 9 | 4 => 4 | 59 => 92 | 3 => 3 | 5 => 5 | 46 => 57 | 146 => 166 | 51 => 163 | n => n, fun | 1 => 2 | n => n⟩
theorem Tryz.lays145 : Go.Proofs.Lays.n145 Tryz.prog Tryz.lays145_ren := {
  mixed := by kernel_rfl
  f145 := Tryz.func48.trans (congrArg some (by kernel_rfl))
  f217 := Tryz.func108.trans (congrArg some (by kernel_rfl))
  f219 := Tryz.func92.trans (congrArg some (by kernel_rfl))
  f220 := Tryz.func71.trans (congrArg some (by kernel_rfl))
  f224 := Tryz.func110.trans (congrArg some (by kernel_rfl))
  f225 := Tryz.func109.trans (congrArg some (by kernel_rfl))
  f266 := Tryz.func123.trans (congrArg some (by kernel_rfl))
  f267 := Tryz.func111.trans (congrArg some (by kernel_rfl))
  f314 := Tryz.func124.trans (congrArg some (by kernel_rfl))
  t3 := Tryz.underlying3
  a3 := Tryz.isAgg3
  z3 := Tryz.sizeOf3
  v3 := Tryz.zeroValue3
  t4 := Tryz.underlying4
  a4 := Tryz.isAgg4
  z4 := Tryz.sizeOf4
  v4 := Tryz.zeroValue4
  t5 := Tryz.underlying5
  a5 := Tryz.isAgg5
  z5 := Tryz.sizeOf5
  v5 := Tryz.zeroValue5
  t9 := Tryz.underlying9
  a9 := Tryz.isAgg9
  z9 := Tryz.sizeOf9
  v9 := Tryz.zeroValue9
  t46 := Tryz.underlying57
  a46 := Tryz.isAgg57
  z46 := Tryz.sizeOf57
  v46 := Tryz.zeroValue57
  t51 := Tryz.underlying163
  a51 := Tryz.isAgg163
  z51 := Tryz.sizeOf163
  v51 := Tryz.zeroValue163
  t59 := Tryz.underlying92
  a59 := Tryz.isAgg92
  z59 := Tryz.sizeOf92
  v59 := Tryz.zeroValue92
  t146 := Tryz.underlying166
  a146 := Tryz.isAgg166
  z146 := Tryz.sizeOf166
  v146 := Tryz.zeroValue166
  g1 := by kernel_rfl }
open Go.RowKit Go.Lib in
theorem Tryz.strings_Cut (s sep : ByteArray) (m : Int) (w : World) (hs : s.size < 4294967281) (hm : w.cell? ⟨2, 0, none⟩ = some (.int .i64 m)) :
    Calls Tryz.prog 48 #[.string s, .string sep] w fun e w' => e = .returned (.tuple #[.string ⟨(Lib.cut s.data.toList sep.data.toList).1.toArray⟩, .string ⟨(Lib.cut s.data.toList sep.data.toList).2.1.toArray⟩, .bool (Lib.cut s.data.toList sep.data.toList).2.2]) ∧ ∃ n, w' = w.drewN n := Any.strings_Cut Tryz.lays145 s sep m w hs hm
def Tryz.lays146_ren : Go.Shelf.Ren := ⟨fun | 146 => 47 | 221 => 70 | 268 => 89 | 138 => 90 | 143 => 91 | 195 => 106 | 197 => 56 | 218 => 107 | 219 => 92 | 260 => 81 | 217 => 108 | 225 => 109 | 224 => 110 | 267 => 111 | 266 => 123 | 314 => 124 | n => n, fun | 9 => 9 | 31 => 22 | 3 => 3 | 4 => 4 | 0 => 0 | 105 => 102 | 21 => 21 | 5 => 5 | 46 => 57 | 119 => 137 | 139 => 140 | 138 => 139 | 146 => 166 | 51 => 163 | n => n, fun | 1 => 2 | 3 => 0 | 4 => 1 | n => n⟩
theorem Tryz.lays146 : Go.Proofs.Lays.n146 Tryz.prog Tryz.lays146_ren := {
  mixed := by kernel_rfl
  f138 := Tryz.func90.trans (congrArg some (by kernel_rfl))
  f143 := Tryz.func91.trans (congrArg some (by kernel_rfl))
  f146 := Tryz.func47.trans (congrArg some (by kernel_rfl))
  f195 := Tryz.func106.trans (congrArg some (by kernel_rfl))
  f197 := Tryz.func56.trans (congrArg some (by kernel_rfl))
  f217 := Tryz.func108.trans (congrArg some (by kernel_rfl))
  f218 := Tryz.func107.trans (congrArg some (by kernel_rfl))
  f219 := Tryz.func92.trans (congrArg some (by kernel_rfl))
  f221 := Tryz.func70.trans (congrArg some (by kernel_rfl))
  f224 := Tryz.func110.trans (congrArg some (by kernel_rfl))
  f225 := Tryz.func109.trans (congrArg some (by kernel_rfl))
  f260 := Tryz.func81.trans (congrArg some (by kernel_rfl))
  f266 := Tryz.func123.trans (congrArg some (by kernel_rfl))
  f267 := Tryz.func111.trans (congrArg some (by kernel_rfl))
  f268 := Tryz.func89.trans (congrArg some (by kernel_rfl))
  f314 := Tryz.func124.trans (congrArg some (by kernel_rfl))
  t0 := Tryz.underlying0
  a0 := Tryz.isAgg0
  z0 := Tryz.sizeOf0
  v0 := Tryz.zeroValue0
  t3 := Tryz.underlying3
  a3 := Tryz.isAgg3
  z3 := Tryz.sizeOf3
  v3 := Tryz.zeroValue3
  t4 := Tryz.underlying4
  a4 := Tryz.isAgg4
  z4 := Tryz.sizeOf4
  v4 := Tryz.zeroValue4
  t5 := Tryz.underlying5
  a5 := Tryz.isAgg5
  z5 := Tryz.sizeOf5
  v5 := Tryz.zeroValue5
  t9 := Tryz.underlying9
  a9 := Tryz.isAgg9
  z9 := Tryz.sizeOf9
  v9 := Tryz.zeroValue9
  t21 := Tryz.underlying21
  a21 := Tryz.isAgg21
  z21 := Tryz.sizeOf21
  v21 := Tryz.zeroValue21
  t31 := Tryz.underlying22
  a31 := Tryz.isAgg22
  z31 := Tryz.sizeOf22
  v31 := Tryz.zeroValue22
  t46 := Tryz.underlying57
  a46 := Tryz.isAgg57
  z46 := Tryz.sizeOf57
  v46 := Tryz.zeroValue57
  t51 := Tryz.underlying163
  a51 := Tryz.isAgg163
  z51 := Tryz.sizeOf163
  v51 := Tryz.zeroValue163
  t105 := Tryz.underlying102
  a105 := Tryz.isAgg102
  z105 := Tryz.sizeOf102
  v105 := Tryz.zeroValue102
  t119 := Tryz.underlying137
  a119 := Tryz.isAgg137
  z119 := Tryz.sizeOf137
  t138 := Tryz.underlying139
  a138 := Tryz.isAgg139
  z138 := Tryz.sizeOf139
  v138 := Tryz.zeroValue139
  t139 := Tryz.underlying140
  a139 := Tryz.isAgg140
  z139 := Tryz.sizeOf140
  v139 := Tryz.zeroValue140
  t146 := Tryz.underlying166
  a146 := Tryz.isAgg166
  z146 := Tryz.sizeOf166
  v146 := Tryz.zeroValue166
  g1 := by kernel_rfl
  g3 := by kernel_rfl
  g4 := by kernel_rfl }
open Go.RowKit Go.Lib in
theorem Tryz.strings_Split (s sep : ByteArray) (m : Int) (w : World) (hs : s.size < 4294967281) (hm : w.cell? ⟨2, 0, none⟩ = some (.int .i64 m)) (h1 : 1 ≤ sep.size) :
    Calls Tryz.prog 47 #[.string s, .string sep] w fun e w' =>
      e = .returned (.slice (some ⟨w.heap.size, 0, none⟩) (Lib.countB s sep + 1) (Lib.countB s sep + 1)) ∧ w' = w.alloc (.cells ((Lib.splitB sep 0 (Lib.countB s sep) s).map Value.string).toArray 9) := Any.strings_Split Tryz.lays146 (by kernel_rfl) s sep m w hs hm h1
end Go.Proofs.YtkojdigaoihkpaaGreatDoor

end
section
namespace Go.Proofs.YtkojdigaoihkpaaGreatDoor
set_option linter.unusedVariables false
set_option linter.unusedSimpArgs false
set_option maxRecDepth 100000
open Go.RowKit

def digV (l : List UInt8) : Nat := l.foldl (fun a c => 10 * a + (c.toNat - 48)) 0
theorem digV_snoc (l : List UInt8) (c : UInt8) : digV (l ++ [c]) = 10 * digV l + (c.toNat - 48) := by simp [digV]
theorem digV_take (l : List UInt8) (k : Nat) (h : k < l.length) : digV (l.take (k + 1)) = 10 * digV (l.take k) + (l[k].toNat - 48) := by
  rw [List.take_succ_eq_append_getElem h, digV_snoc]
theorem digV_lt (l : List UInt8) (h : ∀ c ∈ l, c.toNat ≤ 57) : ∀ k, k ≤ l.length → digV (l.take k) < 10 ^ k
  | 0, _ => by simp [digV]
  | k + 1, hk => by
    have ih := digV_lt l h k (by omega)
    rw [digV_take l k (by omega)]
    have := h l[k] (List.getElem_mem (by omega))
    rw [Nat.pow_succ]
    omega
theorem digV_lt10 (l : List UInt8) (k : Nat) (hk : k ≤ l.length) (h10 : k ≤ 10) (h : ∀ j (hj : j < l.length), j < k → l[j].toNat ≤ 57) : digV (l.take k) < 10000000000 := by
  have h1 := digV_lt (l.take k) (fun c hc => by
    obtain ⟨j, hj, rfl⟩ := List.getElem_of_mem hc
    rw [List.getElem_take]
    rw [List.length_take] at hj
    exact h j (by omega) (by omega)) k (by rw [List.length_take]; omega)
  rw [List.take_take, Nat.min_self] at h1
  exact Nat.lt_of_lt_of_le h1 (Nat.pow_le_pow_right (by decide) h10)
/-- A number's digits. -/
def numD (l : List UInt8) : List UInt8 := match l with
  | [] => []
  | c :: r => if c.toNat = 45 then r else c :: r
def numP (l : List UInt8) : Prop := 1 ≤ (numD l).length ∧ (numD l).length ≤ 10 ∧ ¬ (((numD l).getD 0 0).toNat = 48 ∧ l ≠ [48]) ∧ (∀ c ∈ numD l, 48 ≤ c.toNat ∧ c.toNat ≤ 57) ∧ digV (numD l) ≤ 1073741824
open Classical in
noncomputable def numK (l : List UInt8) : Bool := decide (numP l)
open Classical in
noncomputable def numV (l : List UInt8) : Int := if numP l then (if (numD l).length < l.length then -(digV (numD l) : Int) else digV (numD l)) else 0
theorem num_not {l : List UInt8} (h : ¬ numP l) : numV l = 0 ∧ numK l = false := by
  constructor
  · rw [numV, if_neg h]
  · simp [numK, h]
theorem num_yes {l : List UInt8} (h : numP l) : numV l = (if (numD l).length < l.length then -(digV (numD l) : Int) else digV (numD l)) ∧ numK l = true := by
  constructor
  · rw [numV, if_pos h]
  · simp [numK, h]
theorem numD_plain {s : ByteArray} (h : 0 < s.size) (h45 : ¬ (s[0]'h).toNat = 45) : numD s.data.toList = s.data.toList := by
  obtain ⟨⟨l⟩⟩ := s
  cases l with
  | nil => rfl
  | cons c r =>
    have : ¬ c.toNat = 45 := by simpa [ByteArray.getElem_eq_getElem_data] using h45
    show (if c.toNat = 45 then r else c :: r) = c :: r
    rw [if_neg this]
theorem numD_neg {s : ByteArray} (h : 0 < s.size) (h45 : (s[0]'h).toNat = 45) : numD s.data.toList = (s.extract 1 s.size).data.toList := by
  rw [Lib.extract_data]
  obtain ⟨⟨l⟩⟩ := s
  cases l with
  | nil => simp [ByteArray.size] at h
  | cons c r =>
    have : c.toNat = 45 := by simpa [ByteArray.getElem_eq_getElem_data] using h45
    show (if c.toNat = 45 then r else c :: r) = _
    rw [if_pos this]
    simp [ByteArray.size]
theorem get_list (s : ByteArray) (k : Nat) (h : k < s.size) (h' : k < s.data.toList.length) : s.data.toList[k] = s[k] := by simp [ByteArray.getElem_eq_getElem_data]
theorem len_list (s : ByteArray) : s.data.toList.length = s.size := (Lib.size_eq s).symm
set_option maxHeartbeats 8000000 in
theorem rnumber_plain (s : ByteArray) (w : World) (h0 : 0 < s.size) (h45 : ¬ s[0].toNat = 45) :
    Calls Tryz.prog 61 #[.string s] w fun e w' => e = .returned (.tuple #[.int .i64 (numV s.data.toList), .bool (numK s.data.toList)]) ∧ w = w' := by
  have HDL : Hid (numD s.data.toList = s.data.toList) := numD_plain h0 h45
  have gq45 : ((s[0].toNat : Int) == 45) = false := by simp; omega
  go_enter Tryz.func61, Tryz.ntmps61
  go_upto_region 4 with fail
  have gz : (((s.size : Nat) : Int) == 0) = false := by rw [beq_eq_false_iff_ne]; omega
  by_cases h10 : 10 < s.size
  · have g10 : (10 : Int) < ((s.size : Nat) : Int) := by omega
    have HN : Hid (numV s.data.toList = 0 ∧ numK s.data.toList = false) := num_not (by
      intro h
      have h1 := h.2.1
      rw [HDL.out, len_list] at h1
      omega)
    go_wp2
    go_ret2
    exact ⟨by rw [HN.out.1, HN.out.2]; rfl, rfl⟩
  have g10 : ¬ (10 : Int) < ((s.size : Nat) : Int) := by omega
  have HD0 : Hid ((numD s.data.toList).getD 0 0 = s[0]) := by
    show _ = _
    rw [HDL.out, List.getD_eq_getElem?_getD, List.getElem?_eq_getElem (by rw [len_list]; exact h0), Option.getD_some]
    exact get_list s 0 (by exact h0) _
  by_cases h48 : s[0].toNat = 48
  · have gq48 : ((s[0].toNat : Int) == 48) = true := by simp; omega
    cases he : s.toList == [48] with
    | false =>
      have HN : Hid (numV s.data.toList = 0 ∧ numK s.data.toList = false) := num_not (by
        intro h
        refine h.2.2.1 ⟨by rw [HD0.out]; exact h48, fun e => ?_⟩
        rw [Lib.toList_data, e] at he
        simp at he)
      go_wp2
      go_ret2
      exact ⟨by rw [HN.out.1, HN.out.2]; rfl, rfl⟩
    | true =>
      have H48 : Hid (¬ (((numD s.data.toList).getD 0 0).toNat = 48 ∧ s.data.toList ≠ [48])) := fun h => h.2 (by rw [← Lib.toList_data]; simpa using he)
      have hsz10 : s.size ≤ 10 := by omega
      go_wp2
      go_loop [5, 6] (fun n i => ∃ k : Nat, k ≤ s.size ∧ i = .int .i64 k ∧ n = .int .i64 (digV (s.data.toList.take k)) ∧ Hid (∀ j (hj : j < s.data.toList.length), j < k → 48 ≤ s.data.toList[j].toNat ∧ s.data.toList[j].toNat ≤ 57)) (fun _ i => s.size - (intOf i).toNat)
      case atStart => exact ⟨0, Nat.zero_le _, rfl, rfl, fun j h1 h2 => by omega⟩
      case round =>
        obtain ⟨k, hk, rfl, rfl, HA⟩ := hrel
        have hv := digV_lt10 s.data.toList k (by rw [len_list]; exact hk) (by omega) (fun j h1 h2 => (HA.out j h1 h2).2)
        by_cases hlt : k < s.size
        · have hll : k < s.data.toList.length := by rw [len_list]; exact hlt
          have HG : Hid (s.data.toList[k] = s[k]) := get_list s k hlt hll
          have HV : Hid (digV (s.data.toList.take (k + 1)) = 10 * digV (s.data.toList.take k) + (s.data.toList[k].toNat - 48)) := digV_take _ _ hll
          obtain ⟨V, hV⟩ : ∃ V, digV (s.data.toList.take k) = V := ⟨_, rfl⟩
          rw [hV] at hv HV ⊢
          by_cases hlo : s[k].toNat < 48
          · have g1 : (s[k].toNat : Int) < 48 := by omega
            clear hV
            have HN : Hid (numV s.data.toList = 0 ∧ numK s.data.toList = false) := num_not (by
              intro h
              have h1 := h.2.2.2.1
              rw [HDL.out] at h1
              have := h1 _ (List.getElem_mem hll)
              rw [HG.out] at this
              omega)
            go_wp2
            go_ret2
            exact ⟨by rw [HN.out.1, HN.out.2]; rfl, rfl⟩
          · have g1 : ¬ (s[k].toNat : Int) < 48 := by omega
            by_cases hhi : 57 < s[k].toNat
            · have g2 : (57 : Int) < (s[k].toNat : Int) := by omega
              clear hV
              have HN : Hid (numV s.data.toList = 0 ∧ numK s.data.toList = false) := num_not (by
                intro h
                have h1 := h.2.2.2.1
                rw [HDL.out] at h1
                have := h1 _ (List.getElem_mem hll)
                rw [HG.out] at this
                omega)
              go_wp2
              go_ret2
              exact ⟨by rw [HN.out.1, HN.out.2]; rfl, rfl⟩
            · have g2 : ¬ (57 : Int) < (s[k].toNat : Int) := by omega
              obtain ⟨c, hc⟩ : ∃ c, s[k].toNat = c := ⟨_, rfl⟩
              have HC : Hid (s.data.toList[k].toNat = c) := by show _ = _; rw [HG.out, hc]
              rw [hc] at hlo hhi
              clear hV g1 g2
              have g1 : ¬ (c : Int) < 48 := by omega
              have g2 : ¬ (57 : Int) < (c : Int) := by omega
              have g3 : IntKind.u8.wrap ((c : Int) - 48) = (c : Int) - 48 := by simp [IntKind.wrap, IntKind.signed, IntKind.bits]; omega
              go_wp2
              go_round
              case rel =>
                refine ⟨k + 1, by omega, by go_num, ?_, fun j h1 h2 => ?_⟩
                · rw [HV.out, HC.out]
                  go_num
                · by_cases e : j = k
                  · subst e; rw [HC.out]; omega
                  · exact HA.out j h1 (by omega)
              case measure => simp [intOf]; omega
        · obtain rfl : k = s.size := by omega
          have HTK : Hid (s.data.toList.take s.size = s.data.toList) := by show _ = _; rw [← len_list]; exact List.take_length
          rw [HTK.out] at hv ⊢
          obtain ⟨V, hV⟩ : ∃ V, digV s.data.toList = V := ⟨_, rfl⟩
          have HVV : Hid (digV s.data.toList = V) := hV
          rw [hV] at hv ⊢
          clear hV
          by_cases hm : V ≤ 1073741824
          · have g1 : ¬ (1073741824 : Int) < (V : Int) := by omega
            have HN : Hid (numV s.data.toList = (V : Int) ∧ numK s.data.toList = true) := by
              have hp : numP s.data.toList := by
                refine ⟨?_, ?_, ?_, ?_, ?_⟩
                · rw [HDL.out, len_list]; omega
                · rw [HDL.out, len_list]; omega
                · exact H48.out
                · intro c hc
                  rw [HDL.out] at hc
                  obtain ⟨j, hj, rfl⟩ := List.getElem_of_mem hc
                  exact HA.out j hj (by rw [← len_list]; exact hj)
                · rw [HDL.out, HVV.out]; exact hm
              have h := num_yes hp
              rw [HDL.out, HVV.out, len_list] at h
              show _ ∧ _
              rw [h.1, h.2, if_neg (by omega)]
              exact ⟨rfl, rfl⟩
            skip
            go_wp2
            go_ret2
            exact ⟨by rw [HN.out.1, HN.out.2]; rfl, rfl⟩
          · have g1 : (1073741824 : Int) < (V : Int) := by omega
            have HN : Hid (numV s.data.toList = 0 ∧ numK s.data.toList = false) := num_not (by
              intro h
              have h1 := h.2.2.2.2
              rw [HDL.out, HVV.out] at h1
              omega)
            go_wp2
            go_ret2
            exact ⟨by rw [HN.out.1, HN.out.2]; rfl, rfl⟩
  have gq48 : ((s[0].toNat : Int) == 48) = false := by simp; omega
  have H48 : Hid (¬ (((numD s.data.toList).getD 0 0).toNat = 48 ∧ s.data.toList ≠ [48])) := fun h => h48 (by rw [← HD0.out]; exact h.1)
  have hsz10 : s.size ≤ 10 := by omega
  go_wp2
  go_loop [5, 6] (fun n i => ∃ k : Nat, k ≤ s.size ∧ i = .int .i64 k ∧ n = .int .i64 (digV (s.data.toList.take k)) ∧ Hid (∀ j (hj : j < s.data.toList.length), j < k → 48 ≤ s.data.toList[j].toNat ∧ s.data.toList[j].toNat ≤ 57)) (fun _ i => s.size - (intOf i).toNat)
  case atStart => exact ⟨0, Nat.zero_le _, rfl, rfl, fun j h1 h2 => by omega⟩
  case round =>
    obtain ⟨k, hk, rfl, rfl, HA⟩ := hrel
    have hv := digV_lt10 s.data.toList k (by rw [len_list]; exact hk) (by omega) (fun j h1 h2 => (HA.out j h1 h2).2)
    by_cases hlt : k < s.size
    · have hll : k < s.data.toList.length := by rw [len_list]; exact hlt
      have HG : Hid (s.data.toList[k] = s[k]) := get_list s k hlt hll
      have HV : Hid (digV (s.data.toList.take (k + 1)) = 10 * digV (s.data.toList.take k) + (s.data.toList[k].toNat - 48)) := digV_take _ _ hll
      obtain ⟨V, hV⟩ : ∃ V, digV (s.data.toList.take k) = V := ⟨_, rfl⟩
      rw [hV] at hv HV ⊢
      by_cases hlo : s[k].toNat < 48
      · have g1 : (s[k].toNat : Int) < 48 := by omega
        clear hV
        have HN : Hid (numV s.data.toList = 0 ∧ numK s.data.toList = false) := num_not (by
          intro h
          have h1 := h.2.2.2.1
          rw [HDL.out] at h1
          have := h1 _ (List.getElem_mem hll)
          rw [HG.out] at this
          omega)
        go_wp2
        go_ret2
        exact ⟨by rw [HN.out.1, HN.out.2]; rfl, rfl⟩
      · have g1 : ¬ (s[k].toNat : Int) < 48 := by omega
        by_cases hhi : 57 < s[k].toNat
        · have g2 : (57 : Int) < (s[k].toNat : Int) := by omega
          clear hV
          have HN : Hid (numV s.data.toList = 0 ∧ numK s.data.toList = false) := num_not (by
            intro h
            have h1 := h.2.2.2.1
            rw [HDL.out] at h1
            have := h1 _ (List.getElem_mem hll)
            rw [HG.out] at this
            omega)
          go_wp2
          go_ret2
          exact ⟨by rw [HN.out.1, HN.out.2]; rfl, rfl⟩
        · have g2 : ¬ (57 : Int) < (s[k].toNat : Int) := by omega
          obtain ⟨c, hc⟩ : ∃ c, s[k].toNat = c := ⟨_, rfl⟩
          have HC : Hid (s.data.toList[k].toNat = c) := by show _ = _; rw [HG.out, hc]
          rw [hc] at hlo hhi
          clear hV g1 g2
          have g1 : ¬ (c : Int) < 48 := by omega
          have g2 : ¬ (57 : Int) < (c : Int) := by omega
          have g3 : IntKind.u8.wrap ((c : Int) - 48) = (c : Int) - 48 := by simp [IntKind.wrap, IntKind.signed, IntKind.bits]; omega
          go_wp2
          go_round
          case rel =>
            refine ⟨k + 1, by omega, by go_num, ?_, fun j h1 h2 => ?_⟩
            · rw [HV.out, HC.out]
              go_num
            · by_cases e : j = k
              · subst e; rw [HC.out]; omega
              · exact HA.out j h1 (by omega)
          case measure => simp [intOf]; omega
    · obtain rfl : k = s.size := by omega
      have HTK : Hid (s.data.toList.take s.size = s.data.toList) := by show _ = _; rw [← len_list]; exact List.take_length
      rw [HTK.out] at hv ⊢
      obtain ⟨V, hV⟩ : ∃ V, digV s.data.toList = V := ⟨_, rfl⟩
      have HVV : Hid (digV s.data.toList = V) := hV
      rw [hV] at hv ⊢
      clear hV
      by_cases hm : V ≤ 1073741824
      · have g1 : ¬ (1073741824 : Int) < (V : Int) := by omega
        have HN : Hid (numV s.data.toList = (V : Int) ∧ numK s.data.toList = true) := by
          have hp : numP s.data.toList := by
            refine ⟨?_, ?_, ?_, ?_, ?_⟩
            · rw [HDL.out, len_list]; omega
            · rw [HDL.out, len_list]; omega
            · exact H48.out
            · intro c hc
              rw [HDL.out] at hc
              obtain ⟨j, hj, rfl⟩ := List.getElem_of_mem hc
              exact HA.out j hj (by rw [← len_list]; exact hj)
            · rw [HDL.out, HVV.out]; exact hm
          have h := num_yes hp
          rw [HDL.out, HVV.out, len_list] at h
          show _ ∧ _
          rw [h.1, h.2, if_neg (by omega)]
          exact ⟨rfl, rfl⟩
        skip
        go_wp2
        go_ret2
        exact ⟨by rw [HN.out.1, HN.out.2]; rfl, rfl⟩
      · have g1 : (1073741824 : Int) < (V : Int) := by omega
        have HN : Hid (numV s.data.toList = 0 ∧ numK s.data.toList = false) := num_not (by
          intro h
          have h1 := h.2.2.2.2
          rw [HDL.out, HVV.out] at h1
          omega)
        go_wp2
        go_ret2
        exact ⟨by rw [HN.out.1, HN.out.2]; rfl, rfl⟩
set_option maxHeartbeats 8000000 in
theorem rnumber_neg (s : ByteArray) (w : World) (hs : s.size ≤ 140737488355328) (h0 : 0 < s.size) (h45 : s[0].toNat = 45) :
    Calls Tryz.prog 61 #[.string s] w fun e w' => e = .returned (.tuple #[.int .i64 (numV s.data.toList), .bool (numK s.data.toList)]) ∧ w = w' := by
  obtain ⟨b, hb⟩ : ∃ b, s.extract 1 s.size = b := ⟨_, rfl⟩
  have HDL : Hid (numD s.data.toList = b.data.toList) := by show _ = _; rw [← hb]; exact numD_neg h0 h45
  have hbs : b.size < s.size := by rw [← hb, rest_size]; omega
  have gq45 : ((s[0].toNat : Int) == 45) = true := by simp; omega
  go_enter Tryz.func61, Tryz.ntmps61
  go_upto_region 4 with fail
  clear hb
  by_cases hz : b.size = 0
  · have gz : (((b.size : Nat) : Int) == 0) = true := by simp [hz]
    have HN : Hid (numV s.data.toList = 0 ∧ numK s.data.toList = false) := num_not (by
      intro h
      have h1 := h.1
      rw [HDL.out, len_list] at h1
      omega)
    go_wp2
    go_ret2
    exact ⟨by rw [HN.out.1, HN.out.2]; rfl, rfl⟩
  have hbp : 0 < b.size := by omega
  have gz : (((b.size : Nat) : Int) == 0) = false := by rw [beq_eq_false_iff_ne]; omega
  by_cases h10 : 10 < b.size
  · have g10 : (10 : Int) < ((b.size : Nat) : Int) := by omega
    have HN : Hid (numV s.data.toList = 0 ∧ numK s.data.toList = false) := num_not (by
      intro h
      have h1 := h.2.1
      rw [HDL.out, len_list] at h1
      omega)
    go_wp2
    go_ret2
    exact ⟨by rw [HN.out.1, HN.out.2]; rfl, rfl⟩
  have g10 : ¬ (10 : Int) < ((b.size : Nat) : Int) := by omega
  have HD0 : Hid ((numD s.data.toList).getD 0 0 = b[0]) := by
    show _ = _
    rw [HDL.out, List.getD_eq_getElem?_getD, List.getElem?_eq_getElem (by rw [len_list]; exact hbp), Option.getD_some]
    exact get_list b 0 (by exact hbp) _
  by_cases h48 : b[0].toNat = 48
  · have gq48 : ((b[0].toNat : Int) == 48) = true := by simp; omega
    have hne : (s.toList == [48]) = false := by
      rw [Lib.toList_data]
      cases e : s.data.toList == [48] with
      | false => rfl
      | true =>
        exfalso
        have e1 : s.data.toList = [48] := by simpa using e
        have e2 := len_list s
        rw [e1] at e2
        simp at e2
        omega
    have HN : Hid (numV s.data.toList = 0 ∧ numK s.data.toList = false) := num_not (by
      intro h
      refine h.2.2.1 ⟨by rw [HD0.out]; exact h48, fun e => ?_⟩
      have e2 := len_list s
      rw [e] at e2
      simp at e2
      omega)
    go_wp2
    go_ret2
    exact ⟨by rw [HN.out.1, HN.out.2]; rfl, rfl⟩
  have gq48 : ((b[0].toNat : Int) == 48) = false := by simp; omega
  have H48 : Hid (¬ (((numD s.data.toList).getD 0 0).toNat = 48 ∧ s.data.toList ≠ [48])) := fun h => h48 (by rw [← HD0.out]; exact h.1)
  have hsz10 : b.size ≤ 10 := by omega
  go_wp2
  go_loop [5, 6] (fun n i => ∃ k : Nat, k ≤ b.size ∧ i = .int .i64 k ∧ n = .int .i64 (digV (b.data.toList.take k)) ∧ Hid (∀ j (hj : j < b.data.toList.length), j < k → 48 ≤ b.data.toList[j].toNat ∧ b.data.toList[j].toNat ≤ 57)) (fun _ i => b.size - (intOf i).toNat)
  case atStart => exact ⟨0, Nat.zero_le _, rfl, rfl, fun j h1 h2 => by omega⟩
  case round =>
    obtain ⟨k, hk, rfl, rfl, HA⟩ := hrel
    have hv := digV_lt10 b.data.toList k (by rw [len_list]; exact hk) (by omega) (fun j h1 h2 => (HA.out j h1 h2).2)
    by_cases hlt : k < b.size
    · have hll : k < b.data.toList.length := by rw [len_list]; exact hlt
      have HG : Hid (b.data.toList[k] = b[k]) := get_list b k hlt hll
      have HV : Hid (digV (b.data.toList.take (k + 1)) = 10 * digV (b.data.toList.take k) + (b.data.toList[k].toNat - 48)) := digV_take _ _ hll
      obtain ⟨V, hV⟩ : ∃ V, digV (b.data.toList.take k) = V := ⟨_, rfl⟩
      rw [hV] at hv HV ⊢
      by_cases hlo : b[k].toNat < 48
      · have g1 : (b[k].toNat : Int) < 48 := by omega
        clear hV
        have HN : Hid (numV s.data.toList = 0 ∧ numK s.data.toList = false) := num_not (by
          intro h
          have h1 := h.2.2.2.1
          rw [HDL.out] at h1
          have := h1 _ (List.getElem_mem hll)
          rw [HG.out] at this
          omega)
        go_wp2
        go_ret2
        exact ⟨by rw [HN.out.1, HN.out.2]; rfl, rfl⟩
      · have g1 : ¬ (b[k].toNat : Int) < 48 := by omega
        by_cases hhi : 57 < b[k].toNat
        · have g2 : (57 : Int) < (b[k].toNat : Int) := by omega
          clear hV
          have HN : Hid (numV s.data.toList = 0 ∧ numK s.data.toList = false) := num_not (by
            intro h
            have h1 := h.2.2.2.1
            rw [HDL.out] at h1
            have := h1 _ (List.getElem_mem hll)
            rw [HG.out] at this
            omega)
          go_wp2
          go_ret2
          exact ⟨by rw [HN.out.1, HN.out.2]; rfl, rfl⟩
        · have g2 : ¬ (57 : Int) < (b[k].toNat : Int) := by omega
          obtain ⟨c, hc⟩ : ∃ c, b[k].toNat = c := ⟨_, rfl⟩
          have HC : Hid (b.data.toList[k].toNat = c) := by show _ = _; rw [HG.out, hc]
          rw [hc] at hlo hhi
          clear hV g1 g2
          have g1 : ¬ (c : Int) < 48 := by omega
          have g2 : ¬ (57 : Int) < (c : Int) := by omega
          have g3 : IntKind.u8.wrap ((c : Int) - 48) = (c : Int) - 48 := by simp [IntKind.wrap, IntKind.signed, IntKind.bits]; omega
          go_wp2
          go_round
          case rel =>
            refine ⟨k + 1, by omega, by go_num, ?_, fun j h1 h2 => ?_⟩
            · rw [HV.out, HC.out]
              go_num
            · by_cases e : j = k
              · subst e; rw [HC.out]; omega
              · exact HA.out j h1 (by omega)
          case measure => simp [intOf]; omega
    · obtain rfl : k = b.size := by omega
      have HTK : Hid (b.data.toList.take b.size = b.data.toList) := by show _ = _; rw [← len_list]; exact List.take_length
      rw [HTK.out] at hv ⊢
      obtain ⟨V, hV⟩ : ∃ V, digV b.data.toList = V := ⟨_, rfl⟩
      have HVV : Hid (digV b.data.toList = V) := hV
      rw [hV] at hv ⊢
      clear hV
      by_cases hm : V ≤ 1073741824
      · have g1 : ¬ (1073741824 : Int) < (V : Int) := by omega
        have HN : Hid (numV s.data.toList = -(V : Int) ∧ numK s.data.toList = true) := by
          have hp : numP s.data.toList := by
            refine ⟨?_, ?_, ?_, ?_, ?_⟩
            · rw [HDL.out, len_list]; omega
            · rw [HDL.out, len_list]; omega
            · exact H48.out
            · intro c hc
              rw [HDL.out] at hc
              obtain ⟨j, hj, rfl⟩ := List.getElem_of_mem hc
              exact HA.out j hj (by rw [← len_list]; exact hj)
            · rw [HDL.out, HVV.out]; exact hm
          have h := num_yes hp
          rw [HDL.out, HVV.out, len_list, len_list] at h
          show _ ∧ _
          rw [h.1, h.2, if_pos (by omega)]
          exact ⟨rfl, rfl⟩
        have hlen : ((b.size : Nat) : Int) < (s.size : Int) := by omega
        go_wp2
        go_ret2
        exact ⟨by rw [HN.out.1, HN.out.2]; rfl, rfl⟩
      · have g1 : (1073741824 : Int) < (V : Int) := by omega
        have HN : Hid (numV s.data.toList = 0 ∧ numK s.data.toList = false) := num_not (by
          intro h
          have h1 := h.2.2.2.2
          rw [HDL.out, HVV.out] at h1
          omega)
        go_wp2
        go_ret2
        exact ⟨by rw [HN.out.1, HN.out.2]; rfl, rfl⟩
theorem rnumber_to (s : ByteArray) (w : World) (hs : s.size ≤ 140737488355328) :
    Calls Tryz.prog 61 #[.string s] w fun e w' => e = .returned (.tuple #[.int .i64 (numV s.data.toList), .bool (numK s.data.toList)]) ∧ w = w' := by
  by_cases h0 : 0 < s.size
  · by_cases h45 : s[0].toNat = 45
    · exact rnumber_neg s w hs h0 h45
    · exact rnumber_plain s w h0 h45
  · have hl : s.data.toList = [] := List.eq_nil_of_length_eq_zero (by rw [len_list]; omega)
    have HN : Hid (numV s.data.toList = 0 ∧ numK s.data.toList = false) := num_not (by rw [hl]; intro h; have := h.1; simp [numD] at this)
    have hz : s.size = 0 := by omega
    clear hl h0
    go_enter Tryz.func61, Tryz.ntmps61
    go_wp2
    go_ret2
    exact ⟨by rw [HN.out.1, HN.out.2]; rfl, rfl⟩
/-- What a slice of n elements holds, cell by cell. -/
def Holds (w : World) (v : Value) (n : Nat) (xs : List Value) : Prop :=
  ∃ a c, v = .slice a n c ∧ ∀ j u, xs[j]? = some u → ∃ b off, a = some ⟨b, off, none⟩ ∧ w.cell? ⟨b, off + j, none⟩ = some u
theorem Holds.later {w w' : World} {v : Value} {n : Nat} {xs : List Value} (h : Holds w v n xs) (hb : Below w.heap.size w w') : Holds w' v n xs := by
  obtain ⟨a, c, rfl, hc⟩ := h
  refine ⟨a, c, rfl, fun j u hu => ?_⟩
  obtain ⟨b, off, ha, hx⟩ := hc j u hu
  exact ⟨b, off, ha, cell_later hb hx⟩
theorem ownsR_later {B : Nat} {e : TypeId} {k : Nat} {v : Value} {n : Nat} {xs : List Value} {w w' : World} (h : w.ownsRow B e k v n xs) (hb : Below w.heap.size w w') : w'.ownsRow B e k v n xs := by
  refine ⟨h.1, ?_⟩
  rcases h.2 with h0 | ⟨g, cap, cur, rfl, h1, hh, h2⟩
  · exact Or.inl h0
  · exact Or.inr ⟨g, cap, cur, rfl, h1, (hb.block g (Array.getElem?_eq_some_iff.1 hh).1).trans hh, h2⟩
theorem addr_addW (b off j : Nat) : (⟨b, off, none⟩ : Addr).add j = ⟨b, off + j, none⟩ := by
  by_cases h0 : j = 0
  · subst h0; simp [Addr.add]
  · simp [Addr.add, h0]
theorem Holds.own {B : Nat} {e : TypeId} {k : Nat} {v : Value} {n : Nat} {xs : List Value} {w : World} (h : w.ownsRow B e k v n xs) : Holds w v n xs := by
  rcases h.2 with ⟨rfl, rfl⟩ | ⟨g, cap, cur, rfl, _⟩
  · have hx : xs = [] := List.eq_nil_of_length_eq_zero (by simpa using h.1)
    subst hx
    exact ⟨none, 0, rfl, fun j u hu => by simp at hu⟩
  · refine ⟨_, _, rfl, fun j u hu => ⟨g, 0, rfl, ?_⟩⟩
    have := h.cells (g := g) rfl j u hu
    rw [addr_addW] at this
    exact this
/-- A row of cells with as many of room. -/
def HoldsC (w : World) (v : Value) (n : Nat) (xs : List Value) : Prop :=
  ∃ a c, v = .slice a n c ∧ n ≤ c ∧ ∀ j u, xs[j]? = some u → ∃ b off, a = some ⟨b, off, none⟩ ∧ w.cell? ⟨b, off + j, none⟩ = some u
theorem HoldsC.own {B : Nat} {e : TypeId} {k : Nat} {v : Value} {n : Nat} {xs : List Value} {w : World} (h : w.ownsRow B e k v n xs) : HoldsC w v n xs := by
  obtain ⟨a, c, e1, hc⟩ := Holds.own h
  refine ⟨a, c, e1, ?_, hc⟩
  rcases h.2 with ⟨rfl, rfl⟩ | ⟨g, cap, cur, rfl, _, _, hle, _⟩
  · exact Nat.zero_le _
  · simp only [Value.slice.injEq] at e1
    obtain ⟨_, _, rfl⟩ := e1
    exact hle
theorem HoldsC.nil (w : World) : HoldsC w (.slice none 0 0) 0 [] := ⟨none, 0, rfl, Nat.le_refl _, fun j u hu => by simp at hu⟩
theorem Holds.nil (w : World) : Holds w (.slice none 0 0) 0 [] := ⟨none, 0, rfl, fun j u hu => by simp at hu⟩
/-- A word: its text, its place. -/
abbrev Tok := ByteArray × Nat
def cellsT : List Tok → List Value
  | [] => []
  | t :: r => .string t.1 :: .int .i64 t.2 :: cellsT r
theorem cellsT_snoc (l : List Tok) (t : Tok) : cellsT (l ++ [t]) = cellsT l ++ [.string t.1, .int .i64 t.2] := by
  induction l with
  | nil => rfl
  | cons a r ih => simp [cellsT, ih]
/-- Is this rune bad in a line? -/
def badR (r k : Nat) : Bool := (decide (r = 65533) && decide (k ≤ 1)) || (!letR r && !digR r && decide (r ≠ 45) && decide (r ≠ 61) && decide (r ≠ 32) && decide (r ≠ 9))
/-- The first bad place from p on. -/
def badN (s : ByteArray) : Nat → Nat → Option Nat
  | 0, _ => none
  | f + 1, p => if p < s.size then (if badR (Utf8.decode s p).1 (Utf8.decode s p).2 then some p else badN s f (p + (Utf8.decode s p).2)) else none
def badW (s : ByteArray) : Option Nat := badN s (s.size + 1) 0
/-- The byte at a place; behind the end: a blank. -/
def byteE (s : ByteArray) (i : Nat) : Nat := if h : i < s.size then (s[i]'h).toNat else 32
def endB (s : ByteArray) (i : Nat) : Bool := decide (byteE s i = 32) || decide (byteE s i = 9) || decide (byteE s i = 61)
def endT (s : ByteArray) (i : Nat) (st : Option Nat × List Tok) : List Tok := match st.1 with
  | some f => st.2 ++ [(s.extract f i, f)]
  | none => st.2
def tokStep (s : ByteArray) (i : Nat) (st : Option Nat × List Tok) : Option Nat × List Tok :=
  if endB s i then (none, if byteE s i = 61 then endT s i st ++ [(⟨#[61]⟩, i)] else endT s i st)
  else (match st.1 with | some f => some f | none => some i, st.2)
def tokSt (s : ByteArray) : Nat → Option Nat × List Tok
  | 0 => (none, [])
  | k + 1 => tokStep s k (tokSt s k)
/-- A line's words. -/
def toksW (s : ByteArray) : List Tok := (tokSt s (s.size + 1)).2
theorem tokSt_lt (s : ByteArray) : ∀ k f, (tokSt s k).1 = some f → f < k
  | 0, f, h => by simp [tokSt] at h
  | k + 1, f, h => by
    rw [tokSt, tokStep] at h
    split at h
    · simp at h
    · cases e : (tokSt s k).1 with
      | none => rw [e] at h; simp at h; omega
      | some g => rw [e] at h; simp at h; have := tokSt_lt s k g e; omega
theorem tokSt_len (s : ByteArray) : ∀ k, (tokSt s k).2.length ≤ 2 * k
  | 0 => by simp [tokSt]
  | k + 1 => by
    have ih := tokSt_len s k
    rw [tokSt, tokStep]
    have h1 : (endT s k (tokSt s k)).length ≤ (tokSt s k).2.length + 1 := by
      rw [endT]; split <;> simp
    split
    · split
      · simp only [List.length_append, List.length_cons, List.length_nil]; omega
      · simp only; omega
    · simp only; omega
def fromV : Option Nat → Value
  | some f => .int .i64 f
  | none => .int .i64 (-1)
theorem byteE_lt {s : ByteArray} {i : Nat} (h : i < s.size) : byteE s i = (s[i]'h).toNat := by rw [byteE, dif_pos h]
theorem byteE_end (s : ByteArray) : byteE s s.size = 32 := by rw [byteE, dif_neg (Nat.lt_irrefl _)]
theorem step_end {s : ByteArray} {i : Nat} {st : Option Nat × List Tok} (h : byteE s i = 32 ∨ byteE s i = 9) : tokStep s i st = (none, endT s i st) := by
  rw [tokStep, if_pos (by rw [endB]; rcases h with h | h <;> simp [h]), if_neg (by omega)]
theorem step_eq {s : ByteArray} {i : Nat} {st : Option Nat × List Tok} (h : byteE s i = 61) : tokStep s i st = (none, endT s i st ++ [(⟨#[61]⟩, i)]) := by
  rw [tokStep, if_pos (by rw [endB]; simp [h]), if_pos h]
theorem step_in {s : ByteArray} {i : Nat} {st : Option Nat × List Tok} (h : ¬ byteE s i = 32) (h2 : ¬ byteE s i = 9) (h3 : ¬ byteE s i = 61) : tokStep s i st = (match st.1 with | some f => some f | none => some i, st.2) := by
  rw [tokStep, if_neg (by rw [endB]; simp [h, h2, h3])]
theorem infoK' : (Tryz.prog.info? 106).map (fun i => (i.zero, i.size, i.bytes)) = some (some (.agg #[.string ⟨#[]⟩, .int .i64 0]), 2, 24) := by kernel_rfl
theorem infoK : ∃ i, Tryz.prog.info? 106 = some i ∧ i.zero = some (.agg #[.string ⟨#[]⟩, .int .i64 0]) ∧ i.size = 2 ∧ i.bytes = 24 := by
  have h := infoK'
  cases e : Tryz.prog.info? 106 with
  | none => rw [e] at h; simp at h
  | some i => rw [e] at h; simp at h; exact ⟨i, rfl, h⟩
theorem infoS' : (Tryz.prog.info? 9).map (fun i => (i.zero, i.size, i.bytes)) = some (some (.string ⟨#[]⟩), 1, 16) := by kernel_rfl
theorem infoS : ∃ i, Tryz.prog.info? 9 = some i ∧ i.zero = some (.string ⟨#[]⟩) ∧ i.size = 1 ∧ i.bytes = 16 := by
  have h := infoS'
  cases e : Tryz.prog.info? 9 with
  | none => rw [e] at h; simp at h
  | some i => rw [e] at h; simp at h; exact ⟨i, rfl, h⟩
theorem tw_yes {α : Type} (p : α → Bool) : ∀ (l : List α) (m : Nat) (h : m < l.length), m ≤ (l.takeWhile p).length → p l[m] = true → m + 1 ≤ (l.takeWhile p).length
  | a :: r, 0, _, _, h2 => by
    have : p a = true := h2
    simp [List.takeWhile_cons, this]
  | a :: r, m + 1, h, h1, h2 => by
    by_cases e : p a = true
    · rw [List.takeWhile_cons, if_pos e, List.length_cons] at h1 ⊢
      have := tw_yes p r m (by simpa using h) (by omega) (by simpa using h2)
      omega
    · rw [List.takeWhile_cons, if_neg e] at h1
      simp at h1
theorem tw_no {α : Type} (p : α → Bool) : ∀ (l : List α) (m : Nat) (h : m < l.length), m ≤ (l.takeWhile p).length → ¬ p l[m] = true → (l.takeWhile p).length = m
  | a :: r, 0, _, _, h2 => by
    have : ¬ p a = true := h2
    simp [List.takeWhile_cons, this]
  | a :: r, m + 1, h, h1, h2 => by
    by_cases e : p a = true
    · rw [List.takeWhile_cons, if_pos e, List.length_cons] at h1 ⊢
      have := tw_no p r m (by simpa using h) (by omega) (by simpa using h2)
      omega
    · rw [List.takeWhile_cons, if_neg e] at h1
      simp at h1
theorem tw_le {α : Type} (p : α → Bool) (l : List α) : (l.takeWhile p).length ≤ l.length := (List.takeWhile_sublist p).length_le
/-- Where a line's # is, or its end. -/
def cutN (x : ByteArray) : Nat := (x.data.toList.takeWhile (fun c => decide (c.toNat ≠ 35))).length
def cutH (x : ByteArray) : ByteArray := x.extract 0 (cutN x)
theorem cutN_le (x : ByteArray) : cutN x ≤ x.size := by
  have := tw_le (fun c : UInt8 => decide (c.toNat ≠ 35)) x.data.toList
  rw [len_list] at this
  exact this
theorem cutH_size (x : ByteArray) : (cutH x).size = cutN x := by
  have := cutN_le x
  rw [cutH, ByteArray.size_extract]; omega
theorem cutN_hit {x : ByteArray} {m : Nat} (h : m < x.size) (h1 : m ≤ cutN x) (h2 : (x[m]'h).toNat = 35) : cutN x = m :=
  tw_no _ _ m (by rw [len_list]; exact h) h1 (by rw [get_list x m h]; simp [h2])
theorem cutN_not {x : ByteArray} {m : Nat} (h : m < x.size) (h1 : m ≤ cutN x) (h2 : ¬ (x[m]'h).toNat = 35) : m + 1 ≤ cutN x :=
  tw_yes _ _ m (by rw [len_list]; exact h) h1 (by rw [get_list x m h]; simp [h2])
theorem cutH_all {x : ByteArray} (h : x.size ≤ cutN x) : cutH x = x := by
  have h2 : cutN x = x.size := by have := cutN_le x; omega
  rw [cutH, h2]; simp
/-- Where the loop that looks for # stands. -/
def CutI (x0 y : ByteArray) (m : Nat) : Prop := (y = x0 ∧ m ≤ x0.size ∧ m ≤ cutN x0) ∨ (y = cutH x0 ∧ m = y.size + 1)
def linStep (s : ByteArray) (k : Nat) (st : Nat × List ByteArray) : Nat × List ByteArray :=
  if k < s.size ∧ byteE s k ≠ 10 then st
  else if k = s.size ∧ (cutH (s.extract st.1 k)).size = 0 then st
  else (k + 1, st.2 ++ [cutH (s.extract st.1 k)])
def linSt (s : ByteArray) : Nat → Nat × List ByteArray
  | 0 => (0, [])
  | k + 1 => linStep s k (linSt s k)
/-- A text's lines. -/
def linesL (s : ByteArray) : List ByteArray := (linSt s (s.size + 1)).2
theorem linSt_le (s : ByteArray) : ∀ k, (linSt s k).1 ≤ k
  | 0 => by simp [linSt]
  | k + 1 => by
    have ih := linSt_le s k
    rw [linSt, linStep]
    split
    · omega
    · split
      · omega
      · simp
theorem linSt_len (s : ByteArray) : ∀ k, (linSt s k).2.length ≤ k
  | 0 => by simp [linSt]
  | k + 1 => by
    have ih := linSt_len s k
    rw [linSt, linStep]
    split
    · omega
    · split
      · omega
      · simp; omega
def cellsS (l : List ByteArray) : List Value := l.map .string
theorem cellsS_snoc (l : List ByteArray) (t : ByteArray) : cellsS (l ++ [t]) = cellsS l ++ [.string t] := by simp [cellsS]
theorem cellsS_len (l : List ByteArray) : (cellsS l).length = l.length := by simp [cellsS]
theorem cellsS_at (l : List ByteArray) (i : Nat) (h : i < l.length) : (cellsS l)[i]? = some (.string l[i]) := by simp [cellsS, h]
theorem get_in (s : ByteArray) (i : Nat) (h : i < s.size) : s.get! i = s[i] := by
  show s.data[i]! = s.data[i]
  rw [getElem!_pos]
theorem dec_low {s : ByteArray} {p r k : Nat} (h : p < s.size) (hr : Utf8.decode s p = (r, k)) (hl : r < 128) : k = 1 ∧ (s[p]'h).toNat = r := by
  by_cases ha : (s[p]'h).toNat < 128
  · rw [decode_ascii s p h ha] at hr
    have h1 := congrArg Prod.fst hr
    have h2 := congrArg Prod.snd hr
    simp only at h1 h2
    omega
  · have := (decode_high s p h (by omega)).1
    rw [hr] at this
    simp only at this
    omega
theorem dec_high {s : ByteArray} {p r k : Nat} (h : p < s.size) (hr : Utf8.decode s p = (r, k)) (hl : 128 ≤ r) : 128 ≤ (s[p]'h).toNat := by
  apply Nat.le_of_not_lt
  intro ha
  rw [decode_ascii s p h ha] at hr
  have h1 := congrArg Prod.fst hr
  simp only at h1
  omega
theorem dec_conts {s : ByteArray} {p r k : Nat} (h : p < s.size) (hr : Utf8.decode s p = (r, k)) (hl : 128 ≤ r) (j : Nat) (hj : j < k) : p + j < s.size ∧ 128 ≤ byteE s (p + j) := by
  have h0 := dec_high h hr hl
  have hc := Lib.decodeN_conts (s.size - p) (s.get! p).toNat (s.get! (p + 1)).toNat (s.get! (p + 2)).toNat (s.get! (p + 3)).toNat
  rw [← Lib.decode_at, hr] at hc
  simp only at hc
  obtain ⟨c2, c3, c4, c5⟩ := hc
  have key : ∀ i, (s.get! (p + i)).toNat / 64 = 2 ∧ i < s.size - p → p + i < s.size ∧ 128 ≤ byteE s (p + i) := by
    intro i hi
    have hlt : p + i < s.size := by omega
    refine ⟨hlt, ?_⟩
    rw [byteE_lt hlt, ← get_in s (p + i) hlt]
    omega
  match j, hj with
  | 0, _ => exact ⟨h, by rw [Nat.add_zero, byteE_lt h]; exact h0⟩
  | 1, hj => exact key 1 (c2 (by omega))
  | 2, hj => exact key 2 (c3 (by omega))
  | 3, hj => exact key 3 (c4 (by omega))
  | j + 4, hj => omega

/- Words. -/
/-- What 'put' makes of the words so far. -/
def putL (l : List Tok) (s : ByteArray) (a b : Nat) : List Tok := if a = b then l else l ++ [(s.extract a b, a)]
/-- Where the walk by runes stands, said of the walk by bytes. -/
def WordI (s : ByteArray) (p a : Nat) (l : List Tok) : Prop := (tokSt s p).2 = l ∧ (((tokSt s p).1 = some a ∧ a < p) ∨ ((tokSt s p).1 = none ∧ a = p))
theorem WordI.le {s : ByteArray} {p a : Nat} {l : List Tok} (h : WordI s p a l) : a ≤ p := by rcases h.2 with h | h <;> omega
theorem WordI.start (s : ByteArray) : WordI s 0 0 [] := ⟨rfl, Or.inr ⟨rfl, rfl⟩⟩
theorem WordI.fin {s : ByteArray} {p a : Nat} {l : List Tok} (h : WordI s p a l) : endT s p (tokSt s p) = putL l s a p := by
  rw [endT, putL]
  rcases h.2 with ⟨h1, h2⟩ | ⟨h1, h2⟩
  · rw [h1, h.1, if_neg (by omega)]
  · rw [h1, h.1, if_pos h2]
theorem WordI.in1 {s : ByteArray} {p a : Nat} {l : List Tok} (h : WordI s p a l) (h1 : ¬ byteE s p = 32) (h2 : ¬ byteE s p = 9) (h3 : ¬ byteE s p = 61) : WordI s (p + 1) a l := by
  have e : tokSt s (p + 1) = tokStep s p (tokSt s p) := rfl
  rw [step_in h1 h2 h3] at e
  refine ⟨by rw [e]; exact h.1, Or.inl ?_⟩
  rw [e]
  rcases h.2 with ⟨g1, g2⟩ | ⟨g1, g2⟩
  · rw [g1]; exact ⟨rfl, by omega⟩
  · rw [g1]; exact ⟨by rw [g2], by omega⟩
theorem WordI.many {s : ByteArray} {a : Nat} {l : List Tok} : ∀ {k p : Nat}, WordI s p a l → (∀ j, j < k → 128 ≤ byteE s (p + j)) → WordI s (p + k) a l
  | 0, p, h, _ => h
  | k + 1, p, h, hk => by
    have h0 := hk 0 (by omega)
    rw [Nat.add_zero] at h0
    have := WordI.many (k := k) (h.in1 (by omega) (by omega) (by omega)) (fun j hj => by have := hk (j + 1) (by omega); rw [Nat.add_assoc, Nat.add_comm 1 j]; exact this)
    rw [show p + (k + 1) = p + 1 + k by omega]
    exact this
/-- A rune that ends no word. -/
theorem WordI.rune {s : ByteArray} {p a r k : Nat} {l : List Tok} (h : WordI s p a l) (hp : p < s.size) (hr : Utf8.decode s p = (r, k)) (h1 : ¬ r = 32) (h2 : ¬ r = 9) (h3 : ¬ r = 61) : WordI s (p + k) a l := by
  by_cases hl : r < 128
  · obtain ⟨rfl, hb⟩ := dec_low hp hr hl
    exact h.in1 (by rw [byteE_lt hp]; omega) (by rw [byteE_lt hp]; omega) (by rw [byteE_lt hp]; omega)
  · exact h.many (fun j hj => (dec_conts hp hr (by omega) j hj).2)
theorem WordI.gap {s : ByteArray} {p a r k : Nat} {l : List Tok} (h : WordI s p a l) (hp : p < s.size) (hr : Utf8.decode s p = (r, k)) (h1 : r = 32 ∨ r = 9) : k = 1 ∧ WordI s (p + 1) (p + 1) (putL l s a p) := by
  obtain ⟨rfl, hb⟩ := dec_low hp hr (by omega)
  have e : tokSt s (p + 1) = (none, endT s p (tokSt s p)) := by rw [tokSt, step_end (by rw [byteE_lt hp]; omega)]
  exact ⟨rfl, by rw [e, h.fin], Or.inr ⟨by rw [e], rfl⟩⟩
theorem one_61 {s : ByteArray} {p : Nat} (hp : p < s.size) (hb : (s[p]'hp).toNat = 61) : s.extract p (p + 1) = ⟨#[61]⟩ := by
  apply ByteArray.ext
  rw [ByteArray.data_extract]
  have h0 : p < s.data.size := hp
  have e : s.data[p] = 61 := by
    have : s.data[p].toNat = 61 := hb
    exact UInt8.toNat_inj.1 this
  apply Array.ext
  · simp; omega
  · intro i h1 h2
    simp at h1 h2 ⊢
    have : i = 0 := by omega
    subst this
    simpa using e
theorem WordI.eq {s : ByteArray} {p a r k : Nat} {l : List Tok} (h : WordI s p a l) (hp : p < s.size) (hr : Utf8.decode s p = (r, k)) (h1 : r = 61) : k = 1 ∧ WordI s (p + 1) (p + 1) (putL (putL l s a p) s p (p + 1)) := by
  obtain ⟨rfl, hb⟩ := dec_low hp hr (by omega)
  have e : tokSt s (p + 1) = (none, endT s p (tokSt s p) ++ [(⟨#[61]⟩, p)]) := by rw [tokSt, step_eq (by rw [byteE_lt hp]; omega)]
  refine ⟨rfl, ?_, Or.inr ⟨by rw [e], rfl⟩⟩
  rw [e, h.fin]
  generalize putL l s a p = m
  rw [putL, if_neg (by omega), one_61 hp (by omega)]
theorem WordI.last {s : ByteArray} {a : Nat} {l : List Tok} (h : WordI s s.size a l) : putL l s a s.size = toksW s := by
  rw [toksW, tokSt, step_end (Or.inl (byteE_end s)), ← h.fin]
theorem putL_len (l : List Tok) (s : ByteArray) (a b : Nat) : (putL l s a b).length ≤ l.length + 1 := by
  rw [putL]; split <;> simp
theorem badR_not {r k : Nat} (h : letR r = true ∨ digR r = true ∨ r = 45 ∨ r = 61 ∨ r = 32 ∨ r = 9) : badR r k = false := by
  have hn : ¬ r = 65533 := by
    rintro rfl
    rcases h with h | h | h | h | h | h
    · simp [letR] at h
    · simp [digR] at h
    all_goals omega
  rw [badR]
  rcases h with h | h | h | h | h | h <;> simp [h] <;> omega
theorem badR_yes {r k : Nat} (h1 : letR r = false) (h2 : digR r = false) (h3 : ¬ r = 45) (h4 : ¬ r = 61) (h5 : ¬ r = 32) (h6 : ¬ r = 9) : badR r k = true := by
  simp [badR, h1, h2, h3, h4, h5, h6]
theorem clone_to (s : ByteArray) (w : World) (hs : s.size ≤ 281474976710656) :
    Calls Tryz.prog 49 #[.string s] w fun e w' => e = .returned (.string s) ∧ Below w.heap.size w w' := by
  go_enter Tryz.func49, Tryz.ntmps49
  go_wp2_with (go_at_call 72; refine (Tryz.stringslite_Clone s _ hs).mono ?_; rintro e w1 ⟨rfl, hb1⟩)
  go_ret
  exact ⟨rfl, hb1⟩
theorem trim_neg {s : ByteArray} (h : 0 < s.size) (h45 : (s[0]'h).toNat = 45) : Lib.hasPrefix s.data.toList [45] = true ∧ (⟨(Lib.trimPrefix s.data.toList [45]).toArray⟩ : ByteArray) = s.extract 1 s.size := by
  have e : Lib.hasPrefix s.data.toList [45] = true := by
    obtain ⟨⟨l⟩⟩ := s
    cases l with
    | nil => simp [ByteArray.size] at h
    | cons c r =>
      have h1 : c.toNat = 45 := by simpa [ByteArray.getElem_eq_getElem_data] using h45
      have h2 : c = 45 := UInt8.toNat_inj.1 h1
      simp [Lib.hasPrefix, h2]
  refine ⟨e, ?_⟩
  apply ByteArray.ext
  have h2 := Lib.extract_data s 1 s.size
  apply Array.toList_inj.1
  rw [h2, Lib.trimPrefix, if_pos e]
  simp only [List.length_cons, List.length_nil, List.drop_one, Nat.zero_add]
  rw [List.take_of_length_le]
  rw [List.length_tail, len_list]
  exact Nat.le_refl _
theorem trim_plain {s : ByteArray} (h : s.size = 0 ∨ ∃ h : 0 < s.size, ¬ (s[0]'h).toNat = 45) : Lib.hasPrefix s.data.toList [45] = false ∧ (⟨(Lib.trimPrefix s.data.toList [45]).toArray⟩ : ByteArray) = s := by
  have e : Lib.hasPrefix s.data.toList [45] = false := by
    obtain ⟨⟨l⟩⟩ := s
    cases l with
    | nil => rfl
    | cons c r =>
      rcases h with h | ⟨h, h45⟩
      · simp [ByteArray.size] at h
      · have h1 : ¬ c.toNat = 45 := by simpa [ByteArray.getElem_eq_getElem_data] using h45
        have h2 : ¬ (45 : UInt8) = c := fun e => h1 (by rw [← e]; rfl)
        show (decide ((45 : UInt8) = c) && _) = false
        rw [decide_eq_false h2]
        rfl
  refine ⟨e, ?_⟩
  rw [Lib.trimPrefix, e]
  simp
/-- The digits, as a text; is there a sign ahead? -/
def digB (s : ByteArray) : ByteArray := if h : 0 < s.size then (if (s[0]'h).toNat = 45 then s.extract 1 s.size else s) else s
def negB (s : ByteArray) : Bool := if h : 0 < s.size then decide ((s[0]'h).toNat = 45) else false
theorem trim_all (s : ByteArray) : (⟨(Lib.trimPrefix s.data.toList [45]).toArray⟩ : ByteArray) = digB s ∧ Lib.hasPrefix s.data.toList [45] = negB s := by
  by_cases h : 0 < s.size
  · by_cases h45 : (s[0]'h).toNat = 45
    · have := trim_neg h h45
      rw [digB, negB, dif_pos h, dif_pos h, if_pos h45, decide_eq_true h45]
      exact ⟨this.2, this.1⟩
    · have := trim_plain (Or.inr ⟨h, h45⟩)
      rw [digB, negB, dif_pos h, dif_pos h, if_neg h45, decide_eq_false h45]
      exact ⟨this.2, this.1⟩
  · have := trim_plain (s := s) (Or.inl (by omega))
    rw [digB, negB, dif_neg h, dif_neg h]
    exact ⟨this.2, this.1⟩
theorem digB_numD (s : ByteArray) : (digB s).data.toList = numD s.data.toList := by
  by_cases h : 0 < s.size
  · by_cases h45 : (s[0]'h).toNat = 45
    · rw [digB, dif_pos h, if_pos h45, numD_neg h h45]
    · rw [digB, dif_pos h, if_neg h45, numD_plain h h45]
  · rw [digB, dif_neg h]
    obtain ⟨⟨l⟩⟩ := s
    cases l with
    | nil => rfl
    | cons c r => simp [ByteArray.size] at h
theorem digB_len (s : ByteArray) : (digB s).size = s.size - (if negB s then 1 else 0) := by
  by_cases h : 0 < s.size
  · by_cases h45 : (s[0]'h).toNat = 45
    · rw [digB, negB, dif_pos h, dif_pos h, if_pos h45, decide_eq_true h45, ByteArray.size_extract]; simp
    · rw [digB, negB, dif_pos h, dif_pos h, if_neg h45, decide_eq_false h45]; simp
  · rw [digB, negB, dif_neg h, dif_neg h]; simp
theorem negB_lt {s : ByteArray} (h : negB s = true) : 0 < s.size := by
  rw [negB] at h
  split at h
  · assumption
  · cases h
/- What stands in the way of a number. -/
theorem digV_mono (l : List UInt8) : ∀ (d k : Nat), k + d ≤ l.length → digV (l.take k) ≤ digV (l.take (k + d))
  | 0, k, _ => Nat.le_refl _
  | d + 1, k, h => by
    have h1 := digV_mono l d k (by omega)
    have h2 := digV_take l (k + d) (by omega)
    rw [← Nat.add_assoc, h2]
    omega
theorem digV_all (l : List UInt8) (k : Nat) (h : k ≤ l.length) : digV (l.take k) ≤ digV l := by
  have := digV_mono l (l.length - k) k (by omega)
  rw [show k + (l.length - k) = l.length by omega, List.take_length] at this
  exact this
theorem digV_pow (l : List UInt8) (h0 : ∀ h : 0 < l.length, 49 ≤ (l[0]).toNat) : ∀ k, k < l.length → 10 ^ k ≤ digV (l.take (k + 1))
  | 0, h => by
    rw [digV_take l 0 h]
    have := h0 h
    omega
  | k + 1, h => by
    have ih := digV_pow l h0 k (by omega)
    rw [digV_take l (k + 1) h, Nat.pow_succ]
    omega
theorem numP_not_rune {s : ByteArray} {i : Nat} (hi : i < (digB s).size) (h : ¬ (48 ≤ ((digB s)[i]'hi).toNat ∧ ((digB s)[i]'hi).toNat ≤ 57)) : ¬ numP s.data.toList := by
  intro hp
  have h1 := hp.2.2.2.1 ((digB s)[i]'hi) (by
    rw [← digB_numD, ← get_list (digB s) i hi (by rw [len_list]; exact hi)]
    exact List.getElem_mem _)
  exact h h1
theorem numP_not_zero {s : ByteArray} (h0 : 0 < (digB s).size) (h48 : ((digB s)[0]'h0).toNat = 48) (h : 1 < (digB s).size ∨ negB s = true) : ¬ numP s.data.toList := by
  intro hp
  refine hp.2.2.1 ⟨?_, ?_⟩
  · rw [← digB_numD, List.getD_eq_getElem?_getD, List.getElem?_eq_getElem (by rw [len_list]; exact h0), Option.getD_some, get_list (digB s) 0 h0]
    exact h48
  · intro e
    have h1 : s.size = 1 := by rw [← len_list, e]; rfl
    have h2 := digB_len s
    rcases h with h | h
    · split at h2 <;> omega
    · rw [h] at h2; simp at h2; omega
theorem numP_not_many {s : ByteArray} {k : Nat} (h : k ≤ (digB s).size) (hv : 1073741824 < digV ((digB s).data.toList.take k)) : ¬ numP s.data.toList := by
  intro hp
  have h1 := hp.2.2.2.2
  rw [← digB_numD] at h1
  have := digV_all (digB s).data.toList k (by rw [len_list]; exact h)
  omega
theorem numP_not_none {s : ByteArray} (h : (digB s).size = 0) : ¬ numP s.data.toList := by
  intro hp
  have h1 := hp.1
  rw [← digB_numD, len_list] at h1
  omega
theorem only_48 {b s : ByteArray} (h1 : 0 < b.size) (g3 : b.size = 1) (g1 : (b[0]'h1).toNat = 48) (g6 : b = s) : s.data.toList = [48] := by
  subst g6
  obtain ⟨⟨l⟩⟩ := b
  match l, h1, g3, g1 with
  | [c], h1, _, g1 =>
    have : c.toNat = 48 := by simpa [ByteArray.getElem_eq_getElem_data] using g1
    have : c = 48 := UInt8.toNat_inj.1 this
    rw [this]
  | [], h1, g3, _ => simp [ByteArray.size] at g3
  | a :: b :: r, h1, g3, _ => simp [ByteArray.size] at g3
/-- All went well. -/
theorem num_well {s : ByteArray} (h1 : 0 < (digB s).size) (h2 : ∀ j (hj : j < (digB s).size), 48 ≤ ((digB s)[j]'hj).toNat ∧ ((digB s)[j]'hj).toNat ≤ 57) (h3 : ((digB s)[0]'h1).toNat = 48 → (digB s).size = 1 ∧ negB s = false) (h4 : digV (digB s).data.toList ≤ 1073741824) :
    numK s.data.toList = true ∧ numV s.data.toList = if negB s then -(digV (digB s).data.toList : Int) else digV (digB s).data.toList := by
  have hl : (numD s.data.toList).length = (digB s).size := by rw [← digB_numD, len_list]
  have hp : numP s.data.toList := by
    refine ⟨by omega, ?_, ?_, ?_, by rw [← digB_numD]; exact h4⟩
    · rw [hl]
      apply Nat.le_of_not_lt
      intro hlt
      have h5 := digV_pow (digB s).data.toList (fun h => by
        rw [get_list (digB s) 0 h1]
        have := (h2 0 h1).1
        by_cases e : ((digB s)[0]'h1).toNat = 48
        · have := (h3 e).1; omega
        · omega) 10 (by rw [len_list]; exact hlt)
      have h6 := digV_all (digB s).data.toList (10 + 1) (by rw [len_list]; omega)
      omega
    · rintro ⟨g1, g2⟩
      apply g2
      rw [← digB_numD, List.getD_eq_getElem?_getD, List.getElem?_eq_getElem (by rw [len_list]; exact h1), Option.getD_some, get_list (digB s) 0 h1] at g1
      obtain ⟨g3, g4⟩ := h3 g1
      have g5 := digB_len s
      rw [g4] at g5
      have g6 : digB s = s := by
        rw [digB]
        split
        · rename_i hz
          rw [if_neg]
          intro g7
          rw [negB, dif_pos hz, decide_eq_true g7] at g4
          cases g4
        · rfl
      exact only_48 h1 g3 g1 g6
    · intro c hc
      rw [← digB_numD] at hc
      obtain ⟨j, hj, rfl⟩ := List.getElem_of_mem hc
      rw [get_list (digB s) j (by rw [len_list] at hj; exact hj)]
      exact h2 j _
  obtain ⟨e1, e2⟩ := num_yes hp
  refine ⟨e2, ?_⟩
  rw [e1, hl, digB_numD, len_list]
  have h5 := digB_len s
  cases hn : negB s with
  | true =>
    have h6 := negB_lt hn
    rw [hn, if_pos rfl] at h5
    rw [if_pos (by omega)]
    rfl
  | false =>
    rw [hn, if_neg (by decide)] at h5
    rw [if_neg (by omega)]
    rfl
theorem cutp_to (s : ByteArray) (w : World) :
    Calls Tryz.prog 112 #[.string s, .string ⟨#[45]⟩] w fun e w' => e = .returned (.tuple #[.string (digB s), .bool (negB s)]) ∧ w' = w := by
  have h := Tryz.strings_CutPrefix s ⟨#[45]⟩ w
  have h1 := trim_all s
  rw [show (⟨#[45]⟩ : ByteArray).data.toList = [45] from rfl, h1.1, h1.2] at h
  exact h
theorem digit_at {D : ByteArray} {p r k : Nat} (h : p < D.size) (hr : Utf8.decode D p = (r, k)) (hd : digR r = false) : ¬ (48 ≤ (D[p]'h).toNat ∧ (D[p]'h).toNat ≤ 57) := by
  intro hc
  rw [decode_ascii D p h (by omega)] at hr
  have h1 := congrArg Prod.fst hr
  simp only at h1
  rw [← h1] at hd
  simp [digR] at hd
  omega
theorem digV_first (D : ByteArray) (h0 : 0 < D.size) (p : Nat) (hp : 1 ≤ p) (hps : p ≤ D.size) : (D[0]'h0).toNat - 48 ≤ digV (D.data.toList.take p) := by
  have h1 := digV_mono D.data.toList (p - 1) 1 (by rw [len_list]; omega)
  rw [show 1 + (p - 1) = p by omega] at h1
  have h2 := digV_take D.data.toList 0 (by rw [len_list]; exact h0)
  rw [get_list D 0 h0] at h2
  simp only [Nat.zero_add] at h2
  omega
theorem digV_one (D : ByteArray) (h0 : 0 < D.size) : digV (D.data.toList.take 1) = (D[0]'h0).toNat - 48 := by
  have h2 := digV_take D.data.toList 0 (by rw [len_list]; exact h0)
  rw [get_list D 0 h0] at h2
  simpa [digV] using h2
theorem not_zero {s D : ByteArray} (hD : digB s = D) (h0 : 0 < D.size) (h48 : (D[0]'h0).toNat = 48) (h : 1 < D.size ∨ negB s = true) : ¬ numP s.data.toList := by
  subst hD
  exact numP_not_zero h0 h48 h
theorem well_at {s D : ByteArray} (hD : digB s = D) (h1 : 0 < D.size) (h2 : ∀ j (hj : j < D.size), 48 ≤ (D[j]'hj).toNat ∧ (D[j]'hj).toNat ≤ 57) (h3 : (D[0]'h1).toNat = 48 → D.size = 1 ∧ negB s = false) (h4 : digV D.data.toList ≤ 1073741824) :
    numK s.data.toList = true ∧ numV s.data.toList = if negB s then -(digV D.data.toList : Int) else digV D.data.toList := by
  subst hD
  exact num_well h1 h2 h3 h4
/-- What the loop over the digits keeps. -/
structure NumI (D : ByteArray) (p : Nat) : Prop where
  dig : ∀ j (hj : j < D.size), j < p → 48 ≤ (D[j]'hj).toNat ∧ (D[j]'hj).toNat ≤ 57
  zero : ∀ h0 : 0 < D.size, (D[0]'h0).toNat = 48 → p ≤ 1
  max : digV (D.data.toList.take p) ≤ 1073741824
theorem NumI.start (D : ByteArray) : NumI D 0 := ⟨fun _ _ h => by omega, fun _ _ => by omega, by simp [digV]⟩
theorem NumI.zeroAt {D : ByteArray} {p : Nat} (h : NumI D p) (hp : p ≤ D.size) (h1 : 1 ≤ p) (hv : digV (D.data.toList.take p) = 0) : ∃ h0 : 0 < D.size, (D[0]'h0).toNat = 48 := by
  have h0 : 0 < D.size := by omega
  have h2 := digV_first D h0 p h1 hp
  have h3 := h.dig 0 h0 (by omega)
  exact ⟨h0, by omega⟩
theorem NumI.next {D : ByteArray} {p r : Nat} (h : NumI D p) (hp : p < D.size) (hb : (D[p]'hp).toNat = r) (hr : 48 ≤ r ∧ r ≤ 57) (hz : p = 0 ∨ ¬ digV (D.data.toList.take p) = 0) :
    digV (D.data.toList.take (p + 1)) = digV (D.data.toList.take p) * 10 + (r - 48) ∧ (digV (D.data.toList.take p) * 10 + (r - 48) ≤ 1073741824 → NumI D (p + 1)) := by
  have e := digV_take D.data.toList p (by rw [len_list]; exact hp)
  rw [get_list D p hp, hb] at e
  refine ⟨by omega, fun hm => ⟨fun j hj hjp => ?_, fun h0 h48 => ?_, by omega⟩⟩
  · by_cases ej : j = p
    · subst ej; omega
    · exact h.dig j hj (by omega)
  · have h1 := h.zero h0 h48
    rcases hz with hz | hz
    · omega
    · by_cases e0 : p = 0
      · omega
      · have : p = 1 := by omega
        subst this
        rw [digV_one D h0, h48] at hz
        exact absurd rfl hz
end Go.Proofs.YtkojdigaoihkpaaGreatDoor

end
section
namespace Go.Proofs.YtkojdigaoihkpaaGreatDoor
set_option linter.unusedVariables false
set_option linter.unusedSimpArgs false
set_option maxRecDepth 100000
open Go.RowKit

set_option maxHeartbeats 8000000 in
theorem number_to (s : ByteArray) (w : World) :
    Calls Tryz.prog 95 #[.string s] w fun e w' => e = .returned (.tuple #[.int .i64 (numV s.data.toList), .int .i64 (if numK s.data.toList then 0 else 1)]) ∧ Below w.heap.size w w' := by
  obtain ⟨D, hD⟩ : ∃ D, digB s = D := ⟨_, rfl⟩
  obtain ⟨N, hN⟩ : ∃ N, negB s = N := ⟨_, rfl⟩
  have HD : Hid (digB s = D) := hD
  have HN : Hid (negB s = N) := hN
  have HC : Hid (∀ w, Calls Tryz.prog 112 #[.string s, .string ⟨#[45]⟩] w fun e w' => e = .returned (.tuple #[.string D, .bool N]) ∧ w' = w) := fun w => by
    have := cutp_to s w
    rw [hD, hN] at this
    exact this
  clear hD hN
  go_enter Tryz.func95, Tryz.ntmps95
  go_wp2_with fail
  refine wp_scope_jumps 0 (fun a' w' => (Below w.heap.size w w' ∧ numV s.data.toList = 0 ∧ numK s.data.toList = false) ∧ ∃ (u0 u1 u2 u3 u4 u5 u6 u7 u8 u9 u10 u11 u12 u13 u14 u15 u16 u17 u18 u19 u20 u21 u22 u23 u24 u25 u26 u27 u28 u29 u30 u31 u32 u33 u34 u35 u36 u37 u38 u39 u40 u41 u42 u43 u44 u45 u46 u47 u48 u49 u50 u51 : Value), a' = { tmps := #[u0, u1, u2, u3, u4, u5, u6, u7, u8, u9, u10, u11, u12, u13, u14, u15, u16, u17, u18, u19, u20, u21, u22, u23, u24, u25, u26, u27, u28, u29, u30, u31, u32, u33, u34, u35, u36, u37, u38, u39, u40, u41, u42, u43, u44, u45, u46, u47, u48, u49, u50, u51], defers := [] }) (fun _ _ => 0) rfl ?_ ?_
  · go_wp2_with (go_at_call 112; refine (HC.out _).mono ?_; rintro e w2 ⟨rfl, rfl⟩)
    go_loopw [4] (fun n w' => ∃ (p V : Nat), p ≤ D.size ∧ w' = w2.iter D p ∧ n = .int .i64 V ∧ Hid (digV (D.data.toList.take p) = V ∧ NumI D p) ∧ V ≤ 1073741824) (fun _ w' => D.size - w'.iterPos w2.heap.size)
    case atStart => exact ⟨0, 0, Nat.zero_le _, rfl, rfl, ⟨by simp [digV], NumI.start D⟩, by omega⟩
    case round =>
      obtain ⟨p, V, hp, rfl, rfl, HI, hV⟩ := hrel
      have HB : Hid (Below w2.heap.size w2 (w2.iter D p)) := (Below.refl _ _).alloc (Nat.le_refl _) _
      by_cases hlt : p < D.size
      · obtain ⟨⟨r, k⟩, hrk⟩ : ∃ x, Utf8.decode D p = x := ⟨_, rfl⟩
        have hk1 := decode_lo D p
        have hk2 := decode_le D p hlt
        have hnx : ∀ ty, (Instr.next (.pointer (some ⟨w2.heap.size, 0, none⟩)) true ty).run Tryz.prog (w2.iter D p) = _ := fun ty => run_next_any w2 D p ty hlt
        rw [hrk] at hk1 hk2 hnx
        simp only at hk1 hk2 hnx
        have HRK : Hid (Utf8.decode D p = (r, k)) := hrk
        have HB2 : Hid (Below w2.heap.size w2 (w2.iter D (p + k))) := (Below.refl _ _).alloc (Nat.le_refl _) _
        clear hrk
        cases hd : digR r with
        | false =>
          have HDG : Hid (digR r = false) := hd
          have HNN : Hid (numV s.data.toList = 0 ∧ numK s.data.toList = false) := num_not (by
            exact numP_not_rune (by rw [HD.out]; exact hlt) (fun h => digit_at hlt HRK.out hd (by simpa only [HD.out] using h)))
          clear hd
          go_wp2_with (go_at_call 74; refine (digit_to r _ false HDG.out).mono ?_; rintro e w3 ⟨rfl, rfl⟩)
          go_step3
          exact ⟨rfl, ⟨HB2.out, HNN.out.1, HNN.out.2⟩, _, _, _, _, _, _, _, _, _, _, _, _, _, _, _, _, _, _, _, _, _, _, _, _, _, _, _, _, _, _, _, _, _, _, _, _, _, _, _, _, _, _, _, _, _, _, _, _, _, _, _, _, rfl⟩
        | true =>
          have HDG : Hid (digR r = true) := hd
          have hr2 : 48 ≤ r ∧ r ≤ 57 := by simpa [digR] using hd
          have hlow := dec_low hlt HRK.out (by omega)
          obtain ⟨hk3, hb3⟩ := hlow
          subst hk3
          have HB3 : Hid ((D[p]'hlt).toNat = r) := hb3
          clear hd hb3
          obtain ⟨hr3, hr4⟩ := hr2
          have g1 : IntKind.i32.wrap ((r : Int) - 48) = (r : Int) - 48 := by simp [IntKind.wrap, IntKind.signed, IntKind.bits]; omega
          have g2 : IntKind.i64.wrap ((r : Int) - 48) = (r : Int) - 48 := by simp [IntKind.wrap, IntKind.signed, IntKind.bits]; omega
          by_cases hz : p = 0 ∨ ¬ V = 0
          · have HZ : Hid (p = 0 ∨ ¬ digV (D.data.toList.take p) = 0) := by show _ ∨ _; rw [HI.out.1]; exact hz
            have HX := HI.out.2.next hlt HB3.out ⟨hr3, hr4⟩ HZ.out
            rw [HI.out.1] at HX
            have HX2 : Hid (digV (D.data.toList.take (p + 1)) = V * 10 + (r - 48) ∧ (V * 10 + (r - 48) ≤ 1073741824 → NumI D (p + 1))) := HX
            clear HX
            obtain ⟨U, hU⟩ : ∃ U, V * 10 + (r - 48) = U := ⟨_, rfl⟩
            have g3 : (V : Int) * 10 + ((r : Int) - 48) = (U : Int) := by omega
            rw [hU] at HX2
            by_cases hm : U ≤ 1073741824
            · have g4 : ¬ (1073741824 : Int) < (U : Int) := by omega
              have HI2 : Hid (digV (D.data.toList.take (p + 1)) = U ∧ NumI D (p + 1)) := ⟨HX2.out.1, HX2.out.2 hm⟩
              clear hU HX2
              rcases Nat.eq_zero_or_pos p with h0 | h0
              · subst h0
                clear hz
                go_wp2_with (go_at_call 74; refine (digit_to r _ true HDG.out).mono ?_; rintro e w3 ⟨rfl, rfl⟩)
                go_roundw
                case rel => exact ⟨0 + 1, U, by omega, rfl, rfl, HI2.out, by omega⟩
                case measure => simp; omega
              · have hz2 : ¬ V = 0 := by omega
                have g5 : ((V : Int) == 0) = false := by rw [beq_eq_false_iff_ne]; omega
                have g6 : (0 : Int) < (p : Int) := by omega
                clear hz
                go_wp2_with (go_at_call 74; refine (digit_to r _ true HDG.out).mono ?_; rintro e w3 ⟨rfl, rfl⟩)
                go_roundw
                case rel => exact ⟨p + 1, U, by omega, rfl, rfl, HI2.out, by omega⟩
                case measure => simp; omega
            · have g4 : (1073741824 : Int) < (U : Int) := by omega
              have HNN : Hid (numV s.data.toList = 0 ∧ numK s.data.toList = false) := num_not (by
                have h1 := HX2.out.1
                exact numP_not_many (s := s) (k := p + 1) (by rw [HD.out]; omega) (by rw [HD.out, h1]; omega))
              clear hU HX2
              rcases Nat.eq_zero_or_pos p with h0 | h0
              · subst h0
                clear hz
                go_wp2_with (go_at_call 74; refine (digit_to r _ true HDG.out).mono ?_; rintro e w3 ⟨rfl, rfl⟩)
                go_step3
                exact ⟨rfl, ⟨HB2.out, HNN.out.1, HNN.out.2⟩, _, _, _, _, _, _, _, _, _, _, _, _, _, _, _, _, _, _, _, _, _, _, _, _, _, _, _, _, _, _, _, _, _, _, _, _, _, _, _, _, _, _, _, _, _, _, _, _, _, _, _, _, rfl⟩
              · have hz2 : ¬ V = 0 := by omega
                have g5 : ((V : Int) == 0) = false := by rw [beq_eq_false_iff_ne]; omega
                have g6 : (0 : Int) < (p : Int) := by omega
                clear hz
                go_wp2_with (go_at_call 74; refine (digit_to r _ true HDG.out).mono ?_; rintro e w3 ⟨rfl, rfl⟩)
                go_step3
                exact ⟨rfl, ⟨HB2.out, HNN.out.1, HNN.out.2⟩, _, _, _, _, _, _, _, _, _, _, _, _, _, _, _, _, _, _, _, _, _, _, _, _, _, _, _, _, _, _, _, _, _, _, _, _, _, _, _, _, _, _, _, _, _, _, _, _, _, _, _, _, rfl⟩
          · have h0 : 1 ≤ p := by omega
            have hV0 : V = 0 := by omega
            subst hV0
            have g5 : (((0 : Nat) : Int) == 0) = true := rfl
            have g6 : (0 : Int) < (p : Int) := by omega
            have HNN : Hid (numV s.data.toList = 0 ∧ numK s.data.toList = false) := num_not (by
              obtain ⟨z0, z1⟩ := HI.out.2.zeroAt hp h0 HI.out.1
              exact not_zero HD.out z0 z1 (Or.inl (by omega)))
            clear hz
            go_wp2_with (go_at_call 74; refine (digit_to r _ true HDG.out).mono ?_; rintro e w3 ⟨rfl, rfl⟩)
            go_step3
            exact ⟨rfl, ⟨HB2.out, HNN.out.1, HNN.out.2⟩, _, _, _, _, _, _, _, _, _, _, _, _, _, _, _, _, _, _, _, _, _, _, _, _, _, _, _, _, _, _, _, _, _, _, _, _, _, _, _, _, _, _, _, _, _, _, _, _, _, _, _, _, rfl⟩
      · obtain rfl : p = D.size := by omega
        have hnx : ∀ ty, (Instr.next (.pointer (some ⟨w2.heap.size, 0, none⟩)) true ty).run Tryz.prog (w2.iter D D.size) = _ := fun ty => run_next_end w2 D D.size ty hlt
        have HTK : Hid (digV D.data.toList = V) := by
          have h := HI.out.1
          rw [← len_list, List.take_length] at h
          exact h
        by_cases hz : D.size = 0
        · have HNN : Hid (numV s.data.toList = 0 ∧ numK s.data.toList = false) := num_not (numP_not_none (by rw [HD.out]; exact hz))
          have g7 : (D.toList == []) = true := by rw [Lib.toList_data, beq_iff_eq]; exact List.eq_nil_of_length_eq_zero (by rw [len_list]; exact hz)
          clear hz
          go_wp2
          go_step3
          exact ⟨rfl, ⟨HB.out, HNN.out.1, HNN.out.2⟩, _, _, _, _, _, _, _, _, _, _, _, _, _, _, _, _, _, _, _, _, _, _, _, _, _, _, _, _, _, _, _, _, _, _, _, _, _, _, _, _, _, _, _, _, _, _, _, _, _, _, _, _, rfl⟩
        · have g7 : (D.toList == []) = false := by rw [Lib.toList_data, beq_eq_false_iff_ne]; intro e; have := len_list D; rw [e] at this; simp at this; omega
          have h1 : 0 < D.size := by omega
          cases N with
          | true =>
            by_cases hV0 : V = 0
            · subst hV0
              have HNN : Hid (numV s.data.toList = 0 ∧ numK s.data.toList = false) := num_not (by
                obtain ⟨z0, z1⟩ := HI.out.2.zeroAt hp (by omega) HI.out.1
                exact not_zero HD.out z0 z1 (Or.inr HN.out))
              go_wp2
              go_step3
              exact ⟨rfl, ⟨HB.out, HNN.out.1, HNN.out.2⟩, _, _, _, _, _, _, _, _, _, _, _, _, _, _, _, _, _, _, _, _, _, _, _, _, _, _, _, _, _, _, _, _, _, _, _, _, _, _, _, _, _, _, _, _, _, _, _, _, _, _, _, _, rfl⟩
            · have g5 : ((V : Int) == 0) = false := by rw [beq_eq_false_iff_ne]; omega
              have HW : Hid (numK s.data.toList = true ∧ numV s.data.toList = -(V : Int)) := by
                have := well_at HD.out h1 (fun j hj => HI.out.2.dig j hj hj) (fun h48 => by
                  exfalso
                  have h5 := HI.out.2.zero h1 h48
                  have h6 : D.size = 1 := by omega
                  have h7 := digV_one D h1
                  have h8 := HI.out.1
                  rw [h6, h7, h48] at h8
                  omega) (by rw [HTK.out]; exact hV)
                rw [HN.out, if_pos rfl, HTK.out] at this
                exact this
              go_wp2
              rw [jump_ret]
              go_ret2
              exact ⟨by rw [HW.out.1, HW.out.2]; rfl, HB.out⟩
          | false =>
            have HW : Hid (numK s.data.toList = true ∧ numV s.data.toList = (V : Int)) := by
              have := well_at HD.out h1 (fun j hj => HI.out.2.dig j hj hj) (fun h48 => by
                have h5 := HI.out.2.zero h1 h48
                exact ⟨by omega, HN.out⟩) (by rw [HTK.out]; exact hV)
              rw [HN.out, if_neg (by decide), HTK.out] at this
              exact this
            go_wp2
            rw [jump_ret]
            go_ret2
            exact ⟨by rw [HW.out.1, HW.out.2]; rfl, HB.out⟩
  · rintro a w' ⟨⟨hbj, hv, hk⟩, u0, u1, u2, u3, u4, u5, u6, u7, u8, u9, u10, u11, u12, u13, u14, u15, u16, u17, u18, u19, u20, u21, u22, u23, u24, u25, u26, u27, u28, u29, u30, u31, u32, u33, u34, u35, u36, u37, u38, u39, u40, u41, u42, u43, u44, u45, u46, u47, u48, u49, u50, u51, rfl⟩
    have HBJ : Hid (Below w.heap.size w w') := hbj
    have HK : Hid (numV s.data.toList = 0 ∧ numK s.data.toList = false) := ⟨hv, hk⟩
    clear hbj hv hk
    go_wp2
    rw [jump_ret]
    go_ret2
    exact ⟨by rw [HK.out.1, HK.out.2]; rfl, HBJ.out⟩
theorem ofNat_dig (i : Nat) (h : i < 10) : (UInt8.ofNat (48 + i)).toNat = 48 + i := by
  rw [UInt8.toNat_ofNat']; omega
theorem dec_small {u : Nat} (h : u < 10) : Lib.decDigits u = [UInt8.ofNat (48 + u)] := by rw [Lib.decDigits, dif_pos h]
theorem dec_big {u : Nat} (h : ¬ u < 10) : Lib.decDigits u = Lib.decDigits (u / 10) ++ [UInt8.ofNat (48 + u % 10)] := by rw [Lib.decDigits, dif_neg h]
theorem dec_all (u : Nat) : ∀ c ∈ Lib.decDigits u, 48 ≤ c.toNat ∧ c.toNat ≤ 57 := by
  induction u using Nat.strongRecOn with
  | _ u ih =>
    by_cases h : u < 10
    · rw [dec_small h]
      intro c hc
      simp only [List.mem_cons, List.not_mem_nil, or_false] at hc
      rw [hc, ofNat_dig u h]
      omega
    · rw [dec_big h]
      intro c hc
      rcases List.mem_append.1 hc with hc | hc
      · exact ih (u / 10) (by omega) c hc
      · simp only [List.mem_cons, List.not_mem_nil, or_false] at hc
        rw [hc, ofNat_dig _ (by omega)]
        omega
theorem dec_val (u : Nat) : digV (Lib.decDigits u) = u := by
  induction u using Nat.strongRecOn with
  | _ u ih =>
    by_cases h : u < 10
    · rw [dec_small h]
      have := ofNat_dig u h
      simp only [digV, List.foldl]
      omega
    · rw [dec_big h, digV_snoc, ih (u / 10) (by omega), ofNat_dig _ (by omega)]
      omega
theorem dec_head (u : Nat) (hu : ¬ u = 0) : ∃ c r, Lib.decDigits u = c :: r ∧ 49 ≤ c.toNat := by
  induction u using Nat.strongRecOn with
  | _ u ih =>
    by_cases h : u < 10
    · exact ⟨_, _, dec_small h, by rw [ofNat_dig u h]; omega⟩
    · obtain ⟨c, r, e, hc⟩ := ih (u / 10) (by omega) (by omega)
      exact ⟨c, r ++ [UInt8.ofNat (48 + u % 10)], by rw [dec_big h, e]; rfl, hc⟩
theorem dec_len (u : Nat) (hu : u ≤ 1073741824) : 1 ≤ (Lib.decDigits u).length ∧ (Lib.decDigits u).length ≤ 10 := by
  by_cases h0 : u = 0
  · subst h0; rw [dec_small (by decide)]; exact ⟨by decide, by decide⟩
  · obtain ⟨c, r, e, hc⟩ := dec_head u h0
    refine ⟨by rw [e]; simp, ?_⟩
    apply Nat.le_of_not_lt
    intro hlt
    have h5 := digV_pow (Lib.decDigits u) (fun h => by simpa [e] using hc) 10 hlt
    have h6 := digV_all (Lib.decDigits u) (10 + 1) (by omega)
    rw [dec_val] at h6
    omega
theorem numD_dec (u : Nat) : numD (Lib.decDigits u) = Lib.decDigits u := by
  cases e : Lib.decDigits u with
  | nil => rfl
  | cons c r =>
    have := dec_all u c (by rw [e]; simp)
    show (if c.toNat = 45 then r else c :: r) = c :: r
    rw [if_neg (by omega)]
theorem numP_dec (l : List UInt8) (u : Nat) (hu : u ≤ 1073741824) (e : numD l = Lib.decDigits u) (hz : u = 0 → l = [48]) : numP l := by
  have hl := dec_len u hu
  refine ⟨by rw [e]; exact hl.1, by rw [e]; exact hl.2, ?_, by rw [e]; exact dec_all u, by rw [e, dec_val]; exact hu⟩
  rintro ⟨g1, g2⟩
  by_cases h0 : u = 0
  · exact g2 (hz h0)
  · obtain ⟨c, r, ec, hc⟩ := dec_head u h0
    rw [e, ec] at g1
    simp at g1
    omega
theorem itoa_num (n : Int) (h1 : -1073741824 ≤ n) (h2 : n ≤ 1073741824) : numK (Lib.itoa n) = true ∧ numV (Lib.itoa n) = n := by
  by_cases h0 : n < 0
  · have e : Lib.itoa n = 45 :: Lib.decDigits n.natAbs := by rw [Lib.itoa, if_pos h0]
    have ed : numD (Lib.itoa n) = Lib.decDigits n.natAbs := by rw [e]; rfl
    obtain ⟨e1, e2⟩ := num_yes (numP_dec (Lib.itoa n) n.natAbs (by omega) ed (fun h => by omega))
    refine ⟨e2, ?_⟩
    rw [e1, ed, e, if_pos (by simp), dec_val]
    omega
  · have e : Lib.itoa n = Lib.decDigits n.toNat := by rw [Lib.itoa, if_neg h0]
    have ed : numD (Lib.itoa n) = Lib.decDigits n.toNat := by rw [e, numD_dec]
    obtain ⟨e1, e2⟩ := num_yes (numP_dec (Lib.itoa n) n.toNat (by omega) ed (fun h => by rw [e, h, dec_small (by decide)]; rfl))
    refine ⟨e2, ?_⟩
    rw [e1, ed, e, if_neg (by omega), dec_val]
    omega
theorem put_same (v : Value) (s : ByteArray) (a : Nat) (w : World) :
    Calls Tryz.prog 75 #[v, .string s, .int .i64 a, .int .i64 a] w fun e w' => e = .returned v ∧ w = w' := by
  have g1 : ((a : Int) == (a : Int)) = true := by simp
  go_enter Tryz.func75, Tryz.ntmps75
  go_wp2
  go_ret
  exact ⟨rfl, rfl⟩
theorem grownBy_then {w w1 w2 : World} {row : Option Nat} (hb : Below w.heap.size w w1) (hg : w1.grownBy w2 row) : w.grownBy w2 row :=
  ⟨hg.os.trans hb.os, hg.tape.trans hb.tape, hg.output.trans hb.output, Nat.le_trans hb.size hg.size, fun k hk hne => (hg.block k (Nat.lt_of_lt_of_le hk hb.size) hne).trans (hb.block k hk)⟩
set_option maxHeartbeats 4000000 in
theorem put_new (B : Nat) (v : Value) (s : ByteArray) (l : List Tok) (a b : Nat) (w : World) (hO : w.ownsRow B 106 2 v l.length (cellsT l)) (hB : B ≤ w.heap.size) (hl : l.length ≤ 3000000) (hs : s.size ≤ 1000000) (hab : a < b) (hb : b ≤ s.size) :
    Calls Tryz.prog 75 #[v, .string s, .int .i64 a, .int .i64 b] w fun e w' => ∃ v', e = .returned v' ∧ w'.ownsRow B 106 2 v' (l ++ [(s.extract a b, a)]).length (cellsT (l ++ [(s.extract a b, a)])) ∧ w.grownBy w' v.ownBlock := by
  obtain ⟨iT, hi, hz0, hz1, hz2⟩ := infoK
  have HI : Hid (Tryz.prog.info? 106 = some iT) := hi
  have HZ0 : Hid (iT.zero = some (.agg #[.string ⟨#[]⟩, .int .i64 0])) := hz0
  have HZ1 : Hid (iT.size = 2) := hz1
  have HZ2 : Hid (iT.bytes = 24) := hz2
  have HO : Hid (w.ownsRow B 106 2 v l.length (cellsT l)) := hO
  have g1 : ((a : Int) == (b : Int)) = false := by rw [beq_eq_false_iff_ne]; omega
  have g2 : (0 : Int) ≤ (a : Int) := by omega
  have g3 : (a : Int) ≤ (b : Int) := by omega
  have g4 : (b : Int) ≤ (s.size : Int) := by omega
  clear hi hz0 hz1 hz2 hO
  obtain ⟨t, ht⟩ : ∃ t, s.extract a b = t := ⟨_, rfl⟩
  have HT : Hid (s.extract a b = t) := ht
  have hts : t.size ≤ 1000000 := by rw [← ht, ByteArray.size_extract]; omega
  clear ht
  go_enter Tryz.func75, Tryz.ntmps75
  go_wp2_with (first
    | (go_at_call 49; rw [HT.out]; refine (clone_to t _ (by omega)).mono ?_; rintro e w1 ⟨rfl, hb1⟩; have HB1 : Hid (Below w.heap.size w w1) := hb1; have hs1 := hb1.size; clear hb1)
    | (at_builtin; refine wpList_append_lies _ rfl _ _ 65 rfl B 106 iT (.agg #[.string ⟨#[]⟩, .int .i64 0]) 2 24 Tryz.underlying65 HI.out HZ0.out HZ1.out HZ2.out rfl (by decide) v (l.length) (cellsT l) rfl ?c0 ⟨w1.heap.size, 0, none⟩ 1 1 [.string t, .int .i64 a] rfl rfl ?c1 ?c2 (by decide) ?c3 ?c4 ?c5 (w1.heap.size + 1) ?c6 ?_))
  case c0 => exact World.ownsRow.alloc (ownsR_later HO.out HB1.out) _
  case c1 => exact World.news_of_block (heap_alloc_new w1 (.cells #[.string t, .int .i64 a] 106))
  case c2 => intro u hu; simp only [List.mem_cons, List.not_mem_nil, or_false] at hu; rcases hu with rfl | rfl <;> rfl
  case c3 => unfold maxLen; omega
  case c4 => omega
  case c5 => simp; omega
  case c6 => simp
  intro g cap w2 ho hg hat hlt2
  have HO2 : Hid (w2.ownsRow B 106 2 (.slice (some ⟨g, 0, none⟩) (l.length + 1) cap) (l ++ [(t, a)]).length (cellsT (l ++ [(t, a)]))) := by show World.ownsRow _ _ _ _ _ _ _; rw [List.length_append, cellsT_snoc]; exact ho
  have HG2 : Hid (w.grownBy w2 v.ownBlock) := grownBy_then (HB1.out.trans ((Below.refl _ _).alloc HB1.out.size _)) hg
  clear ho hg hat
  go_wp2
  go_ret
  exact ⟨_, rfl, by rw [HT.out]; exact HO2.out, HG2.out⟩
theorem put_to (B : Nat) (v : Value) (s : ByteArray) (l : List Tok) (a b : Nat) (w : World) (hO : w.ownsRow B 106 2 v l.length (cellsT l)) (hB : B ≤ w.heap.size) (hl : l.length ≤ 3000000) (hs : s.size ≤ 1000000) (hab : a ≤ b) (hb : b ≤ s.size) :
    Calls Tryz.prog 75 #[v, .string s, .int .i64 a, .int .i64 b] w fun e w' => ∃ v', e = .returned v' ∧ w'.ownsRow B 106 2 v' (putL l s a b).length (cellsT (putL l s a b)) ∧ w.grownBy w' v.ownBlock := by
  rw [putL]
  by_cases h : a = b
  · subst h
    rw [if_pos rfl]
    refine (put_same v s a w).mono ?_
    rintro e w2 ⟨rfl, rfl⟩
    exact ⟨v, rfl, hO, rfl, rfl, rfl, Nat.le_refl _, fun _ _ _ => rfl⟩
  · rw [if_neg h]
    exact put_new B v s l a b w hO hB hl hs (by omega) hb
theorem own_not_it {w : World} {B I p k n : Nat} {e : TypeId} {s : ByteArray} {v : Value} {xs : List Value} (h : w.ownsRow B e k v n xs) (hi : It w I s p) : ∀ g, v.ownBlock = some g → I ≠ g := by
  intro g hg
  rcases h.2 with ⟨rfl, _⟩ | ⟨g', cap, cur, rfl, _, hgg, _⟩
  · simp [Value.ownBlock] at hg
  · simp [Value.ownBlock] at hg
    subst hg
    rintro rfl
    rw [It, hgg] at hi
    cases hi
theorem It.nx_2 {w : World} {I p : Nat} {s : ByteArray} (h : It w I s p) (hp : p < s.size) {r k : Nat} (hr : Utf8.decode s p = (r, k)) (ty : TypeId) :
    (Instr.next (.pointer (some ⟨I, 0, none⟩)) true ty).run Tryz.prog w = .ok (.tuple #[.bool true, .int .i64 p, .int .i32 r]) (w.iterAt I s (p + k)) := by
  have := Lib.run_next_any_at (P := Tryz.prog) w I s p ty h hp
  rw [hr] at this
  exact this
theorem It.done_2 {w : World} {I p : Nat} {s : ByteArray} (h : It w I s p) (hp : ¬ p < s.size) (ty : TypeId) :
    (Instr.next (.pointer (some ⟨I, 0, none⟩)) true ty).run Tryz.prog w = .ok (.tuple #[.bool false]) w := Lib.run_next_end_at w I s p ty h hp
theorem It.grown {w w' : World} {B I p k n : Nat} {e : TypeId} {s : ByteArray} {v : Value} {xs : List Value} (hi : It w I s p) (h : w.ownsRow B e k v n xs) (hg : w.grownBy w' v.ownBlock) : It w' I s p :=
  (hg.block I hi.lt (fun e => own_not_it h hi I e.symm rfl)).trans hi
theorem own_moved {w : World} {B I p k n : Nat} {e : TypeId} {s : ByteArray} {v : Value} {xs : List Value} (h : w.ownsRow B e k v n xs) (hi : It w I s p) (q : Nat) : (w.iterAt I s q).ownsRow B e k v n xs := by
  refine ⟨h.1, ?_⟩
  have hne := own_not_it h hi
  rcases h.2 with h0 | ⟨g, cap, cur, rfl, h1, hh, h2⟩
  · exact Or.inl h0
  · exact Or.inr ⟨g, cap, cur, rfl, h1, (Lib.iterAt_other w I g s q (fun e => hne g rfl e.symm)).trans hh, h2⟩
set_option maxHeartbeats 8000000 in
theorem words_to (s : ByteArray) (w : World) (hs : s.size ≤ 1000000) (bq : Option Nat) (hbq : badW s = bq) :
    Calls Tryz.prog 50 #[.string s] w fun e w' => (∃ v, e = .returned (.tuple #[v, .int .i64 (bq.getD 0), .int .i64 (if bq.isNone then 0 else 5)]) ∧ HoldsC w' v (if bq.isNone then toksW s else []).length (cellsT (if bq.isNone then toksW s else []))) ∧ Below w.heap.size w w' := by
  have HQ0 : Hid (badN s (s.size + 1) 0 = bq) := hbq
  have HS : Hid (s.size ≤ 1000000) := hs
  clear hbq
  go_enter Tryz.func50, Tryz.ntmps50
  go_wp2_with fail
  refine wp_scope_jumps 0 (fun a' w' => ∃ (u0 u1 u2 u3 u4 u5 u6 u7 u8 u9 u10 u11 u12 u13 u14 u15 u16 u17 u18 u19 u20 u21 u22 u23 u24 u25 u26 u27 u28 u29 u30 u31 u32 u33 u34 u35 u36 u37 u38 u39 u40 u41 u42 u43 u44 u45 u46 u47 u48 u49 u50 u51 u52 u53 u54 u55 : Value), ((Below w.heap.size w w' ∧ ∃ q, bq = some q ∧ u3 = .int .i64 q) ∧ a' = { tmps := #[u0, u1, u2, u3, u4, u5, u6, u7, u8, u9, u10, u11, u12, u13, u14, u15, u16, u17, u18, u19, u20, u21, u22, u23, u24, u25, u26, u27, u28, u29, u30, u31, u32, u33, u34, u35, u36, u37, u38, u39, u40, u41, u42, u43, u44, u45, u46, u47, u48, u49, u50, u51, u52, u53, u54, u55], defers := [] })) (fun _ _ => 0) rfl ?_ ?_
  · go_wp2
    go_loopw [2, 5] (fun v fr w' => ∃ (p a f : Nat) (l : List Tok), p ≤ s.size ∧ fr = .int .i64 a ∧ Hid (WordI s p a l) ∧ Hid (s.size - p < f ∧ badN s f p = bq) ∧ Hid (w'.ownsRow w.heap.size 106 2 v l.length (cellsT l)) ∧ Hid (It w' w.heap.size s p) ∧ Hid (Below w.heap.size w w')) (fun _ _ w' => s.size - w'.iterPos w.heap.size)
    case atStart => exact ⟨0, 0, s.size + 1, [], Nat.zero_le _, rfl, WordI.start s, ⟨by omega, HQ0.out⟩, World.ownsRow_nil _ _ _ _, It.new _ _ _, (Below.refl _ _).alloc (Nat.le_refl _) _⟩
    case round =>
      obtain ⟨p, a, f, l, hp, rfl, HX, HF, HO, HI, HB⟩ := hrel
      have HP : Hid (wr.iterPos w.heap.size = p) := HI.out.pos
      have hap := HX.out.le
      have HLL : Hid (l.length ≤ 2 * s.size) := by
        have h1 := tokSt_len s p
        rw [HX.out.1] at h1
        show _ ≤ _
        omega
      by_cases hlt : p < s.size
      · obtain ⟨⟨r, k⟩, hrk⟩ : ∃ x, Utf8.decode s p = x := ⟨_, rfl⟩
        have hk1 := decode_lo s p
        have hk2 := decode_le s p hlt
        have hnx := fun ty => It.nx_2 HI.out hlt hrk ty
        rw [hrk] at hk1 hk2
        simp only at hk1 hk2
        have HRK : Hid (Utf8.decode s p = (r, k)) := hrk
        obtain ⟨g, hg⟩ : ∃ g, f = g + 1 := ⟨f - 1, by have := HF.out.1; omega⟩
        subst hg
        have HF2 : Hid ((if badR r k = true then some p else badN s g (p + k)) = bq) := by
          have h := HF.out.2
          rw [badN, if_pos hlt, hrk] at h
          exact h
        have HG : Hid (s.size - (p + k) < g) := by have := HF.out.1; show _ < _; omega
        obtain ⟨W1, hW1⟩ : ∃ W1, wr.iterAt w.heap.size s (p + k) = W1 := ⟨_, rfl⟩
        have HI1 : Hid (It W1 w.heap.size s (p + k)) := by show It _ _ _ _; rw [← hW1]; exact HI.out.moved _
        have HO1 : Hid (W1.ownsRow w.heap.size 106 2 u2 l.length (cellsT l)) := by show World.ownsRow _ _ _ _ _ _ _; rw [← hW1]; exact own_moved HO.out HI.out _
        have HB1 : Hid (Below w.heap.size w W1) := by show Below _ _ _; rw [← hW1]; exact Below.moved HB.out (Nat.le_refl _) _ _
        rw [hW1] at hnx
        clear hrk HF hW1 HO HI HB
        cases hl : letR r with
        | true =>
          have HL : Hid (letR r = true) := hl
          have HGD : Hid (letR r = true ∨ digR r = true ∨ r = 45 ∨ r = 61 ∨ r = 32 ∨ r = 9) := Or.inl hl
          have hr3 : ¬ r = 32 ∧ ¬ r = 9 ∧ ¬ r = 61 := by
            refine ⟨?_, ?_, ?_⟩ <;> (rintro rfl; simp [letR] at hl)
          obtain ⟨hr4, hr5, hr6⟩ := hr3
          clear hl
          have HX1 : Hid (WordI s (p + k) a l) := HX.out.rune hlt HRK.out (by omega) (by omega) (by omega)
          have HN : Hid (badN s g (p + k) = bq) := by have h := HF2.out; rw [if_neg (by rw [badR_not HGD.out]; decide)] at h; exact h
          clear HF2
          go_wp2_with (first
            | (go_at_call 73; refine (letter_to r _ true HL.out).mono ?_; rintro e w3 ⟨rfl, rfl⟩))
          go_roundw
          case rel => exact ⟨p + k, a, g, l, by omega, rfl, HX1.out, ⟨HG.out, HN.out⟩, HO1.out, HI1.out, HB1.out⟩
          case measure => rw [HI1.out.pos, HP.out]; omega
        | false =>
          have HL : Hid (letR r = false) := hl
          cases hd : digR r with
          | true =>
            have HDG : Hid (digR r = true) := hd
            have HGD : Hid (letR r = true ∨ digR r = true ∨ r = 45 ∨ r = 61 ∨ r = 32 ∨ r = 9) := Or.inr (Or.inl hd)
            have hr3 : ¬ r = 32 ∧ ¬ r = 9 ∧ ¬ r = 61 := by
              refine ⟨?_, ?_, ?_⟩ <;> (rintro rfl; simp [digR] at hd)
            obtain ⟨hr4, hr5, hr6⟩ := hr3
            clear hl hd
            have HX1 : Hid (WordI s (p + k) a l) := HX.out.rune hlt HRK.out (by omega) (by omega) (by omega)
            have HN : Hid (badN s g (p + k) = bq) := by have h := HF2.out; rw [if_neg (by rw [badR_not HGD.out]; decide)] at h; exact h
            clear HF2
            go_wp2_with (first
              | (go_at_call 73; refine (letter_to r _ false HL.out).mono ?_; rintro e w3 ⟨rfl, rfl⟩)
              | (go_at_call 74; refine (digit_to r _ true HDG.out).mono ?_; rintro e w3 ⟨rfl, rfl⟩))
            go_roundw
            case rel => exact ⟨p + k, a, g, l, by omega, rfl, HX1.out, ⟨HG.out, HN.out⟩, HO1.out, HI1.out, HB1.out⟩
            case measure => rw [HI1.out.pos, HP.out]; omega
          | false =>
            have HDG : Hid (digR r = false) := hd
            clear hl hd
            by_cases h45 : r = 45
            · have HGD : Hid (letR r = true ∨ digR r = true ∨ r = 45 ∨ r = 61 ∨ r = 32 ∨ r = 9) := Or.inr (Or.inr (Or.inl h45))
              have n45 : ((r : Int) == 45) = true := by rw [beq_iff_eq]; omega
              have hr4 : ¬ r = 32 := by omega
              have hr5 : ¬ r = 9 := by omega
              have hr6 : ¬ r = 61 := by omega
              clear h45
              have HX1 : Hid (WordI s (p + k) a l) := HX.out.rune hlt HRK.out (by omega) (by omega) (by omega)
              have HN : Hid (badN s g (p + k) = bq) := by have h := HF2.out; rw [if_neg (by rw [badR_not HGD.out]; decide)] at h; exact h
              clear HF2
              go_wp2_with (first
                | (go_at_call 73; refine (letter_to r _ false HL.out).mono ?_; rintro e w3 ⟨rfl, rfl⟩)
                | (go_at_call 74; refine (digit_to r _ false HDG.out).mono ?_; rintro e w3 ⟨rfl, rfl⟩))
              go_roundw
              case rel => exact ⟨p + k, a, g, l, by omega, rfl, HX1.out, ⟨HG.out, HN.out⟩, HO1.out, HI1.out, HB1.out⟩
              case measure => rw [HI1.out.pos, HP.out]; omega
            · have n45 : ((r : Int) == 45) = false := by rw [beq_eq_false_iff_ne]; omega
              by_cases h61 : r = 61
              · have HGD : Hid (letR r = true ∨ digR r = true ∨ r = 45 ∨ r = 61 ∨ r = 32 ∨ r = 9) := Or.inr (Or.inr (Or.inr (Or.inl h61)))
                have n61 : ((r : Int) != 61) = false := by rw [bne_eq_false_iff_eq]; omega
                have m61 : ((r : Int) == 61) = true := by rw [beq_iff_eq]; omega
                have hXX := HX.out.eq hlt HRK.out h61
                obtain ⟨hk3, hX3⟩ := hXX
                subst hk3
                have HX3 : Hid (WordI s (p + 1) (p + 1) (putL (putL l s a p) s p (p + 1))) := hX3
                have HN : Hid (badN s g (p + 1) = bq) := by have h := HF2.out; rw [if_neg (by rw [badR_not HGD.out]; decide)] at h; exact h
                have HL2 : Hid ((putL l s a p).length ≤ 2 * s.size + 1) := by have := HLL.out; have := putL_len l s a p; show _ ≤ _; omega
                clear HF2 hX3 h61
                go_wp2_with (first
                  | (go_at_call 73; refine (letter_to r _ false HL.out).mono ?_; rintro e w3 ⟨rfl, rfl⟩)
                  | (go_at_call 74; refine (digit_to r _ false HDG.out).mono ?_; rintro e w3 ⟨rfl, rfl⟩)
                  | (go_at_call 75; refine (put_to w.heap.size v4 s (putL l s a p) p (p + 1) _ HO4.out HB4.out.size (by have := HL2.out; omega) HS.out (by omega) (by omega)).mono ?_; rintro e w5 ⟨v5, rfl, ho5, hg5⟩; have HO5 : Hid (w5.ownsRow w.heap.size 106 2 v5 (putL (putL l s a p) s p (p + 1)).length (cellsT (putL (putL l s a p) s p (p + 1)))) := ho5; have HI5 : Hid (It w5 w.heap.size s (p + 1)) := HI4.out.grown HO4.out hg5; have HB5 : Hid (Below w.heap.size w w5) := HB4.out.grown hg5 HB4.out.size (fun q hq => (HO4.out.lt q hq).1); clear ho5 hg5)
                  | (go_at_call 75; refine (put_to w.heap.size u2 s l a p _ HO1.out HB1.out.size (by have := HLL.out; omega) HS.out (by omega) (by omega)).mono ?_; rintro e w4 ⟨v4, rfl, ho4, hg4⟩; have HO4 : Hid (w4.ownsRow w.heap.size 106 2 v4 (putL l s a p).length (cellsT (putL l s a p))) := ho4; have HI4 : Hid (It w4 w.heap.size s (p + 1)) := HI1.out.grown HO1.out hg4; have HB4 : Hid (Below w.heap.size w w4) := HB1.out.grown hg4 HB1.out.size (fun q hq => (HO1.out.lt q hq).1); clear ho4 hg4))
                go_roundw
                case rel => exact ⟨p + 1, p + 1, g, _, by omega, by go_num, HX3.out, ⟨HG.out, HN.out⟩, HO5.out, HI5.out, HB5.out⟩
                case measure => rw [HI5.out.pos, HP.out]; omega
              · have n61 : ((r : Int) != 61) = true := by rw [bne_iff_ne]; omega
                have m61 : ((r : Int) == 61) = false := by rw [beq_eq_false_iff_ne]; omega
                by_cases h329 : r = 32 ∨ r = 9
                · have HGD : Hid (letR r = true ∨ digR r = true ∨ r = 45 ∨ r = 61 ∨ r = 32 ∨ r = 9) := Or.inr (Or.inr (Or.inr (Or.inr h329)))
                  have hXX := HX.out.gap hlt HRK.out h329
                  obtain ⟨hk3, hX3⟩ := hXX
                  subst hk3
                  have HX3 : Hid (WordI s (p + 1) (p + 1) (putL l s a p)) := hX3
                  have HN : Hid (badN s g (p + 1) = bq) := by have h := HF2.out; rw [if_neg (by rw [badR_not HGD.out]; decide)] at h; exact h
                  clear HF2 hX3
                  by_cases h32 : r = 32
                  · have n32 : ((r : Int) != 32) = false := by rw [bne_eq_false_iff_eq]; omega
                    clear h32 h329
                    go_wp2_with (first
                      | (go_at_call 73; refine (letter_to r _ false HL.out).mono ?_; rintro e w3 ⟨rfl, rfl⟩)
                      | (go_at_call 74; refine (digit_to r _ false HDG.out).mono ?_; rintro e w3 ⟨rfl, rfl⟩)
                      | (go_at_call 75; refine (put_to w.heap.size u2 s l a p _ HO1.out HB1.out.size (by have := HLL.out; omega) HS.out (by omega) (by omega)).mono ?_; rintro e w4 ⟨v4, rfl, ho4, hg4⟩; have HO4 : Hid (w4.ownsRow w.heap.size 106 2 v4 (putL l s a p).length (cellsT (putL l s a p))) := ho4; have HI4 : Hid (It w4 w.heap.size s (p + 1)) := HI1.out.grown HO1.out hg4; have HB4 : Hid (Below w.heap.size w w4) := HB1.out.grown hg4 HB1.out.size (fun q hq => (HO1.out.lt q hq).1); clear ho4 hg4))
                    go_roundw
                    case rel => exact ⟨p + 1, p + 1, g, _, by omega, by go_num, HX3.out, ⟨HG.out, HN.out⟩, HO4.out, HI4.out, HB4.out⟩
                    case measure => rw [HI4.out.pos, HP.out]; omega
                  · have n32 : ((r : Int) != 32) = true := by rw [bne_iff_ne]; omega
                    have n9 : ((r : Int) != 9) = false := by rw [bne_eq_false_iff_eq]; omega
                    clear h32 h329
                    go_wp2_with (first
                      | (go_at_call 73; refine (letter_to r _ false HL.out).mono ?_; rintro e w3 ⟨rfl, rfl⟩)
                      | (go_at_call 74; refine (digit_to r _ false HDG.out).mono ?_; rintro e w3 ⟨rfl, rfl⟩)
                      | (go_at_call 75; refine (put_to w.heap.size u2 s l a p _ HO1.out HB1.out.size (by have := HLL.out; omega) HS.out (by omega) (by omega)).mono ?_; rintro e w4 ⟨v4, rfl, ho4, hg4⟩; have HO4 : Hid (w4.ownsRow w.heap.size 106 2 v4 (putL l s a p).length (cellsT (putL l s a p))) := ho4; have HI4 : Hid (It w4 w.heap.size s (p + 1)) := HI1.out.grown HO1.out hg4; have HB4 : Hid (Below w.heap.size w w4) := HB1.out.grown hg4 HB1.out.size (fun q hq => (HO1.out.lt q hq).1); clear ho4 hg4))
                    go_roundw
                    case rel => exact ⟨p + 1, p + 1, g, _, by omega, by go_num, HX3.out, ⟨HG.out, HN.out⟩, HO4.out, HI4.out, HB4.out⟩
                    case measure => rw [HI4.out.pos, HP.out]; omega
                · have n32 : ((r : Int) != 32) = true := by rw [bne_iff_ne]; omega
                  have n9 : ((r : Int) != 9) = true := by rw [bne_iff_ne]; omega
                  have HBQ : Hid (bq = some p) := by have h := HF2.out; rw [if_pos (badR_yes HL.out HDG.out h45 h61 (by omega) (by omega))] at h; exact h.symm
                  clear HF2 h45 h61 h329
                  go_wp2_with (first
                    | (go_at_call 73; refine (letter_to r _ false HL.out).mono ?_; rintro e w3 ⟨rfl, rfl⟩)
                    | (go_at_call 74; refine (digit_to r _ false HDG.out).mono ?_; rintro e w3 ⟨rfl, rfl⟩))
                  go_step3
                  exact ⟨rfl, _, _, _, _, _, _, _, _, _, _, _, _, _, _, _, _, _, _, _, _, _, _, _, _, _, _, _, _, _, _, _, _, _, _, _, _, _, _, _, _, _, _, _, _, _, _, _, _, _, _, _, _, _, _, _, _, ⟨HB1.out, p, HBQ.out, rfl⟩, rfl⟩
      · obtain rfl : p = s.size := by omega
        have HBQ : Hid (bq = none) := by
          obtain ⟨g, hg⟩ : ∃ g, f = g + 1 := ⟨f - 1, by have := HF.out.1; omega⟩
          have h := HF.out.2
          rw [hg, badN, if_neg hlt] at h
          exact h.symm
        have hnx := fun ty => It.done_2 HI.out hlt ty
        have HTW : Hid (putL l s a s.size = toksW s) := HX.out.last
        clear HF hlt
        go_wp2_with (first
          | (go_at_call 75; refine (put_to w.heap.size u2 s l a s.size _ HO.out HB.out.size (by have := HLL.out; omega) HS.out (by omega) (by omega)).mono ?_; rintro e w4 ⟨v4, rfl, ho4, hg4⟩; have HO4 : Hid (w4.ownsRow w.heap.size 106 2 v4 (putL l s a s.size).length (cellsT (putL l s a s.size))) := ho4; have HI4 : Hid (It w4 w.heap.size s s.size) := HI.out.grown HO.out hg4; have HB4 : Hid (Below w.heap.size w w4) := HB.out.grown hg4 HB.out.size (fun q hq => (HO.out.lt q hq).1); clear ho4 hg4))
        rw [jump_ret]
        go_ret3
        exact ⟨⟨_, by rw [HBQ.out]; rfl, by rw [HBQ.out]; show HoldsC _ _ (toksW s).length (cellsT (toksW s)); rw [← HTW.out]; exact HoldsC.own HO4.out⟩, HB4.out⟩
  · rintro a w' ⟨u0, u1, u2, u3, u4, u5, u6, u7, u8, u9, u10, u11, u12, u13, u14, u15, u16, u17, u18, u19, u20, u21, u22, u23, u24, u25, u26, u27, u28, u29, u30, u31, u32, u33, u34, u35, u36, u37, u38, u39, u40, u41, u42, u43, u44, u45, u46, u47, u48, u49, u50, u51, u52, u53, u54, u55, ⟨hbj, q, hq, rfl⟩, rfl⟩
    have HBJ : Hid (Below w.heap.size w w') := hbj
    clear hbj
    subst hq
    go_wp2
    rw [jump_ret]
    go_ret3
    exact ⟨⟨_, rfl, HoldsC.nil _⟩, HBJ.out⟩
theorem index_one (c : UInt8) : ∀ l : List UInt8, (Lib.index l [c] = -1 ∧ ∀ j (h : j < l.length), l[j] ≠ c) ∨ (∃ i : Nat, Lib.index l [c] = (i : Int) ∧ ∃ h : i < l.length, l[i] = c ∧ ∀ j (hj : j < i), l[j]'(by omega) ≠ c)
  | [] => Or.inl ⟨rfl, fun j h => by simp at h⟩
  | b :: l => by
    by_cases hb : b = c
    · refine Or.inr ⟨0, ?_, by simp, by simpa using hb, fun j hj => by omega⟩
      rw [Lib.index, if_pos (by simp [hb])]
      rfl
    · have hp : ¬ ([c].isPrefixOf (b :: l) = true) := by
        have : ¬ c = b := fun e => hb e.symm
        simp [this]
      rcases index_one c l with ⟨h1, h2⟩ | ⟨i, h1, h2, h3, h4⟩
      · refine Or.inl ⟨?_, fun j h => ?_⟩
        · rw [Lib.index, if_neg hp, if_pos (by rw [h1]; rfl), ]
        · cases j with
          | zero => exact hb
          | succ j => exact h2 j (by simpa using h)
      · refine Or.inr ⟨i + 1, ?_, by simpa using h2, by simpa using h3, fun j hj => ?_⟩
        · rw [Lib.index, if_neg hp, if_neg (by rw [h1, beq_iff_eq]; omega), h1]
          rfl
        · cases j with
          | zero => exact hb
          | succ j => exact h4 j (by omega)
theorem cut_hash (x : ByteArray) : (⟨(Lib.cut x.data.toList [35]).1.toArray⟩ : ByteArray) = cutH x := by
  have e : (Lib.cut x.data.toList [35]).1 = x.data.toList.take (cutN x) := by
    rcases index_one 35 x.data.toList with ⟨h1, h2⟩ | ⟨i, h1, h2, h3, h4⟩
    · rw [Lib.cut, if_neg (by rw [h1]; decide)]
      have : cutN x = x.data.toList.length := by
        have key : ∀ m, m ≤ x.data.toList.length → m ≤ cutN x := by
          intro m
          induction m with
          | zero => intro _; omega
          | succ m ih =>
            intro hm
            exact tw_yes _ _ m (by omega) (ih (by omega)) (by
              have := h2 m (by omega)
              rw [decide_eq_true_eq]
              intro e
              exact this (UInt8.toNat_inj.1 e))
        have h5 := key _ (Nat.le_refl _)
        have h6 := cutN_le x
        rw [len_list] at h5 ⊢
        omega
      rw [this, List.take_length]
    · rw [Lib.cut, if_pos (by rw [h1]; omega), h1]
      have : cutN x = i := by
        have key : ∀ m, m ≤ i → m ≤ cutN x := by
          intro m
          induction m with
          | zero => intro _; omega
          | succ m ih =>
            intro hm
            exact tw_yes _ _ m (by omega) (ih (by omega)) (by
              have := h4 m (by omega)
              rw [decide_eq_true_eq]
              intro e
              exact this (UInt8.toNat_inj.1 e))
        exact tw_no _ _ i h2 (key i (Nat.le_refl _)) (by rw [h3]; decide)
      rw [this]
      rfl
  apply ByteArray.ext
  apply Array.toList_inj.1
  rw [cutH, Lib.extract_from_zero]
  exact e
/-- A list without its last element, if that is empty. -/
def finL : List ByteArray → List ByteArray
  | [] => []
  | [x] => if x.size = 0 then [] else [x]
  | x :: y :: r => x :: finL (y :: r)
theorem finL_cons (x : ByteArray) (l : List ByteArray) (h : l ≠ []) : finL (x :: l) = x :: finL l := by
  cases l with
  | nil => exact absurd rfl h
  | cons y r => rfl
theorem finL_snoc (x : ByteArray) : ∀ l : List ByteArray, finL (l ++ [x]) = if x.size = 0 then l else l ++ [x]
  | [] => rfl
  | a :: l => by
    rw [List.cons_append, finL_cons _ _ (by simp), finL_snoc x l]
    split <;> rfl
def nl : ByteArray := ⟨#[10]⟩
theorem linSt_run (s : ByteArray) (a : Nat) (acc : List ByteArray) : ∀ d : Nat, a + d ≤ s.size → (∀ j, j < d → byteE s (a + j) ≠ 10) → linSt s a = (a, acc) → linSt s (a + d) = (a, acc)
  | 0, _, _, h => h
  | d + 1, hd, hn, h => by
    have ih := linSt_run s a acc d (by omega) (fun j hj => hn j (by omega)) h
    rw [← Nat.add_assoc, linSt, ih, linStep, if_pos ⟨by omega, hn d (by omega)⟩]
theorem rest_byte (s : ByteArray) (a j : Nat) (h : a + j < s.size) (h2 : j < (s.extract a s.size).data.toList.length) : ((s.extract a s.size).data.toList[j]).toNat = byteE s (a + j) := by
  have h3 : j < (s.extract a s.size).size := by rw [rest_size]; omega
  rw [get_list _ j h3, byteE_lt h]
  rw [ByteArray.getElem_extract]
theorem no_nl {s : ByteArray} {a : Nat} (h : ∀ j (h : j < (s.extract a s.size).data.toList.length), (s.extract a s.size).data.toList[j] ≠ 10) (j : Nat) (hj : a + j < s.size) : byteE s (a + j) ≠ 10 := by
  have hl : j < (s.extract a s.size).data.toList.length := by rw [len_list, rest_size]; omega
  rw [← rest_byte s a j hj hl]
  intro e
  exact h j hl (UInt8.toNat_inj.1 e)
theorem lines_from (s : ByteArray) : ∀ (k a : Nat) (acc : List ByteArray), a ≤ s.size → Lib.countB (s.extract a s.size) nl = k → linSt s a = (a, acc) →
    (linSt s (s.size + 1)).2 = acc ++ finL ((Lib.splitB nl 0 k (s.extract a s.size)).map cutH) := by
  intro k
  induction k with
  | zero =>
    intro a acc ha hc hl
    rcases index_one 10 (s.extract a s.size).data.toList with ⟨h1, h2⟩ | ⟨i, h1, h2, h3, h4⟩
    · have hr := linSt_run s a acc (s.size - a) (by omega) (fun j hj => no_nl h2 j (by omega)) hl
      rw [show a + (s.size - a) = s.size by omega] at hr
      rw [linSt, hr, linStep, if_neg (by omega), Lib.splitB_zero]
      show (if s.size = s.size ∧ (cutH (s.extract a s.size)).size = 0 then (a, acc) else _).2 = acc ++ (if (cutH (s.extract a s.size)).size = 0 then [] else [cutH (s.extract a s.size)])
      by_cases hz : (cutH (s.extract a s.size)).size = 0
      · rw [if_pos ⟨rfl, hz⟩, if_pos hz, List.append_nil]
      · rw [if_neg (fun h => hz h.2), if_neg hz]
    · have := Lib.countB_hit (s.extract a s.size) nl i (by decide) h1
      omega
  | succ k ih =>
    intro a acc ha hc hl
    rcases index_one 10 (s.extract a s.size).data.toList with ⟨h1, h2⟩ | ⟨i, h1, h2, h3, h4⟩
    · have := Lib.countB_miss (s.extract a s.size) nl h1
      omega
    · have hi : a + i < s.size := by rw [len_list, rest_size] at h2; omega
      have hb : byteE s (a + i) = 10 := by
        rw [← rest_byte s a i hi h2, h3]
        rfl
      have hr := linSt_run s a acc i (by omega) (fun j hj => by
        have hl2 : j < (s.extract a s.size).data.toList.length := by omega
        rw [← rest_byte s a j (by omega) hl2]
        intro e
        exact h4 j hj (UInt8.toNat_inj.1 e)) hl
      have hn : linSt s (a + i + 1) = (a + i + 1, acc ++ [cutH (s.extract a (a + i))]) := by
        rw [linSt, hr, linStep, if_neg (fun h => h.2 hb), if_neg (fun h => by have := h.1; omega)]
      have hx := Lib.countB_hit (s.extract a s.size) nl i (by decide) h1
      have hs := Lib.splitB_hit nl 0 k (s.extract a s.size) i h1
      have e1 : (s.extract a s.size).extract (i + nl.size) (s.extract a s.size).size = s.extract (a + i + 1) s.size := by
        rw [rest_rest]
        rfl
      have e2 : (s.extract a s.size).extract 0 (i + 0) = s.extract a (a + i) := by
        apply ByteArray.ext
        simp only [ByteArray.data_extract, Array.extract_extract]
        congr 1
        all_goals (have : s.data.size = s.size := rfl; omega)
      rw [e1] at hx hs
      rw [e2] at hs
      have := ih (a + i + 1) (acc ++ [cutH (s.extract a (a + i))]) (by omega) (by omega) hn
      rw [this, hs, List.map_cons, finL_cons, List.append_assoc]
      · rfl
      · intro e
        have h5 := congrArg List.length e
        have h6 := Lib.splitB_all nl (by decide) 0 k (s.extract (a + i + 1) s.size) (by omega)
        rw [List.length_map, h6] at h5
        simp at h5
/-- The lines, by the library's split. -/
theorem linesL_split (s : ByteArray) : linesL s = finL ((Lib.splitB nl 0 (Lib.countB s nl) s).map cutH) := by
  have h := lines_from s (Lib.countB s nl) 0 [] (Nat.zero_le _) (by rw [rest_all]) rfl
  rw [rest_all] at h
  rw [linesL, h, List.nil_append]
theorem drewNW {w w' : World} {B : Nat} (h : Below B w w') (n : Nat) : Below B w (w'.drewN n) :=
  h.trans ⟨rfl, rfl, rfl, Nat.le_refl _, fun _ _ => rfl⟩
/-- A list of texts, as an argument holds it. -/
structure Strs (w : World) (v : Value) (L : List ByteArray) : Prop where
  row : Holds w v L.length (cellsS L)
  len : L.length ≤ 140737488355327
  each : ∀ i (h : i < L.length), L[i].size ≤ 140737488355327
/-- A row of texts in a block of its own. -/
def sa (l : List ByteArray) : Array Value := (l.map Value.string).toArray
def RowS (w : World) (g : Nat) (l : List ByteArray) : Prop := w.heap[g]? = some (.cells (sa l) 9 (0, 0))
theorem sa_get (l : List ByteArray) (j : Nat) (h : j < l.length) : (sa l)[j]? = some (.string l[j]) := by simp [sa, h]
theorem RowS.cell {w : World} {g : Nat} {l : List ByteArray} (h : RowS w g l) (j : Nat) (hj : j < l.length) : w.cell? ⟨g, j, none⟩ = some (.string l[j]) := by
  rw [cell_of_row w g j (sa l) 9 (0, 0) h, sa_get l j hj]
theorem RowS.frozen {w : World} {g : Nat} {l : List ByteArray} (h : RowS w g l) (j : Nat) : w.frozen? ⟨g, j, none⟩ = false := frozen_of_row w g j (sa l) 9 h
theorem RowS.lt {w : World} {g : Nat} {l : List ByteArray} (h : RowS w g l) : g < w.heap.size := (Array.getElem?_eq_some_iff.1 h).1
theorem RowS.set {w : World} {g : Nat} {l : List ByteArray} (h : RowS w g l) (j : Nat) (y : ByteArray) : RowS (w.setCell ⟨g, j, none⟩ (.string y)) g (l.set j y) := by
  have := heap_setCell_same w g j (sa l) 9 (.string y) h
  show _ = _
  rw [this]
  simp [sa]
theorem RowS.later {w w' : World} {g : Nat} {l : List ByteArray} (h : RowS w g l) (hb : Below w.heap.size w w') : RowS w' g l := (hb.block g h.lt).trans h
theorem RowS.new (w : World) (l : List ByteArray) : RowS (w.alloc (.cells (sa l) 9)) w.heap.size l := heap_alloc_new w _
/-- The lines, the first k of them cut. -/
def mixL (P : List ByteArray) (k : Nat) : List ByteArray := (P.take k).map cutH ++ P.drop k
theorem mixL_len (P : List ByteArray) (k : Nat) : (mixL P k).length = P.length := by simp [mixL]; omega
theorem mixL_at (P : List ByteArray) (k : Nat) (h : k < P.length) (h2 : k < (mixL P k).length) : (mixL P k)[k] = P[k] := by
  simp only [mixL]
  rw [List.getElem_append_right (by simp; omega)]
  simp
  congr 1
  omega
theorem mixL_set (P : List ByteArray) (k : Nat) (h : k < P.length) : (mixL P k).set k (cutH P[k]) = mixL P (k + 1) := by
  have hl : ((P.take k).map cutH).length = k := by simp; omega
  rw [mixL, mixL, List.set_append_right _ _ (by omega), hl, Nat.sub_self, List.drop_eq_getElem_cons h, List.take_succ_eq_append_getElem h, List.set_cons_zero, List.map_append, List.append_assoc]
  rfl
theorem mixL_all (P : List ByteArray) : mixL P P.length = P.map cutH := by simp [mixL]
theorem mixL_zero (P : List ByteArray) : mixL P 0 = P := by simp [mixL]
theorem split_each (sep : ByteArray) : ∀ (k : Nat) (s : ByteArray), ∀ x ∈ Lib.splitB sep 0 k s, x.size ≤ s.size
  | 0, s, x, hx => by
    rw [Lib.splitB_zero] at hx
    simp at hx
    rw [hx]
    exact Nat.le_refl _
  | k + 1, s, x, hx => by
    rcases Lib.indexB_cases s sep with h | ⟨i, h, _⟩
    · rw [Lib.splitB_miss sep 0 (k + 1) s h] at hx
      simp at hx
      rw [hx]
      exact Nat.le_refl _
    · rw [Lib.splitB_hit sep 0 k s i h] at hx
      rcases List.mem_cons.1 hx with rfl | hx
      · rw [ByteArray.size_extract]; omega
      · have := split_each sep k _ x hx
        rw [ByteArray.size_extract] at this
        omega
theorem Holds.row {w : World} {g : Nat} {l : List ByteArray} (h : RowS w g l) (n c : Nat) (m : List ByteArray) (hn : m.length = n) (hm : ∀ j (h1 : j < m.length), ∃ h2 : j < l.length, l[j] = m[j]) : Holds w (.slice (some ⟨g, 0, none⟩) n c) m.length (cellsS m) := by
  refine ⟨_, c, by rw [hn], fun j u hu => ⟨g, 0, rfl, ?_⟩⟩
  rw [Nat.zero_add]
  have hj : j < m.length := by
    have := (List.getElem?_eq_some_iff.1 hu).1
    rw [cellsS_len] at this
    exact this
  rw [cellsS_at m j hj] at hu
  obtain ⟨h2, e⟩ := hm j hj
  rw [h.cell j h2, e]
  exact hu
set_option maxHeartbeats 8000000 in
theorem lines_long (s : ByteArray) (w : World) (h : 3000 < s.size) :
    Calls Tryz.prog 26 #[.string s] w fun e w' => e = .returned (.tuple #[.slice none 0 0, .int .i64 2]) ∧ w = w' := by
  have g1 : (3000 : Int) < ((s.size : Nat) : Int) := by omega
  go_enter Tryz.func26, Tryz.ntmps26
  go_wp2
  go_ret2
  exact ⟨rfl, rfl⟩
theorem split_to (s : ByteArray) (m : Int) (w : World) (hs : s.size ≤ 3000) (hm : w.cell? ⟨2, 0, none⟩ = some (.int .i64 m)) (P : List ByteArray) (hP : Lib.splitB nl 0 (Lib.countB s nl) s = P) :
    Calls Tryz.prog 47 #[.string s, .string ⟨#[10]⟩] w fun e w' => e = .returned (.slice (some ⟨w.heap.size, 0, none⟩) P.length P.length) ∧ w' = w.alloc (.cells (P.map Value.string).toArray 9) := by
  have h := Tryz.strings_Split s nl m w (by omega) hm (by decide)
  have hl := Lib.splitB_all nl (by decide) 0 (Lib.countB s nl) s rfl
  rw [hP] at h hl
  rw [← hl] at h
  exact h
theorem cut_to (x : ByteArray) (m : Int) (w : World) (hs : x.size ≤ 3000) (hm : w.cell? ⟨2, 0, none⟩ = some (.int .i64 m)) (y : ByteArray) (hy : cutH x = y) :
    Calls Tryz.prog 48 #[.string x, .string ⟨#[35]⟩] w fun e w' => (∃ u b, e = .returned (.tuple #[.string y, .string u, .bool b])) ∧ ∃ n, w' = w.drewN n := by
  refine (Tryz.strings_Cut x ⟨#[35]⟩ m w (by omega) hm).mono ?_
  rintro e w2 ⟨rfl, hn⟩
  exact ⟨⟨_, _, by rw [← hy, ← cut_hash]⟩, hn⟩
set_option maxHeartbeats 8000000 in
theorem lines_ok (s : ByteArray) (m : Int) (w : World) (h : s.size ≤ 3000) (hm : w.cell? ⟨2, 0, none⟩ = some (.int .i64 m)) :
    Calls Tryz.prog 26 #[.string s] w fun e w' => ∃ v, e = .returned (.tuple #[v, .int .i64 0]) ∧ Holds w' v (linesL s).length (cellsS (linesL s)) ∧ Below w.heap.size w w' := by
  have g1 : ¬ (3000 : Int) < ((s.size : Nat) : Int) := by omega
  obtain ⟨P, hP⟩ : ∃ P, Lib.splitB nl 0 (Lib.countB s nl) s = P := ⟨_, rfl⟩
  have HSP : Hid (∀ w : World, w.cell? ⟨2, 0, none⟩ = some (.int .i64 m) → Calls Tryz.prog 47 #[.string s, .string ⟨#[10]⟩] w fun e w' => e = .returned (.slice (some ⟨w.heap.size, 0, none⟩) P.length P.length) ∧ w' = w.alloc (.cells (P.map Value.string).toArray 9)) := fun w hm => split_to s m w h hm P hP
  have HL : Hid (linesL s = finL (P.map cutH)) := by show _ = _; rw [← hP]; exact linesL_split s
  have HM : Hid (w.cell? ⟨2, 0, none⟩ = some (.int .i64 m)) := hm
  have HPS : Hid (∀ x ∈ P, x.size ≤ 3000) := fun x hx => by
    rw [← hP] at hx
    have := split_each nl _ s x hx
    omega
  have hlen : P.length = Lib.countB s nl + 1 := by rw [← hP]; exact Lib.splitB_all nl (by decide) 0 _ s rfl
  have hcb := Lib.countB_le nl (by decide) s.size s (Nat.le_refl _)
  have hpl : 1 ≤ P.length ∧ P.length ≤ 3001 := by omega
  obtain ⟨hp1, hp2⟩ := hpl
  clear hP hm hlen hcb
  go_enter Tryz.func26, Tryz.ntmps26
  go_wp2_with (go_at_call 47; refine (HSP.out _ HM.out).mono ?_; rintro e w1 ⟨rfl, rfl⟩)
  obtain ⟨g, hg⟩ : ∃ g, w.heap.size = g := ⟨_, rfl⟩
  have HG : Hid (w.heap.size = g) := hg
  rw [hg]
  go_loopw [18] (fun i w' => ∃ (k : Nat), k ≤ P.length ∧ i = .int .i64 k ∧ Hid (RowS w' g (mixL P k)) ∧ Hid (Below w.heap.size w w')) (fun i _ => P.length - (intOf i).toNat)
  case atStart => exact ⟨0, Nat.zero_le _, rfl, by show RowS _ _ _; rw [mixL_zero, ← hg]; exact RowS.new w P, (Below.refl _ _).alloc (Nat.le_refl _) _⟩
  case round =>
    obtain ⟨k, hk, rfl, HR, HB⟩ := hrel
    have hml := mixL_len P k
    by_cases hlt : k < P.length
    · have hc := HR.out.cell k (by omega)
      rw [mixL_at P k hlt] at hc
      have hfz := HR.out.frozen k
      obtain ⟨x, hx⟩ : ∃ x, P[k] = x := ⟨_, rfl⟩
      have hxs := HPS.out x (by rw [← hx]; exact List.getElem_mem _)
      obtain ⟨y, hy⟩ : ∃ y, cutH x = y := ⟨_, rfl⟩
      have hys : y.size ≤ 3000 := by have h1 := cutN_le x; rw [← hy, cutH_size]; omega
      have HY : Hid (cutH P[k] = y) := by show _ = _; rw [hx, hy]
      have HCT : Hid (∀ w : World, w.cell? ⟨2, 0, none⟩ = some (.int .i64 m) → Calls Tryz.prog 48 #[.string x, .string ⟨#[35]⟩] w fun e w' => (∃ u b, e = .returned (.tuple #[.string y, .string u, .bool b])) ∧ ∃ n, w' = w.drewN n) := fun w hm => cut_to x m w hxs hm y hy
      have hmm := cell_later HB.out HM.out
      rw [hx] at hc
      clear hx hy
      go_wp2_with (first
        | (go_at_call 48; refine (HCT.out _ (cell_later HB.out HM.out)).mono ?_; rintro e w2 ⟨⟨u, b, rfl⟩, n, rfl⟩)
        | (go_at_call 49; refine (clone_to y _ (by omega)).mono ?_; rintro e w3 ⟨rfl, hb3⟩; have HR3 : Hid (RowS w3 g (mixL P k)) := RowS.later (w := wr.drewN n) HR.out hb3; have HB3 : Hid (Below w.heap.size w w3) := Below.after (drewNW HB.out n) hb3; have hc3 := HR3.out.cell k (by omega); have hf3 := HR3.out.frozen k; clear hb3))
      go_roundw
      case rel => exact ⟨k + 1, by omega, by go_num, by show RowS _ _ _; rw [← mixL_set P k hlt, HY.out]; exact HR3.out.set k y, HB3.out.setCell (by have := HG.out; simp; omega) _⟩
      case measure => simp [intOf]; omega
    · obtain rfl : k = P.length := by omega
      obtain ⟨q, hq⟩ : ∃ q, P.length = q + 1 := ⟨P.length - 1, by omega⟩
      obtain ⟨M, hM⟩ : ∃ M, P.map cutH = M := ⟨_, rfl⟩
      have HR2 : Hid (RowS wr g M) := by show RowS _ _ _; rw [← hM, ← mixL_all]; exact HR.out
      have hml2 : M.length = q + 1 := by rw [← hM, List.length_map, hq]
      have HLL : Hid (linesL s = finL M) := by show _ = _; rw [HL.out, hM]
      have hc := HR2.out.cell q (by omega)
      obtain ⟨z, hz⟩ : ∃ z, M[q]'(by omega) = z := ⟨_, rfl⟩
      have HF : Hid (M = M.take q ++ [z]) := by
        show _ = _
        rw [← hz, ← List.take_succ_eq_append_getElem (by omega), List.take_of_length_le (by omega)]
      have HF2 : Hid (finL M = if z.size = 0 then M.take q else M) := by
        have h := finL_snoc z (M.take q)
        rw [← HF.out] at h
        exact h
      have HML : Hid (M.length = q + 1) := hml2
      rw [hz] at hc
      have hq3 : q ≤ 3000 := by omega
      rw [hq]
      clear hz hM HR HL hml hml2 hlt hp1 hp2 hk hq HSP HPS
      by_cases hz0 : z.size = 0
      · have g7 : (z.toList == []) = true := by rw [Lib.toList_data, beq_iff_eq]; exact List.eq_nil_of_length_eq_zero (by rw [len_list]; exact hz0)
        have HE : Hid (linesL s = M.take q) := by show _ = _; rw [HLL.out, HF2.out, if_pos hz0]
        clear hz0
        go_wp2
        go_ret2
        exact ⟨_, rfl, by rw [HE.out]; exact Holds.row HR2.out q _ (M.take q) (by rw [List.length_take, HML.out]; omega) (fun j hj => ⟨by rw [List.length_take] at hj; omega, by rw [List.getElem_take]⟩), HB.out⟩
      · have g7 : (z.toList == []) = false := by rw [Lib.toList_data, beq_eq_false_iff_ne]; intro e; have := len_list z; rw [e] at this; simp at this; omega
        have HE : Hid (linesL s = M) := by show _ = _; rw [HLL.out, HF2.out, if_neg hz0]
        clear hz0
        go_wp2
        go_ret2
        exact ⟨_, rfl, by rw [HE.out]; exact Holds.row HR2.out (q + 1) _ M HML.out (fun j hj => ⟨hj, rfl⟩), HB.out⟩
theorem lines_to (s : ByteArray) (m : Int) (w : World) (hm : w.cell? ⟨2, 0, none⟩ = some (.int .i64 m)) :
    Calls Tryz.prog 26 #[.string s] w fun e w' => (∃ v, e = .returned (.tuple #[v, .int .i64 (if s.size ≤ 3000 then 0 else 2)]) ∧ Holds w' v (if s.size ≤ 3000 then linesL s else []).length (cellsS (if s.size ≤ 3000 then linesL s else []))) ∧ Below w.heap.size w w' := by
  by_cases h : s.size ≤ 3000
  · refine (lines_ok s m w h hm).mono ?_
    rintro e w2 ⟨v, rfl, hh, hb⟩
    exact ⟨⟨v, by rw [if_pos h], by rw [if_pos h]; exact hh⟩, hb⟩
  · refine (lines_long s w (by omega)).mono ?_
    rintro e w2 ⟨rfl, rfl⟩
    exact ⟨⟨_, by rw [if_neg h], by rw [if_neg h]; exact Holds.nil _⟩, Below.refl _ _⟩
end Go.Proofs.YtkojdigaoihkpaaGreatDoor

end
