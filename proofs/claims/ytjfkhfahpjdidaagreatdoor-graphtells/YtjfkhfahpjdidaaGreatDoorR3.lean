/- Contract (tied seat): the page's Graph. -/
import Derived.Test.YtjfkhfahpjdidaaGreatDoorRA
import Derived.Test.YtjfkhfahpjdidaaGreatDoorSA
namespace Go.Proofs.YtjfkhfahpjdidaaGreatDoor
set_option linter.unusedVariables false
set_option linter.unusedSimpArgs false
set_option maxRecDepth 100000
open Go.RowKit

/-- The page's Name, where TB holds (tables of unicode/utf8). -/
structure RName (TB : World → Prop) : Prop where
  later : ∀ {w w' : World}, Below w.heap.size w w' → TB w → TB w'
  name : ∀ {s : ByteArray} {w : World} (hs : s.size ≤ 140737488355328) (hT : TB w) (q : Bool) (hq : nameB s = q),
    Calls Tryz.prog 24 #[.string s] w fun e w' => e = .returned (.bool q) ∧ Below w.heap.size w w'
theorem grpI_at {L : List Nod} {i : Nat} (h : i < L.length) : grpI L i = (nameB L[i].name && decide (nmdN L L[i].name 0 = (i : Int)) && decide (L[i].kind ≤ 15) && (decide (-1073741824 ≤ L[i].n) && decide (L[i].n ≤ 1073741824))) := by
  rw [grpI, List.getElem?_eq_getElem h]
theorem grpB_not {L : List Nod} {i : Nat} (h : i < L.length) (hi : grpI L i = false) : grpB L = false := by
  cases e : grpB L with
  | false => rfl
  | true =>
    simp only [grpB, Bool.and_eq_true, List.all_eq_true] at e
    have := e.1.2 i (List.mem_range.2 h)
    rw [hi] at this
    exact this.symm
set_option maxHeartbeats 8000000 in
theorem rgraph_any {TB : World → Prop} (R : RName TB) {v : Value} {L : List Nod} {w : World} (h : NodesL w v L) (hs : Small L) (hT : TB w) (q : Bool) (hq : grpB L = q) :
    Calls Tryz.prog 6 #[v] w fun e w' => e = .returned (.bool q) ∧ Below w.heap.size w w' := by
  have HN : Hid (NodesL w v L) := h
  have HT : Hid (TB w) := hT
  have HQ : Hid (grpB L = q) := hq
  have HA : Hid (∀ t ∈ L, t.args.length ≤ 100000000) := fun t ht => by
    obtain ⟨i, hi, rfl⟩ := List.getElem_of_mem ht
    have := hs.a i hi
    omega
  have HS : Hid (Small L) := hs
  obtain ⟨va, vc, rfl, hc1, hc2⟩ := h.shape
  unfold big at hc2
  clear h hT hq hs
  by_cases hl : 1 ≤ (L.length : Int) ∧ (L.length : Int) ≤ 24
  case neg =>
    have HQ2 : Hid (q = false) := by
      show _ = _
      rw [← HQ.out, grpB]
      by_cases h1 : 1 ≤ L.length
      · rw [decide_eq_false (p := L.length ≤ 24) (by omega), Bool.and_false]; simp only [Bool.false_and]
      · rw [decide_eq_false (p := 1 ≤ L.length) (by omega)]; simp only [Bool.false_and]
    have hl2 : (L.length : Int) < 1 ∨ 24 < (L.length : Int) := by omega
    clear hl
    go_enter Tryz.func6, Tryz.ntmps6
    go_wp2_with (go_at_call 23; refine (between_f _ _ _ _ hl2).mono ?_; rintro e w2 ⟨rfl, rfl⟩)
    go_ret
    exact ⟨by rw [HQ2.out]; rfl, Below.refl _ _⟩
  case pos =>
  obtain ⟨hl1, hl2⟩ := hl
  cases hn : nodesB L with
  | false =>
    have HNB : Hid (nodesB L = false) := hn
    have HQ2 : Hid (q = false) := by show _ = _; rw [← HQ.out, grpB, hn, Bool.and_false]; simp only [Bool.false_and]
    clear hn
    go_enter Tryz.func6, Tryz.ntmps6
    go_wp2_with (first
      | (go_at_call 23; refine (between_t _ _ _ _ hl1 hl2).mono ?_; rintro e w2 ⟨rfl, rfl⟩)
      | (go_at_call 7; refine (rnodes_any HN.out HA.out false HNB.out).mono ?_; rintro e w2 ⟨rfl, hb2⟩; have HB2 : Hid (Below w.heap.size w w2) := hb2; clear hb2))
    go_ret
    exact ⟨by rw [HQ2.out]; rfl, HB2.out⟩
  | true =>
    have HNB : Hid (nodesB L = true) := hn
    clear hn
    go_enter Tryz.func6, Tryz.ntmps6
    go_wp2_with (first
      | (go_at_call 23; refine (between_t _ _ _ _ hl1 hl2).mono ?_; rintro e w2 ⟨rfl, rfl⟩)
      | (go_at_call 7; refine (rnodes_any HN.out HA.out true HNB.out).mono ?_; rintro e w2 ⟨rfl, hb2⟩; have HB2 : Hid (Below w.heap.size w w2) := hb2; clear hb2))
    go_loopw [3] (fun i w' => ∃ k : Nat, k ≤ L.length ∧ i = .int .i64 k ∧ Hid (∀ j, j < k → grpI L j = true) ∧ Below w.heap.size w w') (fun i _ => L.length - (intOf i).toNat)
    case atStart => exact ⟨0, Nat.zero_le _, rfl, (fun j h => by omega), HB2.out⟩
    case round =>
      obtain ⟨k, hk, rfl, HP, hbel⟩ := hrel
      have HB : Hid (Below w.heap.size w wr) := hbel
      clear hbel
      by_cases hlt : k < L.length
      · have HGI : Hid (grpI L k = _) := grpI_at hlt
        have HGN : Hid (grpI L k = false → q = false) := fun h => by rw [← HQ.out]; exact grpB_not hlt h
        have HZS : Hid (L[k].name.size ≤ 1000000) := HS.out.s k hlt
        obtain ⟨b, off, y0, y1, rfl, hnd⟩ := (HN.out.later HB.out).row k hlt
        obtain ⟨t, ht⟩ : ∃ t, L[k] = t := ⟨_, rfl⟩
        rw [ht] at hnd HGI HZS
        obtain ⟨nm, kd, ar, ds, n⟩ := t
        simp only at HGI HZS
        have d0 := hnd.c0
        have d1 := hnd.c1
        have d4 := hnd.c4
        simp only at d0 d1 d4
        have g1 : (k : Int) < L.length := by omega
        have HNK : Hid (NodesL wr (.slice (some ⟨b, off, none⟩) L.length vc) L) := HN.out.later HB.out
        have HTK : Hid (TB wr) := R.later HB.out HT.out
        clear hnd ht
        cases hc1x : nameB nm with
        | false =>
          have HC1 : Hid (nameB nm = false) := hc1x
          have HQ2 : Hid (q = false) := by show _ = _; refine HGN.out ?_; rw [HGI.out]; rw [hc1x]; simp only [Bool.false_and]
          go_wp2_with (first
            | (go_at_call 24; refine (R.name (by have := HZS.out; omega) HTK.out false HC1.out).mono ?_; rintro e w3 ⟨rfl, hb3⟩; have HB3 : Hid (Below w.heap.size w w3) := Below.after HB.out hb3; have HN3 : Hid (NodesL w3 (.slice (some ⟨b, off, none⟩) L.length vc) L) := HNK.out.later hb3; have f0 := cell_later hb3 d0; have f1 := cell_later hb3 d1; have f4 := cell_later hb3 d4; clear hb3))
          go_ret
          exact ⟨by rw [HQ2.out]; rfl, HB3.out⟩
        | true =>
          have HC1 : Hid (nameB nm = true) := hc1x
          obtain ⟨z, hz⟩ : ∃ z, nmdN L nm 0 = z := ⟨_, rfl⟩
          have HZ : Hid (nmdN L nm 0 = z) := hz
          by_cases hzk : z = (k : Int)
          case neg =>
            have hzb : (z != (k : Int)) = true := by rw [bne_iff_ne]; exact hzk
            have HQ2 : Hid (q = false) := by show _ = _; refine HGN.out ?_; rw [HGI.out]; rw [hz, decide_eq_false hzk]; simp only [Bool.and_false, Bool.false_and]
            go_wp2_with (first
              | (go_at_call 24; refine (R.name (by have := HZS.out; omega) HTK.out true HC1.out).mono ?_; rintro e w3 ⟨rfl, hb3⟩; have HB3 : Hid (Below w.heap.size w w3) := Below.after HB.out hb3; have HN3 : Hid (NodesL w3 (.slice (some ⟨b, off, none⟩) L.length vc) L) := HNK.out.later hb3; have f0 := cell_later hb3 d0; have f1 := cell_later hb3 d1; have f4 := cell_later hb3 d4; clear hb3)
              | (go_at_call 25; refine (rnamed_any HN3.out nm z HZ.out).mono ?_; rintro e w4 ⟨rfl, rfl⟩))
            go_ret
            exact ⟨by rw [HQ2.out]; rfl, HB3.out⟩
          case pos =>
          have hzb : (z != (k : Int)) = false := by rw [hzk]; simp
          by_cases hkd : kd ≤ 15
          case neg =>
            have hkb : 15 < kd := by omega
            have HQ2 : Hid (q = false) := by show _ = _; refine HGN.out ?_; rw [HGI.out]; rw [decide_eq_false hkd]; simp only [Bool.and_false, Bool.false_and]
            go_wp2_with (first
              | (go_at_call 24; refine (R.name (by have := HZS.out; omega) HTK.out true HC1.out).mono ?_; rintro e w3 ⟨rfl, hb3⟩; have HB3 : Hid (Below w.heap.size w w3) := Below.after HB.out hb3; have HN3 : Hid (NodesL w3 (.slice (some ⟨b, off, none⟩) L.length vc) L) := HNK.out.later hb3; have f0 := cell_later hb3 d0; have f1 := cell_later hb3 d1; have f4 := cell_later hb3 d4; clear hb3)
              | (go_at_call 25; refine (rnamed_any HN3.out nm z HZ.out).mono ?_; rintro e w4 ⟨rfl, rfl⟩))
            go_ret
            exact ⟨by rw [HQ2.out]; rfl, HB3.out⟩
          case pos =>
          have hkb : ¬ 15 < kd := by omega
          by_cases hnr : -1073741824 ≤ n ∧ n ≤ 1073741824
          case neg =>
            have hnb : n < -1073741824 ∨ 1073741824 < n := by omega
            have HQ2 : Hid (q = false) := by show _ = _; refine HGN.out ?_; rw [HGI.out]; rw [show (decide (-1073741824 ≤ n) && decide (n ≤ 1073741824)) = false from by rw [← Bool.decide_and]; exact decide_eq_false hnr]; simp only [Bool.and_false]
            go_wp2_with (first
              | (go_at_call 24; refine (R.name (by have := HZS.out; omega) HTK.out true HC1.out).mono ?_; rintro e w3 ⟨rfl, hb3⟩; have HB3 : Hid (Below w.heap.size w w3) := Below.after HB.out hb3; have HN3 : Hid (NodesL w3 (.slice (some ⟨b, off, none⟩) L.length vc) L) := HNK.out.later hb3; have f0 := cell_later hb3 d0; have f1 := cell_later hb3 d1; have f4 := cell_later hb3 d4; clear hb3)
              | (go_at_call 25; refine (rnamed_any HN3.out nm z HZ.out).mono ?_; rintro e w4 ⟨rfl, rfl⟩)
              | (go_at_call 23; refine (between_f _ _ _ _ hnb).mono ?_; rintro e w4 ⟨rfl, rfl⟩))
            go_ret
            exact ⟨by rw [HQ2.out]; rfl, HB3.out⟩
          case pos =>
          obtain ⟨hn1, hn2⟩ := hnr
          have HGT : Hid (grpI L k = true) := by show _ = _; rw [HGI.out, hc1x, hz, hzk, decide_eq_true hkd, decide_eq_true hn1, decide_eq_true hn2]; simp
          clear hc1x hz
          go_wp2_with (first
            | (go_at_call 24; refine (R.name (by have := HZS.out; omega) HTK.out true HC1.out).mono ?_; rintro e w3 ⟨rfl, hb3⟩; have HB3 : Hid (Below w.heap.size w w3) := Below.after HB.out hb3; have HN3 : Hid (NodesL w3 (.slice (some ⟨b, off, none⟩) L.length vc) L) := HNK.out.later hb3; have f0 := cell_later hb3 d0; have f1 := cell_later hb3 d1; have f4 := cell_later hb3 d4; clear hb3)
            | (go_at_call 25; refine (rnamed_any HN3.out nm z HZ.out).mono ?_; rintro e w4 ⟨rfl, rfl⟩)
            | (go_at_call 23; refine (between_t _ _ _ _ hn1 hn2).mono ?_; rintro e w4 ⟨rfl, rfl⟩))
          go_roundw
          case rel =>
            refine ⟨k + 1, by omega, by go_num, fun j hj => ?_, HB3.out⟩
            by_cases e : j = k
            · rw [e]; exact HGT.out
            · exact HP.out j (by omega)
          case measure => simp [intOf]; omega
      · have hk' : k = L.length := by omega
        subst hk'
        have hlast : L.length - 1 < L.length := by omega
        have hgl : L.getLast? = some (L[L.length - 1]'hlast) := by rw [List.getLast?_eq_getElem?, List.getElem?_eq_getElem hlast]
        obtain ⟨b, off, y0, y1, rfl, hnd⟩ := (HN.out.later HB.out).row (L.length - 1) hlast
        have hok := nodeB_okd (nodesB_at HNB.out (L.length - 1) hlast)
        obtain ⟨t, ht⟩ : ∃ t, L[L.length - 1]'hlast = t := ⟨_, rfl⟩
        rw [ht] at hnd hok hgl
        have d3 := hnd.c3
        have HD : Hid (Ints wr y1 t.dims) := hnd.d
        have HOK : Hid (okd t.dims = true) := hok
        have HQ2 : Hid (decide (prd t.dims = 1) = q) := by
          show _ = _
          rw [← HQ.out, grpB, HNB.out, hgl, decide_eq_true (p := 1 ≤ L.length) (by omega), decide_eq_true (p := L.length ≤ 24) (by omega), show (List.range L.length).all (grpI L) = true from List.all_eq_true.2 fun j hj => HP.out j (List.mem_range.1 hj)]
          simp
        obtain ⟨ya, yn, yc, rfl⟩ := hnd.d.shape3
        have e1 : ((L.length - 1 : Nat) : Int) = (L.length : Int) - 1 := by omega
        have g0 : IntKind.i64.wrap ((L.length : Int) - 1) = ((L.length - 1 : Nat) : Int) := by rw [e1]; exact wrap_small _ (by omega) (by omega)
        have g1 : ((L.length - 1 : Nat) : Int) < L.length := by omega
        have g2 : (0 : Int) ≤ ((L.length - 1 : Nat) : Int) := by omega
        obtain ⟨j, hj⟩ : ∃ j, L.length - 1 = j := ⟨_, rfl⟩
        rw [hj] at d3 g0 g1 g2
        clear hnd ht hok hgl e1
        go_wp2_with (go_at_call 26; refine (rcells_to _ HD.out HOK.out rfl).mono ?_; rintro e w3 ⟨rfl, rfl⟩)
        go_ret
        exact ⟨by rw [← HQ2.out]; rfl, HB.out⟩
end Go.Proofs.YtjfkhfahpjdidaaGreatDoor
