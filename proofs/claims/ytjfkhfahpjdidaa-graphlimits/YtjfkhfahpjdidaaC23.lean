/- Carried: C25. -/
import Derived.Test.YtjfkhfahpjdidaaC22
namespace Go.Proofs.Ytjfkhfahpjdidaa
set_option linter.unusedVariables false
set_option linter.unusedSimpArgs false
set_option maxRecDepth 100000
open Go.RowKit

/-- Narrowed as far as dim k. -/
def narK (e p : List Int) (k : Nat) : List Int := (List.range e.length).map fun j => if j < k ∧ e.getD j 0 = 1 then 0 else p.getD j 0
theorem narK_length (e p : List Int) (k : Nat) : (narK e p k).length = e.length := by simp [narK]
theorem narK_zero {e p : List Int} (h : p.length = e.length) : narK e p 0 = p := by
  apply List.ext_getElem
  · simp [narK, h]
  · intro i h1 h2
    simp [narK, h2]
theorem narK_all (e p : List Int) : narK e p e.length = nar e p := by
  apply List.ext_getElem
  · simp [narK, nar]
  · intro i h1 h2
    have : i < e.length := by simpa [narK] using h1
    simp [narK, nar, this]
theorem narK_one {e p : List Int} {k : Nat} (h : e.getD k 0 = 1) : (narK e p k).set k 0 = narK e p (k + 1) := by
  apply List.ext_getElem
  · simp [narK]
  · intro i h1 h2
    simp only [List.getElem_set, narK, List.getElem_map, List.getElem_range]
    by_cases q : k = i
    · subst q; rw [if_pos rfl, if_pos ⟨by omega, h⟩]
    · rw [if_neg q]
      by_cases h3 : i < k
      · simp [h3, show i < k + 1 from by omega]
      · simp [h3, show ¬ i < k + 1 from by omega]
theorem narK_other {e p : List Int} {k : Nat} (h : ¬ e.getD k 0 = 1) : narK e p k = narK e p (k + 1) := by
  apply List.ext_getElem
  · simp [narK]
  · intro i h1 h2
    simp only [narK, List.getElem_map, List.getElem_range]
    by_cases q : k = i
    · subst q; rw [if_neg (fun x => h x.2), if_neg (fun x => h x.2)]
    · by_cases h3 : i < k
      · simp [h3, show i < k + 1 from by omega]
      · simp [h3, show ¬ i < k + 1 from by omega]
theorem wid_length {a b : List Int} (h : wid a b = true) : a.length = b.length := by
  by_cases e : a.length = b.length
  · exact e
  · rw [wid_len e] at h; cases h
set_option maxHeartbeats 2000000 in
theorem below_ok {v v' : Value} {e d : List Int} {w : World} (he : Ints w v e) (hd : Ints w v' d) (oe : okd e = true) (od : okd d = true) (hw : wid e d = true) :
    Calls Try.prog 75 #[v, v'] w fun r w' => ∃ B, w.heap.size ≤ B ∧ r = .returned (.slice (some ⟨B, 0, none⟩) (prd d).toNat (prd d).toNat) ∧ Blk w' B ((List.range (prd d).toNat).map fun i => (wmp e d i : Int)) ∧ Below w.heap.size w w' := by
  have HE : Hid (Ints w v e) := he
  have HD : Hid (Ints w v' d) := hd
  have OE : Hid (okd e = true) := oe
  have OD : Hid (okd d = true) := od
  have HW : Hid (wid e d = true) := hw
  have hel := (okd_parts oe).2.1
  obtain ⟨_, _, hin, hp⟩ := okd_parts od
  have hp1 := prd_lo hin
  have hl := wid_length hw
  have HL : Hid (e.length = d.length) := hl
  obtain ⟨m, hm⟩ : ∃ m : Nat, prd d = m := ⟨(prd d).toNat, by omega⟩
  have HM : Hid (prd d = m) := hm
  have hm1 : 1 ≤ m := by omega
  have hm2 : m ≤ 64 := by omega
  have hmk := fun w => make_ints w m (by omega)
  obtain ⟨ea, ec, rfl⟩ := he.shape
  obtain ⟨da, dc, rfl⟩ := hd.shape
  rw [hl] at HE ⊢
  rw [hm, Int.toNat_natCast]
  clear he hd oe od hw hin hp hp1 hm hl
  go_enter Try.func75, Try.ntmps75
  go_wp2_with (go_at_call 84; refine (ties_any HE.out hel).mono ?_; rintro e w' ⟨rfl, rfl⟩)
  refine (cells_ok HD.out OD.out).mono ?_
  rw [HM.out]
  rintro r w1 ⟨rfl, hb1⟩
  have HB1 : Hid (Below w.heap.size w w1) := hb1
  have hz1 := hb1.size
  clear hb1
  go_wp2
  clear hmk
  have HST : Hid (Blk (w1.alloc (.cells (ia (zer m)) 3)) w1.heap.size (lay (fun i => (wmp e d i : Int)) m 0)) := by
    show Blk _ _ _
    rw [lay_zero]
    exact Blk.new w1 _
  go_loopw [25] (fun i w' => ∃ j : Nat, j ≤ m ∧ i = .int .i64 j ∧ Blk w' w1.heap.size (lay (fun i => (wmp e d i : Int)) m j) ∧ Below w1.heap.size w1 w') (fun i _ => m - (intOf i).toNat)
  case atStart => exact ⟨0, by omega, rfl, HST.out, (Below.refl _ _).alloc (Nat.le_refl _) _⟩
  case round =>
    obtain ⟨wo, rfl⟩ : ∃ x, x = wr := ⟨_, rfl⟩
    obtain ⟨j, hj, rfl, hB, hbel⟩ := hrel
    have HB3 : Hid (Blk wo w1.heap.size (lay (fun i => (wmp e d i : Int)) m j)) := hB
    have HBL3 : Hid (Below w1.heap.size w1 wo) := hbel
    have hsr := hB.lt
    clear hB hbel
    by_cases hlt : j < m
    · have HJ : Hid ((j : Int) < prd d) := by show _ < _; rw [HM.out]; omega
      have HBW : Hid (Below w.heap.size w wo) := Below.after HB1.out HBL3.out
      go_wp2_with fail
      refine (where_ok (j : Int) (HD.out.later HBW.out) OD.out (by omega) HJ.out).mono ?_
      rintro r w2 ⟨P, hP, rfl, hk2, hb2⟩
      have hz2 := hb2.size
      have hPl := hk2.lt
      have HK2 : Hid (Blk (w2.iter (tieT e) 0) P (narK e (whr d j) 0)) := by
        show Blk _ _ _
        rw [narK_zero (by rw [whr_length, HL.out]), iter_alloc]
        exact hk2.alloc _
      have HB2 : Hid (Below wo.heap.size wo (w2.iter (tieT e) 0)) := by
        show Below _ _ _
        rw [iter_alloc]
        exact hb2.alloc hz2 _
      have HI2 : Hid (It (w2.iter (tieT e) 0) w2.heap.size (tieT e) 0) := It.new _ _ _
      clear hb2 hk2
      go_wp2
      go_loopw [] (fun w' => ∃ k : Nat, k ≤ e.length ∧ Blk w' P (narK e (whr d j) k) ∧ It w' w2.heap.size (tieT e) k ∧ Below wo.heap.size wo w') (fun w' => e.length - w'.iterPos w2.heap.size)
      case atStart => exact ⟨0, Nat.zero_le _, HK2.out, HI2.out, HB2.out⟩
      case round =>
        obtain ⟨k, hk, hB, hI, hbel⟩ := hrel
        have hIB := It.blk hB hI
        by_cases hlt2 : k < e.length
        · have hks : k < (tieT e).size := by rw [tieT_size]; exact hlt2
          have hq : e.getD k 0 = e[k] := by simp [hlt2]
          have hgk := tieT_get e k hlt2 hks
          have HPP : Hid (wr.iterPos w2.heap.size = k) := hI.pos
          have HI1 : Hid (It (wr.iterAt w2.heap.size (tieT e) (k + 1)) w2.heap.size (tieT e) (k + 1)) := hI.moved _
          have HK1 : Hid (Blk (wr.iterAt w2.heap.size (tieT e) (k + 1)) P (narK e (whr d j) k)) := hB.moved hIB _ _
          have HL1 : Hid (Below wo.heap.size wo (wr.iterAt w2.heap.size (tieT e) (k + 1))) := Below.moved hbel (by omega) _ _
          have hlk : (narK e (whr d j) k).length = e.length := narK_length _ _ _
          by_cases h1 : e[k] = 1
          · have hnx := fun ty => hI.nx hks 42 (by rw [hgk, tieB, if_pos h1]; decide) (by rw [hgk, tieB, if_pos h1]; decide) ty
            have HN : Hid ((narK e (whr d j) k).set k 0 = narK e (whr d j) (k + 1)) := narK_one (by rw [hq]; exact h1)
            clear hB hI hbel hgk hq h1
            have hc := HK1.out.cell k (by omega)
            have hf := HK1.out.frozen k
            have hkd : (k : Int) < d.length := by have := HL.out; omega
            go_wp2
            clear hnx
            go_roundw
            case rel =>
              refine ⟨k + 1, by omega, ?_, HI1.out.set _ _ (by simpa using hIB), HL1.out.setCell (by simpa using hP) _⟩
              rw [← HN.out]
              exact HK1.out.set k 0
            case measure =>
              have : ((wr.iterAt w2.heap.size (tieT e) (k + 1)).setCell ⟨P, k, none⟩ (.int .i64 0)).iterPos w2.heap.size = k + 1 := It.pos (s := tieT e) (HI1.out.set _ _ (by simpa using hIB))
              rw [this, HPP.out]
              omega
          · have hnx := fun ty => hI.nx hks 61 (by rw [hgk, tieB, if_neg h1]; decide) (by rw [hgk, tieB, if_neg h1]; decide) ty
            have HN : Hid (narK e (whr d j) k = narK e (whr d j) (k + 1)) := narK_other (by rw [hq]; exact h1)
            clear hB hI hbel hgk hq h1
            go_wp2
            clear hnx
            go_roundw
            case rel =>
              refine ⟨k + 1, by omega, ?_, HI1.out, HL1.out⟩
              rw [← HN.out]
              exact HK1.out
            case measure =>
              have : (wr.iterAt w2.heap.size (tieT e) (k + 1)).iterPos w2.heap.size = k + 1 := It.pos (s := tieT e) HI1.out
              rw [this, HPP.out]
              omega
        · have hk' : k = e.length := by omega
          subst hk'
          have hnx := fun ty => hI.nd (by rw [tieT_size]) ty
          have hB' := hB
          rw [narK_all] at hB'
          have hwl := wmp_lt OE.out OD.out HW.out j HJ.out
          have hpb := hB'.lt
          have hsz := hbel.size
          have hln : (nar e (whr d j)).length = d.length := by rw [nar_length, HL.out]
          have HAO : Hid (aok e (nar e (whr d j)) = true) := by
            show _ = _
            rw [aok, OE.out, hwl.1]
            rfl
          have HAV : Hid (atV e (nar e (whr d j)) = (wmp e d j : Nat)) := hwl.2.1.symm
          have HIN : Hid (Ints wr (.slice (some ⟨P, 0, none⟩) d.length d.length) (nar e (whr d j))) := hB'.ints _ _ hln.symm (Nat.le_refl _) (by unfold big; have := HL.out; omega)
          have HBL4 : Hid (Below wo.heap.size wo wr) := hbel
          have HB4 : Hid (Blk wr w1.heap.size (lay (fun i => (wmp e d i : Int)) m j)) := HB3.out.later hbel hsr
          clear hB hB' hI hbel hwl
          go_wp2_with fail
          refine (at_to (wmp e d j : Nat) (HE.out.later (Below.after HBW.out HBL4.out)) HIN.out HAO.out HAV.out).mono ?_
          rintro r w5 ⟨rfl, hb5⟩
          have HB5 : Hid (Blk w5 w1.heap.size (lay (fun i => (wmp e d i : Int)) m j)) := HB4.out.later hb5 (by omega)
          have HBL5 : Hid (Below w1.heap.size w1 w5) := Below.after (Below.after HBL3.out HBL4.out) hb5
          have hf := HB5.out.frozen j
          obtain ⟨x, hc⟩ : ∃ x, w5.cell? ⟨w1.heap.size, j, none⟩ = some x := ⟨_, HB5.out.cell j (by rw [lay_length]; exact hlt)⟩
          clear hb5 hnx
          go_wp2
          go_roundw
          case rel =>
            refine ⟨j + 1, by omega, by go_num, ?_, HBL5.out.setCell (Nat.le_refl _) _⟩
            have := HB5.out.set j (wmp e d j : Nat)
            rw [lay_set (fun i => (wmp e d i : Int))] at this
            exact this
          case measure => simp [intOf]; omega
    · have hj' : j = m := by omega
      subst hj'
      go_wp2
      go_ret
      refine ⟨w1.heap.size, by omega, rfl, ?_, Below.after HB1.out HBL3.out⟩
      have := HB3.out
      rw [lay_all] at this
      exact this
def wiE (t : Ten) (d : List Int) : Int := if tok t then wdr t.1 d else 1
def wiR (t : Ten) (d : List Int) : Ten := if wiE t d = 0 then (d, laid (wmp t.1 d) t.2 (prd d).toNat) else ([], [])
def suE (t : Ten) (d : List Int) : Int := if tok t then wdr d t.1 else 1
def suR (t : Ten) (d : List Int) : Ten := if suE t d = 0 then (d, sums (wmp d t.1) t.2 (prd d).toNat t.2.length) else ([], [])
theorem wdr_zero {a b : List Int} (h : wdr a b = 0) : okd a = true ∧ okd b = true ∧ wid a b = true := by
  unfold wdr at h
  cases ha : okd a <;> cases hb : okd b <;> cases hw : wid a b <;> simp [ha, hb, hw] at h ⊢
theorem wider_to {v v' : Value} {a b : List Int} {w : World} (x : Int) (ha : Ints w v a) (hb : Ints w v' b) (hx : wdr a b = x) :
    Calls Try.prog 74 #[v, v'] w fun e w' => e = .returned (.int .i64 x) ∧ w = w' := by
  subst hx
  cases h : (okd a && okd b) with
  | false =>
    rw [wdr, h]
    exact wider_bad ha hb h
  | true =>
    have h' := h
    rw [Bool.and_eq_true] at h'
    rw [wdr, h]
    exact wider_ok ha hb h'.1 h'.2
set_option maxHeartbeats 1000000 in
theorem wide_bad {a0 a1 v : Value} {s : Ten} {d : List Int} {w : World} (x : Int) (ha : Tens w a0 a1 s) (hd : Ints w v d) (hx : wiE s d = x) (hx0 : x ≠ 0) :
    Calls Try.prog 60 #[.agg #[a0, a1], v] w fun e w' => e = .returned (.tuple #[.agg #[.slice none 0 0, .slice none 0 0], .int .i64 x]) ∧ Below w.heap.size w w' := by
  have hb : Below w.heap.size w ((w.alloc (.cells #[a0, a1] 70)).alloc (.cells #[.slice none 0 0, .slice none 0 0] 70)) := ((Below.refl _ _).alloc (Nat.le_refl _) _).alloc (by simp) _
  have HA : Hid (Tens ((w.alloc (.cells #[a0, a1] 70)).alloc (.cells #[.slice none 0 0, .slice none 0 0] 70)) a0 a1 s) := ha.later hb
  have HD : Hid (Ints ((w.alloc (.cells #[a0, a1] 70)).alloc (.cells #[.slice none 0 0, .slice none 0 0] 70)) v d) := hd.later hb
  have HB : Hid (Below w.heap.size w ((w.alloc (.cells #[a0, a1] 70)).alloc (.cells #[.slice none 0 0, .slice none 0 0] 70))) := hb
  have HBA : Hid (Box ((w.alloc (.cells #[a0, a1] 70)).alloc (.cells #[.slice none 0 0, .slice none 0 0] 70)) w.heap.size a0 a1) := (Box.new w a0 a1).alloc _
  have HBX : Hid (Box ((w.alloc (.cells #[a0, a1] 70)).alloc (.cells #[.slice none 0 0, .slice none 0 0] 70)) (w.heap.size + 1) (.slice none 0 0) (.slice none 0 0)) := by
    have := Box.new (w.alloc (.cells #[a0, a1] 70)) (.slice none 0 0) (.slice none 0 0)
    simp only [World.size_alloc] at this
    exact this
  cases ht : tok s with
  | false =>
    obtain rfl : x = 1 := by rw [← hx, wiE, ht]; rfl
    have HX : Hid (tkE s = 1) := by show _ = _; simp [tkE, ht]
    clear ha hd hb hx ht hx0
    go_enter Try.func60, Try.ntmps60
    go_wp2_with fail
    refine (tensor_to 1 HA.out HX.out).mono ?_
    rintro e w1 ⟨rfl, hb1⟩
    have HB1 : Hid (Below w.heap.size w w1) := Below.after HB.out hb1
    have hbx := HBX.out.later hb1
    have hx0' := hbx.c0
    have hx1 := hbx.c1
    have hf0 := hbx.f 0
    have hf1 := hbx.f 1
    have HBS : Hid (Box _ _ _ _) := hbx.set (.slice none 0 0) (.slice none 0 0)
    clear hb1 hbx
    go_wp2
    have hr0 := HBS.out.c0
    have hr1 := HBS.out.c1
    exact bodyPost_ret (v := .tuple #[.agg #[.slice none 0 0, .slice none 0 0], .int .i64 1]) (by simp [results, Try.results60, go_sem, hr0, hr1]) rfl ⟨rfl, (HB1.out.setCell (by simp) _).setCell (by simp) _⟩
  | true =>
    have HX : Hid (tkE s = 0) := by show _ = _; simp [tkE, ht]
    have HW : Hid (wdr s.1 d = x) := by show _ = _; rw [← hx, wiE, ht]; rfl
    have hne : (x != 0) = true := by simp [hx0]
    have HTA : Hid (Tens w a0 a1 s) := ha
    obtain ⟨aa, an, ac, rfl⟩ := ha.1.shape3
    obtain ⟨da, dn, dc, rfl⟩ := hd.shape3
    clear ha hd hb hx ht hx0
    go_enter Try.func60, Try.ntmps60
    go_wp2_with fail
    refine (tensor_to 0 HA.out HX.out).mono ?_
    rintro e w1 ⟨rfl, hb1⟩
    have HB1 : Hid (Below w.heap.size w w1) := Below.after HB.out hb1
    have hca0 := (HBA.out.later hb1).c0
    have hbx := HBX.out.later hb1
    have HA1 := HA.out.later hb1
    have HD1 := HD.out.later hb1
    have hx0' := hbx.c0
    have hx1 := hbx.c1
    have hf0 := hbx.f 0
    have hf1 := hbx.f 1
    have HBS : Hid (Box _ _ _ _) := hbx.set (.slice none 0 0) (.slice none 0 0)
    clear hb1 hbx
    go_wp2_with (go_at_call 74; refine (wider_to x HA1.1 HD1 HW.out).mono ?_; rintro e w' ⟨rfl, rfl⟩)
    have hr0 := HBS.out.c0
    have hr1 := HBS.out.c1
    exact bodyPost_ret (v := .tuple #[.agg #[.slice none 0 0, .slice none 0 0], .int .i64 x]) (by simp [results, Try.results60, go_sem, hr0, hr1]) rfl ⟨rfl, (HB1.out.setCell (by simp) _).setCell (by simp) _⟩
set_option maxHeartbeats 4000000 in
theorem wide_ok {a0 a1 v : Value} {s : Ten} {d : List Int} {w : World} (ha : Tens w a0 a1 s) (hd : Ints w v d) (hx : wiE s d = 0) :
    Calls Try.prog 60 #[.agg #[a0, a1], v] w fun e w' => ∃ x0 x1, e = .returned (.tuple #[.agg #[x0, x1], .int .i64 0]) ∧ OwnT w' w.heap.size x0 x1 (d, laid (wmp s.1 d) s.2 (prd d).toNat) ∧ Below w.heap.size w w' := by
  have ht : tok s = true := by
    cases h : tok s with
    | true => rfl
    | false => rw [wiE, h] at hx; simp at hx
  have hw : wdr s.1 d = 0 := by rw [wiE, ht] at hx; exact hx
  obtain ⟨o1, o2, hwd⟩ := wdr_zero hw
  obtain ⟨_, _, hin, hp⟩ := okd_parts o2
  have hp1 := prd_lo hin
  obtain ⟨n, hn⟩ : ∃ n : Nat, prd d = n := ⟨(prd d).toNat, by omega⟩
  have hn1 : 1 ≤ n := by omega
  have hn64 : n ≤ 64 := by omega
  have hnt : (prd d).toNat = n := by omega
  obtain ⟨hp2, hp3⟩ := tok_pos ht
  obtain ⟨m, hm⟩ : ∃ m : Nat, s.2.length = m := ⟨_, rfl⟩
  have HL : Hid (∀ i, i < n → wmp s.1 d i < m) := fun i hi => by
    have h1 := (wmp_lt o1 o2 hwd i (by omega)).2.2
    have h2 := tok_len ht
    omega
  have hm1 : 1 ≤ m := by omega
  have hm64 : m ≤ 64 := by omega
  have HNT : Hid ((prd d).toNat = n) := hnt
  have HT : Hid (tkE s = 0) := by show _ = _; simp [tkE, ht]
  have HW : Hid (wdr s.1 d = 0) := hw
  have O1 : Hid (okd s.1 = true) := o1
  have O2 : Hid (okd d = true) := o2
  have HWD : Hid (wid s.1 d = true) := hwd
  have hb : Below w.heap.size w ((w.alloc (.cells #[a0, a1] 70)).alloc (.cells #[.slice none 0 0, .slice none 0 0] 70)) := ((Below.refl _ _).alloc (Nat.le_refl _) _).alloc (by simp) _
  have HA : Hid (Tens ((w.alloc (.cells #[a0, a1] 70)).alloc (.cells #[.slice none 0 0, .slice none 0 0] 70)) a0 a1 s) := ha.later hb
  have HD : Hid (Ints ((w.alloc (.cells #[a0, a1] 70)).alloc (.cells #[.slice none 0 0, .slice none 0 0] 70)) v d) := hd.later hb
  have HB : Hid (Below w.heap.size w ((w.alloc (.cells #[a0, a1] 70)).alloc (.cells #[.slice none 0 0, .slice none 0 0] 70))) := hb
  have HBA : Hid (Box ((w.alloc (.cells #[a0, a1] 70)).alloc (.cells #[.slice none 0 0, .slice none 0 0] 70)) w.heap.size a0 a1) := (Box.new w a0 a1).alloc _
  have HBX : Hid (Box ((w.alloc (.cells #[a0, a1] 70)).alloc (.cells #[.slice none 0 0, .slice none 0 0] 70)) (w.heap.size + 1) (.slice none 0 0) (.slice none 0 0)) := by
    have := Box.new (w.alloc (.cells #[a0, a1] 70)) (.slice none 0 0) (.slice none 0 0)
    simp only [World.size_alloc] at this
    exact this
  rcases ha.2.cases with ⟨e, _⟩ | ⟨ab, ao, ac, ea, hab0, ha1, _, HCA⟩
  · rw [e] at hm; simp at hm; omega
  have hab : ab < w.heap.size := World.block_lt_of_cell? _ _ (HCA.out 0 hab0)
  have HCD : Hid (∀ i, i < m → w.cell? ⟨ab, ao + i, none⟩ = some (.int .i64 (s.2.getD i 0))) := fun i hi => Ints.cellD (n := 0) (c := 0) HCA i (by rw [hm]; exact hi)
  rw [hm] at ea ha1
  subst ea
  obtain ⟨aa, an, ac', rfl⟩ := ha.1.shape3
  obtain ⟨da, dn, dc, rfl⟩ := hd.shape3
  rw [hnt]
  clear ha hd hb hx ht hw o1 o2 hwd hin hp hp1 hn hnt hp2 hp3 hm hab0 HCA
  go_enter Try.func60, Try.ntmps60
  go_wp2_with fail
  refine (tensor_to 0 HA.out HT.out).mono ?_
  rintro e w1 ⟨rfl, hb1⟩
  have HB1 : Hid (Below w.heap.size w w1) := Below.after HB.out hb1
  have hs1 := hb1.size
  simp at hs1
  have HBA1 : Hid (Box w1 w.heap.size _ _) := HBA.out.later hb1
  have hca0 := HBA1.out.c0
  have HBX1 : Hid (Box w1 (w.heap.size + 1) _ _) := HBX.out.later hb1
  have HA1 : Hid (Tens w1 _ _ s) := HA.out.later hb1
  have HD1 : Hid (Ints w1 _ d) := HD.out.later hb1
  clear hb1 HA HB HBA HBX HD
  go_wp2_with (go_at_call 74; refine (wider_to 0 HA1.out.1 HD1.out HW.out).mono ?_; rintro e w' ⟨rfl, rfl⟩)
  refine (fill_own 0 HD1.out O2.out).mono ?_
  rw [HNT.out]
  rintro e w2 ⟨x0, b1, rfl, ho, hbk, ⟨hb1l, hap⟩, hb2⟩
  have hs2 := hb2.size
  obtain ⟨xa, xn, xc, rfl⟩ := ho.ints.shape3
  have hbl := hbk.lt
  have hv : Below w2.heap.size w2 (w2.alloc (.cells #[.slice xa xn xc, .slice (some ⟨b1, 0, none⟩) n n] 70)) := (Below.refl _ _).alloc (Nat.le_refl _) _
  have HB2 : Hid (Below w.heap.size w (w2.alloc (.cells #[.slice xa xn xc, .slice (some ⟨b1, 0, none⟩) n n] 70))) := Below.after (Below.after HB1.out hb2) hv
  have HBA2 : Hid (Box (w2.alloc (.cells #[.slice xa xn xc, .slice (some ⟨b1, 0, none⟩) n n] 70)) w.heap.size _ _) := (HBA1.out.later hb2).alloc _
  have HBX2 : Hid (Box (w2.alloc (.cells #[.slice xa xn xc, .slice (some ⟨b1, 0, none⟩) n n] 70)) (w.heap.size + 1) _ _) := (HBX1.out.later hb2).alloc _
  have HBT2 : Hid (Box (w2.alloc (.cells #[.slice xa xn xc, .slice (some ⟨b1, 0, none⟩) n n] 70)) w2.heap.size _ _) := Box.new _ _ _
  have HO2 : Hid (Own (w2.alloc (.cells #[.slice xa xn xc, .slice (some ⟨b1, 0, none⟩) n n] 70)) w1.heap.size (.slice xa xn xc) d) := ho.later hv
  have HK2 : Hid (Blk (w2.alloc (.cells #[.slice xa xn xc, .slice (some ⟨b1, 0, none⟩) n n] 70)) b1 (List.replicate n 0)) := hbk.alloc _
  have HA2 : Hid (Tens (w2.alloc (.cells #[.slice xa xn xc, .slice (some ⟨b1, 0, none⟩) n n] 70)) _ _ s) := (HA1.out.later hb2).later hv
  have HD2 : Hid (Ints (w2.alloc (.cells #[.slice xa xn xc, .slice (some ⟨b1, 0, none⟩) n n] 70)) _ d) := (HD1.out.later hb2).later hv
  have HAP : Hid (∀ k, (Value.slice xa xn xc).ownBlock = some k → k ≠ b1) := hap
  have hca2 := HBA2.out.c0
  clear ho hbk hap hb2 hv hca0
  go_wp2_with fail
  refine (below_ok HA2.out.1 HD2.out O1.out O2.out HWD.out).mono ?_
  rw [HNT.out]
  rintro e w3 ⟨B, hBl, rfl, hbk, hb3⟩
  simp only [World.size_alloc] at hBl
  have hs3 := hb3.size
  simp at hs3
  have hBL := hbk.lt
  have HB3 : Hid (Below w.heap.size w w3) := Below.after HB2.out hb3
  have HBA3 : Hid (Box w3 w.heap.size _ _) := HBA2.out.later hb3
  have HBX3 : Hid (Box w3 (w.heap.size + 1) _ _) := HBX2.out.later hb3
  have HBT3 : Hid (Box w3 w2.heap.size _ _) := HBT2.out.later hb3
  have HO3 : Hid (Own w3 w1.heap.size (.slice xa xn xc) d) := HO2.out.later hb3
  have HP3 : Hid (Blk w3 B ((List.range n).map fun i => (wmp s.1 d i : Int))) := hbk
  have HK3 : Hid (Blk w3 b1 (lay (fun i => s.2.getD (wmp s.1 d i) 0) n 0)) := by
    show Blk _ _ _
    rw [lay_zero]
    exact HK2.out.later hb3 (by simp; omega)
  clear hbk hb3 HB2 HBA2 HBX2 HBT2 HO2 HK2 HA2 HD2 HA1 HD1 HBA1 HBX1 hca2
  go_wp2
  go_loopw [33] (fun i w' => ∃ j : Nat, j ≤ n ∧ i = .int .i64 j ∧ Blk w' b1 (lay (fun i => s.2.getD (wmp s.1 d i) 0) n j) ∧ But b1 w3 w') (fun i _ => n - (intOf i).toNat)
  case atStart => exact ⟨0, by omega, rfl, HK3.out, But.refl _ _⟩
  case round =>
    obtain ⟨j, hj, rfl, hB, hbut⟩ := hrel
    have HBU : Hid (But b1 w3 wr) := hbut
    have HKR : Hid (Blk wr b1 (lay (fun i => s.2.getD (wmp s.1 d i) 0) n j)) := hB
    clear hB hbut
    by_cases hlt : j < n
    · have hwl := HL.out j hlt
      have hpl : wr.cell? ⟨B, j, none⟩ = some (.int .i64 (wmp s.1 d j : Nat)) := by
        rw [HBU.out.cell (by simp; omega), HP3.out.cell j (by simpa using hlt)]
        simp
      have hba := (HBU.out.box HBA3.out (by omega)).c1
      have hbt := (HBU.out.box HBT3.out (by omega)).c1
      have hy : wr.cell? ⟨ab, ao + wmp s.1 d j, none⟩ = some (.int .i64 (s.2.getD (wmp s.1 d j) 0)) := (HBU.out.cell (by simp; omega)).trans (cell_later HB3.out (HCD.out _ hwl))
      have hf := HKR.out.frozen j
      obtain ⟨x, hc⟩ : ∃ x, wr.cell? ⟨b1, j, none⟩ = some x := ⟨_, HKR.out.cell j (by rw [lay_length]; exact hlt)⟩
      have HKS : Hid (Blk (wr.setCell ⟨b1, j, none⟩ (.int .i64 (s.2.getD (wmp s.1 d j) 0))) b1 (lay (fun i => s.2.getD (wmp s.1 d i) 0) n (j + 1))) := by
        have := HKR.out.set j (s.2.getD (wmp s.1 d j) 0)
        rw [lay_set (fun i => s.2.getD (wmp s.1 d i) 0)] at this
        exact this
      have HBS : Hid (But b1 w3 (wr.setCell ⟨b1, j, none⟩ (.int .i64 (s.2.getD (wmp s.1 d j) 0)))) := HBU.out.setCell _
      go_wp2
      go_region
      go_wp2
      go_roundw
      case rel => exact ⟨j + 1, by omega, by go_num, HKS.out.drew, HBS.out.drew⟩
      case measure => simp [intOf]; omega
    · have hj' : j = n := by omega
      subst hj'
      have hbt := HBU.out.box HBT3.out (by omega)
      have t0 := hbt.c0
      have t1 := hbt.c1
      have hbx := HBU.out.box HBX3.out (by omega)
      have l0 := hbx.c0
      have l1 := hbx.c1
      have m0 := hbx.f 0
      have m1 := hbx.f 1
      have HBS : Hid (Box _ _ _ _) := hbx.set (.slice xa xn xc) (.slice (some ⟨b1, 0, none⟩) j j)
      have HO5 : Hid (Own wr w1.heap.size (.slice xa xn xc) d) := HO3.out.at fun k hk => HBU.out.block k (HAP.out k hk)
      have HK5 : Hid (Own wr w1.heap.size (.slice (some ⟨b1, 0, none⟩) j j) (laid (wmp s.1 d) s.2 j)) := by
        have h := HKR.out
        rw [lay_all] at h
        exact Blk.own (xs := laid (wmp s.1 d) s.2 j) h hb1l (laid_length _ _ _).symm (by rw [laid_length]; unfold big; omega)
      have HBE : Hid (Below w.heap.size w wr) := HBU.out.below HB3.out (by omega)
      clear hbx hbt
      go_wp2
      have hr0 := HBS.out.c0
      have hr1 := HBS.out.c1
      refine bodyPost_ret (v := .tuple #[.agg #[.slice xa xn xc, .slice (some ⟨b1, 0, none⟩) j j], .int .i64 0]) (by simp [results, Try.results60, go_sem, hr0, hr1]) rfl ⟨_, _, rfl, ?_, ?_⟩
      · have h1 : OwnT wr w1.heap.size (.slice xa xn xc) (.slice (some ⟨b1, 0, none⟩) j j) (d, laid (wmp s.1 d) s.2 j) := ⟨HO5.out, HK5.out, fun k hk e => HAP.out k hk (by simp [Value.ownBlock] at e; exact e.symm)⟩
        exact ((h1.setCell _ _ (by simp; omega)).setCell _ _ (by simp; omega)).mono (by omega)
      · exact (HBE.out.setCell (by simp) _).setCell (by simp) _
set_option maxHeartbeats 1000000 in
theorem sumd_bad {a0 a1 v : Value} {s : Ten} {d : List Int} {w : World} (x : Int) (ha : Tens w a0 a1 s) (hd : Ints w v d) (hx : suE s d = x) (hx0 : x ≠ 0) :
    Calls Try.prog 61 #[.agg #[a0, a1], v] w fun e w' => e = .returned (.tuple #[.agg #[.slice none 0 0, .slice none 0 0], .int .i64 x]) ∧ Below w.heap.size w w' := by
  have hb : Below w.heap.size w ((w.alloc (.cells #[a0, a1] 70)).alloc (.cells #[.slice none 0 0, .slice none 0 0] 70)) := ((Below.refl _ _).alloc (Nat.le_refl _) _).alloc (by simp) _
  have HA : Hid (Tens ((w.alloc (.cells #[a0, a1] 70)).alloc (.cells #[.slice none 0 0, .slice none 0 0] 70)) a0 a1 s) := ha.later hb
  have HD : Hid (Ints ((w.alloc (.cells #[a0, a1] 70)).alloc (.cells #[.slice none 0 0, .slice none 0 0] 70)) v d) := hd.later hb
  have HB : Hid (Below w.heap.size w ((w.alloc (.cells #[a0, a1] 70)).alloc (.cells #[.slice none 0 0, .slice none 0 0] 70))) := hb
  have HBA : Hid (Box ((w.alloc (.cells #[a0, a1] 70)).alloc (.cells #[.slice none 0 0, .slice none 0 0] 70)) w.heap.size a0 a1) := (Box.new w a0 a1).alloc _
  have HBX : Hid (Box ((w.alloc (.cells #[a0, a1] 70)).alloc (.cells #[.slice none 0 0, .slice none 0 0] 70)) (w.heap.size + 1) (.slice none 0 0) (.slice none 0 0)) := by
    have := Box.new (w.alloc (.cells #[a0, a1] 70)) (.slice none 0 0) (.slice none 0 0)
    simp only [World.size_alloc] at this
    exact this
  cases ht : tok s with
  | false =>
    obtain rfl : x = 1 := by rw [← hx, suE, ht]; rfl
    have HX : Hid (tkE s = 1) := by show _ = _; simp [tkE, ht]
    clear ha hd hb hx ht hx0
    go_enter Try.func61, Try.ntmps61
    go_wp2_with fail
    refine (tensor_to 1 HA.out HX.out).mono ?_
    rintro e w1 ⟨rfl, hb1⟩
    have HB1 : Hid (Below w.heap.size w w1) := Below.after HB.out hb1
    have hbx := HBX.out.later hb1
    have hx0' := hbx.c0
    have hx1 := hbx.c1
    have hf0 := hbx.f 0
    have hf1 := hbx.f 1
    have HBS : Hid (Box _ _ _ _) := hbx.set (.slice none 0 0) (.slice none 0 0)
    clear hb1 hbx
    go_wp2
    have hr0 := HBS.out.c0
    have hr1 := HBS.out.c1
    exact bodyPost_ret (v := .tuple #[.agg #[.slice none 0 0, .slice none 0 0], .int .i64 1]) (by simp [results, Try.results61, go_sem, hr0, hr1]) rfl ⟨rfl, (HB1.out.setCell (by simp) _).setCell (by simp) _⟩
  | true =>
    have HX : Hid (tkE s = 0) := by show _ = _; simp [tkE, ht]
    have HW : Hid (wdr d s.1 = x) := by show _ = _; rw [← hx, suE, ht]; rfl
    have hne : (x != 0) = true := by simp [hx0]
    have HTA : Hid (Tens w a0 a1 s) := ha
    obtain ⟨aa, an, ac, rfl⟩ := ha.1.shape3
    obtain ⟨da, dn, dc, rfl⟩ := hd.shape3
    clear ha hd hb hx ht hx0
    go_enter Try.func61, Try.ntmps61
    go_wp2_with fail
    refine (tensor_to 0 HA.out HX.out).mono ?_
    rintro e w1 ⟨rfl, hb1⟩
    have HB1 : Hid (Below w.heap.size w w1) := Below.after HB.out hb1
    have hca0 := (HBA.out.later hb1).c0
    have hbx := HBX.out.later hb1
    have HA1 := HA.out.later hb1
    have HD1 := HD.out.later hb1
    have hx0' := hbx.c0
    have hx1 := hbx.c1
    have hf0 := hbx.f 0
    have hf1 := hbx.f 1
    have HBS : Hid (Box _ _ _ _) := hbx.set (.slice none 0 0) (.slice none 0 0)
    clear hb1 hbx
    go_wp2_with (go_at_call 74; refine (wider_to x HD1 HA1.1 HW.out).mono ?_; rintro e w' ⟨rfl, rfl⟩)
    have hr0 := HBS.out.c0
    have hr1 := HBS.out.c1
    exact bodyPost_ret (v := .tuple #[.agg #[.slice none 0 0, .slice none 0 0], .int .i64 x]) (by simp [results, Try.results61, go_sem, hr0, hr1]) rfl ⟨rfl, (HB1.out.setCell (by simp) _).setCell (by simp) _⟩
set_option maxHeartbeats 4000000 in
theorem sumd_ok {a0 a1 v : Value} {s : Ten} {d : List Int} {w : World} (ha : Tens w a0 a1 s) (hd : Ints w v d) (hx : suE s d = 0) :
    Calls Try.prog 61 #[.agg #[a0, a1], v] w fun e w' => ∃ x0 x1, e = .returned (.tuple #[.agg #[x0, x1], .int .i64 0]) ∧ OwnT w' w.heap.size x0 x1 (d, sums (wmp d s.1) s.2 (prd d).toNat s.2.length) ∧ Below w.heap.size w w' := by
  have ht : tok s = true := by
    cases h : tok s with
    | true => rfl
    | false => rw [suE, h] at hx; simp at hx
  have hw : wdr d s.1 = 0 := by rw [suE, ht] at hx; exact hx
  obtain ⟨o2, o1, hwd⟩ := wdr_zero hw
  obtain ⟨_, _, hin, hp⟩ := okd_parts o2
  have hp1 := prd_lo hin
  obtain ⟨n, hn⟩ : ∃ n : Nat, prd d = n := ⟨(prd d).toNat, by omega⟩
  have hn1 : 1 ≤ n := by omega
  have hn64 : n ≤ 64 := by omega
  have hnt : (prd d).toNat = n := by omega
  obtain ⟨hp2, hp3⟩ := tok_pos ht
  obtain ⟨m, hm⟩ : ∃ m : Nat, s.2.length = m := ⟨_, rfl⟩
  have HL : Hid (∀ i, i < m → wmp d s.1 i < n) := fun i hi => by
    have h2 := tok_len ht
    have h1 := (wmp_lt o2 o1 hwd i (by omega)).2.2
    omega
  have hm1 : 1 ≤ m := by omega
  have hm64 : m ≤ 64 := by omega
  have HNT : Hid ((prd d).toNat = n) := hnt
  have HMT : Hid ((prd s.1).toNat = m) := by
    show _ = _
    have h2 := tok_len ht
    omega
  have HT : Hid (tkE s = 0) := by show _ = _; simp [tkE, ht]
  have HW : Hid (wdr d s.1 = 0) := hw
  have O1 : Hid (okd s.1 = true) := o1
  have O2 : Hid (okd d = true) := o2
  have HWD : Hid (wid d s.1 = true) := hwd
  have hb : Below w.heap.size w ((w.alloc (.cells #[a0, a1] 70)).alloc (.cells #[.slice none 0 0, .slice none 0 0] 70)) := ((Below.refl _ _).alloc (Nat.le_refl _) _).alloc (by simp) _
  have HA : Hid (Tens ((w.alloc (.cells #[a0, a1] 70)).alloc (.cells #[.slice none 0 0, .slice none 0 0] 70)) a0 a1 s) := ha.later hb
  have HD : Hid (Ints ((w.alloc (.cells #[a0, a1] 70)).alloc (.cells #[.slice none 0 0, .slice none 0 0] 70)) v d) := hd.later hb
  have HB : Hid (Below w.heap.size w ((w.alloc (.cells #[a0, a1] 70)).alloc (.cells #[.slice none 0 0, .slice none 0 0] 70))) := hb
  have HBA : Hid (Box ((w.alloc (.cells #[a0, a1] 70)).alloc (.cells #[.slice none 0 0, .slice none 0 0] 70)) w.heap.size a0 a1) := (Box.new w a0 a1).alloc _
  have HBX : Hid (Box ((w.alloc (.cells #[a0, a1] 70)).alloc (.cells #[.slice none 0 0, .slice none 0 0] 70)) (w.heap.size + 1) (.slice none 0 0) (.slice none 0 0)) := by
    have := Box.new (w.alloc (.cells #[a0, a1] 70)) (.slice none 0 0) (.slice none 0 0)
    simp only [World.size_alloc] at this
    exact this
  rcases ha.2.cases with ⟨e, _⟩ | ⟨ab, ao, ac, ea, hab0, ha1, _, HCA⟩
  · rw [e] at hm; simp at hm; omega
  have hab : ab < w.heap.size := World.block_lt_of_cell? _ _ (HCA.out 0 hab0)
  have HCD : Hid (∀ i, i < m → w.cell? ⟨ab, ao + i, none⟩ = some (.int .i64 (s.2.getD i 0))) := fun i hi => Ints.cellD (n := 0) (c := 0) HCA i (by rw [hm]; exact hi)
  rw [hm] at ea ha1
  subst ea
  obtain ⟨aa, an, ac', rfl⟩ := ha.1.shape3
  obtain ⟨da, dn, dc, rfl⟩ := hd.shape3
  rw [hnt, hm]
  clear ha hd hb hx ht hw o1 o2 hwd hin hp hp1 hn hnt hp2 hp3 hm hab0 HCA
  go_enter Try.func61, Try.ntmps61
  go_wp2_with fail
  refine (tensor_to 0 HA.out HT.out).mono ?_
  rintro e w1 ⟨rfl, hb1⟩
  have HB1 : Hid (Below w.heap.size w w1) := Below.after HB.out hb1
  have hs1 := hb1.size
  simp at hs1
  have HBA1 : Hid (Box w1 w.heap.size _ _) := HBA.out.later hb1
  have hca0 := HBA1.out.c0
  have HBX1 : Hid (Box w1 (w.heap.size + 1) _ _) := HBX.out.later hb1
  have HA1 : Hid (Tens w1 _ _ s) := HA.out.later hb1
  have HD1 : Hid (Ints w1 _ d) := HD.out.later hb1
  clear hb1 HA HB HBA HBX HD
  go_wp2_with (go_at_call 74; refine (wider_to 0 HD1.out HA1.out.1 HW.out).mono ?_; rintro e w' ⟨rfl, rfl⟩)
  refine (fill_own 0 HD1.out O2.out).mono ?_
  rw [HNT.out]
  rintro e w2 ⟨x0, b1, rfl, ho, hbk, ⟨hb1l, hap⟩, hb2⟩
  have hs2 := hb2.size
  obtain ⟨xa, xn, xc, rfl⟩ := ho.ints.shape3
  have hbl := hbk.lt
  have hv : Below w2.heap.size w2 (w2.alloc (.cells #[.slice xa xn xc, .slice (some ⟨b1, 0, none⟩) n n] 70)) := (Below.refl _ _).alloc (Nat.le_refl _) _
  have HB2 : Hid (Below w.heap.size w (w2.alloc (.cells #[.slice xa xn xc, .slice (some ⟨b1, 0, none⟩) n n] 70))) := Below.after (Below.after HB1.out hb2) hv
  have HBA2 : Hid (Box (w2.alloc (.cells #[.slice xa xn xc, .slice (some ⟨b1, 0, none⟩) n n] 70)) w.heap.size _ _) := (HBA1.out.later hb2).alloc _
  have HBX2 : Hid (Box (w2.alloc (.cells #[.slice xa xn xc, .slice (some ⟨b1, 0, none⟩) n n] 70)) (w.heap.size + 1) _ _) := (HBX1.out.later hb2).alloc _
  have HBT2 : Hid (Box (w2.alloc (.cells #[.slice xa xn xc, .slice (some ⟨b1, 0, none⟩) n n] 70)) w2.heap.size _ _) := Box.new _ _ _
  have HO2 : Hid (Own (w2.alloc (.cells #[.slice xa xn xc, .slice (some ⟨b1, 0, none⟩) n n] 70)) w1.heap.size (.slice xa xn xc) d) := ho.later hv
  have HK2 : Hid (Blk (w2.alloc (.cells #[.slice xa xn xc, .slice (some ⟨b1, 0, none⟩) n n] 70)) b1 (List.replicate n 0)) := hbk.alloc _
  have HA2 : Hid (Tens (w2.alloc (.cells #[.slice xa xn xc, .slice (some ⟨b1, 0, none⟩) n n] 70)) _ _ s) := (HA1.out.later hb2).later hv
  have HD2 : Hid (Ints (w2.alloc (.cells #[.slice xa xn xc, .slice (some ⟨b1, 0, none⟩) n n] 70)) _ d) := (HD1.out.later hb2).later hv
  have HAP : Hid (∀ k, (Value.slice xa xn xc).ownBlock = some k → k ≠ b1) := hap
  have hca2 := HBA2.out.c0
  clear ho hbk hap hb2 hv hca0
  go_wp2_with fail
  refine (below_ok HD2.out HA2.out.1 O2.out O1.out HWD.out).mono ?_
  rw [HMT.out]
  rintro e w3 ⟨B, hBl, rfl, hbk, hb3⟩
  simp only [World.size_alloc] at hBl
  have hs3 := hb3.size
  simp at hs3
  have hBL := hbk.lt
  have HB3 : Hid (Below w.heap.size w w3) := Below.after HB2.out hb3
  have HBA3 : Hid (Box w3 w.heap.size _ _) := HBA2.out.later hb3
  have HBX3 : Hid (Box w3 (w.heap.size + 1) _ _) := HBX2.out.later hb3
  have HBT3 : Hid (Box w3 w2.heap.size _ _) := HBT2.out.later hb3
  have HO3 : Hid (Own w3 w1.heap.size (.slice xa xn xc) d) := HO2.out.later hb3
  have HP3 : Hid (Blk w3 B ((List.range m).map fun i => (wmp d s.1 i : Int))) := hbk
  have HK3 : Hid (Blk w3 b1 (sums (wmp d s.1) s.2 n 0)) := by
    show Blk _ _ _
    rw [sums_zero]
    exact HK2.out.later hb3 (by simp; omega)
  clear hbk hb3 HB2 HBA2 HBX2 HBT2 HO2 HK2 HA2 HD2 HA1 HD1 HBA1 HBX1 hca2
  go_wp2
  go_loopw [33] (fun i w' => ∃ j : Nat, j ≤ m ∧ i = .int .i64 j ∧ Blk w' b1 (sums (wmp d s.1) s.2 n j) ∧ But b1 w3 w') (fun i _ => m - (intOf i).toNat)
  case atStart => exact ⟨0, by omega, rfl, HK3.out, But.refl _ _⟩
  case round =>
    obtain ⟨j, hj, rfl, hB, hbut⟩ := hrel
    have HBU : Hid (But b1 w3 wr) := hbut
    have HKR : Hid (Blk wr b1 (sums (wmp d s.1) s.2 n j)) := hB
    clear hB hbut
    by_cases hlt : j < m
    · have hwl := HL.out j hlt
      obtain ⟨q, hq⟩ : ∃ q, wmp d s.1 j = q := ⟨_, rfl⟩
      rw [hq] at hwl
      have hpl : wr.cell? ⟨B, j, none⟩ = some (.int .i64 (q : Nat)) := by
        rw [HBU.out.cell (by simp; omega), HP3.out.cell j (by simpa using hlt)]
        simp [hq]
      have hba := (HBU.out.box HBA3.out (by omega)).c1
      have hbt := (HBU.out.box HBT3.out (by omega)).c1
      have hy : wr.cell? ⟨ab, ao + j, none⟩ = some (.int .i64 (s.2.getD j 0)) := (HBU.out.cell (by simp; omega)).trans (cell_later HB3.out (HCD.out _ hlt))
      have hf := HKR.out.frozen q
      have hc : wr.cell? ⟨b1, q, none⟩ = some (.int .i64 ((sums (wmp d s.1) s.2 n j).getD q 0)) := by
        rw [HKR.out.cell q (by rw [sums_length]; exact hwl)]
        simp [sums_length, hwl]
      have HKS : Hid (Blk (wr.setCell ⟨b1, q, none⟩ (.int .i64 (wrap64 ((sums (wmp d s.1) s.2 n j).getD q 0 + s.2.getD j 0)))) b1 (sums (wmp d s.1) s.2 n (j + 1))) := by
        have := HKR.out.set q (wrap64 ((sums (wmp d s.1) s.2 n j).getD q 0 + s.2.getD j 0))
        rw [← hq, sums_set (wmp d s.1) s.2 n j (by rw [hq]; exact hwl), hq] at this
        exact this
      have HBS : Hid (But b1 w3 (wr.setCell ⟨b1, q, none⟩ (.int .i64 (wrap64 ((sums (wmp d s.1) s.2 n j).getD q 0 + s.2.getD j 0))))) := HBU.out.setCell _
      clear hq
      go_wp2
      go_region
      go_wp2
      go_roundw
      case rel => exact ⟨j + 1, by omega, by go_num, HKS.out.drew, HBS.out.drew⟩
      case measure => simp [intOf]; omega
    · have hj' : j = m := by omega
      subst hj'
      have hbt := HBU.out.box HBT3.out (by omega)
      have t0 := hbt.c0
      have t1 := hbt.c1
      have hbx := HBU.out.box HBX3.out (by omega)
      have l0 := hbx.c0
      have l1 := hbx.c1
      have m0 := hbx.f 0
      have m1 := hbx.f 1
      have HBS : Hid (Box _ _ _ _) := hbx.set (.slice xa xn xc) (.slice (some ⟨b1, 0, none⟩) n n)
      have HO5 : Hid (Own wr w1.heap.size (.slice xa xn xc) d) := HO3.out.at fun k hk => HBU.out.block k (HAP.out k hk)
      have HK5 : Hid (Own wr w1.heap.size (.slice (some ⟨b1, 0, none⟩) n n) (sums (wmp d s.1) s.2 n j)) := by
        have h := HKR.out
        exact Blk.own (xs := sums (wmp d s.1) s.2 n j) h hb1l (sums_length _ _ _ _).symm (by rw [sums_length]; unfold big; omega)
      have HBE : Hid (Below w.heap.size w wr) := HBU.out.below HB3.out (by omega)
      clear hbx hbt
      go_wp2
      have hr0 := HBS.out.c0
      have hr1 := HBS.out.c1
      refine bodyPost_ret (v := .tuple #[.agg #[.slice xa xn xc, .slice (some ⟨b1, 0, none⟩) n n], .int .i64 0]) (by simp [results, Try.results61, go_sem, hr0, hr1]) rfl ⟨_, _, rfl, ?_, ?_⟩
      · have h1 : OwnT wr w1.heap.size (.slice xa xn xc) (.slice (some ⟨b1, 0, none⟩) n n) (d, sums (wmp d s.1) s.2 n j) := ⟨HO5.out, HK5.out, fun k hk e => HAP.out k hk (by simp [Value.ownBlock] at e; exact e.symm)⟩
        exact ((h1.setCell _ _ (by simp; omega)).setCell _ _ (by simp; omega)).mono (by omega)
      · exact (HBE.out.setCell (by simp) _).setCell (by simp) _
theorem wide_any {a0 a1 v : Value} {s : Ten} {d : List Int} {w : World} (ha : Tens w a0 a1 s) (hd : Ints w v d) :
    Calls Try.prog 60 #[.agg #[a0, a1], v] w fun e w' => ∃ x0 x1, e = .returned (.tuple #[.agg #[x0, x1], .int .i64 (wiE s d)]) ∧ OwnT w' w.heap.size x0 x1 (wiR s d) ∧ Below w.heap.size w w' := by
  by_cases h : wiE s d = 0
  · rw [wiR, if_pos h, h]
    exact wide_ok ha hd h
  · rw [wiR, if_neg h]
    refine (wide_bad _ ha hd rfl h).mono ?_
    rintro e w' ⟨rfl, hb⟩
    exact ⟨_, _, rfl, OwnT.nil _ _, hb⟩
theorem sumd_any {a0 a1 v : Value} {s : Ten} {d : List Int} {w : World} (ha : Tens w a0 a1 s) (hd : Ints w v d) :
    Calls Try.prog 61 #[.agg #[a0, a1], v] w fun e w' => ∃ x0 x1, e = .returned (.tuple #[.agg #[x0, x1], .int .i64 (suE s d)]) ∧ OwnT w' w.heap.size x0 x1 (suR s d) ∧ Below w.heap.size w w' := by
  by_cases h : suE s d = 0
  · rw [suR, if_pos h, h]
    exact sumd_ok ha hd h
  · rw [suR, if_neg h]
    refine (sumd_bad _ ha hd rfl h).mono ?_
    rintro e w' ⟨rfl, hb⟩
    exact ⟨_, _, rfl, OwnT.nil _ _, hb⟩
def shE (t : Ten) (d : List Int) : Int := if okd d && tok t then (if (t.2.length : Int) = prd d then 0 else 4) else 1
def shR (t : Ten) (d : List Int) : Ten := if shE t d = 0 then (d, t.2) else ([], [])
theorem size3 : (Try.prog.info? 3).map (·.size) = some 1 := by kernel_rfl
set_option maxRecDepth 100000 in
set_option maxHeartbeats 2000000 in
theorem shape_bad1 {a0 a1 v : Value} {s : Ten} {d : List Int} {w : World} (ha : Tens w a0 a1 s) (hd : Ints w v d) (hx : (okd d && tok s) = false) :
    Calls Try.prog 59 #[.agg #[a0, a1], v] w fun e w' => e = .returned (.tuple #[.agg #[.slice none 0 0, .slice none 0 0], .int .i64 1]) ∧ Below w.heap.size w w' := by
  have hb : Below w.heap.size w ((w.alloc (.cells #[a0, a1] 70)).alloc (.cells #[.slice none 0 0, .slice none 0 0] 70)) := ((Below.refl _ _).alloc (Nat.le_refl _) _).alloc (by simp) _
  have HA : Hid (Tens ((w.alloc (.cells #[a0, a1] 70)).alloc (.cells #[.slice none 0 0, .slice none 0 0] 70)) a0 a1 s) := ha.later hb
  have HD : Hid (Ints ((w.alloc (.cells #[a0, a1] 70)).alloc (.cells #[.slice none 0 0, .slice none 0 0] 70)) v d) := hd.later hb
  have HB : Hid (Below w.heap.size w ((w.alloc (.cells #[a0, a1] 70)).alloc (.cells #[.slice none 0 0, .slice none 0 0] 70))) := hb
  have HBA : Hid (Box ((w.alloc (.cells #[a0, a1] 70)).alloc (.cells #[.slice none 0 0, .slice none 0 0] 70)) w.heap.size a0 a1) := (Box.new w a0 a1).alloc _
  have HBX : Hid (Box ((w.alloc (.cells #[a0, a1] 70)).alloc (.cells #[.slice none 0 0, .slice none 0 0] 70)) (w.heap.size + 1) (.slice none 0 0) (.slice none 0 0)) := by
    have := Box.new (w.alloc (.cells #[a0, a1] 70)) (.slice none 0 0) (.slice none 0 0)
    simp only [World.size_alloc] at this
    exact this
  obtain ⟨aa, an, ac, rfl⟩ := ha.1.shape3
  obtain ⟨ba, bn, bc, rfl⟩ := ha.2.shape3
  have HX : Hid ((okd d && tok s) = false) := hx
  clear ha hd hb hx
  go_enter Try.func59, Try.ntmps59
  go_wp2_with fail
  refine wp_scope_jumps 0 (Jg 35 4 (w.heap.size + 1) w) (fun _ _ => 0) rfl ?_ ?_
  · cases ho : okd d with
    | false =>
      go_wp2_with fail
      refine (fill_bad 0 HD.out ho).mono ?_
      rintro e w1 ⟨rfl, hb1⟩
      have HB1 : Hid (Below w.heap.size w (w1.alloc (.cells #[.slice none 0 0, .slice none 0 0] 70))) := Below.push (Below.after HB.out hb1) _
      have HBX1 : Hid (Box (w1.alloc (.cells #[.slice none 0 0, .slice none 0 0] 70)) (w.heap.size + 1) (.slice none 0 0) (.slice none 0 0)) := (HBX.out.later hb1).alloc _
      clear hb1 ho
      go_wp2
      go_step3
      exact ⟨rfl, rfl, rfl, rfl, HBX1.out, HB1.out⟩
    | true =>
      have ht : tkE s = 1 := by
        have := HX.out
        rw [ho] at this
        simp at this
        simp [tkE, this]
      have HT : Hid (tkE s = 1) := ht
      go_wp2_with fail
      refine (fill_own 0 HD.out ho).mono ?_
      rintro e w1 ⟨x0, b1, rfl, hox, hbk, _, hb1⟩
      obtain ⟨xa, xn, xc, rfl⟩ := hox.ints.shape3
      obtain ⟨nn, hnn⟩ : ∃ n, (prd d).toNat = n := ⟨_, rfl⟩
      rw [hnn]
      have hv : Below w1.heap.size w1 (w1.alloc (.cells #[.slice xa xn xc, .slice (some ⟨b1, 0, none⟩) nn nn] 70)) := (Below.refl _ _).alloc (Nat.le_refl _) _
      have HB1 : Hid (Below w.heap.size w (w1.alloc (.cells #[.slice xa xn xc, .slice (some ⟨b1, 0, none⟩) nn nn] 70))) := Below.after (Below.after HB.out hb1) hv
      have HBX1 : Hid (Box (w1.alloc (.cells #[.slice xa xn xc, .slice (some ⟨b1, 0, none⟩) nn nn] 70)) (w.heap.size + 1) (.slice none 0 0) (.slice none 0 0)) := (HBX.out.later hb1).alloc _
      have hba := (HBA.out.later hb1).alloc (.cells #[.slice xa xn xc, .slice (some ⟨b1, 0, none⟩) nn nn] 70)
      have hc0 := hba.c0
      have hc1 := hba.c1
      have HA1 : Hid (Tens (w1.alloc (.cells #[.slice xa xn xc, .slice (some ⟨b1, 0, none⟩) nn nn] 70)) _ _ s) := (HA.out.later hb1).later hv
      clear hb1 ho ht hv hba hbk hox hnn
      go_wp2_with fail
      refine (tensor_to 1 HA1.out HT.out).mono ?_
      rintro e w2 ⟨rfl, hb2⟩
      have HB2 : Hid (Below w.heap.size w w2) := Below.after HB1.out hb2
      have HBX2 : Hid (Box w2 (w.heap.size + 1) (.slice none 0 0) (.slice none 0 0)) := HBX1.out.later hb2
      clear hb2
      go_wp2
      go_step3
      exact ⟨rfl, rfl, rfl, rfl, HBX2.out, HB2.out⟩
  · rintro a w' ⟨hd, hs, h4, hbx, hbe⟩
    obtain ⟨G, hg, e⟩ := act35 a hd hs
    rw [hg] at h4
    subst e
    rw [h4]
    have l0 := hbx.c0
    have l1 := hbx.c1
    have m0 := hbx.f 0
    have m1 := hbx.f 1
    have HBS : Hid (Box _ _ _ _) := hbx.set (.slice none 0 0) (.slice none 0 0)
    have HBE : Hid (Below w.heap.size w w') := hbe
    clear hg hd hs hbx h4 hbe
    go_wp2
    rw [jump_ret]
    have hr0 := HBS.out.c0
    have hr1 := HBS.out.c1
    exact bodyPost_ret (v := .tuple #[.agg #[.slice none 0 0, .slice none 0 0], .int .i64 1]) (by simp [results, Try.results59, go_sem, hr0, hr1]) rfl ⟨rfl, (HBE.out.setCell (by simp) _).setCell (by simp) _⟩
set_option maxRecDepth 100000 in
set_option maxHeartbeats 2000000 in
theorem shape_go {a0 a1 v : Value} {s : Ten} {d : List Int} {w : World} (ha : Tens w a0 a1 s) (hd : Ints w v d) (od : okd d = true) (ht : tok s = true) :
    Calls Try.prog 59 #[.agg #[a0, a1], v] w fun e w' => ∃ x0 x1, e = .returned (.tuple #[.agg #[x0, x1], .int .i64 (shE s d)]) ∧ OwnT w' w.heap.size x0 x1 (shR s d) ∧ Below w.heap.size w w' := by
  have hb : Below w.heap.size w ((w.alloc (.cells #[a0, a1] 70)).alloc (.cells #[.slice none 0 0, .slice none 0 0] 70)) := ((Below.refl _ _).alloc (Nat.le_refl _) _).alloc (by simp) _
  have HA : Hid (Tens ((w.alloc (.cells #[a0, a1] 70)).alloc (.cells #[.slice none 0 0, .slice none 0 0] 70)) a0 a1 s) := ha.later hb
  have HD : Hid (Ints ((w.alloc (.cells #[a0, a1] 70)).alloc (.cells #[.slice none 0 0, .slice none 0 0] 70)) v d) := hd.later hb
  have HB : Hid (Below w.heap.size w ((w.alloc (.cells #[a0, a1] 70)).alloc (.cells #[.slice none 0 0, .slice none 0 0] 70))) := hb
  have HBA : Hid (Box ((w.alloc (.cells #[a0, a1] 70)).alloc (.cells #[.slice none 0 0, .slice none 0 0] 70)) w.heap.size a0 a1) := (Box.new w a0 a1).alloc _
  have HBX : Hid (Box ((w.alloc (.cells #[a0, a1] 70)).alloc (.cells #[.slice none 0 0, .slice none 0 0] 70)) (w.heap.size + 1) (.slice none 0 0) (.slice none 0 0)) := by
    have := Box.new (w.alloc (.cells #[a0, a1] 70)) (.slice none 0 0) (.slice none 0 0)
    simp only [World.size_alloc] at this
    exact this
  obtain ⟨_, _, hin, hp⟩ := okd_parts od
  have hp1 := prd_lo hin
  obtain ⟨n, hn⟩ : ∃ n : Nat, prd d = n := ⟨(prd d).toNat, by omega⟩
  have hn1 : 1 ≤ n := by omega
  have hn64 : n ≤ 64 := by omega
  have HNT : Hid ((prd d).toNat = n) := by show _ = _; omega
  obtain ⟨hp2, hp3⟩ := tok_pos ht
  obtain ⟨m, hm⟩ : ∃ m : Nat, s.2.length = m := ⟨_, rfl⟩
  have hm1 : 1 ≤ m := by omega
  have hm64 : m ≤ 64 := by omega
  have HT : Hid (tkE s = 0) := by show _ = _; simp [tkE, ht]
  have OD : Hid (okd d = true) := od
  have HSE : Hid (shE s d = if (m : Int) = n then 0 else 4) := by show _ = _; rw [shE, od, ht, hm, hn]; rfl
  rcases ha.2.cases with ⟨e, _⟩ | ⟨ab, ao, ac, ea, hab0, ha1, _, HCA⟩
  · rw [e] at hm; simp at hm; omega
  have hab : ab < w.heap.size := World.block_lt_of_cell? _ _ (HCA.out 0 hab0)
  have HML : Hid (s.2.length = m) := hm
  rw [hm] at ea ha1
  subst ea
  obtain ⟨aa, an, ac', rfl⟩ := ha.1.shape3
  obtain ⟨da, dn, dc, rfl⟩ := hd.shape3
  clear ha hd hb ht od hin hp hp1 hn hp2 hp3 hm hab0
  go_enter Try.func59, Try.ntmps59
  go_wp2_with fail
  refine wp_scope_jumps 1 (fun a w' => Jg 35 4 (w.heap.size + 1) w a w' ∧ (m : Int) ≠ n) (fun _ _ => 0) rfl ?_ ?_
  · go_wp2_with fail
    refine (fill_own 0 HD.out OD.out).mono ?_
    rw [HNT.out]
    rintro e w1 ⟨x0, b1, rfl, ho, hbk, ⟨hb1l, hap⟩, hb1⟩
    simp only [World.size_alloc] at hb1l ho
    have hs1 := hb1.size
    simp at hs1
    have hbl := hbk.lt
    obtain ⟨xa, xn, xc, rfl⟩ := ho.ints.shape3
    have hv : Below w1.heap.size w1 (w1.alloc (.cells #[.slice xa xn xc, .slice (some ⟨b1, 0, none⟩) n n] 70)) := (Below.refl _ _).alloc (Nat.le_refl _) _
    have HB1 : Hid (Below w.heap.size w (w1.alloc (.cells #[.slice xa xn xc, .slice (some ⟨b1, 0, none⟩) n n] 70))) := Below.after (Below.after HB.out hb1) hv
    have HBX1 : Hid (Box (w1.alloc (.cells #[.slice xa xn xc, .slice (some ⟨b1, 0, none⟩) n n] 70)) (w.heap.size + 1) (.slice none 0 0) (.slice none 0 0)) := (HBX.out.later hb1).alloc _
    have HBA1 : Hid (Box (w1.alloc (.cells #[.slice xa xn xc, .slice (some ⟨b1, 0, none⟩) n n] 70)) w.heap.size _ _) := (HBA.out.later hb1).alloc _
    have HBT1 : Hid (Box (w1.alloc (.cells #[.slice xa xn xc, .slice (some ⟨b1, 0, none⟩) n n] 70)) w1.heap.size _ _) := Box.new _ _ _
    have hc0 := HBA1.out.c0
    have hc1 := HBA1.out.c1
    have HA1 : Hid (Tens (w1.alloc (.cells #[.slice xa xn xc, .slice (some ⟨b1, 0, none⟩) n n] 70)) _ _ s) := (HA.out.later hb1).later hv
    have HO1 : Hid (Own (w1.alloc (.cells #[.slice xa xn xc, .slice (some ⟨b1, 0, none⟩) n n] 70)) (w.heap.size + 1 + 1) (.slice xa xn xc) d) := ho.later hv
    have HK1 : Hid (Blk (w1.alloc (.cells #[.slice xa xn xc, .slice (some ⟨b1, 0, none⟩) n n] 70)) b1 (List.replicate n 0)) := hbk.alloc _
    have HAP : Hid (∀ k, (Value.slice xa xn xc).ownBlock = some k → k ≠ b1) := hap
    clear ho hbk hap hb1 hv
    go_wp2_with fail
    refine (tensor_to 0 HA1.out HT.out).mono ?_
    rintro e w2 ⟨rfl, hb2⟩
    have hs2 := hb2.size
    simp at hs2
    have HB2 : Hid (Below w.heap.size w w2) := Below.after HB1.out hb2
    have HBX2 : Hid (Box w2 (w.heap.size + 1) (.slice none 0 0) (.slice none 0 0)) := HBX1.out.later hb2
    have HBT2 : Hid (Box w2 w1.heap.size _ _) := HBT1.out.later hb2
    have e1 := (HBA1.out.later hb2).c1
    have t1 := HBT2.out.c1
    have HO2 : Hid (Own w2 (w.heap.size + 1 + 1) (.slice xa xn xc) d) := HO1.out.later hb2
    have HK2 : Hid (Blk w2 b1 (List.replicate n 0)) := HK1.out.later hb2 (by simp; omega)
    have HCC : Hid (∀ i (h : i < s.2.length), w2.cell? ⟨ab, ao + i, none⟩ = some (.int .i64 s.2[i])) := fun i h => cell_later HB2.out (HCA.out i h)
    clear hb2 hc0 hc1 HB1 HBX1 HBA1 HBT1 HO1 HK1
    by_cases hmn : m = n
    · subst hmn
      have HS0 : Hid (shE s d = 0) := by show _ = _; rw [HSE.out, if_pos rfl]
      clear HSE
      have hne : ((m : Int) != (m : Int)) = false := by simp
      have hR : ((ia (List.replicate m 0)).toList.take 0 ++ s.2.map (Value.int .i64) ++ (ia (List.replicate m 0)).toList.drop (0 + (s.2.map (Value.int .i64)).length)).toArray = ia s.2 := by
        have : (ia (List.replicate m 0)).toList.drop (0 + (s.2.map (Value.int .i64)).length) = [] := by
          apply List.drop_eq_nil_of_le
          rw [List.length_map, HML.out, Nat.zero_add, Array.length_toList, ia_size, List.length_replicate]
          exact Nat.le_refl _
        rw [this]
        simp [ia]
      have hrun := run_copy_row (P := Try.prog) w2 23 23 3 3 b1 0 m m ⟨ab, ao, none⟩ m ac (ia (List.replicate m 0)) 3 (s.2.map (Value.int .i64)) Try.underlying23 size3 HK2.out (by rw [List.length_map, HML.out]; simp) (news_cells HCC) (by rw [List.length_map, HML.out, ia_size, List.length_replicate, Nat.zero_add]; exact Nat.le_refl _) (ints_one s.2)
      rw [hR, List.length_map, HML.out] at hrun
      clear hR
      have HKS : Hid (Blk (w2.setRow b1 (ia s.2)) b1 s.2) := setRow_heap w2 b1 _ _ 3 _ HK2.out
      have HBU : Hid (But b1 w2 (w2.setRow b1 (ia s.2))) := ⟨rfl, rfl, rfl, by simp [World.setRow], fun k hk => setRow_other w2 b1 k _ hk⟩
      generalize w2.setRow b1 (ia s.2) = V at HKS HBU hrun ⊢
      have hbt := HBU.out.box HBT2.out (by omega)
      have u0 := hbt.c0
      have u1 := hbt.c1
      have hbx := HBU.out.box HBX2.out (by omega)
      have l0 := hbx.c0
      have l1 := hbx.c1
      have m0 := hbx.f 0
      have m1 := hbx.f 1
      have HBS : Hid (Box _ _ _ _) := hbx.set (.slice xa xn xc) (.slice (some ⟨b1, 0, none⟩) m m)
      have HO5 : Hid (Own V (w.heap.size + 1 + 1) (.slice xa xn xc) d) := HO2.out.at fun k hk => HBU.out.block k (HAP.out k hk)
      have HK5 : Hid (Own V (w.heap.size + 1 + 1) (.slice (some ⟨b1, 0, none⟩) m m) s.2) := Blk.own HKS.out hb1l HML.out.symm (by rw [HML.out]; unfold big; omega)
      have HBE : Hid (Below w.heap.size w V) := HBU.out.below HB2.out (by omega)
      clear hbx hbt
      go_wp2
      rw [jump_ret]
      have hr0 := HBS.out.c0
      have hr1 := HBS.out.c1
      refine bodyPost_ret (v := .tuple #[.agg #[.slice xa xn xc, .slice (some ⟨b1, 0, none⟩) m m], .int .i64 0]) (by simp [results, Try.results59, go_sem, hr0, hr1]) rfl ⟨.slice xa xn xc, .slice (some ⟨b1, 0, none⟩) m m, ?_, ?_, ?_⟩
      · rw [HS0.out]
      · rw [shR, HS0.out, if_pos rfl]
        have h1 : OwnT V (w.heap.size + 1 + 1) (.slice xa xn xc) (.slice (some ⟨b1, 0, none⟩) m m) (d, s.2) := ⟨HO5.out, HK5.out, fun k hk e => HAP.out k hk (by simp [Value.ownBlock] at e; exact e.symm)⟩
        exact ((h1.setCell _ _ (by simp)).setCell _ _ (by simp)).mono (by omega)
      · exact (HBE.out.setCell (by simp) _).setCell (by simp) _
    · have hne : ((n : Int) != (m : Int)) = true := by simp; omega
      go_wp2
      go_step3
      exact ⟨rfl, ⟨rfl, rfl, rfl, HBX2.out, HB2.out⟩, by omega⟩
  · rintro a w' ⟨⟨hd, hs, h4, hbx, hbe⟩, hmn⟩
    have HMN : Hid ((m : Int) ≠ n) := hmn
    obtain ⟨G, hg, e⟩ := act35 a hd hs
    rw [hg] at h4
    subst e
    rw [h4]
    have l0 := hbx.c0
    have l1 := hbx.c1
    have m0 := hbx.f 0
    have m1 := hbx.f 1
    have HBS : Hid (Box _ _ _ _) := hbx.set (.slice none 0 0) (.slice none 0 0)
    have HBE : Hid (Below w.heap.size w w') := hbe
    clear hg hd hs hbx h4 hbe hmn
    go_wp2
    rw [jump_ret]
    have hr0 := HBS.out.c0
    have hr1 := HBS.out.c1
    refine bodyPost_ret (v := .tuple #[.agg #[.slice none 0 0, .slice none 0 0], .int .i64 4]) (by simp [results, Try.results59, go_sem, hr0, hr1]) rfl ⟨.slice none 0 0, .slice none 0 0, ?_, ?_, ?_⟩
    · rw [HSE.out, if_neg HMN.out]
    · rw [shR, HSE.out, if_neg HMN.out]
      exact OwnT.nil _ _
    · exact (HBE.out.setCell (by simp) _).setCell (by simp) _
theorem shape_any {a0 a1 v : Value} {s : Ten} {d : List Int} {w : World} (ha : Tens w a0 a1 s) (hd : Ints w v d) :
    Calls Try.prog 59 #[.agg #[a0, a1], v] w fun e w' => ∃ x0 x1, e = .returned (.tuple #[.agg #[x0, x1], .int .i64 (shE s d)]) ∧ OwnT w' w.heap.size x0 x1 (shR s d) ∧ Below w.heap.size w w' := by
  cases h : (okd d && tok s) with
  | true =>
    rw [Bool.and_eq_true] at h
    exact shape_go ha hd h.1 h.2
  | false =>
    have he : shE s d = 1 := by rw [shE, h]; rfl
    refine (shape_bad1 ha hd h).mono ?_
    rintro e w' ⟨rfl, hb⟩
    refine ⟨.slice none 0 0, .slice none 0 0, by rw [he], ?_, hb⟩
    rw [shR, he]
    exact OwnT.nil _ _
end Go.Proofs.Ytjfkhfahpjdidaa
