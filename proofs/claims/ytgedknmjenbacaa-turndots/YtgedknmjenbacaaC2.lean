/- Contract: below (for each place of wide dims the place of narrow ones that agrees with it). -/
import Derived.Test.YtgedknmjenbacaaC1
import Derived.Test.YtgedknmjenbacaaT0
namespace Go.Proofs.Ytgedknmjenbacaa
set_option linter.unusedVariables false
set_option linter.unusedSimpArgs false
open Go.RowKit

/-- Narrowed as far as dim k. -/
def narK (e p : List Int) (k : Nat) : List Int := (List.range e.length).map fun j => if j < k ∧ e.getD j 0 = 1 then 0 else p.getD j 0
theorem narK_length (e p : List Int) (k : Nat) : (narK e p k).length = e.length := by simp [narK]
theorem narK_zero {e p : List Int} (h : p.length = e.length) : narK e p 0 = p := by
  apply List.ext_getElem
  · simp [narK, h]
  · intro i h1 h2
    simp [narK, h2]
theorem narK_all (e p : List Int) : narK e p e.length = nar e p := by
  apply List.ext_getElem
  · simp [narK, nar]
  · intro i h1 h2
    have : i < e.length := by simpa [narK] using h1
    simp [narK, nar, this]
theorem narK_one {e p : List Int} {k : Nat} (h : e.getD k 0 = 1) : (narK e p k).set k 0 = narK e p (k + 1) := by
  apply List.ext_getElem
  · simp [narK]
  · intro i h1 h2
    simp only [List.getElem_set, narK, List.getElem_map, List.getElem_range]
    by_cases q : k = i
    · subst q; rw [if_pos rfl, if_pos ⟨by omega, h⟩]
    · rw [if_neg q]
      by_cases h3 : i < k
      · simp [h3, show i < k + 1 from by omega]
      · simp [h3, show ¬ i < k + 1 from by omega]
theorem narK_other {e p : List Int} {k : Nat} (h : ¬ e.getD k 0 = 1) : narK e p k = narK e p (k + 1) := by
  apply List.ext_getElem
  · simp [narK]
  · intro i h1 h2
    simp only [narK, List.getElem_map, List.getElem_range]
    by_cases q : k = i
    · subst q; rw [if_neg (fun x => h x.2), if_neg (fun x => h x.2)]
    · by_cases h3 : i < k
      · simp [h3, show i < k + 1 from by omega]
      · simp [h3, show ¬ i < k + 1 from by omega]
theorem at_to {v v' : Value} {d p : List Int} {w : World} (x : Int) (hd : Ints w v d) (hp : Ints w v' p) (ha : aok d p = true) (hx : atV d p = x) :
    Calls Try.prog 34 #[v, v'] w fun e w' => e = .returned (.tuple #[.int .i64 x, .int .i64 0]) ∧ Below w.heap.size w w' := by
  have hok : okd d = true := by
    simp only [aok, Bool.and_eq_true] at ha
    exact ha.1
  have := at_ok hd hp hok
  rw [atR, atE, ha, if_pos rfl, if_pos rfl, hx] at this
  exact this
theorem wid_length {a b : List Int} (h : wid a b = true) : a.length = b.length := by
  by_cases e : a.length = b.length
  · exact e
  · rw [wid_len e] at h; cases h

set_option maxHeartbeats 2000000 in
theorem below_ok {v v' : Value} {e d : List Int} {w : World} (he : Ints w v e) (hd : Ints w v' d) (oe : okd e = true) (od : okd d = true) (hw : wid e d = true) :
    Calls Try.prog 38 #[v, v'] w fun r w' => ∃ B, w.heap.size ≤ B ∧ r = .returned (.slice (some ⟨B, 0, none⟩) (prd d).toNat (prd d).toNat) ∧ Blk w' B ((List.range (prd d).toNat).map fun i => (wmp e d i : Int)) ∧ Below w.heap.size w w' := by
  have HE : Hid (Ints w v e) := he
  have HD : Hid (Ints w v' d) := hd
  have OE : Hid (okd e = true) := oe
  have OD : Hid (okd d = true) := od
  have HW : Hid (wid e d = true) := hw
  have hel := (okd_parts oe).2.1
  obtain ⟨_, _, hin, hp⟩ := okd_parts od
  have hp1 := prd_lo hin
  have hl := wid_length hw
  have HL : Hid (e.length = d.length) := hl
  obtain ⟨m, hm⟩ : ∃ m : Nat, prd d = m := ⟨(prd d).toNat, by omega⟩
  have HM : Hid (prd d = m) := hm
  have hm1 : 1 ≤ m := by omega
  have hm2 : m ≤ 64 := by omega
  have hmk := fun w => make_ints w m (by omega)
  obtain ⟨ea, ec, rfl⟩ := he.shape
  obtain ⟨da, dc, rfl⟩ := hd.shape
  rw [hl] at HE ⊢
  rw [hm, Int.toNat_natCast]
  clear he hd oe od hw hin hp hp1 hm hl
  go_enter Try.func38, Try.ntmps38
  go_wp2_with (go_at_call 52; refine (ties_any HE.out hel).mono ?_; rintro e w' ⟨rfl, rfl⟩)
  refine (cells_ok HD.out OD.out).mono ?_
  rw [HM.out]
  rintro r w1 ⟨rfl, hb1⟩
  have HB1 : Hid (Below w.heap.size w w1) := hb1
  have hz1 := hb1.size
  clear hb1
  go_wp2
  clear hmk
  have HST : Hid (Blk (w1.alloc (.cells (ia (zer m)) 3)) w1.heap.size (lay (fun i => (wmp e d i : Int)) m 0)) := by
    show Blk _ _ _
    rw [lay_zero]
    exact Blk.new w1 _
  go_loopw [25] (fun i w' => ∃ j : Nat, j ≤ m ∧ i = .int .i64 j ∧ Blk w' w1.heap.size (lay (fun i => (wmp e d i : Int)) m j) ∧ Below w1.heap.size w1 w') (fun i _ => m - (intOf i).toNat)
  case atStart => exact ⟨0, by omega, rfl, HST.out, (Below.refl _ _).alloc (Nat.le_refl _) _⟩
  case round =>
    obtain ⟨wo, rfl⟩ : ∃ x, x = wr := ⟨_, rfl⟩
    obtain ⟨j, hj, rfl, hB, hbel⟩ := hrel
    have HB3 : Hid (Blk wo w1.heap.size (lay (fun i => (wmp e d i : Int)) m j)) := hB
    have HBL3 : Hid (Below w1.heap.size w1 wo) := hbel
    have hsr := hB.lt
    clear hB hbel
    by_cases hlt : j < m
    · have HJ : Hid ((j : Int) < prd d) := by show _ < _; rw [HM.out]; omega
      have HBW : Hid (Below w.heap.size w wo) := Below.after HB1.out HBL3.out
      go_wp2_with fail
      refine (where_ok (j : Int) (HD.out.later HBW.out) OD.out (by omega) HJ.out).mono ?_
      rintro r w2 ⟨P, hP, rfl, hk2, hb2⟩
      have hz2 := hb2.size
      have hPl := hk2.lt
      have HK2 : Hid (Blk (w2.iter (tieT e) 0) P (narK e (whr d j) 0)) := by
        show Blk _ _ _
        rw [narK_zero (by rw [whr_length, HL.out]), iter_alloc]
        exact hk2.alloc _
      have HB2 : Hid (Below wo.heap.size wo (w2.iter (tieT e) 0)) := by
        show Below _ _ _
        rw [iter_alloc]
        exact hb2.alloc hz2 _
      have HI2 : Hid (It (w2.iter (tieT e) 0) w2.heap.size (tieT e) 0) := It.new _ _ _
      clear hb2 hk2
      go_wp2
      go_loopw [] (fun w' => ∃ k : Nat, k ≤ e.length ∧ Blk w' P (narK e (whr d j) k) ∧ It w' w2.heap.size (tieT e) k ∧ Below wo.heap.size wo w') (fun w' => e.length - w'.iterPos w2.heap.size)
      case atStart => exact ⟨0, Nat.zero_le _, HK2.out, HI2.out, HB2.out⟩
      case round =>
        obtain ⟨k, hk, hB, hI, hbel⟩ := hrel
        have hIB := It.blk hB hI
        by_cases hlt2 : k < e.length
        · have hks : k < (tieT e).size := by rw [tieT_size]; exact hlt2
          have hq : e.getD k 0 = e[k] := by simp [hlt2]
          have hgk := tieT_get e k hlt2 hks
          have HPP : Hid (wr.iterPos w2.heap.size = k) := hI.pos
          have HI1 : Hid (It (wr.iterAt w2.heap.size (tieT e) (k + 1)) w2.heap.size (tieT e) (k + 1)) := hI.moved _
          have HK1 : Hid (Blk (wr.iterAt w2.heap.size (tieT e) (k + 1)) P (narK e (whr d j) k)) := hB.moved hIB _ _
          have HL1 : Hid (Below wo.heap.size wo (wr.iterAt w2.heap.size (tieT e) (k + 1))) := Below.moved hbel (by omega) _ _
          have hlk : (narK e (whr d j) k).length = e.length := narK_length _ _ _
          by_cases h1 : e[k] = 1
          · have hnx := fun ty => hI.nx hks 42 (by rw [hgk, tieB, if_pos h1]; decide) (by rw [hgk, tieB, if_pos h1]; decide) ty
            have HN : Hid ((narK e (whr d j) k).set k 0 = narK e (whr d j) (k + 1)) := narK_one (by rw [hq]; exact h1)
            clear hB hI hbel hgk hq h1
            have hc := HK1.out.cell k (by omega)
            have hf := HK1.out.frozen k
            have hkd : (k : Int) < d.length := by have := HL.out; omega
            go_wp2
            clear hnx
            go_roundw
            case rel =>
              refine ⟨k + 1, by omega, ?_, HI1.out.set _ _ (by simpa using hIB), HL1.out.setCell (by simpa using hP) _⟩
              rw [← HN.out]
              exact HK1.out.set k 0
            case measure =>
              have : ((wr.iterAt w2.heap.size (tieT e) (k + 1)).setCell ⟨P, k, none⟩ (.int .i64 0)).iterPos w2.heap.size = k + 1 := It.pos (s := tieT e) (HI1.out.set _ _ (by simpa using hIB))
              rw [this, HPP.out]
              omega
          · have hnx := fun ty => hI.nx hks 61 (by rw [hgk, tieB, if_neg h1]; decide) (by rw [hgk, tieB, if_neg h1]; decide) ty
            have HN : Hid (narK e (whr d j) k = narK e (whr d j) (k + 1)) := narK_other (by rw [hq]; exact h1)
            clear hB hI hbel hgk hq h1
            go_wp2
            clear hnx
            go_roundw
            case rel =>
              refine ⟨k + 1, by omega, ?_, HI1.out, HL1.out⟩
              rw [← HN.out]
              exact HK1.out
            case measure =>
              have : (wr.iterAt w2.heap.size (tieT e) (k + 1)).iterPos w2.heap.size = k + 1 := It.pos (s := tieT e) HI1.out
              rw [this, HPP.out]
              omega
        · have hk' : k = e.length := by omega
          subst hk'
          have hnx := fun ty => hI.nd (by rw [tieT_size]) ty
          have hB' := hB
          rw [narK_all] at hB'
          have hwl := wmp_lt OE.out OD.out HW.out j HJ.out
          have hpb := hB'.lt
          have hsz := hbel.size
          have hln : (nar e (whr d j)).length = d.length := by rw [nar_length, HL.out]
          have HAO : Hid (aok e (nar e (whr d j)) = true) := by
            show _ = _
            rw [aok, OE.out, hwl.1]
            rfl
          have HAV : Hid (atV e (nar e (whr d j)) = (wmp e d j : Nat)) := hwl.2.1.symm
          have HIN : Hid (Ints wr (.slice (some ⟨P, 0, none⟩) d.length d.length) (nar e (whr d j))) := hB'.ints _ _ hln.symm (Nat.le_refl _) (by unfold big; have := HL.out; omega)
          have HBL4 : Hid (Below wo.heap.size wo wr) := hbel
          have HB4 : Hid (Blk wr w1.heap.size (lay (fun i => (wmp e d i : Int)) m j)) := HB3.out.later hbel hsr
          clear hB hB' hI hbel hwl
          go_wp2_with fail
          refine (at_to (wmp e d j : Nat) (HE.out.later (Below.after HBW.out HBL4.out)) HIN.out HAO.out HAV.out).mono ?_
          rintro r w5 ⟨rfl, hb5⟩
          have HB5 : Hid (Blk w5 w1.heap.size (lay (fun i => (wmp e d i : Int)) m j)) := HB4.out.later hb5 (by omega)
          have HBL5 : Hid (Below w1.heap.size w1 w5) := Below.after (Below.after HBL3.out HBL4.out) hb5
          have hf := HB5.out.frozen j
          obtain ⟨x, hc⟩ : ∃ x, w5.cell? ⟨w1.heap.size, j, none⟩ = some x := ⟨_, HB5.out.cell j (by rw [lay_length]; exact hlt)⟩
          clear hb5 hnx
          go_wp2
          go_roundw
          case rel =>
            refine ⟨j + 1, by omega, by go_num, ?_, HBL5.out.setCell (Nat.le_refl _) _⟩
            have := HB5.out.set j (wmp e d j : Nat)
            rw [lay_set (fun i => (wmp e d i : Int))] at this
            exact this
          case measure => simp [intOf]; omega
    · have hj' : j = m := by omega
      subst hj'
      go_wp2
      go_ret
      refine ⟨w1.heap.size, by omega, rfl, ?_, Below.after HB1.out HBL3.out⟩
      have := HB3.out
      rw [lay_all] at this
      exact this
end Go.Proofs.Ytgedknmjenbacaa
