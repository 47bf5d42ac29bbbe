/- Contracts: turn's Wide and Sum. -/
import Derived.Test.YtgedknmjenbacaaFl
import Derived.Test.YtgedknmjenbacaaC2
import Derived.Test.YtgedknmjenbacaaP2
import Derived.Test.YtgedknmjenbacaaT1
import Derived.Test.YtgedknmjenbacaaE0
namespace Go.Proofs.Ytgedknmjenbacaa
set_option linter.unusedVariables false
set_option linter.unusedSimpArgs false
open Go.RowKit

def wiE (t : Ten) (d : List Int) : Int := if tok t then wdr t.1 d else 1
def wiR (t : Ten) (d : List Int) : Ten := if wiE t d = 0 then (d, laid (wmp t.1 d) t.2 (prd d).toNat) else ([], [])
def suE (t : Ten) (d : List Int) : Int := if tok t then wdr d t.1 else 1
def suR (t : Ten) (d : List Int) : Ten := if suE t d = 0 then (d, sums (wmp d t.1) t.2 (prd d).toNat t.2.length) else ([], [])
theorem wdr_zero {a b : List Int} (h : wdr a b = 0) : okd a = true ∧ okd b = true ∧ wid a b = true := by
  unfold wdr at h
  cases ha : okd a <;> cases hb : okd b <;> cases hw : wid a b <;> simp [ha, hb, hw] at h ⊢
theorem wider_to {v v' : Value} {a b : List Int} {w : World} (x : Int) (ha : Ints w v a) (hb : Ints w v' b) (hx : wdr a b = x) :
    Calls Try.prog 37 #[v, v'] w fun e w' => e = .returned (.int .i64 x) ∧ w = w' := by
  subst hx
  cases h : (okd a && okd b) with
  | false =>
    rw [wdr, h]
    exact wider_bad ha hb h
  | true =>
    have h' := h
    rw [Bool.and_eq_true] at h'
    rw [wdr, h]
    exact wider_ok ha hb h'.1 h'.2

set_option maxHeartbeats 1000000 in
theorem wide_bad {a0 a1 v : Value} {s : Ten} {d : List Int} {w : World} (x : Int) (ha : Tens w a0 a1 s) (hd : Ints w v d) (hx : wiE s d = x) (hx0 : x ≠ 0) :
    Calls Try.prog 17 #[.agg #[a0, a1], v] w fun e w' => e = .returned (.tuple #[.agg #[.slice none 0 0, .slice none 0 0], .int .i64 x]) ∧ Below w.heap.size w w' := by
  have hb : Below w.heap.size w ((w.alloc (.cells #[a0, a1] 31)).alloc (.cells #[.slice none 0 0, .slice none 0 0] 31)) := ((Below.refl _ _).alloc (Nat.le_refl _) _).alloc (by simp) _
  have HA : Hid (Tens ((w.alloc (.cells #[a0, a1] 31)).alloc (.cells #[.slice none 0 0, .slice none 0 0] 31)) a0 a1 s) := ha.later hb
  have HD : Hid (Ints ((w.alloc (.cells #[a0, a1] 31)).alloc (.cells #[.slice none 0 0, .slice none 0 0] 31)) v d) := hd.later hb
  have HB : Hid (Below w.heap.size w ((w.alloc (.cells #[a0, a1] 31)).alloc (.cells #[.slice none 0 0, .slice none 0 0] 31))) := hb
  have HBA : Hid (Box ((w.alloc (.cells #[a0, a1] 31)).alloc (.cells #[.slice none 0 0, .slice none 0 0] 31)) w.heap.size a0 a1) := (Box.new w a0 a1).alloc _
  have HBX : Hid (Box ((w.alloc (.cells #[a0, a1] 31)).alloc (.cells #[.slice none 0 0, .slice none 0 0] 31)) (w.heap.size + 1) (.slice none 0 0) (.slice none 0 0)) := by
    have := Box.new (w.alloc (.cells #[a0, a1] 31)) (.slice none 0 0) (.slice none 0 0)
    simp only [World.size_alloc] at this
    exact this
  cases ht : tok s with
  | false =>
    obtain rfl : x = 1 := by rw [← hx, wiE, ht]; rfl
    have HX : Hid (tkE s = 1) := by show _ = _; simp [tkE, ht]
    clear ha hd hb hx ht hx0
    go_enter Try.func17, Try.ntmps17
    go_wp2_with fail
    refine (tensor_to 1 HA.out HX.out).mono ?_
    rintro e w1 ⟨rfl, hb1⟩
    have HB1 : Hid (Below w.heap.size w w1) := Below.after HB.out hb1
    have hbx := HBX.out.later hb1
    have hx0' := hbx.c0
    have hx1 := hbx.c1
    have hf0 := hbx.f 0
    have hf1 := hbx.f 1
    have HBS : Hid (Box _ _ _ _) := hbx.set (.slice none 0 0) (.slice none 0 0)
    clear hb1 hbx
    go_wp2
    have hr0 := HBS.out.c0
    have hr1 := HBS.out.c1
    exact bodyPost_ret (v := .tuple #[.agg #[.slice none 0 0, .slice none 0 0], .int .i64 1]) (by simp [results, Try.results17, go_sem, hr0, hr1]) rfl ⟨rfl, (HB1.out.setCell (by simp) _).setCell (by simp) _⟩
  | true =>
    have HX : Hid (tkE s = 0) := by show _ = _; simp [tkE, ht]
    have HW : Hid (wdr s.1 d = x) := by show _ = _; rw [← hx, wiE, ht]; rfl
    have hne : (x != 0) = true := by simp [hx0]
    have HTA : Hid (Tens w a0 a1 s) := ha
    obtain ⟨aa, an, ac, rfl⟩ := ha.1.shape3
    obtain ⟨da, dn, dc, rfl⟩ := hd.shape3
    clear ha hd hb hx ht hx0
    go_enter Try.func17, Try.ntmps17
    go_wp2_with fail
    refine (tensor_to 0 HA.out HX.out).mono ?_
    rintro e w1 ⟨rfl, hb1⟩
    have HB1 : Hid (Below w.heap.size w w1) := Below.after HB.out hb1
    have hca0 := (HBA.out.later hb1).c0
    have hbx := HBX.out.later hb1
    have HA1 := HA.out.later hb1
    have HD1 := HD.out.later hb1
    have hx0' := hbx.c0
    have hx1 := hbx.c1
    have hf0 := hbx.f 0
    have hf1 := hbx.f 1
    have HBS : Hid (Box _ _ _ _) := hbx.set (.slice none 0 0) (.slice none 0 0)
    clear hb1 hbx
    go_wp2_with (go_at_call 37; refine (wider_to x HA1.1 HD1 HW.out).mono ?_; rintro e w' ⟨rfl, rfl⟩)
    have hr0 := HBS.out.c0
    have hr1 := HBS.out.c1
    exact bodyPost_ret (v := .tuple #[.agg #[.slice none 0 0, .slice none 0 0], .int .i64 x]) (by simp [results, Try.results17, go_sem, hr0, hr1]) rfl ⟨rfl, (HB1.out.setCell (by simp) _).setCell (by simp) _⟩

set_option maxHeartbeats 4000000 in
theorem wide_ok {a0 a1 v : Value} {s : Ten} {d : List Int} {w : World} (ha : Tens w a0 a1 s) (hd : Ints w v d) (hx : wiE s d = 0) :
    Calls Try.prog 17 #[.agg #[a0, a1], v] w fun e w' => ∃ x0 x1, e = .returned (.tuple #[.agg #[x0, x1], .int .i64 0]) ∧ OwnT w' w.heap.size x0 x1 (d, laid (wmp s.1 d) s.2 (prd d).toNat) ∧ Below w.heap.size w w' := by
  have ht : tok s = true := by
    cases h : tok s with
    | true => rfl
    | false => rw [wiE, h] at hx; simp at hx
  have hw : wdr s.1 d = 0 := by rw [wiE, ht] at hx; exact hx
  obtain ⟨o1, o2, hwd⟩ := wdr_zero hw
  obtain ⟨_, _, hin, hp⟩ := okd_parts o2
  have hp1 := prd_lo hin
  obtain ⟨n, hn⟩ : ∃ n : Nat, prd d = n := ⟨(prd d).toNat, by omega⟩
  have hn1 : 1 ≤ n := by omega
  have hn64 : n ≤ 64 := by omega
  have hnt : (prd d).toNat = n := by omega
  obtain ⟨hp2, hp3⟩ := tok_pos ht
  obtain ⟨m, hm⟩ : ∃ m : Nat, s.2.length = m := ⟨_, rfl⟩
  have HL : Hid (∀ i, i < n → wmp s.1 d i < m) := fun i hi => by
    have h1 := (wmp_lt o1 o2 hwd i (by omega)).2.2
    have h2 := tok_len ht
    omega
  have hm1 : 1 ≤ m := by omega
  have hm64 : m ≤ 64 := by omega
  have HNT : Hid ((prd d).toNat = n) := hnt
  have HT : Hid (tkE s = 0) := by show _ = _; simp [tkE, ht]
  have HW : Hid (wdr s.1 d = 0) := hw
  have O1 : Hid (okd s.1 = true) := o1
  have O2 : Hid (okd d = true) := o2
  have HWD : Hid (wid s.1 d = true) := hwd
  have hb : Below w.heap.size w ((w.alloc (.cells #[a0, a1] 31)).alloc (.cells #[.slice none 0 0, .slice none 0 0] 31)) := ((Below.refl _ _).alloc (Nat.le_refl _) _).alloc (by simp) _
  have HA : Hid (Tens ((w.alloc (.cells #[a0, a1] 31)).alloc (.cells #[.slice none 0 0, .slice none 0 0] 31)) a0 a1 s) := ha.later hb
  have HD : Hid (Ints ((w.alloc (.cells #[a0, a1] 31)).alloc (.cells #[.slice none 0 0, .slice none 0 0] 31)) v d) := hd.later hb
  have HB : Hid (Below w.heap.size w ((w.alloc (.cells #[a0, a1] 31)).alloc (.cells #[.slice none 0 0, .slice none 0 0] 31))) := hb
  have HBA : Hid (Box ((w.alloc (.cells #[a0, a1] 31)).alloc (.cells #[.slice none 0 0, .slice none 0 0] 31)) w.heap.size a0 a1) := (Box.new w a0 a1).alloc _
  have HBX : Hid (Box ((w.alloc (.cells #[a0, a1] 31)).alloc (.cells #[.slice none 0 0, .slice none 0 0] 31)) (w.heap.size + 1) (.slice none 0 0) (.slice none 0 0)) := by
    have := Box.new (w.alloc (.cells #[a0, a1] 31)) (.slice none 0 0) (.slice none 0 0)
    simp only [World.size_alloc] at this
    exact this
  rcases ha.2.cases with ⟨e, _⟩ | ⟨ab, ao, ac, ea, hab0, ha1, _, HCA⟩
  · rw [e] at hm; simp at hm; omega
  have hab : ab < w.heap.size := World.block_lt_of_cell? _ _ (HCA.out 0 hab0)
  have HCD : Hid (∀ i, i < m → w.cell? ⟨ab, ao + i, none⟩ = some (.int .i64 (s.2.getD i 0))) := fun i hi => Ints.cellD (n := 0) (c := 0) HCA i (by rw [hm]; exact hi)
  rw [hm] at ea ha1
  subst ea
  obtain ⟨aa, an, ac', rfl⟩ := ha.1.shape3
  obtain ⟨da, dn, dc, rfl⟩ := hd.shape3
  rw [hnt]
  clear ha hd hb hx ht hw o1 o2 hwd hin hp hp1 hn hnt hp2 hp3 hm hab0 HCA
  go_enter Try.func17, Try.ntmps17
  go_wp2_with fail
  refine (tensor_to 0 HA.out HT.out).mono ?_
  rintro e w1 ⟨rfl, hb1⟩
  have HB1 : Hid (Below w.heap.size w w1) := Below.after HB.out hb1
  have hs1 := hb1.size
  simp at hs1
  have HBA1 : Hid (Box w1 w.heap.size _ _) := HBA.out.later hb1
  have hca0 := HBA1.out.c0
  have HBX1 : Hid (Box w1 (w.heap.size + 1) _ _) := HBX.out.later hb1
  have HA1 : Hid (Tens w1 _ _ s) := HA.out.later hb1
  have HD1 : Hid (Ints w1 _ d) := HD.out.later hb1
  clear hb1 HA HB HBA HBX HD
  go_wp2_with (go_at_call 37; refine (wider_to 0 HA1.out.1 HD1.out HW.out).mono ?_; rintro e w' ⟨rfl, rfl⟩)
  refine (fill_own 0 HD1.out O2.out).mono ?_
  rw [HNT.out]
  rintro e w2 ⟨x0, b1, rfl, ho, hbk, ⟨hb1l, hap⟩, hb2⟩
  have hs2 := hb2.size
  obtain ⟨xa, xn, xc, rfl⟩ := ho.ints.shape3
  have hbl := hbk.lt
  have hv : Below w2.heap.size w2 (w2.alloc (.cells #[.slice xa xn xc, .slice (some ⟨b1, 0, none⟩) n n] 31)) := (Below.refl _ _).alloc (Nat.le_refl _) _
  have HB2 : Hid (Below w.heap.size w (w2.alloc (.cells #[.slice xa xn xc, .slice (some ⟨b1, 0, none⟩) n n] 31))) := Below.after (Below.after HB1.out hb2) hv
  have HBA2 : Hid (Box (w2.alloc (.cells #[.slice xa xn xc, .slice (some ⟨b1, 0, none⟩) n n] 31)) w.heap.size _ _) := (HBA1.out.later hb2).alloc _
  have HBX2 : Hid (Box (w2.alloc (.cells #[.slice xa xn xc, .slice (some ⟨b1, 0, none⟩) n n] 31)) (w.heap.size + 1) _ _) := (HBX1.out.later hb2).alloc _
  have HBT2 : Hid (Box (w2.alloc (.cells #[.slice xa xn xc, .slice (some ⟨b1, 0, none⟩) n n] 31)) w2.heap.size _ _) := Box.new _ _ _
  have HO2 : Hid (Own (w2.alloc (.cells #[.slice xa xn xc, .slice (some ⟨b1, 0, none⟩) n n] 31)) w1.heap.size (.slice xa xn xc) d) := ho.later hv
  have HK2 : Hid (Blk (w2.alloc (.cells #[.slice xa xn xc, .slice (some ⟨b1, 0, none⟩) n n] 31)) b1 (List.replicate n 0)) := hbk.alloc _
  have HA2 : Hid (Tens (w2.alloc (.cells #[.slice xa xn xc, .slice (some ⟨b1, 0, none⟩) n n] 31)) _ _ s) := (HA1.out.later hb2).later hv
  have HD2 : Hid (Ints (w2.alloc (.cells #[.slice xa xn xc, .slice (some ⟨b1, 0, none⟩) n n] 31)) _ d) := (HD1.out.later hb2).later hv
  have HAP : Hid (∀ k, (Value.slice xa xn xc).ownBlock = some k → k ≠ b1) := hap
  have hca2 := HBA2.out.c0
  clear ho hbk hap hb2 hv hca0
  go_wp2_with fail
  refine (below_ok HA2.out.1 HD2.out O1.out O2.out HWD.out).mono ?_
  rw [HNT.out]
  rintro e w3 ⟨B, hBl, rfl, hbk, hb3⟩
  simp only [World.size_alloc] at hBl
  have hs3 := hb3.size
  simp at hs3
  have hBL := hbk.lt
  have HB3 : Hid (Below w.heap.size w w3) := Below.after HB2.out hb3
  have HBA3 : Hid (Box w3 w.heap.size _ _) := HBA2.out.later hb3
  have HBX3 : Hid (Box w3 (w.heap.size + 1) _ _) := HBX2.out.later hb3
  have HBT3 : Hid (Box w3 w2.heap.size _ _) := HBT2.out.later hb3
  have HO3 : Hid (Own w3 w1.heap.size (.slice xa xn xc) d) := HO2.out.later hb3
  have HP3 : Hid (Blk w3 B ((List.range n).map fun i => (wmp s.1 d i : Int))) := hbk
  have HK3 : Hid (Blk w3 b1 (lay (fun i => s.2.getD (wmp s.1 d i) 0) n 0)) := by
    show Blk _ _ _
    rw [lay_zero]
    exact HK2.out.later hb3 (by simp; omega)
  clear hbk hb3 HB2 HBA2 HBX2 HBT2 HO2 HK2 HA2 HD2 HA1 HD1 HBA1 HBX1 hca2
  go_wp2
  go_loopw [33] (fun i w' => ∃ j : Nat, j ≤ n ∧ i = .int .i64 j ∧ Blk w' b1 (lay (fun i => s.2.getD (wmp s.1 d i) 0) n j) ∧ But b1 w3 w') (fun i _ => n - (intOf i).toNat)
  case atStart => exact ⟨0, by omega, rfl, HK3.out, But.refl _ _⟩
  case round =>
    obtain ⟨j, hj, rfl, hB, hbut⟩ := hrel
    have HBU : Hid (But b1 w3 wr) := hbut
    have HKR : Hid (Blk wr b1 (lay (fun i => s.2.getD (wmp s.1 d i) 0) n j)) := hB
    clear hB hbut
    by_cases hlt : j < n
    · have hwl := HL.out j hlt
      have hpl : wr.cell? ⟨B, j, none⟩ = some (.int .i64 (wmp s.1 d j : Nat)) := by
        rw [HBU.out.cell (by simp; omega), HP3.out.cell j (by simpa using hlt)]
        simp
      have hba := (HBU.out.box HBA3.out (by omega)).c1
      have hbt := (HBU.out.box HBT3.out (by omega)).c1
      have hy : wr.cell? ⟨ab, ao + wmp s.1 d j, none⟩ = some (.int .i64 (s.2.getD (wmp s.1 d j) 0)) := (HBU.out.cell (by simp; omega)).trans (cell_later HB3.out (HCD.out _ hwl))
      have hf := HKR.out.frozen j
      obtain ⟨x, hc⟩ : ∃ x, wr.cell? ⟨b1, j, none⟩ = some x := ⟨_, HKR.out.cell j (by rw [lay_length]; exact hlt)⟩
      have HKS : Hid (Blk (wr.setCell ⟨b1, j, none⟩ (.int .i64 (s.2.getD (wmp s.1 d j) 0))) b1 (lay (fun i => s.2.getD (wmp s.1 d i) 0) n (j + 1))) := by
        have := HKR.out.set j (s.2.getD (wmp s.1 d j) 0)
        rw [lay_set (fun i => s.2.getD (wmp s.1 d i) 0)] at this
        exact this
      have HBS : Hid (But b1 w3 (wr.setCell ⟨b1, j, none⟩ (.int .i64 (s.2.getD (wmp s.1 d j) 0)))) := HBU.out.setCell _
      go_wp2
      go_region
      go_wp2
      go_roundw
      case rel => exact ⟨j + 1, by omega, by go_num, HKS.out.drew, HBS.out.drew⟩
      case measure => simp [intOf]; omega
    · have hj' : j = n := by omega
      subst hj'
      have hbt := HBU.out.box HBT3.out (by omega)
      have t0 := hbt.c0
      have t1 := hbt.c1
      have hbx := HBU.out.box HBX3.out (by omega)
      have l0 := hbx.c0
      have l1 := hbx.c1
      have m0 := hbx.f 0
      have m1 := hbx.f 1
      have HBS : Hid (Box _ _ _ _) := hbx.set (.slice xa xn xc) (.slice (some ⟨b1, 0, none⟩) j j)
      have HO5 : Hid (Own wr w1.heap.size (.slice xa xn xc) d) := HO3.out.at fun k hk => HBU.out.block k (HAP.out k hk)
      have HK5 : Hid (Own wr w1.heap.size (.slice (some ⟨b1, 0, none⟩) j j) (laid (wmp s.1 d) s.2 j)) := by
        have h := HKR.out
        rw [lay_all] at h
        exact Blk.own (xs := laid (wmp s.1 d) s.2 j) h hb1l (laid_length _ _ _).symm (by rw [laid_length]; unfold big; omega)
      have HBE : Hid (Below w.heap.size w wr) := HBU.out.below HB3.out (by omega)
      clear hbx hbt
      go_wp2
      have hr0 := HBS.out.c0
      have hr1 := HBS.out.c1
      refine bodyPost_ret (v := .tuple #[.agg #[.slice xa xn xc, .slice (some ⟨b1, 0, none⟩) j j], .int .i64 0]) (by simp [results, Try.results17, go_sem, hr0, hr1]) rfl ⟨_, _, rfl, ?_, ?_⟩
      · have h1 : OwnT wr w1.heap.size (.slice xa xn xc) (.slice (some ⟨b1, 0, none⟩) j j) (d, laid (wmp s.1 d) s.2 j) := ⟨HO5.out, HK5.out, fun k hk e => HAP.out k hk (by simp [Value.ownBlock] at e; exact e.symm)⟩
        exact ((h1.setCell _ _ (by simp; omega)).setCell _ _ (by simp; omega)).mono (by omega)
      · exact (HBE.out.setCell (by simp) _).setCell (by simp) _
set_option maxHeartbeats 1000000 in
theorem sumd_bad {a0 a1 v : Value} {s : Ten} {d : List Int} {w : World} (x : Int) (ha : Tens w a0 a1 s) (hd : Ints w v d) (hx : suE s d = x) (hx0 : x ≠ 0) :
    Calls Try.prog 18 #[.agg #[a0, a1], v] w fun e w' => e = .returned (.tuple #[.agg #[.slice none 0 0, .slice none 0 0], .int .i64 x]) ∧ Below w.heap.size w w' := by
  have hb : Below w.heap.size w ((w.alloc (.cells #[a0, a1] 31)).alloc (.cells #[.slice none 0 0, .slice none 0 0] 31)) := ((Below.refl _ _).alloc (Nat.le_refl _) _).alloc (by simp) _
  have HA : Hid (Tens ((w.alloc (.cells #[a0, a1] 31)).alloc (.cells #[.slice none 0 0, .slice none 0 0] 31)) a0 a1 s) := ha.later hb
  have HD : Hid (Ints ((w.alloc (.cells #[a0, a1] 31)).alloc (.cells #[.slice none 0 0, .slice none 0 0] 31)) v d) := hd.later hb
  have HB : Hid (Below w.heap.size w ((w.alloc (.cells #[a0, a1] 31)).alloc (.cells #[.slice none 0 0, .slice none 0 0] 31))) := hb
  have HBA : Hid (Box ((w.alloc (.cells #[a0, a1] 31)).alloc (.cells #[.slice none 0 0, .slice none 0 0] 31)) w.heap.size a0 a1) := (Box.new w a0 a1).alloc _
  have HBX : Hid (Box ((w.alloc (.cells #[a0, a1] 31)).alloc (.cells #[.slice none 0 0, .slice none 0 0] 31)) (w.heap.size + 1) (.slice none 0 0) (.slice none 0 0)) := by
    have := Box.new (w.alloc (.cells #[a0, a1] 31)) (.slice none 0 0) (.slice none 0 0)
    simp only [World.size_alloc] at this
    exact this
  cases ht : tok s with
  | false =>
    obtain rfl : x = 1 := by rw [← hx, suE, ht]; rfl
    have HX : Hid (tkE s = 1) := by show _ = _; simp [tkE, ht]
    clear ha hd hb hx ht hx0
    go_enter Try.func18, Try.ntmps18
    go_wp2_with fail
    refine (tensor_to 1 HA.out HX.out).mono ?_
    rintro e w1 ⟨rfl, hb1⟩
    have HB1 : Hid (Below w.heap.size w w1) := Below.after HB.out hb1
    have hbx := HBX.out.later hb1
    have hx0' := hbx.c0
    have hx1 := hbx.c1
    have hf0 := hbx.f 0
    have hf1 := hbx.f 1
    have HBS : Hid (Box _ _ _ _) := hbx.set (.slice none 0 0) (.slice none 0 0)
    clear hb1 hbx
    go_wp2
    have hr0 := HBS.out.c0
    have hr1 := HBS.out.c1
    exact bodyPost_ret (v := .tuple #[.agg #[.slice none 0 0, .slice none 0 0], .int .i64 1]) (by simp [results, Try.results18, go_sem, hr0, hr1]) rfl ⟨rfl, (HB1.out.setCell (by simp) _).setCell (by simp) _⟩
  | true =>
    have HX : Hid (tkE s = 0) := by show _ = _; simp [tkE, ht]
    have HW : Hid (wdr d s.1 = x) := by show _ = _; rw [← hx, suE, ht]; rfl
    have hne : (x != 0) = true := by simp [hx0]
    have HTA : Hid (Tens w a0 a1 s) := ha
    obtain ⟨aa, an, ac, rfl⟩ := ha.1.shape3
    obtain ⟨da, dn, dc, rfl⟩ := hd.shape3
    clear ha hd hb hx ht hx0
    go_enter Try.func18, Try.ntmps18
    go_wp2_with fail
    refine (tensor_to 0 HA.out HX.out).mono ?_
    rintro e w1 ⟨rfl, hb1⟩
    have HB1 : Hid (Below w.heap.size w w1) := Below.after HB.out hb1
    have hca0 := (HBA.out.later hb1).c0
    have hbx := HBX.out.later hb1
    have HA1 := HA.out.later hb1
    have HD1 := HD.out.later hb1
    have hx0' := hbx.c0
    have hx1 := hbx.c1
    have hf0 := hbx.f 0
    have hf1 := hbx.f 1
    have HBS : Hid (Box _ _ _ _) := hbx.set (.slice none 0 0) (.slice none 0 0)
    clear hb1 hbx
    go_wp2_with (go_at_call 37; refine (wider_to x HD1 HA1.1 HW.out).mono ?_; rintro e w' ⟨rfl, rfl⟩)
    have hr0 := HBS.out.c0
    have hr1 := HBS.out.c1
    exact bodyPost_ret (v := .tuple #[.agg #[.slice none 0 0, .slice none 0 0], .int .i64 x]) (by simp [results, Try.results18, go_sem, hr0, hr1]) rfl ⟨rfl, (HB1.out.setCell (by simp) _).setCell (by simp) _⟩

set_option maxHeartbeats 4000000 in
theorem sumd_ok {a0 a1 v : Value} {s : Ten} {d : List Int} {w : World} (ha : Tens w a0 a1 s) (hd : Ints w v d) (hx : suE s d = 0) :
    Calls Try.prog 18 #[.agg #[a0, a1], v] w fun e w' => ∃ x0 x1, e = .returned (.tuple #[.agg #[x0, x1], .int .i64 0]) ∧ OwnT w' w.heap.size x0 x1 (d, sums (wmp d s.1) s.2 (prd d).toNat s.2.length) ∧ Below w.heap.size w w' := by
  have ht : tok s = true := by
    cases h : tok s with
    | true => rfl
    | false => rw [suE, h] at hx; simp at hx
  have hw : wdr d s.1 = 0 := by rw [suE, ht] at hx; exact hx
  obtain ⟨o2, o1, hwd⟩ := wdr_zero hw
  obtain ⟨_, _, hin, hp⟩ := okd_parts o2
  have hp1 := prd_lo hin
  obtain ⟨n, hn⟩ : ∃ n : Nat, prd d = n := ⟨(prd d).toNat, by omega⟩
  have hn1 : 1 ≤ n := by omega
  have hn64 : n ≤ 64 := by omega
  have hnt : (prd d).toNat = n := by omega
  obtain ⟨hp2, hp3⟩ := tok_pos ht
  obtain ⟨m, hm⟩ : ∃ m : Nat, s.2.length = m := ⟨_, rfl⟩
  have HL : Hid (∀ i, i < m → wmp d s.1 i < n) := fun i hi => by
    have h2 := tok_len ht
    have h1 := (wmp_lt o2 o1 hwd i (by omega)).2.2
    omega
  have hm1 : 1 ≤ m := by omega
  have hm64 : m ≤ 64 := by omega
  have HNT : Hid ((prd d).toNat = n) := hnt
  have HMT : Hid ((prd s.1).toNat = m) := by
    show _ = _
    have h2 := tok_len ht
    omega
  have HT : Hid (tkE s = 0) := by show _ = _; simp [tkE, ht]
  have HW : Hid (wdr d s.1 = 0) := hw
  have O1 : Hid (okd s.1 = true) := o1
  have O2 : Hid (okd d = true) := o2
  have HWD : Hid (wid d s.1 = true) := hwd
  have hb : Below w.heap.size w ((w.alloc (.cells #[a0, a1] 31)).alloc (.cells #[.slice none 0 0, .slice none 0 0] 31)) := ((Below.refl _ _).alloc (Nat.le_refl _) _).alloc (by simp) _
  have HA : Hid (Tens ((w.alloc (.cells #[a0, a1] 31)).alloc (.cells #[.slice none 0 0, .slice none 0 0] 31)) a0 a1 s) := ha.later hb
  have HD : Hid (Ints ((w.alloc (.cells #[a0, a1] 31)).alloc (.cells #[.slice none 0 0, .slice none 0 0] 31)) v d) := hd.later hb
  have HB : Hid (Below w.heap.size w ((w.alloc (.cells #[a0, a1] 31)).alloc (.cells #[.slice none 0 0, .slice none 0 0] 31))) := hb
  have HBA : Hid (Box ((w.alloc (.cells #[a0, a1] 31)).alloc (.cells #[.slice none 0 0, .slice none 0 0] 31)) w.heap.size a0 a1) := (Box.new w a0 a1).alloc _
  have HBX : Hid (Box ((w.alloc (.cells #[a0, a1] 31)).alloc (.cells #[.slice none 0 0, .slice none 0 0] 31)) (w.heap.size + 1) (.slice none 0 0) (.slice none 0 0)) := by
    have := Box.new (w.alloc (.cells #[a0, a1] 31)) (.slice none 0 0) (.slice none 0 0)
    simp only [World.size_alloc] at this
    exact this
  rcases ha.2.cases with ⟨e, _⟩ | ⟨ab, ao, ac, ea, hab0, ha1, _, HCA⟩
  · rw [e] at hm; simp at hm; omega
  have hab : ab < w.heap.size := World.block_lt_of_cell? _ _ (HCA.out 0 hab0)
  have HCD : Hid (∀ i, i < m → w.cell? ⟨ab, ao + i, none⟩ = some (.int .i64 (s.2.getD i 0))) := fun i hi => Ints.cellD (n := 0) (c := 0) HCA i (by rw [hm]; exact hi)
  rw [hm] at ea ha1
  subst ea
  obtain ⟨aa, an, ac', rfl⟩ := ha.1.shape3
  obtain ⟨da, dn, dc, rfl⟩ := hd.shape3
  rw [hnt, hm]
  clear ha hd hb hx ht hw o1 o2 hwd hin hp hp1 hn hnt hp2 hp3 hm hab0 HCA
  go_enter Try.func18, Try.ntmps18
  go_wp2_with fail
  refine (tensor_to 0 HA.out HT.out).mono ?_
  rintro e w1 ⟨rfl, hb1⟩
  have HB1 : Hid (Below w.heap.size w w1) := Below.after HB.out hb1
  have hs1 := hb1.size
  simp at hs1
  have HBA1 : Hid (Box w1 w.heap.size _ _) := HBA.out.later hb1
  have hca0 := HBA1.out.c0
  have HBX1 : Hid (Box w1 (w.heap.size + 1) _ _) := HBX.out.later hb1
  have HA1 : Hid (Tens w1 _ _ s) := HA.out.later hb1
  have HD1 : Hid (Ints w1 _ d) := HD.out.later hb1
  clear hb1 HA HB HBA HBX HD
  go_wp2_with (go_at_call 37; refine (wider_to 0 HD1.out HA1.out.1 HW.out).mono ?_; rintro e w' ⟨rfl, rfl⟩)
  refine (fill_own 0 HD1.out O2.out).mono ?_
  rw [HNT.out]
  rintro e w2 ⟨x0, b1, rfl, ho, hbk, ⟨hb1l, hap⟩, hb2⟩
  have hs2 := hb2.size
  obtain ⟨xa, xn, xc, rfl⟩ := ho.ints.shape3
  have hbl := hbk.lt
  have hv : Below w2.heap.size w2 (w2.alloc (.cells #[.slice xa xn xc, .slice (some ⟨b1, 0, none⟩) n n] 31)) := (Below.refl _ _).alloc (Nat.le_refl _) _
  have HB2 : Hid (Below w.heap.size w (w2.alloc (.cells #[.slice xa xn xc, .slice (some ⟨b1, 0, none⟩) n n] 31))) := Below.after (Below.after HB1.out hb2) hv
  have HBA2 : Hid (Box (w2.alloc (.cells #[.slice xa xn xc, .slice (some ⟨b1, 0, none⟩) n n] 31)) w.heap.size _ _) := (HBA1.out.later hb2).alloc _
  have HBX2 : Hid (Box (w2.alloc (.cells #[.slice xa xn xc, .slice (some ⟨b1, 0, none⟩) n n] 31)) (w.heap.size + 1) _ _) := (HBX1.out.later hb2).alloc _
  have HBT2 : Hid (Box (w2.alloc (.cells #[.slice xa xn xc, .slice (some ⟨b1, 0, none⟩) n n] 31)) w2.heap.size _ _) := Box.new _ _ _
  have HO2 : Hid (Own (w2.alloc (.cells #[.slice xa xn xc, .slice (some ⟨b1, 0, none⟩) n n] 31)) w1.heap.size (.slice xa xn xc) d) := ho.later hv
  have HK2 : Hid (Blk (w2.alloc (.cells #[.slice xa xn xc, .slice (some ⟨b1, 0, none⟩) n n] 31)) b1 (List.replicate n 0)) := hbk.alloc _
  have HA2 : Hid (Tens (w2.alloc (.cells #[.slice xa xn xc, .slice (some ⟨b1, 0, none⟩) n n] 31)) _ _ s) := (HA1.out.later hb2).later hv
  have HD2 : Hid (Ints (w2.alloc (.cells #[.slice xa xn xc, .slice (some ⟨b1, 0, none⟩) n n] 31)) _ d) := (HD1.out.later hb2).later hv
  have HAP : Hid (∀ k, (Value.slice xa xn xc).ownBlock = some k → k ≠ b1) := hap
  have hca2 := HBA2.out.c0
  clear ho hbk hap hb2 hv hca0
  go_wp2_with fail
  refine (below_ok HD2.out HA2.out.1 O2.out O1.out HWD.out).mono ?_
  rw [HMT.out]
  rintro e w3 ⟨B, hBl, rfl, hbk, hb3⟩
  simp only [World.size_alloc] at hBl
  have hs3 := hb3.size
  simp at hs3
  have hBL := hbk.lt
  have HB3 : Hid (Below w.heap.size w w3) := Below.after HB2.out hb3
  have HBA3 : Hid (Box w3 w.heap.size _ _) := HBA2.out.later hb3
  have HBX3 : Hid (Box w3 (w.heap.size + 1) _ _) := HBX2.out.later hb3
  have HBT3 : Hid (Box w3 w2.heap.size _ _) := HBT2.out.later hb3
  have HO3 : Hid (Own w3 w1.heap.size (.slice xa xn xc) d) := HO2.out.later hb3
  have HP3 : Hid (Blk w3 B ((List.range m).map fun i => (wmp d s.1 i : Int))) := hbk
  have HK3 : Hid (Blk w3 b1 (sums (wmp d s.1) s.2 n 0)) := by
    show Blk _ _ _
    rw [sums_zero]
    exact HK2.out.later hb3 (by simp; omega)
  clear hbk hb3 HB2 HBA2 HBX2 HBT2 HO2 HK2 HA2 HD2 HA1 HD1 HBA1 HBX1 hca2
  go_wp2
  go_loopw [33] (fun i w' => ∃ j : Nat, j ≤ m ∧ i = .int .i64 j ∧ Blk w' b1 (sums (wmp d s.1) s.2 n j) ∧ But b1 w3 w') (fun i _ => m - (intOf i).toNat)
  case atStart => exact ⟨0, by omega, rfl, HK3.out, But.refl _ _⟩
  case round =>
    obtain ⟨j, hj, rfl, hB, hbut⟩ := hrel
    have HBU : Hid (But b1 w3 wr) := hbut
    have HKR : Hid (Blk wr b1 (sums (wmp d s.1) s.2 n j)) := hB
    clear hB hbut
    by_cases hlt : j < m
    · have hwl := HL.out j hlt
      obtain ⟨q, hq⟩ : ∃ q, wmp d s.1 j = q := ⟨_, rfl⟩
      rw [hq] at hwl
      have hpl : wr.cell? ⟨B, j, none⟩ = some (.int .i64 (q : Nat)) := by
        rw [HBU.out.cell (by simp; omega), HP3.out.cell j (by simpa using hlt)]
        simp [hq]
      have hba := (HBU.out.box HBA3.out (by omega)).c1
      have hbt := (HBU.out.box HBT3.out (by omega)).c1
      have hy : wr.cell? ⟨ab, ao + j, none⟩ = some (.int .i64 (s.2.getD j 0)) := (HBU.out.cell (by simp; omega)).trans (cell_later HB3.out (HCD.out _ hlt))
      have hf := HKR.out.frozen q
      have hc : wr.cell? ⟨b1, q, none⟩ = some (.int .i64 ((sums (wmp d s.1) s.2 n j).getD q 0)) := by
        rw [HKR.out.cell q (by rw [sums_length]; exact hwl)]
        simp [sums_length, hwl]
      have HKS : Hid (Blk (wr.setCell ⟨b1, q, none⟩ (.int .i64 (wrap64 ((sums (wmp d s.1) s.2 n j).getD q 0 + s.2.getD j 0)))) b1 (sums (wmp d s.1) s.2 n (j + 1))) := by
        have := HKR.out.set q (wrap64 ((sums (wmp d s.1) s.2 n j).getD q 0 + s.2.getD j 0))
        rw [← hq, sums_set (wmp d s.1) s.2 n j (by rw [hq]; exact hwl), hq] at this
        exact this
      have HBS : Hid (But b1 w3 (wr.setCell ⟨b1, q, none⟩ (.int .i64 (wrap64 ((sums (wmp d s.1) s.2 n j).getD q 0 + s.2.getD j 0))))) := HBU.out.setCell _
      clear hq
      go_wp2
      go_region
      go_wp2
      go_roundw
      case rel => exact ⟨j + 1, by omega, by go_num, HKS.out.drew, HBS.out.drew⟩
      case measure => simp [intOf]; omega
    · have hj' : j = m := by omega
      subst hj'
      have hbt := HBU.out.box HBT3.out (by omega)
      have t0 := hbt.c0
      have t1 := hbt.c1
      have hbx := HBU.out.box HBX3.out (by omega)
      have l0 := hbx.c0
      have l1 := hbx.c1
      have m0 := hbx.f 0
      have m1 := hbx.f 1
      have HBS : Hid (Box _ _ _ _) := hbx.set (.slice xa xn xc) (.slice (some ⟨b1, 0, none⟩) n n)
      have HO5 : Hid (Own wr w1.heap.size (.slice xa xn xc) d) := HO3.out.at fun k hk => HBU.out.block k (HAP.out k hk)
      have HK5 : Hid (Own wr w1.heap.size (.slice (some ⟨b1, 0, none⟩) n n) (sums (wmp d s.1) s.2 n j)) := by
        have h := HKR.out
        exact Blk.own (xs := sums (wmp d s.1) s.2 n j) h hb1l (sums_length _ _ _ _).symm (by rw [sums_length]; unfold big; omega)
      have HBE : Hid (Below w.heap.size w wr) := HBU.out.below HB3.out (by omega)
      clear hbx hbt
      go_wp2
      have hr0 := HBS.out.c0
      have hr1 := HBS.out.c1
      refine bodyPost_ret (v := .tuple #[.agg #[.slice xa xn xc, .slice (some ⟨b1, 0, none⟩) n n], .int .i64 0]) (by simp [results, Try.results18, go_sem, hr0, hr1]) rfl ⟨_, _, rfl, ?_, ?_⟩
      · have h1 : OwnT wr w1.heap.size (.slice xa xn xc) (.slice (some ⟨b1, 0, none⟩) n n) (d, sums (wmp d s.1) s.2 n j) := ⟨HO5.out, HK5.out, fun k hk e => HAP.out k hk (by simp [Value.ownBlock] at e; exact e.symm)⟩
        exact ((h1.setCell _ _ (by simp; omega)).setCell _ _ (by simp; omega)).mono (by omega)
      · exact (HBE.out.setCell (by simp) _).setCell (by simp) _
theorem wide_any {a0 a1 v : Value} {s : Ten} {d : List Int} {w : World} (ha : Tens w a0 a1 s) (hd : Ints w v d) :
    Calls Try.prog 17 #[.agg #[a0, a1], v] w fun e w' => ∃ x0 x1, e = .returned (.tuple #[.agg #[x0, x1], .int .i64 (wiE s d)]) ∧ OwnT w' w.heap.size x0 x1 (wiR s d) ∧ Below w.heap.size w w' := by
  by_cases h : wiE s d = 0
  · rw [wiR, if_pos h, h]
    exact wide_ok ha hd h
  · rw [wiR, if_neg h]
    refine (wide_bad _ ha hd rfl h).mono ?_
    rintro e w' ⟨rfl, hb⟩
    exact ⟨_, _, rfl, OwnT.nil _ _, hb⟩
theorem sumd_any {a0 a1 v : Value} {s : Ten} {d : List Int} {w : World} (ha : Tens w a0 a1 s) (hd : Ints w v d) :
    Calls Try.prog 18 #[.agg #[a0, a1], v] w fun e w' => ∃ x0 x1, e = .returned (.tuple #[.agg #[x0, x1], .int .i64 (suE s d)]) ∧ OwnT w' w.heap.size x0 x1 (suR s d) ∧ Below w.heap.size w w' := by
  by_cases h : suE s d = 0
  · rw [suR, if_pos h, h]
    exact sumd_ok ha hd h
  · rw [suR, if_neg h]
    refine (sumd_bad _ ha hd rfl h).mono ?_
    rintro e w' ⟨rfl, hb⟩
    exact ⟨_, _, rfl, OwnT.nil _ _, hb⟩
end Go.Proofs.Ytgedknmjenbacaa
