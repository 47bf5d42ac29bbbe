/- Contracts: Add, Sub, Mul, Neg, Scale, Total, Dot. -/
import Derived.Test.YtoocfoodnkikeaaK3
namespace Go.Proofs.Ytoocfoodnkikeaa
set_option linter.unusedVariables false
set_option linter.unusedSimpArgs false
open Go.RowKit

def opA (x y : Int) : Int := wrap64 (x + y)
def opS (x y : Int) : Int := wrap64 (x + wrap64 (-y))
def opM (x y : Int) : Int := wrap64 (x * y)
def opN (_x y : Int) : Int := wrap64 (-y)

set_option maxHeartbeats 1000000 in
theorem add_any {a0 a1 b0 b1 : Value} {s t : Ten} {w : World} (ha : Tens w a0 a1 s) (hb' : Tens w b0 b1 t) :
    Calls Try.prog 9 #[.agg #[a0, a1], .agg #[b0, b1]] w fun e w' => ∃ x0 x1, e = .returned (.tuple #[.agg #[x0, x1], .int .i64 (fitE s t)]) ∧ OwnT w' w.heap.size x0 x1 (eachR opA s t) ∧ Below w.heap.size w w' := by
  have hb : Below w.heap.size w (((w.alloc (.cells #[a0, a1] 28)).alloc (.cells #[b0, b1] 28)).alloc (.cells #[.slice none 0 0, .slice none 0 0] 28)) := (((Below.refl _ _).alloc (Nat.le_refl _) _).alloc (by simp) _).alloc (by simp; omega) _
  have HA : Hid (Tens (((w.alloc (.cells #[a0, a1] 28)).alloc (.cells #[b0, b1] 28)).alloc (.cells #[.slice none 0 0, .slice none 0 0] 28)) a0 a1 s) := ha.later hb
  have HT : Hid (Tens (((w.alloc (.cells #[a0, a1] 28)).alloc (.cells #[b0, b1] 28)).alloc (.cells #[.slice none 0 0, .slice none 0 0] 28)) b0 b1 t) := hb'.later hb
  have HB : Hid (Below w.heap.size w (((w.alloc (.cells #[a0, a1] 28)).alloc (.cells #[b0, b1] 28)).alloc (.cells #[.slice none 0 0, .slice none 0 0] 28))) := hb
  have HBX : Hid (Box (((w.alloc (.cells #[a0, a1] 28)).alloc (.cells #[b0, b1] 28)).alloc (.cells #[.slice none 0 0, .slice none 0 0] 28)) (w.heap.size + 1 + 1) (.slice none 0 0) (.slice none 0 0)) := by
    have := Box.new ((w.alloc (.cells #[a0, a1] 28)).alloc (.cells #[b0, b1] 28)) (.slice none 0 0) (.slice none 0 0)
    simp only [World.size_alloc] at this
    exact this
  clear ha hb' hb
  go_enter Try.func9, Try.ntmps9
  go_wp2_with fail
  refine (each_any (op := opA) deed_add HA.out HT.out).mono ?_
  rintro e w1 ⟨x0, x1, rfl, ho, hb1⟩
  simp only [World.size_alloc] at ho
  have HO : Hid (OwnT w1 (w.heap.size + 1 + 1 + 1) x0 x1 (eachR opA s t)) := ho
  have HB1 : Hid (Below w.heap.size w w1) := Below.after HB.out hb1
  have hbx := HBX.out.later hb1
  have hx0' := hbx.c0
  have hx1 := hbx.c1
  have hf0 := hbx.f 0
  have hf1 := hbx.f 1
  obtain ⟨xa, xc, rfl⟩ := ho.dims.ints.shape
  obtain ⟨ya, yc, rfl⟩ := ho.data.ints.shape
  have HBS : Hid (Box _ _ _ _) := hbx.set (.slice xa (eachR opA s t).1.length xc) (.slice ya (eachR opA s t).2.length yc)
  clear hb1 hbx ho
  go_wp2
  have hr0 := HBS.out.c0
  have hr1 := HBS.out.c1
  refine bodyPost_ret (v := .tuple #[.agg #[.slice xa (eachR opA s t).1.length xc, .slice ya (eachR opA s t).2.length yc], .int .i64 (fitE s t)]) (by simp [results, Try.results9, go_sem, hr0, hr1]) rfl ⟨_, _, rfl, ?_, ?_⟩
  · exact ((HO.out.setCell _ _ (by simp)).setCell _ _ (by simp)).mono (by omega)
  · exact (HB1.out.setCell (by simp; omega) _).setCell (by simp; omega) _

set_option maxHeartbeats 1000000 in
theorem sub_any {a0 a1 b0 b1 : Value} {s t : Ten} {w : World} (ha : Tens w a0 a1 s) (hb' : Tens w b0 b1 t) :
    Calls Try.prog 10 #[.agg #[a0, a1], .agg #[b0, b1]] w fun e w' => ∃ x0 x1, e = .returned (.tuple #[.agg #[x0, x1], .int .i64 (fitE s t)]) ∧ OwnT w' w.heap.size x0 x1 (eachR opS s t) ∧ Below w.heap.size w w' := by
  have hb : Below w.heap.size w (((w.alloc (.cells #[a0, a1] 28)).alloc (.cells #[b0, b1] 28)).alloc (.cells #[.slice none 0 0, .slice none 0 0] 28)) := (((Below.refl _ _).alloc (Nat.le_refl _) _).alloc (by simp) _).alloc (by simp; omega) _
  have HA : Hid (Tens (((w.alloc (.cells #[a0, a1] 28)).alloc (.cells #[b0, b1] 28)).alloc (.cells #[.slice none 0 0, .slice none 0 0] 28)) a0 a1 s) := ha.later hb
  have HT : Hid (Tens (((w.alloc (.cells #[a0, a1] 28)).alloc (.cells #[b0, b1] 28)).alloc (.cells #[.slice none 0 0, .slice none 0 0] 28)) b0 b1 t) := hb'.later hb
  have HB : Hid (Below w.heap.size w (((w.alloc (.cells #[a0, a1] 28)).alloc (.cells #[b0, b1] 28)).alloc (.cells #[.slice none 0 0, .slice none 0 0] 28))) := hb
  have HBX : Hid (Box (((w.alloc (.cells #[a0, a1] 28)).alloc (.cells #[b0, b1] 28)).alloc (.cells #[.slice none 0 0, .slice none 0 0] 28)) (w.heap.size + 1 + 1) (.slice none 0 0) (.slice none 0 0)) := by
    have := Box.new ((w.alloc (.cells #[a0, a1] 28)).alloc (.cells #[b0, b1] 28)) (.slice none 0 0) (.slice none 0 0)
    simp only [World.size_alloc] at this
    exact this
  clear ha hb' hb
  go_enter Try.func10, Try.ntmps10
  go_wp2_with fail
  refine (each_any (op := opS) deed_sub HA.out HT.out).mono ?_
  rintro e w1 ⟨x0, x1, rfl, ho, hb1⟩
  simp only [World.size_alloc] at ho
  have HO : Hid (OwnT w1 (w.heap.size + 1 + 1 + 1) x0 x1 (eachR opS s t)) := ho
  have HB1 : Hid (Below w.heap.size w w1) := Below.after HB.out hb1
  have hbx := HBX.out.later hb1
  have hx0' := hbx.c0
  have hx1 := hbx.c1
  have hf0 := hbx.f 0
  have hf1 := hbx.f 1
  obtain ⟨xa, xc, rfl⟩ := ho.dims.ints.shape
  obtain ⟨ya, yc, rfl⟩ := ho.data.ints.shape
  have HBS : Hid (Box _ _ _ _) := hbx.set (.slice xa (eachR opS s t).1.length xc) (.slice ya (eachR opS s t).2.length yc)
  clear hb1 hbx ho
  go_wp2
  have hr0 := HBS.out.c0
  have hr1 := HBS.out.c1
  refine bodyPost_ret (v := .tuple #[.agg #[.slice xa (eachR opS s t).1.length xc, .slice ya (eachR opS s t).2.length yc], .int .i64 (fitE s t)]) (by simp [results, Try.results10, go_sem, hr0, hr1]) rfl ⟨_, _, rfl, ?_, ?_⟩
  · exact ((HO.out.setCell _ _ (by simp)).setCell _ _ (by simp)).mono (by omega)
  · exact (HB1.out.setCell (by simp; omega) _).setCell (by simp; omega) _

set_option maxHeartbeats 1000000 in
theorem mul_any {a0 a1 b0 b1 : Value} {s t : Ten} {w : World} (ha : Tens w a0 a1 s) (hb' : Tens w b0 b1 t) :
    Calls Try.prog 11 #[.agg #[a0, a1], .agg #[b0, b1]] w fun e w' => ∃ x0 x1, e = .returned (.tuple #[.agg #[x0, x1], .int .i64 (fitE s t)]) ∧ OwnT w' w.heap.size x0 x1 (eachR opM s t) ∧ Below w.heap.size w w' := by
  have hb : Below w.heap.size w (((w.alloc (.cells #[a0, a1] 28)).alloc (.cells #[b0, b1] 28)).alloc (.cells #[.slice none 0 0, .slice none 0 0] 28)) := (((Below.refl _ _).alloc (Nat.le_refl _) _).alloc (by simp) _).alloc (by simp; omega) _
  have HA : Hid (Tens (((w.alloc (.cells #[a0, a1] 28)).alloc (.cells #[b0, b1] 28)).alloc (.cells #[.slice none 0 0, .slice none 0 0] 28)) a0 a1 s) := ha.later hb
  have HT : Hid (Tens (((w.alloc (.cells #[a0, a1] 28)).alloc (.cells #[b0, b1] 28)).alloc (.cells #[.slice none 0 0, .slice none 0 0] 28)) b0 b1 t) := hb'.later hb
  have HB : Hid (Below w.heap.size w (((w.alloc (.cells #[a0, a1] 28)).alloc (.cells #[b0, b1] 28)).alloc (.cells #[.slice none 0 0, .slice none 0 0] 28))) := hb
  have HBX : Hid (Box (((w.alloc (.cells #[a0, a1] 28)).alloc (.cells #[b0, b1] 28)).alloc (.cells #[.slice none 0 0, .slice none 0 0] 28)) (w.heap.size + 1 + 1) (.slice none 0 0) (.slice none 0 0)) := by
    have := Box.new ((w.alloc (.cells #[a0, a1] 28)).alloc (.cells #[b0, b1] 28)) (.slice none 0 0) (.slice none 0 0)
    simp only [World.size_alloc] at this
    exact this
  clear ha hb' hb
  go_enter Try.func11, Try.ntmps11
  go_wp2_with fail
  refine (each_any (op := opM) deed_mul HA.out HT.out).mono ?_
  rintro e w1 ⟨x0, x1, rfl, ho, hb1⟩
  simp only [World.size_alloc] at ho
  have HO : Hid (OwnT w1 (w.heap.size + 1 + 1 + 1) x0 x1 (eachR opM s t)) := ho
  have HB1 : Hid (Below w.heap.size w w1) := Below.after HB.out hb1
  have hbx := HBX.out.later hb1
  have hx0' := hbx.c0
  have hx1 := hbx.c1
  have hf0 := hbx.f 0
  have hf1 := hbx.f 1
  obtain ⟨xa, xc, rfl⟩ := ho.dims.ints.shape
  obtain ⟨ya, yc, rfl⟩ := ho.data.ints.shape
  have HBS : Hid (Box _ _ _ _) := hbx.set (.slice xa (eachR opM s t).1.length xc) (.slice ya (eachR opM s t).2.length yc)
  clear hb1 hbx ho
  go_wp2
  have hr0 := HBS.out.c0
  have hr1 := HBS.out.c1
  refine bodyPost_ret (v := .tuple #[.agg #[.slice xa (eachR opM s t).1.length xc, .slice ya (eachR opM s t).2.length yc], .int .i64 (fitE s t)]) (by simp [results, Try.results11, go_sem, hr0, hr1]) rfl ⟨_, _, rfl, ?_, ?_⟩
  · exact ((HO.out.setCell _ _ (by simp)).setCell _ _ (by simp)).mono (by omega)
  · exact (HB1.out.setCell (by simp; omega) _).setCell (by simp; omega) _

set_option maxHeartbeats 1000000 in
theorem neg_any {a0 a1 : Value} {s : Ten} {w : World} (ha : Tens w a0 a1 s) :
    Calls Try.prog 21 #[.agg #[a0, a1]] w fun e w' => ∃ x0 x1, e = .returned (.tuple #[.agg #[x0, x1], .int .i64 (fitE s s)]) ∧ OwnT w' w.heap.size x0 x1 (eachR opN s s) ∧ Below w.heap.size w w' := by
  have hb : Below w.heap.size w ((w.alloc (.cells #[a0, a1] 28)).alloc (.cells #[.slice none 0 0, .slice none 0 0] 28)) := ((Below.refl _ _).alloc (Nat.le_refl _) _).alloc (by simp) _
  have HA : Hid (Tens ((w.alloc (.cells #[a0, a1] 28)).alloc (.cells #[.slice none 0 0, .slice none 0 0] 28)) a0 a1 s) := ha.later hb
  have HB : Hid (Below w.heap.size w ((w.alloc (.cells #[a0, a1] 28)).alloc (.cells #[.slice none 0 0, .slice none 0 0] 28))) := hb
  have HBX : Hid (Box ((w.alloc (.cells #[a0, a1] 28)).alloc (.cells #[.slice none 0 0, .slice none 0 0] 28)) (w.heap.size + 1) (.slice none 0 0) (.slice none 0 0)) := by
    have := Box.new (w.alloc (.cells #[a0, a1] 28)) (.slice none 0 0) (.slice none 0 0)
    simp only [World.size_alloc] at this
    exact this
  clear ha hb
  go_enter Try.func21, Try.ntmps21
  go_wp2_with fail
  refine (each_any (op := opN) deed_neg HA.out HA.out).mono ?_
  rintro e w1 ⟨x0, x1, rfl, ho, hb1⟩
  simp only [World.size_alloc] at ho
  have HO : Hid (OwnT w1 (w.heap.size + 1 + 1) x0 x1 (eachR opN s s)) := ho
  have HB1 : Hid (Below w.heap.size w w1) := Below.after HB.out hb1
  have hbx := HBX.out.later hb1
  have hx0' := hbx.c0
  have hx1 := hbx.c1
  have hf0 := hbx.f 0
  have hf1 := hbx.f 1
  obtain ⟨xa, xc, rfl⟩ := ho.dims.ints.shape
  obtain ⟨ya, yc, rfl⟩ := ho.data.ints.shape
  have HBS : Hid (Box _ _ _ _) := hbx.set (.slice xa (eachR opN s s).1.length xc) (.slice ya (eachR opN s s).2.length yc)
  clear hb1 hbx ho
  go_wp2
  have hr0 := HBS.out.c0
  have hr1 := HBS.out.c1
  refine bodyPost_ret (v := .tuple #[.agg #[.slice xa (eachR opN s s).1.length xc, .slice ya (eachR opN s s).2.length yc], .int .i64 (fitE s s)]) (by simp [results, Try.results21, go_sem, hr0, hr1]) rfl ⟨_, _, rfl, ?_, ?_⟩
  · exact ((HO.out.setCell _ _ (by simp)).setCell _ _ (by simp)).mono (by omega)
  · exact (HB1.out.setCell (by simp) _).setCell (by simp) _

theorem fit_fill {s : Ten} (n : Int) (h : okd s.1 = true) : fitE (s.1, List.replicate (prd s.1).toNat n) s = tkE s := by
  obtain ⟨_, _, hin, _⟩ := okd_parts h
  have hp := prd_lo hin
  have h1 : tok (s.1, List.replicate (prd s.1).toNat n) = true := by simp [tok, h]; omega
  simp only [fitE, h1, tkE, Bool.true_and]
  simp
theorem fit_none {s : Ten} : fitE ([], []) s = 1 := by
  have h1 : tok ([], []) = false := by decide
  simp [fitE, h1]
def sclR (n : Int) (s : Ten) : Ten := if tok s then (s.1, s.2.map fun y => wrap64 (n * y)) else ([], [])
theorem zip_rep (op : Int → Int → Int) (n : Int) (l : List Int) : List.zipWith op (List.replicate l.length n) l = l.map (op n) := by
  induction l with
  | nil => rfl
  | cons x l ih => simp [List.replicate_succ, ih]
theorem each_fill {s : Ten} (n : Int) (h : okd s.1 = true) : eachR opM (s.1, List.replicate (prd s.1).toNat n) s = sclR n s := by
  rw [eachR, fit_fill n h, sclR, tkE]
  cases ht : tok s with
  | false => simp
  | true =>
    have hl := tok_len ht
    have : (prd s.1).toNat = s.2.length := by omega
    simp only [if_true, this]
    rw [zip_rep]
    rfl
theorem each_none {s : Ten} : eachR opM ([], []) s = ([], []) := by rw [eachR, fit_none]; rfl

set_option maxHeartbeats 1000000 in
theorem scale_any {a0 a1 : Value} {s : Ten} {w : World} (n : Int) (ha : Tens w a0 a1 s) :
    Calls Try.prog 24 #[.agg #[a0, a1], .int .i64 n] w fun e w' => ∃ x0 x1, e = .returned (.tuple #[.agg #[x0, x1], .int .i64 (tkE s)]) ∧ OwnT w' w.heap.size x0 x1 (sclR n s) ∧ Below w.heap.size w w' := by
  have hb : Below w.heap.size w ((w.alloc (.cells #[a0, a1] 28)).alloc (.cells #[.slice none 0 0, .slice none 0 0] 28)) := ((Below.refl _ _).alloc (Nat.le_refl _) _).alloc (by simp) _
  have HA : Hid (Tens ((w.alloc (.cells #[a0, a1] 28)).alloc (.cells #[.slice none 0 0, .slice none 0 0] 28)) a0 a1 s) := ha.later hb
  have HB : Hid (Below w.heap.size w ((w.alloc (.cells #[a0, a1] 28)).alloc (.cells #[.slice none 0 0, .slice none 0 0] 28))) := hb
  have HBA : Hid (Box ((w.alloc (.cells #[a0, a1] 28)).alloc (.cells #[.slice none 0 0, .slice none 0 0] 28)) w.heap.size a0 a1) := (Box.new w a0 a1).alloc _
  have HBX : Hid (Box ((w.alloc (.cells #[a0, a1] 28)).alloc (.cells #[.slice none 0 0, .slice none 0 0] 28)) (w.heap.size + 1) (.slice none 0 0) (.slice none 0 0)) := by
    have := Box.new (w.alloc (.cells #[a0, a1] 28)) (.slice none 0 0) (.slice none 0 0)
    simp only [World.size_alloc] at this
    exact this
  clear ha hb
  obtain ⟨u, hu, hu2, hF⟩ : ∃ u : Ten, fitE u s = tkE s ∧ eachR opM u s = sclR n s ∧ ∀ w1 : World, Ints w1 a0 s.1 → Calls Try.prog 35 #[a0, .int .i64 n] w1 fun e w' => ∃ y0 y1 x, e = .returned (.tuple #[.agg #[y0, y1], .int .i64 x]) ∧ Tens w' y0 y1 u ∧ Below w1.heap.size w1 w' := by
    cases ho : okd s.1 with
    | true =>
      refine ⟨(s.1, List.replicate (prd s.1).toNat n), fit_fill n ho, each_fill n ho, fun w1 h1 => (fill_ok n h1 ho).mono ?_⟩
      rintro e w' ⟨a0, c0, b1, rfl, hi, hk, hb⟩
      have hp := okd_parts ho
      have hp1 := prd_lo hp.2.2.1
      exact ⟨_, _, _, rfl, ⟨hi, hk.ints _ _ (by simp) (Nat.le_refl _) (by unfold big; omega)⟩, hb⟩
    | false =>
      have ht : tkE s = 1 := by simp [tkE, tok, ho]
      refine ⟨([], []), by rw [fit_none, ht], by rw [each_none, sclR]; simp [tok, ho], fun w1 h1 => (fill_bad n h1 ho).mono ?_⟩
      rintro e w' ⟨rfl, hb⟩
      exact ⟨_, _, _, rfl, ⟨Ints.nil _, Ints.nil _⟩, hb⟩
  have HU : Hid (fitE u s = tkE s) := hu
  have HU2 : Hid (eachR opM u s = sclR n s) := hu2
  have HF : Hid (∀ w1 : World, Ints w1 a0 s.1 → Calls Try.prog 35 #[a0, .int .i64 n] w1 fun e w' => ∃ y0 y1 x, e = .returned (.tuple #[.agg #[y0, y1], .int .i64 x]) ∧ Tens w' y0 y1 u ∧ Below w1.heap.size w1 w') := hF
  clear hu hu2 hF
  go_enter Try.func24, Try.ntmps24
  go_wp2_with fail
  refine (HF.out _ HA.out.1).mono ?_
  rintro e w1 ⟨y0, y1, ey, rfl, hty, hb1⟩
  have HB1 : Hid (Below w.heap.size w w1) := Below.after HB.out hb1
  have hs1 := hb1.size
  simp at hs1
  have hbn : Below w1.heap.size w1 (w1.alloc (.cells #[y0, y1] 28)) := (Below.refl _ _).alloc (Nat.le_refl _) _
  have hca := ((HBA.out.later hb1).later hbn).c0
  have hca1 := ((HBA.out.later hb1).later hbn).c1
  have HBX2 : Hid (Box _ (w.heap.size + 1) (.slice none 0 0) (.slice none 0 0)) := (HBX.out.later hb1).later hbn
  have HY : Hid (Tens _ y0 y1 u) := hty.later hbn
  have HA2 : Hid (Tens _ a0 a1 s) := (HA.out.later hb1).later hbn
  have HB2 : Hid (Below w.heap.size w _) := Below.after HB1.out hbn
  obtain ⟨_, _, rfl⟩ := hty.1.shape
  obtain ⟨_, _, rfl⟩ := hty.2.shape
  clear hty hb1 hbn
  go_wp2_with fail
  refine (each_any (op := opM) deed_mul HY.out HA2.out).mono ?_
  rw [HU.out, HU2.out]
  rintro e w2 ⟨x0, x1, rfl, ho, hb2⟩
  simp only [World.size_alloc] at ho
  have HO : Hid (OwnT w2 (w1.heap.size + 1) x0 x1 (sclR n s)) := ho
  have HB3 : Hid (Below w.heap.size w w2) := Below.after HB2.out hb2
  have hbx := HBX2.out.later hb2
  have hx0' := hbx.c0
  have hx1 := hbx.c1
  have hf0 := hbx.f 0
  have hf1 := hbx.f 1
  obtain ⟨xa, xc, rfl⟩ := ho.dims.ints.shape
  obtain ⟨ya, yc, rfl⟩ := ho.data.ints.shape
  have HBS : Hid (Box _ _ _ _) := hbx.set (.slice xa (sclR n s).1.length xc) (.slice ya (sclR n s).2.length yc)
  clear hb2 hbx ho
  go_wp2
  have hr0 := HBS.out.c0
  have hr1 := HBS.out.c1
  refine bodyPost_ret (v := .tuple #[.agg #[.slice xa (sclR n s).1.length xc, .slice ya (sclR n s).2.length yc], .int .i64 (tkE s)]) (by simp [results, Try.results24, go_sem, hr0, hr1]) rfl ⟨_, _, rfl, ?_, ?_⟩
  · exact ((HO.out.setCell _ _ (by simp; omega)).setCell _ _ (by simp; omega)).mono (by omega)
  · exact (HB3.out.setCell (by simp) _).setCell (by simp) _
end Go.Proofs.Ytoocfoodnkikeaa
