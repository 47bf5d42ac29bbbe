/- Part 5 of the texts that the theorem leans on. -/
import Derived.Test.YtkojdigaoihkpaaGreatDoorA04
section
namespace Go.Proofs.YtkojdigaoihkpaaGreatDoor
set_option linter.unusedVariables false
set_option linter.unusedSimpArgs false
set_option maxRecDepth 100000
open Go.RowKit

theorem sumd_to {a0 a1 v : Value} {s : Ten} {d : List Int} {w : World} (x : Int) (u : Ten) (ha : Tens w a0 a1 s) (hd : Ints w v d) (hx : suE s d = x) (hu : suR s d = u) :
    Calls Tryz.prog 138 #[.agg #[a0, a1], v] w fun e w' => ∃ x0 x1, e = .returned (.tuple #[.agg #[x0, x1], .int .i64 x]) ∧ OwnT w' w.heap.size x0 x1 u ∧ Below w.heap.size w w' := by
  subst hx hu
  exact sumd_any ha hd
theorem wide_to {a0 a1 v : Value} {s : Ten} {d : List Int} {w : World} (x : Int) (u : Ten) (ha : Tens w a0 a1 s) (hd : Ints w v d) (hx : wiE s d = x) (hu : wiR s d = u) :
    Calls Tryz.prog 137 #[.agg #[a0, a1], v] w fun e w' => ∃ x0 x1, e = .returned (.tuple #[.agg #[x0, x1], .int .i64 x]) ∧ OwnT w' w.heap.size x0 x1 u ∧ Below w.heap.size w w' := by
  subst hx hu
  exact wide_any ha hd
theorem shape_to {a0 a1 v : Value} {s : Ten} {d : List Int} {w : World} (x : Int) (u : Ten) (ha : Tens w a0 a1 s) (hd : Ints w v d) (hx : shE s d = x) (hu : shR s d = u) :
    Calls Tryz.prog 136 #[.agg #[a0, a1], v] w fun e w' => ∃ x0 x1, e = .returned (.tuple #[.agg #[x0, x1], .int .i64 x]) ∧ OwnT w' w.heap.size x0 x1 u ∧ Below w.heap.size w w' := by
  subst hx hu
  exact shape_any ha hd
set_option maxHeartbeats 1000000 in
theorem sub_any {a0 a1 b0 b1 : Value} {s t : Ten} {w : World} (ha : Tens w a0 a1 s) (hb' : Tens w b0 b1 t) :
    Calls Tryz.prog 130 #[.agg #[a0, a1], .agg #[b0, b1]] w fun e w' => ∃ x0 x1, e = .returned (.tuple #[.agg #[x0, x1], .int .i64 (fitE s t)]) ∧ OwnT w' w.heap.size x0 x1 (eachR opS s t) ∧ Below w.heap.size w w' := by
  have hb : Below w.heap.size w (((w.alloc (.cells #[a0, a1] 156)).alloc (.cells #[b0, b1] 156)).alloc (.cells #[.slice none 0 0, .slice none 0 0] 156)) := (((Below.refl _ _).alloc (Nat.le_refl _) _).alloc (by simp) _).alloc (by simp; omega) _
  have HA : Hid (Tens (((w.alloc (.cells #[a0, a1] 156)).alloc (.cells #[b0, b1] 156)).alloc (.cells #[.slice none 0 0, .slice none 0 0] 156)) a0 a1 s) := ha.later hb
  have HT : Hid (Tens (((w.alloc (.cells #[a0, a1] 156)).alloc (.cells #[b0, b1] 156)).alloc (.cells #[.slice none 0 0, .slice none 0 0] 156)) b0 b1 t) := hb'.later hb
  have HB : Hid (Below w.heap.size w (((w.alloc (.cells #[a0, a1] 156)).alloc (.cells #[b0, b1] 156)).alloc (.cells #[.slice none 0 0, .slice none 0 0] 156))) := hb
  have HBX : Hid (Box (((w.alloc (.cells #[a0, a1] 156)).alloc (.cells #[b0, b1] 156)).alloc (.cells #[.slice none 0 0, .slice none 0 0] 156)) (w.heap.size + 1 + 1) (.slice none 0 0) (.slice none 0 0)) := by
    have := Box.new ((w.alloc (.cells #[a0, a1] 156)).alloc (.cells #[b0, b1] 156)) (.slice none 0 0) (.slice none 0 0)
    simp only [World.size_alloc] at this
    exact this
  clear ha hb' hb
  go_enter Tryz.func130, Tryz.ntmps130
  go_wp2_with fail
  refine (each_any (op := opS) deed_sub HA.out HT.out).mono ?_
  rintro e w1 ⟨x0, x1, rfl, ho, hb1⟩
  simp only [World.size_alloc] at ho
  have HO : Hid (OwnT w1 (w.heap.size + 1 + 1 + 1) x0 x1 (eachR opS s t)) := ho
  have HB1 : Hid (Below w.heap.size w w1) := Below.after HB.out hb1
  have hbx := HBX.out.later hb1
  have hx0' := hbx.c0
  have hx1 := hbx.c1
  have hf0 := hbx.f 0
  have hf1 := hbx.f 1
  obtain ⟨xa, xc, rfl⟩ := ho.dims.ints.shape
  obtain ⟨ya, yc, rfl⟩ := ho.data.ints.shape
  have HBS : Hid (Box _ _ _ _) := hbx.set (.slice xa (eachR opS s t).1.length xc) (.slice ya (eachR opS s t).2.length yc)
  clear hb1 hbx ho
  go_wp2
  have hr0 := HBS.out.c0
  have hr1 := HBS.out.c1
  refine bodyPost_ret (v := .tuple #[.agg #[.slice xa (eachR opS s t).1.length xc, .slice ya (eachR opS s t).2.length yc], .int .i64 (fitE s t)]) (by simp [results, Tryz.results130, go_sem, hr0, hr1]) rfl ⟨_, _, rfl, ?_, ?_⟩
  · exact ((HO.out.setCell _ _ (by simp)).setCell _ _ (by simp)).mono (by omega)
  · exact (HB1.out.setCell (by simp; omega) _).setCell (by simp; omega) _
set_option maxHeartbeats 1000000 in
theorem neg_any {a0 a1 : Value} {s : Ten} {w : World} (ha : Tens w a0 a1 s) :
    Calls Tryz.prog 132 #[.agg #[a0, a1]] w fun e w' => ∃ x0 x1, e = .returned (.tuple #[.agg #[x0, x1], .int .i64 (fitE s s)]) ∧ OwnT w' w.heap.size x0 x1 (eachR opN s s) ∧ Below w.heap.size w w' := by
  have hb : Below w.heap.size w ((w.alloc (.cells #[a0, a1] 156)).alloc (.cells #[.slice none 0 0, .slice none 0 0] 156)) := ((Below.refl _ _).alloc (Nat.le_refl _) _).alloc (by simp) _
  have HA : Hid (Tens ((w.alloc (.cells #[a0, a1] 156)).alloc (.cells #[.slice none 0 0, .slice none 0 0] 156)) a0 a1 s) := ha.later hb
  have HB : Hid (Below w.heap.size w ((w.alloc (.cells #[a0, a1] 156)).alloc (.cells #[.slice none 0 0, .slice none 0 0] 156))) := hb
  have HBX : Hid (Box ((w.alloc (.cells #[a0, a1] 156)).alloc (.cells #[.slice none 0 0, .slice none 0 0] 156)) (w.heap.size + 1) (.slice none 0 0) (.slice none 0 0)) := by
    have := Box.new (w.alloc (.cells #[a0, a1] 156)) (.slice none 0 0) (.slice none 0 0)
    simp only [World.size_alloc] at this
    exact this
  clear ha hb
  go_enter Tryz.func132, Tryz.ntmps132
  go_wp2_with fail
  refine (each_any (op := opN) deed_neg HA.out HA.out).mono ?_
  rintro e w1 ⟨x0, x1, rfl, ho, hb1⟩
  simp only [World.size_alloc] at ho
  have HO : Hid (OwnT w1 (w.heap.size + 1 + 1) x0 x1 (eachR opN s s)) := ho
  have HB1 : Hid (Below w.heap.size w w1) := Below.after HB.out hb1
  have hbx := HBX.out.later hb1
  have hx0' := hbx.c0
  have hx1 := hbx.c1
  have hf0 := hbx.f 0
  have hf1 := hbx.f 1
  obtain ⟨xa, xc, rfl⟩ := ho.dims.ints.shape
  obtain ⟨ya, yc, rfl⟩ := ho.data.ints.shape
  have HBS : Hid (Box _ _ _ _) := hbx.set (.slice xa (eachR opN s s).1.length xc) (.slice ya (eachR opN s s).2.length yc)
  clear hb1 hbx ho
  go_wp2
  have hr0 := HBS.out.c0
  have hr1 := HBS.out.c1
  refine bodyPost_ret (v := .tuple #[.agg #[.slice xa (eachR opN s s).1.length xc, .slice ya (eachR opN s s).2.length yc], .int .i64 (fitE s s)]) (by simp [results, Tryz.results132, go_sem, hr0, hr1]) rfl ⟨_, _, rfl, ?_, ?_⟩
  · exact ((HO.out.setCell _ _ (by simp)).setCell _ _ (by simp)).mono (by omega)
  · exact (HB1.out.setCell (by simp) _).setCell (by simp) _
set_option maxHeartbeats 1000000 in
theorem scale_any {a0 a1 : Value} {s : Ten} {w : World} (n : Int) (ha : Tens w a0 a1 s) :
    Calls Tryz.prog 133 #[.agg #[a0, a1], .int .i64 n] w fun e w' => ∃ x0 x1, e = .returned (.tuple #[.agg #[x0, x1], .int .i64 (tkE s)]) ∧ OwnT w' w.heap.size x0 x1 (sclR n s) ∧ Below w.heap.size w w' := by
  have hb : Below w.heap.size w ((w.alloc (.cells #[a0, a1] 156)).alloc (.cells #[.slice none 0 0, .slice none 0 0] 156)) := ((Below.refl _ _).alloc (Nat.le_refl _) _).alloc (by simp) _
  have HA : Hid (Tens ((w.alloc (.cells #[a0, a1] 156)).alloc (.cells #[.slice none 0 0, .slice none 0 0] 156)) a0 a1 s) := ha.later hb
  have HB : Hid (Below w.heap.size w ((w.alloc (.cells #[a0, a1] 156)).alloc (.cells #[.slice none 0 0, .slice none 0 0] 156))) := hb
  have HBA : Hid (Box ((w.alloc (.cells #[a0, a1] 156)).alloc (.cells #[.slice none 0 0, .slice none 0 0] 156)) w.heap.size a0 a1) := (Box.new w a0 a1).alloc _
  have HBX : Hid (Box ((w.alloc (.cells #[a0, a1] 156)).alloc (.cells #[.slice none 0 0, .slice none 0 0] 156)) (w.heap.size + 1) (.slice none 0 0) (.slice none 0 0)) := by
    have := Box.new (w.alloc (.cells #[a0, a1] 156)) (.slice none 0 0) (.slice none 0 0)
    simp only [World.size_alloc] at this
    exact this
  clear ha hb
  obtain ⟨u, hu, hu2, hF⟩ : ∃ u : Ten, fitE u s = tkE s ∧ eachR opM u s = sclR n s ∧ ∀ w1 : World, Ints w1 a0 s.1 → Calls Tryz.prog 115 #[a0, .int .i64 n] w1 fun e w' => ∃ y0 y1 x, e = .returned (.tuple #[.agg #[y0, y1], .int .i64 x]) ∧ Tens w' y0 y1 u ∧ Below w1.heap.size w1 w' := by
    cases ho : okd s.1 with
    | true =>
      refine ⟨(s.1, List.replicate (prd s.1).toNat n), fit_fill n ho, each_fill n ho, fun w1 h1 => (fill_ok n h1 ho).mono ?_⟩
      rintro e w' ⟨a0, c0, b1, rfl, hi, hk, hb⟩
      have hp := okd_parts ho
      have hp1 := prd_lo hp.2.2.1
      exact ⟨_, _, _, rfl, ⟨hi, hk.ints _ _ (by simp) (Nat.le_refl _) (by unfold big; omega)⟩, hb⟩
    | false =>
      have ht : tkE s = 1 := by simp [tkE, tok, ho]
      refine ⟨([], []), by rw [fit_none, ht], by rw [each_none, sclR]; simp [tok, ho], fun w1 h1 => (fill_bad n h1 ho).mono ?_⟩
      rintro e w' ⟨rfl, hb⟩
      exact ⟨_, _, _, rfl, ⟨Ints.nil _, Ints.nil _⟩, hb⟩
  have HU : Hid (fitE u s = tkE s) := hu
  have HU2 : Hid (eachR opM u s = sclR n s) := hu2
  have HF : Hid (∀ w1 : World, Ints w1 a0 s.1 → Calls Tryz.prog 115 #[a0, .int .i64 n] w1 fun e w' => ∃ y0 y1 x, e = .returned (.tuple #[.agg #[y0, y1], .int .i64 x]) ∧ Tens w' y0 y1 u ∧ Below w1.heap.size w1 w') := hF
  clear hu hu2 hF
  go_enter Tryz.func133, Tryz.ntmps133
  go_wp2_with fail
  refine (HF.out _ HA.out.1).mono ?_
  rintro e w1 ⟨y0, y1, ey, rfl, hty, hb1⟩
  have HB1 : Hid (Below w.heap.size w w1) := Below.after HB.out hb1
  have hs1 := hb1.size
  simp at hs1
  have hbn : Below w1.heap.size w1 (w1.alloc (.cells #[y0, y1] 156)) := (Below.refl _ _).alloc (Nat.le_refl _) _
  have hca := ((HBA.out.later hb1).later hbn).c0
  have hca1 := ((HBA.out.later hb1).later hbn).c1
  have HBX2 : Hid (Box _ (w.heap.size + 1) (.slice none 0 0) (.slice none 0 0)) := (HBX.out.later hb1).later hbn
  have HY : Hid (Tens _ y0 y1 u) := hty.later hbn
  have HA2 : Hid (Tens _ a0 a1 s) := (HA.out.later hb1).later hbn
  have HB2 : Hid (Below w.heap.size w _) := Below.after HB1.out hbn
  obtain ⟨_, _, rfl⟩ := hty.1.shape
  obtain ⟨_, _, rfl⟩ := hty.2.shape
  clear hty hb1 hbn
  go_wp2_with fail
  refine (each_any (op := opM) deed_mul HY.out HA2.out).mono ?_
  rw [HU.out, HU2.out]
  rintro e w2 ⟨x0, x1, rfl, ho, hb2⟩
  simp only [World.size_alloc] at ho
  have HO : Hid (OwnT w2 (w1.heap.size + 1) x0 x1 (sclR n s)) := ho
  have HB3 : Hid (Below w.heap.size w w2) := Below.after HB2.out hb2
  have hbx := HBX2.out.later hb2
  have hx0' := hbx.c0
  have hx1 := hbx.c1
  have hf0 := hbx.f 0
  have hf1 := hbx.f 1
  obtain ⟨xa, xc, rfl⟩ := ho.dims.ints.shape
  obtain ⟨ya, yc, rfl⟩ := ho.data.ints.shape
  have HBS : Hid (Box _ _ _ _) := hbx.set (.slice xa (sclR n s).1.length xc) (.slice ya (sclR n s).2.length yc)
  clear hb2 hbx ho
  go_wp2
  have hr0 := HBS.out.c0
  have hr1 := HBS.out.c1
  refine bodyPost_ret (v := .tuple #[.agg #[.slice xa (sclR n s).1.length xc, .slice ya (sclR n s).2.length yc], .int .i64 (tkE s)]) (by simp [results, Tryz.results133, go_sem, hr0, hr1]) rfl ⟨_, _, rfl, ?_, ?_⟩
  · exact ((HO.out.setCell _ _ (by simp; omega)).setCell _ _ (by simp; omega)).mono (by omega)
  · exact (HB3.out.setCell (by simp) _).setCell (by simp) _
theorem sub_to {a0 a1 b0 b1 : Value} {s t : Ten} {w : World} (x : Int) (u : Ten) (ha : Tens w a0 a1 s) (hb' : Tens w b0 b1 t) (hx : fitE s t = x) (hu : eachR opS s t = u) :
    Calls Tryz.prog 130 #[.agg #[a0, a1], .agg #[b0, b1]] w fun e w' => ∃ x0 x1, e = .returned (.tuple #[.agg #[x0, x1], .int .i64 x]) ∧ OwnT w' w.heap.size x0 x1 u ∧ Below w.heap.size w w' := by
  subst hx hu
  exact sub_any ha hb'
theorem neg_to {a0 a1 : Value} {s : Ten} {w : World} (x : Int) (u : Ten) (ha : Tens w a0 a1 s) (hx : fitE s s = x) (hu : eachR opN s s = u) :
    Calls Tryz.prog 132 #[.agg #[a0, a1]] w fun e w' => ∃ x0 x1, e = .returned (.tuple #[.agg #[x0, x1], .int .i64 x]) ∧ OwnT w' w.heap.size x0 x1 u ∧ Below w.heap.size w w' := by
  subst hx hu
  exact neg_any ha
theorem scale_to {a0 a1 : Value} {s : Ten} {w : World} (n x : Int) (ha : Tens w a0 a1 s) (hx : tkE s = x) :
    Calls Tryz.prog 133 #[.agg #[a0, a1], .int .i64 n] w fun e w' => ∃ x0 x1, e = .returned (.tuple #[.agg #[x0, x1], .int .i64 x]) ∧ OwnT w' w.heap.size x0 x1 (sclR n s) ∧ Below w.heap.size w w' := by
  subst hx
  exact scale_any n ha
/-- The error that the layers below tell of a kind. -/
def vE (k : Nat) (n : Int) (d : List Int) (s t : Ten) : Int :=
  match k with
  | 3 => erf d
  | 4 => fitE s t
  | 5 => fitE s t
  | 6 => fitE s t
  | 7 => fitE s s
  | 8 => tkE s
  | 9 => muE s t
  | 10 => trE s
  | 11 => shE s d
  | 12 => wiE s d
  | 13 => suE s d
  | 14 => tkE s
  | 15 => fwE s n
  | 16 => fitE s t
  | 17 => pkE s t n
  | _ => 1
/-- What they tell. -/
def vR (k : Nat) (n : Int) (d : List Int) (s t : Ten) : Ten :=
  match k with
  | 3 => if okd d then (d, List.replicate (prd d).toNat n) else ([], [])
  | 4 => eachR opA s t
  | 5 => eachR opS s t
  | 6 => eachR opM s t
  | 7 => eachR opN s s
  | 8 => sclR n s
  | 9 => muR s t
  | 10 => trR s
  | 11 => shR s d
  | 12 => wiR s d
  | 13 => suR s d
  | 14 => eachR opG s s
  | 15 => mxR s n
  | 16 => eachR opG s t
  | 17 => pkR s t n
  | _ => ([], [])
def many (k : Nat) : Nat := if k ≤ 3 then 0 else if k = 4 ∨ k = 5 ∨ k = 6 ∨ k = 9 ∨ k = 16 ∨ k = 17 then 2 else 1
def asked (k : Nat) : Bool := decide (k ≤ 3 ∨ (11 ≤ k ∧ k ≤ 13))
def nok (k : Nat) (n : Int) : Bool := if k = 3 ∨ k = 8 then true else if k = 15 ∨ k = 17 then decide (1 ≤ n ∧ n ≤ 8) else decide (n = 0)
def dok (k : Nat) (d : List Int) : Bool := if asked k then okd d else decide (d.length = 0)
/-- Are a node's number, dims and how many it is made of of its kind's form? -/
def frmN (k : Nat) (n : Int) (d : List Int) (c : Nat) : Bool := decide (c = many k) && dok k d && nok k n
def frm (k n : Int) (d : List Int) (c : Nat) : Bool := decide (1 ≤ k ∧ k ≤ 17) && frmN k.toNat n d c
def frE (k n : Int) (d : List Int) (c : Nat) : Int := if frm k n d c then 0 else 1
def zT (p : List Int) : Ten := (p, List.replicate (prd p).toNat 0)
def no : Ten := ([], [])
theorem tok_zT {p : List Int} (h : okd p = true) : tok (zT p) = true := by
  have h1 := prd_lo (okd_parts h).2.2.1
  simp only [tok, zT, h, Bool.true_and, List.length_replicate, decide_eq_true_eq]
  omega
/-- Dims' error and answer. -/
def diE (k n : Int) (d : List Int) (L : List (List Int)) : Int :=
  if frm k n d L.length = true then (if k < 3 then 0 else if L.all okd = true then vE k.toNat n d ((L.map zT).getD 0 no) ((L.map zT).getD 1 no) else 1) else 1
def diR (k n : Int) (d : List Int) (L : List (List Int)) : List Int :=
  if frm k n d L.length = true then (if k < 3 then d else if L.all okd = true then (vR k.toNat n d ((L.map zT).getD 0 no) ((L.map zT).getD 1 no)).1 else []) else []
/-- May a node be; which dims, where they go together. -/
def may (k n : Int) (d : List Int) (L : List (List Int)) : Bool := frm k n d L.length && L.all okd
def inf (k : Nat) (n : Int) (d : List Int) (a b : List Int) : Bool :=
  match k with
  | 4 => a == b
  | 5 => a == b
  | 6 => a == b
  | 9 => decide (a.length = 2 ∧ b.length = 2 ∧ a.getD 1 0 = b.getD 0 0)
  | 10 => decide (a.length = 2)
  | 11 => prd d == prd a
  | 12 => wid a d
  | 13 => wid d a
  | 15 => decide (lastD a % n = 0)
  | 16 => a == b
  | 17 => decide (lastD a % n = 0 ∧ lesD a n = b)
  | _ => true
def inD (k : Nat) (n : Int) (d : List Int) (a b : List Int) : List Int :=
  match k with
  | 1 => d
  | 2 => d
  | 3 => d
  | 9 => [a.getD 0 0, b.getD 1 0]
  | 10 => [a.getD 1 0, a.getD 0 0]
  | 11 => d
  | 12 => d
  | 13 => d
  | 15 => lesD a n
  | _ => a
/-- The errors that the layers below tell hang on the dims alone. -/
theorem vE_inf {k : Nat} {n : Int} {d : List Int} {s t : Ten} (h3 : 3 ≤ k) (h17 : k ≤ 17) (hd : dok k d = true) (hn : nok k n = true) (hs : many k = 0 ∨ tok s = true) (ht : many k ≤ 1 ∨ tok t = true) :
    vE k n d s t = (if inf k n d s.1 t.1 then 0 else 4) ∧ vR k n d s t = (if inf k n d s.1 t.1 then (inD k n d s.1 t.1, (vR k n d s t).2) else ([], [])) := by
  have hk : k = 3 ∨ k = 4 ∨ k = 5 ∨ k = 6 ∨ k = 7 ∨ k = 8 ∨ k = 9 ∨ k = 10 ∨ k = 11 ∨ k = 12 ∨ k = 13 ∨ k = 14 ∨ k = 15 ∨ k = 16 ∨ k = 17 := by omega
  have hl : ∀ {a : List Int} {l : List Int}, tok (a, l) = true → (l.length : Int) = prd a := fun h => tok_len h
  rcases hk with rfl | rfl | rfl | rfl | rfl | rfl | rfl | rfl | rfl | rfl | rfl | rfl | rfl | rfl | rfl
  · have hd' : okd d = true := hd
    simp [vE, vR, inf, inD, erf, hd']
  · have h1 : tok s = true := by simpa [many] using hs
    have h2 : tok t = true := by simpa [many] using ht
    by_cases e : s.1 = t.1 <;> simp [vE, vR, inf, inD, eachR, fitE, h1, h2, e]
  · have h1 : tok s = true := by simpa [many] using hs
    have h2 : tok t = true := by simpa [many] using ht
    by_cases e : s.1 = t.1 <;> simp [vE, vR, inf, inD, eachR, fitE, h1, h2, e]
  · have h1 : tok s = true := by simpa [many] using hs
    have h2 : tok t = true := by simpa [many] using ht
    by_cases e : s.1 = t.1 <;> simp [vE, vR, inf, inD, eachR, fitE, h1, h2, e]
  · have h1 : tok s = true := by simpa [many] using hs
    simp [vE, vR, inf, inD, eachR, fitE, h1]
  · have h1 : tok s = true := by simpa [many] using hs
    simp [vE, vR, inf, inD, sclR, tkE, h1]
  · have h1 : tok s = true := by simpa [many] using hs
    have h2 : tok t = true := by simpa [many] using ht
    by_cases e : s.1.length = 2 ∧ t.1.length = 2 ∧ s.1.getD 1 0 = t.1.getD 0 0
    · have em : muE s t = 0 := by rw [muE, if_pos ⟨h1, h2⟩, if_pos e]
      have ei : inf 9 n d s.1 t.1 = true := by simp only [inf]; exact decide_eq_true e
      simp [vE, vR, muR, em, ei, inD]
    · have em : muE s t = 4 := by rw [muE, if_pos ⟨h1, h2⟩, if_neg e]
      have ei : inf 9 n d s.1 t.1 = false := by simp only [inf]; exact decide_eq_false e
      simp [vE, vR, muR, em, ei]
  · have h1 : tok s = true := by simpa [many] using hs
    by_cases e : s.1.length = 2
    · have em : trE s = 0 := by simp [trE, h1, e]
      simp [vE, vR, inf, inD, trR, em, e]
    · have em : trE s = 4 := by simp [trE, h1, e]
      simp [vE, vR, inf, inD, trR, em, e]
  · have h1 : tok s = true := by simpa [many] using hs
    have hd' : okd d = true := hd
    have hl := tok_len h1
    by_cases e : prd d = prd s.1
    · have em : shE s d = 0 := by simp [shE, h1, hd', hl, e]
      simp [vE, vR, inf, inD, shR, em, e]
    · have e' : ¬ prd s.1 = prd d := fun x => e x.symm
      have em : shE s d = 4 := by simp [shE, h1, hd', hl, e']
      simp [vE, vR, inf, inD, shR, em, e]
  · have h1 : tok s = true := by simpa [many] using hs
    have hd' : okd d = true := hd
    have h0 := tok_okd h1
    cases e : wid s.1 d with
    | true => have em : wiE s d = 0 := by simp [wiE, wdr, h1, hd', h0, e]
              simp [vE, vR, inf, inD, wiR, em, e]
    | false => have em : wiE s d = 4 := by simp [wiE, wdr, h1, hd', h0, e]
               simp [vE, vR, inf, inD, wiR, em, e]
  · have h1 : tok s = true := by simpa [many] using hs
    have hd' : okd d = true := hd
    have h0 := tok_okd h1
    cases e : wid d s.1 with
    | true => have em : suE s d = 0 := by simp [suE, wdr, h1, hd', h0, e]
              simp [vE, vR, inf, inD, suR, em, e]
    | false => have em : suE s d = 4 := by simp [suE, wdr, h1, hd', h0, e]
               simp [vE, vR, inf, inD, suR, em, e]
  · have h1 : tok s = true := by simpa [many] using hs
    simp [vE, vR, inf, inD, eachR, fitE, tkE, h1]
  · have h1 : tok s = true := by simpa [many] using hs
    have hn' : 1 ≤ n ∧ n ≤ 8 := by simpa [nok] using hn
    by_cases e : lastD s.1 % n = 0
    · have em : fwE s n = 0 := by rw [fwE, if_pos ⟨h1, hn'.1, hn'.2⟩, if_pos e]
      simp [vE, vR, inf, inD, mxR, em, e]
    · have em : fwE s n = 4 := by rw [fwE, if_pos ⟨h1, hn'.1, hn'.2⟩, if_neg e]
      simp [vE, vR, inf, inD, mxR, em, e]
  · have h1 : tok s = true := by simpa [many] using hs
    have h2 : tok t = true := by simpa [many] using ht
    by_cases e : s.1 = t.1 <;> simp [vE, vR, inf, inD, eachR, fitE, h1, h2, e]
  · have h1 : tok s = true := by simpa [many] using hs
    have h2 : tok t = true := by simpa [many] using ht
    have hn' : 1 ≤ n ∧ n ≤ 8 := by simpa [nok] using hn
    by_cases e : lastD s.1 % n = 0
    · have ef : fwE s n = 0 := by rw [fwE, if_pos ⟨h1, hn'.1, hn'.2⟩, if_pos e]
      by_cases e2 : lesD s.1 n = t.1
      · have em : pkE s t n = 0 := by simp [pkE, ef, h2, e2]
        simp [vE, vR, inf, inD, pkR, em, e, e2]
      · have e3 : ¬ t.1 = lesD s.1 n := fun x => e2 x.symm
        have em : pkE s t n = 4 := by simp [pkE, ef, h2, e3]
        simp [vE, vR, inf, inD, pkR, em, e, e2]
    · have ef : fwE s n = 4 := by rw [fwE, if_pos ⟨h1, hn'.1, hn'.2⟩, if_neg e]
      have em : pkE s t n = 4 := by simp [pkE, ef, h2]
      simp [vE, vR, inf, inD, pkR, em, e]
def askL (k : Int) : List UInt8 :=
  if k = 1 then [100]
  else if k = 2 then [100]
  else if k = 3 then [110, 100]
  else if k = 4 then [111, 111]
  else if k = 5 then [111, 111]
  else if k = 6 then [111, 111]
  else if k = 7 then [111]
  else if k = 8 then [111, 110]
  else if k = 9 then [111, 111]
  else if k = 10 then [111]
  else if k = 11 then [111, 100]
  else if k = 12 then [111, 100]
  else if k = 13 then [111, 100]
  else if k = 14 then [111]
  else if k = 15 then [111, 102]
  else if k = 16 then [111, 111]
  else if k = 17 then [111, 111, 102]
  else []
def askT (k : Int) : ByteArray := ⟨(askL k).toArray⟩
set_option maxHeartbeats 400000 in
theorem asks_k1 (w : World) : Calls Tryz.prog 126 #[.int .i64 1] w fun e w' => e = .returned (.string (askT 1)) ∧ w = w' := by
  go_enter Tryz.func126, Tryz.ntmps126
  go_wp2
  go_ret
  exact ⟨rfl, rfl⟩
set_option maxHeartbeats 400000 in
theorem asks_k2 (w : World) : Calls Tryz.prog 126 #[.int .i64 2] w fun e w' => e = .returned (.string (askT 2)) ∧ w = w' := by
  go_enter Tryz.func126, Tryz.ntmps126
  go_wp2
  go_ret
  exact ⟨rfl, rfl⟩
set_option maxHeartbeats 400000 in
theorem asks_k3 (w : World) : Calls Tryz.prog 126 #[.int .i64 3] w fun e w' => e = .returned (.string (askT 3)) ∧ w = w' := by
  go_enter Tryz.func126, Tryz.ntmps126
  go_wp2
  go_ret
  exact ⟨rfl, rfl⟩
set_option maxHeartbeats 400000 in
theorem asks_k4 (w : World) : Calls Tryz.prog 126 #[.int .i64 4] w fun e w' => e = .returned (.string (askT 4)) ∧ w = w' := by
  go_enter Tryz.func126, Tryz.ntmps126
  go_wp2
  go_ret
  exact ⟨rfl, rfl⟩
set_option maxHeartbeats 400000 in
theorem asks_k5 (w : World) : Calls Tryz.prog 126 #[.int .i64 5] w fun e w' => e = .returned (.string (askT 5)) ∧ w = w' := by
  go_enter Tryz.func126, Tryz.ntmps126
  go_wp2
  go_ret
  exact ⟨rfl, rfl⟩
set_option maxHeartbeats 400000 in
theorem asks_k6 (w : World) : Calls Tryz.prog 126 #[.int .i64 6] w fun e w' => e = .returned (.string (askT 6)) ∧ w = w' := by
  go_enter Tryz.func126, Tryz.ntmps126
  go_wp2
  go_ret
  exact ⟨rfl, rfl⟩
set_option maxHeartbeats 400000 in
theorem asks_k7 (w : World) : Calls Tryz.prog 126 #[.int .i64 7] w fun e w' => e = .returned (.string (askT 7)) ∧ w = w' := by
  go_enter Tryz.func126, Tryz.ntmps126
  go_wp2
  go_ret
  exact ⟨rfl, rfl⟩
set_option maxHeartbeats 400000 in
theorem asks_k8 (w : World) : Calls Tryz.prog 126 #[.int .i64 8] w fun e w' => e = .returned (.string (askT 8)) ∧ w = w' := by
  go_enter Tryz.func126, Tryz.ntmps126
  go_wp2
  go_ret
  exact ⟨rfl, rfl⟩
set_option maxHeartbeats 400000 in
theorem asks_k9 (w : World) : Calls Tryz.prog 126 #[.int .i64 9] w fun e w' => e = .returned (.string (askT 9)) ∧ w = w' := by
  go_enter Tryz.func126, Tryz.ntmps126
  go_wp2
  go_ret
  exact ⟨rfl, rfl⟩
set_option maxHeartbeats 400000 in
theorem asks_k10 (w : World) : Calls Tryz.prog 126 #[.int .i64 10] w fun e w' => e = .returned (.string (askT 10)) ∧ w = w' := by
  go_enter Tryz.func126, Tryz.ntmps126
  go_wp2
  go_ret
  exact ⟨rfl, rfl⟩
set_option maxHeartbeats 400000 in
theorem asks_k11 (w : World) : Calls Tryz.prog 126 #[.int .i64 11] w fun e w' => e = .returned (.string (askT 11)) ∧ w = w' := by
  go_enter Tryz.func126, Tryz.ntmps126
  go_wp2
  go_ret
  exact ⟨rfl, rfl⟩
set_option maxHeartbeats 400000 in
theorem asks_k12 (w : World) : Calls Tryz.prog 126 #[.int .i64 12] w fun e w' => e = .returned (.string (askT 12)) ∧ w = w' := by
  go_enter Tryz.func126, Tryz.ntmps126
  go_wp2
  go_ret
  exact ⟨rfl, rfl⟩
set_option maxHeartbeats 400000 in
theorem asks_k13 (w : World) : Calls Tryz.prog 126 #[.int .i64 13] w fun e w' => e = .returned (.string (askT 13)) ∧ w = w' := by
  go_enter Tryz.func126, Tryz.ntmps126
  go_wp2
  go_ret
  exact ⟨rfl, rfl⟩
set_option maxHeartbeats 400000 in
theorem asks_k14 (w : World) : Calls Tryz.prog 126 #[.int .i64 14] w fun e w' => e = .returned (.string (askT 14)) ∧ w = w' := by
  go_enter Tryz.func126, Tryz.ntmps126
  go_wp2
  go_ret
  exact ⟨rfl, rfl⟩
set_option maxHeartbeats 400000 in
theorem asks_k15 (w : World) : Calls Tryz.prog 126 #[.int .i64 15] w fun e w' => e = .returned (.string (askT 15)) ∧ w = w' := by
  go_enter Tryz.func126, Tryz.ntmps126
  go_wp2
  go_ret
  exact ⟨rfl, rfl⟩
set_option maxHeartbeats 400000 in
theorem asks_k16 (w : World) : Calls Tryz.prog 126 #[.int .i64 16] w fun e w' => e = .returned (.string (askT 16)) ∧ w = w' := by
  go_enter Tryz.func126, Tryz.ntmps126
  go_wp2
  go_ret
  exact ⟨rfl, rfl⟩
set_option maxHeartbeats 400000 in
theorem asks_k17 (w : World) : Calls Tryz.prog 126 #[.int .i64 17] w fun e w' => e = .returned (.string (askT 17)) ∧ w = w' := by
  go_enter Tryz.func126, Tryz.ntmps126
  go_wp2
  go_ret
  exact ⟨rfl, rfl⟩
theorem askL_none {k : Int} (h : ¬ (1 ≤ k ∧ k ≤ 17)) : askL k = [] := by
  unfold askL
  rw [if_neg (by omega)]
  rw [if_neg (by omega)]
  rw [if_neg (by omega)]
  rw [if_neg (by omega)]
  rw [if_neg (by omega)]
  rw [if_neg (by omega)]
  rw [if_neg (by omega)]
  rw [if_neg (by omega)]
  rw [if_neg (by omega)]
  rw [if_neg (by omega)]
  rw [if_neg (by omega)]
  rw [if_neg (by omega)]
  rw [if_neg (by omega)]
  rw [if_neg (by omega)]
  rw [if_neg (by omega)]
  rw [if_neg (by omega)]
  rw [if_neg (by omega)]
set_option maxHeartbeats 1000000 in
theorem asks_none (k : Int) (w : World) (h : ¬ (1 ≤ k ∧ k ≤ 17)) : Calls Tryz.prog 126 #[.int .i64 k] w fun e w' => e = .returned (.string (askT k)) ∧ w = w' := by
  have HE : Hid (askT k = ⟨#[]⟩) := by show _ = _; rw [askT, askL_none h]
  have h1 : ¬ k = 1 := by omega
  have h2 : ¬ k = 2 := by omega
  have h3 : ¬ k = 3 := by omega
  have h4 : ¬ k = 4 := by omega
  have h5 : ¬ k = 5 := by omega
  have h6 : ¬ k = 6 := by omega
  have h7 : ¬ k = 7 := by omega
  have h8 : ¬ k = 8 := by omega
  have h9 : ¬ k = 9 := by omega
  have h10 : ¬ k = 10 := by omega
  have h11 : ¬ k = 11 := by omega
  have h12 : ¬ k = 12 := by omega
  have h13 : ¬ k = 13 := by omega
  have h14 : ¬ k = 14 := by omega
  have h15 : ¬ k = 15 := by omega
  have h16 : ¬ k = 16 := by omega
  have h17 : ¬ k = 17 := by omega
  clear h
  go_enter Tryz.func126, Tryz.ntmps126
  go_wp2
  go_ret
  exact ⟨by rw [HE.out]; rfl, rfl⟩
theorem asks_any (k : Int) (w : World) : Calls Tryz.prog 126 #[.int .i64 k] w fun e w' => e = .returned (.string (askT k)) ∧ w = w' := by
  by_cases h : 1 ≤ k ∧ k ≤ 17
  · have hk : k = 1 ∨ k = 2 ∨ k = 3 ∨ k = 4 ∨ k = 5 ∨ k = 6 ∨ k = 7 ∨ k = 8 ∨ k = 9 ∨ k = 10 ∨ k = 11 ∨ k = 12 ∨ k = 13 ∨ k = 14 ∨ k = 15 ∨ k = 16 ∨ k = 17 := by omega
    rcases hk with rfl | rfl | rfl | rfl | rfl | rfl | rfl | rfl | rfl | rfl | rfl | rfl | rfl | rfl | rfl | rfl | rfl
    · exact asks_k1 w
    · exact asks_k2 w
    · exact asks_k3 w
    · exact asks_k4 w
    · exact asks_k5 w
    · exact asks_k6 w
    · exact asks_k7 w
    · exact asks_k8 w
    · exact asks_k9 w
    · exact asks_k10 w
    · exact asks_k11 w
    · exact asks_k12 w
    · exact asks_k13 w
    · exact asks_k14 w
    · exact asks_k15 w
    · exact asks_k16 w
    · exact asks_k17 w
  · exact asks_none k w h
set_option maxRecDepth 100000 in
theorem lit52 (g : Nat → Value) : (g 0 :: g 1 :: g 2 :: g 3 :: g 4 :: g 5 :: g 6 :: g 7 :: g 8 :: g 9 :: g 10 :: g 11 :: g 12 :: g 13 :: g 14 :: g 15 :: g 16 :: g 17 :: g 18 :: g 19 :: g 20 :: g 21 :: g 22 :: g 23 :: g 24 :: g 25 :: g 26 :: g 27 :: g 28 :: g 29 :: g 30 :: g 31 :: g 32 :: g 33 :: g 34 :: g 35 :: g 36 :: g 37 :: g 38 :: g 39 :: g 40 :: g 41 :: g 42 :: g 43 :: g 44 :: g 45 :: g 46 :: g 47 :: g 48 :: g 49 :: g 50 :: g 51 :: []).toArray = ((List.range 52).map g).toArray := by rfl
set_option maxRecDepth 100000 in
theorem act52 (a : Act) (hd : a.defers = []) (hs : a.tmps.size = 52) : ∃ g : Nat → Value, (∀ i, a.tmps.getD i undef = g i) ∧ a = { tmps := (g 0 :: g 1 :: g 2 :: g 3 :: g 4 :: g 5 :: g 6 :: g 7 :: g 8 :: g 9 :: g 10 :: g 11 :: g 12 :: g 13 :: g 14 :: g 15 :: g 16 :: g 17 :: g 18 :: g 19 :: g 20 :: g 21 :: g 22 :: g 23 :: g 24 :: g 25 :: g 26 :: g 27 :: g 28 :: g 29 :: g 30 :: g 31 :: g 32 :: g 33 :: g 34 :: g 35 :: g 36 :: g 37 :: g 38 :: g 39 :: g 40 :: g 41 :: g 42 :: g 43 :: g 44 :: g 45 :: g 46 :: g 47 :: g 48 :: g 49 :: g 50 :: g 51 :: []).toArray, defers := [] } := by
  refine ⟨fun i => a.tmps.getD i undef, fun _ => rfl, ?_⟩
  have h := lit52 (fun i => a.tmps.getD i undef)
  have e : a.tmps = ((List.range 52).map (fun i => a.tmps.getD i undef)).toArray := by
    apply Array.ext
    · simp [hs]
    · intro i h1 h2
      simp [h1]
  exact (show a = Act.mk a.tmps a.defers from rfl).trans (by rw [hd]; exact congrArg (fun t => Act.mk t []) (e.trans h.symm))
def fgo : List UInt8 → Int → Int → List Int → Bool
  | [], c, n, d => decide (c = 0 ∧ d.length = 0 ∧ n = 0)
  | b :: r, c, n, d => if b = 111 then fgo r (c - 1) n d else if b = 100 then okd d && fgo r c n [] else if b = 102 then decide (1 ≤ n ∧ n ≤ 8) && fgo r c 0 d else fgo r c 0 d
def JB (n : Nat) (w : World) (q : Bool) (a : Act) (w' : World) : Prop := a.defers = [] ∧ a.tmps.size = n ∧ Below w.heap.size w w' ∧ Hid (q = false)
theorem drop_at {α : Type} (l : List α) (p : Nat) (h : p < l.length) : l.drop p = l[p] :: l.drop (p + 1) := by simp
def fB (q : Bool) : Int := if q then 0 else 1
set_option maxHeartbeats 4000000 in
theorem form_go {v : Value} {d : List Int} {w : World} (k n : Int) (c : Nat) (hc : c ≤ big) (hd : Ints w v d) (l : List UInt8) (hl : askL k = l) (hne : 1 ≤ l.length) (hb : ∀ b ∈ l, b = 111 ∨ b = 100 ∨ b = 102 ∨ b = 110) (h3 : l.length ≤ 3) (q : Bool) (hq : fgo l c n d = q) :
    Calls Tryz.prog 113 #[.int .i64 k, .int .i64 n, v, .int .i64 c] w fun e w' => e = .returned (.int .i64 (fB q)) ∧ Below w.heap.size w w' := by
  have HT : Hid (askT k = ⟨l.toArray⟩) := by show _ = _; rw [askT, hl]
  have HD : Hid (Ints w v d) := hd
  have HB : Hid (∀ b ∈ l, b = 111 ∨ b = 100 ∨ b = 102 ∨ b = 110) := hb
  have HQ : Hid (fgo l c n d = q) := hq
  obtain ⟨s, hs⟩ : ∃ s : ByteArray, s = ⟨l.toArray⟩ := ⟨_, rfl⟩
  have hsz : s.size = l.length := by rw [hs]; simp [ByteArray.size]
  have hsb : ∀ p (h : p < l.length) (h' : p < s.size), s[p] = l[p] := by subst hs; intro p h h'; simp [ByteArray.getElem_eq_getElem_data]
  have hs1 : ¬ s.toList = [] := by
    intro e
    rw [ByteArray.toList_eq, hs] at e
    simp at e
    rw [e] at hne
    simp at hne
  have hs2 : (s.toList == []) = false := by simpa using hs1
  have hs3 : (s.toList == (⟨#[]⟩ : ByteArray).toList) = false := by rw [ByteArray.toList_eq (⟨#[]⟩ : ByteArray)]; exact hs2
  have hs4 : s.toList.isEmpty = false := by simpa using hs1
  have HS : Hid (∀ p (h : p < l.length) (h' : p < s.size), s[p] = l[p]) := hsb
  rw [← hs] at HT
  unfold big at hc
  clear hd hb hq hl hs hsb
  go_enter Tryz.func113, Tryz.ntmps113
  go_wp2_with fail
  refine wp_scope_jumps 0 (JB 52 w q) (fun _ _ => 0) rfl ?_ ?_
  · go_wp2_with (go_at_call 126; refine (asks_any k w).mono ?_; rw [HT.out]; rintro e w' ⟨rfl, rfl⟩)
    go_loopw [1, 2, 3] (fun n' d' c' w' => ∃ (p : Nat) (m : Int) (e : List Int) (cc : Int), p ≤ l.length ∧ w' = w.iter s p ∧ n' = .int .i64 m ∧ Hid (Ints w d' e) ∧ c' = .int .i64 cc ∧ (cc ≤ c ∧ (c : Int) - p ≤ cc) ∧ Hid (fgo (l.drop p) cc m e = q)) (fun _ _ _ w' => l.length - w'.iterPos w.heap.size)
    case atStart => exact ⟨0, n, d, c, Nat.zero_le _, rfl, rfl, HD, rfl, ⟨Int.le_refl _, by omega⟩, HQ.out⟩
    case round =>
      obtain ⟨p, m, e, cc, hp, rfl, rfl, HE, rfl, ⟨hc1, hc2⟩, HF⟩ := hrel
      by_cases hlt : p < l.length
      · have hps : p < s.size := by omega
        have hF := HF.out
        rw [drop_at l p hlt] at hF
        have hbb := HB.out l[p] (List.getElem_mem hlt)
        have hsp := HS.out p hlt hps
        rcases hbb with hb | hb | hb | hb
        · rw [hb] at hF hsp
          have hnx := fun ty => nx w s p hps 111 (by rw [hsp]; rfl) (by rw [hsp]; decide) ty
          have HF2 : Hid (fgo (l.drop (p + 1)) (cc - 1) m e = q) := by show _ = _; rw [← hF, fgo, if_pos rfl]
          clear hF hsp hb HF
          go_wp2
          go_roundw
          case rel => exact ⟨p + 1, m, e, cc - 1, by omega, rfl, rfl, HE, by go_num, ⟨by omega, by omega⟩, HF2⟩
          case measure => first | (simp; done) | (simp; omega) | (rw [← iter_alloc]; simp; omega)
        · rw [hb] at hF hsp
          have hnx := fun ty => nx w s p hps 100 (by rw [hsp]; rfl) (by rw [hsp]; decide) ty
          cases hok : okd e with
          | true =>
            have HF2 : Hid (fgo (l.drop (p + 1)) cc m [] = q) := by show _ = _; rw [← hF, fgo, if_neg (by decide), if_pos rfl, hok, Bool.true_and]
            have HK : Hid (erf e = 0) := erf_ok hok
            clear hF hsp hb HF hok
            go_wp2_with (go_at_call 127; refine (check_any (HE.out.later ((Below.refl _ _).alloc (Nat.le_refl _) _))).mono ?_; rw [HK.out]; rintro e' w' ⟨rfl, rfl⟩)
            go_roundw
            case rel => exact ⟨p + 1, m, [], cc, by omega, rfl, rfl, Ints.nil w, rfl, ⟨by omega, by omega⟩, HF2⟩
            case measure => first | (simp; done) | (simp; omega) | (rw [← iter_alloc]; simp; omega)
          | false =>
            have HF2 : Hid (q = false) := by show _ = _; rw [← hF, fgo, if_neg (by decide), if_pos rfl, hok, Bool.false_and]
            have HK : Hid (erf e = 1) := erf_bad hok
            clear hF hsp hb HF hok
            go_wp2_with (go_at_call 127; refine (check_any (HE.out.later ((Below.refl _ _).alloc (Nat.le_refl _) _))).mono ?_; rw [HK.out]; rintro e' w' ⟨rfl, rfl⟩)
            go_step3
            exact ⟨rfl, rfl, rfl, (Below.refl _ _).alloc (Nat.le_refl _) _, HF2⟩
        · rw [hb] at hF hsp
          have hnx := fun ty => nx w s p hps 102 (by rw [hsp]; rfl) (by rw [hsp]; decide) ty
          by_cases hm : 1 ≤ m ∧ m ≤ 8
          · have HF2 : Hid (fgo (l.drop (p + 1)) cc 0 e = q) := by show _ = _; rw [← hF, fgo, if_neg (by decide), if_neg (by decide), if_pos rfl, decide_eq_true hm, Bool.true_and]
            obtain ⟨hm1, hm2⟩ := hm
            clear hF hsp hb HF
            go_wp2
            go_roundw
            case rel => exact ⟨p + 1, 0, e, cc, by omega, rfl, rfl, HE, rfl, ⟨by omega, by omega⟩, HF2⟩
            case measure => first | (simp; done) | (simp; omega) | (rw [← iter_alloc]; simp; omega)
          · have HF2 : Hid (q = false) := by show _ = _; rw [← hF, fgo, if_neg (by decide), if_neg (by decide), if_pos rfl, decide_eq_false hm, Bool.false_and]
            clear hF hsp hb HF
            by_cases hm1 : m < 1
            · clear hm
              go_wp2
              go_step3
              exact ⟨rfl, rfl, rfl, (Below.refl _ _).alloc (Nat.le_refl _) _, HF2⟩
            · have hm2 : 8 < m := by omega
              clear hm
              go_wp2
              go_step3
              exact ⟨rfl, rfl, rfl, (Below.refl _ _).alloc (Nat.le_refl _) _, HF2⟩
        · rw [hb] at hF hsp
          have hnx := fun ty => nx w s p hps 110 (by rw [hsp]; rfl) (by rw [hsp]; decide) ty
          have HF2 : Hid (fgo (l.drop (p + 1)) cc 0 e = q) := by show _ = _; rw [← hF, fgo, if_neg (by decide), if_neg (by decide), if_neg (by decide)]
          clear hF hsp hb HF
          go_wp2
          go_roundw
          case rel => exact ⟨p + 1, 0, e, cc, by omega, rfl, rfl, HE, rfl, ⟨by omega, by omega⟩, HF2⟩
          case measure => first | (simp; done) | (simp; omega) | (rw [← iter_alloc]; simp; omega)
      · obtain rfl : p = l.length := by omega
        have hF := HF.out
        rw [List.drop_eq_nil_of_le (by omega), fgo] at hF
        have hnx := fun ty => run_next_end (P := Tryz.prog) w s l.length ty (by omega)
        obtain ⟨ea, ec, rfl⟩ := HE.out.shape
        clear HE HF
        by_cases h1 : cc = 0
        · by_cases h2 : e.length = 0
          · by_cases h4 : m = 0
            · have HF2 : Hid (q = true) := by show _ = _; rw [← hF]; exact decide_eq_true ⟨h1, h2, h4⟩
              clear hF
              subst h1 h4
              rw [h2]
              go_wp2
              rw [jump_ret]
              go_ret
              exact ⟨by rw [HF2.out]; rfl, (Below.refl _ _).alloc (Nat.le_refl _) _⟩
            · have HF2 : Hid (q = false) := by show _ = _; rw [← hF]; exact decide_eq_false fun h => h4 h.2.2
              have g4 : (m != 0) = true := by simp [h4]
              clear hF
              subst h1
              rw [h2]
              go_wp2
              go_step3
              exact ⟨rfl, rfl, rfl, (Below.refl _ _).alloc (Nat.le_refl _) _, HF2⟩
          · have HF2 : Hid (q = false) := by show _ = _; rw [← hF]; exact decide_eq_false fun h => h2 h.2.1
            obtain ⟨en, hen⟩ : ∃ x, e.length = x := ⟨_, rfl⟩
            rw [hen] at h2 ⊢
            have g2 : ((en : Int) != 0) = true := by simp [h2]
            clear hF hen
            subst h1
            go_wp2
            go_step3
            exact ⟨rfl, rfl, rfl, (Below.refl _ _).alloc (Nat.le_refl _) _, HF2⟩
        · have HF2 : Hid (q = false) := by show _ = _; rw [← hF]; exact decide_eq_false fun h => h1 h.1
          have g1 : (cc != 0) = true := by simp [h1]
          clear hF
          go_wp2
          go_step3
          exact ⟨rfl, rfl, rfl, (Below.refl _ _).alloc (Nat.le_refl _) _, HF2⟩
  · rintro a w' ⟨hd, hs, hbe, HF⟩
    obtain ⟨G, hg, e⟩ := act52 a hd hs
    subst e
    have HBE : Hid (Below w.heap.size w w') := hbe
    clear hg hd hs hbe
    go_wp2
    rw [jump_ret]
    exact bodyPost_ret (v := .int .i64 1) (by simp [results, Tryz.results113, go_sem]) rfl ⟨by rw [HF.out]; rfl, HBE.out⟩
set_option maxHeartbeats 1000000 in
theorem form_none {v : Value} {w : World} (k n : Int) (c : Nat) (h : ¬ (1 ≤ k ∧ k ≤ 17)) :
    Calls Tryz.prog 113 #[.int .i64 k, .int .i64 n, v, .int .i64 c] w fun e w' => e = .returned (.int .i64 1) ∧ Below w.heap.size w w' := by
  have HT : Hid (askT k = ⟨#[]⟩) := by show _ = _; rw [askT, askL_none h]
  clear h
  go_enter Tryz.func113, Tryz.ntmps113
  go_wp2_with fail
  refine wp_scope_jumps 0 (JB 52 w false) (fun _ _ => 0) rfl ?_ ?_
  · go_wp2_with (go_at_call 126; refine (asks_any k w).mono ?_; rw [HT.out]; rintro e w' ⟨rfl, rfl⟩)
    go_step3
    exact ⟨rfl, rfl, rfl, Below.refl _ _, rfl⟩
  · rintro a w' ⟨hd, hs, hbe, HF⟩
    obtain ⟨G, hg, e⟩ := act52 a hd hs
    subst e
    have HBE : Hid (Below w.heap.size w w') := hbe
    clear hg hd hs hbe
    go_wp2
    rw [jump_ret]
    exact bodyPost_ret (v := .int .i64 1) (by simp [results, Tryz.results113, go_sem]) rfl ⟨rfl, HBE.out⟩
theorem frm_none {k n : Int} {d : List Int} {c : Nat} (h : ¬ (1 ≤ k ∧ k ≤ 17)) : frm k n d c = false := by rw [frm, decide_eq_false h, Bool.false_and]
theorem fgo_frm {k n : Int} {d : List Int} {c : Nat} (h : 1 ≤ k ∧ k ≤ 17) : fgo (askL k) c n d = frm k n d c ∧ 1 ≤ (askL k).length ∧ (askL k).length ≤ 3 ∧ ∀ b ∈ askL k, b = 111 ∨ b = 100 ∨ b = 102 ∨ b = 110 := by
  have hk : k = 1 ∨ k = 2 ∨ k = 3 ∨ k = 4 ∨ k = 5 ∨ k = 6 ∨ k = 7 ∨ k = 8 ∨ k = 9 ∨ k = 10 ∨ k = 11 ∨ k = 12 ∨ k = 13 ∨ k = 14 ∨ k = 15 ∨ k = 16 ∨ k = 17 := by omega
  have e0 : ((c : Int) = 0) = (c = 0) := by apply propext; omega
  have e1 : ((c : Int) - 1 = 0) = (c = 1) := by apply propext; omega
  have e2 : ((c : Int) - 1 - 1 = 0) = (c = 2) := by apply propext; omega
  rcases hk with rfl | rfl | rfl | rfl | rfl | rfl | rfl | rfl | rfl | rfl | rfl | rfl | rfl | rfl | rfl | rfl | rfl <;>
  refine ⟨?_, by decide, by decide, by decide⟩ <;>
  simp (decide := true) only [askL, frm, frmN, dok, nok, many, asked, if_true, if_false] <;>
  (rw [Bool.eq_iff_iff]; simp [fgo, e0, e1, e2, and_assoc, and_comm, and_left_comm])
theorem form_any {v : Value} {d : List Int} {w : World} (k n : Int) (c : Nat) (hc : c ≤ big) (hd : Ints w v d) (x : Int) (hx : frE k n d c = x) :
    Calls Tryz.prog 113 #[.int .i64 k, .int .i64 n, v, .int .i64 c] w fun e w' => e = .returned (.int .i64 x) ∧ Below w.heap.size w w' := by
  subst hx
  by_cases h : 1 ≤ k ∧ k ≤ 17
  · obtain ⟨h1, h2, h3, h4⟩ := fgo_frm (n := n) (d := d) (c := c) h
    exact form_go k n c hc hd (askL k) rfl h2 h4 h3 (frm k n d c) h1
  · rw [frE, frm_none h]
    exact form_none k n c h
theorem cell_at {w w' : World} {b o : Nat} {x : Value} (hb : Below w.heap.size w w') (h : w.cell? ⟨b, o, none⟩ = some x) : w'.cell? ⟨b, o, none⟩ = some x := cell_later hb h
theorem cell_lt {w : World} {b o : Nat} {x : Value} (h : w.cell? ⟨b, o, none⟩ = some x) : b < w.heap.size := World.block_lt_of_cell? _ _ h
theorem fill_to {v : Value} {d : List Int} {w : World} (n x : Int) (u : Ten) (h : Ints w v d) (hx : erf d = x) (hu : vR 3 n d no no = u) :
    Calls Tryz.prog 115 #[v, .int .i64 n] w fun e w' => ∃ x0 x1, e = .returned (.tuple #[.agg #[x0, x1], .int .i64 x]) ∧ OwnT w' w.heap.size x0 x1 u ∧ Below w.heap.size w w' := by
  subst hx hu
  cases hok : okd d with
  | true =>
    refine (fill_own n h hok).mono ?_
    rintro e w' ⟨x0, b1, rfl, ho, hblk, ⟨h1, h2⟩, hb⟩
    have hl : (List.replicate (prd d).toNat n).length ≤ big := by
      have := (okd_parts hok).2.2.2
      simp [big]; omega
    refine ⟨x0, _, by rw [erf_ok hok], ⟨?_, ?_, ?_⟩, hb⟩
    · simp only [vR, hok, if_true]; exact ho
    · simp only [vR, hok, if_true]; exact hblk.own h1 (by simp) hl
    · intro k hk e
      have : b1 = k := by simpa [Value.ownBlock] using e
      exact h2 k hk this.symm
  | false =>
    refine (fill_bad n h hok).mono ?_
    rintro e w' ⟨rfl, hb⟩
    refine ⟨_, _, by rw [erf_bad hok], ?_, hb⟩
    simp only [vR, hok]
    exact OwnT.nil _ _
set_option maxHeartbeats 4000000 in
theorem value_k3 {vd vl : Value} {d : List Int} {w : World} (n : Int) (hd : Ints w vd d) :
    Calls Tryz.prog 116 #[.int .i64 3, .int .i64 n, vd, vl] w fun e w' => ∃ x0 x1, e = .returned (.tuple #[.agg #[x0, x1], .int .i64 (vE 3 n d no no)]) ∧ OwnT w' w.heap.size x0 x1 (vR 3 n d no no) ∧ Below w.heap.size w w' := by
  obtain ⟨da, dn, dc, rfl⟩ := hd.shape3
  obtain ⟨U, hU⟩ : ∃ U, U = w.alloc (.cells #[.slice none 0 0, .slice none 0 0] 156) := ⟨_, rfl⟩
  have hb : Below w.heap.size w U := by rw [hU]; exact (Below.refl _ _).alloc (Nat.le_refl _) _
  have HB : Hid (Below w.heap.size w U) := hb
  have HD : Hid (Ints U (.slice da dn dc) d) := hd.later hb
  have HBX : Hid (Box U w.heap.size (.slice none 0 0) (.slice none 0 0)) := by show Box _ _ _ _; rw [hU]; exact Box.new w _ _
  have hsU : w.heap.size + 1 ≤ U.heap.size := by rw [hU]; simp
  obtain ⟨x, hx⟩ : ∃ x, vE 3 n d no no = x := ⟨_, rfl⟩
  obtain ⟨u, hu⟩ : ∃ u, vR 3 n d no no = u := ⟨_, rfl⟩
  rw [hx, hu]
  have HX : Hid (vE 3 n d no no = x) := hx
  have HU : Hid (vR 3 n d no no = u) := hu
  clear hx hu hd hb
  go_enter Tryz.func116, Tryz.ntmps116
  go_upto_region 1 with fail
  rw [← hU]
  clear hU
  go_wp2_with fail
  refine (fill_to n x u HD.out HX.out HU.out).mono ?_
  rintro e w2 ⟨x0, x1, rfl, ho, hb2⟩
  have HBU : Hid (Below U.heap.size U w2) := hb2
  obtain ⟨xa, xn, xc, rfl⟩ := ho.dims.ints.shape3
  obtain ⟨ya, yn, yc, rfl⟩ := ho.data.ints.shape3
  have hbx := HBX.out.later HBU.out
  have l0 := hbx.c0
  have l1 := hbx.c1
  have m0 := hbx.f 0
  have m1 := hbx.f 1
  have HBS : Hid (Box _ _ _ _) := hbx.set (.slice xa xn xc) (.slice ya yn yc)
  have HO : Hid (OwnT w2 (w.heap.size + 1) (.slice xa xn xc) (.slice ya yn yc) u) := ho.mono hsU
  have HBW : Hid (Below w.heap.size w w2) := Below.after HB.out HBU.out
  clear hbx ho hb2
  go_wp2
  have hr0 := HBS.out.c0
  have hr1 := HBS.out.c1
  refine bodyPost_ret (v := .tuple #[.agg #[.slice xa xn xc, .slice ya yn yc], .int .i64 x]) (by simp [results, Tryz.results116, go_sem, hr0, hr1]) rfl ⟨_, _, rfl, ?_, ?_⟩
  · exact (HO.out.set2 _ _ (by omega)).mono (by omega)
  · exact (HBW.out.setCell (by simp) _).setCell (by simp) _
set_option maxHeartbeats 4000000 in
theorem value_k4 {vd a0 a1 b0 b1 : Value} {d : List Int} {s t : Ten} {w : World} {P off c : Nat} (n : Int) (hc : 2 ≤ c) (ha : Tens w a0 a1 s) (ht : Tens w b0 b1 t) (p0 : w.cell? ⟨P, off, none⟩ = some a0) (p1 : w.cell? ⟨P, off + 1, none⟩ = some a1) (p2 : w.cell? ⟨P, off + 2, none⟩ = some b0) (p3 : w.cell? ⟨P, off + 3, none⟩ = some b1) (hd : Ints w vd d) :
    Calls Tryz.prog 116 #[.int .i64 4, .int .i64 n, vd, .slice (some ⟨P, off, none⟩) 2 c] w fun e w' => ∃ x0 x1, e = .returned (.tuple #[.agg #[x0, x1], .int .i64 (vE 4 n d s t)]) ∧ OwnT w' w.heap.size x0 x1 (vR 4 n d s t) ∧ Below w.heap.size w w' := by
  obtain ⟨da, dn, dc, rfl⟩ := hd.shape3
  obtain ⟨aa, an, ac, rfl⟩ := ha.1.shape3
  obtain ⟨ba, bn, bc, rfl⟩ := ha.2.shape3
  have hne : ¬ w.heap.size = P := by have := cell_lt p0; omega
  have hne2 : ¬ P = w.heap.size := fun h => hne h.symm
  obtain ⟨ea, en, ec, rfl⟩ := ht.1.shape3
  obtain ⟨fa, fn, fc, rfl⟩ := ht.2.shape3
  obtain ⟨U, hU⟩ : ∃ U, U = w.alloc (.cells #[.slice none 0 0, .slice none 0 0] 156) := ⟨_, rfl⟩
  have hb : Below w.heap.size w U := by rw [hU]; exact (Below.refl _ _).alloc (Nat.le_refl _) _
  have HB : Hid (Below w.heap.size w U) := hb
  have HD : Hid (Ints U (.slice da dn dc) d) := hd.later hb
  have HBX : Hid (Box U w.heap.size (.slice none 0 0) (.slice none 0 0)) := by show Box _ _ _ _; rw [hU]; exact Box.new w _ _
  have hsU : w.heap.size + 1 ≤ U.heap.size := by rw [hU]; simp
  have HA : Hid (Tens U (.slice aa an ac) (.slice ba bn bc) s) := ha.later hb
  replace p0 := cell_at hb p0
  replace p1 := cell_at hb p1
  have HT : Hid (Tens U (.slice ea en ec) (.slice fa fn fc) t) := ht.later hb
  replace p2 := cell_at hb p2
  replace p3 := cell_at hb p3
  obtain ⟨x, hx⟩ : ∃ x, vE 4 n d s t = x := ⟨_, rfl⟩
  obtain ⟨u, hu⟩ : ∃ u, vR 4 n d s t = u := ⟨_, rfl⟩
  rw [hx, hu]
  have HX : Hid (vE 4 n d s t = x) := hx
  have HU : Hid (vR 4 n d s t = u) := hu
  clear hx hu hd hb ha ht
  go_enter Tryz.func116, Tryz.ntmps116
  go_upto_region 1 with fail
  rw [← hU]
  clear hU
  go_wp2_with fail
  go_region_held3 (fun w' => w'.cell? ⟨P, off, none⟩ = some (.slice aa an ac) ∧ w'.cell? ⟨P, off + 1, none⟩ = some (.slice ba bn bc) ∧ w'.cell? ⟨P, off + 2, none⟩ = some (.slice ea en ec) ∧ w'.cell? ⟨P, off + 3, none⟩ = some (.slice fa fn fc)) (go_keep) (first | (go_at_call 129; refine (add_to x u ?_ ?_ HX.out HU.out).mono ?_; exact HA.out.later (Below.refl _ _).drew; exact HT.out.later (Below.refl _ _).drew; rintro r w2 ⟨x0, x1, rfl, ho, hb2⟩; have HBU : Hid (Below U.heap.size U w2) := Below.after (Below.refl _ _).drew hb2; obtain ⟨xa, xn, xc, rfl⟩ := ho.dims.ints.shape3; obtain ⟨ya, yn, yc, rfl⟩ := ho.data.ints.shape3; have hbx := HBX.out.later HBU.out; have l0 := hbx.c0; have l1 := hbx.c1; have m0 := hbx.f 0; have m1 := hbx.f 1; have HBS : Hid (Box _ _ _ _) := hbx.set (.slice xa xn xc) (.slice ya yn yc); have HO : Hid (OwnT w2 (w.heap.size + 1) (.slice xa xn xc) (.slice ya yn yc) u) := ho.mono hsU; have HBW : Hid (Below w.heap.size w w2) := Below.after HB.out HBU.out; have a_0 := cell_at HBU.out p0; have a_1 := cell_at HBU.out p1; have a_2 := cell_at HBU.out p2; have a_3 := cell_at HBU.out p3; clear hbx ho hb2))
  clear a_0 a_1 a_2 a_3 p0 p1 p2 p3
  go_wp2
  have hr0 := HBS.out.c0
  have hr1 := HBS.out.c1
  refine bodyPost_ret (v := .tuple #[.agg #[.slice xa xn xc, .slice ya yn yc], .int .i64 x]) (by simp [results, Tryz.results116, go_sem, hr0, hr1]) rfl ⟨_, _, rfl, ?_, ?_⟩
  · exact (HO.out.set2 _ _ (by omega)).mono (by omega)
  · exact (HBW.out.setCell (by simp) _).setCell (by simp) _
set_option maxHeartbeats 4000000 in
theorem value_k5 {vd a0 a1 b0 b1 : Value} {d : List Int} {s t : Ten} {w : World} {P off c : Nat} (n : Int) (hc : 2 ≤ c) (ha : Tens w a0 a1 s) (ht : Tens w b0 b1 t) (p0 : w.cell? ⟨P, off, none⟩ = some a0) (p1 : w.cell? ⟨P, off + 1, none⟩ = some a1) (p2 : w.cell? ⟨P, off + 2, none⟩ = some b0) (p3 : w.cell? ⟨P, off + 3, none⟩ = some b1) (hd : Ints w vd d) :
    Calls Tryz.prog 116 #[.int .i64 5, .int .i64 n, vd, .slice (some ⟨P, off, none⟩) 2 c] w fun e w' => ∃ x0 x1, e = .returned (.tuple #[.agg #[x0, x1], .int .i64 (vE 5 n d s t)]) ∧ OwnT w' w.heap.size x0 x1 (vR 5 n d s t) ∧ Below w.heap.size w w' := by
  obtain ⟨da, dn, dc, rfl⟩ := hd.shape3
  obtain ⟨aa, an, ac, rfl⟩ := ha.1.shape3
  obtain ⟨ba, bn, bc, rfl⟩ := ha.2.shape3
  have hne : ¬ w.heap.size = P := by have := cell_lt p0; omega
  have hne2 : ¬ P = w.heap.size := fun h => hne h.symm
  obtain ⟨ea, en, ec, rfl⟩ := ht.1.shape3
  obtain ⟨fa, fn, fc, rfl⟩ := ht.2.shape3
  obtain ⟨U, hU⟩ : ∃ U, U = w.alloc (.cells #[.slice none 0 0, .slice none 0 0] 156) := ⟨_, rfl⟩
  have hb : Below w.heap.size w U := by rw [hU]; exact (Below.refl _ _).alloc (Nat.le_refl _) _
  have HB : Hid (Below w.heap.size w U) := hb
  have HD : Hid (Ints U (.slice da dn dc) d) := hd.later hb
  have HBX : Hid (Box U w.heap.size (.slice none 0 0) (.slice none 0 0)) := by show Box _ _ _ _; rw [hU]; exact Box.new w _ _
  have hsU : w.heap.size + 1 ≤ U.heap.size := by rw [hU]; simp
  have HA : Hid (Tens U (.slice aa an ac) (.slice ba bn bc) s) := ha.later hb
  replace p0 := cell_at hb p0
  replace p1 := cell_at hb p1
  have HT : Hid (Tens U (.slice ea en ec) (.slice fa fn fc) t) := ht.later hb
  replace p2 := cell_at hb p2
  replace p3 := cell_at hb p3
  obtain ⟨x, hx⟩ : ∃ x, vE 5 n d s t = x := ⟨_, rfl⟩
  obtain ⟨u, hu⟩ : ∃ u, vR 5 n d s t = u := ⟨_, rfl⟩
  rw [hx, hu]
  have HX : Hid (vE 5 n d s t = x) := hx
  have HU : Hid (vR 5 n d s t = u) := hu
  clear hx hu hd hb ha ht
  go_enter Tryz.func116, Tryz.ntmps116
  go_upto_region 1 with fail
  rw [← hU]
  clear hU
  go_wp2_with fail
  go_region_held3 (fun w' => w'.cell? ⟨P, off, none⟩ = some (.slice aa an ac) ∧ w'.cell? ⟨P, off + 1, none⟩ = some (.slice ba bn bc) ∧ w'.cell? ⟨P, off + 2, none⟩ = some (.slice ea en ec) ∧ w'.cell? ⟨P, off + 3, none⟩ = some (.slice fa fn fc)) (go_keep) (first | (go_at_call 130; refine (sub_to x u ?_ ?_ HX.out HU.out).mono ?_; exact HA.out.later (Below.refl _ _).drew; exact HT.out.later (Below.refl _ _).drew; rintro r w2 ⟨x0, x1, rfl, ho, hb2⟩; have HBU : Hid (Below U.heap.size U w2) := Below.after (Below.refl _ _).drew hb2; obtain ⟨xa, xn, xc, rfl⟩ := ho.dims.ints.shape3; obtain ⟨ya, yn, yc, rfl⟩ := ho.data.ints.shape3; have hbx := HBX.out.later HBU.out; have l0 := hbx.c0; have l1 := hbx.c1; have m0 := hbx.f 0; have m1 := hbx.f 1; have HBS : Hid (Box _ _ _ _) := hbx.set (.slice xa xn xc) (.slice ya yn yc); have HO : Hid (OwnT w2 (w.heap.size + 1) (.slice xa xn xc) (.slice ya yn yc) u) := ho.mono hsU; have HBW : Hid (Below w.heap.size w w2) := Below.after HB.out HBU.out; have a_0 := cell_at HBU.out p0; have a_1 := cell_at HBU.out p1; have a_2 := cell_at HBU.out p2; have a_3 := cell_at HBU.out p3; clear hbx ho hb2))
  clear a_0 a_1 a_2 a_3 p0 p1 p2 p3
  go_wp2
  have hr0 := HBS.out.c0
  have hr1 := HBS.out.c1
  refine bodyPost_ret (v := .tuple #[.agg #[.slice xa xn xc, .slice ya yn yc], .int .i64 x]) (by simp [results, Tryz.results116, go_sem, hr0, hr1]) rfl ⟨_, _, rfl, ?_, ?_⟩
  · exact (HO.out.set2 _ _ (by omega)).mono (by omega)
  · exact (HBW.out.setCell (by simp) _).setCell (by simp) _
set_option maxHeartbeats 4000000 in
theorem value_k6 {vd a0 a1 b0 b1 : Value} {d : List Int} {s t : Ten} {w : World} {P off c : Nat} (n : Int) (hc : 2 ≤ c) (ha : Tens w a0 a1 s) (ht : Tens w b0 b1 t) (p0 : w.cell? ⟨P, off, none⟩ = some a0) (p1 : w.cell? ⟨P, off + 1, none⟩ = some a1) (p2 : w.cell? ⟨P, off + 2, none⟩ = some b0) (p3 : w.cell? ⟨P, off + 3, none⟩ = some b1) (hd : Ints w vd d) :
    Calls Tryz.prog 116 #[.int .i64 6, .int .i64 n, vd, .slice (some ⟨P, off, none⟩) 2 c] w fun e w' => ∃ x0 x1, e = .returned (.tuple #[.agg #[x0, x1], .int .i64 (vE 6 n d s t)]) ∧ OwnT w' w.heap.size x0 x1 (vR 6 n d s t) ∧ Below w.heap.size w w' := by
  obtain ⟨da, dn, dc, rfl⟩ := hd.shape3
  obtain ⟨aa, an, ac, rfl⟩ := ha.1.shape3
  obtain ⟨ba, bn, bc, rfl⟩ := ha.2.shape3
  have hne : ¬ w.heap.size = P := by have := cell_lt p0; omega
  have hne2 : ¬ P = w.heap.size := fun h => hne h.symm
  obtain ⟨ea, en, ec, rfl⟩ := ht.1.shape3
  obtain ⟨fa, fn, fc, rfl⟩ := ht.2.shape3
  obtain ⟨U, hU⟩ : ∃ U, U = w.alloc (.cells #[.slice none 0 0, .slice none 0 0] 156) := ⟨_, rfl⟩
  have hb : Below w.heap.size w U := by rw [hU]; exact (Below.refl _ _).alloc (Nat.le_refl _) _
  have HB : Hid (Below w.heap.size w U) := hb
  have HD : Hid (Ints U (.slice da dn dc) d) := hd.later hb
  have HBX : Hid (Box U w.heap.size (.slice none 0 0) (.slice none 0 0)) := by show Box _ _ _ _; rw [hU]; exact Box.new w _ _
  have hsU : w.heap.size + 1 ≤ U.heap.size := by rw [hU]; simp
  have HA : Hid (Tens U (.slice aa an ac) (.slice ba bn bc) s) := ha.later hb
  replace p0 := cell_at hb p0
  replace p1 := cell_at hb p1
  have HT : Hid (Tens U (.slice ea en ec) (.slice fa fn fc) t) := ht.later hb
  replace p2 := cell_at hb p2
  replace p3 := cell_at hb p3
  obtain ⟨x, hx⟩ : ∃ x, vE 6 n d s t = x := ⟨_, rfl⟩
  obtain ⟨u, hu⟩ : ∃ u, vR 6 n d s t = u := ⟨_, rfl⟩
  rw [hx, hu]
  have HX : Hid (vE 6 n d s t = x) := hx
  have HU : Hid (vR 6 n d s t = u) := hu
  clear hx hu hd hb ha ht
  go_enter Tryz.func116, Tryz.ntmps116
  go_upto_region 1 with fail
  rw [← hU]
  clear hU
  go_wp2_with fail
  go_region_held3 (fun w' => w'.cell? ⟨P, off, none⟩ = some (.slice aa an ac) ∧ w'.cell? ⟨P, off + 1, none⟩ = some (.slice ba bn bc) ∧ w'.cell? ⟨P, off + 2, none⟩ = some (.slice ea en ec) ∧ w'.cell? ⟨P, off + 3, none⟩ = some (.slice fa fn fc)) (go_keep) (first | (go_at_call 131; refine (mul_to x ?_ ?_ HX.out).mono ?_; exact HA.out.later (Below.refl _ _).drew; exact HT.out.later (Below.refl _ _).drew; rintro r w2 ⟨x0, x1, rfl, ho, hb2⟩; have hu2 : eachR opM s t = u := HU.out; rw [hu2] at ho; have HBU : Hid (Below U.heap.size U w2) := Below.after (Below.refl _ _).drew hb2; obtain ⟨xa, xn, xc, rfl⟩ := ho.dims.ints.shape3; obtain ⟨ya, yn, yc, rfl⟩ := ho.data.ints.shape3; have hbx := HBX.out.later HBU.out; have l0 := hbx.c0; have l1 := hbx.c1; have m0 := hbx.f 0; have m1 := hbx.f 1; have HBS : Hid (Box _ _ _ _) := hbx.set (.slice xa xn xc) (.slice ya yn yc); have HO : Hid (OwnT w2 (w.heap.size + 1) (.slice xa xn xc) (.slice ya yn yc) u) := ho.mono hsU; have HBW : Hid (Below w.heap.size w w2) := Below.after HB.out HBU.out; have a_0 := cell_at HBU.out p0; have a_1 := cell_at HBU.out p1; have a_2 := cell_at HBU.out p2; have a_3 := cell_at HBU.out p3; clear hbx ho hb2))
  clear a_0 a_1 a_2 a_3 p0 p1 p2 p3
  go_wp2
  have hr0 := HBS.out.c0
  have hr1 := HBS.out.c1
  refine bodyPost_ret (v := .tuple #[.agg #[.slice xa xn xc, .slice ya yn yc], .int .i64 x]) (by simp [results, Tryz.results116, go_sem, hr0, hr1]) rfl ⟨_, _, rfl, ?_, ?_⟩
  · exact (HO.out.set2 _ _ (by omega)).mono (by omega)
  · exact (HBW.out.setCell (by simp) _).setCell (by simp) _
set_option maxHeartbeats 4000000 in
theorem value_k7 {vd a0 a1 : Value} {d : List Int} {s : Ten} {w : World} {P off c : Nat} (n : Int) (hc : 1 ≤ c) (ha : Tens w a0 a1 s) (p0 : w.cell? ⟨P, off, none⟩ = some a0) (p1 : w.cell? ⟨P, off + 1, none⟩ = some a1) (hd : Ints w vd d) :
    Calls Tryz.prog 116 #[.int .i64 7, .int .i64 n, vd, .slice (some ⟨P, off, none⟩) 1 c] w fun e w' => ∃ x0 x1, e = .returned (.tuple #[.agg #[x0, x1], .int .i64 (vE 7 n d s no)]) ∧ OwnT w' w.heap.size x0 x1 (vR 7 n d s no) ∧ Below w.heap.size w w' := by
  obtain ⟨da, dn, dc, rfl⟩ := hd.shape3
  obtain ⟨aa, an, ac, rfl⟩ := ha.1.shape3
  obtain ⟨ba, bn, bc, rfl⟩ := ha.2.shape3
  have hne : ¬ w.heap.size = P := by have := cell_lt p0; omega
  have hne2 : ¬ P = w.heap.size := fun h => hne h.symm
  obtain ⟨U, hU⟩ : ∃ U, U = w.alloc (.cells #[.slice none 0 0, .slice none 0 0] 156) := ⟨_, rfl⟩
  have hb : Below w.heap.size w U := by rw [hU]; exact (Below.refl _ _).alloc (Nat.le_refl _) _
  have HB : Hid (Below w.heap.size w U) := hb
  have HD : Hid (Ints U (.slice da dn dc) d) := hd.later hb
  have HBX : Hid (Box U w.heap.size (.slice none 0 0) (.slice none 0 0)) := by show Box _ _ _ _; rw [hU]; exact Box.new w _ _
  have hsU : w.heap.size + 1 ≤ U.heap.size := by rw [hU]; simp
  have HA : Hid (Tens U (.slice aa an ac) (.slice ba bn bc) s) := ha.later hb
  replace p0 := cell_at hb p0
  replace p1 := cell_at hb p1
  obtain ⟨x, hx⟩ : ∃ x, vE 7 n d s no = x := ⟨_, rfl⟩
  obtain ⟨u, hu⟩ : ∃ u, vR 7 n d s no = u := ⟨_, rfl⟩
  rw [hx, hu]
  have HX : Hid (vE 7 n d s no = x) := hx
  have HU : Hid (vR 7 n d s no = u) := hu
  clear hx hu hd hb ha
  go_enter Tryz.func116, Tryz.ntmps116
  go_upto_region 1 with fail
  rw [← hU]
  clear hU
  go_wp2_with fail
  refine (neg_to x u HA.out HX.out HU.out).mono ?_
  rintro e w2 ⟨x0, x1, rfl, ho, hb2⟩
  have HBU : Hid (Below U.heap.size U w2) := hb2
  obtain ⟨xa, xn, xc, rfl⟩ := ho.dims.ints.shape3
  obtain ⟨ya, yn, yc, rfl⟩ := ho.data.ints.shape3
  have hbx := HBX.out.later HBU.out
  have l0 := hbx.c0
  have l1 := hbx.c1
  have m0 := hbx.f 0
  have m1 := hbx.f 1
  have HBS : Hid (Box _ _ _ _) := hbx.set (.slice xa xn xc) (.slice ya yn yc)
  have HO : Hid (OwnT w2 (w.heap.size + 1) (.slice xa xn xc) (.slice ya yn yc) u) := ho.mono hsU
  have HBW : Hid (Below w.heap.size w w2) := Below.after HB.out HBU.out
  clear hbx ho hb2
  go_wp2
  have hr0 := HBS.out.c0
  have hr1 := HBS.out.c1
  refine bodyPost_ret (v := .tuple #[.agg #[.slice xa xn xc, .slice ya yn yc], .int .i64 x]) (by simp [results, Tryz.results116, go_sem, hr0, hr1]) rfl ⟨_, _, rfl, ?_, ?_⟩
  · exact (HO.out.set2 _ _ (by omega)).mono (by omega)
  · exact (HBW.out.setCell (by simp) _).setCell (by simp) _
end Go.Proofs.YtkojdigaoihkpaaGreatDoor

end
section
namespace Go.Proofs.YtkojdigaoihkpaaGreatDoor
set_option linter.unusedVariables false
set_option linter.unusedSimpArgs false
set_option maxRecDepth 100000
open Go.RowKit

set_option maxHeartbeats 4000000 in
theorem value_k8 {vd a0 a1 : Value} {d : List Int} {s : Ten} {w : World} {P off c : Nat} (n : Int) (hc : 1 ≤ c) (ha : Tens w a0 a1 s) (p0 : w.cell? ⟨P, off, none⟩ = some a0) (p1 : w.cell? ⟨P, off + 1, none⟩ = some a1) (hd : Ints w vd d) :
    Calls Tryz.prog 116 #[.int .i64 8, .int .i64 n, vd, .slice (some ⟨P, off, none⟩) 1 c] w fun e w' => ∃ x0 x1, e = .returned (.tuple #[.agg #[x0, x1], .int .i64 (vE 8 n d s no)]) ∧ OwnT w' w.heap.size x0 x1 (vR 8 n d s no) ∧ Below w.heap.size w w' := by
  obtain ⟨da, dn, dc, rfl⟩ := hd.shape3
  obtain ⟨aa, an, ac, rfl⟩ := ha.1.shape3
  obtain ⟨ba, bn, bc, rfl⟩ := ha.2.shape3
  have hne : ¬ w.heap.size = P := by have := cell_lt p0; omega
  have hne2 : ¬ P = w.heap.size := fun h => hne h.symm
  obtain ⟨U, hU⟩ : ∃ U, U = w.alloc (.cells #[.slice none 0 0, .slice none 0 0] 156) := ⟨_, rfl⟩
  have hb : Below w.heap.size w U := by rw [hU]; exact (Below.refl _ _).alloc (Nat.le_refl _) _
  have HB : Hid (Below w.heap.size w U) := hb
  have HD : Hid (Ints U (.slice da dn dc) d) := hd.later hb
  have HBX : Hid (Box U w.heap.size (.slice none 0 0) (.slice none 0 0)) := by show Box _ _ _ _; rw [hU]; exact Box.new w _ _
  have hsU : w.heap.size + 1 ≤ U.heap.size := by rw [hU]; simp
  have HA : Hid (Tens U (.slice aa an ac) (.slice ba bn bc) s) := ha.later hb
  replace p0 := cell_at hb p0
  replace p1 := cell_at hb p1
  obtain ⟨x, hx⟩ : ∃ x, vE 8 n d s no = x := ⟨_, rfl⟩
  obtain ⟨u, hu⟩ : ∃ u, vR 8 n d s no = u := ⟨_, rfl⟩
  rw [hx, hu]
  have HX : Hid (vE 8 n d s no = x) := hx
  have HU : Hid (vR 8 n d s no = u) := hu
  clear hx hu hd hb ha
  go_enter Tryz.func116, Tryz.ntmps116
  go_upto_region 1 with fail
  rw [← hU]
  clear hU
  go_wp2_with fail
  refine (scale_to n x HA.out HX.out).mono ?_
  rintro e w2 ⟨x0, x1, rfl, ho, hb2⟩
  have hu2 : sclR n s = u := HU.out
  rw [hu2] at ho
  have HBU : Hid (Below U.heap.size U w2) := hb2
  obtain ⟨xa, xn, xc, rfl⟩ := ho.dims.ints.shape3
  obtain ⟨ya, yn, yc, rfl⟩ := ho.data.ints.shape3
  have hbx := HBX.out.later HBU.out
  have l0 := hbx.c0
  have l1 := hbx.c1
  have m0 := hbx.f 0
  have m1 := hbx.f 1
  have HBS : Hid (Box _ _ _ _) := hbx.set (.slice xa xn xc) (.slice ya yn yc)
  have HO : Hid (OwnT w2 (w.heap.size + 1) (.slice xa xn xc) (.slice ya yn yc) u) := ho.mono hsU
  have HBW : Hid (Below w.heap.size w w2) := Below.after HB.out HBU.out
  clear hbx ho hb2
  go_wp2
  have hr0 := HBS.out.c0
  have hr1 := HBS.out.c1
  refine bodyPost_ret (v := .tuple #[.agg #[.slice xa xn xc, .slice ya yn yc], .int .i64 x]) (by simp [results, Tryz.results116, go_sem, hr0, hr1]) rfl ⟨_, _, rfl, ?_, ?_⟩
  · exact (HO.out.set2 _ _ (by omega)).mono (by omega)
  · exact (HBW.out.setCell (by simp) _).setCell (by simp) _
set_option maxHeartbeats 4000000 in
theorem value_k9 {vd a0 a1 b0 b1 : Value} {d : List Int} {s t : Ten} {w : World} {P off c : Nat} (n : Int) (hc : 2 ≤ c) (ha : Tens w a0 a1 s) (ht : Tens w b0 b1 t) (p0 : w.cell? ⟨P, off, none⟩ = some a0) (p1 : w.cell? ⟨P, off + 1, none⟩ = some a1) (p2 : w.cell? ⟨P, off + 2, none⟩ = some b0) (p3 : w.cell? ⟨P, off + 3, none⟩ = some b1) (hd : Ints w vd d) :
    Calls Tryz.prog 116 #[.int .i64 9, .int .i64 n, vd, .slice (some ⟨P, off, none⟩) 2 c] w fun e w' => ∃ x0 x1, e = .returned (.tuple #[.agg #[x0, x1], .int .i64 (vE 9 n d s t)]) ∧ OwnT w' w.heap.size x0 x1 (vR 9 n d s t) ∧ Below w.heap.size w w' := by
  obtain ⟨da, dn, dc, rfl⟩ := hd.shape3
  obtain ⟨aa, an, ac, rfl⟩ := ha.1.shape3
  obtain ⟨ba, bn, bc, rfl⟩ := ha.2.shape3
  have hne : ¬ w.heap.size = P := by have := cell_lt p0; omega
  have hne2 : ¬ P = w.heap.size := fun h => hne h.symm
  obtain ⟨ea, en, ec, rfl⟩ := ht.1.shape3
  obtain ⟨fa, fn, fc, rfl⟩ := ht.2.shape3
  obtain ⟨U, hU⟩ : ∃ U, U = w.alloc (.cells #[.slice none 0 0, .slice none 0 0] 156) := ⟨_, rfl⟩
  have hb : Below w.heap.size w U := by rw [hU]; exact (Below.refl _ _).alloc (Nat.le_refl _) _
  have HB : Hid (Below w.heap.size w U) := hb
  have HD : Hid (Ints U (.slice da dn dc) d) := hd.later hb
  have HBX : Hid (Box U w.heap.size (.slice none 0 0) (.slice none 0 0)) := by show Box _ _ _ _; rw [hU]; exact Box.new w _ _
  have hsU : w.heap.size + 1 ≤ U.heap.size := by rw [hU]; simp
  have HA : Hid (Tens U (.slice aa an ac) (.slice ba bn bc) s) := ha.later hb
  replace p0 := cell_at hb p0
  replace p1 := cell_at hb p1
  have HT : Hid (Tens U (.slice ea en ec) (.slice fa fn fc) t) := ht.later hb
  replace p2 := cell_at hb p2
  replace p3 := cell_at hb p3
  obtain ⟨x, hx⟩ : ∃ x, vE 9 n d s t = x := ⟨_, rfl⟩
  obtain ⟨u, hu⟩ : ∃ u, vR 9 n d s t = u := ⟨_, rfl⟩
  rw [hx, hu]
  have HX : Hid (vE 9 n d s t = x) := hx
  have HU : Hid (vR 9 n d s t = u) := hu
  clear hx hu hd hb ha ht
  go_enter Tryz.func116, Tryz.ntmps116
  go_upto_region 1 with fail
  rw [← hU]
  clear hU
  go_wp2_with fail
  go_region_held3 (fun w' => w'.cell? ⟨P, off, none⟩ = some (.slice aa an ac) ∧ w'.cell? ⟨P, off + 1, none⟩ = some (.slice ba bn bc) ∧ w'.cell? ⟨P, off + 2, none⟩ = some (.slice ea en ec) ∧ w'.cell? ⟨P, off + 3, none⟩ = some (.slice fa fn fc)) (go_keep) (first | (go_at_call 134; refine (mul_to_1 x u ?_ ?_ HX.out HU.out).mono ?_; exact HA.out.later (Below.refl _ _).drew; exact HT.out.later (Below.refl _ _).drew; rintro r w2 ⟨x0, x1, rfl, ho, hb2⟩; have HBU : Hid (Below U.heap.size U w2) := Below.after (Below.refl _ _).drew hb2; obtain ⟨xa, xn, xc, rfl⟩ := ho.dims.ints.shape3; obtain ⟨ya, yn, yc, rfl⟩ := ho.data.ints.shape3; have hbx := HBX.out.later HBU.out; have l0 := hbx.c0; have l1 := hbx.c1; have m0 := hbx.f 0; have m1 := hbx.f 1; have HBS : Hid (Box _ _ _ _) := hbx.set (.slice xa xn xc) (.slice ya yn yc); have HO : Hid (OwnT w2 (w.heap.size + 1) (.slice xa xn xc) (.slice ya yn yc) u) := ho.mono hsU; have HBW : Hid (Below w.heap.size w w2) := Below.after HB.out HBU.out; have a_0 := cell_at HBU.out p0; have a_1 := cell_at HBU.out p1; have a_2 := cell_at HBU.out p2; have a_3 := cell_at HBU.out p3; clear hbx ho hb2))
  clear a_0 a_1 a_2 a_3 p0 p1 p2 p3
  go_wp2
  have hr0 := HBS.out.c0
  have hr1 := HBS.out.c1
  refine bodyPost_ret (v := .tuple #[.agg #[.slice xa xn xc, .slice ya yn yc], .int .i64 x]) (by simp [results, Tryz.results116, go_sem, hr0, hr1]) rfl ⟨_, _, rfl, ?_, ?_⟩
  · exact (HO.out.set2 _ _ (by omega)).mono (by omega)
  · exact (HBW.out.setCell (by simp) _).setCell (by simp) _
set_option maxHeartbeats 4000000 in
theorem value_k10 {vd a0 a1 : Value} {d : List Int} {s : Ten} {w : World} {P off c : Nat} (n : Int) (hc : 1 ≤ c) (ha : Tens w a0 a1 s) (p0 : w.cell? ⟨P, off, none⟩ = some a0) (p1 : w.cell? ⟨P, off + 1, none⟩ = some a1) (hd : Ints w vd d) :
    Calls Tryz.prog 116 #[.int .i64 10, .int .i64 n, vd, .slice (some ⟨P, off, none⟩) 1 c] w fun e w' => ∃ x0 x1, e = .returned (.tuple #[.agg #[x0, x1], .int .i64 (vE 10 n d s no)]) ∧ OwnT w' w.heap.size x0 x1 (vR 10 n d s no) ∧ Below w.heap.size w w' := by
  obtain ⟨da, dn, dc, rfl⟩ := hd.shape3
  obtain ⟨aa, an, ac, rfl⟩ := ha.1.shape3
  obtain ⟨ba, bn, bc, rfl⟩ := ha.2.shape3
  have hne : ¬ w.heap.size = P := by have := cell_lt p0; omega
  have hne2 : ¬ P = w.heap.size := fun h => hne h.symm
  obtain ⟨U, hU⟩ : ∃ U, U = w.alloc (.cells #[.slice none 0 0, .slice none 0 0] 156) := ⟨_, rfl⟩
  have hb : Below w.heap.size w U := by rw [hU]; exact (Below.refl _ _).alloc (Nat.le_refl _) _
  have HB : Hid (Below w.heap.size w U) := hb
  have HD : Hid (Ints U (.slice da dn dc) d) := hd.later hb
  have HBX : Hid (Box U w.heap.size (.slice none 0 0) (.slice none 0 0)) := by show Box _ _ _ _; rw [hU]; exact Box.new w _ _
  have hsU : w.heap.size + 1 ≤ U.heap.size := by rw [hU]; simp
  have HA : Hid (Tens U (.slice aa an ac) (.slice ba bn bc) s) := ha.later hb
  replace p0 := cell_at hb p0
  replace p1 := cell_at hb p1
  obtain ⟨x, hx⟩ : ∃ x, vE 10 n d s no = x := ⟨_, rfl⟩
  obtain ⟨u, hu⟩ : ∃ u, vR 10 n d s no = u := ⟨_, rfl⟩
  rw [hx, hu]
  have HX : Hid (vE 10 n d s no = x) := hx
  have HU : Hid (vR 10 n d s no = u) := hu
  clear hx hu hd hb ha
  go_enter Tryz.func116, Tryz.ntmps116
  go_upto_region 1 with fail
  rw [← hU]
  clear hU
  go_wp2_with fail
  refine (turn_to x u HA.out HX.out HU.out).mono ?_
  rintro e w2 ⟨x0, x1, rfl, ho, hb2⟩
  have HBU : Hid (Below U.heap.size U w2) := hb2
  obtain ⟨xa, xn, xc, rfl⟩ := ho.dims.ints.shape3
  obtain ⟨ya, yn, yc, rfl⟩ := ho.data.ints.shape3
  have hbx := HBX.out.later HBU.out
  have l0 := hbx.c0
  have l1 := hbx.c1
  have m0 := hbx.f 0
  have m1 := hbx.f 1
  have HBS : Hid (Box _ _ _ _) := hbx.set (.slice xa xn xc) (.slice ya yn yc)
  have HO : Hid (OwnT w2 (w.heap.size + 1) (.slice xa xn xc) (.slice ya yn yc) u) := ho.mono hsU
  have HBW : Hid (Below w.heap.size w w2) := Below.after HB.out HBU.out
  clear hbx ho hb2
  go_wp2
  have hr0 := HBS.out.c0
  have hr1 := HBS.out.c1
  refine bodyPost_ret (v := .tuple #[.agg #[.slice xa xn xc, .slice ya yn yc], .int .i64 x]) (by simp [results, Tryz.results116, go_sem, hr0, hr1]) rfl ⟨_, _, rfl, ?_, ?_⟩
  · exact (HO.out.set2 _ _ (by omega)).mono (by omega)
  · exact (HBW.out.setCell (by simp) _).setCell (by simp) _
set_option maxHeartbeats 4000000 in
theorem value_k11 {vd a0 a1 : Value} {d : List Int} {s : Ten} {w : World} {P off c : Nat} (n : Int) (hc : 1 ≤ c) (ha : Tens w a0 a1 s) (p0 : w.cell? ⟨P, off, none⟩ = some a0) (p1 : w.cell? ⟨P, off + 1, none⟩ = some a1) (hd : Ints w vd d) :
    Calls Tryz.prog 116 #[.int .i64 11, .int .i64 n, vd, .slice (some ⟨P, off, none⟩) 1 c] w fun e w' => ∃ x0 x1, e = .returned (.tuple #[.agg #[x0, x1], .int .i64 (vE 11 n d s no)]) ∧ OwnT w' w.heap.size x0 x1 (vR 11 n d s no) ∧ Below w.heap.size w w' := by
  obtain ⟨da, dn, dc, rfl⟩ := hd.shape3
  obtain ⟨aa, an, ac, rfl⟩ := ha.1.shape3
  obtain ⟨ba, bn, bc, rfl⟩ := ha.2.shape3
  have hne : ¬ w.heap.size = P := by have := cell_lt p0; omega
  have hne2 : ¬ P = w.heap.size := fun h => hne h.symm
  obtain ⟨U, hU⟩ : ∃ U, U = w.alloc (.cells #[.slice none 0 0, .slice none 0 0] 156) := ⟨_, rfl⟩
  have hb : Below w.heap.size w U := by rw [hU]; exact (Below.refl _ _).alloc (Nat.le_refl _) _
  have HB : Hid (Below w.heap.size w U) := hb
  have HD : Hid (Ints U (.slice da dn dc) d) := hd.later hb
  have HBX : Hid (Box U w.heap.size (.slice none 0 0) (.slice none 0 0)) := by show Box _ _ _ _; rw [hU]; exact Box.new w _ _
  have hsU : w.heap.size + 1 ≤ U.heap.size := by rw [hU]; simp
  have HA : Hid (Tens U (.slice aa an ac) (.slice ba bn bc) s) := ha.later hb
  replace p0 := cell_at hb p0
  replace p1 := cell_at hb p1
  obtain ⟨x, hx⟩ : ∃ x, vE 11 n d s no = x := ⟨_, rfl⟩
  obtain ⟨u, hu⟩ : ∃ u, vR 11 n d s no = u := ⟨_, rfl⟩
  rw [hx, hu]
  have HX : Hid (vE 11 n d s no = x) := hx
  have HU : Hid (vR 11 n d s no = u) := hu
  clear hx hu hd hb ha
  go_enter Tryz.func116, Tryz.ntmps116
  go_upto_region 1 with fail
  rw [← hU]
  clear hU
  go_wp2_with fail
  refine (shape_to x u HA.out HD.out HX.out HU.out).mono ?_
  rintro e w2 ⟨x0, x1, rfl, ho, hb2⟩
  have HBU : Hid (Below U.heap.size U w2) := hb2
  obtain ⟨xa, xn, xc, rfl⟩ := ho.dims.ints.shape3
  obtain ⟨ya, yn, yc, rfl⟩ := ho.data.ints.shape3
  have hbx := HBX.out.later HBU.out
  have l0 := hbx.c0
  have l1 := hbx.c1
  have m0 := hbx.f 0
  have m1 := hbx.f 1
  have HBS : Hid (Box _ _ _ _) := hbx.set (.slice xa xn xc) (.slice ya yn yc)
  have HO : Hid (OwnT w2 (w.heap.size + 1) (.slice xa xn xc) (.slice ya yn yc) u) := ho.mono hsU
  have HBW : Hid (Below w.heap.size w w2) := Below.after HB.out HBU.out
  clear hbx ho hb2
  go_wp2
  have hr0 := HBS.out.c0
  have hr1 := HBS.out.c1
  refine bodyPost_ret (v := .tuple #[.agg #[.slice xa xn xc, .slice ya yn yc], .int .i64 x]) (by simp [results, Tryz.results116, go_sem, hr0, hr1]) rfl ⟨_, _, rfl, ?_, ?_⟩
  · exact (HO.out.set2 _ _ (by omega)).mono (by omega)
  · exact (HBW.out.setCell (by simp) _).setCell (by simp) _
set_option maxHeartbeats 4000000 in
theorem value_k12 {vd a0 a1 : Value} {d : List Int} {s : Ten} {w : World} {P off c : Nat} (n : Int) (hc : 1 ≤ c) (ha : Tens w a0 a1 s) (p0 : w.cell? ⟨P, off, none⟩ = some a0) (p1 : w.cell? ⟨P, off + 1, none⟩ = some a1) (hd : Ints w vd d) :
    Calls Tryz.prog 116 #[.int .i64 12, .int .i64 n, vd, .slice (some ⟨P, off, none⟩) 1 c] w fun e w' => ∃ x0 x1, e = .returned (.tuple #[.agg #[x0, x1], .int .i64 (vE 12 n d s no)]) ∧ OwnT w' w.heap.size x0 x1 (vR 12 n d s no) ∧ Below w.heap.size w w' := by
  obtain ⟨da, dn, dc, rfl⟩ := hd.shape3
  obtain ⟨aa, an, ac, rfl⟩ := ha.1.shape3
  obtain ⟨ba, bn, bc, rfl⟩ := ha.2.shape3
  have hne : ¬ w.heap.size = P := by have := cell_lt p0; omega
  have hne2 : ¬ P = w.heap.size := fun h => hne h.symm
  obtain ⟨U, hU⟩ : ∃ U, U = w.alloc (.cells #[.slice none 0 0, .slice none 0 0] 156) := ⟨_, rfl⟩
  have hb : Below w.heap.size w U := by rw [hU]; exact (Below.refl _ _).alloc (Nat.le_refl _) _
  have HB : Hid (Below w.heap.size w U) := hb
  have HD : Hid (Ints U (.slice da dn dc) d) := hd.later hb
  have HBX : Hid (Box U w.heap.size (.slice none 0 0) (.slice none 0 0)) := by show Box _ _ _ _; rw [hU]; exact Box.new w _ _
  have hsU : w.heap.size + 1 ≤ U.heap.size := by rw [hU]; simp
  have HA : Hid (Tens U (.slice aa an ac) (.slice ba bn bc) s) := ha.later hb
  replace p0 := cell_at hb p0
  replace p1 := cell_at hb p1
  obtain ⟨x, hx⟩ : ∃ x, vE 12 n d s no = x := ⟨_, rfl⟩
  obtain ⟨u, hu⟩ : ∃ u, vR 12 n d s no = u := ⟨_, rfl⟩
  rw [hx, hu]
  have HX : Hid (vE 12 n d s no = x) := hx
  have HU : Hid (vR 12 n d s no = u) := hu
  clear hx hu hd hb ha
  go_enter Tryz.func116, Tryz.ntmps116
  go_upto_region 1 with fail
  rw [← hU]
  clear hU
  go_wp2_with fail
  refine (wide_to x u HA.out HD.out HX.out HU.out).mono ?_
  rintro e w2 ⟨x0, x1, rfl, ho, hb2⟩
  have HBU : Hid (Below U.heap.size U w2) := hb2
  obtain ⟨xa, xn, xc, rfl⟩ := ho.dims.ints.shape3
  obtain ⟨ya, yn, yc, rfl⟩ := ho.data.ints.shape3
  have hbx := HBX.out.later HBU.out
  have l0 := hbx.c0
  have l1 := hbx.c1
  have m0 := hbx.f 0
  have m1 := hbx.f 1
  have HBS : Hid (Box _ _ _ _) := hbx.set (.slice xa xn xc) (.slice ya yn yc)
  have HO : Hid (OwnT w2 (w.heap.size + 1) (.slice xa xn xc) (.slice ya yn yc) u) := ho.mono hsU
  have HBW : Hid (Below w.heap.size w w2) := Below.after HB.out HBU.out
  clear hbx ho hb2
  go_wp2
  have hr0 := HBS.out.c0
  have hr1 := HBS.out.c1
  refine bodyPost_ret (v := .tuple #[.agg #[.slice xa xn xc, .slice ya yn yc], .int .i64 x]) (by simp [results, Tryz.results116, go_sem, hr0, hr1]) rfl ⟨_, _, rfl, ?_, ?_⟩
  · exact (HO.out.set2 _ _ (by omega)).mono (by omega)
  · exact (HBW.out.setCell (by simp) _).setCell (by simp) _
set_option maxHeartbeats 4000000 in
theorem value_k13 {vd a0 a1 : Value} {d : List Int} {s : Ten} {w : World} {P off c : Nat} (n : Int) (hc : 1 ≤ c) (ha : Tens w a0 a1 s) (p0 : w.cell? ⟨P, off, none⟩ = some a0) (p1 : w.cell? ⟨P, off + 1, none⟩ = some a1) (hd : Ints w vd d) :
    Calls Tryz.prog 116 #[.int .i64 13, .int .i64 n, vd, .slice (some ⟨P, off, none⟩) 1 c] w fun e w' => ∃ x0 x1, e = .returned (.tuple #[.agg #[x0, x1], .int .i64 (vE 13 n d s no)]) ∧ OwnT w' w.heap.size x0 x1 (vR 13 n d s no) ∧ Below w.heap.size w w' := by
  obtain ⟨da, dn, dc, rfl⟩ := hd.shape3
  obtain ⟨aa, an, ac, rfl⟩ := ha.1.shape3
  obtain ⟨ba, bn, bc, rfl⟩ := ha.2.shape3
  have hne : ¬ w.heap.size = P := by have := cell_lt p0; omega
  have hne2 : ¬ P = w.heap.size := fun h => hne h.symm
  obtain ⟨U, hU⟩ : ∃ U, U = w.alloc (.cells #[.slice none 0 0, .slice none 0 0] 156) := ⟨_, rfl⟩
  have hb : Below w.heap.size w U := by rw [hU]; exact (Below.refl _ _).alloc (Nat.le_refl _) _
  have HB : Hid (Below w.heap.size w U) := hb
  have HD : Hid (Ints U (.slice da dn dc) d) := hd.later hb
  have HBX : Hid (Box U w.heap.size (.slice none 0 0) (.slice none 0 0)) := by show Box _ _ _ _; rw [hU]; exact Box.new w _ _
  have hsU : w.heap.size + 1 ≤ U.heap.size := by rw [hU]; simp
  have HA : Hid (Tens U (.slice aa an ac) (.slice ba bn bc) s) := ha.later hb
  replace p0 := cell_at hb p0
  replace p1 := cell_at hb p1
  obtain ⟨x, hx⟩ : ∃ x, vE 13 n d s no = x := ⟨_, rfl⟩
  obtain ⟨u, hu⟩ : ∃ u, vR 13 n d s no = u := ⟨_, rfl⟩
  rw [hx, hu]
  have HX : Hid (vE 13 n d s no = x) := hx
  have HU : Hid (vR 13 n d s no = u) := hu
  clear hx hu hd hb ha
  go_enter Tryz.func116, Tryz.ntmps116
  go_upto_region 1 with fail
  rw [← hU]
  clear hU
  go_wp2_with fail
  refine (sumd_to x u HA.out HD.out HX.out HU.out).mono ?_
  rintro e w2 ⟨x0, x1, rfl, ho, hb2⟩
  have HBU : Hid (Below U.heap.size U w2) := hb2
  obtain ⟨xa, xn, xc, rfl⟩ := ho.dims.ints.shape3
  obtain ⟨ya, yn, yc, rfl⟩ := ho.data.ints.shape3
  have hbx := HBX.out.later HBU.out
  have l0 := hbx.c0
  have l1 := hbx.c1
  have m0 := hbx.f 0
  have m1 := hbx.f 1
  have HBS : Hid (Box _ _ _ _) := hbx.set (.slice xa xn xc) (.slice ya yn yc)
  have HO : Hid (OwnT w2 (w.heap.size + 1) (.slice xa xn xc) (.slice ya yn yc) u) := ho.mono hsU
  have HBW : Hid (Below w.heap.size w w2) := Below.after HB.out HBU.out
  clear hbx ho hb2
  go_wp2
  have hr0 := HBS.out.c0
  have hr1 := HBS.out.c1
  refine bodyPost_ret (v := .tuple #[.agg #[.slice xa xn xc, .slice ya yn yc], .int .i64 x]) (by simp [results, Tryz.results116, go_sem, hr0, hr1]) rfl ⟨_, _, rfl, ?_, ?_⟩
  · exact (HO.out.set2 _ _ (by omega)).mono (by omega)
  · exact (HBW.out.setCell (by simp) _).setCell (by simp) _
set_option maxHeartbeats 4000000 in
theorem value_k14 {vd a0 a1 : Value} {d : List Int} {s : Ten} {w : World} {P off c : Nat} (n : Int) (hc : 1 ≤ c) (ha : Tens w a0 a1 s) (p0 : w.cell? ⟨P, off, none⟩ = some a0) (p1 : w.cell? ⟨P, off + 1, none⟩ = some a1) (hd : Ints w vd d) :
    Calls Tryz.prog 116 #[.int .i64 14, .int .i64 n, vd, .slice (some ⟨P, off, none⟩) 1 c] w fun e w' => ∃ x0 x1, e = .returned (.tuple #[.agg #[x0, x1], .int .i64 (vE 14 n d s no)]) ∧ OwnT w' w.heap.size x0 x1 (vR 14 n d s no) ∧ Below w.heap.size w w' := by
  obtain ⟨da, dn, dc, rfl⟩ := hd.shape3
  obtain ⟨aa, an, ac, rfl⟩ := ha.1.shape3
  obtain ⟨ba, bn, bc, rfl⟩ := ha.2.shape3
  have hne : ¬ w.heap.size = P := by have := cell_lt p0; omega
  have hne2 : ¬ P = w.heap.size := fun h => hne h.symm
  obtain ⟨U, hU⟩ : ∃ U, U = w.alloc (.cells #[.slice none 0 0, .slice none 0 0] 156) := ⟨_, rfl⟩
  have hb : Below w.heap.size w U := by rw [hU]; exact (Below.refl _ _).alloc (Nat.le_refl _) _
  have HB : Hid (Below w.heap.size w U) := hb
  have HD : Hid (Ints U (.slice da dn dc) d) := hd.later hb
  have HBX : Hid (Box U w.heap.size (.slice none 0 0) (.slice none 0 0)) := by show Box _ _ _ _; rw [hU]; exact Box.new w _ _
  have hsU : w.heap.size + 1 ≤ U.heap.size := by rw [hU]; simp
  have HA : Hid (Tens U (.slice aa an ac) (.slice ba bn bc) s) := ha.later hb
  replace p0 := cell_at hb p0
  replace p1 := cell_at hb p1
  obtain ⟨x, hx⟩ : ∃ x, vE 14 n d s no = x := ⟨_, rfl⟩
  obtain ⟨u, hu⟩ : ∃ u, vR 14 n d s no = u := ⟨_, rfl⟩
  rw [hx, hu]
  have HX : Hid (vE 14 n d s no = x) := hx
  have HU : Hid (vR 14 n d s no = u) := hu
  clear hx hu hd hb ha
  go_enter Tryz.func116, Tryz.ntmps116
  go_upto_region 1 with fail
  rw [← hU]
  clear hU
  go_wp2_with fail
  refine (relu_to x u HA.out HX.out HU.out).mono ?_
  rintro e w2 ⟨x0, x1, rfl, ho, hb2⟩
  have HBU : Hid (Below U.heap.size U w2) := hb2
  obtain ⟨xa, xn, xc, rfl⟩ := ho.dims.ints.shape3
  obtain ⟨ya, yn, yc, rfl⟩ := ho.data.ints.shape3
  have hbx := HBX.out.later HBU.out
  have l0 := hbx.c0
  have l1 := hbx.c1
  have m0 := hbx.f 0
  have m1 := hbx.f 1
  have HBS : Hid (Box _ _ _ _) := hbx.set (.slice xa xn xc) (.slice ya yn yc)
  have HO : Hid (OwnT w2 (w.heap.size + 1) (.slice xa xn xc) (.slice ya yn yc) u) := ho.mono hsU
  have HBW : Hid (Below w.heap.size w w2) := Below.after HB.out HBU.out
  clear hbx ho hb2
  go_wp2
  have hr0 := HBS.out.c0
  have hr1 := HBS.out.c1
  refine bodyPost_ret (v := .tuple #[.agg #[.slice xa xn xc, .slice ya yn yc], .int .i64 x]) (by simp [results, Tryz.results116, go_sem, hr0, hr1]) rfl ⟨_, _, rfl, ?_, ?_⟩
  · exact (HO.out.set2 _ _ (by omega)).mono (by omega)
  · exact (HBW.out.setCell (by simp) _).setCell (by simp) _
set_option maxHeartbeats 4000000 in
theorem value_k15 {vd a0 a1 : Value} {d : List Int} {s : Ten} {w : World} {P off c : Nat} (n : Int) (hc : 1 ≤ c) (ha : Tens w a0 a1 s) (p0 : w.cell? ⟨P, off, none⟩ = some a0) (p1 : w.cell? ⟨P, off + 1, none⟩ = some a1) (hd : Ints w vd d) :
    Calls Tryz.prog 116 #[.int .i64 15, .int .i64 n, vd, .slice (some ⟨P, off, none⟩) 1 c] w fun e w' => ∃ x0 x1, e = .returned (.tuple #[.agg #[x0, x1], .int .i64 (vE 15 n d s no)]) ∧ OwnT w' w.heap.size x0 x1 (vR 15 n d s no) ∧ Below w.heap.size w w' := by
  obtain ⟨da, dn, dc, rfl⟩ := hd.shape3
  obtain ⟨aa, an, ac, rfl⟩ := ha.1.shape3
  obtain ⟨ba, bn, bc, rfl⟩ := ha.2.shape3
  have hne : ¬ w.heap.size = P := by have := cell_lt p0; omega
  have hne2 : ¬ P = w.heap.size := fun h => hne h.symm
  obtain ⟨U, hU⟩ : ∃ U, U = w.alloc (.cells #[.slice none 0 0, .slice none 0 0] 156) := ⟨_, rfl⟩
  have hb : Below w.heap.size w U := by rw [hU]; exact (Below.refl _ _).alloc (Nat.le_refl _) _
  have HB : Hid (Below w.heap.size w U) := hb
  have HD : Hid (Ints U (.slice da dn dc) d) := hd.later hb
  have HBX : Hid (Box U w.heap.size (.slice none 0 0) (.slice none 0 0)) := by show Box _ _ _ _; rw [hU]; exact Box.new w _ _
  have hsU : w.heap.size + 1 ≤ U.heap.size := by rw [hU]; simp
  have HA : Hid (Tens U (.slice aa an ac) (.slice ba bn bc) s) := ha.later hb
  replace p0 := cell_at hb p0
  replace p1 := cell_at hb p1
  obtain ⟨x, hx⟩ : ∃ x, vE 15 n d s no = x := ⟨_, rfl⟩
  obtain ⟨u, hu⟩ : ∃ u, vR 15 n d s no = u := ⟨_, rfl⟩
  rw [hx, hu]
  have HX : Hid (vE 15 n d s no = x) := hx
  have HU : Hid (vR 15 n d s no = u) := hu
  clear hx hu hd hb ha
  go_enter Tryz.func116, Tryz.ntmps116
  go_upto_region 1 with fail
  rw [← hU]
  clear hU
  go_wp2_with fail
  refine (max_to n x u HA.out HX.out HU.out).mono ?_
  rintro e w2 ⟨x0, x1, rfl, ho, hb2⟩
  have HBU : Hid (Below U.heap.size U w2) := hb2
  obtain ⟨xa, xn, xc, rfl⟩ := ho.dims.ints.shape3
  obtain ⟨ya, yn, yc, rfl⟩ := ho.data.ints.shape3
  have hbx := HBX.out.later HBU.out
  have l0 := hbx.c0
  have l1 := hbx.c1
  have m0 := hbx.f 0
  have m1 := hbx.f 1
  have HBS : Hid (Box _ _ _ _) := hbx.set (.slice xa xn xc) (.slice ya yn yc)
  have HO : Hid (OwnT w2 (w.heap.size + 1) (.slice xa xn xc) (.slice ya yn yc) u) := ho.mono hsU
  have HBW : Hid (Below w.heap.size w w2) := Below.after HB.out HBU.out
  clear hbx ho hb2
  go_wp2
  have hr0 := HBS.out.c0
  have hr1 := HBS.out.c1
  refine bodyPost_ret (v := .tuple #[.agg #[.slice xa xn xc, .slice ya yn yc], .int .i64 x]) (by simp [results, Tryz.results116, go_sem, hr0, hr1]) rfl ⟨_, _, rfl, ?_, ?_⟩
  · exact (HO.out.set2 _ _ (by omega)).mono (by omega)
  · exact (HBW.out.setCell (by simp) _).setCell (by simp) _
set_option maxHeartbeats 4000000 in
theorem value_k16 {vd a0 a1 b0 b1 : Value} {d : List Int} {s t : Ten} {w : World} {P off c : Nat} (n : Int) (hc : 2 ≤ c) (ha : Tens w a0 a1 s) (ht : Tens w b0 b1 t) (p0 : w.cell? ⟨P, off, none⟩ = some a0) (p1 : w.cell? ⟨P, off + 1, none⟩ = some a1) (p2 : w.cell? ⟨P, off + 2, none⟩ = some b0) (p3 : w.cell? ⟨P, off + 3, none⟩ = some b1) (hd : Ints w vd d) :
    Calls Tryz.prog 116 #[.int .i64 16, .int .i64 n, vd, .slice (some ⟨P, off, none⟩) 2 c] w fun e w' => ∃ x0 x1, e = .returned (.tuple #[.agg #[x0, x1], .int .i64 (vE 16 n d s t)]) ∧ OwnT w' w.heap.size x0 x1 (vR 16 n d s t) ∧ Below w.heap.size w w' := by
  obtain ⟨da, dn, dc, rfl⟩ := hd.shape3
  obtain ⟨aa, an, ac, rfl⟩ := ha.1.shape3
  obtain ⟨ba, bn, bc, rfl⟩ := ha.2.shape3
  have hne : ¬ w.heap.size = P := by have := cell_lt p0; omega
  have hne2 : ¬ P = w.heap.size := fun h => hne h.symm
  obtain ⟨ea, en, ec, rfl⟩ := ht.1.shape3
  obtain ⟨fa, fn, fc, rfl⟩ := ht.2.shape3
  obtain ⟨U, hU⟩ : ∃ U, U = w.alloc (.cells #[.slice none 0 0, .slice none 0 0] 156) := ⟨_, rfl⟩
  have hb : Below w.heap.size w U := by rw [hU]; exact (Below.refl _ _).alloc (Nat.le_refl _) _
  have HB : Hid (Below w.heap.size w U) := hb
  have HD : Hid (Ints U (.slice da dn dc) d) := hd.later hb
  have HBX : Hid (Box U w.heap.size (.slice none 0 0) (.slice none 0 0)) := by show Box _ _ _ _; rw [hU]; exact Box.new w _ _
  have hsU : w.heap.size + 1 ≤ U.heap.size := by rw [hU]; simp
  have HA : Hid (Tens U (.slice aa an ac) (.slice ba bn bc) s) := ha.later hb
  replace p0 := cell_at hb p0
  replace p1 := cell_at hb p1
  have HT : Hid (Tens U (.slice ea en ec) (.slice fa fn fc) t) := ht.later hb
  replace p2 := cell_at hb p2
  replace p3 := cell_at hb p3
  obtain ⟨x, hx⟩ : ∃ x, vE 16 n d s t = x := ⟨_, rfl⟩
  obtain ⟨u, hu⟩ : ∃ u, vR 16 n d s t = u := ⟨_, rfl⟩
  rw [hx, hu]
  have HX : Hid (vE 16 n d s t = x) := hx
  have HU : Hid (vR 16 n d s t = u) := hu
  clear hx hu hd hb ha ht
  go_enter Tryz.func116, Tryz.ntmps116
  go_upto_region 1 with fail
  rw [← hU]
  clear hU
  go_wp2_with fail
  go_region_held3 (fun w' => w'.cell? ⟨P, off, none⟩ = some (.slice aa an ac) ∧ w'.cell? ⟨P, off + 1, none⟩ = some (.slice ba bn bc) ∧ w'.cell? ⟨P, off + 2, none⟩ = some (.slice ea en ec) ∧ w'.cell? ⟨P, off + 3, none⟩ = some (.slice fa fn fc)) (go_keep) (first | (go_at_call 141; refine (step_to x u ?_ ?_ HX.out HU.out).mono ?_; exact HA.out.later (Below.refl _ _).drew; exact HT.out.later (Below.refl _ _).drew; rintro r w2 ⟨x0, x1, rfl, ho, hb2⟩; have HBU : Hid (Below U.heap.size U w2) := Below.after (Below.refl _ _).drew hb2; obtain ⟨xa, xn, xc, rfl⟩ := ho.dims.ints.shape3; obtain ⟨ya, yn, yc, rfl⟩ := ho.data.ints.shape3; have hbx := HBX.out.later HBU.out; have l0 := hbx.c0; have l1 := hbx.c1; have m0 := hbx.f 0; have m1 := hbx.f 1; have HBS : Hid (Box _ _ _ _) := hbx.set (.slice xa xn xc) (.slice ya yn yc); have HO : Hid (OwnT w2 (w.heap.size + 1) (.slice xa xn xc) (.slice ya yn yc) u) := ho.mono hsU; have HBW : Hid (Below w.heap.size w w2) := Below.after HB.out HBU.out; have a_0 := cell_at HBU.out p0; have a_1 := cell_at HBU.out p1; have a_2 := cell_at HBU.out p2; have a_3 := cell_at HBU.out p3; clear hbx ho hb2))
  clear a_0 a_1 a_2 a_3 p0 p1 p2 p3
  go_wp2
  have hr0 := HBS.out.c0
  have hr1 := HBS.out.c1
  refine bodyPost_ret (v := .tuple #[.agg #[.slice xa xn xc, .slice ya yn yc], .int .i64 x]) (by simp [results, Tryz.results116, go_sem, hr0, hr1]) rfl ⟨_, _, rfl, ?_, ?_⟩
  · exact (HO.out.set2 _ _ (by omega)).mono (by omega)
  · exact (HBW.out.setCell (by simp) _).setCell (by simp) _
set_option maxHeartbeats 4000000 in
theorem value_k17 {vd a0 a1 b0 b1 : Value} {d : List Int} {s t : Ten} {w : World} {P off c : Nat} (n : Int) (hc : 2 ≤ c) (ha : Tens w a0 a1 s) (ht : Tens w b0 b1 t) (p0 : w.cell? ⟨P, off, none⟩ = some a0) (p1 : w.cell? ⟨P, off + 1, none⟩ = some a1) (p2 : w.cell? ⟨P, off + 2, none⟩ = some b0) (p3 : w.cell? ⟨P, off + 3, none⟩ = some b1) (hd : Ints w vd d) :
    Calls Tryz.prog 116 #[.int .i64 17, .int .i64 n, vd, .slice (some ⟨P, off, none⟩) 2 c] w fun e w' => ∃ x0 x1, e = .returned (.tuple #[.agg #[x0, x1], .int .i64 (vE 17 n d s t)]) ∧ OwnT w' w.heap.size x0 x1 (vR 17 n d s t) ∧ Below w.heap.size w w' := by
  obtain ⟨da, dn, dc, rfl⟩ := hd.shape3
  obtain ⟨aa, an, ac, rfl⟩ := ha.1.shape3
  obtain ⟨ba, bn, bc, rfl⟩ := ha.2.shape3
  have hne : ¬ w.heap.size = P := by have := cell_lt p0; omega
  have hne2 : ¬ P = w.heap.size := fun h => hne h.symm
  obtain ⟨ea, en, ec, rfl⟩ := ht.1.shape3
  obtain ⟨fa, fn, fc, rfl⟩ := ht.2.shape3
  obtain ⟨U, hU⟩ : ∃ U, U = w.alloc (.cells #[.slice none 0 0, .slice none 0 0] 156) := ⟨_, rfl⟩
  have hb : Below w.heap.size w U := by rw [hU]; exact (Below.refl _ _).alloc (Nat.le_refl _) _
  have HB : Hid (Below w.heap.size w U) := hb
  have HD : Hid (Ints U (.slice da dn dc) d) := hd.later hb
  have HBX : Hid (Box U w.heap.size (.slice none 0 0) (.slice none 0 0)) := by show Box _ _ _ _; rw [hU]; exact Box.new w _ _
  have hsU : w.heap.size + 1 ≤ U.heap.size := by rw [hU]; simp
  have HA : Hid (Tens U (.slice aa an ac) (.slice ba bn bc) s) := ha.later hb
  replace p0 := cell_at hb p0
  replace p1 := cell_at hb p1
  have HT : Hid (Tens U (.slice ea en ec) (.slice fa fn fc) t) := ht.later hb
  replace p2 := cell_at hb p2
  replace p3 := cell_at hb p3
  obtain ⟨x, hx⟩ : ∃ x, vE 17 n d s t = x := ⟨_, rfl⟩
  obtain ⟨u, hu⟩ : ∃ u, vR 17 n d s t = u := ⟨_, rfl⟩
  rw [hx, hu]
  have HX : Hid (vE 17 n d s t = x) := hx
  have HU : Hid (vR 17 n d s t = u) := hu
  clear hx hu hd hb ha ht
  go_enter Tryz.func116, Tryz.ntmps116
  go_upto_region 1 with fail
  rw [← hU]
  clear hU
  go_wp2_with fail
  go_region_held3 (fun w' => w'.cell? ⟨P, off, none⟩ = some (.slice aa an ac) ∧ w'.cell? ⟨P, off + 1, none⟩ = some (.slice ba bn bc) ∧ w'.cell? ⟨P, off + 2, none⟩ = some (.slice ea en ec) ∧ w'.cell? ⟨P, off + 3, none⟩ = some (.slice fa fn fc)) (go_keep) (first | (go_at_call 142; refine (pick_to n x u ?_ ?_ HX.out HU.out).mono ?_; exact HA.out.later (Below.refl _ _).drew; exact HT.out.later (Below.refl _ _).drew; rintro r w2 ⟨x0, x1, rfl, ho, hb2⟩; have HBU : Hid (Below U.heap.size U w2) := Below.after (Below.refl _ _).drew hb2; obtain ⟨xa, xn, xc, rfl⟩ := ho.dims.ints.shape3; obtain ⟨ya, yn, yc, rfl⟩ := ho.data.ints.shape3; have hbx := HBX.out.later HBU.out; have l0 := hbx.c0; have l1 := hbx.c1; have m0 := hbx.f 0; have m1 := hbx.f 1; have HBS : Hid (Box _ _ _ _) := hbx.set (.slice xa xn xc) (.slice ya yn yc); have HO : Hid (OwnT w2 (w.heap.size + 1) (.slice xa xn xc) (.slice ya yn yc) u) := ho.mono hsU; have HBW : Hid (Below w.heap.size w w2) := Below.after HB.out HBU.out; have a_0 := cell_at HBU.out p0; have a_1 := cell_at HBU.out p1; have a_2 := cell_at HBU.out p2; have a_3 := cell_at HBU.out p3; clear hbx ho hb2))
  clear a_0 a_1 a_2 a_3 p0 p1 p2 p3
  go_wp2
  have hr0 := HBS.out.c0
  have hr1 := HBS.out.c1
  refine bodyPost_ret (v := .tuple #[.agg #[.slice xa xn xc, .slice ya yn yc], .int .i64 x]) (by simp [results, Tryz.results116, go_sem, hr0, hr1]) rfl ⟨_, _, rfl, ?_, ?_⟩
  · exact (HO.out.set2 _ _ (by omega)).mono (by omega)
  · exact (HBW.out.setCell (by simp) _).setCell (by simp) _
theorem TensL.one {w : World} {v : Value} {s : Ten} (h : TensL w v [s]) : ∃ P off c x y, v = .slice (some ⟨P, off, none⟩) 1 c ∧ 1 ≤ c ∧ w.cell? ⟨P, off, none⟩ = some x ∧ w.cell? ⟨P, off + 1, none⟩ = some y ∧ Tens w x y s := by
  obtain ⟨_, a, c, rfl, hc, HC⟩ := h
  obtain ⟨b, off, x, y, rfl, c0, c1, ht⟩ := HC 0 (by simp)
  exact ⟨b, off, c, x, y, rfl, hc, by simpa using c0, by simpa using c1, ht⟩
theorem TensL.two {w : World} {v : Value} {s t : Ten} (h : TensL w v [s, t]) : ∃ P off c x y p q, v = .slice (some ⟨P, off, none⟩) 2 c ∧ 2 ≤ c ∧ w.cell? ⟨P, off, none⟩ = some x ∧ w.cell? ⟨P, off + 1, none⟩ = some y ∧ w.cell? ⟨P, off + 2, none⟩ = some p ∧ w.cell? ⟨P, off + 3, none⟩ = some q ∧ Tens w x y s ∧ Tens w p q t := by
  obtain ⟨_, a, c, rfl, hc, HC⟩ := h
  obtain ⟨b, off, x, y, rfl, c0, c1, ht⟩ := HC 0 (by simp)
  obtain ⟨b', off', p, q, e, c2, c3, hu⟩ := HC 1 (by simp)
  simp only [Option.some.injEq, Addr.mk.injEq, and_true] at e
  obtain ⟨rfl, rfl⟩ := e
  exact ⟨b, off, c, x, y, p, q, rfl, hc, by simpa using c0, by simpa using c1, by simpa using c2, by simpa using c3, ht, hu⟩
set_option maxHeartbeats 1000000 in
theorem value_k1 {vd vl : Value} {w : World} (n : Int) :
    Calls Tryz.prog 116 #[.int .i64 1, .int .i64 n, vd, vl] w fun e w' => ∃ x0 x1, e = .returned (.tuple #[.agg #[x0, x1], .int .i64 1]) ∧ OwnT w' w.heap.size x0 x1 ([], []) ∧ Below w.heap.size w w' := by
  obtain ⟨U, hU⟩ : ∃ U, U = w.alloc (.cells #[.slice none 0 0, .slice none 0 0] 156) := ⟨_, rfl⟩
  have HB : Hid (Below w.heap.size w U) := by show Below _ _ _; rw [hU]; exact (Below.refl _ _).alloc (Nat.le_refl _) _
  have hbx : Box U w.heap.size (.slice none 0 0) (.slice none 0 0) := by rw [hU]; exact Box.new w _ _
  have l0 := hbx.c0
  have l1 := hbx.c1
  have m0 := hbx.f 0
  have m1 := hbx.f 1
  have HBS : Hid (Box _ _ _ _) := hbx.set (.slice none 0 0) (.slice none 0 0)
  clear hbx
  go_enter Tryz.func116, Tryz.ntmps116
  go_upto_region 1 with fail
  rw [← hU]
  clear hU
  go_wp2
  have hr0 := HBS.out.c0
  have hr1 := HBS.out.c1
  refine bodyPost_ret (v := .tuple #[.agg #[.slice none 0 0, .slice none 0 0], .int .i64 1]) (by simp [results, Tryz.results116, go_sem, hr0, hr1]) rfl ⟨_, _, rfl, OwnT.nil _ _, ?_⟩
  exact (HB.out.setCell (by simp) _).setCell (by simp) _
set_option maxHeartbeats 1000000 in
theorem value_k2 {vd vl : Value} {w : World} (n : Int) :
    Calls Tryz.prog 116 #[.int .i64 2, .int .i64 n, vd, vl] w fun e w' => ∃ x0 x1, e = .returned (.tuple #[.agg #[x0, x1], .int .i64 1]) ∧ OwnT w' w.heap.size x0 x1 ([], []) ∧ Below w.heap.size w w' := by
  obtain ⟨U, hU⟩ : ∃ U, U = w.alloc (.cells #[.slice none 0 0, .slice none 0 0] 156) := ⟨_, rfl⟩
  have HB : Hid (Below w.heap.size w U) := by show Below _ _ _; rw [hU]; exact (Below.refl _ _).alloc (Nat.le_refl _) _
  have hbx : Box U w.heap.size (.slice none 0 0) (.slice none 0 0) := by rw [hU]; exact Box.new w _ _
  have l0 := hbx.c0
  have l1 := hbx.c1
  have m0 := hbx.f 0
  have m1 := hbx.f 1
  have HBS : Hid (Box _ _ _ _) := hbx.set (.slice none 0 0) (.slice none 0 0)
  clear hbx
  go_enter Tryz.func116, Tryz.ntmps116
  go_upto_region 1 with fail
  rw [← hU]
  clear hU
  go_wp2
  have hr0 := HBS.out.c0
  have hr1 := HBS.out.c1
  refine bodyPost_ret (v := .tuple #[.agg #[.slice none 0 0, .slice none 0 0], .int .i64 1]) (by simp [results, Tryz.results116, go_sem, hr0, hr1]) rfl ⟨_, _, rfl, OwnT.nil _ _, ?_⟩
  exact (HB.out.setCell (by simp) _).setCell (by simp) _
theorem len0 {α : Type} {l : List α} {m : Nat} (h : l.length = m) (hm : m = 0) : l = [] := List.eq_nil_of_length_eq_zero (by omega)
theorem len1 {α : Type} {l : List α} (h : l.length = 1) : ∃ x, l = [x] := by
  match l, h with
  | [x], _ => exact ⟨x, rfl⟩
theorem len2 {α : Type} {l : List α} (h : l.length = 2) : ∃ x y, l = [x, y] := by
  match l, h with
  | [x, y], _ => exact ⟨x, y, rfl⟩
theorem value_any {vd v : Value} {d : List Int} {L : List Ten} {w : World} (k n : Int) (h : 1 ≤ k ∧ k ≤ 17) (hm : L.length = many k.toNat) (hd : Ints w vd d) (hl : TensL w v L) :
    Calls Tryz.prog 116 #[.int .i64 k, .int .i64 n, vd, v] w fun e w' => ∃ x0 x1, e = .returned (.tuple #[.agg #[x0, x1], .int .i64 (vE k.toNat n d (L.getD 0 no) (L.getD 1 no))]) ∧ OwnT w' w.heap.size x0 x1 (vR k.toNat n d (L.getD 0 no) (L.getD 1 no)) ∧ Below w.heap.size w w' := by
  have hk : k = 1 ∨ k = 2 ∨ k = 3 ∨ k = 4 ∨ k = 5 ∨ k = 6 ∨ k = 7 ∨ k = 8 ∨ k = 9 ∨ k = 10 ∨ k = 11 ∨ k = 12 ∨ k = 13 ∨ k = 14 ∨ k = 15 ∨ k = 16 ∨ k = 17 := by omega
  rcases hk with rfl | rfl | rfl | rfl | rfl | rfl | rfl | rfl | rfl | rfl | rfl | rfl | rfl | rfl | rfl | rfl | rfl
  · obtain rfl := len0 hm rfl
    exact value_k1 n
  · obtain rfl := len0 hm rfl
    exact value_k2 n
  · obtain rfl := len0 hm rfl
    exact value_k3 n hd
  · obtain ⟨s, t, rfl⟩ := len2 hm
    obtain ⟨P, off, c, x, y, p, q, rfl, hc, c0, c1, c2, c3, ht, hu⟩ := hl.two
    exact value_k4 n hc ht hu c0 c1 c2 c3 hd
  · obtain ⟨s, t, rfl⟩ := len2 hm
    obtain ⟨P, off, c, x, y, p, q, rfl, hc, c0, c1, c2, c3, ht, hu⟩ := hl.two
    exact value_k5 n hc ht hu c0 c1 c2 c3 hd
  · obtain ⟨s, t, rfl⟩ := len2 hm
    obtain ⟨P, off, c, x, y, p, q, rfl, hc, c0, c1, c2, c3, ht, hu⟩ := hl.two
    exact value_k6 n hc ht hu c0 c1 c2 c3 hd
  · obtain ⟨s, rfl⟩ := len1 hm
    obtain ⟨P, off, c, x, y, rfl, hc, c0, c1, ht⟩ := hl.one
    exact value_k7 n hc ht c0 c1 hd
  · obtain ⟨s, rfl⟩ := len1 hm
    obtain ⟨P, off, c, x, y, rfl, hc, c0, c1, ht⟩ := hl.one
    exact value_k8 n hc ht c0 c1 hd
  · obtain ⟨s, t, rfl⟩ := len2 hm
    obtain ⟨P, off, c, x, y, p, q, rfl, hc, c0, c1, c2, c3, ht, hu⟩ := hl.two
    exact value_k9 n hc ht hu c0 c1 c2 c3 hd
  · obtain ⟨s, rfl⟩ := len1 hm
    obtain ⟨P, off, c, x, y, rfl, hc, c0, c1, ht⟩ := hl.one
    exact value_k10 n hc ht c0 c1 hd
  · obtain ⟨s, rfl⟩ := len1 hm
    obtain ⟨P, off, c, x, y, rfl, hc, c0, c1, ht⟩ := hl.one
    exact value_k11 n hc ht c0 c1 hd
  · obtain ⟨s, rfl⟩ := len1 hm
    obtain ⟨P, off, c, x, y, rfl, hc, c0, c1, ht⟩ := hl.one
    exact value_k12 n hc ht c0 c1 hd
  · obtain ⟨s, rfl⟩ := len1 hm
    obtain ⟨P, off, c, x, y, rfl, hc, c0, c1, ht⟩ := hl.one
    exact value_k13 n hc ht c0 c1 hd
  · obtain ⟨s, rfl⟩ := len1 hm
    obtain ⟨P, off, c, x, y, rfl, hc, c0, c1, ht⟩ := hl.one
    exact value_k14 n hc ht c0 c1 hd
  · obtain ⟨s, rfl⟩ := len1 hm
    obtain ⟨P, off, c, x, y, rfl, hc, c0, c1, ht⟩ := hl.one
    exact value_k15 n hc ht c0 c1 hd
  · obtain ⟨s, t, rfl⟩ := len2 hm
    obtain ⟨P, off, c, x, y, p, q, rfl, hc, c0, c1, c2, c3, ht, hu⟩ := hl.two
    exact value_k16 n hc ht hu c0 c1 c2 c3 hd
  · obtain ⟨s, t, rfl⟩ := len2 hm
    obtain ⟨P, off, c, x, y, p, q, rfl, hc, c0, c1, c2, c3, ht, hu⟩ := hl.two
    exact value_k17 n hc ht hu c0 c1 c2 c3 hd
theorem frm_parts {k n : Int} {d : List Int} {c : Nat} (h : frm k n d c = true) : (1 ≤ k ∧ k ≤ 17) ∧ c = many k.toNat ∧ dok k.toNat d = true ∧ nok k.toNat n = true := by
  simp only [frm, frmN, Bool.and_eq_true, decide_eq_true_eq] at h
  exact ⟨h.1, h.2.1.1, h.2.1.2, h.2.2⟩
theorem infoT' : (Tryz.prog.info? 156).map (fun i => (i.zero, i.size, i.bytes)) = some (some (.agg #[.slice none 0 0, .slice none 0 0]), 2, 48) := by kernel_rfl
theorem infoT : ∃ i, Tryz.prog.info? 156 = some i ∧ i.zero = some (.agg #[.slice none 0 0, .slice none 0 0]) ∧ i.size = 2 ∧ i.bytes = 48 := by
  have h := infoT'
  cases e : Tryz.prog.info? 156 with
  | none => rw [e] at h; simp at h
  | some i => rw [e] at h; simp at h; exact ⟨i, rfl, h⟩
theorem infoI' : (Tryz.prog.info? 23).map (fun i => (i.zero, i.size, i.bytes)) = some (some (.slice none 0 0), 1, 24) := by kernel_rfl
theorem infoI : ∃ i, Tryz.prog.info? 23 = some i ∧ i.zero = some (.slice none 0 0) ∧ i.size = 1 ∧ i.bytes = 24 := by
  have h := infoI'
  cases e : Tryz.prog.info? 23 with
  | none => rw [e] at h; simp at h
  | some i => rw [e] at h; simp at h; exact ⟨i, rfl, h⟩
theorem Own.elt {w : World} {B : Nat} {x : Value} {d : List Int} {r : Option Nat} (h : Own w B x d) (hr : ∀ k, r = some k → k < B) : Elt w r x d := by
  refine ⟨h.ints, fun _ e => ?_⟩
  cases hx : x.ownBlock with
  | none =>
    rename_i hpos
    rcases h.ints.cases with ⟨q, _⟩ | ⟨b, off, c, rfl, _, _, _, _⟩
    · rw [q] at hpos; simp at hpos
    · simp [Value.ownBlock] at hx
  | some k =>
    have h1 := h.frm k hx
    have h2 := hr k (by rw [← e, hx])
    omega
theorem make_tens (n : Nat) (h : n ≤ 1000000000) :
    ∃ arr : Array Value, arr.size = n * 2 ∧ ∀ w : World, (Instr.makeSlice 154 (.int .i64 n) (.int .i64 n)).run Tryz.prog w = .ok (.slice (some ⟨w.heap.size, 0, none⟩) n n) (w.alloc (.cells arr 156)) := by
  obtain ⟨i, h1, h2, h3, h4⟩ := infoT
  refine ⟨_, size_madeCells (Value.cells (.agg #[.slice none 0 0, .slice none 0 0])) _, fun w => ?_⟩
  have := run_make (P := Tryz.prog) w 154 156 i (.agg #[.slice none 0 0, .slice none 0 0]) Tryz.underlying154 h1 h2 .i64 .i64 n n (by omega) (by omega) (by rw [h4]; omega) (by omega)
  rw [h3, Int.toNat_natCast] at this
  exact this
/-- The first k of the zeros are laid. -/
structure ZB (w : World) (Z n k : Nat) (Ls : List (List Int)) : Prop where
  blk : ∃ arr : Array Value, w.heap[Z]? = some (.cells arr 156 (0, 0)) ∧ arr.size = n * 2
  elt : ∀ i (h : i < Ls.length), i < k → ∃ x y, w.cell? ⟨Z, i * 2, none⟩ = some x ∧ w.cell? ⟨Z, i * 2 + 1, none⟩ = some y ∧ OwnT w (Z + 1) x y (zT Ls[i])
theorem ZB.lt {w : World} {Z n k : Nat} {Ls : List (List Int)} (h : ZB w Z n k Ls) : Z < w.heap.size := by
  obtain ⟨arr, ha, hs⟩ := h.blk
  exact (Array.getElem?_eq_some_iff.1 ha).1
theorem ZB.later {w w' : World} {Z n k : Nat} {Ls : List (List Int)} (hb : Below w.heap.size w w') (h : ZB w Z n k Ls) : ZB w' Z n k Ls := by
  have hlt := h.lt
  obtain ⟨arr, ha, hs⟩ := h.blk
  refine ⟨⟨arr, (hb.block Z hlt).trans ha, hs⟩, fun i h1 h2 => ?_⟩
  obtain ⟨x, y, c0, c1, ho⟩ := h.elt i h1 h2
  exact ⟨x, y, cell_later hb c0, cell_later hb c1, ho.later hb⟩
theorem ZB.cell {w : World} {Z n k : Nat} {Ls : List (List Int)} (h : ZB w Z n k Ls) (j : Nat) (hj : j < n * 2) : (∃ u, w.cell? ⟨Z, j, none⟩ = some u) ∧ w.frozen? ⟨Z, j, none⟩ = false := by
  obtain ⟨arr, ha, hs⟩ := h.blk
  refine ⟨⟨arr[j]'(by omega), ?_⟩, ?_⟩
  · rw [cell_of_row w Z j arr _ _ ha, Array.getElem?_eq_getElem (by omega)]
  · exact frozen_of_row w Z j arr _ ha
theorem ZB.put {w : World} {Z n k : Nat} {Ls : List (List Int)} {x y : Value} (h : ZB w Z n k Ls) (hk : k < Ls.length) (hn : Ls.length = n) (ho : OwnT w (Z + 1) x y (zT Ls[k])) :
    ZB ((w.setCell ⟨Z, k * 2, none⟩ x).setCell ⟨Z, k * 2 + 1, none⟩ y) Z n (k + 1) Ls := by
  obtain ⟨arr, ha, hs⟩ := h.blk
  have e1 := heap_setCell_same w Z (k * 2) arr 156 x ha
  have e2 := heap_setCell_same _ Z (k * 2 + 1) _ 156 y e1
  refine ⟨⟨_, e2, by simp [hs]⟩, fun i h1 h2 => ?_⟩
  by_cases hi : i = k
  · subst hi
    refine ⟨x, y, ?_, ?_, (ho.setCell _ _ (by simp)).setCell _ _ (by simp)⟩
    · rw [cell_of_row _ Z _ _ _ _ e2]
      have q1 : i * 2 < arr.size := by omega
      simp [Array.getElem?_setIfInBounds, q1]
    · rw [cell_of_row _ Z _ _ _ _ e2]
      have q1 : i * 2 + 1 < arr.size := by omega
      simp [Array.getElem?_setIfInBounds, q1]
  · obtain ⟨x', y', c0, c1, ho'⟩ := h.elt i h1 (by omega)
    refine ⟨x', y', ?_, ?_, (ho'.setCell _ _ (by simp)).setCell _ _ (by simp)⟩
    · rw [cell_of_row w Z _ _ _ _ ha] at c0
      rw [cell_of_row _ Z _ _ _ _ e2, Array.getElem?_setIfInBounds_ne (by omega), Array.getElem?_setIfInBounds_ne (by omega)]
      exact c0
    · rw [cell_of_row w Z _ _ _ _ ha] at c1
      rw [cell_of_row _ Z _ _ _ _ e2, Array.getElem?_setIfInBounds_ne (by omega), Array.getElem?_setIfInBounds_ne (by omega)]
      exact c1
theorem ZB.tensL {w : World} {Z n : Nat} {Ls : List (List Int)} (h : ZB w Z n n Ls) (hn : Ls.length = n) (hb : n ≤ big) : TensL w (.slice (some ⟨Z, 0, none⟩) n n) (Ls.map zT) := by
  refine ⟨by simp [hn]; exact hb, _, n, by rw [List.length_map, hn], by simp [hn], fun i hi => ?_⟩
  rw [List.length_map] at hi
  obtain ⟨x, y, c0, c1, ho⟩ := h.elt i hi (by omega)
  refine ⟨Z, 0, x, y, rfl, by simpa using c0, by simpa using c1, ?_⟩
  rw [List.getElem_map]
  exact ⟨ho.dims.ints, ho.data.ints⟩
set_option maxHeartbeats 4000000 in
theorem dims_any {vd v : Value} {d : List Int} {L : List (List Int)} {w : World} (k n : Int) (hd : Ints w vd d) (hl : IntsL w v L) (h2 : L.length ≤ 2) :
    Calls Tryz.prog 96 #[.int .i64 k, .int .i64 n, vd, v] w fun e w' => ∃ x, e = .returned (.tuple #[x, .int .i64 (diE k n d L)]) ∧ Own w' w.heap.size x (diR k n d L) ∧ Below w.heap.size w w' := by
  obtain ⟨_, va, vc, ev, hvc, hcell⟩ := hl
  obtain ⟨m, hm⟩ : ∃ m, L.length = m := ⟨_, rfl⟩
  rw [hm] at ev h2 hvc
  subst ev
  have HM : Hid (L.length = m) := hm
  have HD : Hid (Ints w vd d) := hd
  have HL : Hid (∀ i (h : i < L.length), ∃ b off x, va = some ⟨b, off, none⟩ ∧ w.cell? ⟨b, off + i, none⟩ = some x ∧ Ints w x L[i]) := hcell
  clear hd hm hcell
  cases hf : frm k n d m with
  | false =>
    have HF : Hid (frE k n d m = 1) := by show _ = _; rw [frE, hf]; rfl
    have HE : Hid (diE k n d L = 1 ∧ diR k n d L = []) := by show _ ∧ _; simp [diE, diR, HM.out, hf]
    clear hf
    go_enter Tryz.func96, Tryz.ntmps96
    go_wp2_with fail
    refine (form_any k n m (by unfold big; omega) HD.out 1 HF.out).mono ?_
    rintro e w1 ⟨rfl, hb1⟩
    have HB1 : Hid (Below w.heap.size w w1) := hb1
    clear hb1
    go_wp2
    go_ret2
    exact ⟨_, by rw [HE.out.1]; rfl, by rw [HE.out.2]; exact Own.nil _ _, HB1.out⟩
  | true =>
    have HF : Hid (frE k n d m = 0) := by show _ = _; rw [frE, hf]; rfl
    obtain ⟨⟨hk1, hk2⟩, hc, hdk, _⟩ := frm_parts hf
    have HC : Hid (L.length = many k.toNat) := by show _ = _; rw [HM.out]; exact hc
    by_cases h3 : k < 3
    · have HE : Hid (diE k n d L = 0 ∧ diR k n d L = d) := by show _ ∧ _; simp [diE, diR, HM.out, hf, h3]
      have hok : okd d = true := by
        have : k = 1 ∨ k = 2 := by omega
        rcases this with rfl | rfl <;> exact hdk
      have HK : Hid (1 ≤ d.length) := (okd_parts hok).1
      clear hf hc hdk hok
      have hk12 : k = 1 ∨ k = 2 := by omega
      clear h3 hk1 hk2
      rcases hk12 with rfl | rfl <;>
      · go_enter Tryz.func96, Tryz.ntmps96
        go_wp2_with fail
        refine (form_any _ n m (by unfold big; omega) HD.out 0 HF.out).mono ?_
        rintro e w1 ⟨rfl, hb1⟩
        have HB1 : Hid (Below w.heap.size w w1) := hb1
        clear hb1
        go_wp2_with fail
        refine (clone_own (HD.out.later HB1.out) HK.out).mono ?_
        rintro e w2 ⟨x, rfl, ho, hb2⟩
        have HO : Hid (Own w2 w.heap.size x d) := ho.mono HB1.out.size
        have HB2 : Hid (Below w.heap.size w w2) := Below.after HB1.out hb2
        clear ho hb2
        go_wp2
        go_ret2
        exact ⟨_, by rw [HE.out.1]; rfl, by rw [HE.out.2]; exact HO.out, HB2.out⟩
    · have n1 : ¬ k = 1 := by omega
      have n2 : ¬ k = 2 := by omega
      have b1 : (k == 1) = false := by simpa using n1
      have b2 : (k == 2) = false := by simpa using n2
      have HE : Hid (diE k n d L = (if L.all okd = true then vE k.toNat n d ((L.map zT).getD 0 no) ((L.map zT).getD 1 no) else 1) ∧ diR k n d L = (if L.all okd = true then (vR k.toNat n d ((L.map zT).getD 0 no) ((L.map zT).getD 1 no)).1 else [])) := by show _ ∧ _; simp only [diE, diR, HM.out, hf, if_true, if_neg h3]; exact ⟨trivial, trivial⟩
      have HV : Hid (∀ {w : World} {u : Value} (hd : Ints w vd d) (hl : TensL w u (L.map zT)), Calls Tryz.prog 116 #[.int .i64 k, .int .i64 n, vd, u] w fun e w' => ∃ x0 x1, e = .returned (.tuple #[.agg #[x0, x1], .int .i64 (vE k.toNat n d ((L.map zT).getD 0 no) ((L.map zT).getD 1 no))]) ∧ OwnT w' w.heap.size x0 x1 (vR k.toNat n d ((L.map zT).getD 0 no) ((L.map zT).getD 1 no)) ∧ Below w.heap.size w w') := by
        intro w u hd hl
        exact value_any k n ⟨hk1, hk2⟩ (by rw [List.length_map]; exact HC.out) hd hl
      obtain ⟨arr, harr, hmk⟩ := make_tens m (by omega)
      have HARR : Hid (arr.size = m * 2) := harr
      clear hf hc hdk hk1 hk2 h3 harr
      go_enter Tryz.func96, Tryz.ntmps96
      go_wp2_with fail
      refine (form_any _ n m (by unfold big; omega) HD.out 0 HF.out).mono ?_
      rintro e w1 ⟨rfl, hb1⟩
      have HB1 : Hid (Below w.heap.size w w1) := hb1
      have hs1 := hb1.size
      have HZ1 : Hid (ZB (w1.alloc (.cells arr 156)) w1.heap.size m 0 L) := ⟨⟨arr, heap_alloc_new w1 _, HARR.out⟩, fun i h1 h2 => by omega⟩
      have HB2 : Hid (Below w.heap.size w (w1.alloc (.cells arr 156))) := hb1.alloc hs1 _
      clear hb1
      go_upto_region 6 with fail
      generalize hU : w1.alloc (.cells arr 156) = U at HZ1 HB2 ⊢
      clear hU hmk HARR
      obtain ⟨Z, hZ⟩ : ∃ Z, w1.heap.size = Z := ⟨_, rfl⟩
      rw [hZ] at HZ1 hs1 ⊢
      have HIN : Hid (∀ {w' : World}, Below w.heap.size w w' → Ints w' vd d) := fun hb => HD.out.later hb
      clear hZ HB1
      go_wp2
      go_loopw [37] (fun i w' => ∃ (j : Nat), j ≤ m ∧ i = .int .i64 j ∧ Hid (ZB w' Z m j L) ∧ Hid (Below w.heap.size w w') ∧ Hid (∀ q (h : q < L.length), q < j → okd L[q] = true)) (fun i _ => m - (intOf i).toNat)
      case atStart => exact ⟨0, Nat.zero_le _, rfl, HZ1, HB2, fun q h1 h2 => by omega⟩
      case round =>
        obtain ⟨j, hj, rfl, HZ, HB, HK⟩ := hrel
        by_cases hlt : j < m
        · have hlt' : j < L.length := by rw [HM.out]; exact hlt
          obtain ⟨b, off, x, rfl, c0, hx⟩ := HL.out j hlt'
          have d0 := cell_later HB.out c0
          have HX : Hid (Ints wr x L[j]) := hx.later HB.out
          obtain ⟨xa, xn, xc, rfl⟩ := hx.shape3
          have hsz := HB.out.size
          have hzl := HZ.out.lt
          clear c0 hx
          cases hok : okd L[j] with
          | false =>
            have HF2 : Hid (erf L[j] = 1) := erf_bad hok
            have HE2 : Hid (diE k n d L = 1 ∧ diR k n d L = []) := by
              show _ ∧ _
              have : ¬ L.all okd = true := by
                rw [List.all_eq_true]
                intro h
                have := h L[j] (List.getElem_mem hlt')
                rw [hok] at this
                cases this
              rw [HE.out.1, HE.out.2, if_neg this, if_neg this]
              exact ⟨rfl, rfl⟩
            clear hok
            go_wp2_with fail
            refine (fill_to 0 1 _ HX.out HF2.out rfl).mono ?_
            rintro e w2 ⟨x0, x1, rfl, ho, hb2⟩
            obtain ⟨pa, pn, pc, rfl⟩ := ho.dims.ints.shape3
            obtain ⟨qa, qn, qc, rfl⟩ := ho.data.ints.shape3
            have HB3 : Hid (Below w.heap.size w (w2.alloc (.cells #[.slice pa pn pc, .slice qa qn qc] 156))) := Below.push (Below.after HB.out hb2) _
            clear ho hb2
            go_wp2
            go_ret2
            exact ⟨_, by rw [HE2.out.1]; rfl, by rw [HE2.out.2]; exact Own.nil _ _, HB3.out⟩
          | true =>
            have HF2 : Hid (erf L[j] = 0) := erf_ok hok
            have HO0 : Hid (okd L[j] = true) := hok
            have HV3 : Hid (vR 3 0 L[j] no no = zT L[j]) := by show _ = _; simp [vR, hok, zT]
            clear hok
            go_wp2_with fail
            refine (fill_to 0 0 _ HX.out HF2.out HV3.out).mono ?_
            rintro e w2 ⟨x0, x1, rfl, ho, hb2⟩
            obtain ⟨pa, pn, pc, rfl⟩ := ho.dims.ints.shape3
            obtain ⟨qa, qn, qc, rfl⟩ := ho.data.ints.shape3
            have ho2 : OwnT w2 (Z + 1) (.slice pa pn pc) (.slice qa qn qc) (zT L[j]) := ho.mono hzl
            go_upto_region 10 with fail
            obtain ⟨U2, hU2⟩ : ∃ U2, U2 = w2.alloc (.cells #[.slice pa pn pc, .slice qa qn qc] 156) := ⟨_, rfl⟩
            have hb3 : Below wr.heap.size wr U2 := by rw [hU2]; exact Below.push hb2 _
            have hbx : Box U2 w2.heap.size (.slice pa pn pc) (.slice qa qn qc) := by rw [hU2]; exact Box.new w2 _ _
            have ho3 : OwnT U2 (Z + 1) (.slice pa pn pc) (.slice qa qn qc) (zT L[j]) := by rw [hU2]; exact ho2.later (Below.push (Below.refl _ _) _)
            rw [← hU2]
            have hz3 := HZ.out.later hb3
            obtain ⟨⟨u0, z0⟩, f0⟩ := hz3.cell (j * 2) (by omega)
            obtain ⟨⟨u1, z1⟩, f1⟩ := hz3.cell (j * 2 + 1) (by omega)
            have l0 := hbx.c0
            have l1 := hbx.c1
            have HZ4 : Hid (ZB ((U2.setCell ⟨Z, j * 2, none⟩ (.slice pa pn pc)).setCell ⟨Z, j * 2 + 1, none⟩ (.slice qa qn qc)) Z m (j + 1) L) := hz3.put hlt' HM.out ho3
            have HB4 : Hid (Below w.heap.size w ((U2.setCell ⟨Z, j * 2, none⟩ (.slice pa pn pc)).setCell ⟨Z, j * 2 + 1, none⟩ (.slice qa qn qc))) := ((Below.after HB.out hb3).setCell hs1 _).setCell hs1 _
            clear hU2 hb3 hbx ho3 ho2 ho hb2 hz3
            go_wp2
            go_roundw
            case rel =>
              refine ⟨j + 1, by omega, by go_num, HZ4.out, HB4.out, fun q h1 h2 => ?_⟩
              by_cases e : q = j
              · subst e; exact HO0.out
              · exact HK.out q h1 (by omega)
            case measure => simp [intOf]; omega
        · obtain rfl : j = m := by omega
          have hall : L.all okd = true := by
            rw [List.all_eq_true]
            intro t ht
            obtain ⟨q, hq, rfl⟩ := List.getElem_of_mem ht
            exact HK.out q hq (by rw [← HM.out]; exact hq)
          have HE2 : Hid (diE k n d L = vE k.toNat n d ((L.map zT).getD 0 no) ((L.map zT).getD 1 no) ∧ diR k n d L = (vR k.toNat n d ((L.map zT).getD 0 no) ((L.map zT).getD 1 no)).1) := by
            show _ ∧ _
            rw [HE.out.1, HE.out.2, if_pos hall, if_pos hall]
            exact ⟨rfl, rfl⟩
          clear hall HE
          obtain ⟨x, hx⟩ : ∃ x, vE k.toNat n d ((L.map zT).getD 0 no) ((L.map zT).getD 1 no) = x := ⟨_, rfl⟩
          obtain ⟨u, hu⟩ : ∃ u, vR k.toNat n d ((L.map zT).getD 0 no) ((L.map zT).getD 1 no) = u := ⟨_, rfl⟩
          rw [hx, hu] at HE2 HV
          clear hx hu
          have HT : Hid (TensL wr (.slice (some ⟨Z, 0, none⟩) j j) (L.map zT)) := HZ.out.tensL HM.out (by unfold big; omega)
          have hsz := HB.out.size
          go_wp2_with fail
          refine (HV.out (HIN.out HB.out) HT.out).mono ?_
          rintro e w2 ⟨x0, x1, rfl, ho, hb2⟩
          obtain ⟨pa, pn, pc, rfl⟩ := ho.dims.ints.shape3
          obtain ⟨qa, qn, qc, rfl⟩ := ho.data.ints.shape3
          have HO : Hid (Own (w2.alloc (.cells #[.slice pa pn pc, .slice qa qn qc] 156)) w.heap.size (.slice pa pn pc) u.1) := (ho.dims.mono hsz).later (Below.push (Below.refl _ _) _)
          have HB3 : Hid (Below w.heap.size w (w2.alloc (.cells #[.slice pa pn pc, .slice qa qn qc] 156))) := Below.push (Below.after HB.out hb2) _
          clear ho hb2
          go_wp2
          go_ret2
          exact ⟨_, by rw [HE2.out.1]; rfl, by rw [HE2.out.2]; exact HO.out, HB3.out⟩
theorem frm_partsM {k n : Int} {d : List Int} {c : Nat} (h : frm k n d c = true) : (1 ≤ k ∧ k ≤ 17) ∧ c = many k.toNat ∧ dok k.toNat d = true ∧ nok k.toNat n = true := by
  simp only [frm, frmN, Bool.and_eq_true, decide_eq_true_eq] at h
  exact ⟨h.1, h.2.1.1, h.2.1.2, h.2.2⟩
theorem many_3 {k : Nat} (h : k ≤ 3) : many k = 0 := by rw [many, if_pos h]
theorem di_no {k n : Int} {d : List Int} {P : List (List Int)} (h : ¬ may k n d P = true) : diE k n d P = 1 ∧ diR k n d P = [] := by
  cases hf : frm k n d P.length with
  | false => simp [diE, diR, hf]
  | true =>
    obtain ⟨hk, hc, _, _⟩ := frm_partsM hf
    have ha : ¬ P.all okd = true := fun ha => h (by rw [may, hf, ha]; rfl)
    have h3 : ¬ k < 3 := by
      intro h3
      have : P = [] := List.eq_nil_of_length_eq_zero (by rw [hc]; exact many_3 (by omega))
      subst this
      exact ha rfl
    simp only [diE, diR, hf, if_true, if_neg h3, if_neg ha]
    exact ⟨trivial, trivial⟩
theorem di_yes {k n : Int} {d : List Int} {P : List (List Int)} (h : may k n d P = true) :
    diE k n d P = (if inf k.toNat n d (P.getD 0 []) (P.getD 1 []) then 0 else 4) ∧ diR k n d P = (if inf k.toNat n d (P.getD 0 []) (P.getD 1 []) then inD k.toNat n d (P.getD 0 []) (P.getD 1 []) else []) := by
  simp only [may, Bool.and_eq_true] at h
  obtain ⟨hf, ha⟩ := h
  obtain ⟨hk, hc, hd, hn⟩ := frm_partsM hf
  by_cases h3 : k < 3
  · have hk' : k = 1 ∨ k = 2 := by omega
    rcases hk' with rfl | rfl <;> simp [diE, diR, hf, inf, inD]
  · have hz0 : ((P.map zT).getD 0 no).1 = P.getD 0 [] := by cases P <;> rfl
    have hz1 : ((P.map zT).getD 1 no).1 = P.getD 1 [] := by
      match P with
      | [] => rfl
      | [a] => rfl
      | a :: b :: c => rfl
    have hs : many k.toNat = 0 ∨ tok ((P.map zT).getD 0 no) = true := by
      match P, hc, ha with
      | [], hc, _ => exact Or.inl hc.symm
      | a :: c, hc, ha =>
        refine Or.inr (tok_zT ?_)
        simp at ha
        exact ha.1
    have ht : many k.toNat ≤ 1 ∨ tok ((P.map zT).getD 1 no) = true := by
      match P, hc, ha with
      | [], hc, _ => exact Or.inl (by simp at hc; omega)
      | [a], hc, _ => exact Or.inl (by simp at hc; omega)
      | a :: b :: c, hc, ha =>
        refine Or.inr (tok_zT ?_)
        simp at ha
        exact ha.2.1
    obtain ⟨h1, h2⟩ := vE_inf (k := k.toNat) (by omega) (by omega) hd hn hs ht
    rw [hz0, hz1] at h1 h2
    simp only [diE, diR, hf, if_true, if_neg h3, if_pos ha]
    refine ⟨h1, ?_⟩
    rw [h2]
    cases inf k.toNat n d (P.getD 0 []) (P.getD 1 []) <;> rfl
end Go.Proofs.YtkojdigaoihkpaaGreatDoor

end
section
namespace Go.Proofs.YtkojdigaoihkpaaGreatDoor
set_option linter.unusedVariables false
set_option linter.unusedSimpArgs false
set_option maxRecDepth 100000
open Go.RowKit

def askI (k : Int) : Bool := decide (1 ≤ k ∧ k ≤ 3) || decide (11 ≤ k ∧ k ≤ 13)
theorem frm_parts1 {k n : Int} {d : List Int} {c : Nat} (h : frm k n d c = true) : (1 ≤ k ∧ k ≤ 17) ∧ c = many k.toNat ∧ dok k.toNat d = true ∧ nok k.toNat n = true := by
  simp only [frm, frmN, Bool.and_eq_true, decide_eq_true_eq] at h
  exact ⟨h.1, h.2.1.1, h.2.1.2, h.2.2⟩
/-- A letter, a digit: of a rune's number. -/
def letR (r : Nat) : Bool := (decide (97 ≤ r) && decide (r ≤ 122)) || (decide (945 ≤ r) && decide (r ≤ 969))
def digR (r : Nat) : Bool := decide (48 ≤ r) && decide (r ≤ 57)
/-- Is what is from place p on, behind n runes, the rest of a name? -/
def nameN (s : ByteArray) : Nat → Nat → Nat → Bool
  | 0, _, _ => false
  | f + 1, p, n => if p < s.size then (if letR (Utf8.decode s p).1 || (decide (n ≠ 0) && digR (Utf8.decode s p).1) then nameN s f (p + (Utf8.decode s p).2) (n + 1) else false) else decide (1 ≤ n ∧ n ≤ 6)
def nameB (s : ByteArray) : Bool := nameN s (s.size + 1) 0 0
theorem rest_size (s : ByteArray) (p : Nat) : (s.extract p s.size).size = s.size - p := Lib.tail_size s p
theorem rest_rest (s : ByteArray) (p k : Nat) : (s.extract p s.size).extract k (s.extract p s.size).size = s.extract (p + k) s.size := by
  apply ByteArray.ext
  rw [rest_size]
  simp only [ByteArray.data_extract]
  rw [Array.extract_extract]
  congr 1
  omega
theorem rest_all (s : ByteArray) : s.extract 0 s.size = s := by
  simp
theorem decode_rest (s : ByteArray) (p : Nat) (h : p < s.size) : Lib.decodeGo (s.extract p s.size) = Utf8.decode s p := by
  have h1 : (s.extract p s.size).size ≠ 0 := by rw [rest_size]; omega
  rw [Lib.decodeGo, if_neg h1, Lib.tail_decode, Nat.add_zero]
theorem decode_le (s : ByteArray) (p : Nat) (h : p < s.size) : p + (Utf8.decode s p).2 ≤ s.size := by
  have h1 := Lib.decodeGo_le_size (s.extract p s.size)
  rw [decode_rest s p h, rest_size] at h1
  omega
theorem decode_lo (s : ByteArray) (p : Nat) : 1 ≤ (Utf8.decode s p).2 := Lib.width_pos s p
end Go.Proofs.YtkojdigaoihkpaaGreatDoor

end
section
namespace Go.Proofs.YtkojdigaoihkpaaGreatDoor
set_option linter.unusedVariables false
set_option linter.unusedSimpArgs false
set_option maxRecDepth 100000
open Go.RowKit

set_option maxHeartbeats 1000000 in
theorem rletter_to (r : Nat) (w : World) (x : Bool) (hx : letR r = x) :
    Calls Tryz.prog 57 #[.int .i32 r] w fun e w' => e = .returned (.bool x) ∧ w = w' := by
  have HX : Hid (letR r = x) := hx
  clear hx
  by_cases h1 : 97 ≤ r
  · have g1 : (97 : Int) ≤ (r : Int) := by omega
    by_cases h2 : r ≤ 122
    · have g2 : (r : Int) ≤ 122 := by omega
      go_enter Tryz.func57, Tryz.ntmps57
      go_wp2
      go_ret
      exact ⟨by rw [← HX.out]; simp [letR, h1, h2], rfl⟩
    · have g2 : ¬ (r : Int) ≤ 122 := by omega
      by_cases h3 : 945 ≤ r
      · have g3 : (945 : Int) ≤ (r : Int) := by omega
        go_enter Tryz.func57, Tryz.ntmps57
        go_wp2
        go_ret
        exact ⟨by rw [← HX.out]; simp [letR, h1, h2, h3]; omega, rfl⟩
      · have g3 : ¬ (945 : Int) ≤ (r : Int) := by omega
        go_enter Tryz.func57, Tryz.ntmps57
        go_wp2
        go_ret
        exact ⟨by rw [← HX.out]; simp [letR, h1, h2, h3], rfl⟩
  · have g1 : ¬ (97 : Int) ≤ (r : Int) := by omega
    have g3 : ¬ (945 : Int) ≤ (r : Int) := by omega
    go_enter Tryz.func57, Tryz.ntmps57
    go_wp2
    go_ret
    exact ⟨by rw [← HX.out]; simp [letR]; omega, rfl⟩
set_option maxHeartbeats 1000000 in
theorem rdigit_to (r : Nat) (w : World) (x : Bool) (hx : digR r = x) :
    Calls Tryz.prog 58 #[.int .i32 r] w fun e w' => e = .returned (.bool x) ∧ w = w' := by
  have HX : Hid (digR r = x) := hx
  clear hx
  by_cases h1 : 48 ≤ r
  · have g1 : (48 : Int) ≤ (r : Int) := by omega
    go_enter Tryz.func58, Tryz.ntmps58
    go_wp2
    go_ret
    exact ⟨by rw [← HX.out]; simp [digR, h1]; omega, rfl⟩
  · have g1 : ¬ (48 : Int) ≤ (r : Int) := by omega
    go_enter Tryz.func58, Tryz.ntmps58
    go_wp2
    go_ret
    exact ⟨by rw [← HX.out]; simp [digR, h1], rfl⟩
theorem nameN_over (s : ByteArray) : ∀ f p n, 7 ≤ n → nameN s f p n = false
  | 0, _, _, _ => rfl
  | f + 1, p, n, h => by
    rw [nameN]
    split
    · split
      · exact nameN_over s f _ _ (by omega)
      · rfl
    · simp; omega
theorem nameN_six (s : ByteArray) (f p : Nat) (h : p < s.size) : nameN s f p 6 = false := by
  cases f with
  | zero => rfl
  | succ f =>
    rw [nameN, if_pos h]
    split
    · exact nameN_over s f _ _ (by omega)
    · rfl

/- Runes and bytes. -/
set_option maxHeartbeats 1000000 in
theorem letter_to (r : Nat) (w : World) (x : Bool) (hx : letR r = x) :
    Calls Tryz.prog 73 #[.int .i32 r] w fun e w' => e = .returned (.bool x) ∧ w = w' := by
  have HX : Hid (letR r = x) := hx
  clear hx
  by_cases h1 : 97 ≤ r
  · have g1 : (97 : Int) ≤ (r : Int) := by omega
    by_cases h2 : r ≤ 122
    · have g2 : (r : Int) ≤ 122 := by omega
      go_enter Tryz.func73, Tryz.ntmps73
      go_wp2
      go_ret
      exact ⟨by rw [← HX.out]; simp [letR, h1, h2], rfl⟩
    · have g2 : ¬ (r : Int) ≤ 122 := by omega
      by_cases h3 : 945 ≤ r
      · have g3 : (945 : Int) ≤ (r : Int) := by omega
        go_enter Tryz.func73, Tryz.ntmps73
        go_wp2
        go_ret
        exact ⟨by rw [← HX.out]; simp [letR, h1, h2, h3]; omega, rfl⟩
      · have g3 : ¬ (945 : Int) ≤ (r : Int) := by omega
        go_enter Tryz.func73, Tryz.ntmps73
        go_wp2
        go_ret
        exact ⟨by rw [← HX.out]; simp [letR, h1, h2, h3], rfl⟩
  · have g1 : ¬ (97 : Int) ≤ (r : Int) := by omega
    have g3 : ¬ (945 : Int) ≤ (r : Int) := by omega
    go_enter Tryz.func73, Tryz.ntmps73
    go_wp2
    go_ret
    exact ⟨by rw [← HX.out]; simp [letR]; omega, rfl⟩
set_option maxHeartbeats 1000000 in
theorem digit_to (r : Nat) (w : World) (x : Bool) (hx : digR r = x) :
    Calls Tryz.prog 74 #[.int .i32 r] w fun e w' => e = .returned (.bool x) ∧ w = w' := by
  have HX : Hid (digR r = x) := hx
  clear hx
  by_cases h1 : 48 ≤ r
  · have g1 : (48 : Int) ≤ (r : Int) := by omega
    go_enter Tryz.func74, Tryz.ntmps74
    go_wp2
    go_ret
    exact ⟨by rw [← HX.out]; simp [digR, h1]; omega, rfl⟩
  · have g1 : ¬ (48 : Int) ≤ (r : Int) := by omega
    go_enter Tryz.func74, Tryz.ntmps74
    go_wp2
    go_ret
    exact ⟨by rw [← HX.out]; simp [digR, h1], rfl⟩
set_option maxHeartbeats 4000000 in
theorem name_to (s : ByteArray) (w : World) (q : Bool) (hq : nameB s = q) :
    Calls Tryz.prog 54 #[.string s] w fun e w' => e = .returned (.int .i64 (if q then 0 else 1)) ∧ Below w.heap.size w w' := by
  have HQ : Hid (nameB s = q) := hq
  clear hq
  go_enter Tryz.func54, Tryz.ntmps54
  go_wp2_with fail
  refine wp_scope_jumps 0 (fun a' w' => (Below w.heap.size w w' ∧ q = false) ∧ ∃ (u0 u1 u2 u3 u4 u5 u6 u7 u8 u9 u10 u11 u12 u13 u14 u15 u16 u17 u18 u19 u20 u21 u22 u23 u24 u25 u26 u27 u28 u29 u30 : Value), a' = { tmps := #[u0, u1, u2, u3, u4, u5, u6, u7, u8, u9, u10, u11, u12, u13, u14, u15, u16, u17, u18, u19, u20, u21, u22, u23, u24, u25, u26, u27, u28, u29, u30], defers := [] }) (fun _ _ => 0) rfl ?_ ?_
  · go_wp2
    go_loopw [3] (fun n w' => ∃ (p m f : Nat), p ≤ s.size ∧ m ≤ 6 ∧ w' = w.iter s p ∧ n = .int .i64 m ∧ Hid (s.size - p < f ∧ nameN s f p m = q)) (fun _ w' => s.size - w'.iterPos w.heap.size)
    case atStart => exact ⟨0, 0, s.size + 1, Nat.zero_le _, by omega, rfl, rfl, by omega, HQ.out⟩
    case round =>
      obtain ⟨p, m, f, hp, hm6, rfl, rfl, HF⟩ := hrel
      obtain ⟨g, hg⟩ : ∃ g, f = g + 1 := ⟨f - 1, by have := HF.out.1; omega⟩
      subst hg
      have HB : Hid (Below w.heap.size w (w.iter s p)) := (Below.refl _ _).alloc (Nat.le_refl _) _
      by_cases hlt : p < s.size
      · obtain ⟨⟨r, k⟩, hrk⟩ : ∃ x, Utf8.decode s p = x := ⟨_, rfl⟩
        have hk1 := decode_lo s p
        have hk2 := decode_le s p hlt
        have hnx : ∀ ty, (Instr.next (.pointer (some ⟨w.heap.size, 0, none⟩)) true ty).run Tryz.prog (w.iter s p) = _ := fun ty => run_next_any w s p ty hlt
        rw [hrk] at hk1 hk2 hnx
        simp only at hk1 hk2 hnx
        have HF2 : Hid ((if letR r || (decide (m ≠ 0) && digR r) then nameN s g (p + k) (m + 1) else false) = q) := by
          have h := HF.out.2
          rw [nameN, if_pos hlt, hrk] at h
          exact h
        have HG : Hid (s.size - (p + k) < g) := by have := HF.out.1; show _ < _; omega
        have HB2 : Hid (Below w.heap.size w (w.iter s (p + k))) := (Below.refl _ _).alloc (Nat.le_refl _) _
        by_cases h6 : m = 6
        · subst h6
          have HQ2 : Hid (q = false) := by have h := HF.out.2; rw [nameN_six s _ _ hlt] at h; exact h.symm
          clear HF2 hrk HF
          go_wp2
          go_step3
          exact ⟨rfl, ⟨HB2.out, HQ2.out⟩, _, _, _, _, _, _, _, _, _, _, _, _, _, _, _, _, _, _, _, _, _, _, _, _, _, _, _, _, _, _, _, rfl⟩
        · have g6 : ((m : Int) == 6) = false := by rw [beq_eq_false_iff_ne]; omega
          clear hrk HF
          cases hl : letR r with
          | true =>
            have HL : Hid (letR r = true) := hl
            have HN : Hid (nameN s g (p + k) (m + 1) = q) := by have h := HF2.out; rw [hl, Bool.true_or, if_pos rfl] at h; exact h
            clear hl HF2
            go_wp2_with (go_at_call 73; refine (letter_to r _ true HL.out).mono ?_; rintro e w2 ⟨rfl, rfl⟩)
            go_roundw
            case rel => exact ⟨p + k, m + 1, g, by omega, by omega, rfl, by go_num, HG.out, HN.out⟩
            case measure => simp; omega
          | false =>
            have HL : Hid (letR r = false) := hl
            by_cases hm : m = 0
            · subst hm
              have HQ2 : Hid (q = false) := by have h := HF2.out; rw [hl] at h; show _ = _; simpa using h.symm
              clear hl HF2
              go_wp2_with (go_at_call 73; refine (letter_to r _ false HL.out).mono ?_; rintro e w2 ⟨rfl, rfl⟩)
              go_step3
              exact ⟨rfl, ⟨HB2.out, HQ2.out⟩, _, _, _, _, _, _, _, _, _, _, _, _, _, _, _, _, _, _, _, _, _, _, _, _, _, _, _, _, _, _, _, rfl⟩
            · have g0 : ((m : Int) == 0) = false := by rw [beq_eq_false_iff_ne]; omega
              cases hd : digR r with
              | true =>
                have HDG : Hid (digR r = true) := hd
                have HN : Hid (nameN s g (p + k) (m + 1) = q) := by have h := HF2.out; rw [hl, hd, decide_eq_true hm] at h; show _ = _; simpa using h
                clear hl hd HF2
                go_wp2_with (first
                  | (go_at_call 73; refine (letter_to r _ false HL.out).mono ?_; rintro e w2 ⟨rfl, rfl⟩)
                  | (go_at_call 74; refine (digit_to r _ true HDG.out).mono ?_; rintro e w2 ⟨rfl, rfl⟩))
                go_roundw
                case rel => exact ⟨p + k, m + 1, g, by omega, by omega, rfl, by go_num, HG.out, HN.out⟩
                case measure => simp; omega
              | false =>
                have HDG : Hid (digR r = false) := hd
                have HQ2 : Hid (q = false) := by have h := HF2.out; rw [hl, hd, decide_eq_true hm] at h; show _ = _; simpa using h.symm
                clear hl hd HF2
                go_wp2_with (first
                  | (go_at_call 73; refine (letter_to r _ false HL.out).mono ?_; rintro e w2 ⟨rfl, rfl⟩)
                  | (go_at_call 74; refine (digit_to r _ false HDG.out).mono ?_; rintro e w2 ⟨rfl, rfl⟩))
                go_step3
                exact ⟨rfl, ⟨HB2.out, HQ2.out⟩, _, _, _, _, _, _, _, _, _, _, _, _, _, _, _, _, _, _, _, _, _, _, _, _, _, _, _, _, _, _, _, rfl⟩
      · have HQ2 : Hid (decide (1 ≤ m ∧ m ≤ 6) = q) := by
          have h := HF.out.2
          rw [nameN, if_neg hlt] at h
          exact h
        have hnx : ∀ ty, (Instr.next (.pointer (some ⟨w.heap.size, 0, none⟩)) true ty).run Tryz.prog (w.iter s p) = _ := fun ty => run_next_end w s p ty hlt
        by_cases hm : m = 0
        · subst hm
          have HQ3 : Hid (q = false) := by show _ = _; rw [← HQ2.out]; rfl
          clear HF
          go_wp2
          go_step3
          exact ⟨rfl, ⟨HB.out, HQ3.out⟩, _, _, _, _, _, _, _, _, _, _, _, _, _, _, _, _, _, _, _, _, _, _, _, _, _, _, _, _, _, _, _, rfl⟩
        · have g0 : ((m : Int) == 0) = false := by rw [beq_eq_false_iff_ne]; omega
          have HQ3 : Hid (q = true) := by show _ = _; rw [← HQ2.out]; exact decide_eq_true (by omega)
          clear HF
          go_wp2
          rw [jump_ret]
          go_ret
          exact ⟨by rw [HQ3.out]; rfl, HB.out⟩
  · rintro a w' ⟨⟨hbj, hq⟩, u0, u1, u2, u3, u4, u5, u6, u7, u8, u9, u10, u11, u12, u13, u14, u15, u16, u17, u18, u19, u20, u21, u22, u23, u24, u25, u26, u27, u28, u29, u30, rfl⟩
    have HBJ : Hid (Below w.heap.size w w') := hbj
    clear hbj
    subst hq
    go_wp2
    rw [jump_ret]
    go_ret
    exact ⟨rfl, HBJ.out⟩
/-- A node. -/
structure Nod where
  name : ByteArray
  kind : Int
  args : List Int
  dims : List Int
  n : Int
/-- A node's five cells. -/
structure NodeAt (w : World) (b o : Nat) (x y : Value) (t : Nod) : Prop where
  c0 : w.cell? ⟨b, o, none⟩ = some (.string t.name)
  c1 : w.cell? ⟨b, o + 1, none⟩ = some (.int .i64 t.kind)
  c2 : w.cell? ⟨b, o + 2, none⟩ = some x
  c3 : w.cell? ⟨b, o + 3, none⟩ = some y
  c4 : w.cell? ⟨b, o + 4, none⟩ = some (.int .i64 t.n)
  a : Ints w x t.args
  d : Ints w y t.dims
  z : t.name.size ≤ 140737488355327
theorem NodeAt.later {w w' : World} {b o : Nat} {x y : Value} {t : Nod} (h : NodeAt w b o x y t) (hb : Below w.heap.size w w') : NodeAt w' b o x y t :=
  ⟨cell_later hb h.c0, cell_later hb h.c1, cell_later hb h.c2, cell_later hb h.c3, cell_later hb h.c4, h.a.later hb, h.d.later hb, h.z⟩
/-- A list of nodes. -/
def NodesL (w : World) (v : Value) (L : List Nod) : Prop :=
  L.length ≤ big ∧ ∃ (a : Option Addr) (c : Nat), v = .slice a L.length c ∧ L.length ≤ c ∧ ∀ i (h : i < L.length), ∃ b off x y, a = some ⟨b, off, none⟩ ∧ NodeAt w b (off + i * 5) x y L[i]
theorem NodesL.later {w w' : World} {v : Value} {L : List Nod} (h : NodesL w v L) (hb : Below w.heap.size w w') : NodesL w' v L := by
  obtain ⟨h0, a, c, rfl, h1, h2⟩ := h
  refine ⟨h0, a, c, rfl, h1, fun i hi => ?_⟩
  obtain ⟨b, off, x, y, e, hn⟩ := h2 i hi
  exact ⟨b, off, x, y, e, hn.later hb⟩
theorem NodesL.nil (w : World) : NodesL w (.slice none 0 0) [] := ⟨Nat.zero_le _, none, 0, rfl, Nat.le_refl _, fun i hi => by simp at hi⟩
theorem NodesL.shape {w : World} {v : Value} {L : List Nod} (h : NodesL w v L) : ∃ a c, v = .slice a L.length c ∧ L.length ≤ c ∧ L.length ≤ big := by
  obtain ⟨h0, a, c, e, h1, _⟩ := h
  exact ⟨a, c, e, h1, h0⟩
theorem NodesL.row {w : World} {a : Option Addr} {n c : Nat} {L : List Nod} (h : NodesL w (.slice a n c) L) (i : Nat) (hi : i < L.length) : ∃ b off x y, a = some ⟨b, off, none⟩ ∧ NodeAt w b (off + i * 5) x y L[i] := by
  obtain ⟨_, a', c', e, _, hr⟩ := h
  simp only [Value.slice.injEq] at e
  obtain ⟨rfl, rfl, rfl⟩ := e
  exact hr i hi
/-- The first n of them. -/
theorem NodesL.take {w : World} {a : Option Addr} {n c : Nat} {L : List Nod} (h : NodesL w (.slice a n c) L) (k : Nat) (hk : k ≤ L.length) : NodesL w (.slice a k c) (L.take k) := by
  obtain ⟨h0, a', c', e, h1, hr⟩ := h
  simp only [Value.slice.injEq] at e
  obtain ⟨rfl, rfl, rfl⟩ := e
  refine ⟨by rw [List.length_take]; omega, a, c, by rw [List.length_take]; congr 1; omega, by rw [List.length_take]; omega, fun i hi => ?_⟩
  rw [List.length_take] at hi
  obtain ⟨b, off, x, y, e, hn⟩ := hr i (by omega)
  refine ⟨b, off, x, y, e, ?_⟩
  rw [List.getElem_take]
  exact hn
/-- Numbers of nodes. -/
def argsB (args : List Int) (n : Int) : Bool := args.all fun x => decide (0 ≤ x) && decide (x ≤ n - 1)
/-- The dims of those that it is made of. -/
def dimsAt (L : List Nod) (args : List Int) : List (List Int) := args.map fun x => match L[x.toNat]? with
  | some t => t.dims
  | none => []
def askD (t : Nod) : List Int := if askI t.kind then t.dims else []
/-- May one be, behind those ahead? -/
def nodeB (L : List Nod) (i : Nat) (t : Nod) : Bool :=
  argsB t.args i && (may t.kind t.n (askD t) (dimsAt L t.args) && (inf t.kind.toNat t.n (askD t) ((dimsAt L t.args).getD 0 []) ((dimsAt L t.args).getD 1 []) && decide (t.dims = inD t.kind.toNat t.n (askD t) ((dimsAt L t.args).getD 0 []) ((dimsAt L t.args).getD 1 []))))
def nodesN (L : List Nod) : Nat → Bool
  | 0 => true
  | k + 1 => nodesN L k && (match L[k]? with
    | some t => nodeB L k t
    | none => true)
def nodesB (L : List Nod) : Bool := decide (L.length ≤ 240) && nodesN L L.length
theorem argsB_at {A : List Int} {n : Int} {k : Nat} (h : k < A.length) (hb : (decide (0 ≤ A[k]) && decide (A[k] ≤ n - 1)) = false) : argsB A n = false := by
  cases e : argsB A n with
  | false => rfl
  | true =>
    rw [argsB, List.all_eq_true] at e
    have := e _ (List.getElem_mem h)
    rw [hb] at this
    exact this.symm
theorem argsB_all {A : List Int} {n : Int} (h : ∀ k (h : k < A.length), (decide (0 ≤ A[k]) && decide (A[k] ≤ n - 1)) = true) : argsB A n = true := by
  rw [argsB, List.all_eq_true]
  intro x hx
  obtain ⟨k, hk, rfl⟩ := List.getElem_of_mem hx
  exact h k hk
theorem many_le (k : Nat) : many k ≤ 2 := by
  rw [many]
  split
  · omega
  · split <;> omega
theorem dimsAt_len (L : List Nod) (A : List Int) : (dimsAt L A).length = A.length := by simp [dimsAt]
theorem nodesN_step {L : List Nod} {k : Nat} (h : k < L.length) : nodesN L (k + 1) = (nodesN L k && nodeB L k L[k]) := by
  rw [nodesN, List.getElem?_eq_getElem h]
theorem nodesN_not {L : List Nod} {k : Nat} (h : nodesN L k = false) : ∀ m, k ≤ m → nodesN L m = false
  | 0, hm => by
    have : k = 0 := by omega
    subst this
    exact h
  | m + 1, hm => by
    by_cases e : k = m + 1
    · subst e; exact h
    · rw [nodesN, nodesN_not h m (by omega), Bool.false_and]
def nodW (t : Nod) : Nat := t.args.length + t.dims.length + t.name.size / 8
/-- How heavy a list of nodes is (from n on; what is heavy enough is not read to its end). -/
def nwF : Nat → List Nod → Nat
  | n, [] => n
  | n, t :: r => if n < 1048576 then nwF (n + nodW t) r else n
theorem nwF_le : ∀ (L : List Nod) (n : Nat), n ≤ 60000000000000 → (∀ i (h : i < L.length), nodW L[i] ≤ 53000000000000) → nwF n L ≤ 60000000000000
  | [], n, h, _ => by simpa [nwF] using h
  | t :: r, n, h, he => by
    rw [nwF]
    split
    · have h0 : nodW t ≤ 53000000000000 := he 0 (by simp)
      exact nwF_le r _ (by omega) (fun i hi => he (i + 1) (by simpa using hi))
    · exact h
theorem nodW_le {w : World} {b o : Nat} {x y : Value} {t : Nod} (h : NodeAt w b o x y t) : nodW t ≤ 53000000000000 := by
  have h1 := h.a.len
  have h2 := h.d.len
  have h3 := h.z
  unfold big at h1 h2
  rw [nodW]
  omega
set_option maxHeartbeats 4000000 in
theorem nweight_any {v : Value} {L : List Nod} {w : World} (h : NodesL w v L) (x : Nat) (hx : nwF L.length L = x) :
    Calls Tryz.prog 35 #[v] w fun e w' => e = .returned (.int .i64 x) ∧ ∃ n, w' = w.drewN n := by
  have HN : Hid (NodesL w v L) := h
  have HX : Hid (nwF L.length (L.drop 0) = x) := hx
  obtain ⟨va, vc, rfl, hc1, hc2⟩ := h.shape
  unfold big at hc2
  clear h hx
  go_enter Tryz.func35, Tryz.ntmps35
  go_wp2
  go_loopw [3, 4] (fun n i w' => ∃ (k m q : Nat), k ≤ L.length ∧ m ≤ 60000000000000 ∧ i = .int .i64 k ∧ n = .int .i64 m ∧ w' = w.drewN q ∧ Hid (nwF m (L.drop k) = x)) (fun _ i _ => L.length - (intOf i).toNat)
  case atStart => exact ⟨0, L.length, 0, Nat.zero_le _, by omega, rfl, rfl, rfl, HX.out⟩
  case round =>
    obtain ⟨k, m, q, hk, hm, rfl, rfl, rfl, HI⟩ := hrel
    by_cases hlt : k < L.length
    · have HD : Hid (L.drop k = L[k] :: L.drop (k + 1)) := List.drop_eq_getElem_cons hlt
      by_cases hb : m < 1048576
      · have gb : (m : Int) < 1048576 := by omega
        obtain ⟨b, off, x1, y1, rfl, hnd⟩ := HN.out.row k hlt
        have hwl := nodW_le hnd
        have HI2 : Hid (nwF (m + nodW L[k]) (L.drop (k + 1)) = x) := by
          have h := HI.out
          rw [HD.out, nwF, if_pos hb] at h
          exact h
        obtain ⟨t, ht⟩ : ∃ t, L[k] = t := ⟨_, rfl⟩
        rw [ht] at hnd hwl HI2
        have d0 := hnd.c0
        have d2 := hnd.c2
        have d3 := hnd.c3
        have hal := hnd.a.len
        have hdl := hnd.d.len
        have hzl := hnd.z
        unfold big at hal hdl
        obtain ⟨xa, xc, e2⟩ := hnd.a.shape
        obtain ⟨ya, yc, e3⟩ := hnd.d.shape
        subst e2 e3
        obtain ⟨na, hna⟩ : ∃ n, t.args.length = n := ⟨_, rfl⟩
        obtain ⟨nd, hnd2⟩ : ∃ n, t.dims.length = n := ⟨_, rfl⟩
        obtain ⟨s, hs⟩ : ∃ s, t.name = s := ⟨_, rfl⟩
        rw [hs] at d0 hzl
        rw [hna] at d2 hal
        rw [hnd2] at d3 hdl
        have HW : Hid (nodW t = na + nd + s.size / 8) := by show _ = _; rw [nodW, hna, hnd2, hs]
        have q1 : IntKind.i64.wrap ((m : Int) + (na : Int)) = (m : Int) + (na : Int) := wrap_small _ (by omega) (by omega)
        have q2 : IntKind.i64.wrap ((m : Int) + (na : Int) + (nd : Int)) = (m : Int) + (na : Int) + (nd : Int) := wrap_small _ (by omega) (by omega)
        have e8 : (s.size : Int).tdiv 8 = ((s.size / 8 : Nat) : Int) := rfl
        have q3 : IntKind.i64.wrap ((s.size / 8 : Nat) : Int) = ((s.size / 8 : Nat) : Int) := wrap_small _ (by omega) (by omega)
        have q4 : IntKind.i64.wrap ((m : Int) + (na : Int) + (nd : Int) + ((s.size / 8 : Nat) : Int)) = (m : Int) + (na : Int) + (nd : Int) + ((s.size / 8 : Nat) : Int) := wrap_small _ (by omega) (by omega)
        have g0 : (0 : Int) ≤ (k : Int) := by omega
        have g1 : (k : Int) < L.length := by omega
        clear hnd ht hna hnd2 hs HD
        go_wp2_with fail
        go_quiet (fail)
        go_wp2
        go_roundw
        case rel => exact ⟨k + 1, m + nodW t, _, by omega, by omega, by go_num, by rw [HW.out]; congr 1; push_cast; omega, rfl, HI2.out⟩
        case measure => simp [intOf]; omega
      · have gb : ¬ (m : Int) < 1048576 := by omega
        have HV : Hid (m = x) := by
          have h := HI.out
          rw [HD.out, nwF, if_neg hb] at h
          exact h
        clear HD
        go_wp2
        go_ret
        exact ⟨by rw [HV.out]; rfl, _, rfl⟩
    · have hk' : k = L.length := by omega
      have HV : Hid (m = x) := by
        have h := HI.out
        rw [List.drop_of_length_le (by omega), nwF] at h
        exact h
      go_wp2
      go_ret
      exact ⟨by rw [HV.out]; rfl, _, rfl⟩
end Go.Proofs.YtkojdigaoihkpaaGreatDoor

end
section
namespace Go.Proofs.YtkojdigaoihkpaaGreatDoor
set_option linter.unusedVariables false
set_option linter.unusedSimpArgs false
set_option maxRecDepth 100000
open Go.ChangeShapes Go.WideShapes Go.ChangeAt Go.RowKit Go.Joins Go.Deep

theorem cellsNode : Tryz.prog.cellsOf 55 = 5 := by kernel_rfl
theorem bytesNode : Tryz.prog.bytesOf 55 = 80 := by kernel_rfl
theorem cellsStr8 : Tryz.prog.cellsOf 9 = 1 := by kernel_rfl
theorem cellsInt8 : Tryz.prog.cellsOf 3 = 1 := by kernel_rfl
theorem cellsInts8 : Tryz.prog.cellsOf 23 = 1 := by kernel_rfl
theorem cellsNodes8 : Tryz.prog.cellsOf 29 = 1 := by kernel_rfl
section
variable {H : Type} {enc : TypeId × Value → H} {w : World}
theorem trod_struct5 {t : TypeId} {f0 f1 f2 f3 f4 : Field} {fuel : Nat} {cs : List Value} {x : DataW H × List MemPlace} {P : Program} {base : Nat} {spare : Nat → Bool} {held : Bool} (ht : P.underlying t = some (.struct #[f0, f1, f2, f3, f4])) (h : DataW.trod enc P w base spare held fuel t cs = some x) :
    ∃ y0 y1 y2 y3 y4 n, x = (.agg [y0.1, y1.1, y2.1, y3.1, y4.1], y0.2 ++ (y1.2 ++ (y2.2 ++ (y3.2 ++ y4.2)))) ∧ cs.length = P.cellsOf t ∧ DataW.trod enc P w base spare held n f0.type ((cs.drop f0.offset).take (P.cellsOf f0.type)) = some y0 ∧
      DataW.trod enc P w base spare held n f1.type ((cs.drop f1.offset).take (P.cellsOf f1.type)) = some y1 ∧ DataW.trod enc P w base spare held n f2.type ((cs.drop f2.offset).take (P.cellsOf f2.type)) = some y2 ∧
      DataW.trod enc P w base spare held n f3.type ((cs.drop f3.offset).take (P.cellsOf f3.type)) = some y3 ∧ DataW.trod enc P w base spare held n f4.type ((cs.drop f4.offset).take (P.cellsOf f4.type)) = some y4 := by
  obtain ⟨xs, n, _, rfl, hl, hlen, hf⟩ := DataW.trod_struct ht h
  match xs, hlen with
  | [y0, y1, y2, y3, y4], _ => exact ⟨y0, y1, y2, y3, y4, n, by simp, hl, by simpa using hf 0 f0 rfl, by simpa using hf 1 f1 rfl, by simpa using hf 2 f2 rfl, by simpa using hf 3 f3 rfl, by simpa using hf 4 f4 rfl⟩
theorem open_Node {fuel : Nat} {cs : List Value} {x : DataW H × List MemPlace} (h : DataW.trod enc Tryz.prog w 0 (fun _ => true) true fuel 55 cs = some x) (hs : Szd 55 x.1) :
    ∃ v0 v1 v2 v3 v4, ∃ t : Nod, cs = [v0, v1, v2, v3, v4] ∧ v0 = .string t.name ∧ v1 = .int .i64 t.kind ∧ Ints w v2 t.args ∧ Ints w v3 t.dims ∧ v4 = .int .i64 t.n ∧ t.name.size ≤ 140737488355327 := by
  obtain ⟨y0, y1, y2, y3, y4, n, rfl, hl, h0, h1, h2, h3, h4⟩ := trod_struct5 Tryz.underlying55 h
  rw [cellsNode] at hl
  match cs, hl with
  | [v0, v1, v2, v3, v4], _ =>
    simp only [cellsStr8, cellsInt8, cellsInts8] at h0 h1 h2 h3 h4
    simp at h0 h1 h2 h3 h4
    obtain ⟨s, e0, ex0, hz⟩ := DataW.trod_string Tryz.underlying9 h0
    obtain ⟨k, e1, ex1, _⟩ := DataW.trod_int Tryz.underlying3 h1
    obtain ⟨m, e4, ex4, _⟩ := DataW.trod_int Tryz.underlying3 h4
    have s2 : Szd 23 y2.1 := fun n hn => hs n (by simp [DataW.weights, Tryz.underlying55, DataW.weightsEach]; exact Or.inr (Or.inr (Or.inl hn)))
    have s3 : Szd 23 y3.1 := fun n hn => hs n (by simp [DataW.weights, Tryz.underlying55, DataW.weightsEach]; exact Or.inr (Or.inr (Or.inr (Or.inl hn))))
    have s0 : s.size ≤ 140737488355327 := by
      have := hs s.size (by simp [DataW.weights, Tryz.underlying55, DataW.weightsEach, ex0, Tryz.underlying9])
      simp [reachBytes] at this
      omega
    obtain ⟨d2, i2, _, _⟩ := open_Ints h2 s2
    obtain ⟨d3, i3, _, _⟩ := open_Ints h3 s3
    simp only [List.cons.injEq, and_true] at e0 e1 e4
    exact ⟨v0, v1, v2, v3, v4, ⟨s, k, d2, d3, m⟩, rfl, e0, e1, i2, i3, e4, s0⟩
end
end Go.Proofs.YtkojdigaoihkpaaGreatDoor

end
section
namespace Go.Proofs.YtkojdigaoihkpaaGreatDoor
set_option linter.unusedVariables false
set_option linter.unusedSimpArgs false
set_option maxRecDepth 100000
open Go.RowKit

/-- A box of a node's cells. -/
def BoxN (w : World) (B : Nat) (a : Array Value) : Prop := w.heap[B]? = some (.cells a 55 (0, 0))
theorem BoxN.c {w : World} {B : Nat} {a : Array Value} (h : BoxN w B a) (j : Nat) : w.cell? ⟨B, j, none⟩ = a[j]? := by rw [cell_of_row w B j _ 55 (0, 0) h]
theorem BoxN.f {w : World} {B : Nat} {a : Array Value} (h : BoxN w B a) (j : Nat) : w.frozen? ⟨B, j, none⟩ = false := frozen_of_row w B j _ 55 h
theorem BoxN.lt {w : World} {B : Nat} {a : Array Value} (h : BoxN w B a) : B < w.heap.size := (Array.getElem?_eq_some_iff.1 h).1
theorem BoxN.later {w w' : World} {B : Nat} {a : Array Value} (hb : Below w.heap.size w w') (h : BoxN w B a) : BoxN w' B a := (hb.block B h.lt).trans h
theorem BoxN.new (w : World) (a : Array Value) : BoxN (w.alloc (.cells a 55)) w.heap.size a := heap_alloc_new w _
theorem BoxN.set {w : World} {B : Nat} {a : Array Value} (h : BoxN w B a) (j : Nat) (u : Value) : BoxN (w.setCell ⟨B, j, none⟩ u) B (a.setIfInBounds j u) := heap_setCell_same w B j _ 55 u h
theorem BoxN.alloc {w : World} {B : Nat} {a : Array Value} (h : BoxN w B a) (o : Obj) : BoxN (w.alloc o) B a := (Below.heap_alloc w o B h.lt).trans h
theorem Own.below {w : World} {B : Nat} {v : Value} {d : List Int} (h : Own w B v d) (p : Addr) (u : Value) (hp : p.block < B) : Own (w.setCell p u) B v d := h.setCell p u (fun k hk => by have := h.frm k hk; omega)
/-- A node's five values from place j on; its lists not in block r. -/
def NodeX (w : World) (r : Option Nat) (xs : List Value) (j : Nat) (t : Nod) : Prop :=
  ∃ x y, xs[j]? = some (.string t.name) ∧ xs[j + 1]? = some (.int .i64 t.kind) ∧ xs[j + 2]? = some x ∧ xs[j + 3]? = some y ∧ xs[j + 4]? = some (.int .i64 t.n) ∧ Elt w r x t.args ∧ Elt w r y t.dims ∧ t.name.size ≤ 140737488355327
theorem NodeX.later {w w' : World} {r : Option Nat} {xs : List Value} {j : Nat} {t : Nod} (hb : Below w.heap.size w w') (h : NodeX w r xs j t) : NodeX w' r xs j t := by
  obtain ⟨x, y, h0, h1, h2, h3, h4, ha, hd, hz⟩ := h
  exact ⟨x, y, h0, h1, h2, h3, h4, ha.later hb, hd.later hb, hz⟩
theorem NodeX.grown {w w' : World} {r r' : Option Nat} {xs : List Value} {j : Nat} {t : Nod} (h : NodeX w r xs j t) (hg : w.grownBy w' r) (hr : r' = r ∨ r' = some w.heap.size) : NodeX w' r' xs j t := by
  obtain ⟨x, y, h0, h1, h2, h3, h4, ha, hd, hz⟩ := h
  exact ⟨x, y, h0, h1, h2, h3, h4, ha.grown hg hr, hd.grown hg hr, hz⟩
theorem NodeX.left {w : World} {r : Option Nat} {xs ys : List Value} {j : Nat} {t : Nod} (h : NodeX w r xs j t) (hj : j + 4 < xs.length) : NodeX w r (xs ++ ys) j t := by
  obtain ⟨x, y, h0, h1, h2, h3, h4, h⟩ := h
  refine ⟨x, y, ?_, ?_, ?_, ?_, ?_, h⟩ <;> rw [List.getElem?_append_left (by omega)] <;> assumption
theorem NodeX.right {w : World} {r : Option Nat} {xs ys : List Value} {j i : Nat} {t : Nod} (h : NodeX w r ys j t) (hj : i = xs.length + j) : NodeX w r (xs ++ ys) i t := by
  subst hj
  obtain ⟨x, y, h0, h1, h2, h3, h4, h⟩ := h
  refine ⟨x, y, ?_, ?_, ?_, ?_, ?_, h⟩ <;> rw [List.getElem?_append_right (by omega)]
  · rw [show xs.length + j - xs.length = j from by omega]; exact h0
  · rw [show xs.length + j + 1 - xs.length = j + 1 from by omega]; exact h1
  · rw [show xs.length + j + 2 - xs.length = j + 2 from by omega]; exact h2
  · rw [show xs.length + j + 3 - xs.length = j + 3 from by omega]; exact h3
  · rw [show xs.length + j + 4 - xs.length = j + 4 from by omega]; exact h4
structure RowN (w : World) (B : Nat) (v : Value) (L : List Nod) (xs : List Value) : Prop where
  own : w.ownsRow B 55 5 v L.length xs
  elt : ∀ i (h : i < L.length), NodeX w v.ownBlock xs (i * 5) L[i]
theorem RowN.zero (w : World) (B : Nat) : RowN w B (.slice none 0 0) [] [] := ⟨World.ownsRow_nil _ _ _ _, fun i h => by simp at h⟩
theorem RowN.later {w w' : World} {B : Nat} {v : Value} {L : List Nod} {xs : List Value} (hb : Below w.heap.size w w') (h : RowN w B v L xs) : RowN w' B v L xs := by
  refine ⟨⟨h.own.1, ?_⟩, fun i hi => (h.elt i hi).later hb⟩
  rcases h.own.2 with h0 | ⟨g, cap, cur, rfl, h1, hh, h2⟩
  · exact Or.inl h0
  · exact Or.inr ⟨g, cap, cur, rfl, h1, (hb.block g (Array.getElem?_eq_some_iff.1 hh).1).trans hh, h2⟩
theorem RowN.app {w w' : World} {B m : Nat} {v v' : Value} {L E : List Nod} {xs news : List Value} (h : RowN w B v L xs) (hm : m = E.length) (he : ∀ i (h : i < E.length), NodeX w v.ownBlock news (i * 5) E[i])
    (hown : w'.ownsRow B 55 5 v' (L.length + m) (xs ++ news)) (hg : w.grownBy w' v.ownBlock) (hat : v'.ownBlock = v.ownBlock ∨ v'.ownBlock = some w.heap.size) : RowN w' B v' (L ++ E) (xs ++ news) := by
  subst hm
  have hl := h.own.1
  refine ⟨by rw [List.length_append]; exact hown, fun i hi => ?_⟩
  by_cases hlt : i < L.length
  · rw [List.getElem_append_left hlt]
    exact ((h.elt i hlt).grown hg hat).left (by omega)
  · rw [List.length_append] at hi
    rw [List.getElem_append_right (by omega)]
    exact ((he (i - L.length) (by omega)).grown hg hat).right (by omega)
theorem RowN.nodesL {w : World} {B : Nat} {v : Value} {L : List Nod} {xs : List Value} (h : RowN w B v L xs) (hb : L.length ≤ big) : NodesL w v L := by
  have hc := h.own
  rcases h.own.2 with ⟨rfl, h0⟩ | ⟨g, cap, cur, rfl, h1, hh, h2, h3, h4, h5⟩
  · refine ⟨hb, none, 0, by rw [h0], by omega, fun i hi => by omega⟩
  · refine ⟨hb, some ⟨g, 0, none⟩, cap, rfl, h2, fun i hi => ?_⟩
    obtain ⟨x, y, e0, e1, e2, e3, e4, ha, hd, hz⟩ := h.elt i hi
    have k0 := hc.cells (g := g) rfl _ _ e0
    have k1 := hc.cells (g := g) rfl _ _ e1
    have k2 := hc.cells (g := g) rfl _ _ e2
    have k3 := hc.cells (g := g) rfl _ _ e3
    have k4 := hc.cells (g := g) rfl _ _ e4
    rw [addr_add] at k0 k1 k2 k3 k4
    exact ⟨g, 0, x, y, rfl, k0, by rw [Nat.add_assoc]; exact k1, by rw [Nat.add_assoc]; exact k2, by rw [Nat.add_assoc]; exact k3, by rw [Nat.add_assoc]; exact k4, ha.1, hd.1, hz⟩
theorem RowN.lt {w : World} {B : Nat} {v : Value} {L : List Nod} {xs : List Value} (h : RowN w B v L xs) : ∀ k, v.ownBlock = some k → B ≤ k ∧ k < w.heap.size := h.own.lt
theorem infoN' : (Tryz.prog.info? 55).map (fun i => (i.zero, i.size, i.bytes)) = some (some (.agg #[.string ⟨#[]⟩, .int .i64 0, .slice none 0 0, .slice none 0 0, .int .i64 0]), 5, 80) := by kernel_rfl
theorem infoN : ∃ i, Tryz.prog.info? 55 = some i ∧ i.zero = some (.agg #[.string ⟨#[]⟩, .int .i64 0, .slice none 0 0, .slice none 0 0, .int .i64 0]) ∧ i.size = 5 ∧ i.bytes = 80 := by
  have h := infoN'
  cases e : Tryz.prog.info? 55 with
  | none => rw [e] at h; simp at h
  | some i => rw [e] at h; simp at h; exact ⟨i, rfl, h⟩
end Go.Proofs.YtkojdigaoihkpaaGreatDoor

end
