/- Part 5 of the texts that the theorem leans on. -/
import Derived.Test.YtkojdigaoihkpaaGreatDoorA04
section
namespace Go.Proofs.YtkojdigaoihkpaaGreatDoor
set_option linter.unusedVariables false
set_option linter.unusedSimpArgs false
set_option maxRecDepth 100000
open Go.RowKit

theorem sumd_to {a0 a1 v : Value} {s : Ten} {d : List Int} {w : World} (x : Int) (u : Ten) (ha : Tens w a0 a1 s) (hd : Ints w v d) (hx : suE s d = x) (hu : suR s d = u) :
    Calls Tryz.prog 138 #[.agg #[a0, a1], v] w fun e w' => ∃ x0 x1, e = .returned (.tuple #[.agg #[x0, x1], .int .i64 x]) ∧ OwnT w' w.heap.size x0 x1 u ∧ Below w.heap.size w w' := by
  subst hx hu
  exact sumd_any ha hd
theorem wide_to {a0 a1 v : Value} {s : Ten} {d : List Int} {w : World} (x : Int) (u : Ten) (ha : Tens w a0 a1 s) (hd : Ints w v d) (hx : wiE s d = x) (hu : wiR s d = u) :
    Calls Tryz.prog 137 #[.agg #[a0, a1], v] w fun e w' => ∃ x0 x1, e = .returned (.tuple #[.agg #[x0, x1], .int .i64 x]) ∧ OwnT w' w.heap.size x0 x1 u ∧ Below w.heap.size w w' := by
  subst hx hu
  exact wide_any ha hd
theorem shape_to {a0 a1 v : Value} {s : Ten} {d : List Int} {w : World} (x : Int) (u : Ten) (ha : Tens w a0 a1 s) (hd : Ints w v d) (hx : shE s d = x) (hu : shR s d = u) :
    Calls Tryz.prog 136 #[.agg #[a0, a1], v] w fun e w' => ∃ x0 x1, e = .returned (.tuple #[.agg #[x0, x1], .int .i64 x]) ∧ OwnT w' w.heap.size x0 x1 u ∧ Below w.heap.size w w' := by
  subst hx hu
  exact shape_any ha hd
set_option maxHeartbeats 1000000 in
theorem sub_any {a0 a1 b0 b1 : Value} {s t : Ten} {w : World} (ha : Tens w a0 a1 s) (hb' : Tens w b0 b1 t) :
    Calls Tryz.prog 130 #[.agg #[a0, a1], .agg #[b0, b1]] w fun e w' => ∃ x0 x1, e = .returned (.tuple #[.agg #[x0, x1], .int .i64 (fitE s t)]) ∧ OwnT w' w.heap.size x0 x1 (eachR opS s t) ∧ Below w.heap.size w w' := by
  have hb : Below w.heap.size w (((w.alloc (.cells #[a0, a1] 156)).alloc (.cells #[b0, b1] 156)).alloc (.cells #[.slice none 0 0, .slice none 0 0] 156)) := (((Below.refl _ _).alloc (Nat.le_refl _) _).alloc (by simp) _).alloc (by simp; omega) _
  have HA : Hid (Tens (((w.alloc (.cells #[a0, a1] 156)).alloc (.cells #[b0, b1] 156)).alloc (.cells #[.slice none 0 0, .slice none 0 0] 156)) a0 a1 s) := ha.later hb
  have HT : Hid (Tens (((w.alloc (.cells #[a0, a1] 156)).alloc (.cells #[b0, b1] 156)).alloc (.cells #[.slice none 0 0, .slice none 0 0] 156)) b0 b1 t) := hb'.later hb
  have HB : Hid (Below w.heap.size w (((w.alloc (.cells #[a0, a1] 156)).alloc (.cells #[b0, b1] 156)).alloc (.cells #[.slice none 0 0, .slice none 0 0] 156))) := hb
  have HBX : Hid (Box (((w.alloc (.cells #[a0, a1] 156)).alloc (.cells #[b0, b1] 156)).alloc (.cells #[.slice none 0 0, .slice none 0 0] 156)) (w.heap.size + 1 + 1) (.slice none 0 0) (.slice none 0 0)) := by
    have := Box.new ((w.alloc (.cells #[a0, a1] 156)).alloc (.cells #[b0, b1] 156)) (.slice none 0 0) (.slice none 0 0)
    simp only [World.size_alloc] at this
    exact this
  clear ha hb' hb
  go_enter Tryz.func130, Tryz.ntmps130
  go_wp2_with fail
  refine (each_any (op := opS) deed_sub HA.out HT.out).mono ?_
  rintro e w1 ⟨x0, x1, rfl, ho, hb1⟩
  simp only [World.size_alloc] at ho
  have HO : Hid (OwnT w1 (w.heap.size + 1 + 1 + 1) x0 x1 (eachR opS s t)) := ho
  have HB1 : Hid (Below w.heap.size w w1) := Below.after HB.out hb1
  have hbx := HBX.out.later hb1
  have hx0' := hbx.c0
  have hx1 := hbx.c1
  have hf0 := hbx.f 0
  have hf1 := hbx.f 1
  obtain ⟨xa, xc, rfl⟩ := ho.dims.ints.shape
  obtain ⟨ya, yc, rfl⟩ := ho.data.ints.shape
  have HBS : Hid (Box _ _ _ _) := hbx.set (.slice xa (eachR opS s t).1.length xc) (.slice ya (eachR opS s t).2.length yc)
  clear hb1 hbx ho
  go_wp2
  have hr0 := HBS.out.c0
  have hr1 := HBS.out.c1
  refine bodyPost_ret (v := .tuple #[.agg #[.slice xa (eachR opS s t).1.length xc, .slice ya (eachR opS s t).2.length yc], .int .i64 (fitE s t)]) (by simp [results, Tryz.results130, go_sem, hr0, hr1]) rfl ⟨_, _, rfl, ?_, ?_⟩
  · exact ((HO.out.setCell _ _ (by simp)).setCell _ _ (by simp)).mono (by omega)
  · exact (HB1.out.setCell (by simp; omega) _).setCell (by simp; omega) _
set_option maxHeartbeats 1000000 in
theorem neg_any {a0 a1 : Value} {s : Ten} {w : World} (ha : Tens w a0 a1 s) :
    Calls Tryz.prog 132 #[.agg #[a0, a1]] w fun e w' => ∃ x0 x1, e = .returned (.tuple #[.agg #[x0, x1], .int .i64 (fitE s s)]) ∧ OwnT w' w.heap.size x0 x1 (eachR opN s s) ∧ Below w.heap.size w w' := by
  have hb : Below w.heap.size w ((w.alloc (.cells #[a0, a1] 156)).alloc (.cells #[.slice none 0 0, .slice none 0 0] 156)) := ((Below.refl _ _).alloc (Nat.le_refl _) _).alloc (by simp) _
  have HA : Hid (Tens ((w.alloc (.cells #[a0, a1] 156)).alloc (.cells #[.slice none 0 0, .slice none 0 0] 156)) a0 a1 s) := ha.later hb
  have HB : Hid (Below w.heap.size w ((w.alloc (.cells #[a0, a1] 156)).alloc (.cells #[.slice none 0 0, .slice none 0 0] 156))) := hb
  have HBX : Hid (Box ((w.alloc (.cells #[a0, a1] 156)).alloc (.cells #[.slice none 0 0, .slice none 0 0] 156)) (w.heap.size + 1) (.slice none 0 0) (.slice none 0 0)) := by
    have := Box.new (w.alloc (.cells #[a0, a1] 156)) (.slice none 0 0) (.slice none 0 0)
    simp only [World.size_alloc] at this
    exact this
  clear ha hb
  go_enter Tryz.func132, Tryz.ntmps132
  go_wp2_with fail
  refine (each_any (op := opN) deed_neg HA.out HA.out).mono ?_
  rintro e w1 ⟨x0, x1, rfl, ho, hb1⟩
  simp only [World.size_alloc] at ho
  have HO : Hid (OwnT w1 (w.heap.size + 1 + 1) x0 x1 (eachR opN s s)) := ho
  have HB1 : Hid (Below w.heap.size w w1) := Below.after HB.out hb1
  have hbx := HBX.out.later hb1
  have hx0' := hbx.c0
  have hx1 := hbx.c1
  have hf0 := hbx.f 0
  have hf1 := hbx.f 1
  obtain ⟨xa, xc, rfl⟩ := ho.dims.ints.shape
  obtain ⟨ya, yc, rfl⟩ := ho.data.ints.shape
  have HBS : Hid (Box _ _ _ _) := hbx.set (.slice xa (eachR opN s s).1.length xc) (.slice ya (eachR opN s s).2.length yc)
  clear hb1 hbx ho
  go_wp2
  have hr0 := HBS.out.c0
  have hr1 := HBS.out.c1
  refine bodyPost_ret (v := .tuple #[.agg #[.slice xa (eachR opN s s).1.length xc, .slice ya (eachR opN s s).2.length yc], .int .i64 (fitE s s)]) (by simp [results, Tryz.results132, go_sem, hr0, hr1]) rfl ⟨_, _, rfl, ?_, ?_⟩
  · exact ((HO.out.setCell _ _ (by simp)).setCell _ _ (by simp)).mono (by omega)
  · exact (HB1.out.setCell (by simp) _).setCell (by simp) _
set_option maxHeartbeats 1000000 in
theorem scale_any {a0 a1 : Value} {s : Ten} {w : World} (n : Int) (ha : Tens w a0 a1 s) :
    Calls Tryz.prog 133 #[.agg #[a0, a1], .int .i64 n] w fun e w' => ∃ x0 x1, e = .returned (.tuple #[.agg #[x0, x1], .int .i64 (tkE s)]) ∧ OwnT w' w.heap.size x0 x1 (sclR n s) ∧ Below w.heap.size w w' := by
  have hb : Below w.heap.size w ((w.alloc (.cells #[a0, a1] 156)).alloc (.cells #[.slice none 0 0, .slice none 0 0] 156)) := ((Below.refl _ _).alloc (Nat.le_refl _) _).alloc (by simp) _
  have HA : Hid (Tens ((w.alloc (.cells #[a0, a1] 156)).alloc (.cells #[.slice none 0 0, .slice none 0 0] 156)) a0 a1 s) := ha.later hb
  have HB : Hid (Below w.heap.size w ((w.alloc (.cells #[a0, a1] 156)).alloc (.cells #[.slice none 0 0, .slice none 0 0] 156))) := hb
  have HBA : Hid (Box ((w.alloc (.cells #[a0, a1] 156)).alloc (.cells #[.slice none 0 0, .slice none 0 0] 156)) w.heap.size a0 a1) := (Box.new w a0 a1).alloc _
  have HBX : Hid (Box ((w.alloc (.cells #[a0, a1] 156)).alloc (.cells #[.slice none 0 0, .slice none 0 0] 156)) (w.heap.size + 1) (.slice none 0 0) (.slice none 0 0)) := by
    have := Box.new (w.alloc (.cells #[a0, a1] 156)) (.slice none 0 0) (.slice none 0 0)
    simp only [World.size_alloc] at this
    exact this
  clear ha hb
  obtain ⟨u, hu, hu2, hF⟩ : ∃ u : Ten, fitE u s = tkE s ∧ eachR opM u s = sclR n s ∧ ∀ w1 : World, Ints w1 a0 s.1 → Calls Tryz.prog 115 #[a0, .int .i64 n] w1 fun e w' => ∃ y0 y1 x, e = .returned (.tuple #[.agg #[y0, y1], .int .i64 x]) ∧ Tens w' y0 y1 u ∧ Below w1.heap.size w1 w' := by
    cases ho : okd s.1 with
    | true =>
      refine ⟨(s.1, List.replicate (prd s.1).toNat n), fit_fill n ho, each_fill n ho, fun w1 h1 => (fill_ok n h1 ho).mono ?_⟩
      rintro e w' ⟨a0, c0, b1, rfl, hi, hk, hb⟩
      have hp := okd_parts ho
      have hp1 := prd_lo hp.2.2.1
      exact ⟨_, _, _, rfl, ⟨hi, hk.ints _ _ (by simp) (Nat.le_refl _) (by unfold big; omega)⟩, hb⟩
    | false =>
      have ht : tkE s = 1 := by simp [tkE, tok, ho]
      refine ⟨([], []), by rw [fit_none, ht], by rw [each_none, sclR]; simp [tok, ho], fun w1 h1 => (fill_bad n h1 ho).mono ?_⟩
      rintro e w' ⟨rfl, hb⟩
      exact ⟨_, _, _, rfl, ⟨Ints.nil _, Ints.nil _⟩, hb⟩
  have HU : Hid (fitE u s = tkE s) := hu
  have HU2 : Hid (eachR opM u s = sclR n s) := hu2
  have HF : Hid (∀ w1 : World, Ints w1 a0 s.1 → Calls Tryz.prog 115 #[a0, .int .i64 n] w1 fun e w' => ∃ y0 y1 x, e = .returned (.tuple #[.agg #[y0, y1], .int .i64 x]) ∧ Tens w' y0 y1 u ∧ Below w1.heap.size w1 w') := hF
  clear hu hu2 hF
  go_enter Tryz.func133, Tryz.ntmps133
  go_wp2_with fail
  refine (HF.out _ HA.out.1).mono ?_
  rintro e w1 ⟨y0, y1, ey, rfl, hty, hb1⟩
  have HB1 : Hid (Below w.heap.size w w1) := Below.after HB.out hb1
  have hs1 := hb1.size
  simp at hs1
  have hbn : Below w1.heap.size w1 (w1.alloc (.cells #[y0, y1] 156)) := (Below.refl _ _).alloc (Nat.le_refl _) _
  have hca := ((HBA.out.later hb1).later hbn).c0
  have hca1 := ((HBA.out.later hb1).later hbn).c1
  have HBX2 : Hid (Box _ (w.heap.size + 1) (.slice none 0 0) (.slice none 0 0)) := (HBX.out.later hb1).later hbn
  have HY : Hid (Tens _ y0 y1 u) := hty.later hbn
  have HA2 : Hid (Tens _ a0 a1 s) := (HA.out.later hb1).later hbn
  have HB2 : Hid (Below w.heap.size w _) := Below.after HB1.out hbn
  obtain ⟨_, _, rfl⟩ := hty.1.shape
  obtain ⟨_, _, rfl⟩ := hty.2.shape
  clear hty hb1 hbn
  go_wp2_with fail
  refine (each_any (op := opM) deed_mul HY.out HA2.out).mono ?_
  rw [HU.out, HU2.out]
  rintro e w2 ⟨x0, x1, rfl, ho, hb2⟩
  simp only [World.size_alloc] at ho
  have HO : Hid (OwnT w2 (w1.heap.size + 1) x0 x1 (sclR n s)) := ho
  have HB3 : Hid (Below w.heap.size w w2) := Below.after HB2.out hb2
  have hbx := HBX2.out.later hb2
  have hx0' := hbx.c0
  have hx1 := hbx.c1
  have hf0 := hbx.f 0
  have hf1 := hbx.f 1
  obtain ⟨xa, xc, rfl⟩ := ho.dims.ints.shape
  obtain ⟨ya, yc, rfl⟩ := ho.data.ints.shape
  have HBS : Hid (Box _ _ _ _) := hbx.set (.slice xa (sclR n s).1.length xc) (.slice ya (sclR n s).2.length yc)
  clear hb2 hbx ho
  go_wp2
  have hr0 := HBS.out.c0
  have hr1 := HBS.out.c1
  refine bodyPost_ret (v := .tuple #[.agg #[.slice xa (sclR n s).1.length xc, .slice ya (sclR n s).2.length yc], .int .i64 (tkE s)]) (by simp [results, Tryz.results133, go_sem, hr0, hr1]) rfl ⟨_, _, rfl, ?_, ?_⟩
  · exact ((HO.out.setCell _ _ (by simp; omega)).setCell _ _ (by simp; omega)).mono (by omega)
  · exact (HB3.out.setCell (by simp) _).setCell (by simp) _
theorem sub_to {a0 a1 b0 b1 : Value} {s t : Ten} {w : World} (x : Int) (u : Ten) (ha : Tens w a0 a1 s) (hb' : Tens w b0 b1 t) (hx : fitE s t = x) (hu : eachR opS s t = u) :
    Calls Tryz.prog 130 #[.agg #[a0, a1], .agg #[b0, b1]] w fun e w' => ∃ x0 x1, e = .returned (.tuple #[.agg #[x0, x1], .int .i64 x]) ∧ OwnT w' w.heap.size x0 x1 u ∧ Below w.heap.size w w' := by
  subst hx hu
  exact sub_any ha hb'
theorem neg_to {a0 a1 : Value} {s : Ten} {w : World} (x : Int) (u : Ten) (ha : Tens w a0 a1 s) (hx : fitE s s = x) (hu : eachR opN s s = u) :
    Calls Tryz.prog 132 #[.agg #[a0, a1]] w fun e w' => ∃ x0 x1, e = .returned (.tuple #[.agg #[x0, x1], .int .i64 x]) ∧ OwnT w' w.heap.size x0 x1 u ∧ Below w.heap.size w w' := by
  subst hx hu
  exact neg_any ha
theorem scale_to {a0 a1 : Value} {s : Ten} {w : World} (n x : Int) (ha : Tens w a0 a1 s) (hx : tkE s = x) :
    Calls Tryz.prog 133 #[.agg #[a0, a1], .int .i64 n] w fun e w' => ∃ x0 x1, e = .returned (.tuple #[.agg #[x0, x1], .int .i64 x]) ∧ OwnT w' w.heap.size x0 x1 (sclR n s) ∧ Below w.heap.size w w' := by
  subst hx
  exact scale_any n ha
/-- The error that the layers below tell of a kind. -/
def vE (k : Nat) (n : Int) (d : List Int) (s t : Ten) : Int :=
  match k with
  | 3 => erf d
  | 4 => fitE s t
  | 5 => fitE s t
  | 6 => fitE s t
  | 7 => fitE s s
  | 8 => tkE s
  | 9 => muE s t
  | 10 => trE s
  | 11 => shE s d
  | 12 => wiE s d
  | 13 => suE s d
  | 14 => tkE s
  | 15 => fwE s n
  | 16 => fitE s t
  | 17 => pkE s t n
  | _ => 1
/-- What they tell. -/
def vR (k : Nat) (n : Int) (d : List Int) (s t : Ten) : Ten :=
  match k with
  | 3 => if okd d then (d, List.replicate (prd d).toNat n) else ([], [])
  | 4 => eachR opA s t
  | 5 => eachR opS s t
  | 6 => eachR opM s t
  | 7 => eachR opN s s
  | 8 => sclR n s
  | 9 => muR s t
  | 10 => trR s
  | 11 => shR s d
  | 12 => wiR s d
  | 13 => suR s d
  | 14 => eachR opG s s
  | 15 => mxR s n
  | 16 => eachR opG s t
  | 17 => pkR s t n
  | _ => ([], [])
def many (k : Nat) : Nat := if k ≤ 3 then 0 else if k = 4 ∨ k = 5 ∨ k = 6 ∨ k = 9 ∨ k = 16 ∨ k = 17 then 2 else 1
def asked (k : Nat) : Bool := decide (k ≤ 3 ∨ (11 ≤ k ∧ k ≤ 13))
def nok (k : Nat) (n : Int) : Bool := if k = 3 ∨ k = 8 then true else if k = 15 ∨ k = 17 then decide (1 ≤ n ∧ n ≤ 8) else decide (n = 0)
def dok (k : Nat) (d : List Int) : Bool := if asked k then okd d else decide (d.length = 0)
/-- Are a node's number, dims and how many it is made of of its kind's form? -/
def frmN (k : Nat) (n : Int) (d : List Int) (c : Nat) : Bool := decide (c = many k) && dok k d && nok k n
def frm (k n : Int) (d : List Int) (c : Nat) : Bool := decide (1 ≤ k ∧ k ≤ 17) && frmN k.toNat n d c
def frE (k n : Int) (d : List Int) (c : Nat) : Int := if frm k n d c then 0 else 1
def zT (p : List Int) : Ten := (p, List.replicate (prd p).toNat 0)
def no : Ten := ([], [])
theorem tok_zT {p : List Int} (h : okd p = true) : tok (zT p) = true := by
  have h1 := prd_lo (okd_parts h).2.2.1
  simp only [tok, zT, h, Bool.true_and, List.length_replicate, decide_eq_true_eq]
  omega
/-- Dims' error and answer. -/
def diE (k n : Int) (d : List Int) (L : List (List Int)) : Int :=
  if frm k n d L.length = true then (if k < 3 then 0 else if L.all okd = true then vE k.toNat n d ((L.map zT).getD 0 no) ((L.map zT).getD 1 no) else 1) else 1
def diR (k n : Int) (d : List Int) (L : List (List Int)) : List Int :=
  if frm k n d L.length = true then (if k < 3 then d else if L.all okd = true then (vR k.toNat n d ((L.map zT).getD 0 no) ((L.map zT).getD 1 no)).1 else []) else []
/-- May a node be; which dims, where they go together. -/
def may (k n : Int) (d : List Int) (L : List (List Int)) : Bool := frm k n d L.length && L.all okd
def inf (k : Nat) (n : Int) (d : List Int) (a b : List Int) : Bool :=
  match k with
  | 4 => a == b
  | 5 => a == b
  | 6 => a == b
  | 9 => decide (a.length = 2 ∧ b.length = 2 ∧ a.getD 1 0 = b.getD 0 0)
  | 10 => decide (a.length = 2)
  | 11 => prd d == prd a
  | 12 => wid a d
  | 13 => wid d a
  | 15 => decide (lastD a % n = 0)
  | 16 => a == b
  | 17 => decide (lastD a % n = 0 ∧ lesD a n = b)
  | _ => true
def inD (k : Nat) (n : Int) (d : List Int) (a b : List Int) : List Int :=
  match k with
  | 1 => d
  | 2 => d
  | 3 => d
  | 9 => [a.getD 0 0, b.getD 1 0]
  | 10 => [a.getD 1 0, a.getD 0 0]
  | 11 => d
  | 12 => d
  | 13 => d
  | 15 => lesD a n
  | _ => a
/-- The errors that the layers below tell hang on the dims alone. -/
theorem vE_inf {k : Nat} {n : Int} {d : List Int} {s t : Ten} (h3 : 3 ≤ k) (h17 : k ≤ 17) (hd : dok k d = true) (hn : nok k n = true) (hs : many k = 0 ∨ tok s = true) (ht : many k ≤ 1 ∨ tok t = true) :
    vE k n d s t = (if inf k n d s.1 t.1 then 0 else 4) ∧ vR k n d s t = (if inf k n d s.1 t.1 then (inD k n d s.1 t.1, (vR k n d s t).2) else ([], [])) := by
  have hk : k = 3 ∨ k = 4 ∨ k = 5 ∨ k = 6 ∨ k = 7 ∨ k = 8 ∨ k = 9 ∨ k = 10 ∨ k = 11 ∨ k = 12 ∨ k = 13 ∨ k = 14 ∨ k = 15 ∨ k = 16 ∨ k = 17 := by omega
  have hl : ∀ {a : List Int} {l : List Int}, tok (a, l) = true → (l.length : Int) = prd a := fun h => tok_len h
  rcases hk with rfl | rfl | rfl | rfl | rfl | rfl | rfl | rfl | rfl | rfl | rfl | rfl | rfl | rfl | rfl
  · have hd' : okd d = true := hd
    simp [vE, vR, inf, inD, erf, hd']
  · have h1 : tok s = true := by simpa [many] using hs
    have h2 : tok t = true := by simpa [many] using ht
    by_cases e : s.1 = t.1 <;> simp [vE, vR, inf, inD, eachR, fitE, h1, h2, e]
  · have h1 : tok s = true := by simpa [many] using hs
    have h2 : tok t = true := by simpa [many] using ht
    by_cases e : s.1 = t.1 <;> simp [vE, vR, inf, inD, eachR, fitE, h1, h2, e]
  · have h1 : tok s = true := by simpa [many] using hs
    have h2 : tok t = true := by simpa [many] using ht
    by_cases e : s.1 = t.1 <;> simp [vE, vR, inf, inD, eachR, fitE, h1, h2, e]
  · have h1 : tok s = true := by simpa [many] using hs
    simp [vE, vR, inf, inD, eachR, fitE, h1]
  · have h1 : tok s = true := by simpa [many] using hs
    simp [vE, vR, inf, inD, sclR, tkE, h1]
  · have h1 : tok s = true := by simpa [many] using hs
    have h2 : tok t = true := by simpa [many] using ht
    by_cases e : s.1.length = 2 ∧ t.1.length = 2 ∧ s.1.getD 1 0 = t.1.getD 0 0
    · have em : muE s t = 0 := by rw [muE, if_pos ⟨h1, h2⟩, if_pos e]
      have ei : inf 9 n d s.1 t.1 = true := by simp only [inf]; exact decide_eq_true e
      simp [vE, vR, muR, em, ei, inD]
    · have em : muE s t = 4 := by rw [muE, if_pos ⟨h1, h2⟩, if_neg e]
      have ei : inf 9 n d s.1 t.1 = false := by simp only [inf]; exact decide_eq_false e
      simp [vE, vR, muR, em, ei]
  · have h1 : tok s = true := by simpa [many] using hs
    by_cases e : s.1.length = 2
    · have em : trE s = 0 := by simp [trE, h1, e]
      simp [vE, vR, inf, inD, trR, em, e]
    · have em : trE s = 4 := by simp [trE, h1, e]
      simp [vE, vR, inf, inD, trR, em, e]
  · have h1 : tok s = true := by simpa [many] using hs
    have hd' : okd d = true := hd
    have hl := tok_len h1
    by_cases e : prd d = prd s.1
    · have em : shE s d = 0 := by simp [shE, h1, hd', hl, e]
      simp [vE, vR, inf, inD, shR, em, e]
    · have e' : ¬ prd s.1 = prd d := fun x => e x.symm
      have em : shE s d = 4 := by simp [shE, h1, hd', hl, e']
      simp [vE, vR, inf, inD, shR, em, e]
  · have h1 : tok s = true := by simpa [many] using hs
    have hd' : okd d = true := hd
    have h0 := tok_okd h1
    cases e : wid s.1 d with
    | true => have em : wiE s d = 0 := by simp [wiE, wdr, h1, hd', h0, e]
              simp [vE, vR, inf, inD, wiR, em, e]
    | false => have em : wiE s d = 4 := by simp [wiE, wdr, h1, hd', h0, e]
               simp [vE, vR, inf, inD, wiR, em, e]
  · have h1 : tok s = true := by simpa [many] using hs
    have hd' : okd d = true := hd
    have h0 := tok_okd h1
    cases e : wid d s.1 with
    | true => have em : suE s d = 0 := by simp [suE, wdr, h1, hd', h0, e]
              simp [vE, vR, inf, inD, suR, em, e]
    | false => have em : suE s d = 4 := by simp [suE, wdr, h1, hd', h0, e]
               simp [vE, vR, inf, inD, suR, em, e]
  · have h1 : tok s = true := by simpa [many] using hs
    simp [vE, vR, inf, inD, eachR, fitE, tkE, h1]
  · have h1 : tok s = true := by simpa [many] using hs
    have hn' : 1 ≤ n ∧ n ≤ 8 := by simpa [nok] using hn
    by_cases e : lastD s.1 % n = 0
    · have em : fwE s n = 0 := by rw [fwE, if_pos ⟨h1, hn'.1, hn'.2⟩, if_pos e]
      simp [vE, vR, inf, inD, mxR, em, e]
    · have em : fwE s n = 4 := by rw [fwE, if_pos ⟨h1, hn'.1, hn'.2⟩, if_neg e]
      simp [vE, vR, inf, inD, mxR, em, e]
  · have h1 : tok s = true := by simpa [many] using hs
    have h2 : tok t = true := by simpa [many] using ht
    by_cases e : s.1 = t.1 <;> simp [vE, vR, inf, inD, eachR, fitE, h1, h2, e]
  · have h1 : tok s = true := by simpa [many] using hs
    have h2 : tok t = true := by simpa [many] using ht
    have hn' : 1 ≤ n ∧ n ≤ 8 := by simpa [nok] using hn
    by_cases e : lastD s.1 % n = 0
    · have ef : fwE s n = 0 := by rw [fwE, if_pos ⟨h1, hn'.1, hn'.2⟩, if_pos e]
      by_cases e2 : lesD s.1 n = t.1
      · have em : pkE s t n = 0 := by simp [pkE, ef, h2, e2]
        simp [vE, vR, inf, inD, pkR, em, e, e2]
      · have e3 : ¬ t.1 = lesD s.1 n := fun x => e2 x.symm
        have em : pkE s t n = 4 := by simp [pkE, ef, h2, e3]
        simp [vE, vR, inf, inD, pkR, em, e, e2]
    · have ef : fwE s n = 4 := by rw [fwE, if_pos ⟨h1, hn'.1, hn'.2⟩, if_neg e]
      have em : pkE s t n = 4 := by simp [pkE, ef, h2]
      simp [vE, vR, inf, inD, pkR, em, e]
def askL (k : Int) : List UInt8 :=
  if k = 1 then [100]
  else if k = 2 then [100]
  else if k = 3 then [110, 100]
  else if k = 4 then [111, 111]
  else if k = 5 then [111, 111]
  else if k = 6 then [111, 111]
  else if k = 7 then [111]
  else if k = 8 then [111, 110]
  else if k = 9 then [111, 111]
  else if k = 10 then [111]
  else if k = 11 then [111, 100]
  else if k = 12 then [111, 100]
  else if k = 13 then [111, 100]
  else if k = 14 then [111]
  else if k = 15 then [111, 102]
  else if k = 16 then [111, 111]
  else if k = 17 then [111, 111, 102]
  else []
def askT (k : Int) : ByteArray := ⟨(askL k).toArray⟩
set_option maxHeartbeats 400000 in
theorem asks_k1 (w : World) : Calls Tryz.prog 126 #[.int .i64 1] w fun e w' => e = .returned (.string (askT 1)) ∧ w = w' := by
  go_enter Tryz.func126, Tryz.ntmps126
  go_wp2
  go_ret
  exact ⟨rfl, rfl⟩
set_option maxHeartbeats 400000 in
theorem asks_k2 (w : World) : Calls Tryz.prog 126 #[.int .i64 2] w fun e w' => e = .returned (.string (askT 2)) ∧ w = w' := by
  go_enter Tryz.func126, Tryz.ntmps126
  go_wp2
  go_ret
  exact ⟨rfl, rfl⟩
set_option maxHeartbeats 400000 in
theorem asks_k3 (w : World) : Calls Tryz.prog 126 #[.int .i64 3] w fun e w' => e = .returned (.string (askT 3)) ∧ w = w' := by
  go_enter Tryz.func126, Tryz.ntmps126
  go_wp2
  go_ret
  exact ⟨rfl, rfl⟩
set_option maxHeartbeats 400000 in
theorem asks_k4 (w : World) : Calls Tryz.prog 126 #[.int .i64 4] w fun e w' => e = .returned (.string (askT 4)) ∧ w = w' := by
  go_enter Tryz.func126, Tryz.ntmps126
  go_wp2
  go_ret
  exact ⟨rfl, rfl⟩
set_option maxHeartbeats 400000 in
theorem asks_k5 (w : World) : Calls Tryz.prog 126 #[.int .i64 5] w fun e w' => e = .returned (.string (askT 5)) ∧ w = w' := by
  go_enter Tryz.func126, Tryz.ntmps126
  go_wp2
  go_ret
  exact ⟨rfl, rfl⟩
set_option maxHeartbeats 400000 in
theorem asks_k6 (w : World) : Calls Tryz.prog 126 #[.int .i64 6] w fun e w' => e = .returned (.string (askT 6)) ∧ w = w' := by
  go_enter Tryz.func126, Tryz.ntmps126
  go_wp2
  go_ret
  exact ⟨rfl, rfl⟩
set_option maxHeartbeats 400000 in
theorem asks_k7 (w : World) : Calls Tryz.prog 126 #[.int .i64 7] w fun e w' => e = .returned (.string (askT 7)) ∧ w = w' := by
  go_enter Tryz.func126, Tryz.ntmps126
  go_wp2
  go_ret
  exact ⟨rfl, rfl⟩
set_option maxHeartbeats 400000 in
theorem asks_k8 (w : World) : Calls Tryz.prog 126 #[.int .i64 8] w fun e w' => e = .returned (.string (askT 8)) ∧ w = w' := by
  go_enter Tryz.func126, Tryz.ntmps126
  go_wp2
  go_ret
  exact ⟨rfl, rfl⟩
set_option maxHeartbeats 400000 in
theorem asks_k9 (w : World) : Calls Tryz.prog 126 #[.int .i64 9] w fun e w' => e = .returned (.string (askT 9)) ∧ w = w' := by
  go_enter Tryz.func126, Tryz.ntmps126
  go_wp2
  go_ret
  exact ⟨rfl, rfl⟩
set_option maxHeartbeats 400000 in
theorem asks_k10 (w : World) : Calls Tryz.prog 126 #[.int .i64 10] w fun e w' => e = .returned (.string (askT 10)) ∧ w = w' := by
  go_enter Tryz.func126, Tryz.ntmps126
  go_wp2
  go_ret
  exact ⟨rfl, rfl⟩
set_option maxHeartbeats 400000 in
theorem asks_k11 (w : World) : Calls Tryz.prog 126 #[.int .i64 11] w fun e w' => e = .returned (.string (askT 11)) ∧ w = w' := by
  go_enter Tryz.func126, Tryz.ntmps126
  go_wp2
  go_ret
  exact ⟨rfl, rfl⟩
set_option maxHeartbeats 400000 in
theorem asks_k12 (w : World) : Calls Tryz.prog 126 #[.int .i64 12] w fun e w' => e = .returned (.string (askT 12)) ∧ w = w' := by
  go_enter Tryz.func126, Tryz.ntmps126
  go_wp2
  go_ret
  exact ⟨rfl, rfl⟩
set_option maxHeartbeats 400000 in
theorem asks_k13 (w : World) : Calls Tryz.prog 126 #[.int .i64 13] w fun e w' => e = .returned (.string (askT 13)) ∧ w = w' := by
  go_enter Tryz.func126, Tryz.ntmps126
  go_wp2
  go_ret
  exact ⟨rfl, rfl⟩
set_option maxHeartbeats 400000 in
theorem asks_k14 (w : World) : Calls Tryz.prog 126 #[.int .i64 14] w fun e w' => e = .returned (.string (askT 14)) ∧ w = w' := by
  go_enter Tryz.func126, Tryz.ntmps126
  go_wp2
  go_ret
  exact ⟨rfl, rfl⟩
set_option maxHeartbeats 400000 in
theorem asks_k15 (w : World) : Calls Tryz.prog 126 #[.int .i64 15] w fun e w' => e = .returned (.string (askT 15)) ∧ w = w' := by
  go_enter Tryz.func126, Tryz.ntmps126
  go_wp2
  go_ret
  exact ⟨rfl, rfl⟩
set_option maxHeartbeats 400000 in
theorem asks_k16 (w : World) : Calls Tryz.prog 126 #[.int .i64 16] w fun e w' => e = .returned (.string (askT 16)) ∧ w = w' := by
  go_enter Tryz.func126, Tryz.ntmps126
  go_wp2
  go_ret
  exact ⟨rfl, rfl⟩
set_option maxHeartbeats 400000 in
theorem asks_k17 (w : World) : Calls Tryz.prog 126 #[.int .i64 17] w fun e w' => e = .returned (.string (askT 17)) ∧ w = w' := by
  go_enter Tryz.func126, Tryz.ntmps126
  go_wp2
  go_ret
  exact ⟨rfl, rfl⟩
theorem askL_none {k : Int} (h : ¬ (1 ≤ k ∧ k ≤ 17)) : askL k = [] := by
  unfold askL
  rw [if_neg (by omega)]
  rw [if_neg (by omega)]
  rw [if_neg (by omega)]
  rw [if_neg (by omega)]
  rw [if_neg (by omega)]
  rw [if_neg (by omega)]
  rw [if_neg (by omega)]
  rw [if_neg (by omega)]
  rw [if_neg (by omega)]
  rw [if_neg (by omega)]
  rw [if_neg (by omega)]
  rw [if_neg (by omega)]
  rw [if_neg (by omega)]
  rw [if_neg (by omega)]
  rw [if_neg (by omega)]
  rw [if_neg (by omega)]
  rw [if_neg (by omega)]
set_option maxHeartbeats 1000000 in
theorem asks_none (k : Int) (w : World) (h : ¬ (1 ≤ k ∧ k ≤ 17)) : Calls Tryz.prog 126 #[.int .i64 k] w fun e w' => e = .returned (.string (askT k)) ∧ w = w' := by
  have HE : Hid (askT k = ⟨#[]⟩) := by show _ = _; rw [askT, askL_none h]
  have h1 : ¬ k = 1 := by omega
  have h2 : ¬ k = 2 := by omega
  have h3 : ¬ k = 3 := by omega
  have h4 : ¬ k = 4 := by omega
  have h5 : ¬ k = 5 := by omega
  have h6 : ¬ k = 6 := by omega
  have h7 : ¬ k = 7 := by omega
  have h8 : ¬ k = 8 := by omega
  have h9 : ¬ k = 9 := by omega
  have h10 : ¬ k = 10 := by omega
  have h11 : ¬ k = 11 := by omega
  have h12 : ¬ k = 12 := by omega
  have h13 : ¬ k = 13 := by omega
  have h14 : ¬ k = 14 := by omega
  have h15 : ¬ k = 15 := by omega
  have h16 : ¬ k = 16 := by omega
  have h17 : ¬ k = 17 := by omega
  clear h
  go_enter Tryz.func126, Tryz.ntmps126
  go_wp2
  go_ret
  exact ⟨by rw [HE.out]; rfl, rfl⟩
theorem asks_any (k : Int) (w : World) : Calls Tryz.prog 126 #[.int .i64 k] w fun e w' => e = .returned (.string (askT k)) ∧ w = w' := by
  by_cases h : 1 ≤ k ∧ k ≤ 17
  · have hk : k = 1 ∨ k = 2 ∨ k = 3 ∨ k = 4 ∨ k = 5 ∨ k = 6 ∨ k = 7 ∨ k = 8 ∨ k = 9 ∨ k = 10 ∨ k = 11 ∨ k = 12 ∨ k = 13 ∨ k = 14 ∨ k = 15 ∨ k = 16 ∨ k = 17 := by omega
    rcases hk with rfl | rfl | rfl | rfl | rfl | rfl | rfl | rfl | rfl | rfl | rfl | rfl | rfl | rfl | rfl | rfl | rfl
    · exact asks_k1 w
    · exact asks_k2 w
    · exact asks_k3 w
    · exact asks_k4 w
    · exact asks_k5 w
    · exact asks_k6 w
    · exact asks_k7 w
    · exact asks_k8 w
    · exact asks_k9 w
    · exact asks_k10 w
    · exact asks_k11 w
    · exact asks_k12 w
    · exact asks_k13 w
    · exact asks_k14 w
    · exact asks_k15 w
    · exact asks_k16 w
    · exact asks_k17 w
  · exact asks_none k w h
set_option maxRecDepth 100000 in
theorem lit52 (g : Nat → Value) : (g 0 :: g 1 :: g 2 :: g 3 :: g 4 :: g 5 :: g 6 :: g 7 :: g 8 :: g 9 :: g 10 :: g 11 :: g 12 :: g 13 :: g 14 :: g 15 :: g 16 :: g 17 :: g 18 :: g 19 :: g 20 :: g 21 :: g 22 :: g 23 :: g 24 :: g 25 :: g 26 :: g 27 :: g 28 :: g 29 :: g 30 :: g 31 :: g 32 :: g 33 :: g 34 :: g 35 :: g 36 :: g 37 :: g 38 :: g 39 :: g 40 :: g 41 :: g 42 :: g 43 :: g 44 :: g 45 :: g 46 :: g 47 :: g 48 :: g 49 :: g 50 :: g 51 :: []).toArray = ((List.range 52).map g).toArray := by rfl
set_option maxRecDepth 100000 in
theorem act52 (a : Act) (hd : a.defers = []) (hs : a.tmps.size = 52) : ∃ g : Nat → Value, (∀ i, a.tmps.getD i undef = g i) ∧ a = { tmps := (g 0 :: g 1 :: g 2 :: g 3 :: g 4 :: g 5 :: g 6 :: g 7 :: g 8 :: g 9 :: g 10 :: g 11 :: g 12 :: g 13 :: g 14 :: g 15 :: g 16 :: g 17 :: g 18 :: g 19 :: g 20 :: g 21 :: g 22 :: g 23 :: g 24 :: g 25 :: g 26 :: g 27 :: g 28 :: g 29 :: g 30 :: g 31 :: g 32 :: g 33 :: g 34 :: g 35 :: g 36 :: g 37 :: g 38 :: g 39 :: g 40 :: g 41 :: g 42 :: g 43 :: g 44 :: g 45 :: g 46 :: g 47 :: g 48 :: g 49 :: g 50 :: g 51 :: []).toArray, defers := [] } := by
  refine ⟨fun i => a.tmps.getD i undef, fun _ => rfl, ?_⟩
  have h := lit52 (fun i => a.tmps.getD i undef)
  have e : a.tmps = ((List.range 52).map (fun i => a.tmps.getD i undef)).toArray := by
    apply Array.ext
    · simp [hs]
    · intro i h1 h2
      simp [h1]
  exact (show a = Act.mk a.tmps a.defers from rfl).trans (by rw [hd]; exact congrArg (fun t => Act.mk t []) (e.trans h.symm))
def fgo : List UInt8 → Int → Int → List Int → Bool
  | [], c, n, d => decide (c = 0 ∧ d.length = 0 ∧ n = 0)
  | b :: r, c, n, d => if b = 111 then fgo r (c - 1) n d else if b = 100 then okd d && fgo r c n [] else if b = 102 then decide (1 ≤ n ∧ n ≤ 8) && fgo r c 0 d else fgo r c 0 d
def JB (n : Nat) (w : World) (q : Bool) (a : Act) (w' : World) : Prop := a.defers = [] ∧ a.tmps.size = n ∧ Below w.heap.size w w' ∧ Hid (q = false)
theorem drop_at {α : Type} (l : List α) (p : Nat) (h : p < l.length) : l.drop p = l[p] :: l.drop (p + 1) := by simp
def fB (q : Bool) : Int := if q then 0 else 1
set_option maxHeartbeats 4000000 in
theorem form_go {v : Value} {d : List Int} {w : World} (k n : Int) (c : Nat) (hc : c ≤ big) (hd : Ints w v d) (l : List UInt8) (hl : askL k = l) (hne : 1 ≤ l.length) (hb : ∀ b ∈ l, b = 111 ∨ b = 100 ∨ b = 102 ∨ b = 110) (h3 : l.length ≤ 3) (q : Bool) (hq : fgo l c n d = q) :
    Calls Tryz.prog 113 #[.int .i64 k, .int .i64 n, v, .int .i64 c] w fun e w' => e = .returned (.int .i64 (fB q)) ∧ Below w.heap.size w w' := by
  have HT : Hid (askT k = ⟨l.toArray⟩) := by show _ = _; rw [askT, hl]
  have HD : Hid (Ints w v d) := hd
  have HB : Hid (∀ b ∈ l, b = 111 ∨ b = 100 ∨ b = 102 ∨ b = 110) := hb
  have HQ : Hid (fgo l c n d = q) := hq
  obtain ⟨s, hs⟩ : ∃ s : ByteArray, s = ⟨l.toArray⟩ := ⟨_, rfl⟩
  have hsz : s.size = l.length := by rw [hs]; simp [ByteArray.size]
  have hsb : ∀ p (h : p < l.length) (h' : p < s.size), s[p] = l[p] := by subst hs; intro p h h'; simp [ByteArray.getElem_eq_getElem_data]
  have hs1 : ¬ s.toList = [] := by
    intro e
    rw [ByteArray.toList_eq, hs] at e
    simp at e
    rw [e] at hne
    simp at hne
  have hs2 : (s.toList == []) = false := by simpa using hs1
  have hs3 : (s.toList == (⟨#[]⟩ : ByteArray).toList) = false := by rw [ByteArray.toList_eq (⟨#[]⟩ : ByteArray)]; exact hs2
  have hs4 : s.toList.isEmpty = false := by simpa using hs1
  have HS : Hid (∀ p (h : p < l.length) (h' : p < s.size), s[p] = l[p]) := hsb
  rw [← hs] at HT
  unfold big at hc
  clear hd hb hq hl hs hsb
  go_enter Tryz.func113, Tryz.ntmps113
  go_wp2_with fail
  refine wp_scope_jumps 0 (JB 52 w q) (fun _ _ => 0) rfl ?_ ?_
  · go_wp2_with (go_at_call 126; refine (asks_any k w).mono ?_; rw [HT.out]; rintro e w' ⟨rfl, rfl⟩)
    go_loopw [1, 2, 3] (fun n' d' c' w' => ∃ (p : Nat) (m : Int) (e : List Int) (cc : Int), p ≤ l.length ∧ w' = w.iter s p ∧ n' = .int .i64 m ∧ Hid (Ints w d' e) ∧ c' = .int .i64 cc ∧ (cc ≤ c ∧ (c : Int) - p ≤ cc) ∧ Hid (fgo (l.drop p) cc m e = q)) (fun _ _ _ w' => l.length - w'.iterPos w.heap.size)
    case atStart => exact ⟨0, n, d, c, Nat.zero_le _, rfl, rfl, HD, rfl, ⟨Int.le_refl _, by omega⟩, HQ.out⟩
    case round =>
      obtain ⟨p, m, e, cc, hp, rfl, rfl, HE, rfl, ⟨hc1, hc2⟩, HF⟩ := hrel
      by_cases hlt : p < l.length
      · have hps : p < s.size := by omega
        have hF := HF.out
        rw [drop_at l p hlt] at hF
        have hbb := HB.out l[p] (List.getElem_mem hlt)
        have hsp := HS.out p hlt hps
        rcases hbb with hb | hb | hb | hb
        · rw [hb] at hF hsp
          have hnx := fun ty => nx w s p hps 111 (by rw [hsp]; rfl) (by rw [hsp]; decide) ty
          have HF2 : Hid (fgo (l.drop (p + 1)) (cc - 1) m e = q) := by show _ = _; rw [← hF, fgo, if_pos rfl]
          clear hF hsp hb HF
          go_wp2
          go_roundw
          case rel => exact ⟨p + 1, m, e, cc - 1, by omega, rfl, rfl, HE, by go_num, ⟨by omega, by omega⟩, HF2⟩
          case measure => first | (simp; done) | (simp; omega) | (rw [← iter_alloc]; simp; omega)
        · rw [hb] at hF hsp
          have hnx := fun ty => nx w s p hps 100 (by rw [hsp]; rfl) (by rw [hsp]; decide) ty
          cases hok : okd e with
          | true =>
            have HF2 : Hid (fgo (l.drop (p + 1)) cc m [] = q) := by show _ = _; rw [← hF, fgo, if_neg (by decide), if_pos rfl, hok, Bool.true_and]
            have HK : Hid (erf e = 0) := erf_ok hok
            clear hF hsp hb HF hok
            go_wp2_with (go_at_call 127; refine (check_any (HE.out.later ((Below.refl _ _).alloc (Nat.le_refl _) _))).mono ?_; rw [HK.out]; rintro e' w' ⟨rfl, rfl⟩)
            go_roundw
            case rel => exact ⟨p + 1, m, [], cc, by omega, rfl, rfl, Ints.nil w, rfl, ⟨by omega, by omega⟩, HF2⟩
            case measure => first | (simp; done) | (simp; omega) | (rw [← iter_alloc]; simp; omega)
          | false =>
            have HF2 : Hid (q = false) := by show _ = _; rw [← hF, fgo, if_neg (by decide), if_pos rfl, hok, Bool.false_and]
            have HK : Hid (erf e = 1) := erf_bad hok
            clear hF hsp hb HF hok
            go_wp2_with (go_at_call 127; refine (check_any (HE.out.later ((Below.refl _ _).alloc (Nat.le_refl _) _))).mono ?_; rw [HK.out]; rintro e' w' ⟨rfl, rfl⟩)
            go_step3
            exact ⟨rfl, rfl, rfl, (Below.refl _ _).alloc (Nat.le_refl _) _, HF2⟩
        · rw [hb] at hF hsp
          have hnx := fun ty => nx w s p hps 102 (by rw [hsp]; rfl) (by rw [hsp]; decide) ty
          by_cases hm : 1 ≤ m ∧ m ≤ 8
          · have HF2 : Hid (fgo (l.drop (p + 1)) cc 0 e = q) := by show _ = _; rw [← hF, fgo, if_neg (by decide), if_neg (by decide), if_pos rfl, decide_eq_true hm, Bool.true_and]
            obtain ⟨hm1, hm2⟩ := hm
            clear hF hsp hb HF
            go_wp2
            go_roundw
            case rel => exact ⟨p + 1, 0, e, cc, by omega, rfl, rfl, HE, rfl, ⟨by omega, by omega⟩, HF2⟩
            case measure => first | (simp; done) | (simp; omega) | (rw [← iter_alloc]; simp; omega)
          · have HF2 : Hid (q = false) := by show _ = _; rw [← hF, fgo, if_neg (by decide), if_neg (by decide), if_pos rfl, decide_eq_false hm, Bool.false_and]
            clear hF hsp hb HF
            by_cases hm1 : m < 1
            · clear hm
              go_wp2
              go_step3
              exact ⟨rfl, rfl, rfl, (Below.refl _ _).alloc (Nat.le_refl _) _, HF2⟩
            · have hm2 : 8 < m := by omega
              clear hm
              go_wp2
              go_step3
              exact ⟨rfl, rfl, rfl, (Below.refl _ _).alloc (Nat.le_refl _) _, HF2⟩
        · rw [hb] at hF hsp
          have hnx := fun ty => nx w s p hps 110 (by rw [hsp]; rfl) (by rw [hsp]; decide) ty
          have HF2 : Hid (fgo (l.drop (p + 1)) cc 0 e = q) := by show _ = _; rw [← hF, fgo, if_neg (by decide), if_neg (by decide), if_neg (by decide)]
          clear hF hsp hb HF
          go_wp2
          go_roundw
          case rel => exact ⟨p + 1, 0, e, cc, by omega, rfl, rfl, HE, rfl, ⟨by omega, by omega⟩, HF2⟩
          case measure => first | (simp; done) | (simp; omega) | (rw [← iter_alloc]; simp; omega)
      · obtain rfl : p = l.length := by omega
        have hF := HF.out
        rw [List.drop_eq_nil_of_le (by omega), fgo] at hF
        have hnx := fun ty => run_next_end (P := Tryz.prog) w s l.length ty (by omega)
        obtain ⟨ea, ec, rfl⟩ := HE.out.shape
        clear HE HF
        by_cases h1 : cc = 0
        · by_cases h2 : e.length = 0
          · by_cases h4 : m = 0
            · have HF2 : Hid (q = true) := by show _ = _; rw [← hF]; exact decide_eq_true ⟨h1, h2, h4⟩
              clear hF
              subst h1 h4
              rw [h2]
              go_wp2
              rw [jump_ret]
              go_ret
              exact ⟨by rw [HF2.out]; rfl, (Below.refl _ _).alloc (Nat.le_refl _) _⟩
            · have HF2 : Hid (q = false) := by show _ = _; rw [← hF]; exact decide_eq_false fun h => h4 h.2.2
              have g4 : (m != 0) = true := by simp [h4]
              clear hF
              subst h1
              rw [h2]
              go_wp2
              go_step3
              exact ⟨rfl, rfl, rfl, (Below.refl _ _).alloc (Nat.le_refl _) _, HF2⟩
          · have HF2 : Hid (q = false) := by show _ = _; rw [← hF]; exact decide_eq_false fun h => h2 h.2.1
            obtain ⟨en, hen⟩ : ∃ x, e.length = x := ⟨_, rfl⟩
            rw [hen] at h2 ⊢
            have g2 : ((en : Int) != 0) = true := by simp [h2]
            clear hF hen
            subst h1
            go_wp2
            go_step3
            exact ⟨rfl, rfl, rfl, (Below.refl _ _).alloc (Nat.le_refl _) _, HF2⟩
        · have HF2 : Hid (q = false) := by show _ = _; rw [← hF]; exact decide_eq_false fun h => h1 h.1
          have g1 : (cc != 0) = true := by simp [h1]
          clear hF
          go_wp2
          go_step3
          exact ⟨rfl, rfl, rfl, (Below.refl _ _).alloc (Nat.le_refl _) _, HF2⟩
  · rintro a w' ⟨hd, hs, hbe, HF⟩
    obtain ⟨G, hg, e⟩ := act52 a hd hs
    subst e
    have HBE : Hid (Below w.heap.size w w') := hbe
    clear hg hd hs hbe
    go_wp2
    rw [jump_ret]
    exact bodyPost_ret (v := .int .i64 1) (by simp [results, Tryz.results113, go_sem]) rfl ⟨by rw [HF.out]; rfl, HBE.out⟩
set_option maxHeartbeats 1000000 in
theorem form_none {v : Value} {w : World} (k n : Int) (c : Nat) (h : ¬ (1 ≤ k ∧ k ≤ 17)) :
    Calls Tryz.prog 113 #[.int .i64 k, .int .i64 n, v, .int .i64 c] w fun e w' => e = .returned (.int .i64 1) ∧ Below w.heap.size w w' := by
  have HT : Hid (askT k = ⟨#[]⟩) := by show _ = _; rw [askT, askL_none h]
  clear h
  go_enter Tryz.func113, Tryz.ntmps113
  go_wp2_with fail
  refine wp_scope_jumps 0 (JB 52 w false) (fun _ _ => 0) rfl ?_ ?_
  · go_wp2_with (go_at_call 126; refine (asks_any k w).mono ?_; rw [HT.out]; rintro e w' ⟨rfl, rfl⟩)
    go_step3
    exact ⟨rfl, rfl, rfl, Below.refl _ _, rfl⟩
  · rintro a w' ⟨hd, hs, hbe, HF⟩
    obtain ⟨G, hg, e⟩ := act52 a hd hs
    subst e
    have HBE : Hid (Below w.heap.size w w') := hbe
    clear hg hd hs hbe
    go_wp2
    rw [jump_ret]
    exact bodyPost_ret (v := .int .i64 1) (by simp [results, Tryz.results113, go_sem]) rfl ⟨rfl, HBE.out⟩
theorem frm_none {k n : Int} {d : List Int} {c : Nat} (h : ¬ (1 ≤ k ∧ k ≤ 17)) : frm k n d c = false := by rw [frm, decide_eq_false h, Bool.false_and]
theorem fgo_frm {k n : Int} {d : List Int} {c : Nat} (h : 1 ≤ k ∧ k ≤ 17) : fgo (askL k) c n d = frm k n d c ∧ 1 ≤ (askL k).length ∧ (askL k).length ≤ 3 ∧ ∀ b ∈ askL k, b = 111 ∨ b = 100 ∨ b = 102 ∨ b = 110 := by
  have hk : k = 1 ∨ k = 2 ∨ k = 3 ∨ k = 4 ∨ k = 5 ∨ k = 6 ∨ k = 7 ∨ k = 8 ∨ k = 9 ∨ k = 10 ∨ k = 11 ∨ k = 12 ∨ k = 13 ∨ k = 14 ∨ k = 15 ∨ k = 16 ∨ k = 17 := by omega
  have e0 : ((c : Int) = 0) = (c = 0) := by apply propext; omega
  have e1 : ((c : Int) - 1 = 0) = (c = 1) := by apply propext; omega
  have e2 : ((c : Int) - 1 - 1 = 0) = (c = 2) := by apply propext; omega
  rcases hk with rfl | rfl | rfl | rfl | rfl | rfl | rfl | rfl | rfl | rfl | rfl | rfl | rfl | rfl | rfl | rfl | rfl <;>
  refine ⟨?_, by decide, by decide, by decide⟩ <;>
  simp (decide := true) only [askL, frm, frmN, dok, nok, many, asked, if_true, if_false] <;>
  (rw [Bool.eq_iff_iff]; simp [fgo, e0, e1, e2, and_assoc, and_comm, and_left_comm])
theorem form_any {v : Value} {d : List Int} {w : World} (k n : Int) (c : Nat) (hc : c ≤ big) (hd : Ints w v d) (x : Int) (hx : frE k n d c = x) :
    Calls Tryz.prog 113 #[.int .i64 k, .int .i64 n, v, .int .i64 c] w fun e w' => e = .returned (.int .i64 x) ∧ Below w.heap.size w w' := by
  subst hx
  by_cases h : 1 ≤ k ∧ k ≤ 17
  · obtain ⟨h1, h2, h3, h4⟩ := fgo_frm (n := n) (d := d) (c := c) h
    exact form_go k n c hc hd (askL k) rfl h2 h4 h3 (frm k n d c) h1
  · rw [frE, frm_none h]
    exact form_none k n c h
theorem cell_at {w w' : World} {b o : Nat} {x : Value} (hb : Below w.heap.size w w') (h : w.cell? ⟨b, o, none⟩ = some x) : w'.cell? ⟨b, o, none⟩ = some x := cell_later hb h
theorem cell_lt {w : World} {b o : Nat} {x : Value} (h : w.cell? ⟨b, o, none⟩ = some x) : b < w.heap.size := World.block_lt_of_cell? _ _ h
theorem fill_to {v : Value} {d : List Int} {w : World} (n x : Int) (u : Ten) (h : Ints w v d) (hx : erf d = x) (hu : vR 3 n d no no = u) :
    Calls Tryz.prog 115 #[v, .int .i64 n] w fun e w' => ∃ x0 x1, e = .returned (.tuple #[.agg #[x0, x1], .int .i64 x]) ∧ OwnT w' w.heap.size x0 x1 u ∧ Below w.heap.size w w' := by
  subst hx hu
  cases hok : okd d with
  | true =>
    refine (fill_own n h hok).mono ?_
    rintro e w' ⟨x0, b1, rfl, ho, hblk, ⟨h1, h2⟩, hb⟩
    have hl : (List.replicate (prd d).toNat n).length ≤ big := by
      have := (okd_parts hok).2.2.2
      simp [big]; omega
    refine ⟨x0, _, by rw [erf_ok hok], ⟨?_, ?_, ?_⟩, hb⟩
    · simp only [vR, hok, if_true]; exact ho
    · simp only [vR, hok, if_true]; exact hblk.own h1 (by simp) hl
    · intro k hk e
      have : b1 = k := by simpa [Value.ownBlock] using e
      exact h2 k hk this.symm
  | false =>
    refine (fill_bad n h hok).mono ?_
    rintro e w' ⟨rfl, hb⟩
    refine ⟨_, _, by rw [erf_bad hok], ?_, hb⟩
    simp only [vR, hok]
    exact OwnT.nil _ _
set_option maxHeartbeats 4000000 in
theorem value_k3 {vd vl : Value} {d : List Int} {w : World} (n : Int) (hd : Ints w vd d) :
    Calls Tryz.prog 116 #[.int .i64 3, .int .i64 n, vd, vl] w fun e w' => ∃ x0 x1, e = .returned (.tuple #[.agg #[x0, x1], .int .i64 (vE 3 n d no no)]) ∧ OwnT w' w.heap.size x0 x1 (vR 3 n d no no) ∧ Below w.heap.size w w' := by
  obtain ⟨da, dn, dc, rfl⟩ := hd.shape3
  obtain ⟨U, hU⟩ : ∃ U, U = w.alloc (.cells #[.slice none 0 0, .slice none 0 0] 156) := ⟨_, rfl⟩
  have hb : Below w.heap.size w U := by rw [hU]; exact (Below.refl _ _).alloc (Nat.le_refl _) _
  have HB : Hid (Below w.heap.size w U) := hb
  have HD : Hid (Ints U (.slice da dn dc) d) := hd.later hb
  have HBX : Hid (Box U w.heap.size (.slice none 0 0) (.slice none 0 0)) := by show Box _ _ _ _; rw [hU]; exact Box.new w _ _
  have hsU : w.heap.size + 1 ≤ U.heap.size := by rw [hU]; simp
  obtain ⟨x, hx⟩ : ∃ x, vE 3 n d no no = x := ⟨_, rfl⟩
  obtain ⟨u, hu⟩ : ∃ u, vR 3 n d no no = u := ⟨_, rfl⟩
  rw [hx, hu]
  have HX : Hid (vE 3 n d no no = x) := hx
  have HU : Hid (vR 3 n d no no = u) := hu
  clear hx hu hd hb
  go_enter Tryz.func116, Tryz.ntmps116
  go_upto_region 1 with fail
  rw [← hU]
  clear hU
  go_wp2_with fail
  refine (fill_to n x u HD.out HX.out HU.out).mono ?_
  rintro e w2 ⟨x0, x1, rfl, ho, hb2⟩
  have HBU : Hid (Below U.heap.size U w2) := hb2
  obtain ⟨xa, xn, xc, rfl⟩ := ho.dims.ints.shape3
  obtain ⟨ya, yn, yc, rfl⟩ := ho.data.ints.shape3
  have hbx := HBX.out.later HBU.out
  have l0 := hbx.c0
  have l1 := hbx.c1
  have m0 := hbx.f 0
  have m1 := hbx.f 1
  have HBS : Hid (Box _ _ _ _) := hbx.set (.slice xa xn xc) (.slice ya yn yc)
  have HO : Hid (OwnT w2 (w.heap.size + 1) (.slice xa xn xc) (.slice ya yn yc) u) := ho.mono hsU
  have HBW : Hid (Below w.heap.size w w2) := Below.after HB.out HBU.out
  clear hbx ho hb2
  go_wp2
  have hr0 := HBS.out.c0
  have hr1 := HBS.out.c1
  refine bodyPost_ret (v := .tuple #[.agg #[.slice xa xn xc, .slice ya yn yc], .int .i64 x]) (by simp [results, Tryz.results116, go_sem, hr0, hr1]) rfl ⟨_, _, rfl, ?_, ?_⟩
  · exact (HO.out.set2 _ _ (by omega)).mono (by omega)
  · exact (HBW.out.setCell (by simp) _).setCell (by simp) _
set_option maxHeartbeats 4000000 in
theorem value_k4 {vd a0 a1 b0 b1 : Value} {d : List Int} {s t : Ten} {w : World} {P off c : Nat} (n : Int) (hc : 2 ≤ c) (ha : Tens w a0 a1 s) (ht : Tens w b0 b1 t) (p0 : w.cell? ⟨P, off, none⟩ = some a0) (p1 : w.cell? ⟨P, off + 1, none⟩ = some a1) (p2 : w.cell? ⟨P, off + 2, none⟩ = some b0) (p3 : w.cell? ⟨P, off + 3, none⟩ = some b1) (hd : Ints w vd d) :
    Calls Tryz.prog 116 #[.int .i64 4, .int .i64 n, vd, .slice (some ⟨P, off, none⟩) 2 c] w fun e w' => ∃ x0 x1, e = .returned (.tuple #[.agg #[x0, x1], .int .i64 (vE 4 n d s t)]) ∧ OwnT w' w.heap.size x0 x1 (vR 4 n d s t) ∧ Below w.heap.size w w' := by
  obtain ⟨da, dn, dc, rfl⟩ := hd.shape3
  obtain ⟨aa, an, ac, rfl⟩ := ha.1.shape3
  obtain ⟨ba, bn, bc, rfl⟩ := ha.2.shape3
  have hne : ¬ w.heap.size = P := by have := cell_lt p0; omega
  have hne2 : ¬ P = w.heap.size := fun h => hne h.symm
  obtain ⟨ea, en, ec, rfl⟩ := ht.1.shape3
  obtain ⟨fa, fn, fc, rfl⟩ := ht.2.shape3
  obtain ⟨U, hU⟩ : ∃ U, U = w.alloc (.cells #[.slice none 0 0, .slice none 0 0] 156) := ⟨_, rfl⟩
  have hb : Below w.heap.size w U := by rw [hU]; exact (Below.refl _ _).alloc (Nat.le_refl _) _
  have HB : Hid (Below w.heap.size w U) := hb
  have HD : Hid (Ints U (.slice da dn dc) d) := hd.later hb
  have HBX : Hid (Box U w.heap.size (.slice none 0 0) (.slice none 0 0)) := by show Box _ _ _ _; rw [hU]; exact Box.new w _ _
  have hsU : w.heap.size + 1 ≤ U.heap.size := by rw [hU]; simp
  have HA : Hid (Tens U (.slice aa an ac) (.slice ba bn bc) s) := ha.later hb
  replace p0 := cell_at hb p0
  replace p1 := cell_at hb p1
  have HT : Hid (Tens U (.slice ea en ec) (.slice fa fn fc) t) := ht.later hb
  replace p2 := cell_at hb p2
  replace p3 := cell_at hb p3
  obtain ⟨x, hx⟩ : ∃ x, vE 4 n d s t = x := ⟨_, rfl⟩
  obtain ⟨u, hu⟩ : ∃ u, vR 4 n d s t = u := ⟨_, rfl⟩
  rw [hx, hu]
  have HX : Hid (vE 4 n d s t = x) := hx
  have HU : Hid (vR 4 n d s t = u) := hu
  clear hx hu hd hb ha ht
  go_enter Tryz.func116, Tryz.ntmps116
  go_upto_region 1 with fail
  rw [← hU]
  clear hU
  go_wp2_with fail
  go_region_held3 (fun w' => w'.cell? ⟨P, off, none⟩ = some (.slice aa an ac) ∧ w'.cell? ⟨P, off + 1, none⟩ = some (.slice ba bn bc) ∧ w'.cell? ⟨P, off + 2, none⟩ = some (.slice ea en ec) ∧ w'.cell? ⟨P, off + 3, none⟩ = some (.slice fa fn fc)) (go_keep) (first | (go_at_call 129; refine (add_to x u ?_ ?_ HX.out HU.out).mono ?_; exact HA.out.later (Below.refl _ _).drew; exact HT.out.later (Below.refl _ _).drew; rintro r w2 ⟨x0, x1, rfl, ho, hb2⟩; have HBU : Hid (Below U.heap.size U w2) := Below.after (Below.refl _ _).drew hb2; obtain ⟨xa, xn, xc, rfl⟩ := ho.dims.ints.shape3; obtain ⟨ya, yn, yc, rfl⟩ := ho.data.ints.shape3; have hbx := HBX.out.later HBU.out; have l0 := hbx.c0; have l1 := hbx.c1; have m0 := hbx.f 0; have m1 := hbx.f 1; have HBS : Hid (Box _ _ _ _) := hbx.set (.slice xa xn xc) (.slice ya yn yc); have HO : Hid (OwnT w2 (w.heap.size + 1) (.slice xa xn xc) (.slice ya yn yc) u) := ho.mono hsU; have HBW : Hid (Below w.heap.size w w2) := Below.after HB.out HBU.out; have a_0 := cell_at HBU.out p0; have a_1 := cell_at HBU.out p1; have a_2 := cell_at HBU.out p2; have a_3 := cell_at HBU.out p3; clear hbx ho hb2))
  clear a_0 a_1 a_2 a_3 p0 p1 p2 p3
  go_wp2
  have hr0 := HBS.out.c0
  have hr1 := HBS.out.c1
  refine bodyPost_ret (v := .tuple #[.agg #[.slice xa xn xc, .slice ya yn yc], .int .i64 x]) (by simp [results, Tryz.results116, go_sem, hr0, hr1]) rfl ⟨_, _, rfl, ?_, ?_⟩
  · exact (HO.out.set2 _ _ (by omega)).mono (by omega)
  · exact (HBW.out.setCell (by simp) _).setCell (by simp) _
set_option maxHeartbeats 4000000 in
theorem value_k5 {vd a0 a1 b0 b1 : Value} {d : List Int} {s t : Ten} {w : World} {P off c : Nat} (n : Int) (hc : 2 ≤ c) (ha : Tens w a0 a1 s) (ht : Tens w b0 b1 t) (p0 : w.cell? ⟨P, off, none⟩ = some a0) (p1 : w.cell? ⟨P, off + 1, none⟩ = some a1) (p2 : w.cell? ⟨P, off + 2, none⟩ = some b0) (p3 : w.cell? ⟨P, off + 3, none⟩ = some b1) (hd : Ints w vd d) :
    Calls Tryz.prog 116 #[.int .i64 5, .int .i64 n, vd, .slice (some ⟨P, off, none⟩) 2 c] w fun e w' => ∃ x0 x1, e = .returned (.tuple #[.agg #[x0, x1], .int .i64 (vE 5 n d s t)]) ∧ OwnT w' w.heap.size x0 x1 (vR 5 n d s t) ∧ Below w.heap.size w w' := by
  obtain ⟨da, dn, dc, rfl⟩ := hd.shape3
  obtain ⟨aa, an, ac, rfl⟩ := ha.1.shape3
  obtain ⟨ba, bn, bc, rfl⟩ := ha.2.shape3
  have hne : ¬ w.heap.size = P := by have := cell_lt p0; omega
  have hne2 : ¬ P = w.heap.size := fun h => hne h.symm
  obtain ⟨ea, en, ec, rfl⟩ := ht.1.shape3
  obtain ⟨fa, fn, fc, rfl⟩ := ht.2.shape3
  obtain ⟨U, hU⟩ : ∃ U, U = w.alloc (.cells #[.slice none 0 0, .slice none 0 0] 156) := ⟨_, rfl⟩
  have hb : Below w.heap.size w U := by rw [hU]; exact (Below.refl _ _).alloc (Nat.le_refl _) _
  have HB : Hid (Below w.heap.size w U) := hb
  have HD : Hid (Ints U (.slice da dn dc) d) := hd.later hb
  have HBX : Hid (Box U w.heap.size (.slice none 0 0) (.slice none 0 0)) := by show Box _ _ _ _; rw [hU]; exact Box.new w _ _
  have hsU : w.heap.size + 1 ≤ U.heap.size := by rw [hU]; simp
  have HA : Hid (Tens U (.slice aa an ac) (.slice ba bn bc) s) := ha.later hb
  replace p0 := cell_at hb p0
  replace p1 := cell_at hb p1
  have HT : Hid (Tens U (.slice ea en ec) (.slice fa fn fc) t) := ht.later hb
  replace p2 := cell_at hb p2
  replace p3 := cell_at hb p3
  obtain ⟨x, hx⟩ : ∃ x, vE 5 n d s t = x := ⟨_, rfl⟩
  obtain ⟨u, hu⟩ : ∃ u, vR 5 n d s t = u := ⟨_, rfl⟩
  rw [hx, hu]
  have HX : Hid (vE 5 n d s t = x) := hx
  have HU : Hid (vR 5 n d s t = u) := hu
  clear hx hu hd hb ha ht
  go_enter Tryz.func116, Tryz.ntmps116
  go_upto_region 1 with fail
  rw [← hU]
  clear hU
  go_wp2_with fail
  go_region_held3 (fun w' => w'.cell? ⟨P, off, none⟩ = some (.slice aa an ac) ∧ w'.cell? ⟨P, off + 1, none⟩ = some (.slice ba bn bc) ∧ w'.cell? ⟨P, off + 2, none⟩ = some (.slice ea en ec) ∧ w'.cell? ⟨P, off + 3, none⟩ = some (.slice fa fn fc)) (go_keep) (first | (go_at_call 130; refine (sub_to x u ?_ ?_ HX.out HU.out).mono ?_; exact HA.out.later (Below.refl _ _).drew; exact HT.out.later (Below.refl _ _).drew; rintro r w2 ⟨x0, x1, rfl, ho, hb2⟩; have HBU : Hid (Below U.heap.size U w2) := Below.after (Below.refl _ _).drew hb2; obtain ⟨xa, xn, xc, rfl⟩ := ho.dims.ints.shape3; obtain ⟨ya, yn, yc, rfl⟩ := ho.data.ints.shape3; have hbx := HBX.out.later HBU.out; have l0 := hbx.c0; have l1 := hbx.c1; have m0 := hbx.f 0; have m1 := hbx.f 1; have HBS : Hid (Box _ _ _ _) := hbx.set (.slice xa xn xc) (.slice ya yn yc); have HO : Hid (OwnT w2 (w.heap.size + 1) (.slice xa xn xc) (.slice ya yn yc) u) := ho.mono hsU; have HBW : Hid (Below w.heap.size w w2) := Below.after HB.out HBU.out; have a_0 := cell_at HBU.out p0; have a_1 := cell_at HBU.out p1; have a_2 := cell_at HBU.out p2; have a_3 := cell_at HBU.out p3; clear hbx ho hb2))
  clear a_0 a_1 a_2 a_3 p0 p1 p2 p3
  go_wp2
  have hr0 := HBS.out.c0
  have hr1 := HBS.out.c1
  refine bodyPost_ret (v := .tuple #[.agg #[.slice xa xn xc, .slice ya yn yc], .int .i64 x]) (by simp [results, Tryz.results116, go_sem, hr0, hr1]) rfl ⟨_, _, rfl, ?_, ?_⟩
  · exact (HO.out.set2 _ _ (by omega)).mono (by omega)
  · exact (HBW.out.setCell (by simp) _).setCell (by simp) _
set_option maxHeartbeats 4000000 in
theorem value_k6 {vd a0 a1 b0 b1 : Value} {d : List Int} {s t : Ten} {w : World} {P off c : Nat} (n : Int) (hc : 2 ≤ c) (ha : Tens w a0 a1 s) (ht : Tens w b0 b1 t) (p0 : w.cell? ⟨P, off, none⟩ = some a0) (p1 : w.cell? ⟨P, off + 1, none⟩ = some a1) (p2 : w.cell? ⟨P, off + 2, none⟩ = some b0) (p3 : w.cell? ⟨P, off + 3, none⟩ = some b1) (hd : Ints w vd d) :
    Calls Tryz.prog 116 #[.int .i64 6, .int .i64 n, vd, .slice (some ⟨P, off, none⟩) 2 c] w fun e w' => ∃ x0 x1, e = .returned (.tuple #[.agg #[x0, x1], .int .i64 (vE 6 n d s t)]) ∧ OwnT w' w.heap.size x0 x1 (vR 6 n d s t) ∧ Below w.heap.size w w' := by
  obtain ⟨da, dn, dc, rfl⟩ := hd.shape3
  obtain ⟨aa, an, ac, rfl⟩ := ha.1.shape3
  obtain ⟨ba, bn, bc, rfl⟩ := ha.2.shape3
  have hne : ¬ w.heap.size = P := by have := cell_lt p0; omega
  have hne2 : ¬ P = w.heap.size := fun h => hne h.symm
  obtain ⟨ea, en, ec, rfl⟩ := ht.1.shape3
  obtain ⟨fa, fn, fc, rfl⟩ := ht.2.shape3
  obtain ⟨U, hU⟩ : ∃ U, U = w.alloc (.cells #[.slice none 0 0, .slice none 0 0] 156) := ⟨_, rfl⟩
  have hb : Below w.heap.size w U := by rw [hU]; exact (Below.refl _ _).alloc (Nat.le_refl _) _
  have HB : Hid (Below w.heap.size w U) := hb
  have HD : Hid (Ints U (.slice da dn dc) d) := hd.later hb
  have HBX : Hid (Box U w.heap.size (.slice none 0 0) (.slice none 0 0)) := by show Box _ _ _ _; rw [hU]; exact Box.new w _ _
  have hsU : w.heap.size + 1 ≤ U.heap.size := by rw [hU]; simp
  have HA : Hid (Tens U (.slice aa an ac) (.slice ba bn bc) s) := ha.later hb
  replace p0 := cell_at hb p0
  replace p1 := cell_at hb p1
  have HT : Hid (Tens U (.slice ea en ec) (.slice fa fn fc) t) := ht.later hb
  replace p2 := cell_at hb p2
  replace p3 := cell_at hb p3
  obtain ⟨x, hx⟩ : ∃ x, vE 6 n d s t = x := ⟨_, rfl⟩
  obtain ⟨u, hu⟩ : ∃ u, vR 6 n d s t = u := ⟨_, rfl⟩
  rw [hx, hu]
  have HX : Hid (vE 6 n d s t = x) := hx
  have HU : Hid (vR 6 n d s t = u) := hu
  clear hx hu hd hb ha ht
  go_enter Tryz.func116, Tryz.ntmps116
  go_upto_region 1 with fail
  rw [← hU]
  clear hU
  go_wp2_with fail
  go_region_held3 (fun w' => w'.cell? ⟨P, off, none⟩ = some (.slice aa an ac) ∧ w'.cell? ⟨P, off + 1, none⟩ = some (.slice ba bn bc) ∧ w'.cell? ⟨P, off + 2, none⟩ = some (.slice ea en ec) ∧ w'.cell? ⟨P, off + 3, none⟩ = some (.slice fa fn fc)) (go_keep) (first | (go_at_call 131; refine (mul_to x ?_ ?_ HX.out).mono ?_; exact HA.out.later (Below.refl _ _).drew; exact HT.out.later (Below.refl _ _).drew; rintro r w2 ⟨x0, x1, rfl, ho, hb2⟩; have hu2 : eachR opM s t = u := HU.out; rw [hu2] at ho; have HBU : Hid (Below U.heap.size U w2) := Below.after (Below.refl _ _).drew hb2; obtain ⟨xa, xn, xc, rfl⟩ := ho.dims.ints.shape3; obtain ⟨ya, yn, yc, rfl⟩ := ho.data.ints.shape3; have hbx := HBX.out.later HBU.out; have l0 := hbx.c0; have l1 := hbx.c1; have m0 := hbx.f 0; have m1 := hbx.f 1; have HBS : Hid (Box _ _ _ _) := hbx.set (.slice xa xn xc) (.slice ya yn yc); have HO : Hid (OwnT w2 (w.heap.size + 1) (.slice xa xn xc) (.slice ya yn yc) u) := ho.mono hsU; have HBW : Hid (Below w.heap.size w w2) := Below.after HB.out HBU.out; have a_0 := cell_at HBU.out p0; have a_1 := cell_at HBU.out p1; have a_2 := cell_at HBU.out p2; have a_3 := cell_at HBU.out p3; clear hbx ho hb2))
  clear a_0 a_1 a_2 a_3 p0 p1 p2 p3
  go_wp2
  have hr0 := HBS.out.c0
  have hr1 := HBS.out.c1
  refine bodyPost_ret (v := .tuple #[.agg #[.slice xa xn xc, .slice ya yn yc], .int .i64 x]) (by simp [results, Tryz.results116, go_sem, hr0, hr1]) rfl ⟨_, _, rfl, ?_, ?_⟩
  · exact (HO.out.set2 _ _ (by omega)).mono (by omega)
  · exact (HBW.out.setCell (by simp) _).setCell (by simp) _
set_option maxHeartbeats 4000000 in
theorem value_k7 {vd a0 a1 : Value} {d : List Int} {s : Ten} {w : World} {P off c : Nat} (n : Int) (hc : 1 ≤ c) (ha : Tens w a0 a1 s) (p0 : w.cell? ⟨P, off, none⟩ = some a0) (p1 : w.cell? ⟨P, off + 1, none⟩ = some a1) (hd : Ints w vd d) :
    Calls Tryz.prog 116 #[.int .i64 7, .int .i64 n, vd, .slice (some ⟨P, off, none⟩) 1 c] w fun e w' => ∃ x0 x1, e = .returned (.tuple #[.agg #[x0, x1], .int .i64 (vE 7 n d s no)]) ∧ OwnT w' w.heap.size x0 x1 (vR 7 n d s no) ∧ Below w.heap.size w w' := by
  obtain ⟨da, dn, dc, rfl⟩ := hd.shape3
  obtain ⟨aa, an, ac, rfl⟩ := ha.1.shape3
  obtain ⟨ba, bn, bc, rfl⟩ := ha.2.shape3
  have hne : ¬ w.heap.size = P := by have := cell_lt p0; omega
  have hne2 : ¬ P = w.heap.size := fun h => hne h.symm
  obtain ⟨U, hU⟩ : ∃ U, U = w.alloc (.cells #[.slice none 0 0, .slice none 0 0] 156) := ⟨_, rfl⟩
  have hb : Below w.heap.size w U := by rw [hU]; exact (Below.refl _ _).alloc (Nat.le_refl _) _
  have HB : Hid (Below w.heap.size w U) := hb
  have HD : Hid (Ints U (.slice da dn dc) d) := hd.later hb
  have HBX : Hid (Box U w.heap.size (.slice none 0 0) (.slice none 0 0)) := by show Box _ _ _ _; rw [hU]; exact Box.new w _ _
  have hsU : w.heap.size + 1 ≤ U.heap.size := by rw [hU]; simp
  have HA : Hid (Tens U (.slice aa an ac) (.slice ba bn bc) s) := ha.later hb
  replace p0 := cell_at hb p0
  replace p1 := cell_at hb p1
  obtain ⟨x, hx⟩ : ∃ x, vE 7 n d s no = x := ⟨_, rfl⟩
  obtain ⟨u, hu⟩ : ∃ u, vR 7 n d s no = u := ⟨_, rfl⟩
  rw [hx, hu]
  have HX : Hid (vE 7 n d s no = x) := hx
  have HU : Hid (vR 7 n d s no = u) := hu
  clear hx hu hd hb ha
  go_enter Tryz.func116, Tryz.ntmps116
  go_upto_region 1 with fail
  rw [← hU]
  clear hU
  go_wp2_with fail
  refine (neg_to x u HA.out HX.out HU.out).mono ?_
  rintro e w2 ⟨x0, x1, rfl, ho, hb2⟩
  have HBU : Hid (Below U.heap.size U w2) := hb2
  obtain ⟨xa, xn, xc, rfl⟩ := ho.dims.ints.shape3
  obtain ⟨ya, yn, yc, rfl⟩ := ho.data.ints.shape3
  have hbx := HBX.out.later HBU.out
  have l0 := hbx.c0
  have l1 := hbx.c1
  have m0 := hbx.f 0
  have m1 := hbx.f 1
  have HBS : Hid (Box _ _ _ _) := hbx.set (.slice xa xn xc) (.slice ya yn yc)
  have HO : Hid (OwnT w2 (w.heap.size + 1) (.slice xa xn xc) (.slice ya yn yc) u) := ho.mono hsU
  have HBW : Hid (Below w.heap.size w w2) := Below.after HB.out HBU.out
  clear hbx ho hb2
  go_wp2
  have hr0 := HBS.out.c0
  have hr1 := HBS.out.c1
  refine bodyPost_ret (v := .tuple #[.agg #[.slice xa xn xc, .slice ya yn yc], .int .i64 x]) (by simp [results, Tryz.results116, go_sem, hr0, hr1]) rfl ⟨_, _, rfl, ?_, ?_⟩
  · exact (HO.out.set2 _ _ (by omega)).mono (by omega)
  · exact (HBW.out.setCell (by simp) _).setCell (by simp) _
end Go.Proofs.YtkojdigaoihkpaaGreatDoor

end
section
namespace Go.Proofs.YtkojdigaoihkpaaGreatDoor
set_option linter.unusedVariables false
set_option linter.unusedSimpArgs false
set_option maxRecDepth 100000
open Go.RowKit

set_option maxHeartbeats 4000000 in
theorem value_k8 {vd a0 a1 : Value} {d : List Int} {s : Ten} {w : World} {P off c : Nat} (n : Int) (hc : 1 ≤ c) (ha : Tens w a0 a1 s) (p0 : w.cell? ⟨P, off, none⟩ = some a0) (p1 : w.cell? ⟨P, off + 1, none⟩ = some a1) (hd : Ints w vd d) :
    Calls Tryz.prog 116 #[.int .i64 8, .int .i64 n, vd, .slice (some ⟨P, off, none⟩) 1 c] w fun e w' => ∃ x0 x1, e = .returned (.tuple #[.agg #[x0, x1], .int .i64 (vE 8 n d s no)]) ∧ OwnT w' w.heap.size x0 x1 (vR 8 n d s no) ∧ Below w.heap.size w w' := by
  obtain ⟨da, dn, dc, rfl⟩ := hd.shape3
  obtain ⟨aa, an, ac, rfl⟩ := ha.1.shape3
  obtain ⟨ba, bn, bc, rfl⟩ := ha.2.shape3
  have hne : ¬ w.heap.size = P := by have := cell_lt p0; omega
  have hne2 : ¬ P = w.heap.size := fun h => hne h.symm
  obtain ⟨U, hU⟩ : ∃ U, U = w.alloc (.cells #[.slice none 0 0, .slice none 0 0] 156) := ⟨_, rfl⟩
  have hb : Below w.heap.size w U := by rw [hU]; exact (Below.refl _ _).alloc (Nat.le_refl _) _
  have HB : Hid (Below w.heap.size w U) := hb
  have HD : Hid (Ints U (.slice da dn dc) d) := hd.later hb
  have HBX : Hid (Box U w.heap.size (.slice none 0 0) (.slice none 0 0)) := by show Box _ _ _ _; rw [hU]; exact Box.new w _ _
  have hsU : w.heap.size + 1 ≤ U.heap.size := by rw [hU]; simp
  have HA : Hid (Tens U (.slice aa an ac) (.slice ba bn bc) s) := ha.later hb
  replace p0 := cell_at hb p0
  replace p1 := cell_at hb p1
  obtain ⟨x, hx⟩ : ∃ x, vE 8 n d s no = x := ⟨_, rfl⟩
  obtain ⟨u, hu⟩ : ∃ u, vR 8 n d s no = u := ⟨_, rfl⟩
  rw [hx, hu]
  have HX : Hid (vE 8 n d s no = x) := hx
  have HU : Hid (vR 8 n d s no = u) := hu
  clear hx hu hd hb ha
  go_enter Tryz.func116, Tryz.ntmps116
  go_upto_region 1 with fail
  rw [← hU]
  clear hU
  go_wp2_with fail
  refine (scale_to n x HA.out HX.out).mono ?_
  rintro e w2 ⟨x0, x1, rfl, ho, hb2⟩
  have hu2 : sclR n s = u := HU.out
  rw [hu2] at ho
  have HBU : Hid (Below U.heap.size U w2) := hb2
  obtain ⟨xa, xn, xc, rfl⟩ := ho.dims.ints.shape3
  obtain ⟨ya, yn, yc, rfl⟩ := ho.data.ints.shape3
  have hbx := HBX.out.later HBU.out
  have l0 := hbx.c0
  have l1 := hbx.c1
  have m0 := hbx.f 0
  have m1 := hbx.f 1
  have HBS : Hid (Box _ _ _ _) := hbx.set (.slice xa xn xc) (.slice ya yn yc)
  have HO : Hid (OwnT w2 (w.heap.size + 1) (.slice xa xn xc) (.slice ya yn yc) u) := ho.mono hsU
  have HBW : Hid (Below w.heap.size w w2) := Below.after HB.out HBU.out
  clear hbx ho hb2
  go_wp2
  have hr0 := HBS.out.c0
  have hr1 := HBS.out.c1
  refine bodyPost_ret (v := .tuple #[.agg #[.slice xa xn xc, .slice ya yn yc], .int .i64 x]) (by simp [results, Tryz.results116, go_sem, hr0, hr1]) rfl ⟨_, _, rfl, ?_, ?_⟩
  · exact (HO.out.set2 _ _ (by omega)).mono (by omega)
  · exact (HBW.out.setCell (by simp) _).setCell (by simp) _
set_option maxHeartbeats 4000000 in
theorem value_k9 {vd a0 a1 b0 b1 : Value} {d : List Int} {s t : Ten} {w : World} {P off c : Nat} (n : Int) (hc : 2 ≤ c) (ha : Tens w a0 a1 s) (ht : Tens w b0 b1 t) (p0 : w.cell? ⟨P, off, none⟩ = some a0) (p1 : w.cell? ⟨P, off + 1, none⟩ = some a1) (p2 : w.cell? ⟨P, off + 2, none⟩ = some b0) (p3 : w.cell? ⟨P, off + 3, none⟩ = some b1) (hd : Ints w vd d) :
    Calls Tryz.prog 116 #[.int .i64 9, .int .i64 n, vd, .slice (some ⟨P, off, none⟩) 2 c] w fun e w' => ∃ x0 x1, e = .returned (.tuple #[.agg #[x0, x1], .int .i64 (vE 9 n d s t)]) ∧ OwnT w' w.heap.size x0 x1 (vR 9 n d s t) ∧ Below w.heap.size w w' := by
  obtain ⟨da, dn, dc, rfl⟩ := hd.shape3
  obtain ⟨aa, an, ac, rfl⟩ := ha.1.shape3
  obtain ⟨ba, bn, bc, rfl⟩ := ha.2.shape3
  have hne : ¬ w.heap.size = P := by have := cell_lt p0; omega
  have hne2 : ¬ P = w.heap.size := fun h => hne h.symm
  obtain ⟨ea, en, ec, rfl⟩ := ht.1.shape3
  obtain ⟨fa, fn, fc, rfl⟩ := ht.2.shape3
  obtain ⟨U, hU⟩ : ∃ U, U = w.alloc (.cells #[.slice none 0 0, .slice none 0 0] 156) := ⟨_, rfl⟩
  have hb : Below w.heap.size w U := by rw [hU]; exact (Below.refl _ _).alloc (Nat.le_refl _) _
  have HB : Hid (Below w.heap.size w U) := hb
  have HD : Hid (Ints U (.slice da dn dc) d) := hd.later hb
  have HBX : Hid (Box U w.heap.size (.slice none 0 0) (.slice none 0 0)) := by show Box _ _ _ _; rw [hU]; exact Box.new w _ _
  have hsU : w.heap.size + 1 ≤ U.heap.size := by rw [hU]; simp
  have HA : Hid (Tens U (.slice aa an ac) (.slice ba bn bc) s) := ha.later hb
  replace p0 := cell_at hb p0
  replace p1 := cell_at hb p1
  have HT : Hid (Tens U (.slice ea en ec) (.slice fa fn fc) t) := ht.later hb
  replace p2 := cell_at hb p2
  replace p3 := cell_at hb p3
  obtain ⟨x, hx⟩ : ∃ x, vE 9 n d s t = x := ⟨_, rfl⟩
  obtain ⟨u, hu⟩ : ∃ u, vR 9 n d s t = u := ⟨_, rfl⟩
  rw [hx, hu]
  have HX : Hid (vE 9 n d s t = x) := hx
  have HU : Hid (vR 9 n d s t = u) := hu
  clear hx hu hd hb ha ht
  go_enter Tryz.func116, Tryz.ntmps116
  go_upto_region 1 with fail
  rw [← hU]
  clear hU
  go_wp2_with fail
  go_region_held3 (fun w' => w'.cell? ⟨P, off, none⟩ = some (.slice aa an ac) ∧ w'.cell? ⟨P, off + 1, none⟩ = some (.slice ba bn bc) ∧ w'.cell? ⟨P, off + 2, none⟩ = some (.slice ea en ec) ∧ w'.cell? ⟨P, off + 3, none⟩ = some (.slice fa fn fc)) (go_keep) (first | (go_at_call 134; refine (mul_to_1 x u ?_ ?_ HX.out HU.out).mono ?_; exact HA.out.later (Below.refl _ _).drew; exact HT.out.later (Below.refl _ _).drew; rintro r w2 ⟨x0, x1, rfl, ho, hb2⟩; have HBU : Hid (Below U.heap.size U w2) := Below.after (Below.refl _ _).drew hb2; obtain ⟨xa, xn, xc, rfl⟩ := ho.dims.ints.shape3; obtain ⟨ya, yn, yc, rfl⟩ := ho.data.ints.shape3; have hbx := HBX.out.later HBU.out; have l0 := hbx.c0; have l1 := hbx.c1; have m0 := hbx.f 0; have m1 := hbx.f 1; have HBS : Hid (Box _ _ _ _) := hbx.set (.slice xa xn xc) (.slice ya yn yc); have HO : Hid (OwnT w2 (w.heap.size + 1) (.slice xa xn xc) (.slice ya yn yc) u) := ho.mono hsU; have HBW : Hid (Below w.heap.size w w2) := Below.after HB.out HBU.out; have a_0 := cell_at HBU.out p0; have a_1 := cell_at HBU.out p1; have a_2 := cell_at HBU.out p2; have a_3 := cell_at HBU.out p3; clear hbx ho hb2))
  clear a_0 a_1 a_2 a_3 p0 p1 p2 p3
  go_wp2
  have hr0 := HBS.out.c0
  have hr1 := HBS.out.c1
  refine bodyPost_ret (v := .tuple #[.agg #[.slice xa xn xc, .slice ya yn yc], .int .i64 x]) (by simp [results, Tryz.results116, go_sem, hr0, hr1]) rfl ⟨_, _, rfl, ?_, ?_⟩
  · exact (HO.out.set2 _ _ (by omega)).mono (by omega)
  · exact (HBW.out.setCell (by simp) _).setCell (by simp) _
set_option maxHeartbeats 4000000 in
theorem value_k10 {vd a0 a1 : Value} {d : List Int} {s : Ten} {w : World} {P off c : Nat} (n : Int) (hc : 1 ≤ c) (ha : Tens w a0 a1 s) (p0 : w.cell? ⟨P, off, none⟩ = some a0) (p1 : w.cell? ⟨P, off + 1, none⟩ = some a1) (hd : Ints w vd d) :
    Calls Tryz.prog 116 #[.int .i64 10, .int .i64 n, vd, .slice (some ⟨P, off, none⟩) 1 c] w fun e w' => ∃ x0 x1, e = .returned (.tuple #[.agg #[x0, x1], .int .i64 (vE 10 n d s no)]) ∧ OwnT w' w.heap.size x0 x1 (vR 10 n d s no) ∧ Below w.heap.size w w' := by
  obtain ⟨da, dn, dc, rfl⟩ := hd.shape3
  obtain ⟨aa, an, ac, rfl⟩ := ha.1.shape3
  obtain ⟨ba, bn, bc, rfl⟩ := ha.2.shape3
  have hne : ¬ w.heap.size = P := by have := cell_lt p0; omega
  have hne2 : ¬ P = w.heap.size := fun h => hne h.symm
  obtain ⟨U, hU⟩ : ∃ U, U = w.alloc (.cells #[.slice none 0 0, .slice none 0 0] 156) := ⟨_, rfl⟩
  have hb : Below w.heap.size w U := by rw [hU]; exact (Below.refl _ _).alloc (Nat.le_refl _) _
  have HB : Hid (Below w.heap.size w U) := hb
  have HD : Hid (Ints U (.slice da dn dc) d) := hd.later hb
  have HBX : Hid (Box U w.heap.size (.slice none 0 0) (.slice none 0 0)) := by show Box _ _ _ _; rw [hU]; exact Box.new w _ _
  have hsU : w.heap.size + 1 ≤ U.heap.size := by rw [hU]; simp
  have HA : Hid (Tens U (.slice aa an ac) (.slice ba bn bc) s) := ha.later hb
  replace p0 := cell_at hb p0
  replace p1 := cell_at hb p1
  obtain ⟨x, hx⟩ : ∃ x, vE 10 n d s no = x := ⟨_, rfl⟩
  obtain ⟨u, hu⟩ : ∃ u, vR 10 n d s no = u := ⟨_, rfl⟩
  rw [hx, hu]
  have HX : Hid (vE 10 n d s no = x) := hx
  have HU : Hid (vR 10 n d s no = u) := hu
  clear hx hu hd hb ha
  go_enter Tryz.func116, Tryz.ntmps116
  go_upto_region 1 with fail
  rw [← hU]
  clear hU
  go_wp2_with fail
  refine (turn_to x u HA.out HX.out HU.out).mono ?_
  rintro e w2 ⟨x0, x1, rfl, ho, hb2⟩
  have HBU : Hid (Below U.heap.size U w2) := hb2
  obtain ⟨xa, xn, xc, rfl⟩ := ho.dims.ints.shape3
  obtain ⟨ya, yn, yc, rfl⟩ := ho.data.ints.shape3
  have hbx := HBX.out.later HBU.out
  have l0 := hbx.c0
  have l1 := hbx.c1
  have m0 := hbx.f 0
  have m1 := hbx.f 1
  have HBS : Hid (Box _ _ _ _) := hbx.set (.slice xa xn xc) (.slice ya yn yc)
  have HO : Hid (OwnT w2 (w.heap.size + 1) (.slice xa xn xc) (.slice ya yn yc) u) := ho.mono hsU
  have HBW : Hid (Below w.heap.size w w2) := Below.after HB.out HBU.out
  clear hbx ho hb2
  go_wp2
  have hr0 := HBS.out.c0
  have hr1 := HBS.out.c1
  refine bodyPost_ret (v := .tuple #[.agg #[.slice xa xn xc, .slice ya yn yc], .int .i64 x]) (by simp [results, Tryz.results116, go_sem, hr0, hr1]) rfl ⟨_, _, rfl, ?_, ?_⟩
  · exact (HO.out.set2 _ _ (by omega)).mono (by omega)
  · exact (HBW.out.setCell (by simp) _).setCell (by simp) _
set_option maxHeartbeats 4000000 in
theorem value_k11 {vd a0 a1 : Value} {d : List Int} {s : Ten} {w : World} {P off c : Nat} (n : Int) (hc : 1 ≤ c) (ha : Tens w a0 a1 s) (p0 : w.cell? ⟨P, off, none⟩ = some a0) (p1 : w.cell? ⟨P, off + 1, none⟩ = some a1) (hd : Ints w vd d) :
    Calls Tryz.prog 116 #[.int .i64 11, .int .i64 n, vd, .slice (some ⟨P, off, none⟩) 1 c] w fun e w' => ∃ x0 x1, e = .returned (.tuple #[.agg #[x0, x1], .int .i64 (vE 11 n d s no)]) ∧ OwnT w' w.heap.size x0 x1 (vR 11 n d s no) ∧ Below w.heap.size w w' := by
  obtain ⟨da, dn, dc, rfl⟩ := hd.shape3
  obtain ⟨aa, an, ac, rfl⟩ := ha.1.shape3
  obtain ⟨ba, bn, bc, rfl⟩ := ha.2.shape3
  have hne : ¬ w.heap.size = P := by have := cell_lt p0; omega
  have hne2 : ¬ P = w.heap.size := fun h => hne h.symm
  obtain ⟨U, hU⟩ : ∃ U, U = w.alloc (.cells #[.slice none 0 0, .slice none 0 0] 156) := ⟨_, rfl⟩
  have hb : Below w.heap.size w U := by rw [hU]; exact (Below.refl _ _).alloc (Nat.le_refl _) _
  have HB : Hid (Below w.heap.size w U) := hb
  have HD : Hid (Ints U (.slice da dn dc) d) := hd.later hb
  have HBX : Hid (Box U w.heap.size (.slice none 0 0) (.slice none 0 0)) := by show Box _ _ _ _; rw [hU]; exact Box.new w _ _
  have hsU : w.heap.size + 1 ≤ U.heap.size := by rw [hU]; simp
  have HA : Hid (Tens U (.slice aa an ac) (.slice ba bn bc) s) := ha.later hb
  replace p0 := cell_at hb p0
  replace p1 := cell_at hb p1
  obtain ⟨x, hx⟩ : ∃ x, vE 11 n d s no = x := ⟨_, rfl⟩
  obtain ⟨u, hu⟩ : ∃ u, vR 11 n d s no = u := ⟨_, rfl⟩
  rw [hx, hu]
  have HX : Hid (vE 11 n d s no = x) := hx
  have HU : Hid (vR 11 n d s no = u) := hu
  clear hx hu hd hb ha
  go_enter Tryz.func116, Tryz.ntmps116
  go_upto_region 1 with fail
  rw [← hU]
  clear hU
  go_wp2_with fail
  refine (shape_to x u HA.out HD.out HX.out HU.out).mono ?_
  rintro e w2 ⟨x0, x1, rfl, ho, hb2⟩
  have HBU : Hid (Below U.heap.size U w2) := hb2
  obtain ⟨xa, xn, xc, rfl⟩ := ho.dims.ints.shape3
  obtain ⟨ya, yn, yc, rfl⟩ := ho.data.ints.shape3
  have hbx := HBX.out.later HBU.out
  have l0 := hbx.c0
  have l1 := hbx.c1
  have m0 := hbx.f 0
  have m1 := hbx.f 1
  have HBS : Hid (Box _ _ _ _) := hbx.set (.slice xa xn xc) (.slice ya yn yc)
  have HO : Hid (OwnT w2 (w.heap.size + 1) (.slice xa xn xc) (.slice ya yn yc) u) := ho.mono hsU
  have HBW : Hid (Below w.heap.size w w2) := Below.after HB.out HBU.out
  clear hbx ho hb2
  go_wp2
  have hr0 := HBS.out.c0
  have hr1 := HBS.out.c1
  refine bodyPost_ret (v := .tuple #[.agg #[.slice xa xn xc, .slice ya yn yc], .int .i64 x]) (by simp [results, Tryz.results116, go_sem, hr0, hr1]) rfl ⟨_, _, rfl, ?_, ?_⟩
  · exact (HO.out.set2 _ _ (by omega)).mono (by omega)
  · exact (HBW.out.setCell (by simp) _).setCell (by simp) _
set_option maxHeartbeats 4000000 in
theorem value_k12 {vd a0 a1 : Value} {d : List Int} {s : Ten} {w : World} {P off c : Nat} (n : Int) (hc : 1 ≤ c) (ha : Tens w a0 a1 s) (p0 : w.cell? ⟨P, off, none⟩ = some a0) (p1 : w.cell? ⟨P, off + 1, none⟩ = some a1) (hd : Ints w vd d) :
    Calls Tryz.prog 116 #[.int .i64 12, .int .i64 n, vd, .slice (some ⟨P, off, none⟩) 1 c] w fun e w' => ∃ x0 x1, e = .returned (.tuple #[.agg #[x0, x1], .int .i64 (vE 12 n d s no)]) ∧ OwnT w' w.heap.size x0 x1 (vR 12 n d s no) ∧ Below w.heap.size w w' := by
  obtain ⟨da, dn, dc, rfl⟩ := hd.shape3
  obtain ⟨aa, an, ac, rfl⟩ := ha.1.shape3
  obtain ⟨ba, bn, bc, rfl⟩ := ha.2.shape3
  have hne : ¬ w.heap.size = P := by have := cell_lt p0; omega
  have hne2 : ¬ P = w.heap.size := fun h => hne h.symm
  obtain ⟨U, hU⟩ : ∃ U, U = w.alloc (.cells #[.slice none 0 0, .slice none 0 0] 156) := ⟨_, rfl⟩
  have hb : Below w.heap.size w U := by rw [hU]; exact (Below.refl _ _).alloc (Nat.le_refl _) _
  have HB : Hid (Below w.heap.size w U) := hb
  have HD : Hid (Ints U (.slice da dn dc) d) := hd.later hb
  have HBX : Hid (Box U w.heap.size (.slice none 0 0) (.slice none 0 0)) := by show Box _ _ _ _; rw [hU]; exact Box.new w _ _
  have hsU : w.heap.size + 1 ≤ U.heap.size := by rw [hU]; simp
  have HA : Hid (Tens U (.slice aa an ac) (.slice ba bn bc) s) := ha.later hb
  replace p0 := cell_at hb p0
  replace p1 := cell_at hb p1
  obtain ⟨x, hx⟩ : ∃ x, vE 12 n d s no = x := ⟨_, rfl⟩
  obtain ⟨u, hu⟩ : ∃ u, vR 12 n d s no = u := ⟨_, rfl⟩
  rw [hx, hu]
  have HX : Hid (vE 12 n d s no = x) := hx
  have HU : Hid (vR 12 n d s no = u) := hu
  clear hx hu hd hb ha
  go_enter Tryz.func116, Tryz.ntmps116
  go_upto_region 1 with fail
  rw [← hU]
  clear hU
  go_wp2_with fail
  refine (wide_to x u HA.out HD.out HX.out HU.out).mono ?_
  rintro e w2 ⟨x0, x1, rfl, ho, hb2⟩
  have HBU : Hid (Below U.heap.size U w2) := hb2
  obtain ⟨xa, xn, xc, rfl⟩ := ho.dims.ints.shape3
  obtain ⟨ya, yn, yc, rfl⟩ := ho.data.ints.shape3
  have hbx := HBX.out.later HBU.out
  have l0 := hbx.c0
  have l1 := hbx.c1
  have m0 := hbx.f 0
  have m1 := hbx.f 1
  have HBS : Hid (Box _ _ _ _) := hbx.set (.slice xa xn xc) (.slice ya yn yc)
  have HO : Hid (OwnT w2 (w.heap.size + 1) (.slice xa xn xc) (.slice ya yn yc) u) := ho.mono hsU
  have HBW : Hid (Below w.heap.size w w2) := Below.after HB.out HBU.out
  clear hbx ho hb2
  go_wp2
  have hr0 := HBS.out.c0
  have hr1 := HBS.out.c1
  refine bodyPost_ret (v := .tuple #[.agg #[.slice xa xn xc, .slice ya yn yc], .int .i64 x]) (by simp [results, Tryz.results116, go_sem, hr0, hr1]) rfl ⟨_, _, rfl, ?_, ?_⟩
  · exact (HO.out.set2 _ _ (by omega)).mono (by omega)
  · exact (HBW.out.setCell (by simp) _).setCell (by simp) _
set_option maxHeartbeats 4000000 in
theorem value_k13 {vd a0 a1 : Value} {d : List Int} {s : Ten} {w : World} {P off c : Nat} (n : Int) (hc : 1 ≤ c) (ha : Tens w a0 a1 s) (p0 : w.cell? ⟨P, off, none⟩ = some a0) (p1 : w.cell? ⟨P, off + 1, none⟩ = some a1) (hd : Ints w vd d) :
    Calls Tryz.prog 116 #[.int .i64 13, .int .i64 n, vd, .slice (some ⟨P, off, none⟩) 1 c] w fun e w' => ∃ x0 x1, e = .returned (.tuple #[.agg #[x0, x1], .int .i64 (vE 13 n d s no)]) ∧ OwnT w' w.heap.size x0 x1 (vR 13 n d s no) ∧ Below w.heap.size w w' := by
  obtain ⟨da, dn, dc, rfl⟩ := hd.shape3
  obtain ⟨aa, an, ac, rfl⟩ := ha.1.shape3
  obtain ⟨ba, bn, bc, rfl⟩ := ha.2.shape3
  have hne : ¬ w.heap.size = P := by have := cell_lt p0; omega
  have hne2 : ¬ P = w.heap.size := fun h => hne h.symm
  obtain ⟨U, hU⟩ : ∃ U, U = w.alloc (.cells #[.slice none 0 0, .slice none 0 0] 156) := ⟨_, rfl⟩
  have hb : Below w.heap.size w U := by rw [hU]; exact (Below.refl _ _).alloc (Nat.le_refl _) _
  have HB : Hid (Below w.heap.size w U) := hb
  have HD : Hid (Ints U (.slice da dn dc) d) := hd.later hb
  have HBX : Hid (Box U w.heap.size (.slice none 0 0) (.slice none 0 0)) := by show Box _ _ _ _; rw [hU]; exact Box.new w _ _
  have hsU : w.heap.size + 1 ≤ U.heap.size := by rw [hU]; simp
  have HA : Hid (Tens U (.slice aa an ac) (.slice ba bn bc) s) := ha.later hb
  replace p0 := cell_at hb p0
  replace p1 := cell_at hb p1
  obtain ⟨x, hx⟩ : ∃ x, vE 13 n d s no = x := ⟨_, rfl⟩
  obtain ⟨u, hu⟩ : ∃ u, vR 13 n d s no = u := ⟨_, rfl⟩
  rw [hx, hu]
  have HX : Hid (vE 13 n d s no = x) := hx
  have HU : Hid (vR 13 n d s no = u) := hu
  clear hx hu hd hb ha
  go_enter Tryz.func116, Tryz.ntmps116
  go_upto_region 1 with fail
  rw [← hU]
  clear hU
  go_wp2_with fail
  refine (sumd_to x u HA.out HD.out HX.out HU.out).mono ?_
  rintro e w2 ⟨x0, x1, rfl, ho, hb2⟩
  have HBU : Hid (Below U.heap.size U w2) := hb2
  obtain ⟨xa, xn, xc, rfl⟩ := ho.dims.ints.shape3
  obtain ⟨ya, yn, yc, rfl⟩ := ho.data.ints.shape3
  have hbx := HBX.out.later HBU.out
  have l0 := hbx.c0
  have l1 := hbx.c1
  have m0 := hbx.f 0
  have m1 := hbx.f 1
  have HBS : Hid (Box _ _ _ _) := hbx.set (.slice xa xn xc) (.slice ya yn yc)
  have HO : Hid (OwnT w2 (w.heap.size + 1) (.slice xa xn xc) (.slice ya yn yc) u) := ho.mono hsU
  have HBW : Hid (Below w.heap.size w w2) := Below.after HB.out HBU.out
  clear hbx ho hb2
  go_wp2
  have hr0 := HBS.out.c0
  have hr1 := HBS.out.c1
  refine bodyPost_ret (v := .tuple #[.agg #[.slice xa xn xc, .slice ya yn yc], .int .i64 x]) (by simp [results, Tryz.results116, go_sem, hr0, hr1]) rfl ⟨_, _, rfl, ?_, ?_⟩
  · exact (HO.out.set2 _ _ (by omega)).mono (by omega)
  · exact (HBW.out.setCell (by simp) _).setCell (by simp) _
set_option maxHeartbeats 4000000 in
theorem value_k14 {vd a0 a1 : Value} {d : List Int} {s : Ten} {w : World} {P off c : Nat} (n : Int) (hc : 1 ≤ c) (ha : Tens w a0 a1 s) (p0 : w.cell? ⟨P, off, none⟩ = some a0) (p1 : w.cell? ⟨P, off + 1, none⟩ = some a1) (hd : Ints w vd d) :
    Calls Tryz.prog 116 #[.int .i64 14, .int .i64 n, vd, .slice (some ⟨P, off, none⟩) 1 c] w fun e w' => ∃ x0 x1, e = .returned (.tuple #[.agg #[x0, x1], .int .i64 (vE 14 n d s no)]) ∧ OwnT w' w.heap.size x0 x1 (vR 14 n d s no) ∧ Below w.heap.size w w' := by
  obtain ⟨da, dn, dc, rfl⟩ := hd.shape3
  obtain ⟨aa, an, ac, rfl⟩ := ha.1.shape3
  obtain ⟨ba, bn, bc, rfl⟩ := ha.2.shape3
  have hne : ¬ w.heap.size = P := by have := cell_lt p0; omega
  have hne2 : ¬ P = w.heap.size := fun h => hne h.symm
  obtain ⟨U, hU⟩ : ∃ U, U = w.alloc (.cells #[.slice none 0 0, .slice none 0 0] 156) := ⟨_, rfl⟩
  have hb : Below w.heap.size w U := by rw [hU]; exact (Below.refl _ _).alloc (Nat.le_refl _) _
  have HB : Hid (Below w.heap.size w U) := hb
  have HD : Hid (Ints U (.slice da dn dc) d) := hd.later hb
  have HBX : Hid (Box U w.heap.size (.slice none 0 0) (.slice none 0 0)) := by show Box _ _ _ _; rw [hU]; exact Box.new w _ _
  have hsU : w.heap.size + 1 ≤ U.heap.size := by rw [hU]; simp
  have HA : Hid (Tens U (.slice aa an ac) (.slice ba bn bc) s) := ha.later hb
  replace p0 := cell_at hb p0
  replace p1 := cell_at hb p1
  obtain ⟨x, hx⟩ : ∃ x, vE 14 n d s no = x := ⟨_, rfl⟩
  obtain ⟨u, hu⟩ : ∃ u, vR 14 n d s no = u := ⟨_, rfl⟩
  rw [hx, hu]
  have HX : Hid (vE 14 n d s no = x) := hx
  have HU : Hid (vR 14 n d s no = u) := hu
  clear hx hu hd hb ha
  go_enter Tryz.func116, Tryz.ntmps116
  go_upto_region 1 with fail
  rw [← hU]
  clear hU
  go_wp2_with fail
  refine (relu_to x u HA.out HX.out HU.out).mono ?_
  rintro e w2 ⟨x0, x1, rfl, ho, hb2⟩
  have HBU : Hid (Below U.heap.size U w2) := hb2
  obtain ⟨xa, xn, xc, rfl⟩ := ho.dims.ints.shape3
  obtain ⟨ya, yn, yc, rfl⟩ := ho.data.ints.shape3
  have hbx := HBX.out.later HBU.out
  have l0 := hbx.c0
  have l1 := hbx.c1
  have m0 := hbx.f 0
  have m1 := hbx.f 1
  have HBS : Hid (Box _ _ _ _) := hbx.set (.slice xa xn xc) (.slice ya yn yc)
  have HO : Hid (OwnT w2 (w.heap.size + 1) (.slice xa xn xc) (.slice ya yn yc) u) := ho.mono hsU
  have HBW : Hid (Below w.heap.size w w2) := Below.after HB.out HBU.out
  clear hbx ho hb2
  go_wp2
  have hr0 := HBS.out.c0
  have hr1 := HBS.out.c1
  refine bodyPost_ret (v := .tuple #[.agg #[.slice xa xn xc, .slice ya yn yc], .int .i64 x]) (by simp [results, Tryz.results116, go_sem, hr0, hr1]) rfl ⟨_, _, rfl, ?_, ?_⟩
  · exact (HO.out.set2 _ _ (by omega)).mono (by omega)
  · exact (HBW.out.setCell (by simp) _).setCell (by simp) _
set_option maxHeartbeats 4000000 in
theorem value_k15 {vd a0 a1 : Value} {d : List Int} {s : Ten} {w : World} {P off c : Nat} (n : Int) (hc : 1 ≤ c) (ha : Tens w a0 a1 s) (p0 : w.cell? ⟨P, off, none⟩ = some a0) (p1 : w.cell? ⟨P, off + 1, none⟩ = some a1) (hd : Ints w vd d) :
    Calls Tryz.prog 116 #[.int .i64 15, .int .i64 n, vd, .slice (some ⟨P, off, none⟩) 1 c] w fun e w' => ∃ x0 x1, e = .returned (.tuple #[.agg #[x0, x1], .int .i64 (vE 15 n d s no)]) ∧ OwnT w' w.heap.size x0 x1 (vR 15 n d s no) ∧ Below w.heap.size w w' := by
  obtain ⟨da, dn, dc, rfl⟩ := hd.shape3
  obtain ⟨aa, an, ac, rfl⟩ := ha.1.shape3
  obtain ⟨ba, bn, bc, rfl⟩ := ha.2.shape3
  have hne : ¬ w.heap.size = P := by have := cell_lt p0; omega
  have hne2 : ¬ P = w.heap.size := fun h => hne h.symm
  obtain ⟨U, hU⟩ : ∃ U, U = w.alloc (.cells #[.slice none 0 0, .slice none 0 0] 156) := ⟨_, rfl⟩
  have hb : Below w.heap.size w U := by rw [hU]; exact (Below.refl _ _).alloc (Nat.le_refl _) _
  have HB : Hid (Below w.heap.size w U) := hb
  have HD : Hid (Ints U (.slice da dn dc) d) := hd.later hb
  have HBX : Hid (Box U w.heap.size (.slice none 0 0) (.slice none 0 0)) := by show Box _ _ _ _; rw [hU]; exact Box.new w _ _
  have hsU : w.heap.size + 1 ≤ U.heap.size := by rw [hU]; simp
  have HA : Hid (Tens U (.slice aa an ac) (.slice ba bn bc) s) := ha.later hb
  replace p0 := cell_at hb p0
  replace p1 := cell_at hb p1
  obtain ⟨x, hx⟩ : ∃ x, vE 15 n d s no = x := ⟨_, rfl⟩
  obtain ⟨u, hu⟩ : ∃ u, vR 15 n d s no = u := ⟨_, rfl⟩
  rw [hx, hu]
  have HX : Hid (vE 15 n d s no = x) := hx
  have HU : Hid (vR 15 n d s no = u) := hu
  clear hx hu hd hb ha
  go_enter Tryz.func116, Tryz.ntmps116
  go_upto_region 1 with fail
  rw [← hU]
  clear hU
  go_wp2_with fail
  refine (max_to n x u HA.out HX.out HU.out).mono ?_
  rintro e w2 ⟨x0, x1, rfl, ho, hb2⟩
  have HBU : Hid (Below U.heap.size U w2) := hb2
  obtain ⟨xa, xn, xc, rfl⟩ := ho.dims.ints.shape3
  obtain ⟨ya, yn, yc, rfl⟩ := ho.data.ints.shape3
  have hbx := HBX.out.later HBU.out
  have l0 := hbx.c0
  have l1 := hbx.c1
  have m0 := hbx.f 0
  have m1 := hbx.f 1
  have HBS : Hid (Box _ _ _ _) := hbx.set (.slice xa xn xc) (.slice ya yn yc)
  have HO : Hid (OwnT w2 (w.heap.size + 1) (.slice xa xn xc) (.slice ya yn yc) u) := ho.mono hsU
  have HBW : Hid (Below w.heap.size w w2) := Below.after HB.out HBU.out
  clear hbx ho hb2
  go_wp2
  have hr0 := HBS.out.c0
  have hr1 := HBS.out.c1
  refine bodyPost_ret (v := .tuple #[.agg #[.slice xa xn xc, .slice ya yn yc], .int .i64 x]) (by simp [results, Tryz.results116, go_sem, hr0, hr1]) rfl ⟨_, _, rfl, ?_, ?_⟩
  · exact (HO.out.set2 _ _ (by omega)).mono (by omega)
  · exact (HBW.out.setCell (by simp) _).setCell (by simp) _
set_option maxHeartbeats 4000000 in
theorem value_k16 {vd a0 a1 b0 b1 : Value} {d : List Int} {s t : Ten} {w : World} {P off c : Nat} (n : Int) (hc : 2 ≤ c) (ha : Tens w a0 a1 s) (ht : Tens w b0 b1 t) (p0 : w.cell? ⟨P, off, none⟩ = some a0) (p1 : w.cell? ⟨P, off + 1, none⟩ = some a1) (p2 : w.cell? ⟨P, off + 2, none⟩ = some b0) (p3 : w.cell? ⟨P, off + 3, none⟩ = some b1) (hd : Ints w vd d) :
    Calls Tryz.prog 116 #[.int .i64 16, .int .i64 n, vd, .slice (some ⟨P, off, none⟩) 2 c] w fun e w' => ∃ x0 x1, e = .returned (.tuple #[.agg #[x0, x1], .int .i64 (vE 16 n d s t)]) ∧ OwnT w' w.heap.size x0 x1 (vR 16 n d s t) ∧ Below w.heap.size w w' := by
  obtain ⟨da, dn, dc, rfl⟩ := hd.shape3
  obtain ⟨aa, an, ac, rfl⟩ := ha.1.shape3
  obtain ⟨ba, bn, bc, rfl⟩ := ha.2.shape3
  have hne : ¬ w.heap.size = P := by have := cell_lt p0; omega
  have hne2 : ¬ P = w.heap.size := fun h => hne h.symm
  obtain ⟨ea, en, ec, rfl⟩ := ht.1.shape3
  obtain ⟨fa, fn, fc, rfl⟩ := ht.2.shape3
  obtain ⟨U, hU⟩ : ∃ U, U = w.alloc (.cells #[.slice none 0 0, .slice none 0 0] 156) := ⟨_, rfl⟩
  have hb : Below w.heap.size w U := by rw [hU]; exact (Below.refl _ _).alloc (Nat.le_refl _) _
  have HB : Hid (Below w.heap.size w U) := hb
  have HD : Hid (Ints U (.slice da dn dc) d) := hd.later hb
  have HBX : Hid (Box U w.heap.size (.slice none 0 0) (.slice none 0 0)) := by show Box _ _ _ _; rw [hU]; exact Box.new w _ _
  have hsU : w.heap.size + 1 ≤ U.heap.size := by rw [hU]; simp
  have HA : Hid (Tens U (.slice aa an ac) (.slice ba bn bc) s) := ha.later hb
  replace p0 := cell_at hb p0
  replace p1 := cell_at hb p1
  have HT : Hid (Tens U (.slice ea en ec) (.slice fa fn fc) t) := ht.later hb
  replace p2 := cell_at hb p2
  replace p3 := cell_at hb p3
  obtain ⟨x, hx⟩ : ∃ x, vE 16 n d s t = x := ⟨_, rfl⟩
  obtain ⟨u, hu⟩ : ∃ u, vR 16 n d s t = u := ⟨_, rfl⟩
  rw [hx, hu]
  have HX : Hid (vE 16 n d s t = x) := hx
  have HU : Hid (vR 16 n d s t = u) := hu
  clear hx hu hd hb ha ht
  go_enter Tryz.func116, Tryz.ntmps116
  go_upto_region 1 with fail
  rw [← hU]
  clear hU
  go_wp2_with fail
  go_region_held3 (fun w' => w'.cell? ⟨P, off, none⟩ = some (.slice aa an ac) ∧ w'.cell? ⟨P, off + 1, none⟩ = some (.slice ba bn bc) ∧ w'.cell? ⟨P, off + 2, none⟩ = some (.slice ea en ec) ∧ w'.cell? ⟨P, off + 3, none⟩ = some (.slice fa fn fc)) (go_keep) (first | (go_at_call 141; refine (step_to x u ?_ ?_ HX.out HU.out).mono ?_; exact HA.out.later (Below.refl _ _).drew; exact HT.out.later (Below.refl _ _).drew; rintro r w2 ⟨x0, x1, rfl, ho, hb2⟩; have HBU : Hid (Below U.heap.size U w2) := Below.after (Below.refl _ _).drew hb2; obtain ⟨xa, xn, xc, rfl⟩ := ho.dims.ints.shape3; obtain ⟨ya, yn, yc, rfl⟩ := ho.data.ints.shape3; have hbx := HBX.out.later HBU.out; have l0 := hbx.c0; have l1 := hbx.c1; have m0 := hbx.f 0; have m1 := hbx.f 1; have HBS : Hid (Box _ _ _ _) := hbx.set (.slice xa xn xc) (.slice ya yn yc); have HO : Hid (OwnT w2 (w.heap.size + 1) (.slice xa xn xc) (.slice ya yn yc) u) := ho.mono hsU; have HBW : Hid (Below w.heap.size w w2) := Below.after HB.out HBU.out; have a_0 := cell_at HBU.out p0; have a_1 := cell_at HBU.out p1; have a_2 := cell_at HBU.out p2; have a_3 := cell_at HBU.out p3; clear hbx ho hb2))
  clear a_0 a_1 a_2 a_3 p0 p1 p2 p3
  go_wp2
  have hr0 := HBS.out.c0
  have hr1 := HBS.out.c1
  refine bodyPost_ret (v := .tuple #[.agg #[.slice xa xn xc, .slice ya yn yc], .int .i64 x]) (by simp [results, Tryz.results116, go_sem, hr0, hr1]) rfl ⟨_, _, rfl, ?_, ?_⟩
  · exact (HO.out.set2 _ _ (by omega)).mono (by omega)
  · exact (HBW.out.setCell (by simp) _).setCell (by simp) _
set_option maxHeartbeats 4000000 in
theorem value_k17 {vd a0 a1 b0 b1 : Value} {d : List Int} {s t : Ten} {w : World} {P off c : Nat} (n : Int) (hc : 2 ≤ c) (ha : Tens w a0 a1 s) (ht : Tens w b0 b1 t) (p0 : w.cell? ⟨P, off, none⟩ = some a0) (p1 : w.cell? ⟨P, off + 1, none⟩ = some a1) (p2 : w.cell? ⟨P, off + 2, none⟩ = some b0) (p3 : w.cell? ⟨P, off + 3, none⟩ = some b1) (hd : Ints w vd d) :
    Calls Tryz.prog 116 #[.int .i64 17, .int .i64 n, vd, .slice (some ⟨P, off, none⟩) 2 c] w fun e w' => ∃ x0 x1, e = .returned (.tuple #[.agg #[x0, x1], .int .i64 (vE 17 n d s t)]) ∧ OwnT w' w.heap.size x0 x1 (vR 17 n d s t) ∧ Below w.heap.size w w' := by
  obtain ⟨da, dn, dc, rfl⟩ := hd.shape3
  obtain ⟨aa, an, ac, rfl⟩ := ha.1.shape3
  obtain ⟨ba, bn, bc, rfl⟩ := ha.2.shape3
  have hne : ¬ w.heap.size = P := by have := cell_lt p0; omega
  have hne2 : ¬ P = w.heap.size := fun h => hne h.symm
  obtain ⟨ea, en, ec, rfl⟩ := ht.1.shape3
  obtain ⟨fa, fn, fc, rfl⟩ := ht.2.shape3
  obtain ⟨U, hU⟩ : ∃ U, U = w.alloc (.cells #[.slice none 0 0, .slice none 0 0] 156) := ⟨_, rfl⟩
  have hb : Below w.heap.size w U := by rw [hU]; exact (Below.refl _ _).alloc (Nat.le_refl _) _
  have HB : Hid (Below w.heap.size w U) := hb
  have HD : Hid (Ints U (.slice da dn dc) d) := hd.later hb
  have HBX : Hid (Box U w.heap.size (.slice none 0 0) (.slice none 0 0)) := by show Box _ _ _ _; rw [hU]; exact Box.new w _ _
  have hsU : w.heap.size + 1 ≤ U.heap.size := by rw [hU]; simp
  have HA : Hid (Tens U (.slice aa an ac) (.slice ba bn bc) s) := ha.later hb
  replace p0 := cell_at hb p0
  replace p1 := cell_at hb p1
  have HT : Hid (Tens U (.slice ea en ec) (.slice fa fn fc) t) := ht.later hb
  replace p2 := cell_at hb p2
  replace p3 := cell_at hb p3
  obtain ⟨x, hx⟩ : ∃ x, vE 17 n d s t = x := ⟨_, rfl⟩
  obtain ⟨u, hu⟩ : ∃ u, vR 17 n d s t = u := ⟨_, rfl⟩
  rw [hx, hu]
  have HX : Hid (vE 17 n d s t = x) := hx
  have HU : Hid (vR 17 n d s t = u) := hu
  clear hx hu hd hb ha ht
  go_enter Tryz.func116, Tryz.ntmps116
  go_upto_region 1 with fail
  rw [← hU]
  clear hU
  go_wp2_with fail
  go_region_held3 (fun w' => w'.cell? ⟨P, off, none⟩ = some (.slice aa an ac) ∧ w'.cell? ⟨P, off + 1, none⟩ = some (.slice ba bn bc) ∧ w'.cell? ⟨P, off + 2, none⟩ = some (.slice ea en ec) ∧ w'.cell? ⟨P, off + 3, none⟩ = some (.slice fa fn fc)) (go_keep) (first | (go_at_call 142; refine (pick_to n x u ?_ ?_ HX.out HU.out).mono ?_; exact HA.out.later (Below.refl _ _).drew; exact HT.out.later (Below.refl _ _).drew; rintro r w2 ⟨x0, x1, rfl, ho, hb2⟩; have HBU : Hid (Below U.heap.size U w2) := Below.after (Below.refl _ _).drew hb2; obtain ⟨xa, xn, xc, rfl⟩ := ho.dims.ints.shape3; obtain ⟨ya, yn, yc, rfl⟩ := ho.data.ints.shape3; have hbx := HBX.out.later HBU.out; have l0 := hbx.c0; have l1 := hbx.c1; have m0 := hbx.f 0; have m1 := hbx.f 1; have HBS : Hid (Box _ _ _ _) := hbx.set (.slice xa xn xc) (.slice ya yn yc); have HO : Hid (OwnT w2 (w.heap.size + 1) (.slice xa xn xc) (.slice ya yn yc) u) := ho.mono hsU; have HBW : Hid (Below w.heap.size w w2) := Below.after HB.out HBU.out; have a_0 := cell_at HBU.out p0; have a_1 := cell_at HBU.out p1; have a_2 := cell_at HBU.out p2; have a_3 := cell_at HBU.out p3; clear hbx ho hb2))
  clear a_0 a_1 a_2 a_3 p0 p1 p2 p3
  go_wp2
  have hr0 := HBS.out.c0
  have hr1 := HBS.out.c1
  refine bodyPost_ret (v := .tuple #[.agg #[.slice xa xn xc, .slice ya yn yc], .int .i64 x]) (by simp [results, Tryz.results116, go_sem, hr0, hr1]) rfl ⟨_, _, rfl, ?_, ?_⟩
  · exact (HO.out.set2 _ _ (by omega)).mono (by omega)
  · exact (HBW.out.setCell (by simp) _).setCell (by simp) _
theorem TensL.one {w : World} {v : Value} {s : Ten} (h : TensL w v [s]) : ∃ P off c x y, v = .slice (some ⟨P, off, none⟩) 1 c ∧ 1 ≤ c ∧ w.cell? ⟨P, off, none⟩ = some x ∧ w.cell? ⟨P, off + 1, none⟩ = some y ∧ Tens w x y s := by
  obtain ⟨_, a, c, rfl, hc, HC⟩ := h
  obtain ⟨b, off, x, y, rfl, c0, c1, ht⟩ := HC 0 (by simp)
  exact ⟨b, off, c, x, y, rfl, hc, by simpa using c0, by simpa using c1, ht⟩
theorem TensL.two {w : World} {v : Value} {s t : Ten} (h : TensL w v [s, t]) : ∃ P off c x y p q, v = .slice (some ⟨P, off, none⟩) 2 c ∧ 2 ≤ c ∧ w.cell? ⟨P, off, none⟩ = some x ∧ w.cell? ⟨P, off + 1, none⟩ = some y ∧ w.cell? ⟨P, off + 2, none⟩ = some p ∧ w.cell? ⟨P, off + 3, none⟩ = some q ∧ Tens w x y s ∧ Tens w p q t := by
  obtain ⟨_, a, c, rfl, hc, HC⟩ := h
  obtain ⟨b, off, x, y, rfl, c0, c1, ht⟩ := HC 0 (by simp)
  obtain ⟨b', off', p, q, e, c2, c3, hu⟩ := HC 1 (by simp)
  simp only [Option.some.injEq, Addr.mk.injEq, and_true] at e
  obtain ⟨rfl, rfl⟩ := e
  exact ⟨b, off, c, x, y, p, q, rfl, hc, by simpa using c0, by simpa using c1, by simpa using c2, by simpa using c3, ht, hu⟩
set_option maxHeartbeats 1000000 in
theorem value_k1 {vd vl : Value} {w : World} (n : Int) :
    Calls Tryz.prog 116 #[.int .i64 1, .int .i64 n, vd, vl] w fun e w' => ∃ x0 x1, e = .returned (.tuple #[.agg #[x0, x1], .int .i64 1]) ∧ OwnT w' w.heap.size x0 x1 ([], []) ∧ Below w.heap.size w w' := by
  obtain ⟨U, hU⟩ : ∃ U, U = w.alloc (.cells #[.slice none 0 0, .slice none 0 0] 156) := ⟨_, rfl⟩
  have HB : Hid (Below w.heap.size w U) := by show Below _ _ _; rw [hU]; exact (Below.refl _ _).alloc (Nat.le_refl _) _
  have hbx : Box U w.heap.size (.slice none 0 0) (.slice none 0 0) := by rw [hU]; exact Box.new w _ _
  have l0 := hbx.c0
  have l1 := hbx.c1
  have m0 := hbx.f 0
  have m1 := hbx.f 1
  have HBS : Hid (Box _ _ _ _) := hbx.set (.slice none 0 0) (.slice none 0 0)
  clear hbx
  go_enter Tryz.func116, Tryz.ntmps116
  go_upto_region 1 with fail
  rw [← hU]
  clear hU
  go_wp2
  have hr0 := HBS.out.c0
  have hr1 := HBS.out.c1
  refine bodyPost_ret (v := .tuple #[.agg #[.slice none 0 0, .slice none 0 0], .int .i64 1]) (by simp [results, Tryz.results116, go_sem, hr0, hr1]) rfl ⟨_, _, rfl, OwnT.nil _ _, ?_⟩
  exact (HB.out.setCell (by simp) _).setCell (by simp) _
set_option maxHeartbeats 1000000 in
theorem value_k2 {vd vl : Value} {w : World} (n : Int) :
    Calls Tryz.prog 116 #[.int .i64 2, .int .i64 n, vd, vl] w fun e w' => ∃ x0 x1, e = .returned (.tuple #[.agg #[x0, x1], .int .i64 1]) ∧ OwnT w' w.heap.size x0 x1 ([], []) ∧ Below w.heap.size w w' := by
  obtain ⟨U, hU⟩ : ∃ U, U = w.alloc (.cells #[.slice none 0 0, .slice none 0 0] 156) := ⟨_, rfl⟩
  have HB : Hid (Below w.heap.size w U) := by show Below _ _ _; rw [hU]; exact (Below.refl _ _).alloc (Nat.le_refl _) _
  have hbx : Box U w.heap.size (.slice none 0 0) (.slice none 0 0) := by rw [hU]; exact Box.new w _ _
  have l0 := hbx.c0
  have l1 := hbx.c1
  have m0 := hbx.f 0
  have m1 := hbx.f 1
  have HBS : Hid (Box _ _ _ _) := hbx.set (.slice none 0 0) (.slice none 0 0)
  clear hbx
  go_enter Tryz.func116, Tryz.ntmps116
  go_upto_region 1 with fail
  rw [← hU]
  clear hU
  go_wp2
  have hr0 := HBS.out.c0
  have hr1 := HBS.out.c1
  refine bodyPost_ret (v := .tuple #[.agg #[.slice none 0 0, .slice none 0 0], .int .i64 1]) (by simp [results, Tryz.results116, go_sem, hr0, hr1]) rfl ⟨_, _, rfl, OwnT.nil _ _, ?_⟩
  exact (HB.out.setCell (by simp) _).setCell (by simp) _
theorem len0 {α : Type} {l : List α} {m : Nat} (h : l.length = m) (hm : m = 0) : l = [] := List.eq_nil_of_length_eq_zero (by omega)
theorem len1 {α : Type} {l : List α} (h : l.length = 1) : ∃ x, l = [x] := by
  match l, h with
  | [x], _ => exact ⟨x, rfl⟩
theorem len2 {α : Type} {l : List α} (h : l.length = 2) : ∃ x y, l = [x, y] := by
  match l, h with
  | [x, y], _ => exact ⟨x, y, rfl⟩
theorem value_any {vd v : Value} {d : List Int} {L : List Ten} {w : World} (k n : Int) (h : 1 ≤ k ∧ k ≤ 17) (hm : L.length = many k.toNat) (hd : Ints w vd d) (hl : TensL w v L) :
    Calls Tryz.prog 116 #[.int .i64 k, .int .i64 n, vd, v] w fun e w' => ∃ x0 x1, e = .returned (.tuple #[.agg #[x0, x1], .int .i64 (vE k.toNat n d (L.getD 0 no) (L.getD 1 no))]) ∧ OwnT w' w.heap.size x0 x1 (vR k.toNat n d (L.getD 0 no) (L.getD 1 no)) ∧ Below w.heap.size w w' := by
  have hk : k = 1 ∨ k = 2 ∨ k = 3 ∨ k = 4 ∨ k = 5 ∨ k = 6 ∨ k = 7 ∨ k = 8 ∨ k = 9 ∨ k = 10 ∨ k = 11 ∨ k = 12 ∨ k = 13 ∨ k = 14 ∨ k = 15 ∨ k = 16 ∨ k = 17 := by omega
  rcases hk with rfl | rfl | rfl | rfl | rfl | rfl | rfl | rfl | rfl | rfl | rfl | rfl | rfl | rfl | rfl | rfl | rfl
  · obtain rfl := len0 hm rfl
    exact value_k1 n
  · obtain rfl := len0 hm rfl
    exact value_k2 n
  · obtain rfl := len0 hm rfl
    exact value_k3 n hd
  · obtain ⟨s, t, rfl⟩ := len2 hm
    obtain ⟨P, off, c, x, y, p, q, rfl, hc, c0, c1, c2, c3, ht, hu⟩ := hl.two
    exact value_k4 n hc ht hu c0 c1 c2 c3 hd
  · obtain ⟨s, t, rfl⟩ := len2 hm
    obtain ⟨P, off, c, x, y, p, q, rfl, hc, c0, c1, c2, c3, ht, hu⟩ := hl.two
    exact value_k5 n hc ht hu c0 c1 c2 c3 hd
  · obtain ⟨s, t, rfl⟩ := len2 hm
    obtain ⟨P, off, c, x, y, p, q, rfl, hc, c0, c1, c2, c3, ht, hu⟩ := hl.two
    exact value_k6 n hc ht hu c0 c1 c2 c3 hd
  · obtain ⟨s, rfl⟩ := len1 hm
    obtain ⟨P, off, c, x, y, rfl, hc, c0, c1, ht⟩ := hl.one
    exact value_k7 n hc ht c0 c1 hd
  · obtain ⟨s, rfl⟩ := len1 hm
    obtain ⟨P, off, c, x, y, rfl, hc, c0, c1, ht⟩ := hl.one
    exact value_k8 n hc ht c0 c1 hd
  · obtain ⟨s, t, rfl⟩ := len2 hm
    obtain ⟨P, off, c, x, y, p, q, rfl, hc, c0, c1, c2, c3, ht, hu⟩ := hl.two
    exact value_k9 n hc ht hu c0 c1 c2 c3 hd
  · obtain ⟨s, rfl⟩ := len1 hm
    obtain ⟨P, off, c, x, y, rfl, hc, c0, c1, ht⟩ := hl.one
    exact value_k10 n hc ht c0 c1 hd
  · obtain ⟨s, rfl⟩ := len1 hm
    obtain ⟨P, off, c, x, y, rfl, hc, c0, c1, ht⟩ := hl.one
    exact value_k11 n hc ht c0 c1 hd
  · obtain ⟨s, rfl⟩ := len1 hm
    obtain ⟨P, off, c, x, y, rfl, hc, c0, c1, ht⟩ := hl.one
    exact value_k12 n hc ht c0 c1 hd
  · obtain ⟨s, rfl⟩ := len1 hm
    obtain ⟨P, off, c, x, y, rfl, hc, c0, c1, ht⟩ := hl.one
    exact value_k13 n hc ht c0 c1 hd
  · obtain ⟨s, rfl⟩ := len1 hm
    obtain ⟨P, off, c, x, y, rfl, hc, c0, c1, ht⟩ := hl.one
    exact value_k14 n hc ht c0 c1 hd
  · obtain ⟨s, rfl⟩ := len1 hm
    obtain ⟨P, off, c, x, y, rfl, hc, c0, c1, ht⟩ := hl.one
    exact value_k15 n hc ht c0 c1 hd
  · obtain ⟨s, t, rfl⟩ := len2 hm
    obtain ⟨P, off, c, x, y, p, q, rfl, hc, c0, c1, c2, c3, ht, hu⟩ := hl.two
    exact value_k16 n hc ht hu c0 c1 c2 c3 hd
  · obtain ⟨s, t, rfl⟩ := len2 hm
    obtain ⟨P, off, c, x, y, p, q, rfl, hc, c0, c1, c2, c3, ht, hu⟩ := hl.two
    exact value_k17 n hc ht hu c0 c1 c2 c3 hd
theorem frm_parts {k n : Int} {d : List Int} {c : Nat} (h : frm k n d c = true) : (1 ≤ k ∧ k ≤ 17) ∧ c = many k.toNat ∧ dok k.toNat d = true ∧ nok k.toNat n = true := by
  simp only [frm, frmN, Bool.and_eq_true, decide_eq_true_eq] at h
  exact ⟨h.1, h.2.1.1, h.2.1.2, h.2.2⟩
theorem infoT' : (Tryz.prog.info? 156).map (fun i => (i.zero, i.size, i.bytes)) = some (some (.agg #[.slice none 0 0, .slice none 0 0]), 2, 48) := by kernel_rfl
theorem infoT : ∃ i, Tryz.prog.info? 156 = some i ∧ i.zero = some (.agg #[.slice none 0 0, .slice none 0 0]) ∧ i.size = 2 ∧ i.bytes = 48 := by
  have h := infoT'
  cases e : Tryz.prog.info? 156 with
  | none => rw [e] at h; simp at h
  | some i => rw [e] at h; simp at h; exact ⟨i, rfl, h⟩
theorem infoI' : (Tryz.prog.info? 23).map (fun i => (i.zero, i.size, i.bytes)) = some (some (.slice none 0 0), 1, 24) := by kernel_rfl
theorem infoI : ∃ i, Tryz.prog.info? 23 = some i ∧ i.zero = some (.slice none 0 0) ∧ i.size = 1 ∧ i.bytes = 24 := by
  have h := infoI'
  cases e : Tryz.prog.info? 23 with
  | none => rw [e] at h; simp at h
  | some i => rw [e] at h; simp at h; exact ⟨i, rfl, h⟩
theorem Row.none (w : World) (B : Nat) : Row w B (.slice none 0 0) [] [] := ⟨World.ownsRow_nil _ _ _ _, fun i h => by simp at h⟩
theorem Own.elt {w : World} {B : Nat} {x : Value} {d : List Int} {r : Option Nat} (h : Own w B x d) (hr : ∀ k, r = some k → k < B) : Elt w r x d := by
  refine ⟨h.ints, fun _ e => ?_⟩
  cases hx : x.ownBlock with
  | none =>
    rename_i hpos
    rcases h.ints.cases with ⟨q, _⟩ | ⟨b, off, c, rfl, _, _, _, _⟩
    · rw [q] at hpos; simp at hpos
    · simp [Value.ownBlock] at hx
  | some k =>
    have h1 := h.frm k hx
    have h2 := hr k (by rw [← e, hx])
    omega
theorem Elt.older {w w' : World} {x : Value} {d : List Int} {r : Option Nat} (h : Ints w x d) (hb : Below w.heap.size w w') (hr : ∀ k, r = some k → w.heap.size ≤ k) : Elt w' r x d := by
  refine ⟨h.later hb, fun h0 e => ?_⟩
  rcases h.cases with ⟨q, _⟩ | ⟨b, off, c, rfl, _, _, _, HC⟩
  · rw [q] at h0; simp at h0
  · have h1 := World.block_lt_of_cell? _ _ (HC.out 0 h0)
    have h2 := hr b e.symm
    simp only at h1
    omega
theorem make_tens (n : Nat) (h : n ≤ 1000000000) :
    ∃ arr : Array Value, arr.size = n * 2 ∧ ∀ w : World, (Instr.makeSlice 154 (.int .i64 n) (.int .i64 n)).run Tryz.prog w = .ok (.slice (some ⟨w.heap.size, 0, none⟩) n n) (w.alloc (.cells arr 156)) := by
  obtain ⟨i, h1, h2, h3, h4⟩ := infoT
  refine ⟨_, size_madeCells (Value.cells (.agg #[.slice none 0 0, .slice none 0 0])) _, fun w => ?_⟩
  have := run_make (P := Tryz.prog) w 154 156 i (.agg #[.slice none 0 0, .slice none 0 0]) Tryz.underlying154 h1 h2 .i64 .i64 n n (by omega) (by omega) (by rw [h4]; omega) (by omega)
  rw [h3, Int.toNat_natCast] at this
  exact this
/-- The first k of the zeros are laid. -/
structure ZB (w : World) (Z n k : Nat) (Ls : List (List Int)) : Prop where
  blk : ∃ arr : Array Value, w.heap[Z]? = some (.cells arr 156 (0, 0)) ∧ arr.size = n * 2
  elt : ∀ i (h : i < Ls.length), i < k → ∃ x y, w.cell? ⟨Z, i * 2, none⟩ = some x ∧ w.cell? ⟨Z, i * 2 + 1, none⟩ = some y ∧ OwnT w (Z + 1) x y (zT Ls[i])
theorem ZB.lt {w : World} {Z n k : Nat} {Ls : List (List Int)} (h : ZB w Z n k Ls) : Z < w.heap.size := by
  obtain ⟨arr, ha, hs⟩ := h.blk
  exact (Array.getElem?_eq_some_iff.1 ha).1
theorem ZB.later {w w' : World} {Z n k : Nat} {Ls : List (List Int)} (hb : Below w.heap.size w w') (h : ZB w Z n k Ls) : ZB w' Z n k Ls := by
  have hlt := h.lt
  obtain ⟨arr, ha, hs⟩ := h.blk
  refine ⟨⟨arr, (hb.block Z hlt).trans ha, hs⟩, fun i h1 h2 => ?_⟩
  obtain ⟨x, y, c0, c1, ho⟩ := h.elt i h1 h2
  exact ⟨x, y, cell_later hb c0, cell_later hb c1, ho.later hb⟩
theorem ZB.cell {w : World} {Z n k : Nat} {Ls : List (List Int)} (h : ZB w Z n k Ls) (j : Nat) (hj : j < n * 2) : (∃ u, w.cell? ⟨Z, j, none⟩ = some u) ∧ w.frozen? ⟨Z, j, none⟩ = false := by
  obtain ⟨arr, ha, hs⟩ := h.blk
  refine ⟨⟨arr[j]'(by omega), ?_⟩, ?_⟩
  · rw [cell_of_row w Z j arr _ _ ha, Array.getElem?_eq_getElem (by omega)]
  · exact frozen_of_row w Z j arr _ ha
theorem ZB.put {w : World} {Z n k : Nat} {Ls : List (List Int)} {x y : Value} (h : ZB w Z n k Ls) (hk : k < Ls.length) (hn : Ls.length = n) (ho : OwnT w (Z + 1) x y (zT Ls[k])) :
    ZB ((w.setCell ⟨Z, k * 2, none⟩ x).setCell ⟨Z, k * 2 + 1, none⟩ y) Z n (k + 1) Ls := by
  obtain ⟨arr, ha, hs⟩ := h.blk
  have e1 := heap_setCell_same w Z (k * 2) arr 156 x ha
  have e2 := heap_setCell_same _ Z (k * 2 + 1) _ 156 y e1
  refine ⟨⟨_, e2, by simp [hs]⟩, fun i h1 h2 => ?_⟩
  by_cases hi : i = k
  · subst hi
    refine ⟨x, y, ?_, ?_, (ho.setCell _ _ (by simp)).setCell _ _ (by simp)⟩
    · rw [cell_of_row _ Z _ _ _ _ e2]
      have q1 : i * 2 < arr.size := by omega
      simp [Array.getElem?_setIfInBounds, q1]
    · rw [cell_of_row _ Z _ _ _ _ e2]
      have q1 : i * 2 + 1 < arr.size := by omega
      simp [Array.getElem?_setIfInBounds, q1]
  · obtain ⟨x', y', c0, c1, ho'⟩ := h.elt i h1 (by omega)
    refine ⟨x', y', ?_, ?_, (ho'.setCell _ _ (by simp)).setCell _ _ (by simp)⟩
    · rw [cell_of_row w Z _ _ _ _ ha] at c0
      rw [cell_of_row _ Z _ _ _ _ e2, Array.getElem?_setIfInBounds_ne (by omega), Array.getElem?_setIfInBounds_ne (by omega)]
      exact c0
    · rw [cell_of_row w Z _ _ _ _ ha] at c1
      rw [cell_of_row _ Z _ _ _ _ e2, Array.getElem?_setIfInBounds_ne (by omega), Array.getElem?_setIfInBounds_ne (by omega)]
      exact c1
theorem ZB.tensL {w : World} {Z n : Nat} {Ls : List (List Int)} (h : ZB w Z n n Ls) (hn : Ls.length = n) (hb : n ≤ big) : TensL w (.slice (some ⟨Z, 0, none⟩) n n) (Ls.map zT) := by
  refine ⟨by simp [hn]; exact hb, _, n, by rw [List.length_map, hn], by simp [hn], fun i hi => ?_⟩
  rw [List.length_map] at hi
  obtain ⟨x, y, c0, c1, ho⟩ := h.elt i hi (by omega)
  refine ⟨Z, 0, x, y, rfl, by simpa using c0, by simpa using c1, ?_⟩
  rw [List.getElem_map]
  exact ⟨ho.dims.ints, ho.data.ints⟩
set_option maxHeartbeats 4000000 in
theorem dims_any {vd v : Value} {d : List Int} {L : List (List Int)} {w : World} (k n : Int) (hd : Ints w vd d) (hl : IntsL w v L) (h2 : L.length ≤ 2) :
    Calls Tryz.prog 96 #[.int .i64 k, .int .i64 n, vd, v] w fun e w' => ∃ x, e = .returned (.tuple #[x, .int .i64 (diE k n d L)]) ∧ Own w' w.heap.size x (diR k n d L) ∧ Below w.heap.size w w' := by
  obtain ⟨_, va, vc, ev, hvc, hcell⟩ := hl
  obtain ⟨m, hm⟩ : ∃ m, L.length = m := ⟨_, rfl⟩
  rw [hm] at ev h2 hvc
  subst ev
  have HM : Hid (L.length = m) := hm
  have HD : Hid (Ints w vd d) := hd
  have HL : Hid (∀ i (h : i < L.length), ∃ b off x, va = some ⟨b, off, none⟩ ∧ w.cell? ⟨b, off + i, none⟩ = some x ∧ Ints w x L[i]) := hcell
  clear hd hm hcell
  cases hf : frm k n d m with
  | false =>
    have HF : Hid (frE k n d m = 1) := by show _ = _; rw [frE, hf]; rfl
    have HE : Hid (diE k n d L = 1 ∧ diR k n d L = []) := by show _ ∧ _; simp [diE, diR, HM.out, hf]
    clear hf
    go_enter Tryz.func96, Tryz.ntmps96
    go_wp2_with fail
    refine (form_any k n m (by unfold big; omega) HD.out 1 HF.out).mono ?_
    rintro e w1 ⟨rfl, hb1⟩
    have HB1 : Hid (Below w.heap.size w w1) := hb1
    clear hb1
    go_wp2
    go_ret2
    exact ⟨_, by rw [HE.out.1]; rfl, by rw [HE.out.2]; exact Own.nil _ _, HB1.out⟩
  | true =>
    have HF : Hid (frE k n d m = 0) := by show _ = _; rw [frE, hf]; rfl
    obtain ⟨⟨hk1, hk2⟩, hc, hdk, _⟩ := frm_parts hf
    have HC : Hid (L.length = many k.toNat) := by show _ = _; rw [HM.out]; exact hc
    by_cases h3 : k < 3
    · have HE : Hid (diE k n d L = 0 ∧ diR k n d L = d) := by show _ ∧ _; simp [diE, diR, HM.out, hf, h3]
      have hok : okd d = true := by
        have : k = 1 ∨ k = 2 := by omega
        rcases this with rfl | rfl <;> exact hdk
      have HK : Hid (1 ≤ d.length) := (okd_parts hok).1
      clear hf hc hdk hok
      have hk12 : k = 1 ∨ k = 2 := by omega
      clear h3 hk1 hk2
      rcases hk12 with rfl | rfl <;>
      · go_enter Tryz.func96, Tryz.ntmps96
        go_wp2_with fail
        refine (form_any _ n m (by unfold big; omega) HD.out 0 HF.out).mono ?_
        rintro e w1 ⟨rfl, hb1⟩
        have HB1 : Hid (Below w.heap.size w w1) := hb1
        clear hb1
        go_wp2_with fail
        refine (clone_own (HD.out.later HB1.out) HK.out).mono ?_
        rintro e w2 ⟨x, rfl, ho, hb2⟩
        have HO : Hid (Own w2 w.heap.size x d) := ho.mono HB1.out.size
        have HB2 : Hid (Below w.heap.size w w2) := Below.after HB1.out hb2
        clear ho hb2
        go_wp2
        go_ret2
        exact ⟨_, by rw [HE.out.1]; rfl, by rw [HE.out.2]; exact HO.out, HB2.out⟩
    · have n1 : ¬ k = 1 := by omega
      have n2 : ¬ k = 2 := by omega
      have b1 : (k == 1) = false := by simpa using n1
      have b2 : (k == 2) = false := by simpa using n2
      have HE : Hid (diE k n d L = (if L.all okd = true then vE k.toNat n d ((L.map zT).getD 0 no) ((L.map zT).getD 1 no) else 1) ∧ diR k n d L = (if L.all okd = true then (vR k.toNat n d ((L.map zT).getD 0 no) ((L.map zT).getD 1 no)).1 else [])) := by show _ ∧ _; simp only [diE, diR, HM.out, hf, if_true, if_neg h3]; exact ⟨trivial, trivial⟩
      have HV : Hid (∀ {w : World} {u : Value} (hd : Ints w vd d) (hl : TensL w u (L.map zT)), Calls Tryz.prog 116 #[.int .i64 k, .int .i64 n, vd, u] w fun e w' => ∃ x0 x1, e = .returned (.tuple #[.agg #[x0, x1], .int .i64 (vE k.toNat n d ((L.map zT).getD 0 no) ((L.map zT).getD 1 no))]) ∧ OwnT w' w.heap.size x0 x1 (vR k.toNat n d ((L.map zT).getD 0 no) ((L.map zT).getD 1 no)) ∧ Below w.heap.size w w') := by
        intro w u hd hl
        exact value_any k n ⟨hk1, hk2⟩ (by rw [List.length_map]; exact HC.out) hd hl
      obtain ⟨arr, harr, hmk⟩ := make_tens m (by omega)
      have HARR : Hid (arr.size = m * 2) := harr
      clear hf hc hdk hk1 hk2 h3 harr
      go_enter Tryz.func96, Tryz.ntmps96
      go_wp2_with fail
      refine (form_any _ n m (by unfold big; omega) HD.out 0 HF.out).mono ?_
      rintro e w1 ⟨rfl, hb1⟩
      have HB1 : Hid (Below w.heap.size w w1) := hb1
      have hs1 := hb1.size
      have HZ1 : Hid (ZB (w1.alloc (.cells arr 156)) w1.heap.size m 0 L) := ⟨⟨arr, heap_alloc_new w1 _, HARR.out⟩, fun i h1 h2 => by omega⟩
      have HB2 : Hid (Below w.heap.size w (w1.alloc (.cells arr 156))) := hb1.alloc hs1 _
      clear hb1
      go_upto_region 6 with fail
      generalize hU : w1.alloc (.cells arr 156) = U at HZ1 HB2 ⊢
      clear hU hmk HARR
      obtain ⟨Z, hZ⟩ : ∃ Z, w1.heap.size = Z := ⟨_, rfl⟩
      rw [hZ] at HZ1 hs1 ⊢
      have HIN : Hid (∀ {w' : World}, Below w.heap.size w w' → Ints w' vd d) := fun hb => HD.out.later hb
      clear hZ HB1
      go_wp2
      go_loopw [37] (fun i w' => ∃ (j : Nat), j ≤ m ∧ i = .int .i64 j ∧ Hid (ZB w' Z m j L) ∧ Hid (Below w.heap.size w w') ∧ Hid (∀ q (h : q < L.length), q < j → okd L[q] = true)) (fun i _ => m - (intOf i).toNat)
      case atStart => exact ⟨0, Nat.zero_le _, rfl, HZ1, HB2, fun q h1 h2 => by omega⟩
      case round =>
        obtain ⟨j, hj, rfl, HZ, HB, HK⟩ := hrel
        by_cases hlt : j < m
        · have hlt' : j < L.length := by rw [HM.out]; exact hlt
          obtain ⟨b, off, x, rfl, c0, hx⟩ := HL.out j hlt'
          have d0 := cell_later HB.out c0
          have HX : Hid (Ints wr x L[j]) := hx.later HB.out
          obtain ⟨xa, xn, xc, rfl⟩ := hx.shape3
          have hsz := HB.out.size
          have hzl := HZ.out.lt
          clear c0 hx
          cases hok : okd L[j] with
          | false =>
            have HF2 : Hid (erf L[j] = 1) := erf_bad hok
            have HE2 : Hid (diE k n d L = 1 ∧ diR k n d L = []) := by
              show _ ∧ _
              have : ¬ L.all okd = true := by
                rw [List.all_eq_true]
                intro h
                have := h L[j] (List.getElem_mem hlt')
                rw [hok] at this
                cases this
              rw [HE.out.1, HE.out.2, if_neg this, if_neg this]
              exact ⟨rfl, rfl⟩
            clear hok
            go_wp2_with fail
            refine (fill_to 0 1 _ HX.out HF2.out rfl).mono ?_
            rintro e w2 ⟨x0, x1, rfl, ho, hb2⟩
            obtain ⟨pa, pn, pc, rfl⟩ := ho.dims.ints.shape3
            obtain ⟨qa, qn, qc, rfl⟩ := ho.data.ints.shape3
            have HB3 : Hid (Below w.heap.size w (w2.alloc (.cells #[.slice pa pn pc, .slice qa qn qc] 156))) := Below.push (Below.after HB.out hb2) _
            clear ho hb2
            go_wp2
            go_ret2
            exact ⟨_, by rw [HE2.out.1]; rfl, by rw [HE2.out.2]; exact Own.nil _ _, HB3.out⟩
          | true =>
            have HF2 : Hid (erf L[j] = 0) := erf_ok hok
            have HO0 : Hid (okd L[j] = true) := hok
            have HV3 : Hid (vR 3 0 L[j] no no = zT L[j]) := by show _ = _; simp [vR, hok, zT]
            clear hok
            go_wp2_with fail
            refine (fill_to 0 0 _ HX.out HF2.out HV3.out).mono ?_
            rintro e w2 ⟨x0, x1, rfl, ho, hb2⟩
            obtain ⟨pa, pn, pc, rfl⟩ := ho.dims.ints.shape3
            obtain ⟨qa, qn, qc, rfl⟩ := ho.data.ints.shape3
            have ho2 : OwnT w2 (Z + 1) (.slice pa pn pc) (.slice qa qn qc) (zT L[j]) := ho.mono hzl
            go_upto_region 10 with fail
            obtain ⟨U2, hU2⟩ : ∃ U2, U2 = w2.alloc (.cells #[.slice pa pn pc, .slice qa qn qc] 156) := ⟨_, rfl⟩
            have hb3 : Below wr.heap.size wr U2 := by rw [hU2]; exact Below.push hb2 _
            have hbx : Box U2 w2.heap.size (.slice pa pn pc) (.slice qa qn qc) := by rw [hU2]; exact Box.new w2 _ _
            have ho3 : OwnT U2 (Z + 1) (.slice pa pn pc) (.slice qa qn qc) (zT L[j]) := by rw [hU2]; exact ho2.later (Below.push (Below.refl _ _) _)
            rw [← hU2]
            have hz3 := HZ.out.later hb3
            obtain ⟨⟨u0, z0⟩, f0⟩ := hz3.cell (j * 2) (by omega)
            obtain ⟨⟨u1, z1⟩, f1⟩ := hz3.cell (j * 2 + 1) (by omega)
            have l0 := hbx.c0
            have l1 := hbx.c1
            have HZ4 : Hid (ZB ((U2.setCell ⟨Z, j * 2, none⟩ (.slice pa pn pc)).setCell ⟨Z, j * 2 + 1, none⟩ (.slice qa qn qc)) Z m (j + 1) L) := hz3.put hlt' HM.out ho3
            have HB4 : Hid (Below w.heap.size w ((U2.setCell ⟨Z, j * 2, none⟩ (.slice pa pn pc)).setCell ⟨Z, j * 2 + 1, none⟩ (.slice qa qn qc))) := ((Below.after HB.out hb3).setCell hs1 _).setCell hs1 _
            clear hU2 hb3 hbx ho3 ho2 ho hb2 hz3
            go_wp2
            go_roundw
            case rel =>
              refine ⟨j + 1, by omega, by go_num, HZ4.out, HB4.out, fun q h1 h2 => ?_⟩
              by_cases e : q = j
              · subst e; exact HO0.out
              · exact HK.out q h1 (by omega)
            case measure => simp [intOf]; omega
        · obtain rfl : j = m := by omega
          have hall : L.all okd = true := by
            rw [List.all_eq_true]
            intro t ht
            obtain ⟨q, hq, rfl⟩ := List.getElem_of_mem ht
            exact HK.out q hq (by rw [← HM.out]; exact hq)
          have HE2 : Hid (diE k n d L = vE k.toNat n d ((L.map zT).getD 0 no) ((L.map zT).getD 1 no) ∧ diR k n d L = (vR k.toNat n d ((L.map zT).getD 0 no) ((L.map zT).getD 1 no)).1) := by
            show _ ∧ _
            rw [HE.out.1, HE.out.2, if_pos hall, if_pos hall]
            exact ⟨rfl, rfl⟩
          clear hall HE
          obtain ⟨x, hx⟩ : ∃ x, vE k.toNat n d ((L.map zT).getD 0 no) ((L.map zT).getD 1 no) = x := ⟨_, rfl⟩
          obtain ⟨u, hu⟩ : ∃ u, vR k.toNat n d ((L.map zT).getD 0 no) ((L.map zT).getD 1 no) = u := ⟨_, rfl⟩
          rw [hx, hu] at HE2 HV
          clear hx hu
          have HT : Hid (TensL wr (.slice (some ⟨Z, 0, none⟩) j j) (L.map zT)) := HZ.out.tensL HM.out (by unfold big; omega)
          have hsz := HB.out.size
          go_wp2_with fail
          refine (HV.out (HIN.out HB.out) HT.out).mono ?_
          rintro e w2 ⟨x0, x1, rfl, ho, hb2⟩
          obtain ⟨pa, pn, pc, rfl⟩ := ho.dims.ints.shape3
          obtain ⟨qa, qn, qc, rfl⟩ := ho.data.ints.shape3
          have HO : Hid (Own (w2.alloc (.cells #[.slice pa pn pc, .slice qa qn qc] 156)) w.heap.size (.slice pa pn pc) u.1) := (ho.dims.mono hsz).later (Below.push (Below.refl _ _) _)
          have HB3 : Hid (Below w.heap.size w (w2.alloc (.cells #[.slice pa pn pc, .slice qa qn qc] 156))) := Below.push (Below.after HB.out hb2) _
          clear ho hb2
          go_wp2
          go_ret2
          exact ⟨_, by rw [HE2.out.1]; rfl, by rw [HE2.out.2]; exact HO.out, HB3.out⟩
theorem frm_partsM {k n : Int} {d : List Int} {c : Nat} (h : frm k n d c = true) : (1 ≤ k ∧ k ≤ 17) ∧ c = many k.toNat ∧ dok k.toNat d = true ∧ nok k.toNat n = true := by
  simp only [frm, frmN, Bool.and_eq_true, decide_eq_true_eq] at h
  exact ⟨h.1, h.2.1.1, h.2.1.2, h.2.2⟩
theorem many_3 {k : Nat} (h : k ≤ 3) : many k = 0 := by rw [many, if_pos h]
theorem di_no {k n : Int} {d : List Int} {P : List (List Int)} (h : ¬ may k n d P = true) : diE k n d P = 1 ∧ diR k n d P = [] := by
  cases hf : frm k n d P.length with
  | false => simp [diE, diR, hf]
  | true =>
    obtain ⟨hk, hc, _, _⟩ := frm_partsM hf
    have ha : ¬ P.all okd = true := fun ha => h (by rw [may, hf, ha]; rfl)
    have h3 : ¬ k < 3 := by
      intro h3
      have : P = [] := List.eq_nil_of_length_eq_zero (by rw [hc]; exact many_3 (by omega))
      subst this
      exact ha rfl
    simp only [diE, diR, hf, if_true, if_neg h3, if_neg ha]
    exact ⟨trivial, trivial⟩
theorem di_yes {k n : Int} {d : List Int} {P : List (List Int)} (h : may k n d P = true) :
    diE k n d P = (if inf k.toNat n d (P.getD 0 []) (P.getD 1 []) then 0 else 4) ∧ diR k n d P = (if inf k.toNat n d (P.getD 0 []) (P.getD 1 []) then inD k.toNat n d (P.getD 0 []) (P.getD 1 []) else []) := by
  simp only [may, Bool.and_eq_true] at h
  obtain ⟨hf, ha⟩ := h
  obtain ⟨hk, hc, hd, hn⟩ := frm_partsM hf
  by_cases h3 : k < 3
  · have hk' : k = 1 ∨ k = 2 := by omega
    rcases hk' with rfl | rfl <;> simp [diE, diR, hf, inf, inD]
  · have hz0 : ((P.map zT).getD 0 no).1 = P.getD 0 [] := by cases P <;> rfl
    have hz1 : ((P.map zT).getD 1 no).1 = P.getD 1 [] := by
      match P with
      | [] => rfl
      | [a] => rfl
      | a :: b :: c => rfl
    have hs : many k.toNat = 0 ∨ tok ((P.map zT).getD 0 no) = true := by
      match P, hc, ha with
      | [], hc, _ => exact Or.inl hc.symm
      | a :: c, hc, ha =>
        refine Or.inr (tok_zT ?_)
        simp at ha
        exact ha.1
    have ht : many k.toNat ≤ 1 ∨ tok ((P.map zT).getD 1 no) = true := by
      match P, hc, ha with
      | [], hc, _ => exact Or.inl (by simp at hc; omega)
      | [a], hc, _ => exact Or.inl (by simp at hc; omega)
      | a :: b :: c, hc, ha =>
        refine Or.inr (tok_zT ?_)
        simp at ha
        exact ha.2.1
    obtain ⟨h1, h2⟩ := vE_inf (k := k.toNat) (by omega) (by omega) hd hn hs ht
    rw [hz0, hz1] at h1 h2
    simp only [diE, diR, hf, if_true, if_neg h3, if_pos ha]
    refine ⟨h1, ?_⟩
    rw [h2]
    cases inf k.toNat n d (P.getD 0 []) (P.getD 1 []) <;> rfl
def manyI (k : Int) : Int := if 1 ≤ k ∧ k ≤ 17 then (many k.toNat : Int) else -1
set_option maxHeartbeats 400000 in
theorem many_k1 (w : World) : Calls Tryz.prog 60 #[.int .i64 1] w fun e w' => e = .returned (.int .i64 (manyI 1)) ∧ w = w' := by
  go_enter Tryz.func60, Tryz.ntmps60
  go_wp2
  go_ret
  exact ⟨rfl, rfl⟩
set_option maxHeartbeats 400000 in
theorem many_k2 (w : World) : Calls Tryz.prog 60 #[.int .i64 2] w fun e w' => e = .returned (.int .i64 (manyI 2)) ∧ w = w' := by
  go_enter Tryz.func60, Tryz.ntmps60
  go_wp2
  go_ret
  exact ⟨rfl, rfl⟩
set_option maxHeartbeats 400000 in
theorem many_k3 (w : World) : Calls Tryz.prog 60 #[.int .i64 3] w fun e w' => e = .returned (.int .i64 (manyI 3)) ∧ w = w' := by
  go_enter Tryz.func60, Tryz.ntmps60
  go_wp2
  go_ret
  exact ⟨rfl, rfl⟩
set_option maxHeartbeats 400000 in
theorem many_k4 (w : World) : Calls Tryz.prog 60 #[.int .i64 4] w fun e w' => e = .returned (.int .i64 (manyI 4)) ∧ w = w' := by
  go_enter Tryz.func60, Tryz.ntmps60
  go_wp2
  go_ret
  exact ⟨rfl, rfl⟩
set_option maxHeartbeats 400000 in
theorem many_k5 (w : World) : Calls Tryz.prog 60 #[.int .i64 5] w fun e w' => e = .returned (.int .i64 (manyI 5)) ∧ w = w' := by
  go_enter Tryz.func60, Tryz.ntmps60
  go_wp2
  go_ret
  exact ⟨rfl, rfl⟩
set_option maxHeartbeats 400000 in
theorem many_k6 (w : World) : Calls Tryz.prog 60 #[.int .i64 6] w fun e w' => e = .returned (.int .i64 (manyI 6)) ∧ w = w' := by
  go_enter Tryz.func60, Tryz.ntmps60
  go_wp2
  go_ret
  exact ⟨rfl, rfl⟩
set_option maxHeartbeats 400000 in
theorem many_k7 (w : World) : Calls Tryz.prog 60 #[.int .i64 7] w fun e w' => e = .returned (.int .i64 (manyI 7)) ∧ w = w' := by
  go_enter Tryz.func60, Tryz.ntmps60
  go_wp2_with (go_at_call 22; refine (between_t _ _ _ _ (by decide) (by decide)).mono ?_; rintro e w2 ⟨rfl, rfl⟩)
  go_ret
  exact ⟨rfl, rfl⟩
set_option maxHeartbeats 400000 in
theorem many_k8 (w : World) : Calls Tryz.prog 60 #[.int .i64 8] w fun e w' => e = .returned (.int .i64 (manyI 8)) ∧ w = w' := by
  go_enter Tryz.func60, Tryz.ntmps60
  go_wp2_with (go_at_call 22; refine (between_t _ _ _ _ (by decide) (by decide)).mono ?_; rintro e w2 ⟨rfl, rfl⟩)
  go_ret
  exact ⟨rfl, rfl⟩
set_option maxHeartbeats 400000 in
theorem many_k9 (w : World) : Calls Tryz.prog 60 #[.int .i64 9] w fun e w' => e = .returned (.int .i64 (manyI 9)) ∧ w = w' := by
  go_enter Tryz.func60, Tryz.ntmps60
  go_wp2
  go_ret
  exact ⟨rfl, rfl⟩
set_option maxHeartbeats 400000 in
theorem many_k10 (w : World) : Calls Tryz.prog 60 #[.int .i64 10] w fun e w' => e = .returned (.int .i64 (manyI 10)) ∧ w = w' := by
  go_enter Tryz.func60, Tryz.ntmps60
  go_wp2_with (go_at_call 22; refine (between_t _ _ _ _ (by decide) (by decide)).mono ?_; rintro e w2 ⟨rfl, rfl⟩)
  go_ret
  exact ⟨rfl, rfl⟩
set_option maxHeartbeats 400000 in
theorem many_k11 (w : World) : Calls Tryz.prog 60 #[.int .i64 11] w fun e w' => e = .returned (.int .i64 (manyI 11)) ∧ w = w' := by
  go_enter Tryz.func60, Tryz.ntmps60
  go_wp2_with (go_at_call 22; refine (between_t _ _ _ _ (by decide) (by decide)).mono ?_; rintro e w2 ⟨rfl, rfl⟩)
  go_ret
  exact ⟨rfl, rfl⟩
set_option maxHeartbeats 400000 in
theorem many_k12 (w : World) : Calls Tryz.prog 60 #[.int .i64 12] w fun e w' => e = .returned (.int .i64 (manyI 12)) ∧ w = w' := by
  go_enter Tryz.func60, Tryz.ntmps60
  go_wp2_with (go_at_call 22; refine (between_t _ _ _ _ (by decide) (by decide)).mono ?_; rintro e w2 ⟨rfl, rfl⟩)
  go_ret
  exact ⟨rfl, rfl⟩
set_option maxHeartbeats 400000 in
theorem many_k13 (w : World) : Calls Tryz.prog 60 #[.int .i64 13] w fun e w' => e = .returned (.int .i64 (manyI 13)) ∧ w = w' := by
  go_enter Tryz.func60, Tryz.ntmps60
  go_wp2_with (go_at_call 22; refine (between_t _ _ _ _ (by decide) (by decide)).mono ?_; rintro e w2 ⟨rfl, rfl⟩)
  go_ret
  exact ⟨rfl, rfl⟩
set_option maxHeartbeats 400000 in
theorem many_k14 (w : World) : Calls Tryz.prog 60 #[.int .i64 14] w fun e w' => e = .returned (.int .i64 (manyI 14)) ∧ w = w' := by
  go_enter Tryz.func60, Tryz.ntmps60
  go_wp2_with (go_at_call 22; refine (between_t _ _ _ _ (by decide) (by decide)).mono ?_; rintro e w2 ⟨rfl, rfl⟩)
  go_ret
  exact ⟨rfl, rfl⟩
set_option maxHeartbeats 400000 in
theorem many_k15 (w : World) : Calls Tryz.prog 60 #[.int .i64 15] w fun e w' => e = .returned (.int .i64 (manyI 15)) ∧ w = w' := by
  go_enter Tryz.func60, Tryz.ntmps60
  go_wp2_with (go_at_call 22; refine (between_t _ _ _ _ (by decide) (by decide)).mono ?_; rintro e w2 ⟨rfl, rfl⟩)
  go_ret
  exact ⟨rfl, rfl⟩
end Go.Proofs.YtkojdigaoihkpaaGreatDoor

end
section
namespace Go.Proofs.YtkojdigaoihkpaaGreatDoor
set_option linter.unusedVariables false
set_option linter.unusedSimpArgs false
set_option maxRecDepth 100000
open Go.RowKit

set_option maxHeartbeats 400000 in
theorem many_k16 (w : World) : Calls Tryz.prog 60 #[.int .i64 16] w fun e w' => e = .returned (.int .i64 (manyI 16)) ∧ w = w' := by
  go_enter Tryz.func60, Tryz.ntmps60
  go_wp2
  go_ret
  exact ⟨rfl, rfl⟩
set_option maxHeartbeats 400000 in
theorem many_k17 (w : World) : Calls Tryz.prog 60 #[.int .i64 17] w fun e w' => e = .returned (.int .i64 (manyI 17)) ∧ w = w' := by
  go_enter Tryz.func60, Tryz.ntmps60
  go_wp2
  go_ret
  exact ⟨rfl, rfl⟩
set_option maxHeartbeats 1000000 in
theorem many_none (k : Int) (w : World) (h : ¬ (1 ≤ k ∧ k ≤ 17)) : Calls Tryz.prog 60 #[.int .i64 k] w fun e w' => e = .returned (.int .i64 (manyI k)) ∧ w = w' := by
  have HE : Hid (manyI k = -1) := by show _ = _; rw [manyI, if_neg h]
  have HN : Hid (k < 7 ∨ 15 < k) := by show _ ∨ _; omega
  have h1 : ¬ k = 1 := by omega
  have h2 : ¬ k = 2 := by omega
  have h3 : ¬ k = 3 := by omega
  have h4 : ¬ k = 4 := by omega
  have h5 : ¬ k = 5 := by omega
  have h6 : ¬ k = 6 := by omega
  have h9 : ¬ k = 9 := by omega
  have h16 : ¬ k = 16 := by omega
  have h17 : ¬ k = 17 := by omega
  clear h
  go_enter Tryz.func60, Tryz.ntmps60
  go_wp2_with (go_at_call 22; refine (between_f _ _ _ _ HN.out).mono ?_; rintro e w2 ⟨rfl, rfl⟩)
  go_ret
  exact ⟨by rw [HE.out]; rfl, rfl⟩
theorem many_to (k : Int) (w : World) (x : Int) (hx : manyI k = x) : Calls Tryz.prog 60 #[.int .i64 k] w fun e w' => e = .returned (.int .i64 x) ∧ w = w' := by
  subst hx
  by_cases h : 1 ≤ k ∧ k ≤ 17
  · have hk : k = 1 ∨ k = 2 ∨ k = 3 ∨ k = 4 ∨ k = 5 ∨ k = 6 ∨ k = 7 ∨ k = 8 ∨ k = 9 ∨ k = 10 ∨ k = 11 ∨ k = 12 ∨ k = 13 ∨ k = 14 ∨ k = 15 ∨ k = 16 ∨ k = 17 := by omega
    rcases hk with rfl | rfl | rfl | rfl | rfl | rfl | rfl | rfl | rfl | rfl | rfl | rfl | rfl | rfl | rfl | rfl | rfl
    · exact many_k1 w
    · exact many_k2 w
    · exact many_k3 w
    · exact many_k4 w
    · exact many_k5 w
    · exact many_k6 w
    · exact many_k7 w
    · exact many_k8 w
    · exact many_k9 w
    · exact many_k10 w
    · exact many_k11 w
    · exact many_k12 w
    · exact many_k13 w
    · exact many_k14 w
    · exact many_k15 w
    · exact many_k16 w
    · exact many_k17 w
  · exact many_none k w h
def askI (k : Int) : Bool := decide (1 ≤ k ∧ k ≤ 3) || decide (11 ≤ k ∧ k ≤ 13)
set_option maxHeartbeats 1000000 in
theorem asked_to (k : Int) (w : World) (x : Bool) (hx : askI k = x) : Calls Tryz.prog 45 #[.int .i64 k] w fun e w' => e = .returned (.bool x) ∧ w = w' := by
  by_cases h1 : 1 ≤ k ∧ k ≤ 3
  · have HX : Hid (x = true) := by show _ = _; rw [← hx, askI, decide_eq_true h1, Bool.true_or]
    clear hx
    go_enter Tryz.func45, Tryz.ntmps45
    go_wp2_with (go_at_call 22; refine (between_t _ _ _ _ h1.1 h1.2).mono ?_; rintro e w2 ⟨rfl, rfl⟩)
    go_ret
    exact ⟨by rw [HX.out]; rfl, rfl⟩
  · have g1 : k < 1 ∨ 3 < k := by omega
    by_cases h2 : 11 ≤ k ∧ k ≤ 13
    · have HX : Hid (x = true) := by show _ = _; rw [← hx, askI, decide_eq_true h2, Bool.or_true]
      clear hx
      go_enter Tryz.func45, Tryz.ntmps45
      go_wp2_with (first | (go_at_call_of 22 (Value.int .i64 3); refine (between_f _ _ _ _ g1).mono ?_; rintro e w2 ⟨rfl, rfl⟩) | (go_at_call 22; refine (between_t _ _ _ _ h2.1 h2.2).mono ?_; rintro e w2 ⟨rfl, rfl⟩))
      go_ret
      exact ⟨by rw [HX.out]; rfl, rfl⟩
    · have g2 : k < 11 ∨ 13 < k := by omega
      have HX : Hid (x = false) := by show _ = _; rw [← hx, askI, decide_eq_false h1, decide_eq_false h2]; rfl
      clear hx
      go_enter Tryz.func45, Tryz.ntmps45
      go_wp2_with (first | (go_at_call_of 22 (Value.int .i64 3); refine (between_f _ _ _ _ g1).mono ?_; rintro e w2 ⟨rfl, rfl⟩) | (go_at_call 22; refine (between_f _ _ _ _ g2).mono ?_; rintro e w2 ⟨rfl, rfl⟩))
      go_ret
      exact ⟨by rw [HX.out]; rfl, rfl⟩
theorem frm_parts1 {k n : Int} {d : List Int} {c : Nat} (h : frm k n d c = true) : (1 ≤ k ∧ k ≤ 17) ∧ c = many k.toNat ∧ dok k.toNat d = true ∧ nok k.toNat n = true := by
  simp only [frm, frmN, Bool.and_eq_true, decide_eq_true_eq] at h
  exact ⟨h.1, h.2.1.1, h.2.1.2, h.2.2⟩
theorem may_not {k n : Int} {d : List Int} {L : List (List Int)} (h : ¬ (frm k n d L.length = true ∧ L.all okd = true)) : may k n d L = false := by
  cases e : may k n d L with
  | false => rfl
  | true => simp only [may, Bool.and_eq_true] at e; exact absurd e h
theorem ask_eq {k : Int} (h : 1 ≤ k ∧ k ≤ 17) : askI k = asked k.toNat := by
  simp only [askI, asked]
  rw [Bool.eq_iff_iff]
  simp
  omega
theorem nok_zero {k n : Int} (h : 1 ≤ k ∧ k ≤ 17) (h3 : ¬ k = 3) (h8 : ¬ k = 8) (h15 : ¬ k = 15) (h17 : ¬ k = 17) : nok k.toNat n = decide (n = 0) := by
  rw [nok, if_neg (by omega), if_neg (by omega)]
set_option maxHeartbeats 8000000 in
theorem may_to {vd v : Value} {d : List Int} {L : List (List Int)} {w : World} (k n : Int) (q : Bool) (hd : Ints w vd d) (hl : IntsL w v L) (h2 : L.length ≤ 2) (hq : may k n d L = q) :
    Calls Tryz.prog 83 #[.int .i64 k, .int .i64 n, vd, v] w fun e w' => e = .returned (.bool q) ∧ Below w.heap.size w w' := by
  obtain ⟨_, va, vc, ev, hvc, hcell⟩ := hl
  obtain ⟨m, hm⟩ : ∃ m, L.length = m := ⟨_, rfl⟩
  rw [hm] at ev h2 hvc
  subst ev
  have HM : Hid (L.length = m) := hm
  obtain ⟨da, dc, rfl⟩ := hd.shape
  obtain ⟨dn, hdn⟩ : ∃ x, d.length = x := ⟨_, rfl⟩
  rw [hdn] at hd ⊢
  have HDN : Hid (d.length = dn) := hdn
  have HD : Hid (Ints w (.slice da dn dc) d) := hd
  have HL : Hid (∀ i (h : i < L.length), ∃ b off x, va = some ⟨b, off, none⟩ ∧ w.cell? ⟨b, off + i, none⟩ = some x ∧ Ints w x L[i]) := hcell
  have HQ : Hid (may k n d L = q) := hq
  clear hd hm hcell hdn hq
  by_cases hk : 1 ≤ k ∧ k ≤ 17
  · have hmany : manyI k = many k.toNat := by rw [manyI, if_pos hk]
    obtain ⟨mk, hmk⟩ : ∃ x, many k.toNat = x := ⟨_, rfl⟩
    rw [hmk] at hmany
    have HMK : Hid (many k.toNat = mk) := hmk
    have HMY : Hid (manyI k = mk) := hmany
    have HK : Hid (1 ≤ k ∧ k ≤ 17) := hk
    clear hmany hmk
    by_cases hmm : m = mk
    · subst hmm
      have hge : ¬ (m : Int) < 0 := by omega
      clear hk
      go_enter Tryz.func83, Tryz.ntmps83
      go_wp2_with (go_at_call 60; refine (many_to k w m HMY.out).mono ?_; rintro e w' ⟨rfl, rfl⟩)
      go_loopw [9] (fun i w' => ∃ (j : Nat), j ≤ m ∧ i = .int .i64 j ∧ Hid (∀ q (h : q < L.length), q < j → okd L[q] = true) ∧ Hid (Below w.heap.size w w')) (fun i _ => m - (intOf i).toNat)
      case atStart => exact ⟨0, Nat.zero_le _, rfl, fun q h1 h2 => by omega, Below.refl _ _⟩
      case round =>
        obtain ⟨j, hj, rfl, HK1, HB⟩ := hrel
        by_cases hlt : j < m
        · have hlt' : j < L.length := by rw [HM.out]; exact hlt
          obtain ⟨b, off, x, rfl, c0, hx⟩ := HL.out j hlt'
          have d0 := cell_later HB.out c0
          have HX : Hid (Ints wr x L[j]) := hx.later HB.out
          obtain ⟨xa, xn, xc, rfl⟩ := hx.shape3
          clear c0 hx
          cases hok : okd L[j] with
          | false =>
            have HO : Hid (okd L[j] = false) := hok
            have HQ2 : Hid (q = false) := by
              show _ = _
              rw [← HQ.out]
              refine may_not fun h => ?_
              rw [List.all_eq_true] at h
              have := h.2 L[j] (List.getElem_mem hlt')
              rw [hok] at this
              cases this
            clear hok
            go_wp2_with (go_at_call 98; refine (rdims_to false HX.out HO.out).mono ?_; rintro e w2 ⟨rfl, rfl⟩)
            go_ret
            exact ⟨by rw [HQ2.out]; rfl, HB.out⟩
          | true =>
            have HO : Hid (okd L[j] = true) := hok
            clear hok
            go_wp2_with (go_at_call 98; refine (rdims_to true HX.out HO.out).mono ?_; rintro e w2 ⟨rfl, rfl⟩)
            go_roundw
            case rel =>
              refine ⟨j + 1, by omega, by go_num, fun q h1 h2 => ?_, HB.out⟩
              by_cases e : q = j
              · subst e; exact HO.out
              · exact HK1.out q h1 (by omega)
            case measure => simp [intOf]; omega
        · obtain rfl : j = m := by omega
          have hall : L.all okd = true := by
            rw [List.all_eq_true]
            intro t ht
            obtain ⟨q, hq, rfl⟩ := List.getElem_of_mem ht
            exact HK1.out q hq (by rw [← HM.out]; exact hq)
          have HQ2 : Hid (q = (dok k.toNat d && nok k.toNat n)) := by
            show _ = _
            rw [← HQ.out, may, hall, frm, frmN, HM.out, decide_eq_true HK.out, decide_eq_true HMK.out.symm]
            simp
          clear hall HQ HK1
          cases hask : asked k.toNat with
          | true =>
            have HA : Hid (askI k = true) := by show _ = _; rw [ask_eq HK.out]; exact hask
            cases hok : okd d with
            | true =>
              have HO : Hid (okd d = true) := hok
              have HQ3 : Hid (q = nok k.toNat n) := by show _ = _; rw [HQ2.out, dok, hask, if_pos rfl, hok, Bool.true_and]
              clear hok
              by_cases h3 : k = 3
              · subst h3
                have HQ4 : Hid (q = true) := by show _ = _; rw [HQ3.out]; rfl
                go_wp2_with (first | (go_at_call 45; refine (asked_to _ _ true HA.out).mono ?_; rintro e w2 ⟨rfl, rfl⟩) | (go_at_call 98; refine (rdims_to true (HD.out.later HB.out) HO.out).mono ?_; rintro e w2 ⟨rfl, rfl⟩))
                go_ret
                exact ⟨by rw [HQ4.out]; rfl, HB.out⟩
              · skip
                have h8 : ¬ k = 8 := by rintro rfl; exact absurd hask (by decide)
                have h15 : ¬ k = 15 := by rintro rfl; exact absurd hask (by decide)
                have h17 : ¬ k = 17 := by rintro rfl; exact absurd hask (by decide)
                by_cases hn : n = 0
                · have HQ4 : Hid (q = true) := by show _ = _; rw [HQ3.out, nok_zero HK.out h3 h8 h15 h17]; exact decide_eq_true hn
                  subst hn
                  go_wp2_with (first | (go_at_call 45; refine (asked_to _ _ true HA.out).mono ?_; rintro e w2 ⟨rfl, rfl⟩) | (go_at_call 98; refine (rdims_to true (HD.out.later HB.out) HO.out).mono ?_; rintro e w2 ⟨rfl, rfl⟩))
                  go_ret
                  exact ⟨by rw [HQ4.out]; rfl, HB.out⟩
                · have HQ4 : Hid (q = false) := by show _ = _; rw [HQ3.out, nok_zero HK.out h3 h8 h15 h17]; exact decide_eq_false hn
                  have hn0 : (n == 0) = false := by simpa using hn
                  go_wp2_with (first | (go_at_call 45; refine (asked_to _ _ true HA.out).mono ?_; rintro e w2 ⟨rfl, rfl⟩) | (go_at_call 98; refine (rdims_to true (HD.out.later HB.out) HO.out).mono ?_; rintro e w2 ⟨rfl, rfl⟩))
                  go_ret
                  exact ⟨by rw [HQ4.out]; simp [hn], HB.out⟩
            | false =>
              have HO : Hid (okd d = false) := hok
              have HQ4 : Hid (q = false) := by show _ = _; rw [HQ2.out, dok, hask, if_pos rfl, hok, Bool.false_and]
              clear hok hask
              go_wp2_with (first | (go_at_call 45; refine (asked_to _ _ true HA.out).mono ?_; rintro e w2 ⟨rfl, rfl⟩) | (go_at_call 98; refine (rdims_to false (HD.out.later HB.out) HO.out).mono ?_; rintro e w2 ⟨rfl, rfl⟩))
              go_ret
              exact ⟨by rw [HQ4.out]; rfl, HB.out⟩
          | false =>
            have HA : Hid (askI k = false) := by show _ = _; rw [ask_eq HK.out]; exact hask
            by_cases hdn : dn = 0
            · have HQ3 : Hid (q = nok k.toNat n) := by show _ = _; rw [HQ2.out, dok, hask, if_neg (by decide), HDN.out, decide_eq_true hdn, Bool.true_and]
              have hgt : ¬ (0 : Int) < (dn : Int) := by omega
              have h3 : ¬ k = 3 := by rintro rfl; exact absurd hask (by decide)
              by_cases h8 : k = 8
              · subst h8
                have HQ4 : Hid (q = true) := by show _ = _; rw [HQ3.out]; rfl
                go_wp2_with (go_at_call 45; refine (asked_to _ _ false HA.out).mono ?_; rintro e w2 ⟨rfl, rfl⟩)
                go_ret
                exact ⟨by rw [HQ4.out]; rfl, HB.out⟩
              · skip
                by_cases h15 : k = 15
                · subst h15
                  by_cases hn : 1 ≤ n ∧ n ≤ 8
                  · obtain ⟨hn1, hn2⟩ := hn
                    have HQ4 : Hid (q = true) := by show _ = _; rw [HQ3.out]; show decide _ = _; exact decide_eq_true ⟨hn1, hn2⟩
                    go_wp2_with (first | (go_at_call 45; refine (asked_to _ _ false HA.out).mono ?_; rintro e w2 ⟨rfl, rfl⟩) | (go_at_call 22; refine (between_t _ _ _ _ hn1 hn2).mono ?_; rintro e w2 ⟨rfl, rfl⟩))
                    go_ret
                    exact ⟨by rw [HQ4.out]; rfl, HB.out⟩
                  · have HQ4 : Hid (q = false) := by show _ = _; rw [HQ3.out]; show decide _ = _; exact decide_eq_false hn
                    have HN : Hid (n < 1 ∨ 8 < n) := by show _ ∨ _; omega
                    clear hn
                    go_wp2_with (first | (go_at_call 45; refine (asked_to _ _ false HA.out).mono ?_; rintro e w2 ⟨rfl, rfl⟩) | (go_at_call 22; refine (between_f _ _ _ _ HN.out).mono ?_; rintro e w2 ⟨rfl, rfl⟩))
                    go_ret
                    exact ⟨by rw [HQ4.out]; rfl, HB.out⟩
                · skip
                  by_cases h17 : k = 17
                  · subst h17
                    by_cases hn : 1 ≤ n ∧ n ≤ 8
                    · obtain ⟨hn1, hn2⟩ := hn
                      have HQ4 : Hid (q = true) := by show _ = _; rw [HQ3.out]; show decide _ = _; exact decide_eq_true ⟨hn1, hn2⟩
                      go_wp2_with (first | (go_at_call 45; refine (asked_to _ _ false HA.out).mono ?_; rintro e w2 ⟨rfl, rfl⟩) | (go_at_call 22; refine (between_t _ _ _ _ hn1 hn2).mono ?_; rintro e w2 ⟨rfl, rfl⟩))
                      go_ret
                      exact ⟨by rw [HQ4.out]; rfl, HB.out⟩
                    · have HQ4 : Hid (q = false) := by show _ = _; rw [HQ3.out]; show decide _ = _; exact decide_eq_false hn
                      have HN : Hid (n < 1 ∨ 8 < n) := by show _ ∨ _; omega
                      clear hn
                      go_wp2_with (first | (go_at_call 45; refine (asked_to _ _ false HA.out).mono ?_; rintro e w2 ⟨rfl, rfl⟩) | (go_at_call 22; refine (between_f _ _ _ _ HN.out).mono ?_; rintro e w2 ⟨rfl, rfl⟩))
                      go_ret
                      exact ⟨by rw [HQ4.out]; rfl, HB.out⟩
                  · skip
                    by_cases hn : n = 0
                    · have HQ4 : Hid (q = true) := by show _ = _; rw [HQ3.out, nok_zero HK.out h3 h8 h15 h17]; exact decide_eq_true hn
                      subst hn
                      go_wp2_with (go_at_call 45; refine (asked_to _ _ false HA.out).mono ?_; rintro e w2 ⟨rfl, rfl⟩)
                      go_ret
                      exact ⟨by rw [HQ4.out]; rfl, HB.out⟩
                    · have HQ4 : Hid (q = false) := by show _ = _; rw [HQ3.out, nok_zero HK.out h3 h8 h15 h17]; exact decide_eq_false hn
                      have hn0 : (n == 0) = false := by simpa using hn
                      go_wp2_with (go_at_call 45; refine (asked_to _ _ false HA.out).mono ?_; rintro e w2 ⟨rfl, rfl⟩)
                      go_ret
                      exact ⟨by rw [HQ4.out]; simp [hn], HB.out⟩
            · have HQ4 : Hid (q = false) := by show _ = _; rw [HQ2.out, dok, hask, if_neg (by decide), HDN.out, decide_eq_false hdn, Bool.false_and]
              have hgt : (0 : Int) < (dn : Int) := by omega
              clear hask
              go_wp2_with (go_at_call 45; refine (asked_to _ _ false HA.out).mono ?_; rintro e w2 ⟨rfl, rfl⟩)
              go_ret
              exact ⟨by rw [HQ4.out]; rfl, HB.out⟩
    · have hmm' : ((m : Int) != (mk : Int)) = true := by simp; omega
      have hge : ¬ (mk : Int) < 0 := by omega
      have HQ2 : Hid (q = false) := by
        show _ = _
        rw [← HQ.out]
        refine may_not fun h => ?_
        have := (frm_parts1 h.1).2.1
        rw [HM.out, HMK.out] at this
        exact hmm this
      clear HQ hk hmm
      go_enter Tryz.func83, Tryz.ntmps83
      go_wp2_with (go_at_call 60; refine (many_to k w mk HMY.out).mono ?_; rintro e w' ⟨rfl, rfl⟩)
      go_ret
      exact ⟨by rw [HQ2.out]; rfl, Below.refl _ _⟩
  · have HMY : Hid (manyI k = -1) := by show _ = _; rw [manyI, if_neg hk]
    have HQ2 : Hid (q = false) := by
      show _ = _
      rw [← HQ.out]
      exact may_not fun h => hk (frm_parts1 h.1).1
    clear HQ hk
    go_enter Tryz.func83, Tryz.ntmps83
    go_wp2_with (go_at_call 60; refine (many_to k w (-1) HMY.out).mono ?_; rintro e w' ⟨rfl, rfl⟩)
    go_ret
    exact ⟨by rw [HQ2.out]; rfl, Below.refl _ _⟩
theorem row_two {w : World} {B : Nat} {v : Value} {a b : List Int} {xs : List Value} (h : Row w B v [a, b] xs) :
    ∃ P c x0 x1, v = .slice (some ⟨P, 0, none⟩) 2 c ∧ 2 ≤ c ∧ w.cell? ⟨P, 0, none⟩ = some x0 ∧ w.cell? ⟨P, 1, none⟩ = some x1 ∧ Ints w x0 a ∧ Ints w x1 b := by
  rcases h.own.2 with ⟨_, h0⟩ | ⟨g, cap, cur, rfl, h1, hh, h2, h3, h4, h5⟩
  · simp at h0
  · obtain ⟨x, hx, he⟩ := h.elt 0 (by simp)
    obtain ⟨y, hy, hf⟩ := h.elt 1 (by simp)
    exact ⟨g, cap, x, y, rfl, h2, by rw [h.own.cellAt 0 (by simp)]; exact hx, by rw [h.own.cellAt 1 (by simp)]; exact hy, he.1, hf.1⟩
theorem row_one {w : World} {B : Nat} {v : Value} {a : List Int} {xs : List Value} (h : Row w B v [a] xs) :
    ∃ P c x0, v = .slice (some ⟨P, 0, none⟩) 1 c ∧ 1 ≤ c ∧ w.cell? ⟨P, 0, none⟩ = some x0 ∧ Ints w x0 a := by
  rcases h.own.2 with ⟨_, h0⟩ | ⟨g, cap, cur, rfl, h1, hh, h2, h3, h4, h5⟩
  · simp at h0
  · obtain ⟨x, hx, he⟩ := h.elt 0 (by simp)
    exact ⟨g, cap, x, rfl, h2, by rw [h.own.cellAt 0 (by simp)]; exact hx, he.1⟩
theorem one_of {α : Type} {L : List α} (h : L.length = 1) : ∃ a, L = [a] := by
  match L, h with
  | [a], _ => exact ⟨a, rfl⟩
theorem pair_of {α : Type} {L : List α} (h : L.length = 2) : ∃ a b, L = [a, b] := by
  match L, h with
  | [a, b], _ => exact ⟨a, b, rfl⟩
theorem infer_to {vd v : Value} {d : List Int} {L : List (List Int)} {xs : List Value} {B : Nat} {w : World} (k n : Int) (hm : may k n d L = true) (hd : Ints w vd d) (hl : Row w B v L xs) (ok : Bool) (hx : inf k.toNat n d (L.getD 0 []) (L.getD 1 []) = ok) :
    Calls Tryz.prog 85 #[.int .i64 k, .int .i64 n, vd, v] w fun e w' => ∃ x z, e = .returned (.tuple #[x, .bool ok]) ∧ Own w' w.heap.size x z ∧ (ok = true → z = inD k.toNat n d (L.getD 0 []) (L.getD 1 [])) ∧ Below w.heap.size w w' := by
  simp only [may, Bool.and_eq_true] at hm
  obtain ⟨hf, hall⟩ := hm
  obtain ⟨hk, hc, hdk, hnk⟩ := frm_parts1 hf
  have hk' : k = 1 ∨ k = 2 ∨ k = 3 ∨ k = 4 ∨ k = 5 ∨ k = 6 ∨ k = 7 ∨ k = 8 ∨ k = 9 ∨ k = 10 ∨ k = 11 ∨ k = 12 ∨ k = 13 ∨ k = 14 ∨ k = 15 ∨ k = 16 ∨ k = 17 := by omega
  rcases hk' with rfl | rfl | rfl | rfl | rfl | rfl | rfl | rfl | rfl | rfl | rfl | rfl | rfl | rfl | rfl | rfl | rfl
  · subst hx
    refine (infer_k1 n hd).mono ?_
    rintro e w' ⟨x, rfl, ho, hb⟩
    exact ⟨x, _, rfl, ho, fun _ => rfl, hb⟩
  · subst hx
    refine (infer_k2 n hd).mono ?_
    rintro e w' ⟨x, rfl, ho, hb⟩
    exact ⟨x, _, rfl, ho, fun _ => rfl, hb⟩
  · subst hx
    refine (infer_k3 n hd).mono ?_
    rintro e w' ⟨x, rfl, ho, hb⟩
    exact ⟨x, _, rfl, ho, fun _ => rfl, hb⟩
  · obtain ⟨a, b, rfl⟩ := pair_of (show L.length = 2 from hc)
    obtain ⟨P, c, x0, x1, rfl, h2, c0, c1, i0, i1⟩ := row_two hl
    refine (infer_k4 n h2 i0 i1 c0 c1 ok hx).mono ?_
    rintro e w' ⟨x, rfl, ho, hb⟩
    exact ⟨x, _, rfl, ho, fun _ => rfl, hb⟩
  · obtain ⟨a, b, rfl⟩ := pair_of (show L.length = 2 from hc)
    obtain ⟨P, c, x0, x1, rfl, h2, c0, c1, i0, i1⟩ := row_two hl
    refine (infer_k5 n h2 i0 i1 c0 c1 ok hx).mono ?_
    rintro e w' ⟨x, rfl, ho, hb⟩
    exact ⟨x, _, rfl, ho, fun _ => rfl, hb⟩
  · obtain ⟨a, b, rfl⟩ := pair_of (show L.length = 2 from hc)
    obtain ⟨P, c, x0, x1, rfl, h2, c0, c1, i0, i1⟩ := row_two hl
    refine (infer_k6 n h2 i0 i1 c0 c1 ok hx).mono ?_
    rintro e w' ⟨x, rfl, ho, hb⟩
    exact ⟨x, _, rfl, ho, fun _ => rfl, hb⟩
  · subst hx
    obtain ⟨a, rfl⟩ := one_of (show L.length = 1 from hc)
    obtain ⟨P, c, x0, rfl, h2, c0, i0⟩ := row_one hl
    refine (infer_k7 n h2 i0 c0).mono ?_
    rintro e w' ⟨x, rfl, ho, hb⟩
    exact ⟨x, _, rfl, ho, fun _ => rfl, hb⟩
  · subst hx
    obtain ⟨a, rfl⟩ := one_of (show L.length = 1 from hc)
    obtain ⟨P, c, x0, rfl, h2, c0, i0⟩ := row_one hl
    refine (infer_k8 n h2 i0 c0).mono ?_
    rintro e w' ⟨x, rfl, ho, hb⟩
    exact ⟨x, _, rfl, ho, fun _ => rfl, hb⟩
  · obtain ⟨a, b, rfl⟩ := pair_of (show L.length = 2 from hc)
    obtain ⟨P, c, x0, x1, rfl, h2, c0, c1, i0, i1⟩ := row_two hl
    by_cases h : a.length = 2 ∧ b.length = 2 ∧ a.getD 1 0 = b.getD 0 0
    · have ho : ok = true := by rw [← hx]; exact decide_eq_true h
      subst ho
      obtain ⟨p, q, rfl⟩ := two_of h.1
      obtain ⟨q', r, rfl⟩ := two_of h.2.1
      have e : q = q' := h.2.2
      subst e
      refine (infer_k9_ok n h2 i0 i1 c0 c1).mono ?_
      rintro e w' ⟨x, rfl, ho, hb⟩
      exact ⟨x, _, rfl, ho, fun _ => rfl, hb⟩
    · have ho : ok = false := by rw [← hx]; exact decide_eq_false h
      subst ho
      refine (infer_k9_four n h2 i0 i1 c0 c1 h).mono ?_
      rintro e w' ⟨x, rfl, ho, hb⟩
      exact ⟨x, _, rfl, ho, (fun h => by cases h), hb⟩
  · obtain ⟨a, rfl⟩ := one_of (show L.length = 1 from hc)
    obtain ⟨P, c, x0, rfl, h2, c0, i0⟩ := row_one hl
    by_cases h : a.length = 2
    · have ho : ok = true := by rw [← hx]; exact decide_eq_true h
      subst ho
      obtain ⟨p, q, rfl⟩ := two_of h
      refine (infer_k10_ok n h2 i0 c0).mono ?_
      rintro e w' ⟨x, rfl, ho, hb⟩
      exact ⟨x, _, rfl, ho, fun _ => rfl, hb⟩
    · have ho : ok = false := by rw [← hx]; exact decide_eq_false h
      subst ho
      refine (infer_k10_four n h2 i0 c0 h).mono ?_
      rintro e w' ⟨x, rfl, ho, hb⟩
      exact ⟨x, _, rfl, ho, (fun h => by cases h), hb⟩
  · obtain ⟨a, rfl⟩ := one_of (show L.length = 1 from hc)
    obtain ⟨P, c, x0, rfl, h2, c0, i0⟩ := row_one hl
    refine (infer_k11 n ok h2 hd i0 c0 (by simpa using hall) hdk hx).mono ?_
    rintro e w' ⟨x, rfl, ho, hb⟩
    exact ⟨x, _, rfl, ho, fun _ => rfl, hb⟩
  · obtain ⟨a, rfl⟩ := one_of (show L.length = 1 from hc)
    obtain ⟨P, c, x0, rfl, h2, c0, i0⟩ := row_one hl
    refine (infer_k12 n ok h2 hd i0 c0 hx).mono ?_
    rintro e w' ⟨x, rfl, ho, hb⟩
    exact ⟨x, _, rfl, ho, fun _ => rfl, hb⟩
  · obtain ⟨a, rfl⟩ := one_of (show L.length = 1 from hc)
    obtain ⟨P, c, x0, rfl, h2, c0, i0⟩ := row_one hl
    refine (infer_k13 n ok h2 hd i0 c0 hx).mono ?_
    rintro e w' ⟨x, rfl, ho, hb⟩
    exact ⟨x, _, rfl, ho, fun _ => rfl, hb⟩
  · subst hx
    obtain ⟨a, rfl⟩ := one_of (show L.length = 1 from hc)
    obtain ⟨P, c, x0, rfl, h2, c0, i0⟩ := row_one hl
    refine (infer_k14 n h2 i0 c0).mono ?_
    rintro e w' ⟨x, rfl, ho, hb⟩
    exact ⟨x, _, rfl, ho, fun _ => rfl, hb⟩
  · obtain ⟨a, rfl⟩ := one_of (show L.length = 1 from hc)
    obtain ⟨P, c, x0, rfl, h2, c0, i0⟩ := row_one hl
    have hn : 1 ≤ n ∧ n ≤ 8 := by simpa [nok] using hnk
    obtain ⟨m, rfl⟩ : ∃ m : Nat, n = m := ⟨n.toNat, by omega⟩
    have ha : okd a = true := by simpa using hall
    by_cases h : lastD a % (m : Int) = 0
    · have ho : ok = true := by rw [← hx]; exact decide_eq_true h
      subst ho
      refine (infer_k15_ok (b0 := x0) (d1 := a) m h2 i0 ha (by omega) (by omega) c0 h).mono ?_
      rintro e w' ⟨x, rfl, ho, hb⟩
      exact ⟨x, _, rfl, ho, fun _ => rfl, hb⟩
    · have ho : ok = false := by rw [← hx]; exact decide_eq_false h
      subst ho
      refine (infer_k15_four (b0 := x0) (d1 := a) m h2 i0 ha (by omega) (by omega) c0 h).mono ?_
      rintro e w' ⟨x, rfl, ho, hb⟩
      exact ⟨x, _, rfl, ho, (fun h => by cases h), hb⟩
  · obtain ⟨a, b, rfl⟩ := pair_of (show L.length = 2 from hc)
    obtain ⟨P, c, x0, x1, rfl, h2, c0, c1, i0, i1⟩ := row_two hl
    refine (infer_k16 n h2 i0 i1 c0 c1 ok hx).mono ?_
    rintro e w' ⟨x, rfl, ho, hb⟩
    exact ⟨x, _, rfl, ho, fun _ => rfl, hb⟩
  · obtain ⟨a, b, rfl⟩ := pair_of (show L.length = 2 from hc)
    obtain ⟨P, c, x0, x1, rfl, h2, c0, c1, i0, i1⟩ := row_two hl
    have hn : 1 ≤ n ∧ n ≤ 8 := by simpa [nok] using hnk
    obtain ⟨m, rfl⟩ : ∃ m : Nat, n = m := ⟨n.toNat, by omega⟩
    have ha : okd a = true := by simp at hall; exact hall.1
    by_cases h : lastD a % (m : Int) = 0
    · have hq : (lesD a (m : Int) == b) = ok := by
        rw [← hx, Bool.eq_iff_iff]
        simp [inf, h]
      refine (infer_k17_ok m h2 i0 ha (by omega) (by omega) c0 i1 c1 ok hq h).mono ?_
      rintro e w' ⟨x, rfl, ho, hb⟩
      exact ⟨x, _, rfl, ho, fun _ => rfl, hb⟩
    · have ho : ok = false := by rw [← hx]; exact decide_eq_false fun x => h x.1
      subst ho
      refine (infer_k17_four m h2 i0 ha (by omega) (by omega) c0 i1 c1 h).mono ?_
      rintro e w' ⟨x, rfl, ho, hb⟩
      exact ⟨x, _, rfl, ho, (fun h => by cases h), hb⟩
/-- A letter, a digit: of a rune's number. -/
def letR (r : Nat) : Bool := (decide (97 ≤ r) && decide (r ≤ 122)) || (decide (945 ≤ r) && decide (r ≤ 969))
def digR (r : Nat) : Bool := decide (48 ≤ r) && decide (r ≤ 57)
/-- Is what is from place p on, behind n runes, the rest of a name? -/
def nameN (s : ByteArray) : Nat → Nat → Nat → Bool
  | 0, _, _ => false
  | f + 1, p, n => if p < s.size then (if letR (Utf8.decode s p).1 || (decide (n ≠ 0) && digR (Utf8.decode s p).1) then nameN s f (p + (Utf8.decode s p).2) (n + 1) else false) else decide (1 ≤ n ∧ n ≤ 6)
def nameB (s : ByteArray) : Bool := nameN s (s.size + 1) 0 0
theorem rest_size (s : ByteArray) (p : Nat) : (s.extract p s.size).size = s.size - p := Lib.tail_size s p
theorem rest_rest (s : ByteArray) (p k : Nat) : (s.extract p s.size).extract k (s.extract p s.size).size = s.extract (p + k) s.size := by
  apply ByteArray.ext
  rw [rest_size]
  simp only [ByteArray.data_extract]
  rw [Array.extract_extract]
  congr 1
  omega
theorem rest_all (s : ByteArray) : s.extract 0 s.size = s := by
  simp
theorem decode_rest (s : ByteArray) (p : Nat) (h : p < s.size) : Lib.decodeGo (s.extract p s.size) = Utf8.decode s p := by
  have h1 : (s.extract p s.size).size ≠ 0 := by rw [rest_size]; omega
  rw [Lib.decodeGo, if_neg h1, Lib.tail_decode, Nat.add_zero]
theorem decode_le (s : ByteArray) (p : Nat) (h : p < s.size) : p + (Utf8.decode s p).2 ≤ s.size := by
  have h1 := Lib.decodeGo_le_size (s.extract p s.size)
  rw [decode_rest s p h, rest_size] at h1
  omega
theorem decode_lo (s : ByteArray) (p : Nat) : 1 ≤ (Utf8.decode s p).2 := Lib.width_pos s p
end Go.Proofs.YtkojdigaoihkpaaGreatDoor

end
