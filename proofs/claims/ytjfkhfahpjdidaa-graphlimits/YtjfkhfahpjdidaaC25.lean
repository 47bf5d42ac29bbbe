/- Carried: A0, A1, A2, A3, C28, C29. -/
import Derived.Test.YtjfkhfahpjdidaaC24
namespace Go.Proofs.Ytjfkhfahpjdidaa
set_option linter.unusedVariables false
set_option linter.unusedSimpArgs false
set_option maxRecDepth 100000
open Go.RowKit

theorem sumd_to {a0 a1 v : Value} {s : Ten} {d : List Int} {w : World} (x : Int) (u : Ten) (ha : Tens w a0 a1 s) (hd : Ints w v d) (hx : suE s d = x) (hu : suR s d = u) :
    Calls Try.prog 61 #[.agg #[a0, a1], v] w fun e w' => ∃ x0 x1, e = .returned (.tuple #[.agg #[x0, x1], .int .i64 x]) ∧ OwnT w' w.heap.size x0 x1 u ∧ Below w.heap.size w w' := by
  subst hx hu
  exact sumd_any ha hd
structure EnvA (B : Nat) (f0 f1 f2 : Value) (T : List Ten) (D : List (List Int)) (w : World) : Prop where
  b0 : w.cell? ⟨B, 0, none⟩ = some f0
  b1 : w.cell? ⟨B, 1, none⟩ = some f1
  b2 : w.cell? ⟨B, 2, none⟩ = some f2
  hT : TensL w f0 T
  hD : IntsL w f2 D
theorem EnvA.later {B : Nat} {f0 f1 f2 : Value} {T : List Ten} {D : List (List Int)} {w w' : World} (h : EnvA B f0 f1 f2 T D w) (hb : Below w.heap.size w w') : EnvA B f0 f1 f2 T D w' :=
  ⟨cell_later hb h.b0, cell_later hb h.b1, cell_later hb h.b2, h.hT.later hb, h.hD.later hb⟩
theorem IntsL.shape {w : World} {v : Value} {L : List (List Int)} (h : IntsL w v L) : ∃ a n c, v = .slice a n c := by
  obtain ⟨_, a', c', e, hc, _⟩ := h
  exact ⟨_, _, _, e⟩
theorem wide_to {a0 a1 v : Value} {s : Ten} {d : List Int} {w : World} (x : Int) (u : Ten) (ha : Tens w a0 a1 s) (hd : Ints w v d) (hx : wiE s d = x) (hu : wiR s d = u) :
    Calls Try.prog 60 #[.agg #[a0, a1], v] w fun e w' => ∃ x0 x1, e = .returned (.tuple #[.agg #[x0, x1], .int .i64 x]) ∧ OwnT w' w.heap.size x0 x1 u ∧ Below w.heap.size w w' := by
  subst hx hu
  exact wide_any ha hd
theorem shape_to {a0 a1 v : Value} {s : Ten} {d : List Int} {w : World} (x : Int) (u : Ten) (ha : Tens w a0 a1 s) (hd : Ints w v d) (hx : shE s d = x) (hu : shR s d = u) :
    Calls Try.prog 59 #[.agg #[a0, a1], v] w fun e w' => ∃ x0 x1, e = .returned (.tuple #[.agg #[x0, x1], .int .i64 x]) ∧ OwnT w' w.heap.size x0 x1 u ∧ Below w.heap.size w w' := by
  subst hx hu
  exact shape_any ha hd
set_option maxHeartbeats 1000000 in
theorem sub_any {a0 a1 b0 b1 : Value} {s t : Ten} {w : World} (ha : Tens w a0 a1 s) (hb' : Tens w b0 b1 t) :
    Calls Try.prog 53 #[.agg #[a0, a1], .agg #[b0, b1]] w fun e w' => ∃ x0 x1, e = .returned (.tuple #[.agg #[x0, x1], .int .i64 (fitE s t)]) ∧ OwnT w' w.heap.size x0 x1 (eachR opS s t) ∧ Below w.heap.size w w' := by
  have hb : Below w.heap.size w (((w.alloc (.cells #[a0, a1] 70)).alloc (.cells #[b0, b1] 70)).alloc (.cells #[.slice none 0 0, .slice none 0 0] 70)) := (((Below.refl _ _).alloc (Nat.le_refl _) _).alloc (by simp) _).alloc (by simp; omega) _
  have HA : Hid (Tens (((w.alloc (.cells #[a0, a1] 70)).alloc (.cells #[b0, b1] 70)).alloc (.cells #[.slice none 0 0, .slice none 0 0] 70)) a0 a1 s) := ha.later hb
  have HT : Hid (Tens (((w.alloc (.cells #[a0, a1] 70)).alloc (.cells #[b0, b1] 70)).alloc (.cells #[.slice none 0 0, .slice none 0 0] 70)) b0 b1 t) := hb'.later hb
  have HB : Hid (Below w.heap.size w (((w.alloc (.cells #[a0, a1] 70)).alloc (.cells #[b0, b1] 70)).alloc (.cells #[.slice none 0 0, .slice none 0 0] 70))) := hb
  have HBX : Hid (Box (((w.alloc (.cells #[a0, a1] 70)).alloc (.cells #[b0, b1] 70)).alloc (.cells #[.slice none 0 0, .slice none 0 0] 70)) (w.heap.size + 1 + 1) (.slice none 0 0) (.slice none 0 0)) := by
    have := Box.new ((w.alloc (.cells #[a0, a1] 70)).alloc (.cells #[b0, b1] 70)) (.slice none 0 0) (.slice none 0 0)
    simp only [World.size_alloc] at this
    exact this
  clear ha hb' hb
  go_enter Try.func53, Try.ntmps53
  go_wp2_with fail
  refine (each_any (op := opS) deed_sub HA.out HT.out).mono ?_
  rintro e w1 ⟨x0, x1, rfl, ho, hb1⟩
  simp only [World.size_alloc] at ho
  have HO : Hid (OwnT w1 (w.heap.size + 1 + 1 + 1) x0 x1 (eachR opS s t)) := ho
  have HB1 : Hid (Below w.heap.size w w1) := Below.after HB.out hb1
  have hbx := HBX.out.later hb1
  have hx0' := hbx.c0
  have hx1 := hbx.c1
  have hf0 := hbx.f 0
  have hf1 := hbx.f 1
  obtain ⟨xa, xc, rfl⟩ := ho.dims.ints.shape
  obtain ⟨ya, yc, rfl⟩ := ho.data.ints.shape
  have HBS : Hid (Box _ _ _ _) := hbx.set (.slice xa (eachR opS s t).1.length xc) (.slice ya (eachR opS s t).2.length yc)
  clear hb1 hbx ho
  go_wp2
  have hr0 := HBS.out.c0
  have hr1 := HBS.out.c1
  refine bodyPost_ret (v := .tuple #[.agg #[.slice xa (eachR opS s t).1.length xc, .slice ya (eachR opS s t).2.length yc], .int .i64 (fitE s t)]) (by simp [results, Try.results53, go_sem, hr0, hr1]) rfl ⟨_, _, rfl, ?_, ?_⟩
  · exact ((HO.out.setCell _ _ (by simp)).setCell _ _ (by simp)).mono (by omega)
  · exact (HB1.out.setCell (by simp; omega) _).setCell (by simp; omega) _
set_option maxHeartbeats 1000000 in
theorem neg_any {a0 a1 : Value} {s : Ten} {w : World} (ha : Tens w a0 a1 s) :
    Calls Try.prog 55 #[.agg #[a0, a1]] w fun e w' => ∃ x0 x1, e = .returned (.tuple #[.agg #[x0, x1], .int .i64 (fitE s s)]) ∧ OwnT w' w.heap.size x0 x1 (eachR opN s s) ∧ Below w.heap.size w w' := by
  have hb : Below w.heap.size w ((w.alloc (.cells #[a0, a1] 70)).alloc (.cells #[.slice none 0 0, .slice none 0 0] 70)) := ((Below.refl _ _).alloc (Nat.le_refl _) _).alloc (by simp) _
  have HA : Hid (Tens ((w.alloc (.cells #[a0, a1] 70)).alloc (.cells #[.slice none 0 0, .slice none 0 0] 70)) a0 a1 s) := ha.later hb
  have HB : Hid (Below w.heap.size w ((w.alloc (.cells #[a0, a1] 70)).alloc (.cells #[.slice none 0 0, .slice none 0 0] 70))) := hb
  have HBX : Hid (Box ((w.alloc (.cells #[a0, a1] 70)).alloc (.cells #[.slice none 0 0, .slice none 0 0] 70)) (w.heap.size + 1) (.slice none 0 0) (.slice none 0 0)) := by
    have := Box.new (w.alloc (.cells #[a0, a1] 70)) (.slice none 0 0) (.slice none 0 0)
    simp only [World.size_alloc] at this
    exact this
  clear ha hb
  go_enter Try.func55, Try.ntmps55
  go_wp2_with fail
  refine (each_any (op := opN) deed_neg HA.out HA.out).mono ?_
  rintro e w1 ⟨x0, x1, rfl, ho, hb1⟩
  simp only [World.size_alloc] at ho
  have HO : Hid (OwnT w1 (w.heap.size + 1 + 1) x0 x1 (eachR opN s s)) := ho
  have HB1 : Hid (Below w.heap.size w w1) := Below.after HB.out hb1
  have hbx := HBX.out.later hb1
  have hx0' := hbx.c0
  have hx1 := hbx.c1
  have hf0 := hbx.f 0
  have hf1 := hbx.f 1
  obtain ⟨xa, xc, rfl⟩ := ho.dims.ints.shape
  obtain ⟨ya, yc, rfl⟩ := ho.data.ints.shape
  have HBS : Hid (Box _ _ _ _) := hbx.set (.slice xa (eachR opN s s).1.length xc) (.slice ya (eachR opN s s).2.length yc)
  clear hb1 hbx ho
  go_wp2
  have hr0 := HBS.out.c0
  have hr1 := HBS.out.c1
  refine bodyPost_ret (v := .tuple #[.agg #[.slice xa (eachR opN s s).1.length xc, .slice ya (eachR opN s s).2.length yc], .int .i64 (fitE s s)]) (by simp [results, Try.results55, go_sem, hr0, hr1]) rfl ⟨_, _, rfl, ?_, ?_⟩
  · exact ((HO.out.setCell _ _ (by simp)).setCell _ _ (by simp)).mono (by omega)
  · exact (HB1.out.setCell (by simp) _).setCell (by simp) _
set_option maxHeartbeats 1000000 in
theorem scale_any {a0 a1 : Value} {s : Ten} {w : World} (n : Int) (ha : Tens w a0 a1 s) :
    Calls Try.prog 56 #[.agg #[a0, a1], .int .i64 n] w fun e w' => ∃ x0 x1, e = .returned (.tuple #[.agg #[x0, x1], .int .i64 (tkE s)]) ∧ OwnT w' w.heap.size x0 x1 (sclR n s) ∧ Below w.heap.size w w' := by
  have hb : Below w.heap.size w ((w.alloc (.cells #[a0, a1] 70)).alloc (.cells #[.slice none 0 0, .slice none 0 0] 70)) := ((Below.refl _ _).alloc (Nat.le_refl _) _).alloc (by simp) _
  have HA : Hid (Tens ((w.alloc (.cells #[a0, a1] 70)).alloc (.cells #[.slice none 0 0, .slice none 0 0] 70)) a0 a1 s) := ha.later hb
  have HB : Hid (Below w.heap.size w ((w.alloc (.cells #[a0, a1] 70)).alloc (.cells #[.slice none 0 0, .slice none 0 0] 70))) := hb
  have HBA : Hid (Box ((w.alloc (.cells #[a0, a1] 70)).alloc (.cells #[.slice none 0 0, .slice none 0 0] 70)) w.heap.size a0 a1) := (Box.new w a0 a1).alloc _
  have HBX : Hid (Box ((w.alloc (.cells #[a0, a1] 70)).alloc (.cells #[.slice none 0 0, .slice none 0 0] 70)) (w.heap.size + 1) (.slice none 0 0) (.slice none 0 0)) := by
    have := Box.new (w.alloc (.cells #[a0, a1] 70)) (.slice none 0 0) (.slice none 0 0)
    simp only [World.size_alloc] at this
    exact this
  clear ha hb
  obtain ⟨u, hu, hu2, hF⟩ : ∃ u : Ten, fitE u s = tkE s ∧ eachR opM u s = sclR n s ∧ ∀ w1 : World, Ints w1 a0 s.1 → Calls Try.prog 47 #[a0, .int .i64 n] w1 fun e w' => ∃ y0 y1 x, e = .returned (.tuple #[.agg #[y0, y1], .int .i64 x]) ∧ Tens w' y0 y1 u ∧ Below w1.heap.size w1 w' := by
    cases ho : okd s.1 with
    | true =>
      refine ⟨(s.1, List.replicate (prd s.1).toNat n), fit_fill n ho, each_fill n ho, fun w1 h1 => (fill_ok n h1 ho).mono ?_⟩
      rintro e w' ⟨a0, c0, b1, rfl, hi, hk, hb⟩
      have hp := okd_parts ho
      have hp1 := prd_lo hp.2.2.1
      exact ⟨_, _, _, rfl, ⟨hi, hk.ints _ _ (by simp) (Nat.le_refl _) (by unfold big; omega)⟩, hb⟩
    | false =>
      have ht : tkE s = 1 := by simp [tkE, tok, ho]
      refine ⟨([], []), by rw [fit_none, ht], by rw [each_none, sclR]; simp [tok, ho], fun w1 h1 => (fill_bad n h1 ho).mono ?_⟩
      rintro e w' ⟨rfl, hb⟩
      exact ⟨_, _, _, rfl, ⟨Ints.nil _, Ints.nil _⟩, hb⟩
  have HU : Hid (fitE u s = tkE s) := hu
  have HU2 : Hid (eachR opM u s = sclR n s) := hu2
  have HF : Hid (∀ w1 : World, Ints w1 a0 s.1 → Calls Try.prog 47 #[a0, .int .i64 n] w1 fun e w' => ∃ y0 y1 x, e = .returned (.tuple #[.agg #[y0, y1], .int .i64 x]) ∧ Tens w' y0 y1 u ∧ Below w1.heap.size w1 w') := hF
  clear hu hu2 hF
  go_enter Try.func56, Try.ntmps56
  go_wp2_with fail
  refine (HF.out _ HA.out.1).mono ?_
  rintro e w1 ⟨y0, y1, ey, rfl, hty, hb1⟩
  have HB1 : Hid (Below w.heap.size w w1) := Below.after HB.out hb1
  have hs1 := hb1.size
  simp at hs1
  have hbn : Below w1.heap.size w1 (w1.alloc (.cells #[y0, y1] 70)) := (Below.refl _ _).alloc (Nat.le_refl _) _
  have hca := ((HBA.out.later hb1).later hbn).c0
  have hca1 := ((HBA.out.later hb1).later hbn).c1
  have HBX2 : Hid (Box _ (w.heap.size + 1) (.slice none 0 0) (.slice none 0 0)) := (HBX.out.later hb1).later hbn
  have HY : Hid (Tens _ y0 y1 u) := hty.later hbn
  have HA2 : Hid (Tens _ a0 a1 s) := (HA.out.later hb1).later hbn
  have HB2 : Hid (Below w.heap.size w _) := Below.after HB1.out hbn
  obtain ⟨_, _, rfl⟩ := hty.1.shape
  obtain ⟨_, _, rfl⟩ := hty.2.shape
  clear hty hb1 hbn
  go_wp2_with fail
  refine (each_any (op := opM) deed_mul HY.out HA2.out).mono ?_
  rw [HU.out, HU2.out]
  rintro e w2 ⟨x0, x1, rfl, ho, hb2⟩
  simp only [World.size_alloc] at ho
  have HO : Hid (OwnT w2 (w1.heap.size + 1) x0 x1 (sclR n s)) := ho
  have HB3 : Hid (Below w.heap.size w w2) := Below.after HB2.out hb2
  have hbx := HBX2.out.later hb2
  have hx0' := hbx.c0
  have hx1 := hbx.c1
  have hf0 := hbx.f 0
  have hf1 := hbx.f 1
  obtain ⟨xa, xc, rfl⟩ := ho.dims.ints.shape
  obtain ⟨ya, yc, rfl⟩ := ho.data.ints.shape
  have HBS : Hid (Box _ _ _ _) := hbx.set (.slice xa (sclR n s).1.length xc) (.slice ya (sclR n s).2.length yc)
  clear hb2 hbx ho
  go_wp2
  have hr0 := HBS.out.c0
  have hr1 := HBS.out.c1
  refine bodyPost_ret (v := .tuple #[.agg #[.slice xa (sclR n s).1.length xc, .slice ya (sclR n s).2.length yc], .int .i64 (tkE s)]) (by simp [results, Try.results56, go_sem, hr0, hr1]) rfl ⟨_, _, rfl, ?_, ?_⟩
  · exact ((HO.out.setCell _ _ (by simp; omega)).setCell _ _ (by simp; omega)).mono (by omega)
  · exact (HB3.out.setCell (by simp) _).setCell (by simp) _
theorem sub_to {a0 a1 b0 b1 : Value} {s t : Ten} {w : World} (x : Int) (u : Ten) (ha : Tens w a0 a1 s) (hb' : Tens w b0 b1 t) (hx : fitE s t = x) (hu : eachR opS s t = u) :
    Calls Try.prog 53 #[.agg #[a0, a1], .agg #[b0, b1]] w fun e w' => ∃ x0 x1, e = .returned (.tuple #[.agg #[x0, x1], .int .i64 x]) ∧ OwnT w' w.heap.size x0 x1 u ∧ Below w.heap.size w w' := by
  subst hx hu
  exact sub_any ha hb'
theorem neg_to {a0 a1 : Value} {s : Ten} {w : World} (x : Int) (u : Ten) (ha : Tens w a0 a1 s) (hx : fitE s s = x) (hu : eachR opN s s = u) :
    Calls Try.prog 55 #[.agg #[a0, a1]] w fun e w' => ∃ x0 x1, e = .returned (.tuple #[.agg #[x0, x1], .int .i64 x]) ∧ OwnT w' w.heap.size x0 x1 u ∧ Below w.heap.size w w' := by
  subst hx hu
  exact neg_any ha
theorem scale_to {a0 a1 : Value} {s : Ten} {w : World} (n x : Int) (ha : Tens w a0 a1 s) (hx : tkE s = x) :
    Calls Try.prog 56 #[.agg #[a0, a1], .int .i64 n] w fun e w' => ∃ x0 x1, e = .returned (.tuple #[.agg #[x0, x1], .int .i64 x]) ∧ OwnT w' w.heap.size x0 x1 (sclR n s) ∧ Below w.heap.size w w' := by
  subst hx
  exact scale_any n ha
/-- The error that the layers below tell of a kind. -/
def vE (k : Nat) (n : Int) (d : List Int) (s t : Ten) : Int :=
  match k with
  | 3 => erf d
  | 4 => fitE s t
  | 5 => fitE s t
  | 6 => fitE s t
  | 7 => fitE s s
  | 8 => tkE s
  | 9 => muE s t
  | 10 => trE s
  | 11 => shE s d
  | 12 => wiE s d
  | 13 => suE s d
  | 14 => tkE s
  | 15 => fwE s n
  | 16 => fitE s t
  | 17 => pkE s t n
  | _ => 1
/-- What they tell. -/
def vR (k : Nat) (n : Int) (d : List Int) (s t : Ten) : Ten :=
  match k with
  | 3 => if okd d then (d, List.replicate (prd d).toNat n) else ([], [])
  | 4 => eachR opA s t
  | 5 => eachR opS s t
  | 6 => eachR opM s t
  | 7 => eachR opN s s
  | 8 => sclR n s
  | 9 => muR s t
  | 10 => trR s
  | 11 => shR s d
  | 12 => wiR s d
  | 13 => suR s d
  | 14 => eachR opG s s
  | 15 => mxR s n
  | 16 => eachR opG s t
  | 17 => pkR s t n
  | _ => ([], [])
def many (k : Nat) : Nat := if k ≤ 3 then 0 else if k = 4 ∨ k = 5 ∨ k = 6 ∨ k = 9 ∨ k = 16 ∨ k = 17 then 2 else 1
def asked (k : Nat) : Bool := decide (k ≤ 3 ∨ (11 ≤ k ∧ k ≤ 13))
def nok (k : Nat) (n : Int) : Bool := if k = 3 ∨ k = 8 then true else if k = 15 ∨ k = 17 then decide (1 ≤ n ∧ n ≤ 8) else decide (n = 0)
def dok (k : Nat) (d : List Int) : Bool := if asked k then okd d else decide (d.length = 0)
/-- Are a node's number, dims and how many it is made of of its kind's form? -/
def frmN (k : Nat) (n : Int) (d : List Int) (c : Nat) : Bool := decide (c = many k) && dok k d && nok k n
def frm (k n : Int) (d : List Int) (c : Nat) : Bool := decide (1 ≤ k ∧ k ≤ 17) && frmN k.toNat n d c
def frE (k n : Int) (d : List Int) (c : Nat) : Int := if frm k n d c then 0 else 1
def zT (p : List Int) : Ten := (p, List.replicate (prd p).toNat 0)
def no : Ten := ([], [])
theorem tok_zT {p : List Int} (h : okd p = true) : tok (zT p) = true := by
  have h1 := prd_lo (okd_parts h).2.2.1
  simp only [tok, zT, h, Bool.true_and, List.length_replicate, decide_eq_true_eq]
  omega
/-- Dims' error and answer. -/
def diE (k n : Int) (d : List Int) (L : List (List Int)) : Int :=
  if frm k n d L.length = true then (if k < 3 then 0 else if L.all okd = true then vE k.toNat n d ((L.map zT).getD 0 no) ((L.map zT).getD 1 no) else 1) else 1
def diR (k n : Int) (d : List Int) (L : List (List Int)) : List Int :=
  if frm k n d L.length = true then (if k < 3 then d else if L.all okd = true then (vR k.toNat n d ((L.map zT).getD 0 no) ((L.map zT).getD 1 no)).1 else []) else []
/-- May a node be; which dims, where they go together. -/
def may (k n : Int) (d : List Int) (L : List (List Int)) : Bool := frm k n d L.length && L.all okd
def inf (k : Nat) (n : Int) (d : List Int) (a b : List Int) : Bool :=
  match k with
  | 4 => a == b
  | 5 => a == b
  | 6 => a == b
  | 9 => decide (a.length = 2 ∧ b.length = 2 ∧ a.getD 1 0 = b.getD 0 0)
  | 10 => decide (a.length = 2)
  | 11 => prd d == prd a
  | 12 => wid a d
  | 13 => wid d a
  | 15 => decide (lastD a % n = 0)
  | 16 => a == b
  | 17 => decide (lastD a % n = 0 ∧ lesD a n = b)
  | _ => true
def inD (k : Nat) (n : Int) (d : List Int) (a b : List Int) : List Int :=
  match k with
  | 1 => d
  | 2 => d
  | 3 => d
  | 9 => [a.getD 0 0, b.getD 1 0]
  | 10 => [a.getD 1 0, a.getD 0 0]
  | 11 => d
  | 12 => d
  | 13 => d
  | 15 => lesD a n
  | _ => a
/-- The errors that the layers below tell hang on the dims alone. -/
theorem vE_inf {k : Nat} {n : Int} {d : List Int} {s t : Ten} (h3 : 3 ≤ k) (h17 : k ≤ 17) (hd : dok k d = true) (hn : nok k n = true) (hs : many k = 0 ∨ tok s = true) (ht : many k ≤ 1 ∨ tok t = true) :
    vE k n d s t = (if inf k n d s.1 t.1 then 0 else 4) ∧ vR k n d s t = (if inf k n d s.1 t.1 then (inD k n d s.1 t.1, (vR k n d s t).2) else ([], [])) := by
  have hk : k = 3 ∨ k = 4 ∨ k = 5 ∨ k = 6 ∨ k = 7 ∨ k = 8 ∨ k = 9 ∨ k = 10 ∨ k = 11 ∨ k = 12 ∨ k = 13 ∨ k = 14 ∨ k = 15 ∨ k = 16 ∨ k = 17 := by omega
  have hl : ∀ {a : List Int} {l : List Int}, tok (a, l) = true → (l.length : Int) = prd a := fun h => tok_len h
  rcases hk with rfl | rfl | rfl | rfl | rfl | rfl | rfl | rfl | rfl | rfl | rfl | rfl | rfl | rfl | rfl
  · have hd' : okd d = true := hd
    simp [vE, vR, inf, inD, erf, hd']
  · have h1 : tok s = true := by simpa [many] using hs
    have h2 : tok t = true := by simpa [many] using ht
    by_cases e : s.1 = t.1 <;> simp [vE, vR, inf, inD, eachR, fitE, h1, h2, e]
  · have h1 : tok s = true := by simpa [many] using hs
    have h2 : tok t = true := by simpa [many] using ht
    by_cases e : s.1 = t.1 <;> simp [vE, vR, inf, inD, eachR, fitE, h1, h2, e]
  · have h1 : tok s = true := by simpa [many] using hs
    have h2 : tok t = true := by simpa [many] using ht
    by_cases e : s.1 = t.1 <;> simp [vE, vR, inf, inD, eachR, fitE, h1, h2, e]
  · have h1 : tok s = true := by simpa [many] using hs
    simp [vE, vR, inf, inD, eachR, fitE, h1]
  · have h1 : tok s = true := by simpa [many] using hs
    simp [vE, vR, inf, inD, sclR, tkE, h1]
  · have h1 : tok s = true := by simpa [many] using hs
    have h2 : tok t = true := by simpa [many] using ht
    by_cases e : s.1.length = 2 ∧ t.1.length = 2 ∧ s.1.getD 1 0 = t.1.getD 0 0
    · have em : muE s t = 0 := by rw [muE, if_pos ⟨h1, h2⟩, if_pos e]
      have ei : inf 9 n d s.1 t.1 = true := by simp only [inf]; exact decide_eq_true e
      simp [vE, vR, muR, em, ei, inD]
    · have em : muE s t = 4 := by rw [muE, if_pos ⟨h1, h2⟩, if_neg e]
      have ei : inf 9 n d s.1 t.1 = false := by simp only [inf]; exact decide_eq_false e
      simp [vE, vR, muR, em, ei]
  · have h1 : tok s = true := by simpa [many] using hs
    by_cases e : s.1.length = 2
    · have em : trE s = 0 := by simp [trE, h1, e]
      simp [vE, vR, inf, inD, trR, em, e]
    · have em : trE s = 4 := by simp [trE, h1, e]
      simp [vE, vR, inf, inD, trR, em, e]
  · have h1 : tok s = true := by simpa [many] using hs
    have hd' : okd d = true := hd
    have hl := tok_len h1
    by_cases e : prd d = prd s.1
    · have em : shE s d = 0 := by simp [shE, h1, hd', hl, e]
      simp [vE, vR, inf, inD, shR, em, e]
    · have e' : ¬ prd s.1 = prd d := fun x => e x.symm
      have em : shE s d = 4 := by simp [shE, h1, hd', hl, e']
      simp [vE, vR, inf, inD, shR, em, e]
  · have h1 : tok s = true := by simpa [many] using hs
    have hd' : okd d = true := hd
    have h0 := tok_okd h1
    cases e : wid s.1 d with
    | true => have em : wiE s d = 0 := by simp [wiE, wdr, h1, hd', h0, e]
              simp [vE, vR, inf, inD, wiR, em, e]
    | false => have em : wiE s d = 4 := by simp [wiE, wdr, h1, hd', h0, e]
               simp [vE, vR, inf, inD, wiR, em, e]
  · have h1 : tok s = true := by simpa [many] using hs
    have hd' : okd d = true := hd
    have h0 := tok_okd h1
    cases e : wid d s.1 with
    | true => have em : suE s d = 0 := by simp [suE, wdr, h1, hd', h0, e]
              simp [vE, vR, inf, inD, suR, em, e]
    | false => have em : suE s d = 4 := by simp [suE, wdr, h1, hd', h0, e]
               simp [vE, vR, inf, inD, suR, em, e]
  · have h1 : tok s = true := by simpa [many] using hs
    simp [vE, vR, inf, inD, eachR, fitE, tkE, h1]
  · have h1 : tok s = true := by simpa [many] using hs
    have hn' : 1 ≤ n ∧ n ≤ 8 := by simpa [nok] using hn
    by_cases e : lastD s.1 % n = 0
    · have em : fwE s n = 0 := by rw [fwE, if_pos ⟨h1, hn'.1, hn'.2⟩, if_pos e]
      simp [vE, vR, inf, inD, mxR, em, e]
    · have em : fwE s n = 4 := by rw [fwE, if_pos ⟨h1, hn'.1, hn'.2⟩, if_neg e]
      simp [vE, vR, inf, inD, mxR, em, e]
  · have h1 : tok s = true := by simpa [many] using hs
    have h2 : tok t = true := by simpa [many] using ht
    by_cases e : s.1 = t.1 <;> simp [vE, vR, inf, inD, eachR, fitE, h1, h2, e]
  · have h1 : tok s = true := by simpa [many] using hs
    have h2 : tok t = true := by simpa [many] using ht
    have hn' : 1 ≤ n ∧ n ≤ 8 := by simpa [nok] using hn
    by_cases e : lastD s.1 % n = 0
    · have ef : fwE s n = 0 := by rw [fwE, if_pos ⟨h1, hn'.1, hn'.2⟩, if_pos e]
      by_cases e2 : lesD s.1 n = t.1
      · have em : pkE s t n = 0 := by simp [pkE, ef, h2, e2]
        simp [vE, vR, inf, inD, pkR, em, e, e2]
      · have e3 : ¬ t.1 = lesD s.1 n := fun x => e2 x.symm
        have em : pkE s t n = 4 := by simp [pkE, ef, h2, e3]
        simp [vE, vR, inf, inD, pkR, em, e, e2]
    · have ef : fwE s n = 4 := by rw [fwE, if_pos ⟨h1, hn'.1, hn'.2⟩, if_neg e]
      have em : pkE s t n = 4 := by simp [pkE, ef, h2]
      simp [vE, vR, inf, inD, pkR, em, e]
def askL (k : Int) : List UInt8 :=
  if k = 1 then [100]
  else if k = 2 then [100]
  else if k = 3 then [110, 100]
  else if k = 4 then [111, 111]
  else if k = 5 then [111, 111]
  else if k = 6 then [111, 111]
  else if k = 7 then [111]
  else if k = 8 then [111, 110]
  else if k = 9 then [111, 111]
  else if k = 10 then [111]
  else if k = 11 then [111, 100]
  else if k = 12 then [111, 100]
  else if k = 13 then [111, 100]
  else if k = 14 then [111]
  else if k = 15 then [111, 102]
  else if k = 16 then [111, 111]
  else if k = 17 then [111, 111, 102]
  else []
def askT (k : Int) : ByteArray := ⟨(askL k).toArray⟩
set_option maxHeartbeats 400000 in
theorem asks_k1 (w : World) : Calls Try.prog 49 #[.int .i64 1] w fun e w' => e = .returned (.string (askT 1)) ∧ w = w' := by
  go_enter Try.func49, Try.ntmps49
  go_wp2
  go_ret
  exact ⟨rfl, rfl⟩
set_option maxHeartbeats 400000 in
theorem asks_k2 (w : World) : Calls Try.prog 49 #[.int .i64 2] w fun e w' => e = .returned (.string (askT 2)) ∧ w = w' := by
  go_enter Try.func49, Try.ntmps49
  go_wp2
  go_ret
  exact ⟨rfl, rfl⟩
set_option maxHeartbeats 400000 in
theorem asks_k3 (w : World) : Calls Try.prog 49 #[.int .i64 3] w fun e w' => e = .returned (.string (askT 3)) ∧ w = w' := by
  go_enter Try.func49, Try.ntmps49
  go_wp2
  go_ret
  exact ⟨rfl, rfl⟩
set_option maxHeartbeats 400000 in
theorem asks_k4 (w : World) : Calls Try.prog 49 #[.int .i64 4] w fun e w' => e = .returned (.string (askT 4)) ∧ w = w' := by
  go_enter Try.func49, Try.ntmps49
  go_wp2
  go_ret
  exact ⟨rfl, rfl⟩
set_option maxHeartbeats 400000 in
theorem asks_k5 (w : World) : Calls Try.prog 49 #[.int .i64 5] w fun e w' => e = .returned (.string (askT 5)) ∧ w = w' := by
  go_enter Try.func49, Try.ntmps49
  go_wp2
  go_ret
  exact ⟨rfl, rfl⟩
set_option maxHeartbeats 400000 in
theorem asks_k6 (w : World) : Calls Try.prog 49 #[.int .i64 6] w fun e w' => e = .returned (.string (askT 6)) ∧ w = w' := by
  go_enter Try.func49, Try.ntmps49
  go_wp2
  go_ret
  exact ⟨rfl, rfl⟩
set_option maxHeartbeats 400000 in
theorem asks_k7 (w : World) : Calls Try.prog 49 #[.int .i64 7] w fun e w' => e = .returned (.string (askT 7)) ∧ w = w' := by
  go_enter Try.func49, Try.ntmps49
  go_wp2
  go_ret
  exact ⟨rfl, rfl⟩
set_option maxHeartbeats 400000 in
theorem asks_k8 (w : World) : Calls Try.prog 49 #[.int .i64 8] w fun e w' => e = .returned (.string (askT 8)) ∧ w = w' := by
  go_enter Try.func49, Try.ntmps49
  go_wp2
  go_ret
  exact ⟨rfl, rfl⟩
set_option maxHeartbeats 400000 in
theorem asks_k9 (w : World) : Calls Try.prog 49 #[.int .i64 9] w fun e w' => e = .returned (.string (askT 9)) ∧ w = w' := by
  go_enter Try.func49, Try.ntmps49
  go_wp2
  go_ret
  exact ⟨rfl, rfl⟩
set_option maxHeartbeats 400000 in
theorem asks_k10 (w : World) : Calls Try.prog 49 #[.int .i64 10] w fun e w' => e = .returned (.string (askT 10)) ∧ w = w' := by
  go_enter Try.func49, Try.ntmps49
  go_wp2
  go_ret
  exact ⟨rfl, rfl⟩
set_option maxHeartbeats 400000 in
theorem asks_k11 (w : World) : Calls Try.prog 49 #[.int .i64 11] w fun e w' => e = .returned (.string (askT 11)) ∧ w = w' := by
  go_enter Try.func49, Try.ntmps49
  go_wp2
  go_ret
  exact ⟨rfl, rfl⟩
set_option maxHeartbeats 400000 in
theorem asks_k12 (w : World) : Calls Try.prog 49 #[.int .i64 12] w fun e w' => e = .returned (.string (askT 12)) ∧ w = w' := by
  go_enter Try.func49, Try.ntmps49
  go_wp2
  go_ret
  exact ⟨rfl, rfl⟩
set_option maxHeartbeats 400000 in
theorem asks_k13 (w : World) : Calls Try.prog 49 #[.int .i64 13] w fun e w' => e = .returned (.string (askT 13)) ∧ w = w' := by
  go_enter Try.func49, Try.ntmps49
  go_wp2
  go_ret
  exact ⟨rfl, rfl⟩
set_option maxHeartbeats 400000 in
theorem asks_k14 (w : World) : Calls Try.prog 49 #[.int .i64 14] w fun e w' => e = .returned (.string (askT 14)) ∧ w = w' := by
  go_enter Try.func49, Try.ntmps49
  go_wp2
  go_ret
  exact ⟨rfl, rfl⟩
set_option maxHeartbeats 400000 in
theorem asks_k15 (w : World) : Calls Try.prog 49 #[.int .i64 15] w fun e w' => e = .returned (.string (askT 15)) ∧ w = w' := by
  go_enter Try.func49, Try.ntmps49
  go_wp2
  go_ret
  exact ⟨rfl, rfl⟩
set_option maxHeartbeats 400000 in
theorem asks_k16 (w : World) : Calls Try.prog 49 #[.int .i64 16] w fun e w' => e = .returned (.string (askT 16)) ∧ w = w' := by
  go_enter Try.func49, Try.ntmps49
  go_wp2
  go_ret
  exact ⟨rfl, rfl⟩
set_option maxHeartbeats 400000 in
theorem asks_k17 (w : World) : Calls Try.prog 49 #[.int .i64 17] w fun e w' => e = .returned (.string (askT 17)) ∧ w = w' := by
  go_enter Try.func49, Try.ntmps49
  go_wp2
  go_ret
  exact ⟨rfl, rfl⟩
theorem askL_none {k : Int} (h : ¬ (1 ≤ k ∧ k ≤ 17)) : askL k = [] := by
  unfold askL
  rw [if_neg (by omega)]
  rw [if_neg (by omega)]
  rw [if_neg (by omega)]
  rw [if_neg (by omega)]
  rw [if_neg (by omega)]
  rw [if_neg (by omega)]
  rw [if_neg (by omega)]
  rw [if_neg (by omega)]
  rw [if_neg (by omega)]
  rw [if_neg (by omega)]
  rw [if_neg (by omega)]
  rw [if_neg (by omega)]
  rw [if_neg (by omega)]
  rw [if_neg (by omega)]
  rw [if_neg (by omega)]
  rw [if_neg (by omega)]
  rw [if_neg (by omega)]
set_option maxHeartbeats 1000000 in
theorem asks_none (k : Int) (w : World) (h : ¬ (1 ≤ k ∧ k ≤ 17)) : Calls Try.prog 49 #[.int .i64 k] w fun e w' => e = .returned (.string (askT k)) ∧ w = w' := by
  have HE : Hid (askT k = ⟨#[]⟩) := by show _ = _; rw [askT, askL_none h]
  have h1 : ¬ k = 1 := by omega
  have h2 : ¬ k = 2 := by omega
  have h3 : ¬ k = 3 := by omega
  have h4 : ¬ k = 4 := by omega
  have h5 : ¬ k = 5 := by omega
  have h6 : ¬ k = 6 := by omega
  have h7 : ¬ k = 7 := by omega
  have h8 : ¬ k = 8 := by omega
  have h9 : ¬ k = 9 := by omega
  have h10 : ¬ k = 10 := by omega
  have h11 : ¬ k = 11 := by omega
  have h12 : ¬ k = 12 := by omega
  have h13 : ¬ k = 13 := by omega
  have h14 : ¬ k = 14 := by omega
  have h15 : ¬ k = 15 := by omega
  have h16 : ¬ k = 16 := by omega
  have h17 : ¬ k = 17 := by omega
  clear h
  go_enter Try.func49, Try.ntmps49
  go_wp2
  go_ret
  exact ⟨by rw [HE.out]; rfl, rfl⟩
theorem asks_any (k : Int) (w : World) : Calls Try.prog 49 #[.int .i64 k] w fun e w' => e = .returned (.string (askT k)) ∧ w = w' := by
  by_cases h : 1 ≤ k ∧ k ≤ 17
  · have hk : k = 1 ∨ k = 2 ∨ k = 3 ∨ k = 4 ∨ k = 5 ∨ k = 6 ∨ k = 7 ∨ k = 8 ∨ k = 9 ∨ k = 10 ∨ k = 11 ∨ k = 12 ∨ k = 13 ∨ k = 14 ∨ k = 15 ∨ k = 16 ∨ k = 17 := by omega
    rcases hk with rfl | rfl | rfl | rfl | rfl | rfl | rfl | rfl | rfl | rfl | rfl | rfl | rfl | rfl | rfl | rfl | rfl
    · exact asks_k1 w
    · exact asks_k2 w
    · exact asks_k3 w
    · exact asks_k4 w
    · exact asks_k5 w
    · exact asks_k6 w
    · exact asks_k7 w
    · exact asks_k8 w
    · exact asks_k9 w
    · exact asks_k10 w
    · exact asks_k11 w
    · exact asks_k12 w
    · exact asks_k13 w
    · exact asks_k14 w
    · exact asks_k15 w
    · exact asks_k16 w
    · exact asks_k17 w
  · exact asks_none k w h
set_option maxRecDepth 100000 in
theorem lit52 (g : Nat → Value) : (g 0 :: g 1 :: g 2 :: g 3 :: g 4 :: g 5 :: g 6 :: g 7 :: g 8 :: g 9 :: g 10 :: g 11 :: g 12 :: g 13 :: g 14 :: g 15 :: g 16 :: g 17 :: g 18 :: g 19 :: g 20 :: g 21 :: g 22 :: g 23 :: g 24 :: g 25 :: g 26 :: g 27 :: g 28 :: g 29 :: g 30 :: g 31 :: g 32 :: g 33 :: g 34 :: g 35 :: g 36 :: g 37 :: g 38 :: g 39 :: g 40 :: g 41 :: g 42 :: g 43 :: g 44 :: g 45 :: g 46 :: g 47 :: g 48 :: g 49 :: g 50 :: g 51 :: []).toArray = ((List.range 52).map g).toArray := by rfl
set_option maxRecDepth 100000 in
theorem act52 (a : Act) (hd : a.defers = []) (hs : a.tmps.size = 52) : ∃ g : Nat → Value, (∀ i, a.tmps.getD i undef = g i) ∧ a = { tmps := (g 0 :: g 1 :: g 2 :: g 3 :: g 4 :: g 5 :: g 6 :: g 7 :: g 8 :: g 9 :: g 10 :: g 11 :: g 12 :: g 13 :: g 14 :: g 15 :: g 16 :: g 17 :: g 18 :: g 19 :: g 20 :: g 21 :: g 22 :: g 23 :: g 24 :: g 25 :: g 26 :: g 27 :: g 28 :: g 29 :: g 30 :: g 31 :: g 32 :: g 33 :: g 34 :: g 35 :: g 36 :: g 37 :: g 38 :: g 39 :: g 40 :: g 41 :: g 42 :: g 43 :: g 44 :: g 45 :: g 46 :: g 47 :: g 48 :: g 49 :: g 50 :: g 51 :: []).toArray, defers := [] } := by
  refine ⟨fun i => a.tmps.getD i undef, fun _ => rfl, ?_⟩
  have h := lit52 (fun i => a.tmps.getD i undef)
  have e : a.tmps = ((List.range 52).map (fun i => a.tmps.getD i undef)).toArray := by
    apply Array.ext
    · simp [hs]
    · intro i h1 h2
      simp [h1]
  exact (show a = Act.mk a.tmps a.defers from rfl).trans (by rw [hd]; exact congrArg (fun t => Act.mk t []) (e.trans h.symm))
def fgo : List UInt8 → Int → Int → List Int → Bool
  | [], c, n, d => decide (c = 0 ∧ d.length = 0 ∧ n = 0)
  | b :: r, c, n, d => if b = 111 then fgo r (c - 1) n d else if b = 100 then okd d && fgo r c n [] else if b = 102 then decide (1 ≤ n ∧ n ≤ 8) && fgo r c 0 d else fgo r c 0 d
def JB (n : Nat) (w : World) (q : Bool) (a : Act) (w' : World) : Prop := a.defers = [] ∧ a.tmps.size = n ∧ Below w.heap.size w w' ∧ Hid (q = false)
theorem drop_at {α : Type} (l : List α) (p : Nat) (h : p < l.length) : l.drop p = l[p] :: l.drop (p + 1) := by simp
def fB (q : Bool) : Int := if q then 0 else 1
set_option maxHeartbeats 4000000 in
theorem form_go {v : Value} {d : List Int} {w : World} (k n : Int) (c : Nat) (hc : c ≤ big) (hd : Ints w v d) (l : List UInt8) (hl : askL k = l) (hne : 1 ≤ l.length) (hb : ∀ b ∈ l, b = 111 ∨ b = 100 ∨ b = 102 ∨ b = 110) (h3 : l.length ≤ 3) (q : Bool) (hq : fgo l c n d = q) :
    Calls Try.prog 45 #[.int .i64 k, .int .i64 n, v, .int .i64 c] w fun e w' => e = .returned (.int .i64 (fB q)) ∧ Below w.heap.size w w' := by
  have HT : Hid (askT k = ⟨l.toArray⟩) := by show _ = _; rw [askT, hl]
  have HD : Hid (Ints w v d) := hd
  have HB : Hid (∀ b ∈ l, b = 111 ∨ b = 100 ∨ b = 102 ∨ b = 110) := hb
  have HQ : Hid (fgo l c n d = q) := hq
  obtain ⟨s, hs⟩ : ∃ s : ByteArray, s = ⟨l.toArray⟩ := ⟨_, rfl⟩
  have hsz : s.size = l.length := by rw [hs]; simp [ByteArray.size]
  have hsb : ∀ p (h : p < l.length) (h' : p < s.size), s[p] = l[p] := by subst hs; intro p h h'; simp [ByteArray.getElem_eq_getElem_data]
  have hs1 : ¬ s.toList = [] := by
    intro e
    rw [ByteArray.toList_eq, hs] at e
    simp at e
    rw [e] at hne
    simp at hne
  have hs2 : (s.toList == []) = false := by simpa using hs1
  have hs3 : (s.toList == (⟨#[]⟩ : ByteArray).toList) = false := by rw [ByteArray.toList_eq (⟨#[]⟩ : ByteArray)]; exact hs2
  have hs4 : s.toList.isEmpty = false := by simpa using hs1
  have HS : Hid (∀ p (h : p < l.length) (h' : p < s.size), s[p] = l[p]) := hsb
  rw [← hs] at HT
  unfold big at hc
  clear hd hb hq hl hs hsb
  go_enter Try.func45, Try.ntmps45
  go_wp2_with fail
  refine wp_scope_jumps 0 (JB 52 w q) (fun _ _ => 0) rfl ?_ ?_
  · go_wp2_with (go_at_call 49; refine (asks_any k w).mono ?_; rw [HT.out]; rintro e w' ⟨rfl, rfl⟩)
    go_loopw [1, 2, 3] (fun n' d' c' w' => ∃ (p : Nat) (m : Int) (e : List Int) (cc : Int), p ≤ l.length ∧ w' = w.iter s p ∧ n' = .int .i64 m ∧ Hid (Ints w d' e) ∧ c' = .int .i64 cc ∧ (cc ≤ c ∧ (c : Int) - p ≤ cc) ∧ Hid (fgo (l.drop p) cc m e = q)) (fun _ _ _ w' => l.length - w'.iterPos w.heap.size)
    case atStart => exact ⟨0, n, d, c, Nat.zero_le _, rfl, rfl, HD, rfl, ⟨Int.le_refl _, by omega⟩, HQ.out⟩
    case round =>
      obtain ⟨p, m, e, cc, hp, rfl, rfl, HE, rfl, ⟨hc1, hc2⟩, HF⟩ := hrel
      by_cases hlt : p < l.length
      · have hps : p < s.size := by omega
        have hF := HF.out
        rw [drop_at l p hlt] at hF
        have hbb := HB.out l[p] (List.getElem_mem hlt)
        have hsp := HS.out p hlt hps
        rcases hbb with hb | hb | hb | hb
        · rw [hb] at hF hsp
          have hnx := fun ty => nx w s p hps 111 (by rw [hsp]; rfl) (by rw [hsp]; decide) ty
          have HF2 : Hid (fgo (l.drop (p + 1)) (cc - 1) m e = q) := by show _ = _; rw [← hF, fgo, if_pos rfl]
          clear hF hsp hb HF
          go_wp2
          go_roundw
          case rel => exact ⟨p + 1, m, e, cc - 1, by omega, rfl, rfl, HE, by go_num, ⟨by omega, by omega⟩, HF2⟩
          case measure => first | (simp; done) | (simp; omega) | (rw [← iter_alloc]; simp; omega)
        · rw [hb] at hF hsp
          have hnx := fun ty => nx w s p hps 100 (by rw [hsp]; rfl) (by rw [hsp]; decide) ty
          cases hok : okd e with
          | true =>
            have HF2 : Hid (fgo (l.drop (p + 1)) cc m [] = q) := by show _ = _; rw [← hF, fgo, if_neg (by decide), if_pos rfl, hok, Bool.true_and]
            have HK : Hid (erf e = 0) := erf_ok hok
            clear hF hsp hb HF hok
            go_wp2_with (go_at_call 50; refine (check_any (HE.out.later ((Below.refl _ _).alloc (Nat.le_refl _) _))).mono ?_; rw [HK.out]; rintro e' w' ⟨rfl, rfl⟩)
            go_roundw
            case rel => exact ⟨p + 1, m, [], cc, by omega, rfl, rfl, Ints.nil w, rfl, ⟨by omega, by omega⟩, HF2⟩
            case measure => first | (simp; done) | (simp; omega) | (rw [← iter_alloc]; simp; omega)
          | false =>
            have HF2 : Hid (q = false) := by show _ = _; rw [← hF, fgo, if_neg (by decide), if_pos rfl, hok, Bool.false_and]
            have HK : Hid (erf e = 1) := erf_bad hok
            clear hF hsp hb HF hok
            go_wp2_with (go_at_call 50; refine (check_any (HE.out.later ((Below.refl _ _).alloc (Nat.le_refl _) _))).mono ?_; rw [HK.out]; rintro e' w' ⟨rfl, rfl⟩)
            go_step3
            exact ⟨rfl, rfl, rfl, (Below.refl _ _).alloc (Nat.le_refl _) _, HF2⟩
        · rw [hb] at hF hsp
          have hnx := fun ty => nx w s p hps 102 (by rw [hsp]; rfl) (by rw [hsp]; decide) ty
          by_cases hm : 1 ≤ m ∧ m ≤ 8
          · have HF2 : Hid (fgo (l.drop (p + 1)) cc 0 e = q) := by show _ = _; rw [← hF, fgo, if_neg (by decide), if_neg (by decide), if_pos rfl, decide_eq_true hm, Bool.true_and]
            obtain ⟨hm1, hm2⟩ := hm
            clear hF hsp hb HF
            go_wp2
            go_roundw
            case rel => exact ⟨p + 1, 0, e, cc, by omega, rfl, rfl, HE, rfl, ⟨by omega, by omega⟩, HF2⟩
            case measure => first | (simp; done) | (simp; omega) | (rw [← iter_alloc]; simp; omega)
          · have HF2 : Hid (q = false) := by show _ = _; rw [← hF, fgo, if_neg (by decide), if_neg (by decide), if_pos rfl, decide_eq_false hm, Bool.false_and]
            clear hF hsp hb HF
            by_cases hm1 : m < 1
            · clear hm
              go_wp2
              go_step3
              exact ⟨rfl, rfl, rfl, (Below.refl _ _).alloc (Nat.le_refl _) _, HF2⟩
            · have hm2 : 8 < m := by omega
              clear hm
              go_wp2
              go_step3
              exact ⟨rfl, rfl, rfl, (Below.refl _ _).alloc (Nat.le_refl _) _, HF2⟩
        · rw [hb] at hF hsp
          have hnx := fun ty => nx w s p hps 110 (by rw [hsp]; rfl) (by rw [hsp]; decide) ty
          have HF2 : Hid (fgo (l.drop (p + 1)) cc 0 e = q) := by show _ = _; rw [← hF, fgo, if_neg (by decide), if_neg (by decide), if_neg (by decide)]
          clear hF hsp hb HF
          go_wp2
          go_roundw
          case rel => exact ⟨p + 1, 0, e, cc, by omega, rfl, rfl, HE, rfl, ⟨by omega, by omega⟩, HF2⟩
          case measure => first | (simp; done) | (simp; omega) | (rw [← iter_alloc]; simp; omega)
      · obtain rfl : p = l.length := by omega
        have hF := HF.out
        rw [List.drop_eq_nil_of_le (by omega), fgo] at hF
        have hnx := fun ty => run_next_end (P := Try.prog) w s l.length ty (by omega)
        obtain ⟨ea, ec, rfl⟩ := HE.out.shape
        clear HE HF
        by_cases h1 : cc = 0
        · by_cases h2 : e.length = 0
          · by_cases h4 : m = 0
            · have HF2 : Hid (q = true) := by show _ = _; rw [← hF]; exact decide_eq_true ⟨h1, h2, h4⟩
              clear hF
              subst h1 h4
              rw [h2]
              go_wp2
              rw [jump_ret]
              go_ret
              exact ⟨by rw [HF2.out]; rfl, (Below.refl _ _).alloc (Nat.le_refl _) _⟩
            · have HF2 : Hid (q = false) := by show _ = _; rw [← hF]; exact decide_eq_false fun h => h4 h.2.2
              have g4 : (m != 0) = true := by simp [h4]
              clear hF
              subst h1
              rw [h2]
              go_wp2
              go_step3
              exact ⟨rfl, rfl, rfl, (Below.refl _ _).alloc (Nat.le_refl _) _, HF2⟩
          · have HF2 : Hid (q = false) := by show _ = _; rw [← hF]; exact decide_eq_false fun h => h2 h.2.1
            obtain ⟨en, hen⟩ : ∃ x, e.length = x := ⟨_, rfl⟩
            rw [hen] at h2 ⊢
            have g2 : ((en : Int) != 0) = true := by simp [h2]
            clear hF hen
            subst h1
            go_wp2
            go_step3
            exact ⟨rfl, rfl, rfl, (Below.refl _ _).alloc (Nat.le_refl _) _, HF2⟩
        · have HF2 : Hid (q = false) := by show _ = _; rw [← hF]; exact decide_eq_false fun h => h1 h.1
          have g1 : (cc != 0) = true := by simp [h1]
          clear hF
          go_wp2
          go_step3
          exact ⟨rfl, rfl, rfl, (Below.refl _ _).alloc (Nat.le_refl _) _, HF2⟩
  · rintro a w' ⟨hd, hs, hbe, HF⟩
    obtain ⟨G, hg, e⟩ := act52 a hd hs
    subst e
    have HBE : Hid (Below w.heap.size w w') := hbe
    clear hg hd hs hbe
    go_wp2
    rw [jump_ret]
    exact bodyPost_ret (v := .int .i64 1) (by simp [results, Try.results45, go_sem]) rfl ⟨by rw [HF.out]; rfl, HBE.out⟩
set_option maxHeartbeats 1000000 in
theorem form_none {v : Value} {w : World} (k n : Int) (c : Nat) (h : ¬ (1 ≤ k ∧ k ≤ 17)) :
    Calls Try.prog 45 #[.int .i64 k, .int .i64 n, v, .int .i64 c] w fun e w' => e = .returned (.int .i64 1) ∧ Below w.heap.size w w' := by
  have HT : Hid (askT k = ⟨#[]⟩) := by show _ = _; rw [askT, askL_none h]
  clear h
  go_enter Try.func45, Try.ntmps45
  go_wp2_with fail
  refine wp_scope_jumps 0 (JB 52 w false) (fun _ _ => 0) rfl ?_ ?_
  · go_wp2_with (go_at_call 49; refine (asks_any k w).mono ?_; rw [HT.out]; rintro e w' ⟨rfl, rfl⟩)
    go_step3
    exact ⟨rfl, rfl, rfl, Below.refl _ _, rfl⟩
  · rintro a w' ⟨hd, hs, hbe, HF⟩
    obtain ⟨G, hg, e⟩ := act52 a hd hs
    subst e
    have HBE : Hid (Below w.heap.size w w') := hbe
    clear hg hd hs hbe
    go_wp2
    rw [jump_ret]
    exact bodyPost_ret (v := .int .i64 1) (by simp [results, Try.results45, go_sem]) rfl ⟨rfl, HBE.out⟩
theorem frm_none {k n : Int} {d : List Int} {c : Nat} (h : ¬ (1 ≤ k ∧ k ≤ 17)) : frm k n d c = false := by rw [frm, decide_eq_false h, Bool.false_and]
theorem fgo_frm {k n : Int} {d : List Int} {c : Nat} (h : 1 ≤ k ∧ k ≤ 17) : fgo (askL k) c n d = frm k n d c ∧ 1 ≤ (askL k).length ∧ (askL k).length ≤ 3 ∧ ∀ b ∈ askL k, b = 111 ∨ b = 100 ∨ b = 102 ∨ b = 110 := by
  have hk : k = 1 ∨ k = 2 ∨ k = 3 ∨ k = 4 ∨ k = 5 ∨ k = 6 ∨ k = 7 ∨ k = 8 ∨ k = 9 ∨ k = 10 ∨ k = 11 ∨ k = 12 ∨ k = 13 ∨ k = 14 ∨ k = 15 ∨ k = 16 ∨ k = 17 := by omega
  have e0 : ((c : Int) = 0) = (c = 0) := by apply propext; omega
  have e1 : ((c : Int) - 1 = 0) = (c = 1) := by apply propext; omega
  have e2 : ((c : Int) - 1 - 1 = 0) = (c = 2) := by apply propext; omega
  rcases hk with rfl | rfl | rfl | rfl | rfl | rfl | rfl | rfl | rfl | rfl | rfl | rfl | rfl | rfl | rfl | rfl | rfl <;>
  refine ⟨?_, by decide, by decide, by decide⟩ <;>
  simp (decide := true) only [askL, frm, frmN, dok, nok, many, asked, if_true, if_false] <;>
  (rw [Bool.eq_iff_iff]; simp [fgo, e0, e1, e2, and_assoc, and_comm, and_left_comm])
theorem form_any {v : Value} {d : List Int} {w : World} (k n : Int) (c : Nat) (hc : c ≤ big) (hd : Ints w v d) (x : Int) (hx : frE k n d c = x) :
    Calls Try.prog 45 #[.int .i64 k, .int .i64 n, v, .int .i64 c] w fun e w' => e = .returned (.int .i64 x) ∧ Below w.heap.size w w' := by
  subst hx
  by_cases h : 1 ≤ k ∧ k ≤ 17
  · obtain ⟨h1, h2, h3, h4⟩ := fgo_frm (n := n) (d := d) (c := c) h
    exact form_go k n c hc hd (askL k) rfl h2 h4 h3 (frm k n d c) h1
  · rw [frE, frm_none h]
    exact form_none k n c h
theorem cell_at {w w' : World} {b o : Nat} {x : Value} (hb : Below w.heap.size w w') (h : w.cell? ⟨b, o, none⟩ = some x) : w'.cell? ⟨b, o, none⟩ = some x := cell_later hb h
theorem cell_lt {w : World} {b o : Nat} {x : Value} (h : w.cell? ⟨b, o, none⟩ = some x) : b < w.heap.size := World.block_lt_of_cell? _ _ h
theorem fill_to {v : Value} {d : List Int} {w : World} (n x : Int) (u : Ten) (h : Ints w v d) (hx : erf d = x) (hu : vR 3 n d no no = u) :
    Calls Try.prog 47 #[v, .int .i64 n] w fun e w' => ∃ x0 x1, e = .returned (.tuple #[.agg #[x0, x1], .int .i64 x]) ∧ OwnT w' w.heap.size x0 x1 u ∧ Below w.heap.size w w' := by
  subst hx hu
  cases hok : okd d with
  | true =>
    refine (fill_own n h hok).mono ?_
    rintro e w' ⟨x0, b1, rfl, ho, hblk, ⟨h1, h2⟩, hb⟩
    have hl : (List.replicate (prd d).toNat n).length ≤ big := by
      have := (okd_parts hok).2.2.2
      simp [big]; omega
    refine ⟨x0, _, by rw [erf_ok hok], ⟨?_, ?_, ?_⟩, hb⟩
    · simp only [vR, hok, if_true]; exact ho
    · simp only [vR, hok, if_true]; exact hblk.own h1 (by simp) hl
    · intro k hk e
      have : b1 = k := by simpa [Value.ownBlock] using e
      exact h2 k hk this.symm
  | false =>
    refine (fill_bad n h hok).mono ?_
    rintro e w' ⟨rfl, hb⟩
    refine ⟨_, _, by rw [erf_bad hok], ?_, hb⟩
    simp only [vR, hok]
    exact OwnT.nil _ _
set_option maxHeartbeats 4000000 in
theorem value_k3 {vd vl : Value} {d : List Int} {w : World} (n : Int) (hd : Ints w vd d) :
    Calls Try.prog 48 #[.int .i64 3, .int .i64 n, vd, vl] w fun e w' => ∃ x0 x1, e = .returned (.tuple #[.agg #[x0, x1], .int .i64 (vE 3 n d no no)]) ∧ OwnT w' w.heap.size x0 x1 (vR 3 n d no no) ∧ Below w.heap.size w w' := by
  obtain ⟨da, dn, dc, rfl⟩ := hd.shape3
  obtain ⟨U, hU⟩ : ∃ U, U = w.alloc (.cells #[.slice none 0 0, .slice none 0 0] 70) := ⟨_, rfl⟩
  have hb : Below w.heap.size w U := by rw [hU]; exact (Below.refl _ _).alloc (Nat.le_refl _) _
  have HB : Hid (Below w.heap.size w U) := hb
  have HD : Hid (Ints U (.slice da dn dc) d) := hd.later hb
  have HBX : Hid (Box U w.heap.size (.slice none 0 0) (.slice none 0 0)) := by show Box _ _ _ _; rw [hU]; exact Box.new w _ _
  have hsU : w.heap.size + 1 ≤ U.heap.size := by rw [hU]; simp
  obtain ⟨x, hx⟩ : ∃ x, vE 3 n d no no = x := ⟨_, rfl⟩
  obtain ⟨u, hu⟩ : ∃ u, vR 3 n d no no = u := ⟨_, rfl⟩
  rw [hx, hu]
  have HX : Hid (vE 3 n d no no = x) := hx
  have HU : Hid (vR 3 n d no no = u) := hu
  clear hx hu hd hb
  go_enter Try.func48, Try.ntmps48
  go_upto_region 1 with fail
  rw [← hU]
  clear hU
  go_wp2_with fail
  refine (fill_to n x u HD.out HX.out HU.out).mono ?_
  rintro e w2 ⟨x0, x1, rfl, ho, hb2⟩
  have HBU : Hid (Below U.heap.size U w2) := hb2
  obtain ⟨xa, xn, xc, rfl⟩ := ho.dims.ints.shape3
  obtain ⟨ya, yn, yc, rfl⟩ := ho.data.ints.shape3
  have hbx := HBX.out.later HBU.out
  have l0 := hbx.c0
  have l1 := hbx.c1
  have m0 := hbx.f 0
  have m1 := hbx.f 1
  have HBS : Hid (Box _ _ _ _) := hbx.set (.slice xa xn xc) (.slice ya yn yc)
  have HO : Hid (OwnT w2 (w.heap.size + 1) (.slice xa xn xc) (.slice ya yn yc) u) := ho.mono hsU
  have HBW : Hid (Below w.heap.size w w2) := Below.after HB.out HBU.out
  clear hbx ho hb2
  go_wp2
  have hr0 := HBS.out.c0
  have hr1 := HBS.out.c1
  refine bodyPost_ret (v := .tuple #[.agg #[.slice xa xn xc, .slice ya yn yc], .int .i64 x]) (by simp [results, Try.results48, go_sem, hr0, hr1]) rfl ⟨_, _, rfl, ?_, ?_⟩
  · exact (HO.out.set2 _ _ (by omega)).mono (by omega)
  · exact (HBW.out.setCell (by simp) _).setCell (by simp) _
set_option maxHeartbeats 4000000 in
theorem value_k4 {vd a0 a1 b0 b1 : Value} {d : List Int} {s t : Ten} {w : World} {P off c : Nat} (n : Int) (hc : 2 ≤ c) (ha : Tens w a0 a1 s) (ht : Tens w b0 b1 t) (p0 : w.cell? ⟨P, off, none⟩ = some a0) (p1 : w.cell? ⟨P, off + 1, none⟩ = some a1) (p2 : w.cell? ⟨P, off + 2, none⟩ = some b0) (p3 : w.cell? ⟨P, off + 3, none⟩ = some b1) (hd : Ints w vd d) :
    Calls Try.prog 48 #[.int .i64 4, .int .i64 n, vd, .slice (some ⟨P, off, none⟩) 2 c] w fun e w' => ∃ x0 x1, e = .returned (.tuple #[.agg #[x0, x1], .int .i64 (vE 4 n d s t)]) ∧ OwnT w' w.heap.size x0 x1 (vR 4 n d s t) ∧ Below w.heap.size w w' := by
  obtain ⟨da, dn, dc, rfl⟩ := hd.shape3
  obtain ⟨aa, an, ac, rfl⟩ := ha.1.shape3
  obtain ⟨ba, bn, bc, rfl⟩ := ha.2.shape3
  have hne : ¬ w.heap.size = P := by have := cell_lt p0; omega
  have hne2 : ¬ P = w.heap.size := fun h => hne h.symm
  obtain ⟨ea, en, ec, rfl⟩ := ht.1.shape3
  obtain ⟨fa, fn, fc, rfl⟩ := ht.2.shape3
  obtain ⟨U, hU⟩ : ∃ U, U = w.alloc (.cells #[.slice none 0 0, .slice none 0 0] 70) := ⟨_, rfl⟩
  have hb : Below w.heap.size w U := by rw [hU]; exact (Below.refl _ _).alloc (Nat.le_refl _) _
  have HB : Hid (Below w.heap.size w U) := hb
  have HD : Hid (Ints U (.slice da dn dc) d) := hd.later hb
  have HBX : Hid (Box U w.heap.size (.slice none 0 0) (.slice none 0 0)) := by show Box _ _ _ _; rw [hU]; exact Box.new w _ _
  have hsU : w.heap.size + 1 ≤ U.heap.size := by rw [hU]; simp
  have HA : Hid (Tens U (.slice aa an ac) (.slice ba bn bc) s) := ha.later hb
  replace p0 := cell_at hb p0
  replace p1 := cell_at hb p1
  have HT : Hid (Tens U (.slice ea en ec) (.slice fa fn fc) t) := ht.later hb
  replace p2 := cell_at hb p2
  replace p3 := cell_at hb p3
  obtain ⟨x, hx⟩ : ∃ x, vE 4 n d s t = x := ⟨_, rfl⟩
  obtain ⟨u, hu⟩ : ∃ u, vR 4 n d s t = u := ⟨_, rfl⟩
  rw [hx, hu]
  have HX : Hid (vE 4 n d s t = x) := hx
  have HU : Hid (vR 4 n d s t = u) := hu
  clear hx hu hd hb ha ht
  go_enter Try.func48, Try.ntmps48
  go_upto_region 1 with fail
  rw [← hU]
  clear hU
  go_wp2_with fail
  go_region_held3 (fun w' => w'.cell? ⟨P, off, none⟩ = some (.slice aa an ac) ∧ w'.cell? ⟨P, off + 1, none⟩ = some (.slice ba bn bc) ∧ w'.cell? ⟨P, off + 2, none⟩ = some (.slice ea en ec) ∧ w'.cell? ⟨P, off + 3, none⟩ = some (.slice fa fn fc)) (go_keep) (first | (go_at_call 52; refine (add_to x u ?_ ?_ HX.out HU.out).mono ?_; exact HA.out.later (Below.refl _ _).drew; exact HT.out.later (Below.refl _ _).drew; rintro r w2 ⟨x0, x1, rfl, ho, hb2⟩; have HBU : Hid (Below U.heap.size U w2) := Below.after (Below.refl _ _).drew hb2; obtain ⟨xa, xn, xc, rfl⟩ := ho.dims.ints.shape3; obtain ⟨ya, yn, yc, rfl⟩ := ho.data.ints.shape3; have hbx := HBX.out.later HBU.out; have l0 := hbx.c0; have l1 := hbx.c1; have m0 := hbx.f 0; have m1 := hbx.f 1; have HBS : Hid (Box _ _ _ _) := hbx.set (.slice xa xn xc) (.slice ya yn yc); have HO : Hid (OwnT w2 (w.heap.size + 1) (.slice xa xn xc) (.slice ya yn yc) u) := ho.mono hsU; have HBW : Hid (Below w.heap.size w w2) := Below.after HB.out HBU.out; have a_0 := cell_at HBU.out p0; have a_1 := cell_at HBU.out p1; have a_2 := cell_at HBU.out p2; have a_3 := cell_at HBU.out p3; clear hbx ho hb2))
  clear a_0 a_1 a_2 a_3 p0 p1 p2 p3
  go_wp2
  have hr0 := HBS.out.c0
  have hr1 := HBS.out.c1
  refine bodyPost_ret (v := .tuple #[.agg #[.slice xa xn xc, .slice ya yn yc], .int .i64 x]) (by simp [results, Try.results48, go_sem, hr0, hr1]) rfl ⟨_, _, rfl, ?_, ?_⟩
  · exact (HO.out.set2 _ _ (by omega)).mono (by omega)
  · exact (HBW.out.setCell (by simp) _).setCell (by simp) _
set_option maxHeartbeats 4000000 in
theorem value_k5 {vd a0 a1 b0 b1 : Value} {d : List Int} {s t : Ten} {w : World} {P off c : Nat} (n : Int) (hc : 2 ≤ c) (ha : Tens w a0 a1 s) (ht : Tens w b0 b1 t) (p0 : w.cell? ⟨P, off, none⟩ = some a0) (p1 : w.cell? ⟨P, off + 1, none⟩ = some a1) (p2 : w.cell? ⟨P, off + 2, none⟩ = some b0) (p3 : w.cell? ⟨P, off + 3, none⟩ = some b1) (hd : Ints w vd d) :
    Calls Try.prog 48 #[.int .i64 5, .int .i64 n, vd, .slice (some ⟨P, off, none⟩) 2 c] w fun e w' => ∃ x0 x1, e = .returned (.tuple #[.agg #[x0, x1], .int .i64 (vE 5 n d s t)]) ∧ OwnT w' w.heap.size x0 x1 (vR 5 n d s t) ∧ Below w.heap.size w w' := by
  obtain ⟨da, dn, dc, rfl⟩ := hd.shape3
  obtain ⟨aa, an, ac, rfl⟩ := ha.1.shape3
  obtain ⟨ba, bn, bc, rfl⟩ := ha.2.shape3
  have hne : ¬ w.heap.size = P := by have := cell_lt p0; omega
  have hne2 : ¬ P = w.heap.size := fun h => hne h.symm
  obtain ⟨ea, en, ec, rfl⟩ := ht.1.shape3
  obtain ⟨fa, fn, fc, rfl⟩ := ht.2.shape3
  obtain ⟨U, hU⟩ : ∃ U, U = w.alloc (.cells #[.slice none 0 0, .slice none 0 0] 70) := ⟨_, rfl⟩
  have hb : Below w.heap.size w U := by rw [hU]; exact (Below.refl _ _).alloc (Nat.le_refl _) _
  have HB : Hid (Below w.heap.size w U) := hb
  have HD : Hid (Ints U (.slice da dn dc) d) := hd.later hb
  have HBX : Hid (Box U w.heap.size (.slice none 0 0) (.slice none 0 0)) := by show Box _ _ _ _; rw [hU]; exact Box.new w _ _
  have hsU : w.heap.size + 1 ≤ U.heap.size := by rw [hU]; simp
  have HA : Hid (Tens U (.slice aa an ac) (.slice ba bn bc) s) := ha.later hb
  replace p0 := cell_at hb p0
  replace p1 := cell_at hb p1
  have HT : Hid (Tens U (.slice ea en ec) (.slice fa fn fc) t) := ht.later hb
  replace p2 := cell_at hb p2
  replace p3 := cell_at hb p3
  obtain ⟨x, hx⟩ : ∃ x, vE 5 n d s t = x := ⟨_, rfl⟩
  obtain ⟨u, hu⟩ : ∃ u, vR 5 n d s t = u := ⟨_, rfl⟩
  rw [hx, hu]
  have HX : Hid (vE 5 n d s t = x) := hx
  have HU : Hid (vR 5 n d s t = u) := hu
  clear hx hu hd hb ha ht
  go_enter Try.func48, Try.ntmps48
  go_upto_region 1 with fail
  rw [← hU]
  clear hU
  go_wp2_with fail
  go_region_held3 (fun w' => w'.cell? ⟨P, off, none⟩ = some (.slice aa an ac) ∧ w'.cell? ⟨P, off + 1, none⟩ = some (.slice ba bn bc) ∧ w'.cell? ⟨P, off + 2, none⟩ = some (.slice ea en ec) ∧ w'.cell? ⟨P, off + 3, none⟩ = some (.slice fa fn fc)) (go_keep) (first | (go_at_call 53; refine (sub_to x u ?_ ?_ HX.out HU.out).mono ?_; exact HA.out.later (Below.refl _ _).drew; exact HT.out.later (Below.refl _ _).drew; rintro r w2 ⟨x0, x1, rfl, ho, hb2⟩; have HBU : Hid (Below U.heap.size U w2) := Below.after (Below.refl _ _).drew hb2; obtain ⟨xa, xn, xc, rfl⟩ := ho.dims.ints.shape3; obtain ⟨ya, yn, yc, rfl⟩ := ho.data.ints.shape3; have hbx := HBX.out.later HBU.out; have l0 := hbx.c0; have l1 := hbx.c1; have m0 := hbx.f 0; have m1 := hbx.f 1; have HBS : Hid (Box _ _ _ _) := hbx.set (.slice xa xn xc) (.slice ya yn yc); have HO : Hid (OwnT w2 (w.heap.size + 1) (.slice xa xn xc) (.slice ya yn yc) u) := ho.mono hsU; have HBW : Hid (Below w.heap.size w w2) := Below.after HB.out HBU.out; have a_0 := cell_at HBU.out p0; have a_1 := cell_at HBU.out p1; have a_2 := cell_at HBU.out p2; have a_3 := cell_at HBU.out p3; clear hbx ho hb2))
  clear a_0 a_1 a_2 a_3 p0 p1 p2 p3
  go_wp2
  have hr0 := HBS.out.c0
  have hr1 := HBS.out.c1
  refine bodyPost_ret (v := .tuple #[.agg #[.slice xa xn xc, .slice ya yn yc], .int .i64 x]) (by simp [results, Try.results48, go_sem, hr0, hr1]) rfl ⟨_, _, rfl, ?_, ?_⟩
  · exact (HO.out.set2 _ _ (by omega)).mono (by omega)
  · exact (HBW.out.setCell (by simp) _).setCell (by simp) _
set_option maxHeartbeats 4000000 in
theorem value_k6 {vd a0 a1 b0 b1 : Value} {d : List Int} {s t : Ten} {w : World} {P off c : Nat} (n : Int) (hc : 2 ≤ c) (ha : Tens w a0 a1 s) (ht : Tens w b0 b1 t) (p0 : w.cell? ⟨P, off, none⟩ = some a0) (p1 : w.cell? ⟨P, off + 1, none⟩ = some a1) (p2 : w.cell? ⟨P, off + 2, none⟩ = some b0) (p3 : w.cell? ⟨P, off + 3, none⟩ = some b1) (hd : Ints w vd d) :
    Calls Try.prog 48 #[.int .i64 6, .int .i64 n, vd, .slice (some ⟨P, off, none⟩) 2 c] w fun e w' => ∃ x0 x1, e = .returned (.tuple #[.agg #[x0, x1], .int .i64 (vE 6 n d s t)]) ∧ OwnT w' w.heap.size x0 x1 (vR 6 n d s t) ∧ Below w.heap.size w w' := by
  obtain ⟨da, dn, dc, rfl⟩ := hd.shape3
  obtain ⟨aa, an, ac, rfl⟩ := ha.1.shape3
  obtain ⟨ba, bn, bc, rfl⟩ := ha.2.shape3
  have hne : ¬ w.heap.size = P := by have := cell_lt p0; omega
  have hne2 : ¬ P = w.heap.size := fun h => hne h.symm
  obtain ⟨ea, en, ec, rfl⟩ := ht.1.shape3
  obtain ⟨fa, fn, fc, rfl⟩ := ht.2.shape3
  obtain ⟨U, hU⟩ : ∃ U, U = w.alloc (.cells #[.slice none 0 0, .slice none 0 0] 70) := ⟨_, rfl⟩
  have hb : Below w.heap.size w U := by rw [hU]; exact (Below.refl _ _).alloc (Nat.le_refl _) _
  have HB : Hid (Below w.heap.size w U) := hb
  have HD : Hid (Ints U (.slice da dn dc) d) := hd.later hb
  have HBX : Hid (Box U w.heap.size (.slice none 0 0) (.slice none 0 0)) := by show Box _ _ _ _; rw [hU]; exact Box.new w _ _
  have hsU : w.heap.size + 1 ≤ U.heap.size := by rw [hU]; simp
  have HA : Hid (Tens U (.slice aa an ac) (.slice ba bn bc) s) := ha.later hb
  replace p0 := cell_at hb p0
  replace p1 := cell_at hb p1
  have HT : Hid (Tens U (.slice ea en ec) (.slice fa fn fc) t) := ht.later hb
  replace p2 := cell_at hb p2
  replace p3 := cell_at hb p3
  obtain ⟨x, hx⟩ : ∃ x, vE 6 n d s t = x := ⟨_, rfl⟩
  obtain ⟨u, hu⟩ : ∃ u, vR 6 n d s t = u := ⟨_, rfl⟩
  rw [hx, hu]
  have HX : Hid (vE 6 n d s t = x) := hx
  have HU : Hid (vR 6 n d s t = u) := hu
  clear hx hu hd hb ha ht
  go_enter Try.func48, Try.ntmps48
  go_upto_region 1 with fail
  rw [← hU]
  clear hU
  go_wp2_with fail
  go_region_held3 (fun w' => w'.cell? ⟨P, off, none⟩ = some (.slice aa an ac) ∧ w'.cell? ⟨P, off + 1, none⟩ = some (.slice ba bn bc) ∧ w'.cell? ⟨P, off + 2, none⟩ = some (.slice ea en ec) ∧ w'.cell? ⟨P, off + 3, none⟩ = some (.slice fa fn fc)) (go_keep) (first | (go_at_call 54; refine (mul_to x ?_ ?_ HX.out).mono ?_; exact HA.out.later (Below.refl _ _).drew; exact HT.out.later (Below.refl _ _).drew; rintro r w2 ⟨x0, x1, rfl, ho, hb2⟩; have hu2 : eachR opM s t = u := HU.out; rw [hu2] at ho; have HBU : Hid (Below U.heap.size U w2) := Below.after (Below.refl _ _).drew hb2; obtain ⟨xa, xn, xc, rfl⟩ := ho.dims.ints.shape3; obtain ⟨ya, yn, yc, rfl⟩ := ho.data.ints.shape3; have hbx := HBX.out.later HBU.out; have l0 := hbx.c0; have l1 := hbx.c1; have m0 := hbx.f 0; have m1 := hbx.f 1; have HBS : Hid (Box _ _ _ _) := hbx.set (.slice xa xn xc) (.slice ya yn yc); have HO : Hid (OwnT w2 (w.heap.size + 1) (.slice xa xn xc) (.slice ya yn yc) u) := ho.mono hsU; have HBW : Hid (Below w.heap.size w w2) := Below.after HB.out HBU.out; have a_0 := cell_at HBU.out p0; have a_1 := cell_at HBU.out p1; have a_2 := cell_at HBU.out p2; have a_3 := cell_at HBU.out p3; clear hbx ho hb2))
  clear a_0 a_1 a_2 a_3 p0 p1 p2 p3
  go_wp2
  have hr0 := HBS.out.c0
  have hr1 := HBS.out.c1
  refine bodyPost_ret (v := .tuple #[.agg #[.slice xa xn xc, .slice ya yn yc], .int .i64 x]) (by simp [results, Try.results48, go_sem, hr0, hr1]) rfl ⟨_, _, rfl, ?_, ?_⟩
  · exact (HO.out.set2 _ _ (by omega)).mono (by omega)
  · exact (HBW.out.setCell (by simp) _).setCell (by simp) _
set_option maxHeartbeats 4000000 in
theorem value_k7 {vd a0 a1 : Value} {d : List Int} {s : Ten} {w : World} {P off c : Nat} (n : Int) (hc : 1 ≤ c) (ha : Tens w a0 a1 s) (p0 : w.cell? ⟨P, off, none⟩ = some a0) (p1 : w.cell? ⟨P, off + 1, none⟩ = some a1) (hd : Ints w vd d) :
    Calls Try.prog 48 #[.int .i64 7, .int .i64 n, vd, .slice (some ⟨P, off, none⟩) 1 c] w fun e w' => ∃ x0 x1, e = .returned (.tuple #[.agg #[x0, x1], .int .i64 (vE 7 n d s no)]) ∧ OwnT w' w.heap.size x0 x1 (vR 7 n d s no) ∧ Below w.heap.size w w' := by
  obtain ⟨da, dn, dc, rfl⟩ := hd.shape3
  obtain ⟨aa, an, ac, rfl⟩ := ha.1.shape3
  obtain ⟨ba, bn, bc, rfl⟩ := ha.2.shape3
  have hne : ¬ w.heap.size = P := by have := cell_lt p0; omega
  have hne2 : ¬ P = w.heap.size := fun h => hne h.symm
  obtain ⟨U, hU⟩ : ∃ U, U = w.alloc (.cells #[.slice none 0 0, .slice none 0 0] 70) := ⟨_, rfl⟩
  have hb : Below w.heap.size w U := by rw [hU]; exact (Below.refl _ _).alloc (Nat.le_refl _) _
  have HB : Hid (Below w.heap.size w U) := hb
  have HD : Hid (Ints U (.slice da dn dc) d) := hd.later hb
  have HBX : Hid (Box U w.heap.size (.slice none 0 0) (.slice none 0 0)) := by show Box _ _ _ _; rw [hU]; exact Box.new w _ _
  have hsU : w.heap.size + 1 ≤ U.heap.size := by rw [hU]; simp
  have HA : Hid (Tens U (.slice aa an ac) (.slice ba bn bc) s) := ha.later hb
  replace p0 := cell_at hb p0
  replace p1 := cell_at hb p1
  obtain ⟨x, hx⟩ : ∃ x, vE 7 n d s no = x := ⟨_, rfl⟩
  obtain ⟨u, hu⟩ : ∃ u, vR 7 n d s no = u := ⟨_, rfl⟩
  rw [hx, hu]
  have HX : Hid (vE 7 n d s no = x) := hx
  have HU : Hid (vR 7 n d s no = u) := hu
  clear hx hu hd hb ha
  go_enter Try.func48, Try.ntmps48
  go_upto_region 1 with fail
  rw [← hU]
  clear hU
  go_wp2_with fail
  refine (neg_to x u HA.out HX.out HU.out).mono ?_
  rintro e w2 ⟨x0, x1, rfl, ho, hb2⟩
  have HBU : Hid (Below U.heap.size U w2) := hb2
  obtain ⟨xa, xn, xc, rfl⟩ := ho.dims.ints.shape3
  obtain ⟨ya, yn, yc, rfl⟩ := ho.data.ints.shape3
  have hbx := HBX.out.later HBU.out
  have l0 := hbx.c0
  have l1 := hbx.c1
  have m0 := hbx.f 0
  have m1 := hbx.f 1
  have HBS : Hid (Box _ _ _ _) := hbx.set (.slice xa xn xc) (.slice ya yn yc)
  have HO : Hid (OwnT w2 (w.heap.size + 1) (.slice xa xn xc) (.slice ya yn yc) u) := ho.mono hsU
  have HBW : Hid (Below w.heap.size w w2) := Below.after HB.out HBU.out
  clear hbx ho hb2
  go_wp2
  have hr0 := HBS.out.c0
  have hr1 := HBS.out.c1
  refine bodyPost_ret (v := .tuple #[.agg #[.slice xa xn xc, .slice ya yn yc], .int .i64 x]) (by simp [results, Try.results48, go_sem, hr0, hr1]) rfl ⟨_, _, rfl, ?_, ?_⟩
  · exact (HO.out.set2 _ _ (by omega)).mono (by omega)
  · exact (HBW.out.setCell (by simp) _).setCell (by simp) _
end Go.Proofs.Ytjfkhfahpjdidaa
