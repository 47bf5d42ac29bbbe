/- Contracts: Add, Sub, Mul, Neg, Scale, Total, Dot. -/
import Derived.Test.YtgedknmjenbacaaK3
namespace Go.Proofs.Ytgedknmjenbacaa
set_option linter.unusedVariables false
set_option linter.unusedSimpArgs false
open Go.RowKit

def opA (x y : Int) : Int := wrap64 (x + y)
def opS (x y : Int) : Int := wrap64 (x + wrap64 (-y))
def opM (x y : Int) : Int := wrap64 (x * y)
def opN (_x y : Int) : Int := wrap64 (-y)

set_option maxHeartbeats 1000000 in
theorem mul_any {a0 a1 b0 b1 : Value} {s t : Ten} {w : World} (ha : Tens w a0 a1 s) (hb' : Tens w b0 b1 t) :
    Calls Try.prog 43 #[.agg #[a0, a1], .agg #[b0, b1]] w fun e w' => ∃ x0 x1, e = .returned (.tuple #[.agg #[x0, x1], .int .i64 (fitE s t)]) ∧ OwnT w' w.heap.size x0 x1 (eachR opM s t) ∧ Below w.heap.size w w' := by
  have hb : Below w.heap.size w (((w.alloc (.cells #[a0, a1] 31)).alloc (.cells #[b0, b1] 31)).alloc (.cells #[.slice none 0 0, .slice none 0 0] 31)) := (((Below.refl _ _).alloc (Nat.le_refl _) _).alloc (by simp) _).alloc (by simp; omega) _
  have HA : Hid (Tens (((w.alloc (.cells #[a0, a1] 31)).alloc (.cells #[b0, b1] 31)).alloc (.cells #[.slice none 0 0, .slice none 0 0] 31)) a0 a1 s) := ha.later hb
  have HT : Hid (Tens (((w.alloc (.cells #[a0, a1] 31)).alloc (.cells #[b0, b1] 31)).alloc (.cells #[.slice none 0 0, .slice none 0 0] 31)) b0 b1 t) := hb'.later hb
  have HB : Hid (Below w.heap.size w (((w.alloc (.cells #[a0, a1] 31)).alloc (.cells #[b0, b1] 31)).alloc (.cells #[.slice none 0 0, .slice none 0 0] 31))) := hb
  have HBX : Hid (Box (((w.alloc (.cells #[a0, a1] 31)).alloc (.cells #[b0, b1] 31)).alloc (.cells #[.slice none 0 0, .slice none 0 0] 31)) (w.heap.size + 1 + 1) (.slice none 0 0) (.slice none 0 0)) := by
    have := Box.new ((w.alloc (.cells #[a0, a1] 31)).alloc (.cells #[b0, b1] 31)) (.slice none 0 0) (.slice none 0 0)
    simp only [World.size_alloc] at this
    exact this
  clear ha hb' hb
  go_enter Try.func43, Try.ntmps43
  go_wp2_with fail
  refine (each_any (op := opM) deed_mul HA.out HT.out).mono ?_
  rintro e w1 ⟨x0, x1, rfl, ho, hb1⟩
  simp only [World.size_alloc] at ho
  have HO : Hid (OwnT w1 (w.heap.size + 1 + 1 + 1) x0 x1 (eachR opM s t)) := ho
  have HB1 : Hid (Below w.heap.size w w1) := Below.after HB.out hb1
  have hbx := HBX.out.later hb1
  have hx0' := hbx.c0
  have hx1 := hbx.c1
  have hf0 := hbx.f 0
  have hf1 := hbx.f 1
  obtain ⟨xa, xc, rfl⟩ := ho.dims.ints.shape
  obtain ⟨ya, yc, rfl⟩ := ho.data.ints.shape
  have HBS : Hid (Box _ _ _ _) := hbx.set (.slice xa (eachR opM s t).1.length xc) (.slice ya (eachR opM s t).2.length yc)
  clear hb1 hbx ho
  go_wp2
  have hr0 := HBS.out.c0
  have hr1 := HBS.out.c1
  refine bodyPost_ret (v := .tuple #[.agg #[.slice xa (eachR opM s t).1.length xc, .slice ya (eachR opM s t).2.length yc], .int .i64 (fitE s t)]) (by simp [results, Try.results43, go_sem, hr0, hr1]) rfl ⟨_, _, rfl, ?_, ?_⟩
  · exact ((HO.out.setCell _ _ (by simp)).setCell _ _ (by simp)).mono (by omega)
  · exact (HB1.out.setCell (by simp; omega) _).setCell (by simp; omega) _

theorem fit_fill {s : Ten} (n : Int) (h : okd s.1 = true) : fitE (s.1, List.replicate (prd s.1).toNat n) s = tkE s := by
  obtain ⟨_, _, hin, _⟩ := okd_parts h
  have hp := prd_lo hin
  have h1 : tok (s.1, List.replicate (prd s.1).toNat n) = true := by simp [tok, h]; omega
  simp only [fitE, h1, tkE, Bool.true_and]
  simp
theorem fit_none {s : Ten} : fitE ([], []) s = 1 := by
  have h1 : tok ([], []) = false := by decide
  simp [fitE, h1]
def sclR (n : Int) (s : Ten) : Ten := if tok s then (s.1, s.2.map fun y => wrap64 (n * y)) else ([], [])
theorem zip_rep (op : Int → Int → Int) (n : Int) (l : List Int) : List.zipWith op (List.replicate l.length n) l = l.map (op n) := by
  induction l with
  | nil => rfl
  | cons x l ih => simp [List.replicate_succ, ih]
theorem each_fill {s : Ten} (n : Int) (h : okd s.1 = true) : eachR opM (s.1, List.replicate (prd s.1).toNat n) s = sclR n s := by
  rw [eachR, fit_fill n h, sclR, tkE]
  cases ht : tok s with
  | false => simp
  | true =>
    have hl := tok_len ht
    have : (prd s.1).toNat = s.2.length := by omega
    simp only [if_true, this]
    rw [zip_rep]
    rfl
theorem each_none {s : Ten} : eachR opM ([], []) s = ([], []) := by rw [eachR, fit_none]; rfl

end Go.Proofs.Ytgedknmjenbacaa
