/- Three calls, each into a box, in whatever order: what holds meanwhile. -/
import Derived.Test.YtgnicnaiaijdcaaDoorRv
namespace Go.Proofs.YtgnicnaiaijdcaaDoor
set_option linter.unusedVariables false
set_option linter.unusedSimpArgs false
open Go.RowKit

variable {Q : Exit → Act → World → Prop} {K : Act → World → Prop} {a : Act} {w : World}
section
variable {ops : Array Oper} {i : Nat} {d : Option Nat} {p q : Nat}
theorem do_field {B : Nat} (ho : OpAt ops i d (.fieldAddr 25 (.tmp p) 0)) (h : a.tmps.getD p undef = .pointer (some ⟨B, 0, none⟩)) (hK : K (a.put d (.pointer (some ⟨B, 0, none⟩))) w) : wpOp Tryd.prog ops Q i K a w := by
  refine wpOp_value ho (fun o ho => ?_) hK
  have e : a.eval (.tmp p) = _ := h
  simp only [execOp, ho, e]
  simp [go_sem]
theorem do_load1 {B : Nat} {v : Value} (ho : OpAt ops i d (.load 22 (.tmp p))) (h : a.tmps.getD p undef = .pointer (some ⟨B, 0, none⟩)) (hc : w.cell? ⟨B, 0, none⟩ = some v) (hK : K (a.put d v) w) : wpOp Tryd.prog ops Q i K a w := by
  refine wpOp_value ho (fun o ho => ?_) hK
  have e : a.eval (.tmp p) = _ := h
  simp only [execOp, ho, e]
  simp [go_sem, hc]
theorem do_move {v : Value} (ho : OpAt ops i d (.move (.tmp p))) (h : a.tmps.getD p undef = v) (hK : K (a.put d v) w) : wpOp Tryd.prog ops Q i K a w := by
  refine wpOp_value ho (fun o ho => ?_) hK
  have e : a.eval (.tmp p) = _ := h
  simp only [execOp, ho, e]
  simp [go_sem]
theorem do_index {b off n c j : Nat} (ho : OpAt ops i d (.indexAddr 22 (.tmp p) (.tmp q))) (h : a.tmps.getD p undef = .slice (some ⟨b, off, none⟩) n c) (h2 : a.tmps.getD q undef = .int .i64 j) (hj : j < n) (hK : K (a.put d (.pointer (some ⟨b, off + j * 2, none⟩))) w) : wpOp Tryd.prog ops Q i K a w := by
  refine wpOp_value ho (fun o ho => ?_) hK
  have e : a.eval (.tmp p) = _ := h
  have e2 : a.eval (.tmp q) = _ := h2
  simp only [execOp, ho, e, e2]
  simp [go_sem, hj]
theorem do_load2 {b off : Nat} {x y : Value} (ho : OpAt ops i d (.load 28 (.tmp p))) (h : a.tmps.getD p undef = .pointer (some ⟨b, off, none⟩)) (h1 : w.cell? ⟨b, off, none⟩ = some x) (h2 : w.cell? ⟨b, off + 1, none⟩ = some y)  (hK : K (a.put d (.agg #[x, y])) w) : wpOp Tryd.prog ops Q i K a w := by
  refine wpOp_value ho (fun o ho => ?_) hK
  have e : a.eval (.tmp p) = _ := h
  simp only [execOp, ho, e]
  simp [go_sem, h1, h2]
theorem do_add {j k : Nat} (ho : OpAt ops i d (.binOp .add 3 (.tmp p) (.const (.int .i64 k)) 3)) (h : a.tmps.getD p undef = .int .i64 j) (hj : j < 100) (hk : k < 100) (hK : K (a.put d (.int .i64 ((j + k : Nat) : Int))) w) : wpOp Tryd.prog ops Q i K a w := by
  refine wpOp_value ho (fun o ho => ?_) hK
  have e : a.eval (.tmp p) = _ := h
  have e2 : a.eval (.const (.int .i64 k)) = .int .i64 k := rfl
  have z : IntKind.i64.wrap ((j : Int) + k) = ((j + k : Nat) : Int) := by rw [wrap_small _ (by omega) (by omega)]; simp
  simp only [execOp, ho, e, e2]
  simp [go_sem, z]
theorem do_call {x y n : Value} {f : Nat} (ho : OpAt ops i d (.call { callee := .value (.func f), args := #[.tmp p, .tmp q], argTypes := #[28, 3] })) (h : a.tmps.getD p undef = .agg #[x, y]) (h2 : a.tmps.getD q undef = n) (hf : f = 22) (hK : Calls Tryd.prog f #[.agg #[x, y], n] w fun e w'' => ∃ v, e = .returned v ∧ K (a.put d v) w'') : wpOp Tryd.prog ops Q i K a w := by
  subst hf
  refine wpOp_call ho (fun o ho => ?_) hK
  have e : a.eval (.tmp p) = _ := h
  have e2 : a.eval (.tmp q) = _ := h2
  simp only [execOp, ho]
  simp [go_sem, e, e2]
  exact ⟨by simpa using h, by simpa using h2⟩
theorem do_alloc (ho : OpAt ops i d (.alloc 28)) (hK : K (a.put d (.pointer (some ⟨w.heap.size, 0, none⟩))) (w.alloc (.cells #[.slice none 0 0, .slice none 0 0] 28))) : wpOp Tryd.prog ops Q i K a w := by
  refine wpOp_value ho (fun o ho => ?_) hK
  simp only [execOp, ho]
  simp [go_sem]
theorem do_store {b : Nat} {u v : Value} {xa ya : Option Addr} {xn xc yn yc : Nat} (ho : OpAt ops i none (.store 28 (.tmp p) (.tmp q))) (h : a.tmps.getD p undef = .pointer (some ⟨b, 0, none⟩)) (h2 : a.tmps.getD q undef = .agg #[.slice xa xn xc, .slice ya yn yc]) (hb : Box w b u v) (hK : K a ((w.setCell ⟨b, 0, none⟩ (.slice xa xn xc)).setCell ⟨b, 1, none⟩ (.slice ya yn yc))) : wpOp Tryd.prog ops Q i K a w := by
  have c0 := hb.c0
  have c1 := hb.c1
  have f0 := hb.f 0
  have f1 := hb.f 1
  refine wpOp_skip ho (w' := (w.setCell ⟨b, 0, none⟩ (.slice xa xn xc)).setCell ⟨b, 1, none⟩ (.slice ya yn yc)) (fun o ho => ?_) hK
  have e : a.eval (.tmp p) = _ := h
  have e2 : a.eval (.tmp q) = _ := h2
  simp only [execOp, ho, e, e2]
  simp [go_sem, c0, c1, f0, f1]
end

/-- A block that a value's two slices lie in. -/
def Ow (v : Value) (k : Nat) : Prop := ∃ x y, v = .agg #[x, y] ∧ (x.ownBlock = some k ∨ y.ownBlock = some k)
/-- What a call has told: a matrix of its own. -/
def Val (w0 w : World) (n : Nat) (v : Value) : Prop := ∃ (xa : Option Addr) (xn xc : Nat) (ya : Option Addr) (yn yc : Nat) (X : List Int), v = .agg #[.slice xa xn xc, .slice ya yn yc] ∧ X.length = n * n ∧ Rg X ∧ Tens w (.slice xa xn xc) (.slice ya yn yc) ([(n : Int), (n : Int)], X) ∧ ∀ k, Ow v k → w0.heap.size ≤ k ∧ k < w.heap.size
def Bx (w : World) (q v : Value) : Prop := ∃ p x y, q = .pointer (some ⟨p, 0, none⟩) ∧ v = .agg #[x, y] ∧ Box w p x y
def Px (w0 w : World) (q : Value) : Prop := ∃ p u u', q = .pointer (some ⟨p, 0, none⟩) ∧ w0.heap.size ≤ p ∧ Box w p u u'
def Apt (v q : Value) : Prop := ∀ p k, q = .pointer (some ⟨p, 0, none⟩) → Ow v k → k ≠ p
theorem Val.later {w0 w w' : World} {n : Nat} {v : Value} (hb : Below w.heap.size w w') (h : Val w0 w n v) : Val w0 w' n v := by
  obtain ⟨xa, xn, xc, ya, yn, yc, X, e, h1, h2, h3, h4⟩ := h
  exact ⟨xa, xn, xc, ya, yn, yc, X, e, h1, h2, h3.later hb, fun k hk => ⟨(h4 k hk).1, Nat.lt_of_lt_of_le (h4 k hk).2 hb.size⟩⟩
theorem Val.set {w0 w : World} {n : Nat} {v : Value} (h : Val w0 w n v) (p : Nat) (u u' : Value) (ha : ∀ k, Ow v k → k ≠ p) : Val w0 ((w.setCell ⟨p, 0, none⟩ u).setCell ⟨p, 1, none⟩ u') n v := by
  obtain ⟨xa, xn, xc, ya, yn, yc, X, e, h1, h2, h3, h4⟩ := h
  exact ⟨xa, xn, xc, ya, yn, yc, X, e, h1, h2, h3.set2 p u u' (fun k hk => ha k ⟨_, _, e, Or.inl hk⟩) (fun k hk => ha k ⟨_, _, e, Or.inr hk⟩), fun k hk => by simpa using h4 k hk⟩
theorem Px.later {w0 w w' : World} {q : Value} (hb : Below w.heap.size w w') (h : Px w0 w q) : Px w0 w' q := by
  obtain ⟨p, u, u', e, h1, h2⟩ := h
  exact ⟨p, u, u', e, h1, h2.later hb⟩
theorem Bx.later {w w' : World} {q v : Value} (hb : Below w.heap.size w w') (h : Bx w q v) : Bx w' q v := by
  obtain ⟨p, u, u', e, h1, h2⟩ := h
  exact ⟨p, u, u', e, h1, h2.later hb⟩
theorem Px.set {w0 w : World} {q : Value} (h : Px w0 w q) (p : Nat) (u u' : Value) : Px w0 ((w.setCell ⟨p, 0, none⟩ u).setCell ⟨p, 1, none⟩ u') q := by
  obtain ⟨p', x, y, e, h1, h2⟩ := h
  by_cases hp : p' = p
  · subst hp
    exact ⟨p', _, _, e, h1, h2.set u u'⟩
  · exact ⟨p', _, _, e, h1, h2.other2 u u' hp⟩
theorem Bx.set {w : World} {q v : Value} (h : Bx w q v) (p : Nat) (u u' : Value) (hq : q ≠ .pointer (some ⟨p, 0, none⟩)) : Bx ((w.setCell ⟨p, 0, none⟩ u).setCell ⟨p, 1, none⟩ u') q v := by
  obtain ⟨p', x, y, e, h1, h2⟩ := h
  exact ⟨p', x, y, e, h1, h2.other2 u u' (fun hp => hq (by rw [e, hp]))⟩
theorem Px.lt {w0 w : World} {q : Value} (h : Px w0 w q) : ∃ p, q = .pointer (some ⟨p, 0, none⟩) ∧ p < w.heap.size := by
  obtain ⟨p, u, u', e, h1, h2⟩ := h
  exact ⟨p, e, h2.lt⟩
theorem ptr_inj {p p' : Nat} (h : Value.pointer (some ⟨p, 0, none⟩) = Value.pointer (some ⟨p', 0, none⟩)) : p = p' := by
  simpa using h

/-- How three calls and three boxes stand, whichever have come up. -/
structure Dyn (w0 : World) (n : Nat) (c1 c2 c3 a1 a2 a3 s1 s2 s3 : Bool) (v1 v2 v3 q1 q2 q3 : Value) (w : World) : Prop where
  bel : Below w0.heap.size w0 w
  hv1 : c1 = true → Val w0 w n v1
  hv2 : c2 = true → Val w0 w n v2
  hv3 : c3 = true → Val w0 w n v3
  hp1 : a1 = true → Px w0 w q1
  hp2 : a2 = true → Px w0 w q2
  hp3 : a3 = true → Px w0 w q3
  ap11 : c1 = true → a1 = true → Apt v1 q1
  ap12 : c1 = true → a2 = true → Apt v1 q2
  ap13 : c1 = true → a3 = true → Apt v1 q3
  ap21 : c2 = true → a1 = true → Apt v2 q1
  ap22 : c2 = true → a2 = true → Apt v2 q2
  ap23 : c2 = true → a3 = true → Apt v2 q3
  ap31 : c3 = true → a1 = true → Apt v3 q1
  ap32 : c3 = true → a2 = true → Apt v3 q2
  ap33 : c3 = true → a3 = true → Apt v3 q3
  d12 : a1 = true → a2 = true → q1 ≠ q2
  d13 : a1 = true → a3 = true → q1 ≠ q3
  d23 : a2 = true → a3 = true → q2 ≠ q3
  st1 : s1 = true → Bx w q1 v1
  st2 : s2 = true → Bx w q2 v2
  st3 : s3 = true → Bx w q3 v3
  o1 : s1 = true → c1 = true ∧ a1 = true
  o2 : s2 = true → c2 = true ∧ a2 = true
  o3 : s3 = true → c3 = true ∧ a3 = true
theorem Dyn.call1 {w0 w w' : World} {n : Nat} {c1 c2 c3 a1 a2 a3 s1 s2 s3 : Bool} {v1 v2 v3 q1 q2 q3 : Value} (h : Dyn w0 n c1 c2 c3 a1 a2 a3 s1 s2 s3 v1 v2 v3 q1 q2 q3 w) (hc : c1 = false) (v : Value) (hb : Below w.heap.size w w') (hv : Val w w' n v) : Dyn w0 n true c2 c3 a1 a2 a3 s1 s2 s3 v v2 v3 q1 q2 q3 w' where
  bel := Below.after h.bel hb
  hv1 := fun _ => by
    obtain ⟨xa, xn, xc, ya, yn, yc, X, e, h1, h2, h3, h4⟩ := hv
    have := h.bel.size
    exact ⟨xa, xn, xc, ya, yn, yc, X, e, h1, h2, h3, fun k hk => ⟨by have := (h4 k hk).1; omega, (h4 k hk).2⟩⟩
  hv2 := fun e => (h.hv2 e).later hb
  hv3 := fun e => (h.hv3 e).later hb
  hp1 := fun e => (h.hp1 e).later hb
  hp2 := fun e => (h.hp2 e).later hb
  hp3 := fun e => (h.hp3 e).later hb
  ap11 := fun _ e p k hp hk => by
    obtain ⟨p', e', hlt⟩ := (h.hp1 e).lt
    obtain rfl := ptr_inj (e'.symm.trans hp)
    obtain ⟨xa, xn, xc, ya, yn, yc, X, e1, h1, h2, h3, h4⟩ := hv
    have := (h4 k hk).1
    omega
  ap12 := fun _ e p k hp hk => by
    obtain ⟨p', e', hlt⟩ := (h.hp2 e).lt
    obtain rfl := ptr_inj (e'.symm.trans hp)
    obtain ⟨xa, xn, xc, ya, yn, yc, X, e1, h1, h2, h3, h4⟩ := hv
    have := (h4 k hk).1
    omega
  ap13 := fun _ e p k hp hk => by
    obtain ⟨p', e', hlt⟩ := (h.hp3 e).lt
    obtain rfl := ptr_inj (e'.symm.trans hp)
    obtain ⟨xa, xn, xc, ya, yn, yc, X, e1, h1, h2, h3, h4⟩ := hv
    have := (h4 k hk).1
    omega
  ap21 := h.ap21
  ap22 := h.ap22
  ap23 := h.ap23
  ap31 := h.ap31
  ap32 := h.ap32
  ap33 := h.ap33
  d12 := h.d12
  d13 := h.d13
  d23 := h.d23
  st1 := fun e => by have := (h.o1 e).1; rw [hc] at this; cases this
  st2 := fun e => (h.st2 e).later hb
  st3 := fun e => (h.st3 e).later hb
  o1 := fun e => ⟨rfl, (h.o1 e).2⟩
  o2 := h.o2
  o3 := h.o3
theorem Dyn.alloc1 {w0 w : World} {n : Nat} {c1 c2 c3 a1 a2 a3 s1 s2 s3 : Bool} {v1 v2 v3 q1 q2 q3 : Value} (h : Dyn w0 n c1 c2 c3 a1 a2 a3 s1 s2 s3 v1 v2 v3 q1 q2 q3 w) (ha : a1 = false) : Dyn w0 n c1 c2 c3 true a2 a3 s1 s2 s3 v1 v2 v3 (.pointer (some ⟨w.heap.size, 0, none⟩)) q2 q3 (w.alloc (.cells #[.slice none 0 0, .slice none 0 0] 28)) where
  bel := Below.push h.bel _
  hv1 := fun e => (h.hv1 e).later (Below.push (Below.refl _ _) _)
  hv2 := fun e => (h.hv2 e).later (Below.push (Below.refl _ _) _)
  hv3 := fun e => (h.hv3 e).later (Below.push (Below.refl _ _) _)
  hp1 := fun _ => ⟨_, _, _, rfl, h.bel.size, Box.new _ _ _⟩
  hp2 := fun e => (h.hp2 e).later (Below.push (Below.refl _ _) _)
  hp3 := fun e => (h.hp3 e).later (Below.push (Below.refl _ _) _)
  ap11 := fun e _ p b hp hk => by
    obtain rfl := ptr_inj hp
    obtain ⟨xa, xn, xc, ya, yn, yc, X, e1, h1, h2, h3, h4⟩ := h.hv1 e
    have := (h4 b hk).2
    omega
  ap12 := h.ap12
  ap13 := h.ap13
  ap21 := fun e _ p b hp hk => by
    obtain rfl := ptr_inj hp
    obtain ⟨xa, xn, xc, ya, yn, yc, X, e1, h1, h2, h3, h4⟩ := h.hv2 e
    have := (h4 b hk).2
    omega
  ap22 := h.ap22
  ap23 := h.ap23
  ap31 := fun e _ p b hp hk => by
    obtain rfl := ptr_inj hp
    obtain ⟨xa, xn, xc, ya, yn, yc, X, e1, h1, h2, h3, h4⟩ := h.hv3 e
    have := (h4 b hk).2
    omega
  ap32 := h.ap32
  ap33 := h.ap33
  d12 := fun _ e hq => by
    obtain ⟨p', e', hlt⟩ := (h.hp2 e).lt
    have := ptr_inj (hq.trans e')
    omega
  d13 := fun _ e hq => by
    obtain ⟨p', e', hlt⟩ := (h.hp3 e).lt
    have := ptr_inj (hq.trans e')
    omega
  d23 := h.d23
  st1 := fun e => by have := (h.o1 e).2; rw [ha] at this; cases this
  st2 := fun e => (h.st2 e).later (Below.push (Below.refl _ _) _)
  st3 := fun e => (h.st3 e).later (Below.push (Below.refl _ _) _)
  o1 := fun e => ⟨(h.o1 e).1, rfl⟩
  o2 := h.o2
  o3 := h.o3
theorem Dyn.store1 {w0 w : World} {n : Nat} {c1 c2 c3 a1 a2 a3 s1 s2 s3 : Bool} {v1 v2 v3 q1 q2 q3 : Value} {p : Nat} {x y : Value} (h : Dyn w0 n c1 c2 c3 a1 a2 a3 s1 s2 s3 v1 v2 v3 q1 q2 q3 w) (hc : c1 = true) (ha : a1 = true) (hq : q1 = .pointer (some ⟨p, 0, none⟩)) (hv : v1 = .agg #[x, y]) : Dyn w0 n c1 c2 c3 a1 a2 a3 true s2 s3 v1 v2 v3 q1 q2 q3 ((w.setCell ⟨p, 0, none⟩ x).setCell ⟨p, 1, none⟩ y) where
  bel := by
    obtain ⟨p', u, u', e, h1, h2⟩ := h.hp1 ha
    obtain rfl := ptr_inj (hq.symm.trans e)
    exact (h.bel.setCell (by simpa using h1) _).setCell (by simpa using h1) _
  hv1 := fun e => (h.hv1 e).set p x y (fun b hb => h.ap11 e ha p b hq hb)
  hv2 := fun e => (h.hv2 e).set p x y (fun b hb => h.ap21 e ha p b hq hb)
  hv3 := fun e => (h.hv3 e).set p x y (fun b hb => h.ap31 e ha p b hq hb)
  hp1 := fun e => (h.hp1 e).set p x y
  hp2 := fun e => (h.hp2 e).set p x y
  hp3 := fun e => (h.hp3 e).set p x y
  ap11 := h.ap11
  ap12 := h.ap12
  ap13 := h.ap13
  ap21 := h.ap21
  ap22 := h.ap22
  ap23 := h.ap23
  ap31 := h.ap31
  ap32 := h.ap32
  ap33 := h.ap33
  d12 := h.d12
  d13 := h.d13
  d23 := h.d23
  st1 := fun _ => by
    obtain ⟨p', u, u', e, h1, h2⟩ := h.hp1 ha
    obtain rfl := ptr_inj (hq.symm.trans e)
    exact ⟨p, x, y, hq, hv, h2.set x y⟩
  st2 := fun e => (h.st2 e).set p x y (by rw [← hq]; exact (fun hh => h.d12 ha (h.o2 e).2 hh.symm))
  st3 := fun e => (h.st3 e).set p x y (by rw [← hq]; exact (fun hh => h.d13 ha (h.o3 e).2 hh.symm))
  o1 := fun _ => ⟨hc, ha⟩
  o2 := h.o2
  o3 := h.o3
theorem Dyn.call2 {w0 w w' : World} {n : Nat} {c1 c2 c3 a1 a2 a3 s1 s2 s3 : Bool} {v1 v2 v3 q1 q2 q3 : Value} (h : Dyn w0 n c1 c2 c3 a1 a2 a3 s1 s2 s3 v1 v2 v3 q1 q2 q3 w) (hc : c2 = false) (v : Value) (hb : Below w.heap.size w w') (hv : Val w w' n v) : Dyn w0 n c1 true c3 a1 a2 a3 s1 s2 s3 v1 v v3 q1 q2 q3 w' where
  bel := Below.after h.bel hb
  hv1 := fun e => (h.hv1 e).later hb
  hv2 := fun _ => by
    obtain ⟨xa, xn, xc, ya, yn, yc, X, e, h1, h2, h3, h4⟩ := hv
    have := h.bel.size
    exact ⟨xa, xn, xc, ya, yn, yc, X, e, h1, h2, h3, fun k hk => ⟨by have := (h4 k hk).1; omega, (h4 k hk).2⟩⟩
  hv3 := fun e => (h.hv3 e).later hb
  hp1 := fun e => (h.hp1 e).later hb
  hp2 := fun e => (h.hp2 e).later hb
  hp3 := fun e => (h.hp3 e).later hb
  ap11 := h.ap11
  ap12 := h.ap12
  ap13 := h.ap13
  ap21 := fun _ e p k hp hk => by
    obtain ⟨p', e', hlt⟩ := (h.hp1 e).lt
    obtain rfl := ptr_inj (e'.symm.trans hp)
    obtain ⟨xa, xn, xc, ya, yn, yc, X, e1, h1, h2, h3, h4⟩ := hv
    have := (h4 k hk).1
    omega
  ap22 := fun _ e p k hp hk => by
    obtain ⟨p', e', hlt⟩ := (h.hp2 e).lt
    obtain rfl := ptr_inj (e'.symm.trans hp)
    obtain ⟨xa, xn, xc, ya, yn, yc, X, e1, h1, h2, h3, h4⟩ := hv
    have := (h4 k hk).1
    omega
  ap23 := fun _ e p k hp hk => by
    obtain ⟨p', e', hlt⟩ := (h.hp3 e).lt
    obtain rfl := ptr_inj (e'.symm.trans hp)
    obtain ⟨xa, xn, xc, ya, yn, yc, X, e1, h1, h2, h3, h4⟩ := hv
    have := (h4 k hk).1
    omega
  ap31 := h.ap31
  ap32 := h.ap32
  ap33 := h.ap33
  d12 := h.d12
  d13 := h.d13
  d23 := h.d23
  st1 := fun e => (h.st1 e).later hb
  st2 := fun e => by have := (h.o2 e).1; rw [hc] at this; cases this
  st3 := fun e => (h.st3 e).later hb
  o1 := h.o1
  o2 := fun e => ⟨rfl, (h.o2 e).2⟩
  o3 := h.o3
theorem Dyn.alloc2 {w0 w : World} {n : Nat} {c1 c2 c3 a1 a2 a3 s1 s2 s3 : Bool} {v1 v2 v3 q1 q2 q3 : Value} (h : Dyn w0 n c1 c2 c3 a1 a2 a3 s1 s2 s3 v1 v2 v3 q1 q2 q3 w) (ha : a2 = false) : Dyn w0 n c1 c2 c3 a1 true a3 s1 s2 s3 v1 v2 v3 q1 (.pointer (some ⟨w.heap.size, 0, none⟩)) q3 (w.alloc (.cells #[.slice none 0 0, .slice none 0 0] 28)) where
  bel := Below.push h.bel _
  hv1 := fun e => (h.hv1 e).later (Below.push (Below.refl _ _) _)
  hv2 := fun e => (h.hv2 e).later (Below.push (Below.refl _ _) _)
  hv3 := fun e => (h.hv3 e).later (Below.push (Below.refl _ _) _)
  hp1 := fun e => (h.hp1 e).later (Below.push (Below.refl _ _) _)
  hp2 := fun _ => ⟨_, _, _, rfl, h.bel.size, Box.new _ _ _⟩
  hp3 := fun e => (h.hp3 e).later (Below.push (Below.refl _ _) _)
  ap11 := h.ap11
  ap12 := fun e _ p b hp hk => by
    obtain rfl := ptr_inj hp
    obtain ⟨xa, xn, xc, ya, yn, yc, X, e1, h1, h2, h3, h4⟩ := h.hv1 e
    have := (h4 b hk).2
    omega
  ap13 := h.ap13
  ap21 := h.ap21
  ap22 := fun e _ p b hp hk => by
    obtain rfl := ptr_inj hp
    obtain ⟨xa, xn, xc, ya, yn, yc, X, e1, h1, h2, h3, h4⟩ := h.hv2 e
    have := (h4 b hk).2
    omega
  ap23 := h.ap23
  ap31 := h.ap31
  ap32 := fun e _ p b hp hk => by
    obtain rfl := ptr_inj hp
    obtain ⟨xa, xn, xc, ya, yn, yc, X, e1, h1, h2, h3, h4⟩ := h.hv3 e
    have := (h4 b hk).2
    omega
  ap33 := h.ap33
  d12 := fun e _ hq => by
    obtain ⟨p', e', hlt⟩ := (h.hp1 e).lt
    have := ptr_inj (hq.symm.trans e')
    omega
  d13 := h.d13
  d23 := fun _ e hq => by
    obtain ⟨p', e', hlt⟩ := (h.hp3 e).lt
    have := ptr_inj (hq.trans e')
    omega
  st1 := fun e => (h.st1 e).later (Below.push (Below.refl _ _) _)
  st2 := fun e => by have := (h.o2 e).2; rw [ha] at this; cases this
  st3 := fun e => (h.st3 e).later (Below.push (Below.refl _ _) _)
  o1 := h.o1
  o2 := fun e => ⟨(h.o2 e).1, rfl⟩
  o3 := h.o3
theorem Dyn.store2 {w0 w : World} {n : Nat} {c1 c2 c3 a1 a2 a3 s1 s2 s3 : Bool} {v1 v2 v3 q1 q2 q3 : Value} {p : Nat} {x y : Value} (h : Dyn w0 n c1 c2 c3 a1 a2 a3 s1 s2 s3 v1 v2 v3 q1 q2 q3 w) (hc : c2 = true) (ha : a2 = true) (hq : q2 = .pointer (some ⟨p, 0, none⟩)) (hv : v2 = .agg #[x, y]) : Dyn w0 n c1 c2 c3 a1 a2 a3 s1 true s3 v1 v2 v3 q1 q2 q3 ((w.setCell ⟨p, 0, none⟩ x).setCell ⟨p, 1, none⟩ y) where
  bel := by
    obtain ⟨p', u, u', e, h1, h2⟩ := h.hp2 ha
    obtain rfl := ptr_inj (hq.symm.trans e)
    exact (h.bel.setCell (by simpa using h1) _).setCell (by simpa using h1) _
  hv1 := fun e => (h.hv1 e).set p x y (fun b hb => h.ap12 e ha p b hq hb)
  hv2 := fun e => (h.hv2 e).set p x y (fun b hb => h.ap22 e ha p b hq hb)
  hv3 := fun e => (h.hv3 e).set p x y (fun b hb => h.ap32 e ha p b hq hb)
  hp1 := fun e => (h.hp1 e).set p x y
  hp2 := fun e => (h.hp2 e).set p x y
  hp3 := fun e => (h.hp3 e).set p x y
  ap11 := h.ap11
  ap12 := h.ap12
  ap13 := h.ap13
  ap21 := h.ap21
  ap22 := h.ap22
  ap23 := h.ap23
  ap31 := h.ap31
  ap32 := h.ap32
  ap33 := h.ap33
  d12 := h.d12
  d13 := h.d13
  d23 := h.d23
  st1 := fun e => (h.st1 e).set p x y (by rw [← hq]; exact h.d12 (h.o1 e).2 ha)
  st2 := fun _ => by
    obtain ⟨p', u, u', e, h1, h2⟩ := h.hp2 ha
    obtain rfl := ptr_inj (hq.symm.trans e)
    exact ⟨p, x, y, hq, hv, h2.set x y⟩
  st3 := fun e => (h.st3 e).set p x y (by rw [← hq]; exact (fun hh => h.d23 ha (h.o3 e).2 hh.symm))
  o1 := h.o1
  o2 := fun _ => ⟨hc, ha⟩
  o3 := h.o3
theorem Dyn.call3 {w0 w w' : World} {n : Nat} {c1 c2 c3 a1 a2 a3 s1 s2 s3 : Bool} {v1 v2 v3 q1 q2 q3 : Value} (h : Dyn w0 n c1 c2 c3 a1 a2 a3 s1 s2 s3 v1 v2 v3 q1 q2 q3 w) (hc : c3 = false) (v : Value) (hb : Below w.heap.size w w') (hv : Val w w' n v) : Dyn w0 n c1 c2 true a1 a2 a3 s1 s2 s3 v1 v2 v q1 q2 q3 w' where
  bel := Below.after h.bel hb
  hv1 := fun e => (h.hv1 e).later hb
  hv2 := fun e => (h.hv2 e).later hb
  hv3 := fun _ => by
    obtain ⟨xa, xn, xc, ya, yn, yc, X, e, h1, h2, h3, h4⟩ := hv
    have := h.bel.size
    exact ⟨xa, xn, xc, ya, yn, yc, X, e, h1, h2, h3, fun k hk => ⟨by have := (h4 k hk).1; omega, (h4 k hk).2⟩⟩
  hp1 := fun e => (h.hp1 e).later hb
  hp2 := fun e => (h.hp2 e).later hb
  hp3 := fun e => (h.hp3 e).later hb
  ap11 := h.ap11
  ap12 := h.ap12
  ap13 := h.ap13
  ap21 := h.ap21
  ap22 := h.ap22
  ap23 := h.ap23
  ap31 := fun _ e p k hp hk => by
    obtain ⟨p', e', hlt⟩ := (h.hp1 e).lt
    obtain rfl := ptr_inj (e'.symm.trans hp)
    obtain ⟨xa, xn, xc, ya, yn, yc, X, e1, h1, h2, h3, h4⟩ := hv
    have := (h4 k hk).1
    omega
  ap32 := fun _ e p k hp hk => by
    obtain ⟨p', e', hlt⟩ := (h.hp2 e).lt
    obtain rfl := ptr_inj (e'.symm.trans hp)
    obtain ⟨xa, xn, xc, ya, yn, yc, X, e1, h1, h2, h3, h4⟩ := hv
    have := (h4 k hk).1
    omega
  ap33 := fun _ e p k hp hk => by
    obtain ⟨p', e', hlt⟩ := (h.hp3 e).lt
    obtain rfl := ptr_inj (e'.symm.trans hp)
    obtain ⟨xa, xn, xc, ya, yn, yc, X, e1, h1, h2, h3, h4⟩ := hv
    have := (h4 k hk).1
    omega
  d12 := h.d12
  d13 := h.d13
  d23 := h.d23
  st1 := fun e => (h.st1 e).later hb
  st2 := fun e => (h.st2 e).later hb
  st3 := fun e => by have := (h.o3 e).1; rw [hc] at this; cases this
  o1 := h.o1
  o2 := h.o2
  o3 := fun e => ⟨rfl, (h.o3 e).2⟩
theorem Dyn.alloc3 {w0 w : World} {n : Nat} {c1 c2 c3 a1 a2 a3 s1 s2 s3 : Bool} {v1 v2 v3 q1 q2 q3 : Value} (h : Dyn w0 n c1 c2 c3 a1 a2 a3 s1 s2 s3 v1 v2 v3 q1 q2 q3 w) (ha : a3 = false) : Dyn w0 n c1 c2 c3 a1 a2 true s1 s2 s3 v1 v2 v3 q1 q2 (.pointer (some ⟨w.heap.size, 0, none⟩)) (w.alloc (.cells #[.slice none 0 0, .slice none 0 0] 28)) where
  bel := Below.push h.bel _
  hv1 := fun e => (h.hv1 e).later (Below.push (Below.refl _ _) _)
  hv2 := fun e => (h.hv2 e).later (Below.push (Below.refl _ _) _)
  hv3 := fun e => (h.hv3 e).later (Below.push (Below.refl _ _) _)
  hp1 := fun e => (h.hp1 e).later (Below.push (Below.refl _ _) _)
  hp2 := fun e => (h.hp2 e).later (Below.push (Below.refl _ _) _)
  hp3 := fun _ => ⟨_, _, _, rfl, h.bel.size, Box.new _ _ _⟩
  ap11 := h.ap11
  ap12 := h.ap12
  ap13 := fun e _ p b hp hk => by
    obtain rfl := ptr_inj hp
    obtain ⟨xa, xn, xc, ya, yn, yc, X, e1, h1, h2, h3, h4⟩ := h.hv1 e
    have := (h4 b hk).2
    omega
  ap21 := h.ap21
  ap22 := h.ap22
  ap23 := fun e _ p b hp hk => by
    obtain rfl := ptr_inj hp
    obtain ⟨xa, xn, xc, ya, yn, yc, X, e1, h1, h2, h3, h4⟩ := h.hv2 e
    have := (h4 b hk).2
    omega
  ap31 := h.ap31
  ap32 := h.ap32
  ap33 := fun e _ p b hp hk => by
    obtain rfl := ptr_inj hp
    obtain ⟨xa, xn, xc, ya, yn, yc, X, e1, h1, h2, h3, h4⟩ := h.hv3 e
    have := (h4 b hk).2
    omega
  d12 := h.d12
  d13 := fun e _ hq => by
    obtain ⟨p', e', hlt⟩ := (h.hp1 e).lt
    have := ptr_inj (hq.symm.trans e')
    omega
  d23 := fun e _ hq => by
    obtain ⟨p', e', hlt⟩ := (h.hp2 e).lt
    have := ptr_inj (hq.symm.trans e')
    omega
  st1 := fun e => (h.st1 e).later (Below.push (Below.refl _ _) _)
  st2 := fun e => (h.st2 e).later (Below.push (Below.refl _ _) _)
  st3 := fun e => by have := (h.o3 e).2; rw [ha] at this; cases this
  o1 := h.o1
  o2 := h.o2
  o3 := fun e => ⟨(h.o3 e).1, rfl⟩
theorem Dyn.store3 {w0 w : World} {n : Nat} {c1 c2 c3 a1 a2 a3 s1 s2 s3 : Bool} {v1 v2 v3 q1 q2 q3 : Value} {p : Nat} {x y : Value} (h : Dyn w0 n c1 c2 c3 a1 a2 a3 s1 s2 s3 v1 v2 v3 q1 q2 q3 w) (hc : c3 = true) (ha : a3 = true) (hq : q3 = .pointer (some ⟨p, 0, none⟩)) (hv : v3 = .agg #[x, y]) : Dyn w0 n c1 c2 c3 a1 a2 a3 s1 s2 true v1 v2 v3 q1 q2 q3 ((w.setCell ⟨p, 0, none⟩ x).setCell ⟨p, 1, none⟩ y) where
  bel := by
    obtain ⟨p', u, u', e, h1, h2⟩ := h.hp3 ha
    obtain rfl := ptr_inj (hq.symm.trans e)
    exact (h.bel.setCell (by simpa using h1) _).setCell (by simpa using h1) _
  hv1 := fun e => (h.hv1 e).set p x y (fun b hb => h.ap13 e ha p b hq hb)
  hv2 := fun e => (h.hv2 e).set p x y (fun b hb => h.ap23 e ha p b hq hb)
  hv3 := fun e => (h.hv3 e).set p x y (fun b hb => h.ap33 e ha p b hq hb)
  hp1 := fun e => (h.hp1 e).set p x y
  hp2 := fun e => (h.hp2 e).set p x y
  hp3 := fun e => (h.hp3 e).set p x y
  ap11 := h.ap11
  ap12 := h.ap12
  ap13 := h.ap13
  ap21 := h.ap21
  ap22 := h.ap22
  ap23 := h.ap23
  ap31 := h.ap31
  ap32 := h.ap32
  ap33 := h.ap33
  d12 := h.d12
  d13 := h.d13
  d23 := h.d23
  st1 := fun e => (h.st1 e).set p x y (by rw [← hq]; exact h.d13 (h.o1 e).2 ha)
  st2 := fun e => (h.st2 e).set p x y (by rw [← hq]; exact h.d23 (h.o2 e).2 ha)
  st3 := fun _ => by
    obtain ⟨p', u, u', e, h1, h2⟩ := h.hp3 ha
    obtain rfl := ptr_inj (hq.symm.trans e)
    exact ⟨p, x, y, hq, hv, h2.set x y⟩
  o1 := h.o1
  o2 := h.o2
  o3 := fun _ => ⟨hc, ha⟩
end Go.Proofs.YtgnicnaiaijdcaaDoor
