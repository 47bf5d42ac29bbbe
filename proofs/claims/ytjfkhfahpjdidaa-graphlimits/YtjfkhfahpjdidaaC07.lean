/- Carried: C08. -/
import Derived.Test.YtjfkhfahpjdidaaC06
namespace Go.Proofs.Ytjfkhfahpjdidaa
set_option linter.unusedVariables false
set_option linter.unusedSimpArgs false
set_option maxRecDepth 100000
open Go.RowKit

/-- A box with a tensor in it. -/
structure TB (w : World) (B : Nat) (x y : Value) (t : Ten) : Prop where
  box : Box w B x y
  ten : Tens w x y t
def Live (w : World) : List (Nat × Value × Value × Ten) → Prop
  | [] => True
  | e :: L => TB w e.1 e.2.1 e.2.2.1 e.2.2.2 ∧ Live w L
theorem TB.later {w w' : World} {B : Nat} {x y : Value} {t : Ten} (hb : Below w.heap.size w w') (h : TB w B x y t) : TB w' B x y t := ⟨h.box.later hb, h.ten.later hb⟩
theorem Live.later {w w' : World} (hb : Below w.heap.size w w') : ∀ {L : List (Nat × Value × Value × Ten)}, Live w L → Live w' L
  | [], _ => trivial
  | _ :: _, h => ⟨h.1.later hb, Live.later hb h.2⟩
theorem Live.push {w : World} {L : List (Nat × Value × Value × Ten)} {x y : Value} {t : Ten} (h : Live w L) (ht : Tens w x y t) : Live (w.alloc (.cells #[x, y] 70)) ((w.heap.size, x, y, t) :: L) :=
  ⟨⟨Box.new w x y, ht.later ((Below.refl _ _).alloc (Nat.le_refl _) _)⟩, h.later ((Below.refl _ _).alloc (Nat.le_refl _) _)⟩
theorem Below.push {w0 w : World} (h : Below w0.heap.size w0 w) (o : Obj) : Below w0.heap.size w0 (w.alloc o) := h.alloc h.size o
set_option maxRecDepth 100000 in
theorem lit35 (g : Nat → Value) : (g 0 :: g 1 :: g 2 :: g 3 :: g 4 :: g 5 :: g 6 :: g 7 :: g 8 :: g 9 :: g 10 :: g 11 :: g 12 :: g 13 :: g 14 :: g 15 :: g 16 :: g 17 :: g 18 :: g 19 :: g 20 :: g 21 :: g 22 :: g 23 :: g 24 :: g 25 :: g 26 :: g 27 :: g 28 :: g 29 :: g 30 :: g 31 :: g 32 :: g 33 :: g 34 :: []).toArray = ((List.range 35).map g).toArray := by rfl
set_option maxRecDepth 100000 in
theorem act35 (a : Act) (hd : a.defers = []) (hs : a.tmps.size = 35) : ∃ g : Nat → Value, (∀ i, a.tmps.getD i undef = g i) ∧ a = { tmps := (g 0 :: g 1 :: g 2 :: g 3 :: g 4 :: g 5 :: g 6 :: g 7 :: g 8 :: g 9 :: g 10 :: g 11 :: g 12 :: g 13 :: g 14 :: g 15 :: g 16 :: g 17 :: g 18 :: g 19 :: g 20 :: g 21 :: g 22 :: g 23 :: g 24 :: g 25 :: g 26 :: g 27 :: g 28 :: g 29 :: g 30 :: g 31 :: g 32 :: g 33 :: g 34 :: []).toArray, defers := [] } := by
  refine ⟨fun i => a.tmps.getD i undef, fun _ => rfl, ?_⟩
  have h := lit35 (fun i => a.tmps.getD i undef)
  have e : a.tmps = ((List.range 35).map (fun i => a.tmps.getD i undef)).toArray := by
    apply Array.ext
    · simp [hs]
    · intro i h1 h2
      simp [h1]
  exact (show a = Act.mk a.tmps a.defers from rfl).trans (by rw [hd]; exact congrArg (fun t => Act.mk t []) (e.trans h.symm))
set_option maxRecDepth 100000 in
theorem lit58 (g : Nat → Value) : (g 0 :: g 1 :: g 2 :: g 3 :: g 4 :: g 5 :: g 6 :: g 7 :: g 8 :: g 9 :: g 10 :: g 11 :: g 12 :: g 13 :: g 14 :: g 15 :: g 16 :: g 17 :: g 18 :: g 19 :: g 20 :: g 21 :: g 22 :: g 23 :: g 24 :: g 25 :: g 26 :: g 27 :: g 28 :: g 29 :: g 30 :: g 31 :: g 32 :: g 33 :: g 34 :: g 35 :: g 36 :: g 37 :: g 38 :: g 39 :: g 40 :: g 41 :: g 42 :: g 43 :: g 44 :: g 45 :: g 46 :: g 47 :: g 48 :: g 49 :: g 50 :: g 51 :: g 52 :: g 53 :: g 54 :: g 55 :: g 56 :: g 57 :: []).toArray = ((List.range 58).map g).toArray := by rfl
set_option maxRecDepth 100000 in
theorem act58 (a : Act) (hd : a.defers = []) (hs : a.tmps.size = 58) : ∃ g : Nat → Value, (∀ i, a.tmps.getD i undef = g i) ∧ a = { tmps := (g 0 :: g 1 :: g 2 :: g 3 :: g 4 :: g 5 :: g 6 :: g 7 :: g 8 :: g 9 :: g 10 :: g 11 :: g 12 :: g 13 :: g 14 :: g 15 :: g 16 :: g 17 :: g 18 :: g 19 :: g 20 :: g 21 :: g 22 :: g 23 :: g 24 :: g 25 :: g 26 :: g 27 :: g 28 :: g 29 :: g 30 :: g 31 :: g 32 :: g 33 :: g 34 :: g 35 :: g 36 :: g 37 :: g 38 :: g 39 :: g 40 :: g 41 :: g 42 :: g 43 :: g 44 :: g 45 :: g 46 :: g 47 :: g 48 :: g 49 :: g 50 :: g 51 :: g 52 :: g 53 :: g 54 :: g 55 :: g 56 :: g 57 :: []).toArray, defers := [] } := by
  refine ⟨fun i => a.tmps.getD i undef, fun _ => rfl, ?_⟩
  have h := lit58 (fun i => a.tmps.getD i undef)
  have e : a.tmps = ((List.range 58).map (fun i => a.tmps.getD i undef)).toArray := by
    apply Array.ext
    · simp [hs]
    · intro i h1 h2
      simp [h1]
  exact (show a = Act.mk a.tmps a.defers from rfl).trans (by rw [hd]; exact congrArg (fun t => Act.mk t []) (e.trans h.symm))
theorem TensL.row {w : World} {a : Option Addr} {c : Nat} {L : List Ten} (h : TensL w (.slice a L.length c) L) (i : Nat) (hi : i < L.length) :
    ∃ b off xa xc ya yc, a = some ⟨b, off, none⟩ ∧ w.cell? ⟨b, off + i * 2, none⟩ = some (.slice xa L[i].1.length xc) ∧ w.cell? ⟨b, off + i * 2 + 1, none⟩ = some (.slice ya L[i].2.length yc) ∧ Hid (Tens w (.slice xa L[i].1.length xc) (.slice ya L[i].2.length yc) L[i]) := by
  obtain ⟨_, a', c', e, _, hrow⟩ := h
  simp only [Value.slice.injEq, true_and] at e
  obtain ⟨rfl, rfl⟩ := e
  obtain ⟨b, off, x, y, ha, hc1, hc2, hx, hy⟩ := hrow i hi
  obtain ⟨xa, xc, rfl⟩ := hx.shape
  obtain ⟨ya, yc, rfl⟩ := hy.shape
  exact ⟨b, off, xa, xc, ya, yc, ha, hc1, hc2, hx, hy⟩
theorem tok_pos {t : Ten} (h : tok t = true) : 1 ≤ t.2.length ∧ t.2.length ≤ 64 := by
  have h1 := tok_len h
  obtain ⟨_, _, hin, hp⟩ := okd_parts (tok_okd h)
  have := prd_lo hin
  omega
theorem fit_self {s : Ten} : fitE s s = tkE s := by
  simp [fitE, tkE]
theorem wrap_k (x : Int) : ∃ k : Int, wrap64 x = x + k * 18446744073709551616 := by
  refine ⟨-((x + 9223372036854775808) / 18446744073709551616), ?_⟩
  unfold wrap64
  omega
theorem wrap_addk (x k : Int) : wrap64 (x + k * 18446744073709551616) = wrap64 x := by
  unfold wrap64
  rw [show x + k * 18446744073709551616 + 9223372036854775808 = (x + 9223372036854775808) + k * 18446744073709551616 by omega, Int.add_mul_emod_self_right]
theorem wl (x y : Int) : wrap64 (wrap64 x + y) = wrap64 (x + y) := by
  obtain ⟨k, h⟩ := wrap_k x
  rw [h, show x + k * 18446744073709551616 + y = (x + y) + k * 18446744073709551616 by omega, wrap_addk]
theorem wr (x y : Int) : wrap64 (x + wrap64 y) = wrap64 (x + y) := by rw [Int.add_comm, wl, Int.add_comm]
theorem wrap_in {x : Int} (h : -9223372036854775808 ≤ x ∧ x ≤ 9223372036854775807) : wrap64 x = x := by unfold wrap64; omega
def sg (f : Nat → Int) : Nat → Int
  | 0 => 0
  | n + 1 => sg f n + f n
/-- b summed up along p, of the first j numbers. -/
def sums (p : Nat → Nat) (b : List Int) (m j : Nat) : List Int := (List.range m).map fun k => wrap64 (sg (fun i => if p i = k then b.getD i 0 else 0) j)
theorem sums_length (p : Nat → Nat) (b : List Int) (m j : Nat) : (sums p b m j).length = m := by simp [sums]
theorem sums_zero (p : Nat → Nat) (b : List Int) (m : Nat) : sums p b m 0 = List.replicate m 0 := by
  apply List.ext_getElem
  · simp [sums]
  · intro i h1 h2
    simp only [sums, List.getElem_map, List.getElem_replicate, sg]
    decide +kernel
theorem sums_set (p : Nat → Nat) (b : List Int) (m j : Nat) (hp : p j < m) : (sums p b m j).set (p j) (wrap64 ((sums p b m j).getD (p j) 0 + b.getD j 0)) = sums p b m (j + 1) := by
  apply List.ext_getElem
  · simp [sums]
  · intro k h1 h2
    have hk : k < m := by simpa [sums] using h2
    simp only [List.getElem_set, sums, List.getElem_map, List.getElem_range, sg]
    by_cases e : p j = k
    · subst e
      simp [hp, wl]
    · rw [if_neg e]
      simp [e]
/-- a laid out by p. -/
def laid (p : Nat → Nat) (a : List Int) (n : Nat) : List Int := (List.range n).map fun i => a.getD (p i) 0
theorem laid_length (p : Nat → Nat) (a : List Int) (n : Nat) : (laid p a n).length = n := by simp [laid]
theorem Wr.later {w w' : World} {B : Nat} {v : Value} (hb : Below w.heap.size w w') (h : Wr w B v) : Wr w' B v := by
  rcases h with h | ⟨g, n, cap, cur, rfl, h1, h2, h3, h4, h5⟩
  · exact Or.inl h
  · exact Or.inr ⟨g, n, cap, cur, rfl, h1, h2, h3, (hb.block g (Array.getElem?_eq_some_iff.1 h4).1).trans h4, h5⟩
theorem Wr.mono {w : World} {B B' : Nat} {v : Value} (h : Wr w B v) (hB : B' ≤ B) : Wr w B' v := by
  rcases h with h | ⟨g, n, cap, cur, rfl, h1, h2, h3, h4, h5⟩
  · exact Or.inl h
  · exact Or.inr ⟨g, n, cap, cur, rfl, by omega, h2, h3, h4, h5⟩
theorem Wr.lt {w : World} {B : Nat} {v : Value} (h : Wr w B v) : ∀ k, v.ownBlock = some k → k < w.heap.size := by
  intro k hk
  rcases h with rfl | ⟨g, n, cap, cur, rfl, h1, h2, h3, h4, h5⟩
  · simp [Value.ownBlock] at hk
  · simp [Value.ownBlock] at hk
    subst hk
    exact (Array.getElem?_eq_some_iff.1 h4).1
theorem each_ok_eq {op : Int → Int → Int} {s t : Ten} (h : fitE s t = 0) : eachR op s t = (s.1, List.zipWith op s.2 t.2) := by rw [eachR, if_pos h]
theorem each_bad_eq {op : Int → Int → Int} {s t : Ten} {x : Int} (h : fitE s t = x) (hx : x ≠ 0) : eachR op s t = ([], []) := by rw [eachR, h, if_neg hx]
theorem fit_lens {s t : Ten} (h : fitE s t = 0) : t.2.length = s.2.length ∧ 1 ≤ s.2.length ∧ s.2.length ≤ 64 := by
  obtain ⟨hs, ht, hd⟩ := fit_zero h
  have h1 := tok_len hs
  have h2 := tok_len ht
  rw [← hd] at h2
  have h3 := tok_pos hs
  omega
theorem OwnT.set2 {w : World} {B p : Nat} {x y : Value} {t : Ten} (h : OwnT w B x y t) (u v : Value) (hp : p < B) : OwnT ((w.setCell ⟨p, 0, none⟩ u).setCell ⟨p, 1, none⟩ v) B x y t := (h.setCell _ _ hp).setCell _ _ hp
theorem Box.other2 {w : World} {B p : Nat} {x y : Value} (h : Box w B x y) (u v : Value) (hp : B ≠ p) : Box ((w.setCell ⟨p, 0, none⟩ u).setCell ⟨p, 1, none⟩ v) B x y := (h.other _ _ hp).other _ _ hp
/-- Behind a goto: the frame's size, where the answer's box is, and that it is empty. -/
def Jg (n k B : Nat) (w : World) (a : Act) (w' : World) : Prop :=
  a.defers = [] ∧ a.tmps.size = n ∧ a.tmps.getD k undef = .pointer (some ⟨B, 0, none⟩) ∧ Box w' B (.slice none 0 0) (.slice none 0 0) ∧ Below w.heap.size w w'
def trE (t : Ten) : Int := if tok t then (if t.1.length = 2 then 0 else 4) else 1
def trR (t : Ten) : Ten := if trE t = 0 then ([t.1.getD 1 0, t.1.getD 0 0], tns (t.1.getD 0 0).toNat (t.1.getD 1 0).toNat t.2) else ([], [])
/-- All that was there is as it was, but for block g. -/
structure Bu (g : Nat) (w w' : World) : Prop where
  os : w'.os = w.os
  tape : w'.tape = w.tape
  output : w'.output = w.output
  size : w.heap.size ≤ w'.heap.size
  block : ∀ k, k < w.heap.size → k ≠ g → w'.heap[k]? = w.heap[k]?
theorem Bu.refl (g : Nat) (w : World) : Bu g w w := ⟨rfl, rfl, rfl, Nat.le_refl _, fun _ _ _ => rfl⟩
theorem Bu.after {g : Nat} {w w1 w2 : World} (h : Bu g w w1) (hb : Below w1.heap.size w1 w2) : Bu g w w2 :=
  ⟨hb.os.trans h.os, hb.tape.trans h.tape, hb.output.trans h.output, Nat.le_trans h.size hb.size, fun k hk hg => (hb.block k (Nat.lt_of_lt_of_le hk h.size)).trans (h.block k hk hg)⟩
theorem Bu.setCell {g j : Nat} {w w' : World} (h : Bu g w w') (u : Value) : Bu g w (w'.setCell ⟨g, j, none⟩ u) :=
  ⟨h.os, h.tape, h.output, by simpa using h.size, fun k hk hg => (heap_setCell_other w' _ k u hg).trans (h.block k hk hg)⟩
theorem Bu.drew {g : Nat} {w w' : World} (h : Bu g w w') : Bu g w w'.drew := ⟨h.os, h.tape, h.output, h.size, h.block⟩
theorem Bu.box {g : Nat} {w w' : World} (h : Bu g w w') {B : Nat} {x y : Value} (hb : Box w B x y) (hB : B ≠ g) : Box w' B x y := (h.block B hb.lt hB).trans hb
theorem Bu.cell {g : Nat} {w w' : World} {p : Addr} (h : Bu g w w') (hl : p.block < w.heap.size) (hp : p.block ≠ g) : w'.cell? p = w.cell? p := World.cell?_of_block (w := w) (h.block p.block hl hp)
theorem Bu.below {g N : Nat} {w0 w w' : World} (h : Bu g w w') (hb : Below N w0 w) (hN : N ≤ g) (hM : N ≤ w.heap.size) : Below N w0 w' :=
  hb.trans ⟨h.os, h.tape, h.output, h.size, fun k hk => h.block k (by omega) (by omega)⟩
theorem Bu.ints {g : Nat} {w w' : World} {v : Value} {d : List Int} (h : Bu g w w') (hd : Ints w v d) (hg : ∀ k, v.ownBlock = some k → k ≠ g) : Ints w' v d := by
  rcases hd with ⟨rfl, rfl⟩ | ⟨a, c, rfl, h1, h2, h3⟩
  · exact Ints.nil _
  · refine Or.inr ⟨a, c, rfl, h1, h2, fun i hi => ?_⟩
    obtain ⟨b, off, rfl, hc⟩ := h3 i hi
    refine ⟨b, off, rfl, ?_⟩
    rw [h.cell (p := ⟨b, off + i, none⟩) (World.block_lt_of_cell? _ _ hc) (hg b rfl)]
    exact hc
/-- The number at row i, column k of the product (n numbers in a row of a, q in a row of b). -/
def mxe (a b : List Int) (n q i k : Nat) : Int := wrap64 (sg (fun j => a.getD (i * n + j) 0 * b.getD (j * q + k) 0) n)
/-- The product of m by n and n by q. -/
def mxl (m n q : Nat) (a b : List Int) : List Int := (List.range (m * q)).map fun x => mxe a b n q (x / q) (x % q)
theorem mxl_length (m n q : Nat) (a b : List Int) : (mxl m n q a b).length = m * q := by simp [mxl]
theorem rc_lt {m q i k : Nat} (hi : i < m) (hk : k < q) : i * q + k < m * q := by
  have h : (i + 1) * q ≤ m * q := Nat.mul_le_mul_right q hi
  rw [Nat.add_mul, Nat.one_mul] at h
  omega
theorem row_lt {m q x : Nat} (h : x < m * q) : x / q < m ∧ x % q < q := by
  have hq : 0 < q := by
    rcases Nat.eq_zero_or_pos q with e | e
    · subst e; simp at h
    · exact e
  exact ⟨Nat.div_lt_of_lt_mul (by rw [Nat.mul_comm]; exact h), Nat.mod_lt _ hq⟩
/-- A matrix of p by q in memory, read: where its dims and its numbers lie. -/
structure MatC (w : World) (a0 a1 : Value) (p q N : Nat) (l : List Int) (db dof dc ab ao ac : Nat) : Prop where
  e0 : a0 = .slice (some ⟨db, dof, none⟩) 2 dc
  e1 : a1 = .slice (some ⟨ab, ao, none⟩) N ac
  hdc : 2 ≤ dc
  hac : N ≤ ac
  hdb : db < w.heap.size
  hab : ab < w.heap.size
  c0 : w.cell? ⟨db, dof, none⟩ = some (.int .i64 p)
  c1 : w.cell? ⟨db, dof + 1, none⟩ = some (.int .i64 q)
  cd : ∀ i, i < N → w.cell? ⟨ab, ao + i, none⟩ = some (.int .i64 (l.getD i 0))
theorem MatC.later {w w' : World} {a0 a1 : Value} {p q N : Nat} {l : List Int} {db dof dc ab ao ac : Nat} (hb : Below w.heap.size w w') (h : MatC w a0 a1 p q N l db dof dc ab ao ac) : MatC w' a0 a1 p q N l db dof dc ab ao ac :=
  ⟨h.e0, h.e1, h.hdc, h.hac, Nat.lt_of_lt_of_le h.hdb hb.size, Nat.lt_of_lt_of_le h.hab hb.size, cell_later hb h.c0, cell_later hb h.c1, fun i hi => cell_later hb (h.cd i hi)⟩
theorem Tens.mat {w : World} {a0 a1 : Value} {p q N : Nat} {l : List Int} (ha : Tens w a0 a1 ([(p : Int), (q : Int)], l)) (hl : l.length = N) (h1 : 1 ≤ N) :
    ∃ db dof dc ab ao ac, MatC w a0 a1 p q N l db dof dc ab ao ac := by
  rcases ha.2.cases with ⟨e, _⟩ | ⟨ab, ao, ac, ea, hab0, ha1, _, HCA⟩
  · simp only at e; rw [e] at hl; simp at hl; omega
  simp only at HCA hab0 ha1 ea
  have hab : ab < w.heap.size := World.block_lt_of_cell? _ _ (HCA.out 0 hab0)
  have hcd : ∀ i, i < N → w.cell? ⟨ab, ao + i, none⟩ = some (.int .i64 (l.getD i 0)) := fun i hi => Ints.cellD (n := 0) (c := 0) HCA i (by rw [hl]; exact hi)
  rw [hl] at ea ha1
  obtain ⟨db, dof, dc, ed, hdc, hd0, hd1⟩ : ∃ b off c, a0 = .slice (some ⟨b, off, none⟩) 2 c ∧ 2 ≤ c ∧ w.cell? ⟨b, off + 0, none⟩ = some (.int .i64 p) ∧ w.cell? ⟨b, off + 1, none⟩ = some (.int .i64 q) := by
    rcases ha.1.cases with ⟨e, _⟩ | ⟨b, off, c, e, h0, h1, h2, HC⟩
    · cases e
    · exact ⟨b, off, c, e, h1, HC.out 0 (by simp), HC.out 1 (by simp)⟩
  exact ⟨db, dof, dc, ab, ao, ac, ed, ea, hdc, ha1, World.block_lt_of_cell? _ _ hd0, hab, hd0, hd1, hcd⟩
theorem tok2 {p q : Nat} {l : List Int} (h : tok ([(p : Int), (q : Int)], l) = true) : 1 ≤ p ∧ p ≤ 8 ∧ 1 ≤ q ∧ q ≤ 8 ∧ l.length = p * q := by
  obtain ⟨hp1, hp8, hq1, hq8⟩ := okd2 (tok_okd h)
  refine ⟨by omega, by omega, by omega, by omega, ?_⟩
  have h := tok_len h
  have : prd [(p : Int), (q : Int)] = ((p * q : Nat) : Int) := by simp [prd]
  rw [this] at h
  exact Int.ofNat.inj h
theorem prd2 (p q : Nat) : (prd [(p : Int), (q : Int)]).toNat = p * q := by
  have : prd [(p : Int), (q : Int)] = ((p * q : Nat) : Int) := by simp [prd]
  rw [this, Int.toNat_natCast]
theorem nat2 {d : List Int} {l : List Int} (h : tok (d, l) = true) (h2 : d.length = 2) : ∃ p q : Nat, d = [(p : Int), (q : Int)] := by
  obtain ⟨x, y, rfl⟩ := two_of h2
  obtain ⟨hx1, _, hy1, _⟩ := okd2 (tok_okd h)
  exact ⟨x.toNat, y.toNat, by rw [Int.toNat_of_nonneg (by omega), Int.toNat_of_nonneg (by omega)]⟩
theorem mul64 {p q : Nat} (hp : p ≤ 8) (hq : q ≤ 8) : p * q ≤ 64 := Nat.le_trans (Nat.mul_le_mul hp hq) (by decide)
set_option maxHeartbeats 1000000 in
theorem mul_any {a0 a1 b0 b1 : Value} {s t : Ten} {w : World} (ha : Tens w a0 a1 s) (hb' : Tens w b0 b1 t) :
    Calls Try.prog 54 #[.agg #[a0, a1], .agg #[b0, b1]] w fun e w' => ∃ x0 x1, e = .returned (.tuple #[.agg #[x0, x1], .int .i64 (fitE s t)]) ∧ OwnT w' w.heap.size x0 x1 (eachR opM s t) ∧ Below w.heap.size w w' := by
  have hb : Below w.heap.size w (((w.alloc (.cells #[a0, a1] 70)).alloc (.cells #[b0, b1] 70)).alloc (.cells #[.slice none 0 0, .slice none 0 0] 70)) := (((Below.refl _ _).alloc (Nat.le_refl _) _).alloc (by simp) _).alloc (by simp; omega) _
  have HA : Hid (Tens (((w.alloc (.cells #[a0, a1] 70)).alloc (.cells #[b0, b1] 70)).alloc (.cells #[.slice none 0 0, .slice none 0 0] 70)) a0 a1 s) := ha.later hb
  have HT : Hid (Tens (((w.alloc (.cells #[a0, a1] 70)).alloc (.cells #[b0, b1] 70)).alloc (.cells #[.slice none 0 0, .slice none 0 0] 70)) b0 b1 t) := hb'.later hb
  have HB : Hid (Below w.heap.size w (((w.alloc (.cells #[a0, a1] 70)).alloc (.cells #[b0, b1] 70)).alloc (.cells #[.slice none 0 0, .slice none 0 0] 70))) := hb
  have HBX : Hid (Box (((w.alloc (.cells #[a0, a1] 70)).alloc (.cells #[b0, b1] 70)).alloc (.cells #[.slice none 0 0, .slice none 0 0] 70)) (w.heap.size + 1 + 1) (.slice none 0 0) (.slice none 0 0)) := by
    have := Box.new ((w.alloc (.cells #[a0, a1] 70)).alloc (.cells #[b0, b1] 70)) (.slice none 0 0) (.slice none 0 0)
    simp only [World.size_alloc] at this
    exact this
  clear ha hb' hb
  go_enter Try.func54, Try.ntmps54
  go_wp2_with fail
  refine (each_any (op := opM) deed_mul HA.out HT.out).mono ?_
  rintro e w1 ⟨x0, x1, rfl, ho, hb1⟩
  simp only [World.size_alloc] at ho
  have HO : Hid (OwnT w1 (w.heap.size + 1 + 1 + 1) x0 x1 (eachR opM s t)) := ho
  have HB1 : Hid (Below w.heap.size w w1) := Below.after HB.out hb1
  have hbx := HBX.out.later hb1
  have hx0' := hbx.c0
  have hx1 := hbx.c1
  have hf0 := hbx.f 0
  have hf1 := hbx.f 1
  obtain ⟨xa, xc, rfl⟩ := ho.dims.ints.shape
  obtain ⟨ya, yc, rfl⟩ := ho.data.ints.shape
  have HBS : Hid (Box _ _ _ _) := hbx.set (.slice xa (eachR opM s t).1.length xc) (.slice ya (eachR opM s t).2.length yc)
  clear hb1 hbx ho
  go_wp2
  have hr0 := HBS.out.c0
  have hr1 := HBS.out.c1
  refine bodyPost_ret (v := .tuple #[.agg #[.slice xa (eachR opM s t).1.length xc, .slice ya (eachR opM s t).2.length yc], .int .i64 (fitE s t)]) (by simp [results, Try.results54, go_sem, hr0, hr1]) rfl ⟨_, _, rfl, ?_, ?_⟩
  · exact ((HO.out.setCell _ _ (by simp)).setCell _ _ (by simp)).mono (by omega)
  · exact (HB1.out.setCell (by simp; omega) _).setCell (by simp; omega) _
theorem mul_to {a0 a1 b0 b1 : Value} {s t : Ten} {w : World} (x : Int) (ha : Tens w a0 a1 s) (hb' : Tens w b0 b1 t) (hx : fitE s t = x) :
    Calls Try.prog 54 #[.agg #[a0, a1], .agg #[b0, b1]] w fun e w' => ∃ x0 x1, e = .returned (.tuple #[.agg #[x0, x1], .int .i64 x]) ∧ OwnT w' w.heap.size x0 x1 (eachR opM s t) ∧ Below w.heap.size w w' := by
  subst hx
  exact mul_any ha hb'
theorem Rg.set {X : List Int} (h : Rg X) (j : Nat) (x : Int) (hx : -9223372036854775808 ≤ x ∧ x ≤ 9223372036854775807) : Rg (X.set j x) := by
  intro y hy
  rcases List.mem_or_eq_of_mem_set hy with h1 | h1
  · exact h y h1
  · rw [h1]; exact hx
end Go.Proofs.Ytjfkhfahpjdidaa
