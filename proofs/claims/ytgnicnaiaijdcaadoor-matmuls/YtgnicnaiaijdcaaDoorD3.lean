/- Contract: turn's Turn. -/
import Derived.Test.YtgnicnaiaijdcaaDoorJ3
namespace Go.Proofs.YtgnicnaiaijdcaaDoor
set_option linter.unusedVariables false
set_option linter.unusedSimpArgs false
open Go.RowKit

/-- Behind a goto: the frame's size, where the answer's box is, and that it is empty. -/
def Jg (n k B : Nat) (w : World) (a : Act) (w' : World) : Prop :=
  a.defers = [] ∧ a.tmps.size = n ∧ a.tmps.getD k undef = .pointer (some ⟨B, 0, none⟩) ∧ Box w' B (.slice none 0 0) (.slice none 0 0) ∧ Below w.heap.size w w'

theorem at_to {v v' : Value} {d p : List Int} {w : World} (x : Int) (hd : Ints w v d) (hp : Ints w v' p) (ha : aok d p = true) (hx : atV d p = x) :
    Calls Tryd.prog 39 #[v, v'] w fun e w' => e = .returned (.tuple #[.int .i64 x, .int .i64 0]) ∧ Below w.heap.size w w' := by
  have hok : okd d = true := by
    simp only [aok, Bool.and_eq_true] at ha
    exact ha.1
  have := at_ok hd hp hok
  rw [atR, atE, ha, if_pos rfl, if_pos rfl, hx] at this
  exact this
def trE (t : Ten) : Int := if tok t then (if t.1.length = 2 then 0 else 4) else 1
def trR (t : Ten) : Ten := if trE t = 0 then ([t.1.getD 1 0, t.1.getD 0 0], tns (t.1.getD 0 0).toNat (t.1.getD 1 0).toNat t.2) else ([], [])

/-- All that was there is as it was, but for block g. -/
structure Bu (g : Nat) (w w' : World) : Prop where
  os : w'.os = w.os
  tape : w'.tape = w.tape
  output : w'.output = w.output
  size : w.heap.size ≤ w'.heap.size
  block : ∀ k, k < w.heap.size → k ≠ g → w'.heap[k]? = w.heap[k]?
theorem Bu.refl (g : Nat) (w : World) : Bu g w w := ⟨rfl, rfl, rfl, Nat.le_refl _, fun _ _ _ => rfl⟩
theorem Bu.after {g : Nat} {w w1 w2 : World} (h : Bu g w w1) (hb : Below w1.heap.size w1 w2) : Bu g w w2 :=
  ⟨hb.os.trans h.os, hb.tape.trans h.tape, hb.output.trans h.output, Nat.le_trans h.size hb.size, fun k hk hg => (hb.block k (Nat.lt_of_lt_of_le hk h.size)).trans (h.block k hk hg)⟩
theorem Bu.setCell {g j : Nat} {w w' : World} (h : Bu g w w') (u : Value) : Bu g w (w'.setCell ⟨g, j, none⟩ u) :=
  ⟨h.os, h.tape, h.output, by simpa using h.size, fun k hk hg => (heap_setCell_other w' _ k u hg).trans (h.block k hk hg)⟩
theorem Bu.drew {g : Nat} {w w' : World} (h : Bu g w w') : Bu g w w'.drew := ⟨h.os, h.tape, h.output, h.size, h.block⟩
theorem Bu.box {g : Nat} {w w' : World} (h : Bu g w w') {B : Nat} {x y : Value} (hb : Box w B x y) (hB : B ≠ g) : Box w' B x y := (h.block B hb.lt hB).trans hb
theorem Bu.cell {g : Nat} {w w' : World} {p : Addr} (h : Bu g w w') (hl : p.block < w.heap.size) (hp : p.block ≠ g) : w'.cell? p = w.cell? p := World.cell?_of_block (w := w) (h.block p.block hl hp)
theorem Bu.below {g N : Nat} {w0 w w' : World} (h : Bu g w w') (hb : Below N w0 w) (hN : N ≤ g) (hM : N ≤ w.heap.size) : Below N w0 w' :=
  hb.trans ⟨h.os, h.tape, h.output, h.size, fun k hk => h.block k (by omega) (by omega)⟩
theorem Bu.ints {g : Nat} {w w' : World} {v : Value} {d : List Int} (h : Bu g w w') (hd : Ints w v d) (hg : ∀ k, v.ownBlock = some k → k ≠ g) : Ints w' v d := by
  rcases hd with ⟨rfl, rfl⟩ | ⟨a, c, rfl, h1, h2, h3⟩
  · exact Ints.nil _
  · refine Or.inr ⟨a, c, rfl, h1, h2, fun i hi => ?_⟩
    obtain ⟨b, off, rfl, hc⟩ := h3 i hi
    refine ⟨b, off, rfl, ?_⟩
    rw [h.cell (p := ⟨b, off + i, none⟩) (World.block_lt_of_cell? _ _ hc) (hg b rfl)]
    exact hc

set_option maxRecDepth 100000 in
set_option maxHeartbeats 2000000 in
theorem turn_bad {a0 a1 : Value} {s : Ten} {w : World} (ha : Tens w a0 a1 s) (hx : tok s = false) :
    Calls Tryd.prog 24 #[.agg #[a0, a1]] w fun e w' => e = .returned (.tuple #[.agg #[.slice none 0 0, .slice none 0 0], .int .i64 1]) ∧ Below w.heap.size w w' := by
  have hb : Below w.heap.size w (((w.alloc (.cells #[a0, a1] 28)).alloc (.cells #[.slice none 0 0, .slice none 0 0] 28)).alloc (.cells #[.slice none 0 0, .slice none 0 0] 28)) := (((Below.refl _ _).alloc (Nat.le_refl _) _).alloc (by simp) _).alloc (by simp; omega) _
  have HA : Hid (Tens (((w.alloc (.cells #[a0, a1] 28)).alloc (.cells #[.slice none 0 0, .slice none 0 0] 28)).alloc (.cells #[.slice none 0 0, .slice none 0 0] 28)) a0 a1 s) := ha.later hb
  have HB : Hid (Below w.heap.size w (((w.alloc (.cells #[a0, a1] 28)).alloc (.cells #[.slice none 0 0, .slice none 0 0] 28)).alloc (.cells #[.slice none 0 0, .slice none 0 0] 28))) := hb
  have HBX : Hid (Box (((w.alloc (.cells #[a0, a1] 28)).alloc (.cells #[.slice none 0 0, .slice none 0 0] 28)).alloc (.cells #[.slice none 0 0, .slice none 0 0] 28)) (w.heap.size + 1) (.slice none 0 0) (.slice none 0 0)) := by
    have := (Box.new (w.alloc (.cells #[a0, a1] 28)) (.slice none 0 0) (.slice none 0 0)).alloc (.cells #[.slice none 0 0, .slice none 0 0] 28)
    simp only [World.size_alloc] at this
    exact this
  obtain ⟨aa, an, ac, rfl⟩ := ha.1.shape3
  obtain ⟨ba, bn, bc, rfl⟩ := ha.2.shape3
  have HT : Hid (tkE s = 1) := by show _ = _; simp [tkE, hx]
  clear ha hb hx
  go_enter Tryd.func24, Tryd.ntmps24
  go_wp2_with fail
  refine wp_scope_jumps 0 (Jg 58 2 (w.heap.size + 1) w) (fun _ _ => 0) rfl ?_ ?_
  · go_wp2_with fail
    refine (tensor_to 1 HA.out HT.out).mono ?_
    rintro e w2 ⟨rfl, hb2⟩
    have HB2 : Hid (Below w.heap.size w w2) := Below.after HB.out hb2
    have HBX2 : Hid (Box w2 (w.heap.size + 1) (.slice none 0 0) (.slice none 0 0)) := HBX.out.later hb2
    clear hb2
    go_wp2
    go_step3
    exact ⟨rfl, rfl, rfl, rfl, HBX2.out, HB2.out⟩
  · rintro a w' ⟨hd, hs, h4, hbx, hbe⟩
    obtain ⟨G, hg, e⟩ := act58 a hd hs
    rw [hg] at h4
    subst e
    rw [h4]
    have l0 := hbx.c0
    have l1 := hbx.c1
    have m0 := hbx.f 0
    have m1 := hbx.f 1
    have HBS : Hid (Box _ _ _ _) := hbx.set (.slice none 0 0) (.slice none 0 0)
    have HBE : Hid (Below w.heap.size w w') := hbe
    clear hg hd hs hbx h4 hbe
    go_wp2
    rw [jump_ret]
    have hr0 := HBS.out.c0
    have hr1 := HBS.out.c1
    exact bodyPost_ret (v := .tuple #[.agg #[.slice none 0 0, .slice none 0 0], .int .i64 1]) (by simp [results, Tryd.results24, go_sem, hr0, hr1]) rfl ⟨rfl, (HBE.out.setCell (by simp) _).setCell (by simp) _⟩

set_option maxRecDepth 100000 in
set_option maxHeartbeats 2000000 in
theorem turn_four {a0 a1 : Value} {s : Ten} {w : World} (ha : Tens w a0 a1 s) (hx : tok s = true) (h2 : s.1.length ≠ 2) :
    Calls Tryd.prog 24 #[.agg #[a0, a1]] w fun e w' => e = .returned (.tuple #[.agg #[.slice none 0 0, .slice none 0 0], .int .i64 4]) ∧ Below w.heap.size w w' := by
  have hb : Below w.heap.size w (((w.alloc (.cells #[a0, a1] 28)).alloc (.cells #[.slice none 0 0, .slice none 0 0] 28)).alloc (.cells #[.slice none 0 0, .slice none 0 0] 28)) := (((Below.refl _ _).alloc (Nat.le_refl _) _).alloc (by simp) _).alloc (by simp; omega) _
  have HA : Hid (Tens (((w.alloc (.cells #[a0, a1] 28)).alloc (.cells #[.slice none 0 0, .slice none 0 0] 28)).alloc (.cells #[.slice none 0 0, .slice none 0 0] 28)) a0 a1 s) := ha.later hb
  have HB : Hid (Below w.heap.size w (((w.alloc (.cells #[a0, a1] 28)).alloc (.cells #[.slice none 0 0, .slice none 0 0] 28)).alloc (.cells #[.slice none 0 0, .slice none 0 0] 28))) := hb
  have HBA : Hid (Box (((w.alloc (.cells #[a0, a1] 28)).alloc (.cells #[.slice none 0 0, .slice none 0 0] 28)).alloc (.cells #[.slice none 0 0, .slice none 0 0] 28)) w.heap.size a0 a1) := ((Box.new w a0 a1).alloc _).alloc _
  have HBX : Hid (Box (((w.alloc (.cells #[a0, a1] 28)).alloc (.cells #[.slice none 0 0, .slice none 0 0] 28)).alloc (.cells #[.slice none 0 0, .slice none 0 0] 28)) (w.heap.size + 1) (.slice none 0 0) (.slice none 0 0)) := by
    have := (Box.new (w.alloc (.cells #[a0, a1] 28)) (.slice none 0 0) (.slice none 0 0)).alloc (.cells #[.slice none 0 0, .slice none 0 0] 28)
    simp only [World.size_alloc] at this
    exact this
  obtain ⟨n, hn⟩ : ∃ n, s.1.length = n := ⟨_, rfl⟩
  have hne : ((n : Int) != 2) = true := by simp; omega
  obtain ⟨aa, ac, ea⟩ := ha.1.shape
  rw [hn] at ea
  subst ea
  obtain ⟨ba, bn, bc, rfl⟩ := ha.2.shape3
  have HT : Hid (tkE s = 0) := by show _ = _; simp [tkE, hx]
  clear ha hb hx h2 hn
  go_enter Tryd.func24, Tryd.ntmps24
  go_wp2_with fail
  refine wp_scope_jumps 1 (Jg 58 2 (w.heap.size + 1) w) (fun _ _ => 0) rfl ?_ ?_
  · go_wp2_with fail
    refine (tensor_to 0 HA.out HT.out).mono ?_
    rintro e w2 ⟨rfl, hb2⟩
    have hc0 := (HBA.out.later hb2).c0
    have HB2 : Hid (Below w.heap.size w w2) := Below.after HB.out hb2
    have HBX2 : Hid (Box w2 (w.heap.size + 1) (.slice none 0 0) (.slice none 0 0)) := HBX.out.later hb2
    clear hb2
    go_wp2
    go_step3
    exact ⟨rfl, rfl, rfl, rfl, HBX2.out, HB2.out⟩
  · rintro a w' ⟨hd, hs, h4, hbx, hbe⟩
    obtain ⟨G, hg, e⟩ := act58 a hd hs
    rw [hg] at h4
    subst e
    rw [h4]
    have l0 := hbx.c0
    have l1 := hbx.c1
    have m0 := hbx.f 0
    have m1 := hbx.f 1
    have HBS : Hid (Box _ _ _ _) := hbx.set (.slice none 0 0) (.slice none 0 0)
    have HBE : Hid (Below w.heap.size w w') := hbe
    clear hg hd hs hbx h4 hbe
    go_wp2
    rw [jump_ret]
    have hr0 := HBS.out.c0
    have hr1 := HBS.out.c1
    exact bodyPost_ret (v := .tuple #[.agg #[.slice none 0 0, .slice none 0 0], .int .i64 4]) (by simp [results, Tryd.results24, go_sem, hr0, hr1]) rfl ⟨rfl, (HBE.out.setCell (by simp) _).setCell (by simp) _⟩

set_option maxRecDepth 100000 in
set_option maxHeartbeats 4000000 in
theorem turn_ok {a0 a1 : Value} {p q : Nat} {l : List Int} {w : World} (ha : Tens w a0 a1 ([(p : Int), (q : Int)], l)) (hx : tok ([(p : Int), (q : Int)], l) = true) :
    Calls Tryd.prog 24 #[.agg #[a0, a1]] w fun e w' => ∃ x0 x1, e = .returned (.tuple #[.agg #[x0, x1], .int .i64 0]) ∧ OwnT w' w.heap.size x0 x1 ([(q : Int), (p : Int)], tns p q l) ∧ Below w.heap.size w w' := by
  have hok : okd [(p : Int), (q : Int)] = true := tok_okd hx
  obtain ⟨hp1, hp8, hq1, hq8⟩ := okd2 hok
  have hok2 : okd [(q : Int), (p : Int)] = true := okd2_mk ⟨hq1, hq8, hp1, hp8⟩
  obtain ⟨N, hN⟩ : ∃ N, p * q = N := ⟨_, rfl⟩
  have hl : l.length = N := by
    have h := tok_len hx
    have : prd [(p : Int), (q : Int)] = ((p * q : Nat) : Int) := by simp [prd]
    rw [this, hN] at h
    exact Int.ofNat.inj h
  have hpq : (prd [(q : Int), (p : Int)]).toNat = N := by
    have : prd [(q : Int), (p : Int)] = ((q * p : Nat) : Int) := by simp [prd]
    rw [this, Int.toNat_natCast, Nat.mul_comm, hN]
  have hpN : prd [(p : Int), (q : Int)] = N := by
    have : prd [(p : Int), (q : Int)] = ((p * q : Nat) : Int) := by simp [prd]
    rw [this, hN]
  obtain ⟨hn1, hn64⟩ := tok_pos hx
  simp only at hn1 hn64
  rw [hl] at hn1 hn64
  have HN : Hid (p * q = N) := hN
  have HP8 : Hid (p ≤ 8 ∧ q ≤ 8) := ⟨by omega, by omega⟩
  have HPQ : Hid ((prd [(q : Int), (p : Int)]).toNat = N) := hpq
  have HPN : Hid (prd [(p : Int), (q : Int)] = N) := hpN
  have HOK : Hid (okd [(p : Int), (q : Int)] = true) := hok
  have HOK2 : Hid (okd [(q : Int), (p : Int)] = true) := hok2
  have HT : Hid (tkE ([(p : Int), (q : Int)], l) = 0) := by show _ = _; simp [tkE, hx]
  have hb : Below w.heap.size w (((w.alloc (.cells #[a0, a1] 28)).alloc (.cells #[.slice none 0 0, .slice none 0 0] 28)).alloc (.cells #[.slice none 0 0, .slice none 0 0] 28)) := (((Below.refl _ _).alloc (Nat.le_refl _) _).alloc (by simp) _).alloc (by simp; omega) _
  have HA : Hid (Tens (((w.alloc (.cells #[a0, a1] 28)).alloc (.cells #[.slice none 0 0, .slice none 0 0] 28)).alloc (.cells #[.slice none 0 0, .slice none 0 0] 28)) a0 a1 ([(p : Int), (q : Int)], l)) := ha.later hb
  have HB : Hid (Below w.heap.size w (((w.alloc (.cells #[a0, a1] 28)).alloc (.cells #[.slice none 0 0, .slice none 0 0] 28)).alloc (.cells #[.slice none 0 0, .slice none 0 0] 28))) := hb
  have HBA : Hid (Box (((w.alloc (.cells #[a0, a1] 28)).alloc (.cells #[.slice none 0 0, .slice none 0 0] 28)).alloc (.cells #[.slice none 0 0, .slice none 0 0] 28)) w.heap.size a0 a1) := ((Box.new w a0 a1).alloc _).alloc _
  have HBX : Hid (Box (((w.alloc (.cells #[a0, a1] 28)).alloc (.cells #[.slice none 0 0, .slice none 0 0] 28)).alloc (.cells #[.slice none 0 0, .slice none 0 0] 28)) (w.heap.size + 1) (.slice none 0 0) (.slice none 0 0)) := by
    have := (Box.new (w.alloc (.cells #[a0, a1] 28)) (.slice none 0 0) (.slice none 0 0)).alloc (.cells #[.slice none 0 0, .slice none 0 0] 28)
    simp only [World.size_alloc] at this
    exact this
  have HBT : Hid (Box (((w.alloc (.cells #[a0, a1] 28)).alloc (.cells #[.slice none 0 0, .slice none 0 0] 28)).alloc (.cells #[.slice none 0 0, .slice none 0 0] 28)) (w.heap.size + 1 + 1) (.slice none 0 0) (.slice none 0 0)) := by
    have := Box.new ((w.alloc (.cells #[a0, a1] 28)).alloc (.cells #[.slice none 0 0, .slice none 0 0] 28)) (.slice none 0 0) (.slice none 0 0)
    simp only [World.size_alloc] at this
    exact this
  have HL : Hid (l.length = N) := hl
  rcases ha.2.cases with ⟨e, _⟩ | ⟨ab, ao, ac, ea, hab0, ha1, _, HCA⟩
  · simp only at e; rw [e] at hl; simp at hl; omega
  simp only at HCA hab0 ha1 ea
  have hab : ab < w.heap.size := World.block_lt_of_cell? _ _ (HCA.out 0 hab0)
  have HCD : Hid (∀ i, i < N → w.cell? ⟨ab, ao + i, none⟩ = some (.int .i64 (l.getD i 0))) := fun i hi => Ints.cellD (n := 0) (c := 0) HCA i (by rw [hl]; exact hi)
  rw [hl] at ea ha1
  subst ea
  obtain ⟨aa, ac', ed⟩ := ha.1.shape
  have ed' : a0 = .slice aa 2 ac' := ed
  subst ed'
  have HA0 : Hid (Ints w (.slice aa 2 ac') [(p : Int), (q : Int)]) := ha.1
  clear ed ha hb hx hok hok2 hN hl hpq hpN hab0 HCA
  go_enter Tryd.func24, Tryd.ntmps24
  go_wp2_with fail
  refine wp_scope_jumps 0 (fun _ _ => False) (fun _ _ => 0) rfl ?_ ?_
  · go_wp2_with fail
    refine (tensor_to 0 HA.out HT.out).mono ?_
    rintro e w1 ⟨rfl, hb1⟩
    have HB1 : Hid (Below w.heap.size w w1) := Below.after HB.out hb1
    have hs1 := hb1.size
    simp at hs1
    have HBA1 : Hid (Box w1 w.heap.size _ _) := HBA.out.later hb1
    have HBX1 : Hid (Box w1 (w.heap.size + 1) _ _) := HBX.out.later hb1
    have HBT1 : Hid (Box w1 (w.heap.size + 1 + 1) _ _) := HBT.out.later hb1
    have HA1 : Hid (Ints w1 (.slice aa 2 ac') [(p : Int), (q : Int)]) := (HA.out.later hb1).1
    have c0 := HBA1.out.c0
    clear hb1 HA HB HBA HBX HBT
    go_wp2_with fail
    refine (crossed_any HA1.out).mono ?_
    rintro e w2 ⟨rfl, hk2, hb2⟩
    have hs2 := hb2.size
    have hkl2 := hk2.lt
    have HB2 : Hid (Below w.heap.size w w2) := Below.after HB1.out hb2
    have HK2 : Hid (Ints w2 (.slice (some ⟨w1.heap.size, 0, none⟩) 2 2) [(q : Int), (p : Int)]) := hk2.ints 2 2 rfl (Nat.le_refl _) (by decide)
    have HBA2 : Hid (Box w2 w.heap.size _ _) := HBA1.out.later hb2
    have HBX2 : Hid (Box w2 (w.heap.size + 1) _ _) := HBX1.out.later hb2
    have HBT2 : Hid (Box w2 (w.heap.size + 1 + 1) _ _) := HBT1.out.later hb2
    clear hb2 hk2 c0
    go_wp2_with fail
    refine (fill_own 0 HK2.out HOK2.out).mono ?_
    rw [HPQ.out]
    rintro e w3 ⟨x0, b1, rfl, ho, hbk, ⟨hb1l, hap⟩, hb3⟩
    have hs3 := hb3.size
    have hbl := hbk.lt
    obtain ⟨xa, xn, xc, ex⟩ := ho.ints.shape3
    have ho2 := ho.ints.shape
    subst ex
    have hxn : xn = 2 := by obtain ⟨_, _, e⟩ := ho2; simp at e; exact e.2.1
    subst hxn
    have HB3 : Hid (Below w.heap.size w w3) := Below.after HB2.out hb3
    have HBA3 : Hid (Box w3 w.heap.size _ _) := HBA2.out.later hb3
    have HBX3 : Hid (Box w3 (w.heap.size + 1) _ _) := HBX2.out.later hb3
    have hbt3 := HBT2.out.later hb3
    have t0 := hbt3.c0
    have t1 := hbt3.c1
    have g0 := hbt3.f 0
    have g1 := hbt3.f 1
    have hba4 := (HBA3.out.other ⟨w.heap.size + 1 + 1, 0, none⟩ (.slice xa 2 xc) (by simp; omega)).other ⟨w.heap.size + 1 + 1, 1, none⟩ (.slice (some ⟨b1, 0, none⟩) N N) (by simp; omega)
    have d1 := hba4.c1
    have HBA4 : Hid (Box _ w.heap.size _ _) := hba4
    have HBX4 : Hid (Box _ (w.heap.size + 1) _ _) := (HBX3.out.other ⟨w.heap.size + 1 + 1, 0, none⟩ (.slice xa 2 xc) (by simp)).other ⟨w.heap.size + 1 + 1, 1, none⟩ (.slice (some ⟨b1, 0, none⟩) N N) (by simp)
    have HBT4 : Hid (Box _ (w.heap.size + 1 + 1) _ _) := hbt3.set (.slice xa 2 xc) (.slice (some ⟨b1, 0, none⟩) N N)
    have hxb : ∀ k, (Value.slice xa 2 xc).ownBlock = some k → k ≠ w.heap.size + 1 + 1 := fun k hk => by have := ho.frm k hk; omega
    have HO4 : Hid (Own _ w2.heap.size (.slice xa 2 xc) [(q : Int), (p : Int)]) := (ho.setCell ⟨w.heap.size + 1 + 1, 0, none⟩ (.slice xa 2 xc) hxb).setCell ⟨w.heap.size + 1 + 1, 1, none⟩ (.slice (some ⟨b1, 0, none⟩) N N) hxb
    have HK4 : Hid (Blk ((w3.setCell ⟨w.heap.size + 1 + 1, 0, none⟩ (.slice xa 2 xc)).setCell ⟨w.heap.size + 1 + 1, 1, none⟩ (.slice (some ⟨b1, 0, none⟩) N N)) b1 (trn p q l 0)) := by
      show Blk _ _ _
      rw [trn_zero, HN.out]
      exact (hbk.setOther _ _ (by simp; omega)).setOther _ _ (by simp; omega)
    have HB4 : Hid (Below w.heap.size w _) := (HB3.out.setCell (p := ⟨w.heap.size + 1 + 1, 0, none⟩) (by simp; omega) (.slice xa 2 xc)).setCell (p := ⟨w.heap.size + 1 + 1, 1, none⟩) (by simp; omega) (.slice (some ⟨b1, 0, none⟩) N N)
    have HAP : Hid (∀ k, (Value.slice xa 2 xc).ownBlock = some k → k ≠ b1) := hap
    have hsz4 : ((w3.setCell ⟨w.heap.size + 1 + 1, 0, none⟩ (.slice xa 2 xc)).setCell ⟨w.heap.size + 1 + 1, 1, none⟩ (.slice (some ⟨b1, 0, none⟩) N N)).heap.size = w3.heap.size := by simp
    clear hbt3 hba4 ho ho2 hbk hap hb3 hxb
    go_wp2
    generalize ((w3.setCell ⟨w.heap.size + 1 + 1, 0, none⟩ (.slice xa 2 xc)).setCell ⟨w.heap.size + 1 + 1, 1, none⟩ (.slice (some ⟨b1, 0, none⟩) N N)) = V at HBA4 HBX4 HBT4 HO4 HK4 HB4 d1 hsz4 ⊢
    clear t0 t1 g0 g1
    go_loopw [29] (fun i w' => ∃ j : Nat, j ≤ N ∧ i = .int .i64 j ∧ Blk w' b1 (trn p q l j) ∧ Bu b1 V w') (fun i _ => N - (intOf i).toNat)
    case atStart => exact ⟨0, by omega, rfl, HK4.out, Bu.refl _ _⟩
    case round =>
      obtain ⟨j, hj, rfl, hB, hbu⟩ := hrel
      have HKR : Hid (Blk wr b1 (trn p q l j)) := hB
      have HBU : Hid (Bu b1 V wr) := hbu
      have HBW : Hid (Below w.heap.size w wr) := hbu.below HB4.out (by omega) (by omega)
      have hsr := hbu.size
      clear hB hbu
      by_cases hlt : j < N
      · have hcx := cell_later HBW.out (HCD.out j hlt)
        have hba := (HBU.out.box HBA4.out (by omega)).c0
        have hjp : j < p * q := by rw [HN.out]; exact hlt
        obtain ⟨z1, z2⟩ := cross_at p q j HP8.out.1 HP8.out.2 hjp
        have z3 : tinv q p j < N := by
          have := tinv_lt (m := q) (n := p) (q := j) (by rw [Nat.mul_comm]; exact hjp)
          rw [Nat.mul_comm, HN.out] at this
          exact this
        have HAO : Hid (aok [(q : Int), (p : Int)] [((j % q : Nat) : Int), ((j / q : Nat) : Int)] = true) := z1
        have HAV : Hid (atV [(q : Int), (p : Int)] [((j % q : Nat) : Int), ((j / q : Nat) : Int)] = (tinv q p j : Nat)) := z2
        have HTS : Hid ((trn p q l j).set (tinv q p j) (l.getD j 0) = trn p q l (j + 1)) := trn_set p q l j hjp
        clear hjp z1 z2
        obtain ⟨T, hT⟩ : ∃ T, tinv q p j = T := ⟨_, rfl⟩
        rw [hT] at HAV HTS z3
        clear hT
        go_wp2_with fail
        refine (where_ok (j : Int) (HA0.out.later HBW.out) HOK.out (by omega) (by rw [HPN.out]; omega)).mono ?_
        rw [whr2]
        rintro e w5 ⟨P, hP, rfl, hk5, hb5⟩
        have hs5 := hb5.size
        have HB5 : Hid (Below wr.heap.size wr w5) := hb5
        have HP5 : Hid (Ints w5 (.slice (some ⟨P, 0, none⟩) 2 2) [((j / q : Nat) : Int), ((j % q : Nat) : Int)]) := hk5.ints 2 2 rfl (Nat.le_refl _) (by decide)
        have HO5 : Hid (Ints w5 (.slice xa 2 xc) [(q : Int), (p : Int)]) := (HBU.out.ints HO4.out.ints HAP.out).later hb5
        have HT5 : Hid (Box w5 (w.heap.size + 1 + 1) _ _) := (HBU.out.box HBT4.out (by omega)).later hb5
        have hbt := HT5.out.c0
        clear hk5 hb5
        go_wp2_with fail
        go_region_held3 (fun w' => w'.cell? ⟨w.heap.size + 1 + 1, 0, none⟩ = some (.slice xa 2 xc)) (go_keep)
          (first
            | (go_at_call 37; refine (crossed_any (HP5.out.later (Below.refl _ _).drew)).mono ?_; rintro e w6 ⟨rfl, hk6, hb6⟩; have HQ6 : Hid (Below w5.heap.size w5 w6) := Below.after (Below.refl _ _).drew hb6; have HK6 : Hid (Blk w6 w5.heap.size [((j % q : Nat) : Int), ((j / q : Nat) : Int)]) := hk6; have k0 := cell_later HQ6.out hbt; clear hk6 hb6)
            | (go_at_call 39; refine (at_to (T : Nat) (HO5.out.later HQ6.out) (HK6.out.ints 2 2 rfl (Nat.le_refl _) (by decide)) HAO.out HAV.out).mono ?_; rintro e w7 ⟨rfl, hb7⟩; have HQ7 : Hid (Below w5.heap.size w5 w7) := Below.after HQ6.out hb7; have k1 := cell_later HQ7.out hbt; clear hb7))
        have hbr := HKR.out.lt
        have HK7 : Hid (Blk w7 b1 (trn p q l j)) := (HKR.out.later HB5.out hbr).later HQ7.out (by omega)
        have HBU7 : Hid (Bu b1 V w7) := (HBU.out.after HB5.out).after HQ7.out
        have hbt1 := (HT5.out.later HQ7.out).c1
        have hf := HK7.out.frozen T
        obtain ⟨x, hc⟩ : ∃ x, w7.cell? ⟨b1, T, none⟩ = some x := ⟨_, HK7.out.cell T (by rw [trn_length, HN.out]; exact z3)⟩
        clear k0 k1
        go_wp2
        go_roundw
        case rel =>
          refine ⟨j + 1, by omega, by go_num, ?_, HBU7.out.setCell _⟩
          rw [← HTS.out]
          exact HK7.out.set T (l.getD j 0)
        case measure => simp [intOf]; omega
      · have hj' : j = N := by omega
        subst hj'
        have hbt := HBU.out.box HBT4.out (by omega)
        have t0 := hbt.c0
        have t1 := hbt.c1
        have hbx := HBU.out.box HBX4.out (by omega)
        have l0 := hbx.c0
        have l1 := hbx.c1
        have m0 := hbx.f 0
        have m1 := hbx.f 1
        have HBS : Hid (Box _ _ _ _) := hbx.set (.slice xa 2 xc) (.slice (some ⟨b1, 0, none⟩) j j)
        have HO5 : Hid (Own wr w2.heap.size (.slice xa 2 xc) [(q : Int), (p : Int)]) := HO4.out.at fun k hk => HBU.out.block k (HO4.out.lt k hk) (HAP.out k hk)
        have HK5 : Hid (Own wr w2.heap.size (.slice (some ⟨b1, 0, none⟩) j j) (tns p q l)) := by
          have h := HKR.out
          have e : trn p q l j = tns p q l := by rw [← HN.out, trn_all]
          rw [e] at h
          exact Blk.own h hb1l (by rw [tns_length, HN.out]) (by rw [tns_length, HN.out]; unfold big; omega)
        clear hbx hbt
        go_wp2
        rw [jump_ret]
        have hr0 := HBS.out.c0
        have hr1 := HBS.out.c1
        refine bodyPost_ret (v := .tuple #[.agg #[.slice xa 2 xc, .slice (some ⟨b1, 0, none⟩) j j], .int .i64 0]) (by simp [results, Tryd.results24, go_sem, hr0, hr1]) rfl ⟨_, _, rfl, ?_, ?_⟩
        · have h1 : OwnT wr w2.heap.size (.slice xa 2 xc) (.slice (some ⟨b1, 0, none⟩) j j) ([(q : Int), (p : Int)], tns p q l) := ⟨HO5.out, HK5.out, fun k hk e => HAP.out k hk (by simp [Value.ownBlock] at e; exact e.symm)⟩
          exact ((h1.setCell _ _ (by simp; omega)).setCell _ _ (by simp; omega)).mono (by omega)
        · exact (HBW.out.setCell (by simp) _).setCell (by simp) _
  · intro a w' h
    exact h.elim

theorem turn_any {a0 a1 : Value} {s : Ten} {w : World} (ha : Tens w a0 a1 s) :
    Calls Tryd.prog 24 #[.agg #[a0, a1]] w fun e w' => ∃ x0 x1, e = .returned (.tuple #[.agg #[x0, x1], .int .i64 (trE s)]) ∧ OwnT w' w.heap.size x0 x1 (trR s) ∧ Below w.heap.size w w' := by
  cases ht : tok s with
  | false =>
    have he : trE s = 1 := by rw [trE, ht]; rfl
    refine (turn_bad ha ht).mono ?_
    rintro e w' ⟨rfl, hb⟩
    refine ⟨.slice none 0 0, .slice none 0 0, by rw [he], ?_, hb⟩
    rw [trR, he]
    exact OwnT.nil _ _
  | true =>
    by_cases h2 : s.1.length = 2
    · have he : trE s = 0 := by rw [trE, ht, if_pos h2]; rfl
      obtain ⟨x, y, hxy⟩ := two_of h2
      obtain ⟨d, l⟩ := s
      simp only at hxy
      subst hxy
      obtain ⟨h3, _, h5, _⟩ := okd2 (tok_okd ht)
      obtain ⟨p, rfl⟩ : ∃ p : Nat, x = p := ⟨x.toNat, by omega⟩
      obtain ⟨q, rfl⟩ : ∃ q : Nat, y = q := ⟨y.toNat, by omega⟩
      rw [trR, he, if_pos rfl]
      have := turn_ok ha ht
      simpa using this
    · have he : trE s = 4 := by rw [trE, ht, if_neg h2]; rfl
      refine (turn_four ha ht h2).mono ?_
      rintro e w' ⟨rfl, hb⟩
      refine ⟨.slice none 0 0, .slice none 0 0, by rw [he], ?_, hb⟩
      rw [trR, he]
      exact OwnT.nil _ _
end Go.Proofs.YtgnicnaiaijdcaaDoor
