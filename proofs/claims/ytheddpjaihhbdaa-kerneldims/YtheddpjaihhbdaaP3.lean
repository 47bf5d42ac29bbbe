/- KernelDims: helpers, frames, regions that draw. -/
import Derived.Test.YtheddpjaihhbdaaP2
namespace Go.Proofs.Ytheddpjaihhbdaa
set_option linter.unusedVariables false
set_option linter.unusedSimpArgs false
set_option maxRecDepth 100000
open Go.RowKit

theorem TensL.shape3 {w : World} {v : Value} {L : List Ten} (h : TensL w v L) : ∃ a n c, v = .slice a n c := by
  obtain ⟨_, a, c, e, _⟩ := h
  exact ⟨a, _, c, e⟩
theorem row_shape3 {w : World} {B : Nat} {v : Value} {L : List (List Int)} {xs : List Value} (h : Row w B v L xs) : ∃ a n c, v = .slice a n c := by
  rcases h.own.2 with ⟨h0, _⟩ | ⟨g, cap, cur, h0, _⟩
  · exact ⟨none, 0, 0, h0⟩
  · exact ⟨_, _, _, h0⟩
theorem OwnT.tens {w : World} {B : Nat} {v0 v1 : Value} {t : Ten} (h : OwnT w B v0 v1 t) : Tens w v0 v1 t := ⟨h.dims.ints, h.data.ints⟩
theorem beq_self_ints (l : List Int) : (l == l) = true := by simp
theorem TensL.none0 (w : World) : TensL w (.slice none 0 0) [] := ⟨Nat.zero_le _, none, 0, rfl, Nat.le_refl _, fun i hi => by simp at hi⟩
theorem TensL.cut {w : World} {tb tO n c : Nat} {L : List Ten} (h : TensL w (.slice (some ⟨tb, tO, none⟩) n c) L) (i : Nat) (hi : i < L.length) (c' : Nat) (hc' : 1 ≤ c') : TensL w (.slice (some ⟨tb, tO + i * 2, none⟩) 1 c') [L[i]] := by
  obtain ⟨_, a', c1, e, _, hrow⟩ := h
  simp only [Value.slice.injEq] at e
  obtain ⟨rfl, rfl, rfl⟩ := e
  refine ⟨by simp [big], _, c', rfl, by simpa using hc', fun q hq => ?_⟩
  have h0 : q = 0 := by simp at hq; omega
  subst h0
  obtain ⟨b, off, x, y, ea, c0, c1, ht⟩ := hrow i hi
  simp only [Option.some.injEq, Addr.mk.injEq, and_true] at ea
  obtain ⟨rfl, rfl⟩ := ea
  exact ⟨tb, tO + i * 2, x, y, rfl, by simpa using c0, by simpa using c1, ht⟩
theorem TensL.mk2 {w : World} {x0 x1 y0 y1 : Value} {s t : Ten} (hs : Tens w x0 x1 s) (ht : Tens w y0 y1 t) (n : Nat) (hn : n = w.heap.size) : TensL (w.alloc (.cells #[x0, x1, y0, y1] 31)) (.slice (some ⟨n, 0, none⟩) 2 2) [s, t] := by
  subst hn
  have hb : Below w.heap.size w (w.alloc (.cells #[x0, x1, y0, y1] 31)) := Below.push (Below.refl _ _) _
  have hh : (w.alloc (.cells #[x0, x1, y0, y1] 31)).heap[w.heap.size]? = some (.cells #[x0, x1, y0, y1] 31 (0, 0)) := heap_alloc_new w _
  refine ⟨by simp [big], _, 2, rfl, Nat.le_refl _, fun q hq => ?_⟩
  have h0 : q = 0 ∨ q = 1 := by simp at hq; omega
  rcases h0 with rfl | rfl
  · exact ⟨w.heap.size, 0, x0, x1, rfl, by rw [cell_of_row _ _ _ _ 31 (0, 0) hh]; rfl, by rw [cell_of_row _ _ _ _ 31 (0, 0) hh]; rfl, hs.later hb⟩
  · exact ⟨w.heap.size, 0, y0, y1, rfl, by rw [cell_of_row _ _ _ _ 31 (0, 0) hh]; rfl, by rw [cell_of_row _ _ _ _ 31 (0, 0) hh]; rfl, ht.later hb⟩
def loopsIn : Code → List Code
  | .loop c => c :: loopsIn c
  | .seq a b => loopsIn a ++ loopsIn b
  | .block _ c => loopsIn c
  | .scope c => loopsIn c
  | .cond _ a b => loopsIn a ++ loopsIn b
  | _ => []
def slotNat (a : Act) (i : Nat) : Nat := (intOf (a.tmps.getD i undef)).toNat
theorem TensL.rowN {w : World} {a : Option Addr} {n c : Nat} {L : List Ten} (h : TensL w (.slice a n c) L) (i : Nat) (hi : i < n) :
    ∃ (b off : Nat) (s : Ten) (xa : Option Addr) (xn xc : Nat) (ya : Option Addr) (yn yc : Nat), a = some ⟨b, off, none⟩ ∧ w.cell? ⟨b, off + i * 2, none⟩ = some (.slice xa xn xc) ∧ w.cell? ⟨b, off + i * 2 + 1, none⟩ = some (.slice ya yn yc) ∧ Hid (Tens w (.slice xa xn xc) (.slice ya yn yc) s) ∧ ∀ c', 1 ≤ c' → TensL w (.slice (some ⟨b, off + i * 2, none⟩) 1 c') [s] := by
  have h0 := h
  obtain ⟨_, a', c1, e, _, hrow⟩ := h
  simp only [Value.slice.injEq] at e
  obtain ⟨rfl, rfl, rfl⟩ := e
  obtain ⟨b, off, x, y, rfl, c0, c1, ht⟩ := hrow i hi
  obtain ⟨xa, xn, xc, rfl⟩ := ht.1.shape3
  obtain ⟨ya, yn, yc, rfl⟩ := ht.2.shape3
  exact ⟨b, off, L[i], xa, xn, xc, ya, yn, yc, rfl, c0, c1, ht, fun c' hc' => h0.cut i hi c' hc'⟩
theorem IntsL.rowN {w : World} {a : Option Addr} {n c : Nat} {L : List (List Int)} (h : IntsL w (.slice a n c) L) (i : Nat) (hi : i < n) :
    ∃ (b off : Nat) (d : List Int) (xa : Option Addr) (xn xc : Nat), a = some ⟨b, off, none⟩ ∧ w.cell? ⟨b, off + i, none⟩ = some (.slice xa xn xc) ∧ Hid (Ints w (.slice xa xn xc) d) := by
  obtain ⟨_, a', c1, e, _, hrow⟩ := h
  simp only [Value.slice.injEq] at e
  obtain ⟨rfl, rfl, rfl⟩ := e
  obtain ⟨b, off, x, rfl, c0, hx⟩ := hrow i hi
  obtain ⟨xa, xn, xc, rfl⟩ := hx.shape3
  exact ⟨b, off, L[i], xa, xn, xc, rfl, c0, hx⟩
theorem Ints.rowN {w : World} {a : Option Addr} {n c : Nat} {l : List Int} (h : Ints w (.slice a n c) l) (i : Nat) (hi : i < n) :
    ∃ (b off : Nat) (e : Int), a = some ⟨b, off, none⟩ ∧ w.cell? ⟨b, off + i, none⟩ = some (.int .i64 e) := by
  rcases h with ⟨e, _⟩ | ⟨a', c', e, h1, h2, h3⟩
  · simp only [Value.slice.injEq] at e
    omega
  · simp only [Value.slice.injEq] at e
    obtain ⟨rfl, rfl, rfl⟩ := e
    obtain ⟨b, off, rfl, hc⟩ := h3 i hi
    exact ⟨b, off, l[i], rfl, hc⟩
set_option maxRecDepth 100000 in
theorem lit125 (g : Nat → Value) : (g 0 :: g 1 :: g 2 :: g 3 :: g 4 :: g 5 :: g 6 :: g 7 :: g 8 :: g 9 :: g 10 :: g 11 :: g 12 :: g 13 :: g 14 :: g 15 :: g 16 :: g 17 :: g 18 :: g 19 :: g 20 :: g 21 :: g 22 :: g 23 :: g 24 :: g 25 :: g 26 :: g 27 :: g 28 :: g 29 :: g 30 :: g 31 :: g 32 :: g 33 :: g 34 :: g 35 :: g 36 :: g 37 :: g 38 :: g 39 :: g 40 :: g 41 :: g 42 :: g 43 :: g 44 :: g 45 :: g 46 :: g 47 :: g 48 :: g 49 :: g 50 :: g 51 :: g 52 :: g 53 :: g 54 :: g 55 :: g 56 :: g 57 :: g 58 :: g 59 :: g 60 :: g 61 :: g 62 :: g 63 :: g 64 :: g 65 :: g 66 :: g 67 :: g 68 :: g 69 :: g 70 :: g 71 :: g 72 :: g 73 :: g 74 :: g 75 :: g 76 :: g 77 :: g 78 :: g 79 :: g 80 :: g 81 :: g 82 :: g 83 :: g 84 :: g 85 :: g 86 :: g 87 :: g 88 :: g 89 :: g 90 :: g 91 :: g 92 :: g 93 :: g 94 :: g 95 :: g 96 :: g 97 :: g 98 :: g 99 :: g 100 :: g 101 :: g 102 :: g 103 :: g 104 :: g 105 :: g 106 :: g 107 :: g 108 :: g 109 :: g 110 :: g 111 :: g 112 :: g 113 :: g 114 :: g 115 :: g 116 :: g 117 :: g 118 :: g 119 :: g 120 :: g 121 :: g 122 :: g 123 :: g 124 :: []).toArray = ((List.range 125).map g).toArray := by rfl
set_option maxRecDepth 100000 in
theorem act125 (a : Act) (hd : a.defers = []) (hs : a.tmps.size = 125) : ∃ g : Nat → Value, (∀ i, a.tmps.getD i undef = g i) ∧ a = { tmps := (g 0 :: g 1 :: g 2 :: g 3 :: g 4 :: g 5 :: g 6 :: g 7 :: g 8 :: g 9 :: g 10 :: g 11 :: g 12 :: g 13 :: g 14 :: g 15 :: g 16 :: g 17 :: g 18 :: g 19 :: g 20 :: g 21 :: g 22 :: g 23 :: g 24 :: g 25 :: g 26 :: g 27 :: g 28 :: g 29 :: g 30 :: g 31 :: g 32 :: g 33 :: g 34 :: g 35 :: g 36 :: g 37 :: g 38 :: g 39 :: g 40 :: g 41 :: g 42 :: g 43 :: g 44 :: g 45 :: g 46 :: g 47 :: g 48 :: g 49 :: g 50 :: g 51 :: g 52 :: g 53 :: g 54 :: g 55 :: g 56 :: g 57 :: g 58 :: g 59 :: g 60 :: g 61 :: g 62 :: g 63 :: g 64 :: g 65 :: g 66 :: g 67 :: g 68 :: g 69 :: g 70 :: g 71 :: g 72 :: g 73 :: g 74 :: g 75 :: g 76 :: g 77 :: g 78 :: g 79 :: g 80 :: g 81 :: g 82 :: g 83 :: g 84 :: g 85 :: g 86 :: g 87 :: g 88 :: g 89 :: g 90 :: g 91 :: g 92 :: g 93 :: g 94 :: g 95 :: g 96 :: g 97 :: g 98 :: g 99 :: g 100 :: g 101 :: g 102 :: g 103 :: g 104 :: g 105 :: g 106 :: g 107 :: g 108 :: g 109 :: g 110 :: g 111 :: g 112 :: g 113 :: g 114 :: g 115 :: g 116 :: g 117 :: g 118 :: g 119 :: g 120 :: g 121 :: g 122 :: g 123 :: g 124 :: []).toArray, defers := [] } := by
  refine ⟨fun i => a.tmps.getD i undef, fun _ => rfl, ?_⟩
  have h := lit125 (fun i => a.tmps.getD i undef)
  have e : a.tmps = ((List.range 125).map (fun i => a.tmps.getD i undef)).toArray := by
    apply Array.ext
    · simp [hs]
    · intro i h1 h2
      simp [h1]
  exact (show a = Act.mk a.tmps a.defers from rfl).trans (by rw [hd]; exact congrArg (fun t => Act.mk t []) (e.trans h.symm))
structure FrD1 (B kd : Nat) (a : Act) : Prop where
  d : a.defers = []
  s : a.tmps.size = 125
  f1 : a.tmps.getD 1 undef = .pointer (some ⟨B, 0, none⟩)
  f3 : a.tmps.getD 3 undef = .int .i64 kd
structure FrD2 (B kd i : Nat) (a : Act) : Prop where
  d : a.defers = []
  s : a.tmps.size = 125
  f1 : a.tmps.getD 1 undef = .pointer (some ⟨B, 0, none⟩)
  f3 : a.tmps.getD 3 undef = .int .i64 kd
  f4 : a.tmps.getD 4 undef = .int .i64 i
structure FrD3 (B kd i n : Nat) (a : Act) : Prop where
  d : a.defers = []
  s : a.tmps.size = 125
  f1 : a.tmps.getD 1 undef = .pointer (some ⟨B, 0, none⟩)
  f3 : a.tmps.getD 3 undef = .int .i64 kd
  f4 : a.tmps.getD 4 undef = .int .i64 i
  f5 : a.tmps.getD 5 undef = .int .i64 n
structure FrD3o (B kd i n on oc : Nat) (oa : Option Addr) (a : Act) : Prop where
  d : a.defers = []
  s : a.tmps.size = 125
  f1 : a.tmps.getD 1 undef = .pointer (some ⟨B, 0, none⟩)
  f3 : a.tmps.getD 3 undef = .int .i64 kd
  f4 : a.tmps.getD 4 undef = .int .i64 i
  f5 : a.tmps.getD 5 undef = .int .i64 n
  f6 : a.tmps.getD 6 undef = .slice oa on oc
structure FrD4b (B kd i n on oc un uc : Nat) (oa ua : Option Addr) (a : Act) : Prop where
  d : a.defers = []
  s : a.tmps.size = 125
  f1 : a.tmps.getD 1 undef = .pointer (some ⟨B, 0, none⟩)
  f3 : a.tmps.getD 3 undef = .int .i64 kd
  f4 : a.tmps.getD 4 undef = .int .i64 i
  f5 : a.tmps.getD 5 undef = .int .i64 n
  f6 : a.tmps.getD 6 undef = .slice oa on oc
  f7 : a.tmps.getD 7 undef = .slice ua un uc
structure FrD4 (B kd i n on oc un uc : Nat) (oa ua : Option Addr) (k : Nat) (a : Act) : Prop where
  d : a.defers = []
  s : a.tmps.size = 125
  f1 : a.tmps.getD 1 undef = .pointer (some ⟨B, 0, none⟩)
  f3 : a.tmps.getD 3 undef = .int .i64 kd
  f4 : a.tmps.getD 4 undef = .int .i64 i
  f5 : a.tmps.getD 5 undef = .int .i64 n
  f6 : a.tmps.getD 6 undef = .slice oa on oc
  f7 : a.tmps.getD 7 undef = .slice ua un uc
  f8 : a.tmps.getD 8 undef = .int .i64 k
structure FrD5 (B kd i n on oc un uc : Nat) (oa ua : Option Addr) (k ln lc : Nat) (la : Option Addr) (a : Act) : Prop where
  d : a.defers = []
  s : a.tmps.size = 125
  f1 : a.tmps.getD 1 undef = .pointer (some ⟨B, 0, none⟩)
  f3 : a.tmps.getD 3 undef = .int .i64 kd
  f4 : a.tmps.getD 4 undef = .int .i64 i
  f5 : a.tmps.getD 5 undef = .int .i64 n
  f6 : a.tmps.getD 6 undef = .slice oa on oc
  f7 : a.tmps.getD 7 undef = .slice ua un uc
  f8 : a.tmps.getD 8 undef = .int .i64 k
  f9 : a.tmps.getD 9 undef = .slice la ln lc
structure FrD6 (B kd i n on oc un uc : Nat) (oa ua : Option Addr) (k ln lc : Nat) (la : Option Addr) (xn xc : Nat) (xa : Option Addr) (a : Act) : Prop where
  d : a.defers = []
  s : a.tmps.size = 125
  f1 : a.tmps.getD 1 undef = .pointer (some ⟨B, 0, none⟩)
  f3 : a.tmps.getD 3 undef = .int .i64 kd
  f4 : a.tmps.getD 4 undef = .int .i64 i
  f5 : a.tmps.getD 5 undef = .int .i64 n
  f6 : a.tmps.getD 6 undef = .slice oa on oc
  f7 : a.tmps.getD 7 undef = .slice ua un uc
  f8 : a.tmps.getD 8 undef = .int .i64 k
  f9 : a.tmps.getD 9 undef = .slice la ln lc
  f10 : a.tmps.getD 10 undef = .slice xa xn xc
theorem dreg13_id : ((((Try.f3.body.map regs).getD []).getD 10 (0, .skip)).1) = 13 := by decide +kernel
theorem dreg22_id : ((((Try.f3.body.map regs).getD []).getD 18 (0, .skip)).1) = 22 := by decide +kernel
set_option maxRecDepth 1000000 in
set_option maxHeartbeats 8000000 in
theorem dreg13 {B kd i n j on oc nT cT tb tO : Nat} {oa fa ga ha ya : Option Addr} {fn fc gn gc hn hc yn yc : Nat} {s t : Ten} {w : World} {Q : Exit → Act → World → Prop}
    (hi : i < nT) (hi5 : i < 5) (hn4 : n < 4) (hj : (i + n) % nT = j) (hT : nT ≤ 17592186044416) (l3 : w.cell? ⟨B, 0, none⟩ = some (.slice (some ⟨tb, tO, none⟩) nT cT)) (l4 : w.cell? ⟨tb, tO + i * 2, none⟩ = some (.slice fa fn fc)) (l5 : w.cell? ⟨tb, tO + i * 2 + 1, none⟩ = some (.slice ga gn gc)) (l6 : w.cell? ⟨tb, tO + j * 2, none⟩ = some (.slice ha hn hc)) (l7 : w.cell? ⟨tb, tO + j * 2 + 1, none⟩ = some (.slice ya yn yc)) (HA : Hid (Tens w (.slice fa fn fc) (.slice ga gn gc) s)) (HU : Hid (Tens w (.slice ha hn hc) (.slice ya yn yc) t))
    (HQ : Hid (∀ a' w' q, FrD3o B kd i n on oc oa a' → a'.tmps.getD 7 undef = .slice (some ⟨q, 0, none⟩) 2 2 → TensL w' (.slice (some ⟨q, 0, none⟩) 2 2) [s, t] → Below w.heap.size w w' → Q .normal a' w'))
    (a : Act) (ha : FrD3o B kd i n on oc oa a) :
    Code.wp Try.prog ((((Try.f3.body.map regs).getD []).getD 10 (0, .skip)).2) Q a w := by
  obtain ⟨G, hg, e⟩ := act125 a ha.d ha.s
  obtain ⟨hz1, hz2, g1, g3, g4, g5, g6⟩ := ha
  rw [hg] at g1 g3 g4 g5 g6 
  clear hz1 hz2
  subst e
  clear hg
  rw [g1, g3, g4, g5, g6]
  clear g1 g3 g4 g5 g6 
  have hjl : j < nT := by rw [← hj]; exact Nat.mod_lt _ (by omega)
  have q0 : ¬ nT = 0 := by omega
  have q1 : ¬ (nT : Int) = 0 := by omega
  have q2 : IntKind.i64.wrap ((i : Int) + (n : Int)) = (i : Int) + (n : Int) := wrap_small _ (by omega) (by omega)
  have q3 : ((i : Int) + (n : Int)).tmod (nT : Int) = (j : Int) := by rw [← hj, ← Int.natCast_add]; rfl
  have q5 : IntKind.i64.wrap (j : Int) = (j : Int) := wrap_small _ (by omega) (by omega)
  have q4 : IntKind.i64.wrap (((i : Int) + (n : Int)).tmod (nT : Int)) = (j : Int) := by rw [q3, q5]
  have z0 : (0 : Int) ≤ (i : Int) := by omega
  have z1 : (i : Int) < nT := by omega
  have z2 : (0 : Int) ≤ (j : Int) := by omega
  have z3 : (j : Int) < nT := by omega
  have m0 := World.new_ne w _ l3
  have m1 := World.new_ne w _ l4
  have m2 := World.new_ne w _ l5
  have m3 := World.new_ne w _ l6
  have m4 := World.new_ne w _ l7
  clear hj
  conv => arg 2; whnf
  go_region_held3 (fun w' => w'.cell? ⟨B, 0, none⟩ = some (.slice (some ⟨tb, tO, none⟩) nT cT) ∧ w'.cell? ⟨tb, tO + i * 2, none⟩ = some (.slice fa fn fc) ∧ w'.cell? ⟨tb, tO + i * 2 + 1, none⟩ = some (.slice ga gn gc) ∧ w'.cell? ⟨tb, tO + j * 2, none⟩ = some (.slice ha hn hc) ∧ w'.cell? ⟨tb, tO + j * 2 + 1, none⟩ = some (.slice ya yn yc)) (refine ⟨?_, ?_, ?_, ?_, ?_⟩ <;> first | assumption | go_keep) (fail)
  exact HQ.out _ _ _ ⟨rfl, rfl, rfl, rfl, rfl, rfl, rfl⟩ rfl (TensL.mk2 (HA.out.later (Below.refl _ _).drew) (HU.out.later (Below.refl _ _).drew) _ rfl) (Below.push (Below.refl _ _).drew _)
set_option maxRecDepth 1000000 in
set_option maxHeartbeats 8000000 in
theorem dreg22 {B kd i n j on oc un uc k ln lc nD cD db dO : Nat} {oa ua la xa : Option Addr} {xn xc : Nat} {w : World} {Q : Exit → Act → World → Prop}
    (hn4 : n < 4) (hj : n % nD = j) (hD : 0 < nD) (hDb : nD ≤ 17592186044416) (l3 : w.cell? ⟨B, 2, none⟩ = some (.slice (some ⟨db, dO, none⟩) nD cD)) (l4 : w.cell? ⟨db, dO + j, none⟩ = some (.slice xa xn xc))
    (HQ : Hid (∀ a' w', FrD6 B kd i n on oc un uc oa ua k ln lc la xn xc xa a' → Below w.heap.size w w' → Q .normal a' w'))
    (a : Act) (ha : FrD5 B kd i n on oc un uc oa ua k ln lc la a) :
    Code.wp Try.prog ((((Try.f3.body.map regs).getD []).getD 18 (0, .skip)).2) Q a w := by
  obtain ⟨G, hg, e⟩ := act125 a ha.d ha.s
  obtain ⟨hz1, hz2, g1, g3, g4, g5, g6, g7, g8, g9⟩ := ha
  rw [hg] at g1 g3 g4 g5 g6 g7 g8 g9 
  clear hz1 hz2
  subst e
  clear hg
  rw [g1, g3, g4, g5, g6, g7, g8, g9]
  clear g1 g3 g4 g5 g6 g7 g8 g9 
  have hjl : j < nD := by rw [← hj]; exact Nat.mod_lt _ hD
  have q0 : ¬ nD = 0 := by omega
  have q1 : ¬ (nD : Int) = 0 := by omega
  have q3 : (n : Int).tmod (nD : Int) = (j : Int) := by rw [← hj]; rfl
  have q5 : IntKind.i64.wrap (j : Int) = (j : Int) := wrap_small _ (by omega) (by omega)
  have q4 : IntKind.i64.wrap ((n : Int).tmod (nD : Int)) = (j : Int) := by rw [q3, q5]
  have z2 : (0 : Int) ≤ (j : Int) := by omega
  have z3 : (j : Int) < nD := by omega
  clear hj
  conv => arg 2; whnf
  go_region_held3 (fun w' => w'.cell? ⟨B, 2, none⟩ = some (.slice (some ⟨db, dO, none⟩) nD cD) ∧ w'.cell? ⟨db, dO + j, none⟩ = some (.slice xa xn xc)) (refine ⟨?_, ?_⟩ <;> first | assumption | go_keep) (fail)
  exact HQ.out _ _ ⟨rfl, rfl, rfl, rfl, rfl, rfl, rfl, rfl, rfl, rfl, rfl⟩ (Below.refl _ _).drew
end Go.Proofs.Ytheddpjaihhbdaa
