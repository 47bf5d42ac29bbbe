/- Joined: K1, K1a, K1b, K1c, K1d, K1e, K1f. -/
import Derived.Test.YtheddpjaihhbdabGreatE1
namespace Go.Proofs.YtheddpjaihhbdabGreat
set_option linter.unusedVariables false
set_option linter.unusedSimpArgs false
set_option maxRecDepth 100000
open Go.RowKit

set_option maxRecDepth 100000 in
theorem lit170 (g : Nat → Value) : (g 0 :: g 1 :: g 2 :: g 3 :: g 4 :: g 5 :: g 6 :: g 7 :: g 8 :: g 9 :: g 10 :: g 11 :: g 12 :: g 13 :: g 14 :: g 15 :: g 16 :: g 17 :: g 18 :: g 19 :: g 20 :: g 21 :: g 22 :: g 23 :: g 24 :: g 25 :: g 26 :: g 27 :: g 28 :: g 29 :: g 30 :: g 31 :: g 32 :: g 33 :: g 34 :: g 35 :: g 36 :: g 37 :: g 38 :: g 39 :: g 40 :: g 41 :: g 42 :: g 43 :: g 44 :: g 45 :: g 46 :: g 47 :: g 48 :: g 49 :: g 50 :: g 51 :: g 52 :: g 53 :: g 54 :: g 55 :: g 56 :: g 57 :: g 58 :: g 59 :: g 60 :: g 61 :: g 62 :: g 63 :: g 64 :: g 65 :: g 66 :: g 67 :: g 68 :: g 69 :: g 70 :: g 71 :: g 72 :: g 73 :: g 74 :: g 75 :: g 76 :: g 77 :: g 78 :: g 79 :: g 80 :: g 81 :: g 82 :: g 83 :: g 84 :: g 85 :: g 86 :: g 87 :: g 88 :: g 89 :: g 90 :: g 91 :: g 92 :: g 93 :: g 94 :: g 95 :: g 96 :: g 97 :: g 98 :: g 99 :: g 100 :: g 101 :: g 102 :: g 103 :: g 104 :: g 105 :: g 106 :: g 107 :: g 108 :: g 109 :: g 110 :: g 111 :: g 112 :: g 113 :: g 114 :: g 115 :: g 116 :: g 117 :: g 118 :: g 119 :: g 120 :: g 121 :: g 122 :: g 123 :: g 124 :: g 125 :: g 126 :: g 127 :: g 128 :: g 129 :: g 130 :: g 131 :: g 132 :: g 133 :: g 134 :: g 135 :: g 136 :: g 137 :: g 138 :: g 139 :: g 140 :: g 141 :: g 142 :: g 143 :: g 144 :: g 145 :: g 146 :: g 147 :: g 148 :: g 149 :: g 150 :: g 151 :: g 152 :: g 153 :: g 154 :: g 155 :: g 156 :: g 157 :: g 158 :: g 159 :: g 160 :: g 161 :: g 162 :: g 163 :: g 164 :: g 165 :: g 166 :: g 167 :: g 168 :: g 169 :: []).toArray = ((List.range 170).map g).toArray := by rfl
set_option maxRecDepth 100000 in
theorem act170 (a : Act) (hd : a.defers = []) (hs : a.tmps.size = 170) : ∃ g : Nat → Value, (∀ i, a.tmps.getD i undef = g i) ∧ a = { tmps := (g 0 :: g 1 :: g 2 :: g 3 :: g 4 :: g 5 :: g 6 :: g 7 :: g 8 :: g 9 :: g 10 :: g 11 :: g 12 :: g 13 :: g 14 :: g 15 :: g 16 :: g 17 :: g 18 :: g 19 :: g 20 :: g 21 :: g 22 :: g 23 :: g 24 :: g 25 :: g 26 :: g 27 :: g 28 :: g 29 :: g 30 :: g 31 :: g 32 :: g 33 :: g 34 :: g 35 :: g 36 :: g 37 :: g 38 :: g 39 :: g 40 :: g 41 :: g 42 :: g 43 :: g 44 :: g 45 :: g 46 :: g 47 :: g 48 :: g 49 :: g 50 :: g 51 :: g 52 :: g 53 :: g 54 :: g 55 :: g 56 :: g 57 :: g 58 :: g 59 :: g 60 :: g 61 :: g 62 :: g 63 :: g 64 :: g 65 :: g 66 :: g 67 :: g 68 :: g 69 :: g 70 :: g 71 :: g 72 :: g 73 :: g 74 :: g 75 :: g 76 :: g 77 :: g 78 :: g 79 :: g 80 :: g 81 :: g 82 :: g 83 :: g 84 :: g 85 :: g 86 :: g 87 :: g 88 :: g 89 :: g 90 :: g 91 :: g 92 :: g 93 :: g 94 :: g 95 :: g 96 :: g 97 :: g 98 :: g 99 :: g 100 :: g 101 :: g 102 :: g 103 :: g 104 :: g 105 :: g 106 :: g 107 :: g 108 :: g 109 :: g 110 :: g 111 :: g 112 :: g 113 :: g 114 :: g 115 :: g 116 :: g 117 :: g 118 :: g 119 :: g 120 :: g 121 :: g 122 :: g 123 :: g 124 :: g 125 :: g 126 :: g 127 :: g 128 :: g 129 :: g 130 :: g 131 :: g 132 :: g 133 :: g 134 :: g 135 :: g 136 :: g 137 :: g 138 :: g 139 :: g 140 :: g 141 :: g 142 :: g 143 :: g 144 :: g 145 :: g 146 :: g 147 :: g 148 :: g 149 :: g 150 :: g 151 :: g 152 :: g 153 :: g 154 :: g 155 :: g 156 :: g 157 :: g 158 :: g 159 :: g 160 :: g 161 :: g 162 :: g 163 :: g 164 :: g 165 :: g 166 :: g 167 :: g 168 :: g 169 :: []).toArray, defers := [] } := by
  refine ⟨fun i => a.tmps.getD i undef, fun _ => rfl, ?_⟩
  have h := lit170 (fun i => a.tmps.getD i undef)
  have e : a.tmps = ((List.range 170).map (fun i => a.tmps.getD i undef)).toArray := by
    apply Array.ext
    · simp [hs]
    · intro i h1 h2
      simp [h1]
  exact (show a = Act.mk a.tmps a.defers from rfl).trans (by rw [hd]; exact congrArg (fun t => Act.mk t []) (e.trans h.symm))
structure FrK1 (pk pd pn : Option Addr) (B nk ck nd cd nn cn k : Nat) (a : Act) : Prop where
  d : a.defers = []
  s : a.tmps.size = 170
  f1 : a.tmps.getD 1 undef = .slice pk nk ck
  f2 : a.tmps.getD 2 undef = .pointer (some ⟨B, 0, none⟩)
  f5 : a.tmps.getD 5 undef = .slice pd nd cd
  f6 : a.tmps.getD 6 undef = .slice pn nn cn
  f7 : a.tmps.getD 7 undef = .int .i64 k
structure FrK2 (pk pd pn : Option Addr) (B nk ck nd cd nn cn k : Nat) (i : Nat) (a : Act) : Prop where
  d : a.defers = []
  s : a.tmps.size = 170
  f1 : a.tmps.getD 1 undef = .slice pk nk ck
  f2 : a.tmps.getD 2 undef = .pointer (some ⟨B, 0, none⟩)
  f5 : a.tmps.getD 5 undef = .slice pd nd cd
  f6 : a.tmps.getD 6 undef = .slice pn nn cn
  f7 : a.tmps.getD 7 undef = .int .i64 k
  f8 : a.tmps.getD 8 undef = .int .i64 i
structure FrK3 (pk pd pn : Option Addr) (B nk ck nd cd nn cn k : Nat) (i j : Nat) (a : Act) : Prop where
  d : a.defers = []
  s : a.tmps.size = 170
  f1 : a.tmps.getD 1 undef = .slice pk nk ck
  f2 : a.tmps.getD 2 undef = .pointer (some ⟨B, 0, none⟩)
  f5 : a.tmps.getD 5 undef = .slice pd nd cd
  f6 : a.tmps.getD 6 undef = .slice pn nn cn
  f7 : a.tmps.getD 7 undef = .int .i64 k
  f8 : a.tmps.getD 8 undef = .int .i64 i
  f9 : a.tmps.getD 9 undef = .int .i64 j
structure FrK4 (pk pd pn : Option Addr) (B nk ck nd cd nn cn k : Nat) (i j x : Nat) (a : Act) : Prop where
  d : a.defers = []
  s : a.tmps.size = 170
  f1 : a.tmps.getD 1 undef = .slice pk nk ck
  f2 : a.tmps.getD 2 undef = .pointer (some ⟨B, 0, none⟩)
  f5 : a.tmps.getD 5 undef = .slice pd nd cd
  f6 : a.tmps.getD 6 undef = .slice pn nn cn
  f7 : a.tmps.getD 7 undef = .int .i64 k
  f8 : a.tmps.getD 8 undef = .int .i64 i
  f9 : a.tmps.getD 9 undef = .int .i64 j
  f10 : a.tmps.getD 10 undef = .int .i64 x
structure FrK5 (pk pd pn : Option Addr) (B nk ck nd cd nn cn k : Nat) (i j x y : Nat) (a : Act) : Prop where
  d : a.defers = []
  s : a.tmps.size = 170
  f1 : a.tmps.getD 1 undef = .slice pk nk ck
  f2 : a.tmps.getD 2 undef = .pointer (some ⟨B, 0, none⟩)
  f5 : a.tmps.getD 5 undef = .slice pd nd cd
  f6 : a.tmps.getD 6 undef = .slice pn nn cn
  f7 : a.tmps.getD 7 undef = .int .i64 k
  f8 : a.tmps.getD 8 undef = .int .i64 i
  f9 : a.tmps.getD 9 undef = .int .i64 j
  f10 : a.tmps.getD 10 undef = .int .i64 x
  f11 : a.tmps.getD 11 undef = .int .i64 y
theorem TensL.none0 (w : World) : TensL w (.slice none 0 0) [] := ⟨Nat.zero_le _, none, 0, rfl, Nat.le_refl _, fun i hi => by simp at hi⟩
theorem TensL.cut {w : World} {tb tO n c : Nat} {L : List Ten} (h : TensL w (.slice (some ⟨tb, tO, none⟩) n c) L) (i : Nat) (hi : i < L.length) (c' : Nat) (hc' : 1 ≤ c') : TensL w (.slice (some ⟨tb, tO + i * 2, none⟩) 1 c') [L[i]] := by
  obtain ⟨_, a', c1, e, _, hrow⟩ := h
  simp only [Value.slice.injEq] at e
  obtain ⟨rfl, rfl, rfl⟩ := e
  refine ⟨by simp [big], _, c', rfl, by simpa using hc', fun q hq => ?_⟩
  have h0 : q = 0 := by simp at hq; omega
  subst h0
  obtain ⟨b, off, x, y, ea, c0, c1, ht⟩ := hrow i hi
  simp only [Option.some.injEq, Addr.mk.injEq, and_true] at ea
  obtain ⟨rfl, rfl⟩ := ea
  exact ⟨tb, tO + i * 2, x, y, rfl, by simpa using c0, by simpa using c1, ht⟩
theorem TensL.mk2 {w : World} {x0 x1 y0 y1 : Value} {s t : Ten} (hs : Tens w x0 x1 s) (ht : Tens w y0 y1 t) (n : Nat) (hn : n = w.heap.size) : TensL (w.alloc (.cells #[x0, x1, y0, y1] 34)) (.slice (some ⟨n, 0, none⟩) 2 2) [s, t] := by
  subst hn
  have hb : Below w.heap.size w (w.alloc (.cells #[x0, x1, y0, y1] 34)) := Below.push (Below.refl _ _) _
  have hh : (w.alloc (.cells #[x0, x1, y0, y1] 34)).heap[w.heap.size]? = some (.cells #[x0, x1, y0, y1] 34 (0, 0)) := heap_alloc_new w _
  refine ⟨by simp [big], _, 2, rfl, Nat.le_refl _, fun q hq => ?_⟩
  have h0 : q = 0 ∨ q = 1 := by simp at hq; omega
  rcases h0 with rfl | rfl
  · exact ⟨w.heap.size, 0, x0, x1, rfl, by rw [cell_of_row _ _ _ _ 34 (0, 0) hh]; rfl, by rw [cell_of_row _ _ _ _ 34 (0, 0) hh]; rfl, hs.later hb⟩
  · exact ⟨w.heap.size, 0, y0, y1, rfl, by rw [cell_of_row _ _ _ _ 34 (0, 0) hh]; rfl, by rw [cell_of_row _ _ _ _ 34 (0, 0) hh]; rfl, ht.later hb⟩
theorem kreg14_id : ((((Tryz.f9.body.map regs).getD []).getD 11 (0, .skip)).1) = 14 := by decide +kernel
theorem kreg19_id : ((((Tryz.f9.body.map regs).getD []).getD 15 (0, .skip)).1) = 19 := by decide +kernel
theorem kreg21_id : ((((Tryz.f9.body.map regs).getD []).getD 17 (0, .skip)).1) = 21 := by decide +kernel
theorem kreg26_id : ((((Tryz.f9.body.map regs).getD []).getD 21 (0, .skip)).1) = 26 := by decide +kernel
set_option maxRecDepth 1000000 in
set_option maxHeartbeats 8000000 in
theorem kreg14 {kb ko db dO nb nO B nk ck nd cd nn cn k i j : Nat} {ek en : Int} {xa : Option Addr} {xn xc : Nat} {d : List Int} {w : World} {Q : Exit → Act → World → Prop}
    (hk : k < nk) (hi : i < nd) (hj : j < nn) (h5 : i < 5 ∧ j < 5) (l0 : w.cell? ⟨kb, ko + k, none⟩ = some (.int .i64 ek)) (l1 : w.cell? ⟨nb, nO + j, none⟩ = some (.int .i64 en)) (l2 : w.cell? ⟨db, dO + i, none⟩ = some (.slice xa xn xc)) (HD : Hid (Ints w (.slice xa xn xc) d))
    (HQ : Hid (∀ a' w', FrK3 (some ⟨kb, ko, none⟩) (some ⟨db, dO, none⟩) (some ⟨nb, nO, none⟩) B nk ck nd cd nn cn k i j a' → a'.tmps.getD 63 undef = .bool false → Below w.heap.size w w' → Q .normal a' w'))
    (a : Act) (ha : FrK3 (some ⟨kb, ko, none⟩) (some ⟨db, dO, none⟩) (some ⟨nb, nO, none⟩) B nk ck nd cd nn cn k i j a) :
    Code.wp Tryz.prog ((((Tryz.f9.body.map regs).getD []).getD 11 (0, .skip)).2) Q a w := by
  obtain ⟨G, hg, e⟩ := act170 a ha.d ha.s
  obtain ⟨hz1, hz2, g1, g2, g5, g6, g7, g8, g9⟩ := ha
  rw [hg] at g1 g2 g5 g6 g7 g8 g9 
  clear hz1 hz2
  subst e
  clear hg
  rw [g1, g2, g5, g6, g7, g8, g9]
  clear g1 g2 g5 g6 g7 g8 g9 
  have z0 : (0 : Int) ≤ (k : Int) := by omega
  have z1 : (k : Int) < nk := by omega
  have z2 : (i : Int) < nd := by omega
  have z3 : (j : Int) < nn := by omega
  have z4 : (0 : Int) ≤ (i : Int) := by omega
  have z5 : (0 : Int) ≤ (j : Int) := by omega
  obtain ⟨h5a, h5b⟩ := h5
  conv => arg 2; whnf
  go_region_held3 (fun w' => w'.cell? ⟨kb, ko + k, none⟩ = some (.int .i64 ek) ∧ w'.cell? ⟨nb, nO + j, none⟩ = some (.int .i64 en) ∧ w'.cell? ⟨db, dO + i, none⟩ = some (.slice xa xn xc)) (refine ⟨?_, ?_, ?_⟩ <;> assumption)
    (first
      | (go_at_call 11; refine (leach_any (d := d) (L := []) _ _ ?_ ?_ (by simp)).mono ?_; exact HD.out.later (Below.refl _ _).drew; exact TensL.none0 _; rintro e w1 ⟨rfl, hb1⟩; have HQ1 : Hid (Below w.heap.size w w1) := Below.after (Below.refl _ _).drew hb1; have a_l0 := cell_later HQ1.out l0; have a_l1 := cell_later HQ1.out l1; have a_l2 := cell_later HQ1.out l2; clear hb1))
  exact HQ.out _ _ ⟨rfl, rfl, rfl, rfl, rfl, rfl, rfl, rfl, rfl⟩ rfl HQ1.out
set_option maxRecDepth 1000000 in
set_option maxHeartbeats 8000000 in
theorem kreg19 {kb ko db dO nb nO tb tO B nk ck nd cd nn cn nT cT k i j x : Nat} {ek en : Int} {xa : Option Addr} {xn xc : Nat} {d : List Int} {s : Ten} {w : World} {Q : Exit → Act → World → Prop}
    (hk : k < nk) (hi : i < nd) (hj : j < nn) (h5 : i < 5 ∧ j < 5) (hx : x < nT) (hx5 : x < 5) (hcT : nT ≤ cT) (l0 : w.cell? ⟨kb, ko + k, none⟩ = some (.int .i64 ek)) (l1 : w.cell? ⟨nb, nO + j, none⟩ = some (.int .i64 en)) (l2 : w.cell? ⟨db, dO + i, none⟩ = some (.slice xa xn xc)) (l3 : w.cell? ⟨B, 0, none⟩ = some (.slice (some ⟨tb, tO, none⟩) nT cT)) (HD : Hid (Ints w (.slice xa xn xc) d)) (HT : Hid (TensL w (.slice (some ⟨tb, tO + x * 2, none⟩) 1 (cT - x)) [s]))
    (HQ : Hid (∀ a' w', FrK4 (some ⟨kb, ko, none⟩) (some ⟨db, dO, none⟩) (some ⟨nb, nO, none⟩) B nk ck nd cd nn cn k i j x a' → a'.tmps.getD 96 undef = .bool false → Below w.heap.size w w' → Q .normal a' w'))
    (a : Act) (ha : FrK4 (some ⟨kb, ko, none⟩) (some ⟨db, dO, none⟩) (some ⟨nb, nO, none⟩) B nk ck nd cd nn cn k i j x a) :
    Code.wp Tryz.prog ((((Tryz.f9.body.map regs).getD []).getD 15 (0, .skip)).2) Q a w := by
  obtain ⟨G, hg, e⟩ := act170 a ha.d ha.s
  obtain ⟨hz1, hz2, g1, g2, g5, g6, g7, g8, g9, g10⟩ := ha
  rw [hg] at g1 g2 g5 g6 g7 g8 g9 g10 
  clear hz1 hz2
  subst e
  clear hg
  rw [g1, g2, g5, g6, g7, g8, g9, g10]
  clear g1 g2 g5 g6 g7 g8 g9 g10 
  have z0 : (0 : Int) ≤ (k : Int) := by omega
  have z1 : (k : Int) < nk := by omega
  have z2 : (i : Int) < nd := by omega
  have z3 : (j : Int) < nn := by omega
  have z4 : (0 : Int) ≤ (i : Int) := by omega
  have z5 : (0 : Int) ≤ (j : Int) := by omega
  obtain ⟨h5a, h5b⟩ := h5
  have z6 : (0 : Int) ≤ (x : Int) := by omega
  have z7 : (x : Int) < nT := by omega
  have z10 : (x : Int) + 1 ≤ cT := by omega
  have z11 : ¬ cT = x := by omega
  have z12 : ¬ (cT : Int) = x := by omega
  have z13 : (x : Int) ≤ (x : Int) + 1 := by omega
  have z14 : IntKind.i64.wrap ((x : Int) + 1) = (x : Int) + 1 := wrap_small _ (by omega) (by omega)
  have z15 : (x : Int) ≤ cT := by omega
  conv => arg 2; whnf
  go_region_held3 (fun w' => w'.cell? ⟨kb, ko + k, none⟩ = some (.int .i64 ek) ∧ w'.cell? ⟨nb, nO + j, none⟩ = some (.int .i64 en) ∧ w'.cell? ⟨db, dO + i, none⟩ = some (.slice xa xn xc) ∧ w'.cell? ⟨B, 0, none⟩ = some (.slice (some ⟨tb, tO, none⟩) nT cT)) (refine ⟨?_, ?_, ?_, ?_⟩ <;> assumption)
    (first
      | (go_at_call 11; refine (leach_any (d := d) (L := [s]) _ _ ?_ ?_ (by simp)).mono ?_; exact HD.out.later (Below.refl _ _).drew; exact HT.out.later (Below.refl _ _).drew; rintro e w1 ⟨rfl, hb1⟩; have HQ1 : Hid (Below w.heap.size w w1) := Below.after (Below.refl _ _).drew hb1; have a_l0 := cell_later HQ1.out l0; have a_l1 := cell_later HQ1.out l1; have a_l2 := cell_later HQ1.out l2; have a_l3 := cell_later HQ1.out l3; clear hb1))
  exact HQ.out _ _ ⟨rfl, rfl, rfl, rfl, rfl, rfl, rfl, rfl, rfl, rfl⟩ rfl HQ1.out
theorem takeH {P : Program} {ops : Array Oper} {Q : Exit → Act → World → Prop} {md : Region.Mode} {S : World → Prop} {i : Nat} {oi : Oper} {v : Value} {fuel : Nat} {listed : Array Bool} {a : Act} {w : World} (d : Option Nat) (hi : ops[i]? = some oi) (hd : oi.dst = d)
    (hs : Region.noSelect ops = true) (hf : Region.free md ops listed i = true) (hr : (Region.ready md ops listed).contains i = true)
    (hQ : ∀ c a w, Q (.panic c) (a.put oi.dst v) w → Q (.panic c) a w) (hy : YieldsIf P ops S oi v a) (hS : S w)
    (h : wpAnyH P md ops Q S fuel (listed.setIfInBounds i true) (a.put d v) w) : wpAnyH P md ops Q S (fuel + 1) listed a w := by
  subst hd
  exact wpAnyH_take hi hs hf hr hQ hy hS h
set_option maxRecDepth 1000000 in
set_option maxHeartbeats 8000000 in
theorem kreg21f {kb ko db dO nb nO tb tO B nk ck nd cd nn cn nT cT k i j x : Nat} {ek en : Int} {fa ga : Option Addr} {fn fc gn gc : Nat} {s : Ten} {w : World} {Q : Exit → Act → World → Prop}
    (hk : k < nk) (hi : i < nd) (hj : j < nn) (h5 : i < 5 ∧ j < 5) (hx : x < nT) (hx5 : x < 5) (hcT : nT ≤ cT) (l0 : w.cell? ⟨kb, ko + k, none⟩ = some (.int .i64 ek)) (l1 : w.cell? ⟨nb, nO + j, none⟩ = some (.int .i64 en)) (l3 : w.cell? ⟨B, 0, none⟩ = some (.slice (some ⟨tb, tO, none⟩) nT cT)) (l4 : w.cell? ⟨tb, tO + x * 2, none⟩ = some (.slice fa fn fc)) (l5 : w.cell? ⟨tb, tO + x * 2 + 1, none⟩ = some (.slice ga gn gc)) (HA : Hid (Tens w (.slice fa fn fc) (.slice ga gn gc) s)) (HS : Hid (tok s = false)) (HT : Hid (TensL w (.slice (some ⟨tb, tO + x * 2, none⟩) 1 (cT - x)) [s]))
    (HQ : Hid (∀ a' w', FrK4 (some ⟨kb, ko, none⟩) (some ⟨db, dO, none⟩) (some ⟨nb, nO, none⟩) B nk ck nd cd nn cn k i j x a' → a'.tmps.getD 129 undef = .bool false → Below w.heap.size w w' → Q .normal a' w'))
    (a : Act) (ha : FrK4 (some ⟨kb, ko, none⟩) (some ⟨db, dO, none⟩) (some ⟨nb, nO, none⟩) B nk ck nd cd nn cn k i j x a) :
    Code.wp Tryz.prog ((((Tryz.f9.body.map regs).getD []).getD 17 (0, .skip)).2) Q a w := by
  obtain ⟨G, hg, e⟩ := act170 a ha.d ha.s
  obtain ⟨hz1, hz2, g1, g2, g5, g6, g7, g8, g9, g10⟩ := ha
  rw [hg] at g1 g2 g5 g6 g7 g8 g9 g10 
  clear hz1 hz2
  subst e
  clear hg
  rw [g1, g2, g5, g6, g7, g8, g9, g10]
  clear g1 g2 g5 g6 g7 g8 g9 g10 
  have z0 : (0 : Int) ≤ (k : Int) := by omega
  have z1 : (k : Int) < nk := by omega
  have z2 : (i : Int) < nd := by omega
  have z3 : (j : Int) < nn := by omega
  have z4 : (0 : Int) ≤ (i : Int) := by omega
  have z5 : (0 : Int) ≤ (j : Int) := by omega
  obtain ⟨h5a, h5b⟩ := h5
  have z6 : (0 : Int) ≤ (x : Int) := by omega
  have z7 : (x : Int) < nT := by omega
  have z10 : (x : Int) + 1 ≤ cT := by omega
  have z11 : ¬ cT = x := by omega
  have z12 : ¬ (cT : Int) = x := by omega
  have z13 : (x : Int) ≤ (x : Int) + 1 := by omega
  have z14 : IntKind.i64.wrap ((x : Int) + 1) = (x : Int) + 1 := wrap_small _ (by omega) (by omega)
  have z15 : (x : Int) ≤ cT := by omega
  conv => arg 2; whnf
  refine wp_region_noPanic ?_
  refine wp_region_held_drew (S := fun w' => w'.cell? ⟨B, 0, none⟩ = some (.slice (some ⟨tb, tO, none⟩) nT cT) ∧ w'.cell? ⟨tb, tO + x * 2, none⟩ = some (.slice fa fn fc) ∧ w'.cell? ⟨tb, tO + x * 2 + 1, none⟩ = some (.slice ga gn gc)) (by kernel_rfl) (by (try dsimp only); refine ⟨?_, ?_, ?_⟩ <;> first | assumption | go_keep) (fun hHeld => ?_)
  refine takeH (i := 0) (v := .pointer (some ⟨B, 0, none⟩)) (some 97) rfl rfl (by kernel_rfl) (by kernel_rfl) (by kernel_rfl) (fun _ _ _ h => h) (Or.inl ⟨by rfl, ?_⟩) (by assumption) ?_
  · intro w hSw
    (try dsimp only at hSw)
    go_simp
    try with_reducible rfl
  (try simp only [Act.put, List.setIfInBounds_toArray, List.set_cons_zero, List.set_cons_succ])
  refine takeH (i := 1) (v := .pointer (some ⟨B, 0, none⟩)) (some 98) rfl rfl (by kernel_rfl) (by kernel_rfl) (by kernel_rfl) (fun _ _ _ h => h) (Or.inl ⟨by rfl, ?_⟩) (by assumption) ?_
  · intro w hSw
    (try dsimp only at hSw)
    go_simp
    try with_reducible rfl
  (try simp only [Act.put, List.setIfInBounds_toArray, List.set_cons_zero, List.set_cons_succ])
  refine takeH (i := 2) (v := .slice (some ⟨tb, tO, none⟩) nT cT) (some 99) rfl rfl (by kernel_rfl) (by kernel_rfl) (by kernel_rfl) (fun _ _ _ h => h) (Or.inl ⟨by rfl, ?_⟩) (by assumption) ?_
  · intro w hSw
    (try dsimp only at hSw)
    go_simp
    try with_reducible rfl
  (try simp only [Act.put, List.setIfInBounds_toArray, List.set_cons_zero, List.set_cons_succ])
  refine takeH (i := 3) (v := .int .i64 x) (some 100) rfl rfl (by kernel_rfl) (by kernel_rfl) (by kernel_rfl) (fun _ _ _ h => h) (Or.inl ⟨by rfl, ?_⟩) (by assumption) ?_
  · intro w hSw
    (try dsimp only at hSw)
    go_simp
    try with_reducible rfl
  (try simp only [Act.put, List.setIfInBounds_toArray, List.set_cons_zero, List.set_cons_succ])
  refine takeH (i := 4) (v := .pointer (some ⟨tb, tO + x * 2, none⟩)) (some 101) rfl rfl (by kernel_rfl) (by kernel_rfl) (by kernel_rfl) (fun _ _ _ h => h) (Or.inl ⟨by rfl, ?_⟩) (by assumption) ?_
  · intro w hSw
    (try dsimp only at hSw)
    go_simp
    try with_reducible rfl
  (try simp only [Act.put, List.setIfInBounds_toArray, List.set_cons_zero, List.set_cons_succ])
  refine takeH (i := 5) (v := .agg #[.slice fa fn fc, .slice ga gn gc]) (some 102) rfl rfl (by kernel_rfl) (by kernel_rfl) (by kernel_rfl) (fun _ _ _ h => h) (Or.inl ⟨by rfl, ?_⟩) (by assumption) ?_
  · intro w hSw
    (try dsimp only at hSw)
    go_simp
    try with_reducible rfl
  (try simp only [Act.put, List.setIfInBounds_toArray, List.set_cons_zero, List.set_cons_succ])
  refine wpAnyH_ready (rs := [6]) (by kernel_rfl) (by simp) ?_
  refine AllReadyH.cons rfl (fun K hK => ?_) AllReadyH.nil
  go_simp
  go_at_call 12
  refine (rtensor_to false (HA.out.later (Below.refl _ _).drew) HS.out).mono ?_
  rintro e w2 ⟨rfl, hb2⟩
  have HQ2 : Hid (Below w.heap.size w w2) := Below.after (Below.refl _ _).drew hb2
  have b_l3 := cell_later HQ2.out l3
  have b_l4 := cell_later HQ2.out l4
  have b_l5 := cell_later HQ2.out l5
  clear hb2
  go_wp2_with fail
  refine hK.out _ _ (by (try dsimp only); refine ⟨?_, ?_, ?_⟩ <;> assumption) (fun hHeld => ?_)
  clear hK K
  (try simp only [Act.put, List.setIfInBounds_toArray, List.set_cons_zero, List.set_cons_succ])
  refine takeH (i := 7) (v := .bool false) (some 104) rfl rfl (by kernel_rfl) (by kernel_rfl) (by kernel_rfl) (fun _ _ _ h => h) (Or.inl ⟨by rfl, ?_⟩) (by assumption) ?_
  · intro w hSw
    (try dsimp only at hSw)
    go_simp
    try with_reducible rfl
  (try simp only [Act.put, List.setIfInBounds_toArray, List.set_cons_zero, List.set_cons_succ])
  refine takeH (i := 8) (v := undef) (some 105) rfl rfl (by kernel_rfl) (by kernel_rfl) (by kernel_rfl) (fun _ _ _ h => h) (Or.inr ⟨by rfl, rfl⟩) (by assumption) ?_
  (try simp only [Act.put, List.setIfInBounds_toArray, List.set_cons_zero, List.set_cons_succ])
  refine takeH (i := 9) (v := undef) (some 106) rfl rfl (by kernel_rfl) (by kernel_rfl) (by kernel_rfl) (fun _ _ _ h => h) (Or.inr ⟨by rfl, rfl⟩) (by assumption) ?_
  (try simp only [Act.put, List.setIfInBounds_toArray, List.set_cons_zero, List.set_cons_succ])
  refine takeH (i := 10) (v := undef) (some 107) rfl rfl (by kernel_rfl) (by kernel_rfl) (by kernel_rfl) (fun _ _ _ h => h) (Or.inr ⟨by rfl, rfl⟩) (by assumption) ?_
  (try simp only [Act.put, List.setIfInBounds_toArray, List.set_cons_zero, List.set_cons_succ])
  refine takeH (i := 11) (v := undef) (some 108) rfl rfl (by kernel_rfl) (by kernel_rfl) (by kernel_rfl) (fun _ _ _ h => h) (Or.inr ⟨by rfl, rfl⟩) (by assumption) ?_
  (try simp only [Act.put, List.setIfInBounds_toArray, List.set_cons_zero, List.set_cons_succ])
  refine takeH (i := 12) (v := undef) (some 109) rfl rfl (by kernel_rfl) (by kernel_rfl) (by kernel_rfl) (fun _ _ _ h => h) (Or.inr ⟨by rfl, rfl⟩) (by assumption) ?_
  (try simp only [Act.put, List.setIfInBounds_toArray, List.set_cons_zero, List.set_cons_succ])
  refine takeH (i := 13) (v := undef) (some 110) rfl rfl (by kernel_rfl) (by kernel_rfl) (by kernel_rfl) (fun _ _ _ h => h) (Or.inr ⟨by rfl, rfl⟩) (by assumption) ?_
  (try simp only [Act.put, List.setIfInBounds_toArray, List.set_cons_zero, List.set_cons_succ])
  refine takeH (i := 14) (v := undef) (some 111) rfl rfl (by kernel_rfl) (by kernel_rfl) (by kernel_rfl) (fun _ _ _ h => h) (Or.inr ⟨by rfl, rfl⟩) (by assumption) ?_
  (try simp only [Act.put, List.setIfInBounds_toArray, List.set_cons_zero, List.set_cons_succ])
  refine takeH (i := 15) (v := undef) (some 112) rfl rfl (by kernel_rfl) (by kernel_rfl) (by kernel_rfl) (fun _ _ _ h => h) (Or.inr ⟨by rfl, rfl⟩) (by assumption) ?_
  (try simp only [Act.put, List.setIfInBounds_toArray, List.set_cons_zero, List.set_cons_succ])
  refine takeH (i := 16) (v := undef) (some 113) rfl rfl (by kernel_rfl) (by kernel_rfl) (by kernel_rfl) (fun _ _ _ h => h) (Or.inr ⟨by rfl, rfl⟩) (by assumption) ?_
  (try simp only [Act.put, List.setIfInBounds_toArray, List.set_cons_zero, List.set_cons_succ])
  refine takeH (i := 17) (v := undef) (some 114) rfl rfl (by kernel_rfl) (by kernel_rfl) (by kernel_rfl) (fun _ _ _ h => h) (Or.inr ⟨by rfl, rfl⟩) (by assumption) ?_
  (try simp only [Act.put, List.setIfInBounds_toArray, List.set_cons_zero, List.set_cons_succ])
  refine takeH (i := 18) (v := undef) (some 115) rfl rfl (by kernel_rfl) (by kernel_rfl) (by kernel_rfl) (fun _ _ _ h => h) (Or.inr ⟨by rfl, rfl⟩) (by assumption) ?_
  (try simp only [Act.put, List.setIfInBounds_toArray, List.set_cons_zero, List.set_cons_succ])
  refine takeH (i := 19) (v := undef) (some 116) rfl rfl (by kernel_rfl) (by kernel_rfl) (by kernel_rfl) (fun _ _ _ h => h) (Or.inr ⟨by rfl, rfl⟩) (by assumption) ?_
  (try simp only [Act.put, List.setIfInBounds_toArray, List.set_cons_zero, List.set_cons_succ])
  refine takeH (i := 20) (v := undef) (some 117) rfl rfl (by kernel_rfl) (by kernel_rfl) (by kernel_rfl) (fun _ _ _ h => h) (Or.inr ⟨by rfl, rfl⟩) (by assumption) ?_
  (try simp only [Act.put, List.setIfInBounds_toArray, List.set_cons_zero, List.set_cons_succ])
  refine takeH (i := 21) (v := undef) (some 118) rfl rfl (by kernel_rfl) (by kernel_rfl) (by kernel_rfl) (fun _ _ _ h => h) (Or.inr ⟨by rfl, rfl⟩) (by assumption) ?_
  (try simp only [Act.put, List.setIfInBounds_toArray, List.set_cons_zero, List.set_cons_succ])
  refine takeH (i := 22) (v := undef) (some 119) rfl rfl (by kernel_rfl) (by kernel_rfl) (by kernel_rfl) (fun _ _ _ h => h) (Or.inr ⟨by rfl, rfl⟩) (by assumption) ?_
  (try simp only [Act.put, List.setIfInBounds_toArray, List.set_cons_zero, List.set_cons_succ])
  refine takeH (i := 23) (v := undef) (some 120) rfl rfl (by kernel_rfl) (by kernel_rfl) (by kernel_rfl) (fun _ _ _ h => h) (Or.inr ⟨by rfl, rfl⟩) (by assumption) ?_
  (try simp only [Act.put, List.setIfInBounds_toArray, List.set_cons_zero, List.set_cons_succ])
  refine takeH (i := 24) (v := undef) (some 121) rfl rfl (by kernel_rfl) (by kernel_rfl) (by kernel_rfl) (fun _ _ _ h => h) (Or.inr ⟨by rfl, rfl⟩) (by assumption) ?_
  (try simp only [Act.put, List.setIfInBounds_toArray, List.set_cons_zero, List.set_cons_succ])
  refine takeH (i := 25) (v := undef) (some 122) rfl rfl (by kernel_rfl) (by kernel_rfl) (by kernel_rfl) (fun _ _ _ h => h) (Or.inr ⟨by rfl, rfl⟩) (by assumption) ?_
  (try simp only [Act.put, List.setIfInBounds_toArray, List.set_cons_zero, List.set_cons_succ])
  refine takeH (i := 26) (v := undef) (some 123) rfl rfl (by kernel_rfl) (by kernel_rfl) (by kernel_rfl) (fun _ _ _ h => h) (Or.inr ⟨by rfl, rfl⟩) (by assumption) ?_
  (try simp only [Act.put, List.setIfInBounds_toArray, List.set_cons_zero, List.set_cons_succ])
  refine takeH (i := 27) (v := undef) (some 124) rfl rfl (by kernel_rfl) (by kernel_rfl) (by kernel_rfl) (fun _ _ _ h => h) (Or.inr ⟨by rfl, rfl⟩) (by assumption) ?_
  (try simp only [Act.put, List.setIfInBounds_toArray, List.set_cons_zero, List.set_cons_succ])
  refine takeH (i := 28) (v := undef) (some 125) rfl rfl (by kernel_rfl) (by kernel_rfl) (by kernel_rfl) (fun _ _ _ h => h) (Or.inr ⟨by rfl, rfl⟩) (by assumption) ?_
  (try simp only [Act.put, List.setIfInBounds_toArray, List.set_cons_zero, List.set_cons_succ])
  refine takeH (i := 29) (v := undef) (some 126) rfl rfl (by kernel_rfl) (by kernel_rfl) (by kernel_rfl) (fun _ _ _ h => h) (Or.inr ⟨by rfl, rfl⟩) (by assumption) ?_
  (try simp only [Act.put, List.setIfInBounds_toArray, List.set_cons_zero, List.set_cons_succ])
  refine takeH (i := 30) (v := undef) (some 127) rfl rfl (by kernel_rfl) (by kernel_rfl) (by kernel_rfl) (fun _ _ _ h => h) (Or.inr ⟨by rfl, rfl⟩) (by assumption) ?_
  (try simp only [Act.put, List.setIfInBounds_toArray, List.set_cons_zero, List.set_cons_succ])
  refine takeH (i := 31) (v := undef) (some 128) rfl rfl (by kernel_rfl) (by kernel_rfl) (by kernel_rfl) (fun _ _ _ h => h) (Or.inr ⟨by rfl, rfl⟩) (by assumption) ?_
  (try simp only [Act.put, List.setIfInBounds_toArray, List.set_cons_zero, List.set_cons_succ])
  refine takeH (i := 32) (v := .bool false) (some 129) rfl rfl (by kernel_rfl) (by kernel_rfl) (by kernel_rfl) (fun _ _ _ h => h) (Or.inl ⟨by rfl, ?_⟩) (by assumption) ?_
  · intro w hSw
    (try dsimp only at hSw)
    go_simp
    try with_reducible rfl
  (try simp only [Act.put, List.setIfInBounds_toArray, List.set_cons_zero, List.set_cons_succ])
  refine wpAnyH_done (by kernel_rfl) ?_ _
  refine NoPanic.normal ?_
  exact HQ.out _ _ ⟨rfl, rfl, rfl, rfl, rfl, rfl, rfl, rfl, rfl, rfl⟩ rfl HQ2.out
set_option maxRecDepth 1000000 in
set_option maxHeartbeats 8000000 in
theorem kreg21t {kb ko db dO nb nO tb tO B nk ck nd cd nn cn nT cT k i j x : Nat} {ek en : Int} {fa ga : Option Addr} {fn fc gn gc : Nat} {s : Ten} {w : World} {Q : Exit → Act → World → Prop}
    (hk : k < nk) (hi : i < nd) (hj : j < nn) (h5 : i < 5 ∧ j < 5) (hx : x < nT) (hx5 : x < 5) (hcT : nT ≤ cT) (l0 : w.cell? ⟨kb, ko + k, none⟩ = some (.int .i64 ek)) (l1 : w.cell? ⟨nb, nO + j, none⟩ = some (.int .i64 en)) (l3 : w.cell? ⟨B, 0, none⟩ = some (.slice (some ⟨tb, tO, none⟩) nT cT)) (l4 : w.cell? ⟨tb, tO + x * 2, none⟩ = some (.slice fa fn fc)) (l5 : w.cell? ⟨tb, tO + x * 2 + 1, none⟩ = some (.slice ga gn gc)) (HA : Hid (Tens w (.slice fa fn fc) (.slice ga gn gc) s)) (HS : Hid (tok s = true)) (HT : Hid (TensL w (.slice (some ⟨tb, tO + x * 2, none⟩) 1 (cT - x)) [s]))
    (HQ : Hid (∀ a' w', FrK4 (some ⟨kb, ko, none⟩) (some ⟨db, dO, none⟩) (some ⟨nb, nO, none⟩) B nk ck nd cd nn cn k i j x a' → a'.tmps.getD 129 undef = .bool false → Below w.heap.size w w' → Q .normal a' w'))
    (a : Act) (ha : FrK4 (some ⟨kb, ko, none⟩) (some ⟨db, dO, none⟩) (some ⟨nb, nO, none⟩) B nk ck nd cd nn cn k i j x a) :
    Code.wp Tryz.prog ((((Tryz.f9.body.map regs).getD []).getD 17 (0, .skip)).2) Q a w := by
  obtain ⟨G, hg, e⟩ := act170 a ha.d ha.s
  obtain ⟨hz1, hz2, g1, g2, g5, g6, g7, g8, g9, g10⟩ := ha
  rw [hg] at g1 g2 g5 g6 g7 g8 g9 g10 
  clear hz1 hz2
  subst e
  clear hg
  rw [g1, g2, g5, g6, g7, g8, g9, g10]
  clear g1 g2 g5 g6 g7 g8 g9 g10 
  have z0 : (0 : Int) ≤ (k : Int) := by omega
  have z1 : (k : Int) < nk := by omega
  have z2 : (i : Int) < nd := by omega
  have z3 : (j : Int) < nn := by omega
  have z4 : (0 : Int) ≤ (i : Int) := by omega
  have z5 : (0 : Int) ≤ (j : Int) := by omega
  obtain ⟨h5a, h5b⟩ := h5
  have z6 : (0 : Int) ≤ (x : Int) := by omega
  have z7 : (x : Int) < nT := by omega
  have z10 : (x : Int) + 1 ≤ cT := by omega
  have z11 : ¬ cT = x := by omega
  have z12 : ¬ (cT : Int) = x := by omega
  have z13 : (x : Int) ≤ (x : Int) + 1 := by omega
  have z14 : IntKind.i64.wrap ((x : Int) + 1) = (x : Int) + 1 := wrap_small _ (by omega) (by omega)
  have z15 : (x : Int) ≤ cT := by omega
  conv => arg 2; whnf
  go_region_held3 (fun w' => w'.cell? ⟨kb, ko + k, none⟩ = some (.int .i64 ek) ∧ w'.cell? ⟨nb, nO + j, none⟩ = some (.int .i64 en) ∧ w'.cell? ⟨B, 0, none⟩ = some (.slice (some ⟨tb, tO, none⟩) nT cT) ∧ w'.cell? ⟨tb, tO + x * 2, none⟩ = some (.slice fa fn fc) ∧ w'.cell? ⟨tb, tO + x * 2 + 1, none⟩ = some (.slice ga gn gc)) (refine ⟨?_, ?_, ?_, ?_, ?_⟩ <;> assumption)
    (first
      | (go_at_call 12; refine (rtensor_to true (HA.out.later (Below.refl _ _).drew) HS.out).mono ?_; rintro e w2 ⟨rfl, hb2⟩; have HQ2 : Hid (Below w.heap.size w w2) := Below.after (Below.refl _ _).drew hb2; have b_l0 := cell_later HQ2.out l0; have b_l1 := cell_later HQ2.out l1; have b_l3 := cell_later HQ2.out l3; have b_l4 := cell_later HQ2.out l4; have b_l5 := cell_later HQ2.out l5; clear hb2)
      | (go_at_call 11; refine (leach_any (d := s.1) (L := [s]) _ _ ?_ ?_ (by simp)).mono ?_; exact HA.out.1.later HQ2.out; exact HT.out.later HQ2.out; rintro e w1 ⟨rfl, hb1⟩; have HQ1 : Hid (Below w.heap.size w w1) := Below.after HQ2.out hb1; have a_l0 := cell_later HQ1.out l0; have a_l1 := cell_later HQ1.out l1; have a_l3 := cell_later HQ1.out l3; have a_l4 := cell_later HQ1.out l4; have a_l5 := cell_later HQ1.out l5; clear hb1))
  exact HQ.out _ _ ⟨rfl, rfl, rfl, rfl, rfl, rfl, rfl, rfl, rfl, rfl⟩ rfl HQ1.out
set_option maxRecDepth 1000000 in
set_option maxHeartbeats 8000000 in
theorem kreg26 {kb ko db dO nb nO tb tO B nk ck nd cd nn cn nT cT k i j x y : Nat} {ek en : Int} {xa fa ga ha ya : Option Addr} {xn xc fn fc gn gc hn hc yn yc : Nat} {d : List Int} {s t : Ten} {w : World} {Q : Exit → Act → World → Prop}
    (hk : k < nk) (hi : i < nd) (hj : j < nn) (h5 : i < 5 ∧ j < 5) (hx : x < nT) (hx5 : x < 5) (hy : y < nT) (hy5 : y < 5) (l0 : w.cell? ⟨kb, ko + k, none⟩ = some (.int .i64 ek)) (l1 : w.cell? ⟨nb, nO + j, none⟩ = some (.int .i64 en)) (l2 : w.cell? ⟨db, dO + i, none⟩ = some (.slice xa xn xc)) (l3 : w.cell? ⟨B, 0, none⟩ = some (.slice (some ⟨tb, tO, none⟩) nT cT)) (l4 : w.cell? ⟨tb, tO + x * 2, none⟩ = some (.slice fa fn fc)) (l5 : w.cell? ⟨tb, tO + x * 2 + 1, none⟩ = some (.slice ga gn gc)) (l6 : w.cell? ⟨tb, tO + y * 2, none⟩ = some (.slice ha hn hc)) (l7 : w.cell? ⟨tb, tO + y * 2 + 1, none⟩ = some (.slice ya yn yc)) (HD : Hid (Ints w (.slice xa xn xc) d)) (HA : Hid (Tens w (.slice fa fn fc) (.slice ga gn gc) s)) (HU : Hid (Tens w (.slice ha hn hc) (.slice ya yn yc) t))
    (HQ : Hid (∀ a' w', FrK5 (some ⟨kb, ko, none⟩) (some ⟨db, dO, none⟩) (some ⟨nb, nO, none⟩) B nk ck nd cd nn cn k i j x y a' → a'.tmps.getD 168 undef = .bool false → Below w.heap.size w w' → Q .normal a' w'))
    (a : Act) (ha : FrK5 (some ⟨kb, ko, none⟩) (some ⟨db, dO, none⟩) (some ⟨nb, nO, none⟩) B nk ck nd cd nn cn k i j x y a) :
    Code.wp Tryz.prog ((((Tryz.f9.body.map regs).getD []).getD 21 (0, .skip)).2) Q a w := by
  obtain ⟨G, hg, e⟩ := act170 a ha.d ha.s
  obtain ⟨hz1, hz2, g1, g2, g5, g6, g7, g8, g9, g10, g11⟩ := ha
  rw [hg] at g1 g2 g5 g6 g7 g8 g9 g10 g11 
  clear hz1 hz2
  subst e
  clear hg
  rw [g1, g2, g5, g6, g7, g8, g9, g10, g11]
  clear g1 g2 g5 g6 g7 g8 g9 g10 g11 
  have z0 : (0 : Int) ≤ (k : Int) := by omega
  have z1 : (k : Int) < nk := by omega
  have z2 : (i : Int) < nd := by omega
  have z3 : (j : Int) < nn := by omega
  have z4 : (0 : Int) ≤ (i : Int) := by omega
  have z5 : (0 : Int) ≤ (j : Int) := by omega
  obtain ⟨h5a, h5b⟩ := h5
  have z6 : (0 : Int) ≤ (x : Int) := by omega
  have z7 : (x : Int) < nT := by omega
  have z8 : (0 : Int) ≤ (y : Int) := by omega
  have z9 : (y : Int) < nT := by omega
  have n_l0 := World.new_ne w _ l0
  have n_l1 := World.new_ne w _ l1
  have n_l2 := World.new_ne w _ l2
  have n_l3 := World.new_ne w _ l3
  have n_l4 := World.new_ne w _ l4
  have n_l5 := World.new_ne w _ l5
  have n_l6 := World.new_ne w _ l6
  have n_l7 := World.new_ne w _ l7
  conv => arg 2; whnf
  go_region_held3 (fun w' => w'.cell? ⟨kb, ko + k, none⟩ = some (.int .i64 ek) ∧ w'.cell? ⟨nb, nO + j, none⟩ = some (.int .i64 en) ∧ w'.cell? ⟨db, dO + i, none⟩ = some (.slice xa xn xc) ∧ w'.cell? ⟨B, 0, none⟩ = some (.slice (some ⟨tb, tO, none⟩) nT cT) ∧ w'.cell? ⟨tb, tO + x * 2, none⟩ = some (.slice fa fn fc) ∧ w'.cell? ⟨tb, tO + x * 2 + 1, none⟩ = some (.slice ga gn gc) ∧ w'.cell? ⟨tb, tO + y * 2, none⟩ = some (.slice ha hn hc) ∧ w'.cell? ⟨tb, tO + y * 2 + 1, none⟩ = some (.slice ya yn yc)) (refine ⟨?_, ?_, ?_, ?_, ?_, ?_, ?_, ?_⟩ <;> (first | assumption | go_keep))
    (first
      | (go_at_call 11; refine (leach_any (d := d) (L := [s, t]) _ _ ?_ ?_ (by simp)).mono ?_; exact HD.out.later (Below.push (Below.refl _ _).drew _); exact TensL.mk2 (HA.out.later (Below.refl _ _).drew) (HU.out.later (Below.refl _ _).drew) _ rfl; rintro e w1 ⟨rfl, hb1⟩; have HQ1 : Hid (Below w.heap.size w w1) := Below.after (Below.push (Below.refl _ _).drew _) hb1; have a_l0 := cell_later HQ1.out l0; have a_l1 := cell_later HQ1.out l1; have a_l2 := cell_later HQ1.out l2; have a_l3 := cell_later HQ1.out l3; have a_l4 := cell_later HQ1.out l4; have a_l5 := cell_later HQ1.out l5; have a_l6 := cell_later HQ1.out l6; have a_l7 := cell_later HQ1.out l7; clear hb1))
  exact HQ.out _ _ ⟨rfl, rfl, rfl, rfl, rfl, rfl, rfl, rfl, rfl, rfl, rfl⟩ rfl HQ1.out
theorem kreg21 {kb ko db dO nb nO tb tO B nk ck nd cd nn cn nT cT k i j x : Nat} {ek en : Int} {fa ga : Option Addr} {fn fc gn gc : Nat} {s : Ten} {w : World} {Q : Exit → Act → World → Prop}
    (hk : k < nk) (hi : i < nd) (hj : j < nn) (h5 : i < 5 ∧ j < 5) (hx : x < nT) (hx5 : x < 5) (hcT : nT ≤ cT) (l0 : w.cell? ⟨kb, ko + k, none⟩ = some (.int .i64 ek)) (l1 : w.cell? ⟨nb, nO + j, none⟩ = some (.int .i64 en)) (l3 : w.cell? ⟨B, 0, none⟩ = some (.slice (some ⟨tb, tO, none⟩) nT cT)) (l4 : w.cell? ⟨tb, tO + x * 2, none⟩ = some (.slice fa fn fc)) (l5 : w.cell? ⟨tb, tO + x * 2 + 1, none⟩ = some (.slice ga gn gc)) (HA : Hid (Tens w (.slice fa fn fc) (.slice ga gn gc) s)) (HT : Hid (TensL w (.slice (some ⟨tb, tO + x * 2, none⟩) 1 (cT - x)) [s]))
    (HQ : Hid (∀ a' w', FrK4 (some ⟨kb, ko, none⟩) (some ⟨db, dO, none⟩) (some ⟨nb, nO, none⟩) B nk ck nd cd nn cn k i j x a' → a'.tmps.getD 129 undef = .bool false → Below w.heap.size w w' → Q .normal a' w'))
    (a : Act) (ha : FrK4 (some ⟨kb, ko, none⟩) (some ⟨db, dO, none⟩) (some ⟨nb, nO, none⟩) B nk ck nd cd nn cn k i j x a) :
    Code.wp Tryz.prog ((((Tryz.f9.body.map regs).getD []).getD 17 (0, .skip)).2) Q a w := by
  cases hs : tok s with
  | true => exact kreg21t hk hi hj h5 hx hx5 hcT l0 l1 l3 l4 l5 HA hs HT HQ a ha
  | false => exact kreg21f hk hi hj h5 hx hx5 hcT l0 l1 l3 l4 l5 HA hs HT HQ a ha
end Go.Proofs.YtheddpjaihhbdabGreat
