/- GateOpens: its regions that draw. -/
import Derived.Test.YtnphfepkjhlalaaV5
import Derived.Test.YtnphfepkjhlalaaV3
import Derived.Test.YtnphfepkjhlalaaV4
namespace Go.Proofs.Ytnphfepkjhlalaa
set_option linter.unusedVariables false
set_option linter.unusedSimpArgs false
open Go.RowKit

set_option maxRecDepth 100000 in
theorem lit240 (g : Nat → Value) : (g 0 :: g 1 :: g 2 :: g 3 :: g 4 :: g 5 :: g 6 :: g 7 :: g 8 :: g 9 :: g 10 :: g 11 :: g 12 :: g 13 :: g 14 :: g 15 :: g 16 :: g 17 :: g 18 :: g 19 :: g 20 :: g 21 :: g 22 :: g 23 :: g 24 :: g 25 :: g 26 :: g 27 :: g 28 :: g 29 :: g 30 :: g 31 :: g 32 :: g 33 :: g 34 :: g 35 :: g 36 :: g 37 :: g 38 :: g 39 :: g 40 :: g 41 :: g 42 :: g 43 :: g 44 :: g 45 :: g 46 :: g 47 :: g 48 :: g 49 :: g 50 :: g 51 :: g 52 :: g 53 :: g 54 :: g 55 :: g 56 :: g 57 :: g 58 :: g 59 :: g 60 :: g 61 :: g 62 :: g 63 :: g 64 :: g 65 :: g 66 :: g 67 :: g 68 :: g 69 :: g 70 :: g 71 :: g 72 :: g 73 :: g 74 :: g 75 :: g 76 :: g 77 :: g 78 :: g 79 :: g 80 :: g 81 :: g 82 :: g 83 :: g 84 :: g 85 :: g 86 :: g 87 :: g 88 :: g 89 :: g 90 :: g 91 :: g 92 :: g 93 :: g 94 :: g 95 :: g 96 :: g 97 :: g 98 :: g 99 :: g 100 :: g 101 :: g 102 :: g 103 :: g 104 :: g 105 :: g 106 :: g 107 :: g 108 :: g 109 :: g 110 :: g 111 :: g 112 :: g 113 :: g 114 :: g 115 :: g 116 :: g 117 :: g 118 :: g 119 :: g 120 :: g 121 :: g 122 :: g 123 :: g 124 :: g 125 :: g 126 :: g 127 :: g 128 :: g 129 :: g 130 :: g 131 :: g 132 :: g 133 :: g 134 :: g 135 :: g 136 :: g 137 :: g 138 :: g 139 :: g 140 :: g 141 :: g 142 :: g 143 :: g 144 :: g 145 :: g 146 :: g 147 :: g 148 :: g 149 :: g 150 :: g 151 :: g 152 :: g 153 :: g 154 :: g 155 :: g 156 :: g 157 :: g 158 :: g 159 :: g 160 :: g 161 :: g 162 :: g 163 :: g 164 :: g 165 :: g 166 :: g 167 :: g 168 :: g 169 :: g 170 :: g 171 :: g 172 :: g 173 :: g 174 :: g 175 :: g 176 :: g 177 :: g 178 :: g 179 :: g 180 :: g 181 :: g 182 :: g 183 :: g 184 :: g 185 :: g 186 :: g 187 :: g 188 :: g 189 :: g 190 :: g 191 :: g 192 :: g 193 :: g 194 :: g 195 :: g 196 :: g 197 :: g 198 :: g 199 :: g 200 :: g 201 :: g 202 :: g 203 :: g 204 :: g 205 :: g 206 :: g 207 :: g 208 :: g 209 :: g 210 :: g 211 :: g 212 :: g 213 :: g 214 :: g 215 :: g 216 :: g 217 :: g 218 :: g 219 :: g 220 :: g 221 :: g 222 :: g 223 :: g 224 :: g 225 :: g 226 :: g 227 :: g 228 :: g 229 :: g 230 :: g 231 :: g 232 :: g 233 :: g 234 :: g 235 :: g 236 :: g 237 :: g 238 :: g 239 :: []).toArray = ((List.range 240).map g).toArray := by rfl
set_option maxRecDepth 100000 in
theorem act240 (a : Act) (hd : a.defers = []) (hs : a.tmps.size = 240) : ∃ g : Nat → Value, (∀ i, a.tmps.getD i undef = g i) ∧ a = { tmps := (g 0 :: g 1 :: g 2 :: g 3 :: g 4 :: g 5 :: g 6 :: g 7 :: g 8 :: g 9 :: g 10 :: g 11 :: g 12 :: g 13 :: g 14 :: g 15 :: g 16 :: g 17 :: g 18 :: g 19 :: g 20 :: g 21 :: g 22 :: g 23 :: g 24 :: g 25 :: g 26 :: g 27 :: g 28 :: g 29 :: g 30 :: g 31 :: g 32 :: g 33 :: g 34 :: g 35 :: g 36 :: g 37 :: g 38 :: g 39 :: g 40 :: g 41 :: g 42 :: g 43 :: g 44 :: g 45 :: g 46 :: g 47 :: g 48 :: g 49 :: g 50 :: g 51 :: g 52 :: g 53 :: g 54 :: g 55 :: g 56 :: g 57 :: g 58 :: g 59 :: g 60 :: g 61 :: g 62 :: g 63 :: g 64 :: g 65 :: g 66 :: g 67 :: g 68 :: g 69 :: g 70 :: g 71 :: g 72 :: g 73 :: g 74 :: g 75 :: g 76 :: g 77 :: g 78 :: g 79 :: g 80 :: g 81 :: g 82 :: g 83 :: g 84 :: g 85 :: g 86 :: g 87 :: g 88 :: g 89 :: g 90 :: g 91 :: g 92 :: g 93 :: g 94 :: g 95 :: g 96 :: g 97 :: g 98 :: g 99 :: g 100 :: g 101 :: g 102 :: g 103 :: g 104 :: g 105 :: g 106 :: g 107 :: g 108 :: g 109 :: g 110 :: g 111 :: g 112 :: g 113 :: g 114 :: g 115 :: g 116 :: g 117 :: g 118 :: g 119 :: g 120 :: g 121 :: g 122 :: g 123 :: g 124 :: g 125 :: g 126 :: g 127 :: g 128 :: g 129 :: g 130 :: g 131 :: g 132 :: g 133 :: g 134 :: g 135 :: g 136 :: g 137 :: g 138 :: g 139 :: g 140 :: g 141 :: g 142 :: g 143 :: g 144 :: g 145 :: g 146 :: g 147 :: g 148 :: g 149 :: g 150 :: g 151 :: g 152 :: g 153 :: g 154 :: g 155 :: g 156 :: g 157 :: g 158 :: g 159 :: g 160 :: g 161 :: g 162 :: g 163 :: g 164 :: g 165 :: g 166 :: g 167 :: g 168 :: g 169 :: g 170 :: g 171 :: g 172 :: g 173 :: g 174 :: g 175 :: g 176 :: g 177 :: g 178 :: g 179 :: g 180 :: g 181 :: g 182 :: g 183 :: g 184 :: g 185 :: g 186 :: g 187 :: g 188 :: g 189 :: g 190 :: g 191 :: g 192 :: g 193 :: g 194 :: g 195 :: g 196 :: g 197 :: g 198 :: g 199 :: g 200 :: g 201 :: g 202 :: g 203 :: g 204 :: g 205 :: g 206 :: g 207 :: g 208 :: g 209 :: g 210 :: g 211 :: g 212 :: g 213 :: g 214 :: g 215 :: g 216 :: g 217 :: g 218 :: g 219 :: g 220 :: g 221 :: g 222 :: g 223 :: g 224 :: g 225 :: g 226 :: g 227 :: g 228 :: g 229 :: g 230 :: g 231 :: g 232 :: g 233 :: g 234 :: g 235 :: g 236 :: g 237 :: g 238 :: g 239 :: []).toArray, defers := [] } := by
  refine ⟨fun i => a.tmps.getD i undef, fun _ => rfl, ?_⟩
  have h := lit240 (fun i => a.tmps.getD i undef)
  have e : a.tmps = ((List.range 240).map (fun i => a.tmps.getD i undef)).toArray := by
    apply Array.ext
    · simp [hs]
    · intro i h1 h2
      simp [h1]
  exact (show a = Act.mk a.tmps a.defers from rfl).trans (by rw [hd]; exact congrArg (fun t => Act.mk t []) (e.trans h.symm))
structure FrO4 (B i Ba ob oo lO cO k Bb : Nat) (may : Bool) (n : Int) (a : Act) : Prop where
  d : a.defers = []
  s : a.tmps.size = 240
  f1 : a.tmps.getD 1 undef = .pointer (some ⟨B, 0, none⟩)
  f3 : a.tmps.getD 3 undef = .int .i64 i
  f4 : a.tmps.getD 4 undef = .pointer (some ⟨Ba, 0, none⟩)
  f5 : a.tmps.getD 5 undef = .bool may
  f10 : a.tmps.getD 10 undef = .slice (some ⟨ob, oo, none⟩) lO cO
  f16 : a.tmps.getD 16 undef = .int .i64 k
  f17 : a.tmps.getD 17 undef = .pointer (some ⟨Bb, 0, none⟩)
  f22 : a.tmps.getD 22 undef = .int .i64 n
structure FrO4e (B i Ba ob oo lO cO k Bb : Nat) (may : Bool) (n : Int) (By Bp : Nat) (e0 bad : Int) (a : Act) : Prop where
  d : a.defers = []
  s : a.tmps.size = 240
  f1 : a.tmps.getD 1 undef = .pointer (some ⟨B, 0, none⟩)
  f3 : a.tmps.getD 3 undef = .int .i64 i
  f4 : a.tmps.getD 4 undef = .pointer (some ⟨Ba, 0, none⟩)
  f5 : a.tmps.getD 5 undef = .bool may
  f10 : a.tmps.getD 10 undef = .slice (some ⟨ob, oo, none⟩) lO cO
  f16 : a.tmps.getD 16 undef = .int .i64 k
  f17 : a.tmps.getD 17 undef = .pointer (some ⟨Bb, 0, none⟩)
  f22 : a.tmps.getD 22 undef = .int .i64 n
  f23 : a.tmps.getD 23 undef = .pointer (some ⟨By, 0, none⟩)
  f24 : a.tmps.getD 24 undef = .int .i64 e0
  f25 : a.tmps.getD 25 undef = .int .i64 bad
  f26 : a.tmps.getD 26 undef = .pointer (some ⟨Bp, 0, none⟩)
theorem oreg53_id : (((Try.f3.body.map regs).getD []).getD 50 (0, .skip)).1 = 53 := by decide +kernel
set_option maxRecDepth 1000000 in
set_option maxHeartbeats 8000000 in
theorem oreg53 {B i Ba ob oo lO cO k Bb By Bp : Nat} {may : Bool} {n e0 : Int} {x0 x1 p0 p1 b0 b1 xk yk : Value} {t u : Ten} {w : World} {Q : Exit → Act → World → Prop}
    (hk : k < lO) (hcO : lO ≤ cO) (hlO : lO ≤ 1000) (HY : Hid (TB w By x0 x1 u)) (HP : Hid (TB w Bp p0 p1 u)) (HT : Hid (TB w Bb b0 b1 t)) (HK : Hid (Tens w xk yk t)) (l6 : w.cell? ⟨ob, oo + k * 2, none⟩ = some xk) (l7 : w.cell? ⟨ob, oo + k * 2 + 1, none⟩ = some yk)
    (HQ : Hid (∀ a' w', FrO4e B i Ba ob oo lO cO k Bb may n By Bp e0 e0 a' → a'.tmps.getD 228 undef = .bool false → Below w.heap.size w w' → Q .normal a' w'))
    (a : Act) (ha : FrO4e B i Ba ob oo lO cO k Bb may n By Bp e0 e0 a) :
    Code.wp Try.prog ((((Try.f3.body.map regs).getD []).getD 50 (0, .skip)).2) Q a w := by
  obtain ⟨G, hg, e⟩ := act240 a ha.d ha.s
  obtain ⟨hz1, hz2, g1, g3, g4, g5, g10, g16, g17, g22, g23, g24, g25, g26⟩ := ha
  rw [hg] at g1 g3 g4 g5 g10 g16 g17 g22 g23 g24 g25 g26 
  clear hz1 hz2
  subst e
  clear hg
  rw [g1, g3, g4, g5, g10, g16, g17, g22, g23, g24, g25, g26]
  clear g1 g3 g4 g5 g10 g16 g17 g22 g23 g24 g25 g26
  have l0 := HY.out.box.c0
  have l1 := HY.out.box.c1
  have l2 := HP.out.box.c0
  have l3 := HP.out.box.c1
  have l4 := HT.out.box.c0
  have l5 := HT.out.box.c1
  have z0 : (0 : Int) ≤ (k : Int) := by omega
  have z1 : (k : Int) < lO := by omega
  conv => arg 2; whnf
  go_region_held3 (fun w' => w'.cell? ⟨By, 0, none⟩ = some (x0) ∧ w'.cell? ⟨By, 1, none⟩ = some (x1) ∧ w'.cell? ⟨Bp, 0, none⟩ = some (p0) ∧ w'.cell? ⟨Bp, 1, none⟩ = some (p1) ∧ w'.cell? ⟨Bb, 0, none⟩ = some (b0) ∧ w'.cell? ⟨Bb, 1, none⟩ = some (b1) ∧ w'.cell? ⟨ob, oo + k * 2, none⟩ = some (xk) ∧ w'.cell? ⟨ob, oo + k * 2 + 1, none⟩ = some (yk)) (refine ⟨?_, ?_, ?_, ?_, ?_, ?_, ?_, ?_⟩ <;> assumption)
    (first
      | (go_at_call 11; refine (num_any _ _).mono ?_; rintro e w' ⟨rfl, rfl⟩)
      | (go_at_call_of 12 (Value.agg #[x0, x1]); refine (eqt_to (s := u) (t := u) (HY.out.ten.later (Below.refl _ _).drew) (HP.out.ten.later (Below.refl _ _).drew) rfl).mono ?_; rintro e w' ⟨rfl, hbq⟩; have HQ0 : Hid (Below w.heap.size w w') := Below.after (Below.refl _ _).drew hbq; have a_0 := cell_later HQ0.out l0; have a_1 := cell_later HQ0.out l1; have a_2 := cell_later HQ0.out l2; have a_3 := cell_later HQ0.out l3; have a_4 := cell_later HQ0.out l4; have a_5 := cell_later HQ0.out l5; have a_6 := cell_later HQ0.out l6; have a_7 := cell_later HQ0.out l7; clear hbq)
      | (go_at_call_of 12 (Value.agg #[b0, b1]); refine (eqt_to (s := t) (t := t) (HT.out.ten.later HQ0.out) (HK.out.later HQ0.out) rfl).mono ?_; rintro e w' ⟨rfl, hbq⟩; have HQ1 : Hid (Below w.heap.size w w') := Below.after HQ0.out hbq; have b_0 := cell_later HQ1.out l0; have b_1 := cell_later HQ1.out l1; have b_2 := cell_later HQ1.out l2; have b_3 := cell_later HQ1.out l3; have b_4 := cell_later HQ1.out l4; have b_5 := cell_later HQ1.out l5; have b_6 := cell_later HQ1.out l6; have b_7 := cell_later HQ1.out l7; clear hbq; clear a_0 a_1 a_2 a_3 a_4 a_5 a_6 a_7))
  exact HQ.out _ _ ⟨rfl, rfl, rfl, rfl, rfl, rfl, rfl, rfl, rfl, rfl, rfl, rfl, rfl, rfl⟩ rfl HQ1.out
structure FrO2 (B i Ba : Nat) (may : Bool) (ov : Value) (n : Int) (a : Act) : Prop where
  d : a.defers = []
  s : a.tmps.size = 240
  f1 : a.tmps.getD 1 undef = .pointer (some ⟨B, 0, none⟩)
  f3 : a.tmps.getD 3 undef = .int .i64 i
  f4 : a.tmps.getD 4 undef = .pointer (some ⟨Ba, 0, none⟩)
  f5 : a.tmps.getD 5 undef = .bool may
  f10 : a.tmps.getD 10 undef = ov
  f11 : a.tmps.getD 11 undef = .int .i64 n
structure FrO2e (B i Ba : Nat) (may : Bool) (ov : Value) (n : Int) (By Bp : Nat) (e0 bad : Int) (a : Act) : Prop where
  d : a.defers = []
  s : a.tmps.size = 240
  f1 : a.tmps.getD 1 undef = .pointer (some ⟨B, 0, none⟩)
  f3 : a.tmps.getD 3 undef = .int .i64 i
  f4 : a.tmps.getD 4 undef = .pointer (some ⟨Ba, 0, none⟩)
  f5 : a.tmps.getD 5 undef = .bool may
  f10 : a.tmps.getD 10 undef = ov
  f11 : a.tmps.getD 11 undef = .int .i64 n
  f12 : a.tmps.getD 12 undef = .pointer (some ⟨By, 0, none⟩)
  f13 : a.tmps.getD 13 undef = .int .i64 e0
  f14 : a.tmps.getD 14 undef = .int .i64 bad
  f15 : a.tmps.getD 15 undef = .pointer (some ⟨Bp, 0, none⟩)
theorem oreg27_id : (((Try.f3.body.map regs).getD []).getD 25 (0, .skip)).1 = 27 := by decide +kernel
set_option maxRecDepth 1000000 in
set_option maxHeartbeats 8000000 in
theorem oreg27 {B i Ba ob oo lO cO By Bp : Nat} {may : Bool} {ov : Value} {n e0 : Int} {x0 x1 p0 p1 b0 b1 xk yk : Value} {t u : Ten} {w : World} {Q : Exit → Act → World → Prop}
    (hk : i < lO) (hcO : lO ≤ cO) (hlO : lO ≤ 1000) (HY : Hid (TB w By x0 x1 u)) (HP : Hid (TB w Bp p0 p1 u)) (HT : Hid (TB w Ba b0 b1 t)) (HK : Hid (Tens w xk yk t)) (l8 : w.cell? ⟨B, 0, none⟩ = some (.slice (some ⟨ob, oo, none⟩) lO cO)) (l6 : w.cell? ⟨ob, oo + i * 2, none⟩ = some xk) (l7 : w.cell? ⟨ob, oo + i * 2 + 1, none⟩ = some yk)
    (HQ : Hid (∀ a' w', FrO2e B i Ba may ov n By Bp e0 e0 a' → a'.tmps.getD 125 undef = .bool false → Below w.heap.size w w' → Q .normal a' w'))
    (a : Act) (ha : FrO2e B i Ba may ov n By Bp e0 e0 a) :
    Code.wp Try.prog ((((Try.f3.body.map regs).getD []).getD 25 (0, .skip)).2) Q a w := by
  obtain ⟨G, hg, e⟩ := act240 a ha.d ha.s
  obtain ⟨hz1, hz2, g1, g3, g4, g5, g10, g11, g12, g13, g14, g15⟩ := ha
  rw [hg] at g1 g3 g4 g5 g10 g11 g12 g13 g14 g15 
  clear hz1 hz2
  subst e
  clear hg
  rw [g1, g3, g4, g5, g10, g11, g12, g13, g14, g15]
  clear g1 g3 g4 g5 g10 g11 g12 g13 g14 g15
  have l0 := HY.out.box.c0
  have l1 := HY.out.box.c1
  have l2 := HP.out.box.c0
  have l3 := HP.out.box.c1
  have l4 := HT.out.box.c0
  have l5 := HT.out.box.c1
  have z0 : (0 : Int) ≤ (i : Int) := by omega
  have z1 : (i : Int) < lO := by omega
  conv => arg 2; whnf
  go_region_held3 (fun w' => w'.cell? ⟨By, 0, none⟩ = some (x0) ∧ w'.cell? ⟨By, 1, none⟩ = some (x1) ∧ w'.cell? ⟨Bp, 0, none⟩ = some (p0) ∧ w'.cell? ⟨Bp, 1, none⟩ = some (p1) ∧ w'.cell? ⟨Ba, 0, none⟩ = some (b0) ∧ w'.cell? ⟨Ba, 1, none⟩ = some (b1) ∧ w'.cell? ⟨B, 0, none⟩ = some (.slice (some ⟨ob, oo, none⟩) lO cO) ∧ w'.cell? ⟨ob, oo + i * 2, none⟩ = some (xk) ∧ w'.cell? ⟨ob, oo + i * 2 + 1, none⟩ = some (yk)) (refine ⟨?_, ?_, ?_, ?_, ?_, ?_, ?_, ?_, ?_⟩ <;> assumption)
    (first
      | (go_at_call 11; refine (num_any _ _).mono ?_; rintro e w' ⟨rfl, rfl⟩)
      | (go_at_call_of 12 (Value.agg #[x0, x1]); refine (eqt_to (s := u) (t := u) (HY.out.ten.later (Below.refl _ _).drew) (HP.out.ten.later (Below.refl _ _).drew) rfl).mono ?_; rintro e w' ⟨rfl, hbq⟩; have HQ0 : Hid (Below w.heap.size w w') := Below.after (Below.refl _ _).drew hbq; have a_0 := cell_later HQ0.out l0; have a_1 := cell_later HQ0.out l1; have a_2 := cell_later HQ0.out l2; have a_3 := cell_later HQ0.out l3; have a_4 := cell_later HQ0.out l4; have a_5 := cell_later HQ0.out l5; have a_6 := cell_later HQ0.out l8; have a_7 := cell_later HQ0.out l6; have a_8 := cell_later HQ0.out l7; clear hbq)
      | (go_at_call_of 12 (Value.agg #[b0, b1]); refine (eqt_to (s := t) (t := t) (HT.out.ten.later HQ0.out) (HK.out.later HQ0.out) rfl).mono ?_; rintro e w' ⟨rfl, hbq⟩; have HQ1 : Hid (Below w.heap.size w w') := Below.after HQ0.out hbq; have b_0 := cell_later HQ1.out l0; have b_1 := cell_later HQ1.out l1; have b_2 := cell_later HQ1.out l2; have b_3 := cell_later HQ1.out l3; have b_4 := cell_later HQ1.out l4; have b_5 := cell_later HQ1.out l5; have b_6 := cell_later HQ1.out l8; have b_7 := cell_later HQ1.out l6; have b_8 := cell_later HQ1.out l7; clear hbq; clear a_0 a_1 a_2 a_3 a_4 a_5 a_6 a_7 a_8))
  exact HQ.out _ _ ⟨rfl, rfl, rfl, rfl, rfl, rfl, rfl, rfl, rfl, rfl, rfl, rfl⟩ rfl HQ1.out
structure FrO1 (B i Ba : Nat) (a : Act) : Prop where
  d : a.defers = []
  s : a.tmps.size = 240
  f1 : a.tmps.getD 1 undef = .pointer (some ⟨B, 0, none⟩)
  f3 : a.tmps.getD 3 undef = .int .i64 i
  f4 : a.tmps.getD 4 undef = .pointer (some ⟨Ba, 0, none⟩)
theorem oreg56_id : (((Try.f3.body.map regs).getD []).getD 55 (0, .skip)).1 = 56 := by decide +kernel
set_option maxRecDepth 1000000 in
set_option maxHeartbeats 8000000 in
theorem oreg56 {B i Ba ob oo lO cO : Nat} {b0 b1 xk yk : Value} {t : Ten} {w : World} {Q : Exit → Act → World → Prop}
    (hk : i < lO) (hcO : lO ≤ cO) (hlO : lO ≤ 1000) (HT : Hid (TB w Ba b0 b1 t)) (HK : Hid (Tens w xk yk t)) (l8 : w.cell? ⟨B, 0, none⟩ = some (.slice (some ⟨ob, oo, none⟩) lO cO)) (l6 : w.cell? ⟨ob, oo + i * 2, none⟩ = some xk) (l7 : w.cell? ⟨ob, oo + i * 2 + 1, none⟩ = some yk)
    (HQ : Hid (∀ a' w', FrO1 B i Ba a' → a'.tmps.getD 238 undef = .bool false → Below w.heap.size w w' → Q .normal a' w'))
    (a : Act) (ha : FrO1 B i Ba a) :
    Code.wp Try.prog ((((Try.f3.body.map regs).getD []).getD 55 (0, .skip)).2) Q a w := by
  obtain ⟨G, hg, e⟩ := act240 a ha.d ha.s
  obtain ⟨hz1, hz2, g1, g3, g4⟩ := ha
  rw [hg] at g1 g3 g4 
  clear hz1 hz2
  subst e
  clear hg
  rw [g1, g3, g4]
  clear g1 g3 g4
  have l4 := HT.out.box.c0
  have l5 := HT.out.box.c1
  have z0 : (0 : Int) ≤ (i : Int) := by omega
  have z1 : (i : Int) < lO := by omega
  conv => arg 2; whnf
  go_region_held3 (fun w' => w'.cell? ⟨Ba, 0, none⟩ = some (b0) ∧ w'.cell? ⟨Ba, 1, none⟩ = some (b1) ∧ w'.cell? ⟨B, 0, none⟩ = some (.slice (some ⟨ob, oo, none⟩) lO cO) ∧ w'.cell? ⟨ob, oo + i * 2, none⟩ = some (xk) ∧ w'.cell? ⟨ob, oo + i * 2 + 1, none⟩ = some (yk)) (refine ⟨?_, ?_, ?_, ?_, ?_⟩ <;> assumption)
    (first
      | (go_at_call 11; refine (num_any _ _).mono ?_; rintro e w' ⟨rfl, rfl⟩)
      | (go_at_call_of 12 (Value.agg #[b0, b1]); refine (eqt_to (s := t) (t := t) (HT.out.ten.later (Below.refl _ _).drew) (HK.out.later (Below.refl _ _).drew) rfl).mono ?_; rintro e w' ⟨rfl, hbq⟩; have HQ0 : Hid (Below w.heap.size w w') := Below.after (Below.refl _ _).drew hbq; have a_0 := cell_later HQ0.out l4; have a_1 := cell_later HQ0.out l5; have a_2 := cell_later HQ0.out l8; have a_3 := cell_later HQ0.out l6; have a_4 := cell_later HQ0.out l7; clear hbq))
  exact HQ.out _ _ ⟨rfl, rfl, rfl, rfl, rfl⟩ rfl HQ0.out
end Go.Proofs.Ytnphfepkjhlalaa
