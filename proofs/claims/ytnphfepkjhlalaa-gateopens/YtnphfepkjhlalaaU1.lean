/- GateDots: its inmost loops. -/
import Derived.Test.YtnphfepkjhlalaaU0
namespace Go.Proofs.Ytnphfepkjhlalaa
set_option linter.unusedVariables false
set_option linter.unusedSimpArgs false
open Go.RowKit

set_option maxRecDepth 100000 in
theorem lit249 (g : Nat → Value) : (g 0 :: g 1 :: g 2 :: g 3 :: g 4 :: g 5 :: g 6 :: g 7 :: g 8 :: g 9 :: g 10 :: g 11 :: g 12 :: g 13 :: g 14 :: g 15 :: g 16 :: g 17 :: g 18 :: g 19 :: g 20 :: g 21 :: g 22 :: g 23 :: g 24 :: g 25 :: g 26 :: g 27 :: g 28 :: g 29 :: g 30 :: g 31 :: g 32 :: g 33 :: g 34 :: g 35 :: g 36 :: g 37 :: g 38 :: g 39 :: g 40 :: g 41 :: g 42 :: g 43 :: g 44 :: g 45 :: g 46 :: g 47 :: g 48 :: g 49 :: g 50 :: g 51 :: g 52 :: g 53 :: g 54 :: g 55 :: g 56 :: g 57 :: g 58 :: g 59 :: g 60 :: g 61 :: g 62 :: g 63 :: g 64 :: g 65 :: g 66 :: g 67 :: g 68 :: g 69 :: g 70 :: g 71 :: g 72 :: g 73 :: g 74 :: g 75 :: g 76 :: g 77 :: g 78 :: g 79 :: g 80 :: g 81 :: g 82 :: g 83 :: g 84 :: g 85 :: g 86 :: g 87 :: g 88 :: g 89 :: g 90 :: g 91 :: g 92 :: g 93 :: g 94 :: g 95 :: g 96 :: g 97 :: g 98 :: g 99 :: g 100 :: g 101 :: g 102 :: g 103 :: g 104 :: g 105 :: g 106 :: g 107 :: g 108 :: g 109 :: g 110 :: g 111 :: g 112 :: g 113 :: g 114 :: g 115 :: g 116 :: g 117 :: g 118 :: g 119 :: g 120 :: g 121 :: g 122 :: g 123 :: g 124 :: g 125 :: g 126 :: g 127 :: g 128 :: g 129 :: g 130 :: g 131 :: g 132 :: g 133 :: g 134 :: g 135 :: g 136 :: g 137 :: g 138 :: g 139 :: g 140 :: g 141 :: g 142 :: g 143 :: g 144 :: g 145 :: g 146 :: g 147 :: g 148 :: g 149 :: g 150 :: g 151 :: g 152 :: g 153 :: g 154 :: g 155 :: g 156 :: g 157 :: g 158 :: g 159 :: g 160 :: g 161 :: g 162 :: g 163 :: g 164 :: g 165 :: g 166 :: g 167 :: g 168 :: g 169 :: g 170 :: g 171 :: g 172 :: g 173 :: g 174 :: g 175 :: g 176 :: g 177 :: g 178 :: g 179 :: g 180 :: g 181 :: g 182 :: g 183 :: g 184 :: g 185 :: g 186 :: g 187 :: g 188 :: g 189 :: g 190 :: g 191 :: g 192 :: g 193 :: g 194 :: g 195 :: g 196 :: g 197 :: g 198 :: g 199 :: g 200 :: g 201 :: g 202 :: g 203 :: g 204 :: g 205 :: g 206 :: g 207 :: g 208 :: g 209 :: g 210 :: g 211 :: g 212 :: g 213 :: g 214 :: g 215 :: g 216 :: g 217 :: g 218 :: g 219 :: g 220 :: g 221 :: g 222 :: g 223 :: g 224 :: g 225 :: g 226 :: g 227 :: g 228 :: g 229 :: g 230 :: g 231 :: g 232 :: g 233 :: g 234 :: g 235 :: g 236 :: g 237 :: g 238 :: g 239 :: g 240 :: g 241 :: g 242 :: g 243 :: g 244 :: g 245 :: g 246 :: g 247 :: g 248 :: []).toArray = ((List.range 249).map g).toArray := by rfl
set_option maxRecDepth 100000 in
theorem act249 (a : Act) (hd : a.defers = []) (hs : a.tmps.size = 249) : ∃ g : Nat → Value, (∀ i, a.tmps.getD i undef = g i) ∧ a = { tmps := (g 0 :: g 1 :: g 2 :: g 3 :: g 4 :: g 5 :: g 6 :: g 7 :: g 8 :: g 9 :: g 10 :: g 11 :: g 12 :: g 13 :: g 14 :: g 15 :: g 16 :: g 17 :: g 18 :: g 19 :: g 20 :: g 21 :: g 22 :: g 23 :: g 24 :: g 25 :: g 26 :: g 27 :: g 28 :: g 29 :: g 30 :: g 31 :: g 32 :: g 33 :: g 34 :: g 35 :: g 36 :: g 37 :: g 38 :: g 39 :: g 40 :: g 41 :: g 42 :: g 43 :: g 44 :: g 45 :: g 46 :: g 47 :: g 48 :: g 49 :: g 50 :: g 51 :: g 52 :: g 53 :: g 54 :: g 55 :: g 56 :: g 57 :: g 58 :: g 59 :: g 60 :: g 61 :: g 62 :: g 63 :: g 64 :: g 65 :: g 66 :: g 67 :: g 68 :: g 69 :: g 70 :: g 71 :: g 72 :: g 73 :: g 74 :: g 75 :: g 76 :: g 77 :: g 78 :: g 79 :: g 80 :: g 81 :: g 82 :: g 83 :: g 84 :: g 85 :: g 86 :: g 87 :: g 88 :: g 89 :: g 90 :: g 91 :: g 92 :: g 93 :: g 94 :: g 95 :: g 96 :: g 97 :: g 98 :: g 99 :: g 100 :: g 101 :: g 102 :: g 103 :: g 104 :: g 105 :: g 106 :: g 107 :: g 108 :: g 109 :: g 110 :: g 111 :: g 112 :: g 113 :: g 114 :: g 115 :: g 116 :: g 117 :: g 118 :: g 119 :: g 120 :: g 121 :: g 122 :: g 123 :: g 124 :: g 125 :: g 126 :: g 127 :: g 128 :: g 129 :: g 130 :: g 131 :: g 132 :: g 133 :: g 134 :: g 135 :: g 136 :: g 137 :: g 138 :: g 139 :: g 140 :: g 141 :: g 142 :: g 143 :: g 144 :: g 145 :: g 146 :: g 147 :: g 148 :: g 149 :: g 150 :: g 151 :: g 152 :: g 153 :: g 154 :: g 155 :: g 156 :: g 157 :: g 158 :: g 159 :: g 160 :: g 161 :: g 162 :: g 163 :: g 164 :: g 165 :: g 166 :: g 167 :: g 168 :: g 169 :: g 170 :: g 171 :: g 172 :: g 173 :: g 174 :: g 175 :: g 176 :: g 177 :: g 178 :: g 179 :: g 180 :: g 181 :: g 182 :: g 183 :: g 184 :: g 185 :: g 186 :: g 187 :: g 188 :: g 189 :: g 190 :: g 191 :: g 192 :: g 193 :: g 194 :: g 195 :: g 196 :: g 197 :: g 198 :: g 199 :: g 200 :: g 201 :: g 202 :: g 203 :: g 204 :: g 205 :: g 206 :: g 207 :: g 208 :: g 209 :: g 210 :: g 211 :: g 212 :: g 213 :: g 214 :: g 215 :: g 216 :: g 217 :: g 218 :: g 219 :: g 220 :: g 221 :: g 222 :: g 223 :: g 224 :: g 225 :: g 226 :: g 227 :: g 228 :: g 229 :: g 230 :: g 231 :: g 232 :: g 233 :: g 234 :: g 235 :: g 236 :: g 237 :: g 238 :: g 239 :: g 240 :: g 241 :: g 242 :: g 243 :: g 244 :: g 245 :: g 246 :: g 247 :: g 248 :: []).toArray, defers := [] } := by
  refine ⟨fun i => a.tmps.getD i undef, fun _ => rfl, ?_⟩
  have h := lit249 (fun i => a.tmps.getD i undef)
  have e : a.tmps = ((List.range 249).map (fun i => a.tmps.getD i undef)).toArray := by
    apply Array.ext
    · simp [hs]
    · intro i h1 h2
      simp [h1]
  exact (show a = Act.mk a.tmps a.defers from rfl).trans (by rw [hd]; exact congrArg (fun t => Act.mk t []) (e.trans h.symm))
structure FrU2 (B i Ba Bx k : Nat) (a : Act) : Prop where
  d : a.defers = []
  s : a.tmps.size = 249
  f1 : a.tmps.getD 1 undef = .pointer (some ⟨B, 0, none⟩)
  f3 : a.tmps.getD 3 undef = .int .i64 i
  f4 : a.tmps.getD 4 undef = .pointer (some ⟨Ba, 0, none⟩)
  f5 : a.tmps.getD 5 undef = .pointer (some ⟨Bx, 0, none⟩)
  f11 : a.tmps.getD 11 undef = .int .i64 k
set_option maxRecDepth 1000000 in
set_option maxHeartbeats 8000000 in
theorem uloop2 {B i Ba Bx n ab ao ac xb xo xc : Nat} {al xl : List Int} {W : World} {Q : Exit → Act → World → Prop}
    (hn64 : n ≤ 64) (hac : n ≤ ac) (hxc : n ≤ xc)
    (ca : W.cell? ⟨Ba, 1, none⟩ = some (.slice (some ⟨ab, ao, none⟩) n ac)) (cx : W.cell? ⟨Bx, 1, none⟩ = some (.slice (some ⟨xb, xo, none⟩) n xc))
    (HA : Hid (∀ k, k < n → W.cell? ⟨ab, ao + k, none⟩ = some (.int .i64 (al.getD k 0)))) (HX : Hid (∀ k, k < n → W.cell? ⟨xb, xo + k, none⟩ = some (.int .i64 (xl.getD k 0))))
    (HV : Hid (∀ k, k < n → xl.getD k 0 = opG (al.getD k 0) (al.getD k 0)))
    (hexit : ∀ a' w' k, FrU2 B i Ba Bx k a' → Below W.heap.size W w' → Q (.exit 2) a' w')
    (a : Act) (ha : FrU2 B i Ba Bx 0 a) :
    Code.wp Try.prog (.loop (((Try.f4.body.map loopsIn).getD []).getD 1 .skip)) Q a W := by
  refine wp_loop (fun a' w' => (∃ k : Nat, k ≤ n ∧ FrU2 B i Ba Bx k a') ∧ Below W.heap.size W w') (fun a' _ => n - slotNat a' 11) ⟨⟨0, by omega, ha⟩, Below.refl _ _⟩ ?_
  clear ha
  clear a
  intro a w ⟨⟨k, hk, hf⟩, hb⟩
  obtain ⟨G, hg, e⟩ := act249 a hf.d hf.s
  obtain ⟨hz1, hz2, g1, g3, g4, g5, g11⟩ := hf
  rw [hg] at g1 g3 g4 g5 g11 
  clear hz1 hz2
  subst e
  clear hg
  rw [g1, g3, g4, g5, g11]
  clear g1 g3 g4 g5 g11
  have HEX : Hid (∀ a' w' k, FrU2 B i Ba Bx k a' → Below W.heap.size W w' → Q (.exit 2) a' w') := hexit
  have HB : Hid (Below W.heap.size W w) := hb
  have c1 := cell_later hb ca
  have c2 := cell_later hb cx
  clear hexit hb ca cx
  conv => arg 2; whnf
  by_cases hlt : k < n
  · have d1 := cell_later HB.out (HA.out k hlt)
    have d2 := cell_later HB.out (HX.out k hlt)
    rw [HV.out k hlt] at d2
    obtain ⟨v, hv⟩ : ∃ v, al.getD k 0 = v := ⟨_, rfl⟩
    rw [hv] at d1 d2
    clear hv
    have z0 : (0 : Int) ≤ (k : Int) := by omega
    have z1 : (k : Int) < n := by omega
    by_cases hp : 0 < v
    · rw [show opG v v = v from if_pos hp] at d2
      have g1 : decide (v < 0) = false := by simp; omega
      have g2 : decide (v > 0) = true := by simp; omega
      have g3 : decide (0 < v) = true := by simp; omega
      go_wp2_with fail
      go_quiet (fail)
      go_wp2
      refine ⟨⟨⟨k + 1, by omega, rfl, rfl, rfl, rfl, rfl, rfl, ?_⟩, Below.drewN HB.out _⟩, ?_⟩
      · show Value.int .i64 _ = _
        go_num
      · show n - (intOf (Value.int .i64 _)).toNat < n - (intOf (Value.int .i64 _)).toNat
        simp [intOf]
        omega
    · rw [show opG v v = 0 from if_neg hp] at d2
      have g2 : decide (v > 0) = false := by simp; omega
      have g3 : decide (0 < v) = false := by simp; omega
      go_wp2_with fail
      go_quiet (fail)
      go_wp2
      refine ⟨⟨⟨k + 1, by omega, rfl, rfl, rfl, rfl, rfl, rfl, ?_⟩, Below.drewN HB.out _⟩, ?_⟩
      · show Value.int .i64 _ = _
        go_num
      · show n - (intOf (Value.int .i64 _)).toNat < n - (intOf (Value.int .i64 _)).toNat
        simp [intOf]
        omega
  · go_wp2
    exact HEX.out _ _ k ⟨rfl, rfl, rfl, rfl, rfl, rfl, rfl⟩ HB.out
end Go.Proofs.Ytnphfepkjhlalaa
