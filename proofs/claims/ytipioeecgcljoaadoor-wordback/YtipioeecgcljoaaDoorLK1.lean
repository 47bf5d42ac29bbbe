/- The law on words back: frames, regions that draw. -/
import Derived.Test.YtipioeecgcljoaaDoorXC
import Derived.Test.YtipioeecgcljoaaDoorLB
namespace Go.Proofs.YtipioeecgcljoaaDoor
set_option linter.unusedVariables false
set_option linter.unusedSimpArgs false
set_option maxRecDepth 100000
open Go.RowKit

def loopsIn : Code → List Code
  | .loop c => c :: loopsIn c
  | .seq a b => loopsIn a ++ loopsIn b
  | .block _ c => loopsIn c
  | .scope c => loopsIn c
  | .cond _ a b => loopsIn a ++ loopsIn b
  | _ => []
def slotNat (a : Act) (i : Nat) : Nat := (intOf (a.tmps.getD i undef)).toNat
def regs : Code → List (Nat × Code)
  | .loop c => regs c
  | .seq a b => regs a ++ regs b
  | .block _ c => regs c
  | .scope c => regs c
  | .cond _ a b => regs a ++ regs b
  | .region i o b => [(i, .region i o b)]
  | _ => []
theorem itoa_ne (n : Int) (h1 : -1073741824 ≤ n) (h2 : n ≤ 1073741824) : Lib.itoa n ≠ [] := by
  intro e
  have h := congrArg List.length e
  by_cases h0 : n < 0
  · rw [Lib.itoa, if_pos h0] at h; simp at h
  · rw [Lib.itoa, if_neg h0] at h
    have := (dec_len n.toNat (by omega)).1
    simp at h
    rw [h] at this
    simp at this
theorem not_zero_ahead (r : List UInt8) (h : r ≠ []) : ¬ numP (48 :: r) := by
  intro hp
  refine hp.2.2.1 ⟨?_, ?_⟩
  · rfl
  · intro e
    simp at e
    exact h e
theorem not_plus_ahead (r : List UInt8) : ¬ numP (43 :: r) := by
  intro hp
  have := hp.2.2.2.1 43 (by show (43 : UInt8) ∈ 43 :: r; simp)
  have h2 : (43 : UInt8).toNat = 43 := rfl
  omega
theorem number_dig (n : Int) (t : ByteArray) (w : World) (h1 : -1073741824 ≤ n) (h2 : n ≤ 1073741824) (ht : t.data.toList = Lib.itoa n) :
    Calls Tryd.prog 8 #[.string t] w fun e w' => e = .returned (.tuple #[.int .i64 n, .int .i64 0]) ∧ Below w.heap.size w w' := by
  have h := number_to t w
  obtain ⟨e1, e2⟩ := itoa_num n h1 h2
  rw [ht, e1, e2] at h
  exact h
theorem number_bad (s : ByteArray) (w : World) (h : ¬ numP s.data.toList) :
    Calls Tryd.prog 8 #[.string s] w fun e w' => e = .returned (.tuple #[.int .i64 0, .int .i64 1]) ∧ Below w.heap.size w w' := by
  have h1 := number_to s w
  obtain ⟨e1, e2⟩ := num_not h
  rw [e1, e2] at h1
  exact h1
/-- What one gap is, by its place. -/
def gapAt (k : Nat) : ByteArray := if k % 3 = 0 then ⟨#[32]⟩ else if k % 3 = 1 then ⟨#[32, 32]⟩ else ⟨#[9]⟩
theorem gapAt_ok (k : Nat) : GapT (gapAt k) ∧ (gapAt k).size ≤ 2 := by
  rw [gapAt]
  split
  · exact ⟨gap1, by decide⟩
  · split
    · exact ⟨gap2, by decide⟩
    · exact ⟨gap3, by decide⟩
theorem cells_t {w : World} {la : Option Addr} {lc : Nat} {l : List Tok} {n : Nat} (h : Holds w (.slice la n lc) l.length (cellsT l)) (k : Nat) (hk : k < l.length) : ∃ lb lo, la = some ⟨lb, lo, none⟩ ∧ w.cell? ⟨lb, lo + k * 2, none⟩ = some (.string l[k].1) ∧ w.cell? ⟨lb, lo + k * 2 + 1, none⟩ = some (.int .i64 l[k].2) := by
  obtain ⟨a, c, e, hc⟩ := h
  simp only [Value.slice.injEq] at e
  obtain ⟨rfl, rfl, rfl⟩ := e
  obtain ⟨b, off, rfl, h0⟩ := hc _ _ (cellsT_0 l k hk)
  obtain ⟨b2, off2, e2, h1⟩ := hc _ _ (cellsT_1 l k hk)
  simp only [Option.some.injEq, Addr.mk.injEq, and_true] at e2
  obtain ⟨rfl, rfl⟩ := e2
  exact ⟨b, off, rfl, h0, h1⟩
set_option maxRecDepth 100000 in
theorem lit232 (g : Nat → Value) : (g 0 :: g 1 :: g 2 :: g 3 :: g 4 :: g 5 :: g 6 :: g 7 :: g 8 :: g 9 :: g 10 :: g 11 :: g 12 :: g 13 :: g 14 :: g 15 :: g 16 :: g 17 :: g 18 :: g 19 :: g 20 :: g 21 :: g 22 :: g 23 :: g 24 :: g 25 :: g 26 :: g 27 :: g 28 :: g 29 :: g 30 :: g 31 :: g 32 :: g 33 :: g 34 :: g 35 :: g 36 :: g 37 :: g 38 :: g 39 :: g 40 :: g 41 :: g 42 :: g 43 :: g 44 :: g 45 :: g 46 :: g 47 :: g 48 :: g 49 :: g 50 :: g 51 :: g 52 :: g 53 :: g 54 :: g 55 :: g 56 :: g 57 :: g 58 :: g 59 :: g 60 :: g 61 :: g 62 :: g 63 :: g 64 :: g 65 :: g 66 :: g 67 :: g 68 :: g 69 :: g 70 :: g 71 :: g 72 :: g 73 :: g 74 :: g 75 :: g 76 :: g 77 :: g 78 :: g 79 :: g 80 :: g 81 :: g 82 :: g 83 :: g 84 :: g 85 :: g 86 :: g 87 :: g 88 :: g 89 :: g 90 :: g 91 :: g 92 :: g 93 :: g 94 :: g 95 :: g 96 :: g 97 :: g 98 :: g 99 :: g 100 :: g 101 :: g 102 :: g 103 :: g 104 :: g 105 :: g 106 :: g 107 :: g 108 :: g 109 :: g 110 :: g 111 :: g 112 :: g 113 :: g 114 :: g 115 :: g 116 :: g 117 :: g 118 :: g 119 :: g 120 :: g 121 :: g 122 :: g 123 :: g 124 :: g 125 :: g 126 :: g 127 :: g 128 :: g 129 :: g 130 :: g 131 :: g 132 :: g 133 :: g 134 :: g 135 :: g 136 :: g 137 :: g 138 :: g 139 :: g 140 :: g 141 :: g 142 :: g 143 :: g 144 :: g 145 :: g 146 :: g 147 :: g 148 :: g 149 :: g 150 :: g 151 :: g 152 :: g 153 :: g 154 :: g 155 :: g 156 :: g 157 :: g 158 :: g 159 :: g 160 :: g 161 :: g 162 :: g 163 :: g 164 :: g 165 :: g 166 :: g 167 :: g 168 :: g 169 :: g 170 :: g 171 :: g 172 :: g 173 :: g 174 :: g 175 :: g 176 :: g 177 :: g 178 :: g 179 :: g 180 :: g 181 :: g 182 :: g 183 :: g 184 :: g 185 :: g 186 :: g 187 :: g 188 :: g 189 :: g 190 :: g 191 :: g 192 :: g 193 :: g 194 :: g 195 :: g 196 :: g 197 :: g 198 :: g 199 :: g 200 :: g 201 :: g 202 :: g 203 :: g 204 :: g 205 :: g 206 :: g 207 :: g 208 :: g 209 :: g 210 :: g 211 :: g 212 :: g 213 :: g 214 :: g 215 :: g 216 :: g 217 :: g 218 :: g 219 :: g 220 :: g 221 :: g 222 :: g 223 :: g 224 :: g 225 :: g 226 :: g 227 :: g 228 :: g 229 :: g 230 :: g 231 :: []).toArray = ((List.range 232).map g).toArray := by rfl
set_option maxRecDepth 100000 in
theorem act232 (a : Act) (hd : a.defers = []) (hs : a.tmps.size = 232) : ∃ g : Nat → Value, (∀ i, a.tmps.getD i undef = g i) ∧ a = { tmps := (g 0 :: g 1 :: g 2 :: g 3 :: g 4 :: g 5 :: g 6 :: g 7 :: g 8 :: g 9 :: g 10 :: g 11 :: g 12 :: g 13 :: g 14 :: g 15 :: g 16 :: g 17 :: g 18 :: g 19 :: g 20 :: g 21 :: g 22 :: g 23 :: g 24 :: g 25 :: g 26 :: g 27 :: g 28 :: g 29 :: g 30 :: g 31 :: g 32 :: g 33 :: g 34 :: g 35 :: g 36 :: g 37 :: g 38 :: g 39 :: g 40 :: g 41 :: g 42 :: g 43 :: g 44 :: g 45 :: g 46 :: g 47 :: g 48 :: g 49 :: g 50 :: g 51 :: g 52 :: g 53 :: g 54 :: g 55 :: g 56 :: g 57 :: g 58 :: g 59 :: g 60 :: g 61 :: g 62 :: g 63 :: g 64 :: g 65 :: g 66 :: g 67 :: g 68 :: g 69 :: g 70 :: g 71 :: g 72 :: g 73 :: g 74 :: g 75 :: g 76 :: g 77 :: g 78 :: g 79 :: g 80 :: g 81 :: g 82 :: g 83 :: g 84 :: g 85 :: g 86 :: g 87 :: g 88 :: g 89 :: g 90 :: g 91 :: g 92 :: g 93 :: g 94 :: g 95 :: g 96 :: g 97 :: g 98 :: g 99 :: g 100 :: g 101 :: g 102 :: g 103 :: g 104 :: g 105 :: g 106 :: g 107 :: g 108 :: g 109 :: g 110 :: g 111 :: g 112 :: g 113 :: g 114 :: g 115 :: g 116 :: g 117 :: g 118 :: g 119 :: g 120 :: g 121 :: g 122 :: g 123 :: g 124 :: g 125 :: g 126 :: g 127 :: g 128 :: g 129 :: g 130 :: g 131 :: g 132 :: g 133 :: g 134 :: g 135 :: g 136 :: g 137 :: g 138 :: g 139 :: g 140 :: g 141 :: g 142 :: g 143 :: g 144 :: g 145 :: g 146 :: g 147 :: g 148 :: g 149 :: g 150 :: g 151 :: g 152 :: g 153 :: g 154 :: g 155 :: g 156 :: g 157 :: g 158 :: g 159 :: g 160 :: g 161 :: g 162 :: g 163 :: g 164 :: g 165 :: g 166 :: g 167 :: g 168 :: g 169 :: g 170 :: g 171 :: g 172 :: g 173 :: g 174 :: g 175 :: g 176 :: g 177 :: g 178 :: g 179 :: g 180 :: g 181 :: g 182 :: g 183 :: g 184 :: g 185 :: g 186 :: g 187 :: g 188 :: g 189 :: g 190 :: g 191 :: g 192 :: g 193 :: g 194 :: g 195 :: g 196 :: g 197 :: g 198 :: g 199 :: g 200 :: g 201 :: g 202 :: g 203 :: g 204 :: g 205 :: g 206 :: g 207 :: g 208 :: g 209 :: g 210 :: g 211 :: g 212 :: g 213 :: g 214 :: g 215 :: g 216 :: g 217 :: g 218 :: g 219 :: g 220 :: g 221 :: g 222 :: g 223 :: g 224 :: g 225 :: g 226 :: g 227 :: g 228 :: g 229 :: g 230 :: g 231 :: []).toArray, defers := [] } := by
  refine ⟨fun i => a.tmps.getD i undef, fun _ => rfl, ?_⟩
  have h := lit232 (fun i => a.tmps.getD i undef)
  have e : a.tmps = ((List.range 232).map (fun i => a.tmps.getD i undef)).toArray := by
    apply Array.ext
    · simp [hs]
    · intro i h1 h2
      simp [h1]
  exact (show a = Act.mk a.tmps a.defers from rfl).trans (by rw [hd]; exact congrArg (fun t => Act.mk t []) (e.trans h.symm))
structure FrB1 (B i : Nat) (a : Act) : Prop where
  d : a.defers = []
  s : a.tmps.size = 232
  f1 : a.tmps.getD 1 undef = .pointer (some ⟨B, 0, none⟩)
  f3 : a.tmps.getD 3 undef = .int .i64 i
structure FrB2 (B i : Nat) (a : Act) : Prop where
  d : a.defers = []
  s : a.tmps.size = 232
  f1 : a.tmps.getD 1 undef = .pointer (some ⟨B, 0, none⟩)
  f12 : a.tmps.getD 12 undef = .int .i64 i
structure FrB3a (B i ln lc : Nat) (la : Option Addr) (a : Act) : Prop where
  d : a.defers = []
  s : a.tmps.size = 232
  f1 : a.tmps.getD 1 undef = .pointer (some ⟨B, 0, none⟩)
  f12 : a.tmps.getD 12 undef = .int .i64 i
  f13 : a.tmps.getD 13 undef = .slice la ln lc
structure FrB3 (B i ln lc : Nat) (la : Option Addr) (sv : ByteArray) (k : Nat) (a : Act) : Prop where
  d : a.defers = []
  s : a.tmps.size = 232
  f1 : a.tmps.getD 1 undef = .pointer (some ⟨B, 0, none⟩)
  f12 : a.tmps.getD 12 undef = .int .i64 i
  f13 : a.tmps.getD 13 undef = .slice la ln lc
  f16 : a.tmps.getD 16 undef = .string sv
  f17 : a.tmps.getD 17 undef = .int .i64 k
structure FrB4a (B i ln lc mc : Nat) (la ma : Option Addr) (a : Act) : Prop where
  d : a.defers = []
  s : a.tmps.size = 232
  f1 : a.tmps.getD 1 undef = .pointer (some ⟨B, 0, none⟩)
  f12 : a.tmps.getD 12 undef = .int .i64 i
  f13 : a.tmps.getD 13 undef = .slice la ln lc
  f18 : a.tmps.getD 18 undef = .slice ma ln mc
structure FrB4 (B i ln lc mc : Nat) (la ma : Option Addr) (k : Nat) (a : Act) : Prop where
  d : a.defers = []
  s : a.tmps.size = 232
  f1 : a.tmps.getD 1 undef = .pointer (some ⟨B, 0, none⟩)
  f12 : a.tmps.getD 12 undef = .int .i64 i
  f13 : a.tmps.getD 13 undef = .slice la ln lc
  f18 : a.tmps.getD 18 undef = .slice ma ln mc
  f21 : a.tmps.getD 21 undef = .int .i64 k
theorem breg22_id : ((((Tryd.f5.body.map regs).getD []).getD 20 (0, .skip)).1) = 22 := by decide +kernel
theorem breg29_id : ((((Tryd.f5.body.map regs).getD []).getD 27 (0, .skip)).1) = 29 := by decide +kernel
end Go.Proofs.YtipioeecgcljoaaDoor
