/- The law on numbers: the walk. -/
import Derived.Test.YtipioeecgcljoaaDoorX9
import Derived.Test.YtipioeecgcljoaaDoorW11
namespace Go.Proofs.YtipioeecgcljoaaDoor
set_option linter.unusedVariables false
set_option linter.unusedSimpArgs false
set_option maxRecDepth 100000
open Go.RowKit

theorem itoa_size (n : Int) (h1 : -1073741824 ≤ n) (h2 : n ≤ 1073741824) : (⟨(Lib.itoa n).toArray⟩ : ByteArray).size ≤ 11 := by
  show (Lib.itoa n).toArray.size ≤ 11
  rw [List.size_toArray]
  by_cases h0 : n < 0
  · rw [Lib.itoa, if_pos h0, List.length_cons]
    have := (dec_len n.natAbs (by omega)).2
    omega
  · rw [Lib.itoa, if_neg h0]
    have := (dec_len n.toNat (by omega)).2
    omega
theorem digits_str (n : Int) (w : World) (h0 : -1073741824 ≤ n) (h1 : n ≤ 1073741824) (hT : PowT w) :
    Calls Tryd.prog 19 #[.int .i64 n] w fun e w' => (∃ t : ByteArray, e = .returned (.tuple #[.string t, .int .i64 0]) ∧ t.size ≤ 11 ∧ t.data.toList = Lib.itoa n) ∧ Below w.heap.size w w' := by
  refine (digits_ok n w (by omega) (by omega) hT).mono ?_
  rintro e w2 ⟨rfl, hb⟩
  exact ⟨⟨_, rfl, itoa_size n h0 h1, rfl⟩, hb⟩
/-- A growing row of short texts. -/
structure Txts (B : Nat) (w : World) (v : Value) (T : List ByteArray) (m : Nat) : Prop where
  row : w.ownsRow B 9 1 v T.length (cellsS T)
  len : T.length ≤ m
  each : ∀ x ∈ T, x.size ≤ 40
theorem Txts.later {B : Nat} {w w' : World} {v : Value} {T : List ByteArray} {m : Nat} (h : Txts B w v T m) (hb : Below w.heap.size w w') : Txts B w' v T m := ⟨ownsR_later h.row hb, h.len, h.each⟩
def litsN : List ByteArray := [⟨#[]⟩, ⟨#[45]⟩, ⟨#[45, 45, 49]⟩, ⟨#[45, 48]⟩, ⟨#[48, 48]⟩, ⟨#[48, 49]⟩, ⟨#[49, 45]⟩, ⟨#[49, 48, 55, 51, 55, 52, 49, 56, 50, 52]⟩, ⟨#[49, 48, 55, 51, 55, 52, 49, 56, 50, 53]⟩, ⟨#[45, 49, 48, 55, 51, 55, 52, 49, 56, 50, 52]⟩, ⟨#[45, 49, 48, 55, 51, 55, 52, 49, 56, 50, 53]⟩, ⟨#[57, 57, 57, 57, 57, 57, 57, 57, 57, 57, 57, 57, 57, 57, 57, 57, 57, 57, 57, 57, 57, 57, 57]⟩, ⟨#[49, 32]⟩, ⟨#[32, 49]⟩, ⟨#[43, 49]⟩, ⟨#[49, 97]⟩, ⟨#[217, 163]⟩]
theorem litsN_each : ∀ x ∈ litsN, x.size ≤ 40 := by decide
set_option maxHeartbeats 8000000 in
theorem numbers_any {f0 f1 : Value} {N : List Int} {w : World} (h1 : Nums w f1 N) (hT : PowT w) :
    Calls Tryd.prog 6 #[.agg #[f0, f1]] w fun e w' => e = .returned (.bool true) ∧ Below w.heap.size w w' := by
  obtain ⟨⟨a1, c1, rfl, hn⟩, hnl, hne⟩ := h1
  clear hn hne
  obtain ⟨iS, hj, hj0, hj1, hj2⟩ := infoS
  have HJ : Hid (Tryd.prog.info? 9 = some iS) := hj
  have HJ0 : Hid (iS.zero = some (.string ⟨#[]⟩)) := hj0
  have HJ1 : Hid (iS.size = 1) := hj1
  have HJ2 : Hid (iS.bytes = 16) := hj2
  clear hj hj0 hj1 hj2
  obtain ⟨U, hU⟩ : ∃ U, U = w.alloc (.cells #[f0, .slice a1 N.length c1] 25) := ⟨_, rfl⟩
  have hbU : Below w.heap.size w U := by rw [hU]; exact Below.push (Below.refl _ _) _
  have HBU : Hid (Below w.heap.size w U) := hbU
  have HTU : Hid (PowT U) := hT.later hbU
  have HD1 : Hid (U.cell? ⟨w.heap.size, 1, none⟩ = some (.slice a1 N.length c1)) := by show _ = _; rw [hU]; simp
  clear hbU hT
  go_enter Tryd.func6, Tryd.ntmps6
  go_wp2
  rw [← hU]
  have HSU : Hid (w.heap.size + 1 = U.heap.size) := by show _ = _; rw [hU]; simp
  rw [HSU.out]
  clear hU
  go_loopw [3, 4] (fun v n w' => ∃ (j : Nat) (T : List ByteArray), j ≤ 241 ∧ n = .int .i64 ((j : Int) - 120) ∧ Hid (Txts U.heap.size w' v T (17 + 3 * j)) ∧ Hid (Below U.heap.size U w')) (fun _ n _ => (121 - intOf n).toNat)
  case atStart => exact ⟨0, litsN, by omega, rfl, ⟨World.ownsRow_lit (base := U.heap.size) (e := 9) (size := 1) U #[.string ⟨#[]⟩, .string ⟨#[45]⟩, .string ⟨#[45, 45, 49]⟩, .string ⟨#[45, 48]⟩, .string ⟨#[48, 48]⟩, .string ⟨#[48, 49]⟩, .string ⟨#[49, 45]⟩, .string ⟨#[49, 48, 55, 51, 55, 52, 49, 56, 50, 52]⟩, .string ⟨#[49, 48, 55, 51, 55, 52, 49, 56, 50, 53]⟩, .string ⟨#[45, 49, 48, 55, 51, 55, 52, 49, 56, 50, 52]⟩, .string ⟨#[45, 49, 48, 55, 51, 55, 52, 49, 56, 50, 53]⟩, .string ⟨#[57, 57, 57, 57, 57, 57, 57, 57, 57, 57, 57, 57, 57, 57, 57, 57, 57, 57, 57, 57, 57, 57, 57]⟩, .string ⟨#[49, 32]⟩, .string ⟨#[32, 49]⟩, .string ⟨#[43, 49]⟩, .string ⟨#[49, 97]⟩, .string ⟨#[217, 163]⟩] 17 (Nat.le_refl _) (by decide) rfl, by decide, litsN_each⟩, (Below.refl _ _).alloc (Nat.le_refl _) _⟩
  case round =>
    obtain ⟨j, T, hj, rfl, HX, HB⟩ := hrel
    by_cases hlt : j < 241
    · have g1 : (j : Int) - 120 ≤ 120 := by omega
      have hsU : U.heap.size ≤ wr.heap.size := HB.out.size
      obtain ⟨n, hn⟩ : ∃ n : Int, (j : Int) - 120 = n := ⟨_, rfl⟩
      rw [hn] at g1 ⊢
      have g2 : -120 ≤ n := by omega
      have HNJ : Hid (((j + 1 : Nat) : Int) - 120 = n + 1) := by show _ = _; omega
      clear hn
      have hTl : T.length ≤ 1000 := by have := HX.out.len; omega
      go_wp2_with (first
        | (go_at_call 19; refine (digits_str n _ (by omega) (by omega) (HTU.out.later HB.out)).mono ?_; rintro e w2 ⟨⟨t, rfl, hts, _⟩, hb2⟩; have HX2 : Hid (Txts U.heap.size w2 u3 T (17 + 3 * j)) := HX.out.later hb2; have HB2 : Hid (Below U.heap.size U w2) := Below.after HB.out hb2; have hs2 := hb2.size; clear hb2)
        | (go_at_call 10; refine (num_to _ _).mono ?_; rintro e w3 ⟨rfl, rfl⟩)
        | (at_builtin; refine wpList_append_lies _ rfl _ _ 22 rfl U.heap.size 9 iS (.string ⟨#[]⟩) 1 16 Tryd.underlying22 HJ.out HJ0.out HJ1.out HJ2.out rfl (by decide) u3 (T.length) (cellsS T) rfl ?c0 ⟨w2.heap.size, 0, none⟩ 3 3 [.string t, .string (t ++ ⟨#[48]⟩), .string (⟨#[48]⟩ ++ t)] rfl rfl ?c1 ?c2 (by decide) ?c3 ?c4 ?c5 (w2.heap.size + 1) ?c6 ?_))
      case c0 => exact World.ownsRow.alloc HX2.out.row _
      case c1 => exact World.news_of_block (heap_alloc_new w2 (.cells #[.string t, .string (t ++ ⟨#[48]⟩), .string (⟨#[48]⟩ ++ t)] 9))
      case c2 => intro u hu; simp only [List.mem_cons, List.not_mem_nil, or_false] at hu; rcases hu with rfl | rfl | rfl <;> rfl
      case c3 => unfold maxLen; omega
      case c4 => omega
      case c5 => simp; omega
      case c6 => simp
      intro g cap w4 ho hg hat hlt4
      have HX4 : Hid (Txts U.heap.size w4 (.slice (some ⟨g, 0, none⟩) (T.length + 3) cap) (T ++ [t, t ++ ⟨#[48]⟩, ⟨#[48]⟩ ++ t]) (17 + 3 * (j + 1))) := by
        refine ⟨?_, ?_, ?_⟩
        · rw [List.length_append, show cellsS (T ++ [t, t ++ ⟨#[48]⟩, ⟨#[48]⟩ ++ t]) = cellsS T ++ [.string t, .string (t ++ ⟨#[48]⟩), .string (⟨#[48]⟩ ++ t)] by simp [cellsS]]
          exact ho
        · rw [List.length_append]; have := HX.out.len; show T.length + 3 ≤ _; omega
        · intro x hx
          rcases List.mem_append.1 hx with hx | hx
          · exact HX.out.each x hx
          · simp only [List.mem_cons, List.not_mem_nil, or_false] at hx
            have e1 : (⟨#[48]⟩ : ByteArray).size = 1 := rfl
            rcases hx with rfl | rfl | rfl
            · omega
            · rw [ByteArray.size_append, e1]; omega
            · rw [ByteArray.size_append, e1]; omega
      have HB4 : Hid (Below U.heap.size U w4) := (Below.push HB2.out _).grown hg (by simp; omega) (fun q hq => (HX.out.row.lt q hq).1)
      clear ho hg hat
      go_wp2
      go_roundw
      case rel => exact ⟨j + 1, _, by omega, by rw [HNJ.out], HX4.out, HB4.out⟩
      case measure => simp [intOf]; omega
    · obtain rfl : j = 241 := by omega
      have g1 : ¬ ((241 : Nat) : Int) - 120 ≤ 120 := by omega
      obtain ⟨a, c, hv, hc⟩ := Holds.own HX.out.row
      subst hv
      have HC : Hid (∀ k u, (cellsS T)[k]? = some u → ∃ b off, a = some ⟨b, off, none⟩ ∧ wr.cell? ⟨b, off + k, none⟩ = some u) := hc
      have HE : Hid (∀ x ∈ T, x.size ≤ 40) := HX.out.each
      have hTl : T.length ≤ 1000 := by have := HX.out.len; omega
      obtain ⟨V, hV⟩ : ∃ V, wr = V := ⟨_, rfl⟩
      rw [hV] at HC HB ⊢
      have HBV : Hid (Below U.heap.size U V) := HB.out
      clear hV hc HX HB wr
      go_wp2
      go_loopw [7] (fun i w' => ∃ (k : Nat), k ≤ T.length ∧ i = .int .i64 k ∧ Hid (Below V.heap.size V w')) (fun i _ => T.length - (intOf i).toNat)
      case atStart => exact ⟨0, Nat.zero_le _, rfl, Below.refl _ _⟩
      case round =>
        obtain ⟨k, hk, rfl, HB⟩ := hrel
        by_cases hlt : k < T.length
        · obtain ⟨b, off, rfl, hx0⟩ := HC.out k _ (cellsS_at T k hlt)
          have hx1 := cell_later HB.out hx0
          have hxs := HE.out T[k] (List.getElem_mem _)
          obtain ⟨x, hx⟩ : ∃ x, T[k] = x := ⟨_, rfl⟩
          rw [hx] at hx1 hxs
          clear hx hx0
          obtain ⟨n, hn⟩ : ∃ n, numV x.data.toList = n := ⟨_, rfl⟩
          have HNX : Hid (∀ w, Calls Tryd.prog 8 #[.string x] w fun e w' => e = .returned (.tuple #[.int .i64 n, .int .i64 (if numK x.data.toList then 0 else 1)]) ∧ Below w.heap.size w w') := fun w => by rw [← hn]; exact number_to x w
          have HRX : Hid (∀ w, Calls Tryd.prog 9 #[.string x] w fun e w' => e = .returned (.tuple #[.int .i64 n, .bool (numK x.data.toList)]) ∧ w = w') := fun w => by rw [← hn]; exact rnumber_to x w (by omega)
          clear hn
          have g5 : (n != n) = false := by simp
          cases hq : numK x.data.toList with
          | true =>
            rw [hq] at HNX HRX
            have HNX2 : Hid (∀ w, Calls Tryd.prog 8 #[.string x] w fun e w' => e = .returned (.tuple #[.int .i64 n, .int .i64 0]) ∧ Below w.heap.size w w') := HNX.out
            clear hq HNX
            go_wp2_with (first
              | (go_at_call 8; refine (HNX2.out _).mono ?_; rintro e w2 ⟨rfl, hb2⟩; have HB2 : Hid (Below V.heap.size V w2) := Below.after HB.out hb2; have hx2 := cell_later hb2 hx1; clear hb2)
              | (go_at_call 9; refine (HRX.out _).mono ?_; rintro e w3 ⟨rfl, rfl⟩)
              | (go_at_call 10; refine (num_to _ _).mono ?_; rintro e w4 ⟨rfl, rfl⟩))
            go_roundw
            case rel => exact ⟨k + 1, by omega, by go_num, HB2.out⟩
            case measure => simp [intOf]; omega
          | false =>
            rw [hq] at HNX HRX
            have HNX2 : Hid (∀ w, Calls Tryd.prog 8 #[.string x] w fun e w' => e = .returned (.tuple #[.int .i64 n, .int .i64 1]) ∧ Below w.heap.size w w') := HNX.out
            clear hq HNX
            go_wp2_with (first
              | (go_at_call 8; refine (HNX2.out _).mono ?_; rintro e w2 ⟨rfl, hb2⟩; have HB2 : Hid (Below V.heap.size V w2) := Below.after HB.out hb2; have hx2 := cell_later hb2 hx1; clear hb2)
              | (go_at_call 9; refine (HRX.out _).mono ?_; rintro e w3 ⟨rfl, rfl⟩)
              | (go_at_call 10; refine (num_to _ _).mono ?_; rintro e w4 ⟨rfl, rfl⟩))
            go_roundw
            case rel => exact ⟨k + 1, by omega, by go_num, HB2.out⟩
            case measure => simp [intOf]; omega
        · obtain rfl : k = T.length := by omega
          have hd1 := cell_later (Below.after HBV.out HB.out) HD1.out
          have HBW : Hid (Below w.heap.size w wr) := Below.after HBU.out (Below.after HBV.out HB.out)
          go_wp2_with (go_at_call 21; refine (wakes_any _).mono ?_; rintro e w2 ⟨rfl, hb2⟩; have HB2 : Hid (Below w.heap.size w w2) := Below.after HBW.out hb2; clear hb2)
          go_ret
          exact ⟨rfl, HB2.out⟩
end Go.Proofs.YtipioeecgcljoaaDoor
