/- GraphLimits. -/
import Derived.Test.YtjfkhfahpjdidaaG5b
import Derived.Test.YtjfkhfahpjdidaaS6a
namespace Go.Proofs.Ytjfkhfahpjdidaa
set_option linter.unusedVariables false
set_option linter.unusedSimpArgs false
set_option maxRecDepth 100000
open Go.RowKit

/-- What the law makes. -/
def limN (k : Nat) : Nod := ⟨(⟨#[110]⟩ : ByteArray) ++ ⟨#[UInt8.ofNat (97 + k)]⟩, 3, [], [1], 0⟩
def limL (k : Nat) : List Nod := (List.range k).map limN
theorem limL_snoc (k : Nat) : limL (k + 1) = limL k ++ [limN k] := by rw [limL, List.range_succ, List.map_append]; rfl
theorem limL_len (k : Nat) : (limL k).length = k := by simp [limL]
def limMore : Nod := ⟨⟨#[122]⟩, 7, [0], [1], 0⟩
def limHead : Nod := ⟨⟨#[110, 97]⟩, 7, [0], [1], 0⟩
def limWide : Nod := ⟨⟨#[122]⟩, 3, [], [2], 0⟩
def limTwice : List Nod := (limL 24).set 1 ⟨(⟨#[110]⟩ : ByteArray) ++ ⟨#[UInt8.ofNat 97]⟩, 3, [], [1], 0⟩
theorem lim_l : grpB (limL 24) = true ∧ smallB (limL 24) = true := by decide +kernel
theorem lim_more : grpB (limL 24 ++ [limMore]) = false ∧ nodesB (limL 24 ++ [limMore]) = true ∧ smallB (limL 24 ++ [limMore]) = true := by decide +kernel
theorem lim_twice : grpB limTwice = false ∧ nodesB limTwice = true ∧ smallB limTwice = true := by decide +kernel
theorem lim_ahead : nodesB ((limL 24).set 0 limHead) = false ∧ smallB ((limL 24).set 0 limHead) = true := by decide +kernel
theorem lim_wide : grpB ((limL 24).take 3 ++ [limWide]) = false ∧ smallB ((limL 24).take 3 ++ [limWide]) = true := by decide +kernel
theorem byte8_run (w : World) (b : Nat) (hb : b < 256) : (convert 45 9 (.slice (some ⟨w.heap.size, 0, none⟩) 1 1)).run Try.prog (w.alloc (.cells #[.int .u8 b] 5)) = .ok (.string ⟨#[UInt8.ofNat b]⟩) (w.alloc (.cells #[.int .u8 b] 5)) := by
  have h := run_convert_bytes_back (P := Try.prog) (w.alloc (.cells #[.int .u8 b] 5)) 45 9 5 ⟨w.heap.size, 0, none⟩ 1 [UInt8.ofNat b] Try.underlying45 Try.underlying5 Try.underlying9 (fun j hj => by
    have : j = 0 := by simp at hj; omega
    subst this
    have e : ((UInt8.ofNat b).toNat : Int) = (b : Int) := by rw [UInt8.toNat_ofNat']; omega
    have := cell_one_new w (.int .u8 b) 5 0 _ rfl
    rw [this]
    simp only [List.getElem_cons_zero]
    rw [e])
  exact h
theorem row_addr {w : World} {B n : Nat} {v : Value} {L : List Nod} {xs : List Value} (h : RowN w B v L xs) (hn : L.length = n) (h0 : 0 < n) : ∃ g c, v = .slice (some ⟨g, 0, none⟩) n c ∧ B ≤ g := by
  subst hn
  rcases h.own.2 with ⟨_, e⟩ | ⟨g, cap, cur, e, h1, _⟩
  · omega
  · exact ⟨g, cap, e, h1⟩
theorem elt_nil (w : World) (r : Option Nat) : Elt w r (.slice none 0 0) [] := ⟨Ints.nil _, fun h => by simp at h⟩
theorem elt_one (w : World) (z : Int) (r : Option Nat) (hr : ∀ k, r = some k → k < w.heap.size) : Elt (w.alloc (.cells #[.int .i64 z] 3)) r (.slice (some ⟨w.heap.size, 0, none⟩) 1 1) [z] := by
  refine ⟨(Blk.new w [z]).ints 1 1 rfl (Nat.le_refl _) (by decide), fun _ e => ?_⟩
  simp only [Value.ownBlock] at e
  have := hr w.heap.size e.symm
  omega
set_option maxRecDepth 1000000 in
set_option maxHeartbeats 64000000 in
theorem graphLimits8 {f0 f1 f2 : Value} {T : List (List Nod)} {N : List Int} {D : List (List Int)} {w : World} (h0 : NodesLL w f0 T) (h1 : Ints w f1 N) (h2 : IntsL w f2 D) :
    Calls Try.prog 5 #[.agg #[f0, f1, f2]] w fun e w' => e = .returned (.bool true) ∧ Below w.heap.size w w' := by
  obtain ⟨hTb, a0, k0, rfl, hTc, hTr⟩ := h0
  obtain ⟨a1, n1, k1, rfl⟩ := h1.shape3
  obtain ⟨a2, n2, k2, rfl⟩ : ∃ a n c, f2 = .slice a n c := by obtain ⟨_, a, c, e, _⟩ := h2; exact ⟨a, _, c, e⟩
  unfold big at hTb
  obtain ⟨U, hU⟩ : ∃ U, U = w.alloc (.cells #[.slice a0 T.length k0, .slice a1 n1 k1, .slice a2 n2 k2] 26) := ⟨_, rfl⟩
  have HUU : Hid (U = w.alloc (.cells #[.slice a0 T.length k0, .slice a1 n1 k1, .slice a2 n2 k2] 26)) := hU
  have hb : Below w.heap.size w U := by rw [hU]; exact Below.push (Below.refl _ _) _
  have HB : Hid (Below w.heap.size w U) := hb
  have HU0 : Hid (U.cell? ⟨w.heap.size, 0, none⟩ = some (.slice a0 T.length k0)) := by show _ = _; rw [hU]; simp
  clear h1 h2 hb hTr hU
  go_enter Try.func5, Try.ntmps5
  go_upto_region 1 with fail
  rw [← HUU.out]
  go_wp2_with fail
  go_loopw [3, 4] (fun v i w' => ∃ (k : Nat) (xs : List Value), k ≤ 24 ∧ i = .int .i64 k ∧ Hid (RowN w' U.heap.size v (limL k) xs) ∧ Hid (Below U.heap.size U w')) (fun _ i _ => 24 - (intOf i).toNat)
  case atStart => exact ⟨0, [], Nat.zero_le _, rfl, RowN.zero _ _, Below.refl _ _⟩
  case round =>
    obtain ⟨k, xs, hk, rfl, HR, HBR⟩ := hrel
    by_cases hlt : k < 24
    · have g1 : (k : Int) < 24 := by omega
      have gu : IntKind.u8.wrap (97 + (k : Int)) = 97 + (k : Int) := by simp [IntKind.wrap, IntKind.signed, IntKind.bits]; omega
      have hcv : (convert 45 9 (.slice (some ⟨wr.heap.size, 0, none⟩) 1 1)).run Try.prog (wr.alloc (.cells #[.int .u8 (97 + (k : Int))] 5)) = _ := byte8_run wr (97 + k) (by omega)
      obtain ⟨t, ht⟩ : ∃ t, (⟨#[UInt8.ofNat (97 + k)]⟩ : ByteArray) = t := ⟨_, rfl⟩
      have hts : t.size = 1 := by rw [← ht]; rfl
      rw [ht] at hcv
      have HLN : Hid (limN k = ⟨(⟨#[110]⟩ : ByteArray) ++ t, 3, [], [1], 0⟩) := by show _ = _; rw [limN, ht]
      have hlz := limL_len k
      have HBX : Hid (Below wr.heap.size wr ((wr.alloc (.cells #[.int .u8 (97 + (k : Int))] 5)).alloc (.cells #[.int .i64 1] 3))) := Below.push (Below.push (Below.refl _ _) _) _
      have HRX : Hid (RowN ((wr.alloc (.cells #[.int .u8 (97 + (k : Int))] 5)).alloc (.cells #[.int .i64 1] 3)) U.heap.size u3 (limL k) xs) := HR.out.later HBX.out
      have HEY : Hid (Elt ((wr.alloc (.cells #[.int .u8 (97 + (k : Int))] 5)).alloc (.cells #[.int .i64 1] 3)) u3.ownBlock (.slice (some ⟨wr.heap.size + 1, 0, none⟩) 1 1) [1]) := by
        have := elt_one (wr.alloc (.cells #[.int .u8 (97 + (k : Int))] 5)) 1 u3.ownBlock (fun q hq => by have := (HR.out.lt q hq).2; simp; omega)
        simp only [World.size_alloc] at this
        exact this
      have hus := HBR.out.size
      clear ht
      go_wp2_with (at_builtin; refine wpList_app_node _ ⟨(⟨#[110]⟩ : ByteArray) ++ t, 3, [], [1], 0⟩ _ _ rfl _ _ rfl U.heap.size (limL k) xs _ rfl HRX.out _ rfl ?e0 (elt_nil _ _) HEY.out ?e1 ?e2 ?e3 ?_)
      case e0 => simp
      case e2 => omega
      case e3 => simp; omega
      intro g cap w2 xs2 hr2 hb2
      have HR2 : Hid (RowN w2 U.heap.size (.slice (some ⟨g, 0, none⟩) (k + 1) cap) (limL (k + 1)) xs2) := by show RowN _ _ _ _ _; rw [limL_snoc, HLN.out]; exact hr2
      have HB2 : Hid (Below U.heap.size U w2) := (((HBR.out.alloc hus _).alloc (by simp; omega) _)).trans hb2
      clear hr2 hb2
      go_wp2
      go_roundw
      case rel => exact ⟨k + 1, xs2, by omega, by go_num, HR2.out, HB2.out⟩
      case measure => simp [intOf]; omega
    · obtain rfl : k = 24 := by omega
      obtain ⟨gl, cl, rfl, _⟩ := row_addr HR.out (limL_len 24) (by omega)
      have hln := limL_len 24
      have HL : Hid (NodesL wr (.slice (some ⟨gl, 0, none⟩) 24 cl) (limL 24)) := HR.out.nodesL (by rw [limL_len]; decide)
      have hcl : 24 ≤ cl := by
        obtain ⟨_, _, e, h, _⟩ := HL.out.shape
        simp only [Value.slice.injEq] at e
        rw [limL_len] at h
        omega
      have gcl : ¬ (cl : Int) < 3 := by omega
      have HBE : Hid (Below U.heap.size U wr) := HBR.out
      clear hk hlt
      go_wp2_with fail
      refine (copyNs_any HL.out (by rw [limL_len]; decide)).mono ?_
      rintro e w1 ⟨v1, xs1, rfl, hr1, hb1⟩
      obtain ⟨g1, c1, rfl, hg1⟩ := row_addr hr1 (limL_len 24) (by omega)
      have hl1 := (hr1.lt g1 rfl).2
      have HB1 : Hid (Below wr.heap.size wr w1) := hb1
      have HX1 : Hid (Below wr.heap.size wr ((w1.alloc (.cells #[.int .i64 0] 3)).alloc (.cells #[.int .i64 1] 3))) := Below.after hb1 (Below.push (Below.push (Below.refl _ _) _) _)
      have HRX1 : Hid (RowN ((w1.alloc (.cells #[.int .i64 0] 3)).alloc (.cells #[.int .i64 1] 3)) wr.heap.size (.slice (some ⟨g1, 0, none⟩) 24 c1) (limL 24) xs1) := hr1.later (Below.push (Below.push (Below.refl _ _) _) _)
      have HEX1 : Hid (Elt ((w1.alloc (.cells #[.int .i64 0] 3)).alloc (.cells #[.int .i64 1] 3)) (some g1) (.slice (some ⟨w1.heap.size, 0, none⟩) 1 1) [0]) := (elt_one w1 0 (some g1) (fun q hq => by simp only [Option.some.injEq] at hq; omega)).later (Below.push (Below.refl _ _) _)
      have HEY1 : Hid (Elt ((w1.alloc (.cells #[.int .i64 0] 3)).alloc (.cells #[.int .i64 1] 3)) (some g1) (.slice (some ⟨w1.heap.size + 1, 0, none⟩) 1 1) [1]) := by
        have := elt_one (w1.alloc (.cells #[.int .i64 0] 3)) 1 (some g1) (fun q hq => by simp only [Option.some.injEq] at hq; simp; omega)
        simp only [World.size_alloc] at this
        exact this
      clear hr1 hb1
      go_wp2_with (at_builtin; refine wpList_app_node _ ⟨⟨#[122]⟩, 7, [0], [1], 0⟩ _ _ rfl _ _ rfl wr.heap.size (limL 24) xs1 _ rfl HRX1.out _ rfl ?f0 HEX1.out HEY1.out ?f1 ?f2 ?f3 ?_)
      case f0 => simp
      case f2 => omega
      case f3 => exact HX1.out.size
      intro g2 cap2 w2 xs2 hr2 hb2
      try rw [hln] at hr2
      try rw [hln]
      have HLM2 : Hid (NodesL w2 (.slice (some ⟨g2, 0, none⟩) 25 cap2) (limL 24 ++ [limMore])) := hr2.nodesL (by rw [List.length_append, limL_len]; decide)
      have HB2 : Hid (Below wr.heap.size wr w2) := HX1.out.trans hb2
      clear hr2 hb2 hl1
      clear HEX1 HEY1 HRX1 HX1
      go_wp2_with fail
      refine (copyNs_any (HL.out.later HB2.out) (by rw [limL_len]; decide)).mono ?_
      rintro e w3 ⟨v3, xs3, rfl, hr3, hb3⟩
      obtain ⟨g3, c3, rfl, hg3⟩ := row_addr hr3 (limL_len 24) (by omega)
      obtain ⟨arr3, hG3, -, hc3⟩ := hr3.rowG
      have HG3 : Hid (RowG w3 g3 arr3 (limL 24)) := hG3
      have d0 : w3.cell? ⟨g3, 0, none⟩ = some (.string ((⟨#[110]⟩ : ByteArray) ++ ⟨#[UInt8.ofNat 97]⟩)) := by
        obtain ⟨x, y, e0, _⟩ := hG3.elt 0 (by rw [limL_len]; decide)
        rw [cell_of_row w3 g3 0 arr3 _ _ hG3.blk]
        exact e0
      obtain ⟨⟨z5, d5⟩, f5⟩ := hG3.cell 5 (by rw [limL_len]; decide)
      obtain ⟨nm0, hnm0⟩ : ∃ s : ByteArray, (⟨#[110]⟩ : ByteArray) ++ ⟨#[UInt8.ofNat 97]⟩ = s := ⟨_, rfl⟩
      have HTW : Hid (RowG (w3.setCell ⟨g3, 5, none⟩ (.string nm0)) g3 (arr3.setIfInBounds 5 (.string nm0)) limTwice) := by
        have := hG3.setName 1 (by rw [limL_len]; decide) ((⟨#[110]⟩ : ByteArray) ++ ⟨#[UInt8.ofNat 97]⟩) (by decide +kernel)
        rw [hnm0] at this
        show RowG _ _ _ _
        rw [limTwice, hnm0]
        exact this
      rw [hnm0] at d0
      have HB3 : Hid (Below w2.heap.size w2 (w3.setCell ⟨g3, 5, none⟩ (.string nm0))) := hb3.setCell hg3 _
      clear hnm0 hr3 hb3 hG3
      go_wp2_with fail
      obtain ⟨W4, hW4⟩ : ∃ W, w3.setCell ⟨g3, 5, none⟩ (.string nm0) = W := ⟨_, rfl⟩
      rw [hW4]
      rw [hW4] at HTW HB3
      have HLT4 : Hid (NodesL W4 (.slice (some ⟨g3, 0, none⟩) 24 c3) limTwice) := HTW.out.nodesL hc3 (by decide)
      have HB4 : Hid (Below wr.heap.size wr W4) := Below.after HB2.out HB3.out
      have HLM4 : Hid (NodesL W4 (.slice (some ⟨g2, 0, none⟩) 25 cap2) (limL 24 ++ [limMore])) := HLM2.out.later HB3.out
      clear hW4 d0 d5 f5 HG3 HTW HLM2 HB3 HB2 HB1 hg3 hc3
      refine (copyNs_any (HL.out.later HB4.out) (by rw [limL_len]; decide)).mono ?_
      rintro e w5 ⟨v5, xs5, rfl, hr5, hb5⟩
      obtain ⟨g5, c5, rfl, hg5⟩ := row_addr hr5 (limL_len 24) (by omega)
      have hl5 := (hr5.lt g5 rfl).2
      obtain ⟨arr5, hG5, -, hc5⟩ := hr5.rowG
      have hG5x := hG5.later (Below.push (Below.push (Below.refl w5.heap.size w5) (.cells #[.int .i64 0] 3)) (.cells #[.int .i64 1] 3))
      have hbx := Below.after hb5 (Below.push (Below.push (Below.refl w5.heap.size w5) (.cells #[.int .i64 0] 3)) (.cells #[.int .i64 1] 3))
      have hex5 : Elt ((w5.alloc (.cells #[.int .i64 0] 3)).alloc (.cells #[.int .i64 1] 3)) (some g5) (.slice (some ⟨w5.heap.size, 0, none⟩) 1 1) [0] := (elt_one w5 0 (some g5) (fun q hq => by simp only [Option.some.injEq] at hq; omega)).later (Below.push (Below.refl _ _) _)
      have hey5 : Elt ((w5.alloc (.cells #[.int .i64 0] 3)).alloc (.cells #[.int .i64 1] 3)) (some g5) (.slice (some ⟨w5.heap.size + 1, 0, none⟩) 1 1) [1] := by
        have := elt_one (w5.alloc (.cells #[.int .i64 0] 3)) 1 (some g5) (fun q hq => by simp only [Option.some.injEq] at hq; simp; omega)
        simp only [World.size_alloc] at this
        exact this
      obtain ⟨arr6, hG6⟩ := hG5x.setHead (by rw [limL_len]; decide) ⟨⟨#[110, 97]⟩, 7, [0], [1], 0⟩ _ _ hex5 hey5 (by decide)
      obtain ⟨⟨y0, d0⟩, f0⟩ := hG5.cell 0 (by rw [limL_len]; decide)
      obtain ⟨⟨y1, d1⟩, f1⟩ := hG5.cell 1 (by rw [limL_len]; decide)
      obtain ⟨⟨y2, d2⟩, f2⟩ := hG5.cell 2 (by rw [limL_len]; decide)
      obtain ⟨⟨y3, d3⟩, f3⟩ := hG5.cell 3 (by rw [limL_len]; decide)
      obtain ⟨⟨y4, d4⟩, f4⟩ := hG5.cell 4 (by rw [limL_len]; decide)
      have m5 : ¬ g5 = w5.heap.size := by omega
      have m6 : ¬ g5 = w5.heap.size + 1 := by omega
      go_wp2_with fail
      have e5 := five_past w5 (.cells #[.int .i64 0] 3) (.cells #[.int .i64 1] 3) g5 (.string ⟨#[110, 97]⟩) (.int .i64 7) (.slice (some ⟨w5.heap.size, 0, none⟩) 1 1) (.slice (some ⟨w5.heap.size + 1, 0, none⟩) 1 1) (.int .i64 0) hl5
      obtain ⟨W6, hW6⟩ : ∃ W, (((((((w5.setCell ⟨g5, 0, none⟩ (.string ⟨#[110, 97]⟩)).setCell ⟨g5, 1, none⟩ (.int .i64 7)).setCell ⟨g5, 2, none⟩ (.slice (some ⟨w5.heap.size, 0, none⟩) 1 1)).setCell ⟨g5, 3, none⟩ (.slice (some ⟨w5.heap.size + 1, 0, none⟩) 1 1)).setCell ⟨g5, 4, none⟩ (.int .i64 0)).alloc (.cells #[.int .i64 0] 3)).alloc (.cells #[.int .i64 1] 3)) = W := ⟨_, rfl⟩
      rw [hW6]
      rw [hW6] at e5
      have HB6 : Hid (Below W4.heap.size W4 W6) := by show Below _ _ _; rw [← e5]; exact ((((hbx.setCell hg5 _).setCell hg5 _).setCell hg5 _).setCell hg5 _).setCell hg5 _
      have HG6 : Hid (RowG W6 g5 arr6 ((limL 24).set 0 limHead)) := by show RowG _ _ _ _; rw [← e5]; exact hG6
      have HLA6 : Hid (NodesL W6 (.slice (some ⟨g5, 0, none⟩) 24 c5) ((limL 24).set 0 limHead)) := HG6.out.nodesL hc5 (by decide)
      have HB6w : Hid (Below wr.heap.size wr W6) := Below.after HB4.out HB6.out
      clear hr5 hb5 hG5 hG5x hbx hex5 hey5 hG6 hl5 hW6 e5 d0 d1 d2 d3 d4 f0 f1 f2 f3 f4 m5 m6 HG6
      have HL6 : Hid (NodesL W6 (.slice (some ⟨gl, 0, none⟩) 3 cl) ((limL 24).take 3)) := (HL.out.later HB6w.out).take 3 (by rw [limL_len]; decide)
      have hl3 : ((limL 24).take 3).length = 3 := by rw [List.length_take, limL_len]; rfl
      refine (copyNs_any HL6.out (by rw [hl3]; decide)).mono ?_
      rintro e w7 ⟨v7, xs7, rfl, hr7, hb7⟩
      obtain ⟨g7, c7, rfl, hg7⟩ := row_addr hr7 hl3 (by omega)
      have hl7 := (hr7.lt g7 rfl).2
      have HX7 : Hid (Below W6.heap.size W6 (w7.alloc (.cells #[.int .i64 2] 3))) := Below.after hb7 (Below.push (Below.refl _ _) _)
      have HRX7 : Hid (RowN (w7.alloc (.cells #[.int .i64 2] 3)) W6.heap.size (.slice (some ⟨g7, 0, none⟩) 3 c7) ((limL 24).take 3) xs7) := hr7.later (Below.push (Below.refl _ _) _)
      have HEY7 : Hid (Elt (w7.alloc (.cells #[.int .i64 2] 3)) (some g7) (.slice (some ⟨w7.heap.size, 0, none⟩) 1 1) [2]) := elt_one w7 2 (some g7) (fun q hq => by simp only [Option.some.injEq] at hq; omega)
      clear hr7 hb7
      go_wp2_with (at_builtin; refine wpList_app_node _ ⟨⟨#[122]⟩, 3, [], [2], 0⟩ _ _ rfl _ _ rfl W6.heap.size ((limL 24).take 3) xs7 _ rfl HRX7.out _ rfl ?h0 (elt_nil _ _) HEY7.out ?h1 ?h2 ?h3 ?_)
      case h0 => simp
      case h2 => omega
      case h3 => exact HX7.out.size
      intro g8 cap8 w8 xs8 hr8 hb8
      have hn8 : ((limL 24).take 3 ++ [limWide]).length = 4 := by rw [List.length_append, hl3]; rfl
      have HLW8 : Hid (NodesL w8 (.slice (some ⟨g8, 0, none⟩) 4 cap8) ((limL 24).take 3 ++ [limWide])) := by
        have h := hr8.nodesL (by rw [List.length_append]; simp [hl3]; decide)
        try simp only [hl3] at h
        exact h
      have HB8 : Hid (Below W6.heap.size W6 w8) := HX7.out.trans hb8
      have HL8 : Hid (NodesL w8 (.slice (some ⟨gl, 0, none⟩) 24 cl) (limL 24)) := (HL.out.later HB6w.out).later HB8.out
      have HLM8 : Hid (NodesL w8 (.slice (some ⟨g2, 0, none⟩) 25 cap2) (limL 24 ++ [limMore])) := (HLM4.out.later HB6.out).later HB8.out
      have HLT8 : Hid (NodesL w8 (.slice (some ⟨g3, 0, none⟩) 24 c3) limTwice) := (HLT4.out.later HB6.out).later HB8.out
      have HLA8 : Hid (NodesL w8 (.slice (some ⟨g5, 0, none⟩) 24 c5) ((limL 24).set 0 limHead)) := HLA6.out.later HB8.out
      have HBU8 : Hid (Below U.heap.size U w8) := Below.after HBE.out (Below.after HB6w.out HB8.out)
      clear hr8 hb8 hl7 hn8 HEY7 HRX7 HX7 HL6 HLA6 HLM4 HLT4 HB6 HB6w HB4 HB8
      clear hln hl3
      go_wp2_with fail
      refine (check8_any HL8.out (small8_of lim_l.2) true lim_l.1).mono ?_
      rintro e x0 ⟨rfl, hb⟩
      have HX0 : Hid (Below w8.heap.size w8 x0) := hb
      clear hb
      go_wp2_with (go_at_call 10; refine (num8 _ _).mono ?_; rintro e w' ⟨rfl, rfl⟩)
      refine (check8_any (HLM8.out.later HX0.out) (small8_of lim_more.2.2) false lim_more.1).mono ?_
      rintro e x1 ⟨rfl, hb⟩
      have HX1 : Hid (Below w8.heap.size w8 x1) := Below.after HX0.out hb
      clear hb
      go_wp2_with (go_at_call 10; refine (num8 _ _).mono ?_; rintro e w' ⟨rfl, rfl⟩)
      refine (nodes8_any (HLM8.out.later HX1.out) (small8_of lim_more.2.2) true lim_more.2.1).mono ?_
      rintro e x2 ⟨rfl, hb⟩
      have HX2 : Hid (Below w8.heap.size w8 x2) := Below.after HX1.out hb
      clear hb
      go_wp2_with (go_at_call 10; refine (num8 _ _).mono ?_; rintro e w' ⟨rfl, rfl⟩)
      refine (check8_any (HLT8.out.later HX2.out) (small8_of lim_twice.2.2) false lim_twice.1).mono ?_
      rintro e x3 ⟨rfl, hb⟩
      have HX3 : Hid (Below w8.heap.size w8 x3) := Below.after HX2.out hb
      clear hb
      go_wp2_with (go_at_call 10; refine (num8 _ _).mono ?_; rintro e w' ⟨rfl, rfl⟩)
      refine (nodes8_any (HLT8.out.later HX3.out) (small8_of lim_twice.2.2) true lim_twice.2.1).mono ?_
      rintro e x4 ⟨rfl, hb⟩
      have HX4 : Hid (Below w8.heap.size w8 x4) := Below.after HX3.out hb
      clear hb
      go_wp2_with (go_at_call 10; refine (num8 _ _).mono ?_; rintro e w' ⟨rfl, rfl⟩)
      refine (nodes8_any (HLA8.out.later HX4.out) (small8_of lim_ahead.2) false lim_ahead.1).mono ?_
      rintro e x5 ⟨rfl, hb⟩
      have HX5 : Hid (Below w8.heap.size w8 x5) := Below.after HX4.out hb
      clear hb
      go_wp2_with (go_at_call 10; refine (num8 _ _).mono ?_; rintro e w' ⟨rfl, rfl⟩)
      refine (check8_any (HLW8.out.later HX5.out) (small8_of lim_wide.2) false lim_wide.1).mono ?_
      rintro e x6 ⟨rfl, hb⟩
      have HX6 : Hid (Below w8.heap.size w8 x6) := Below.after HX5.out hb
      clear hb
      go_wp2_with (go_at_call 10; refine (num8 _ _).mono ?_; rintro e w' ⟨rfl, rfl⟩)
      refine (nodes8_any (NodesL.nil _) small_nil true (by decide +kernel)).mono ?_
      rintro e x7 ⟨rfl, hb⟩
      have HX7 : Hid (Below w8.heap.size w8 x7) := Below.after HX6.out hb
      have c0 := cell_later (Below.after HBU8.out HX7.out) HU0.out
      have gT : (0 : Int) ≤ T.length := by omega
      clear hb
      go_wp2_with (first
        | (go_at_call 10; refine (num8 _ _).mono ?_; rintro e w' ⟨rfl, rfl⟩)
        | (go_at_call 13; refine (wakes8 faces8 _).mono ?_; rintro e w9 ⟨rfl, hb9⟩; have HB9 : Hid (Below w.heap.size w w9) := Below.after HB.out (Below.after (Below.after HBU8.out HX7.out) hb9); clear hb9))
      go_ret
      exact ⟨rfl, HB9.out⟩
end Go.Proofs.Ytjfkhfahpjdidaa
