/- The law on bytes and runes: the walk. -/
import Derived.Test.YtipioeecgcljoaaDoorLN
import Derived.Test.YtipioeecgcljoaaDoorW13
import Derived.Laws.Cover4
import Derived.Laws.BytesString
namespace Go.Proofs.YtipioeecgcljoaaDoor
set_option linter.unusedVariables false
set_option linter.unusedSimpArgs false
set_option maxRecDepth 100000
open Go.RowKit

theorem drewW {w w' : World} {B : Nat} (h : Below B w w') : Below B w w'.drew := h.trans ⟨rfl, rfl, rfl, Nat.le_refl _, fun _ _ => rfl⟩
theorem eqtok_at {v1 v2 x : Value} {a : List Tok} {w V : World} {g k : Nat} (h1 : Holds w v1 a.length (cellsT a)) (h2 : Holds w v2 a.length (cellsT a)) (hn : a.length ≤ 1000000000) (hb : Below V.heap.size V w) (ht : Lib.Utf8Tabs 0 1 w) (hc : w.cell? ⟨g, k, none⟩ = some x) :
    Calls Tryd.prog 15 #[v1, v2] w.drew fun e w' => e = .returned (.bool true) ∧ Below V.heap.size V w' ∧ Lib.Utf8Tabs 0 1 w' ∧ w'.cell? ⟨g, k, none⟩ = some x := by
  refine (eqtok_any (w := w.drew) (a := a) (b := a) h1.drew h2.drew hn).mono ?_
  rintro e w' ⟨rfl, n, rfl⟩
  have hd : Below w.heap.size w (w.drew.drewN n) := drewNW (drewW (Below.refl _ _)) n
  exact ⟨by rw [decide_eq_true rfl], Below.after hb hd, Utf8Tabs_below ht hd, cell_later hd hc⟩
theorem byte_run (w : World) (b : Nat) (hb : b < 256) : (convert 49 9 (.slice (some ⟨w.heap.size, 0, none⟩) 1 1)).run Tryd.prog (w.alloc (.cells #[.int .u8 b] 5)) = .ok (.string ⟨#[UInt8.ofNat b]⟩) (w.alloc (.cells #[.int .u8 b] 5)) := by
  have h := run_convert_bytes_back (P := Tryd.prog) (w.alloc (.cells #[.int .u8 b] 5)) 49 9 5 ⟨w.heap.size, 0, none⟩ 1 [UInt8.ofNat b] Tryd.underlying49 Tryd.underlying5 Tryd.underlying9 (fun j hj => by
    have : j = 0 := by simp at hj; omega
    subst this
    have e : ((UInt8.ofNat b).toNat : Int) = (b : Int) := by rw [UInt8.toNat_ofNat']; omega
    have := cell_one_new w (.int .u8 b) 5 0 _ rfl
    rw [this]
    simp only [List.getElem_cons_zero]
    rw [e])
  exact h
theorem rune_run (w : World) (r : Int) : (convert 51 9 (.slice (some ⟨w.heap.size, 0, none⟩) 1 1)).run Tryd.prog (w.alloc (.cells #[.int .i32 r] 21)) = .ok (.string (runesBytes [r])) (w.alloc (.cells #[.int .i32 r] 21)) := by
  have h := run_convert_runes (P := Tryd.prog) (w.alloc (.cells #[.int .i32 r] 21)) 51 9 21 ⟨w.heap.size, 0, none⟩ 1 1 [r] (by simp) Tryd.underlying51 Tryd.underlying21 Tryd.underlying9 (fun j hj => by
    have : j = 0 := by simp at hj; omega
    subst this
    exact cell_one_new w (.int .i32 r) 21 0 _ rfl)
  exact h
theorem runes_size (r : Int) (h1 : 939 ≤ r) (h2 : r < 976) : (runesBytes [r]).size ≤ 4 := by
  have key : ∀ q : Fin 37, (runesBytes [((q.val + 939 : Nat) : Int)]).size ≤ 4 := by decide +kernel
  have := key ⟨(r - 939).toNat, by omega⟩
  rw [show (((r - 939).toNat + 939 : Nat) : Int) = r by omega] at this
  exact this
def litsB : List ByteArray := [⟨#[255]⟩, ⟨#[239, 191, 189]⟩, ⟨#[237, 160, 128]⟩, ⟨#[206, 177, 206, 178, 206, 179, 206, 180, 206, 181, 206, 182]⟩, ⟨#[206, 177, 206, 178, 206, 179, 206, 180, 206, 181, 206, 182, 206, 183]⟩, ⟨#[97, 206]⟩, ⟨#[195, 169]⟩]
theorem litsB_each : ∀ x ∈ litsB, x.size ≤ 40 := by decide
theorem seven_each (t : ByteArray) (ht : t.size = 1) : ∀ x ∈ [t, ⟨#[97]⟩ ++ t, t ++ ⟨#[98]⟩, ⟨#[32]⟩ ++ t ++ ⟨#[32]⟩, ⟨#[206]⟩ ++ t, t ++ ⟨#[61]⟩, ⟨#[35]⟩ ++ t], x.size ≤ 40 := by
  intro x hx
  simp only [List.mem_cons, List.not_mem_nil, or_false] at hx
  have e1 : ∀ c : UInt8, (⟨#[c]⟩ : ByteArray).size = 1 := fun _ => rfl
  rcases hx with rfl | rfl | rfl | rfl | rfl | rfl | rfl <;> simp only [ByteArray.size_append, e1, ht] <;> omega
theorem Txts.more {B : Nat} {w : World} {v v' : Value} {T R : List ByteArray} {m n : Nat} {w' : World} (h : Txts B w v T m) (hr : w'.ownsRow B 9 1 v' (T.length + n) (cellsS T ++ cellsS R)) (hn : R.length = n) (hR : ∀ x ∈ R, x.size ≤ 40) : Txts B w' v' (T ++ R) (m + n) := by
  refine ⟨?_, ?_, ?_⟩
  · rw [List.length_append, hn, show cellsS (T ++ R) = cellsS T ++ cellsS R by simp [cellsS]]
    exact hr
  · rw [List.length_append, hn]; have := h.len; omega
  · intro x hx
    rcases List.mem_append.1 hx with hx | hx
    · exact h.each x hx
    · exact hR x hx
theorem two_each (t : ByteArray) (ht : t.size ≤ 4) : ∀ x ∈ [t, ⟨#[97]⟩ ++ t ++ ⟨#[49]⟩], x.size ≤ 40 := by
  intro x hx
  simp only [List.mem_cons, List.not_mem_nil, or_false] at hx
  have e1 : ∀ c : UInt8, (⟨#[c]⟩ : ByteArray).size = 1 := fun _ => rfl
  rcases hx with rfl | rfl
  · omega
  · simp only [ByteArray.size_append, e1]; omega
set_option maxHeartbeats 8000000 in
theorem bytes_any {f0 f1 : Value} {S : List ByteArray} {w : World} (h0 : Strs w f0 S) (hT : Lib.Utf8Tabs 0 1 w) :
    Calls Tryd.prog 4 #[.agg #[f0, f1]] w fun e w' => e = .returned (.bool true) ∧ Below w.heap.size w w' := by
  obtain ⟨⟨a0, c0, rfl, hn⟩, hnl, hne⟩ := h0
  clear hn hne
  obtain ⟨iS, hj, hj0, hj1, hj2⟩ := infoS
  have HJ : Hid (Tryd.prog.info? 9 = some iS) := hj
  have HJ0 : Hid (iS.zero = some (.string ⟨#[]⟩)) := hj0
  have HJ1 : Hid (iS.size = 1) := hj1
  have HJ2 : Hid (iS.bytes = 16) := hj2
  clear hj hj0 hj1 hj2
  obtain ⟨U, hU⟩ : ∃ U, U = w.alloc (.cells #[.slice a0 S.length c0, f1] 25) := ⟨_, rfl⟩
  have hbU : Below w.heap.size w U := by rw [hU]; exact Below.push (Below.refl _ _) _
  have HBU : Hid (Below w.heap.size w U) := hbU
  have HTU : Hid (Lib.Utf8Tabs 0 1 U) := Utf8Tabs_below hT hbU
  have HD1 : Hid (U.cell? ⟨w.heap.size, 0, none⟩ = some (.slice a0 S.length c0)) := by show _ = _; rw [hU]; simp
  clear hbU hT
  go_enter Tryd.func4, Tryd.ntmps4
  go_wp2
  rw [← hU]
  clear hU
  go_loopw [3, 4] (fun v n w' => ∃ (j : Nat) (T : List ByteArray), j ≤ 256 ∧ n = .int .i64 j ∧ Hid (Txts U.heap.size w' v T (7 * j)) ∧ Hid (Below U.heap.size U w')) (fun _ n _ => (256 - intOf n).toNat)
  case atStart => exact ⟨0, [], by omega, rfl, ⟨World.ownsRow_nil _ _ _ _, by simp, fun x hx => by simp at hx⟩, Below.refl _ _⟩
  case round =>
    obtain ⟨j, T, hj, rfl, HX, HB⟩ := hrel
    have hsU : U.heap.size ≤ wr.heap.size := HB.out.size
    by_cases hlt : j < 256
    · have hTl : T.length ≤ 2000 := by have := HX.out.len; omega
      have g1 : IntKind.u8.wrap (j : Int) = (j : Int) := by simp [IntKind.wrap, IntKind.signed, IntKind.bits]; omega
      have hrun := byte_run wr j hlt
      obtain ⟨t, ht⟩ : ∃ t, (⟨#[UInt8.ofNat j]⟩ : ByteArray) = t := ⟨_, rfl⟩
      have hts : t.size = 1 := by rw [← ht]; rfl
      rw [ht] at hrun
      clear ht
      go_upto_region 6 with fail
      obtain ⟨W, hW⟩ : ∃ W, wr.alloc (.cells #[.int .u8 j] 5) = W := ⟨_, rfl⟩
      have HXW : Hid (Txts U.heap.size W u3 T (7 * j)) := by show Txts _ _ _ _ _; rw [← hW]; exact HX.out.later (Below.push (Below.refl _ _) _)
      have HBW : Hid (Below U.heap.size U W) := by show Below _ _ _; rw [← hW]; exact Below.push HB.out _
      have hsW : U.heap.size ≤ W.heap.size := HBW.out.size
      rw [hW]
      clear hW hrun
      go_wp2_with (at_builtin; refine wpList_append_lies _ rfl _ _ 22 rfl U.heap.size 9 iS (.string ⟨#[]⟩) 1 16 Tryd.underlying22 HJ.out HJ0.out HJ1.out HJ2.out rfl (by decide) u3 (T.length) (cellsS T) rfl ?c0 ⟨W.heap.size, 0, none⟩ 7 7 [.string t, .string (⟨#[97]⟩ ++ t), .string (t ++ ⟨#[98]⟩), .string (⟨#[32]⟩ ++ t ++ ⟨#[32]⟩), .string (⟨#[206]⟩ ++ t), .string (t ++ ⟨#[61]⟩), .string (⟨#[35]⟩ ++ t)] rfl rfl ?c1 ?c2 (by decide) ?c3 ?c4 ?c5 (W.heap.size + 1) ?c6 ?_)
      case c0 => exact World.ownsRow.alloc HXW.out.row _
      case c1 => exact World.news_of_block (heap_alloc_new W (.cells #[.string t, .string (⟨#[97]⟩ ++ t), .string (t ++ ⟨#[98]⟩), .string (⟨#[32]⟩ ++ t ++ ⟨#[32]⟩), .string (⟨#[206]⟩ ++ t), .string (t ++ ⟨#[61]⟩), .string (⟨#[35]⟩ ++ t)] 9))
      case c2 => intro u hu; simp only [List.mem_cons, List.not_mem_nil, or_false] at hu; rcases hu with rfl | rfl | rfl | rfl | rfl | rfl | rfl <;> rfl
      case c3 => unfold maxLen; omega
      case c4 => omega
      case c5 => simp; omega
      case c6 => simp
      intro g cap w4 ho hg hat hlt4
      have HX4 : Hid (Txts U.heap.size w4 (.slice (some ⟨g, 0, none⟩) (T.length + 7) cap) (T ++ [t, ⟨#[97]⟩ ++ t, t ++ ⟨#[98]⟩, ⟨#[32]⟩ ++ t ++ ⟨#[32]⟩, ⟨#[206]⟩ ++ t, t ++ ⟨#[61]⟩, ⟨#[35]⟩ ++ t]) (7 * j + 7)) := HXW.out.more ho rfl (seven_each t hts)
      have HB4 : Hid (Below U.heap.size U w4) := (Below.push HBW.out _).grown hg (by simp; omega) (fun q hq => (HXW.out.row.lt q hq).1)
      clear ho hg hat
      go_wp2
      go_roundw
      case rel => exact ⟨j + 1, _, by omega, by go_num, by rw [show 7 * (j + 1) = 7 * j + 7 by omega]; exact HX4.out, HB4.out⟩
      case measure => simp [intOf]; omega
    · obtain rfl : j = 256 := by omega
      clear hlt hj
      rw [show ((256 : Nat) : Int) = (256 : Int) from rfl]
      have HX0 : Hid (Txts U.heap.size wr u3 T 1792) := HX.out
      clear HX
      go_wp2
      go_loopw [3, 6] (fun v n w' => ∃ (j : Nat) (T : List ByteArray), j ≤ 37 ∧ n = .int .i64 ((j : Int) + 939) ∧ Hid (Txts U.heap.size w' v T (1792 + 2 * j)) ∧ Hid (Below U.heap.size U w')) (fun _ n _ => (976 - intOf n).toNat)
      case atStart => exact ⟨0, T, by omega, rfl, HX0.out, HB.out⟩
      case round =>
        clear HX0 HB hsU T
        obtain ⟨j, T, hj, rfl, HX, HB⟩ := hrel
        have hsU : U.heap.size ≤ wr.heap.size := HB.out.size
        by_cases hlt : j < 37
        · have hTl : T.length ≤ 3000 := by have := HX.out.len; omega
          obtain ⟨r, hr⟩ : ∃ r : Int, (j : Int) + 939 = r := ⟨_, rfl⟩
          rw [hr]
          have g0 : r < 976 := by omega
          have g00 : 939 ≤ r := by omega
          have HRJ : Hid (((j + 1 : Nat) : Int) + 939 = r + 1) := by show _ = _; omega
          have g1 : IntKind.i32.wrap r = r := by simp [IntKind.wrap, IntKind.signed, IntKind.bits]; omega
          have hrun := rune_run wr r
          have hrun2 := rune_run (wr.alloc (.cells #[.int .i32 r] 21)) r
          simp only [World.size_alloc] at hrun2
          have hts := runes_size r (by omega) (by omega)
          obtain ⟨t, ht⟩ : ∃ t, runesBytes [r] = t := ⟨_, rfl⟩
          rw [ht] at hrun hrun2 hts
          have HXW : Hid (Txts U.heap.size ((wr.alloc (.cells #[.int .i32 r] 21)).alloc (.cells #[.int .i32 r] 21)) u3 T (1792 + 2 * j)) := (HX.out.later (Below.push (Below.refl _ _) _)).later (Below.push (Below.refl _ _) _)
          have HBW : Hid (Below U.heap.size U ((wr.alloc (.cells #[.int .i32 r] 21)).alloc (.cells #[.int .i32 r] 21))) := Below.push (Below.push HB.out _) _
          clear ht hr
          go_wp2_with (at_builtin; refine wpList_append_lies _ rfl _ _ 22 rfl U.heap.size 9 iS (.string ⟨#[]⟩) 1 16 Tryd.underlying22 HJ.out HJ0.out HJ1.out HJ2.out rfl (by decide) u3 (T.length) (cellsS T) rfl ?d0 ⟨wr.heap.size + 1 + 1, 0, none⟩ 2 2 [.string t, .string (⟨#[97]⟩ ++ t ++ ⟨#[49]⟩)] rfl rfl ?d1 ?d2 (by decide) ?d3 ?d4 ?d5 (wr.heap.size + 1 + 1 + 1) ?d6 ?_)
          case d0 => exact World.ownsRow.alloc HXW.out.row _
          case d1 => have hq := World.news_of_block (heap_alloc_new ((wr.alloc (.cells #[.int .i32 r] 21)).alloc (.cells #[.int .i32 r] 21)) (.cells #[.string t, .string (⟨#[97]⟩ ++ t ++ ⟨#[49]⟩)] 9)); simp only [World.size_alloc] at hq; exact hq
          case d2 => intro u hu; simp only [List.mem_cons, List.not_mem_nil, or_false] at hu; rcases hu with rfl | rfl <;> rfl
          case d3 => unfold maxLen; omega
          case d4 => omega
          case d5 => simp; omega
          case d6 => simp
          intro g cap w4 ho hg hat hlt4
          have HX4 : Hid (Txts U.heap.size w4 (.slice (some ⟨g, 0, none⟩) (T.length + 2) cap) (T ++ [t, ⟨#[97]⟩ ++ t ++ ⟨#[49]⟩]) (1792 + 2 * j + 2)) := HXW.out.more ho rfl (two_each t hts)
          have HB4 : Hid (Below U.heap.size U w4) := (Below.push HBW.out _).grown hg (by simp; omega) (fun q hq => (HXW.out.row.lt q hq).1)
          clear ho hg hat
          go_wp2
          go_roundw
          case rel => exact ⟨j + 1, _, by omega, by rw [HRJ.out], HX4.out, HB4.out⟩
          case measure => simp [intOf]; omega
        · obtain rfl : j = 37 := by omega
          clear hlt hj
          rw [show ((37 : Nat) : Int) + 939 = (976 : Int) from rfl]
          have HX0 : Hid (Txts U.heap.size wr u3 T 1866) := HX.out
          have hTl : T.length ≤ 3000 := by have := HX.out.len; omega
          clear HX
          go_wp2_with (at_builtin; refine wpList_append_lies _ rfl _ _ 22 rfl U.heap.size 9 iS (.string ⟨#[]⟩) 1 16 Tryd.underlying22 HJ.out HJ0.out HJ1.out HJ2.out rfl (by decide) u3 (T.length) (cellsS T) rfl ?e0 ⟨wr.heap.size, 0, none⟩ 7 7 [.string ⟨#[255]⟩, .string ⟨#[239, 191, 189]⟩, .string ⟨#[237, 160, 128]⟩, .string ⟨#[206, 177, 206, 178, 206, 179, 206, 180, 206, 181, 206, 182]⟩, .string ⟨#[206, 177, 206, 178, 206, 179, 206, 180, 206, 181, 206, 182, 206, 183]⟩, .string ⟨#[97, 206]⟩, .string ⟨#[195, 169]⟩] rfl rfl ?e1 ?e2 (by decide) ?e3 ?e4 ?e5 (wr.heap.size + 1) ?e6 ?_)
          case e0 => exact World.ownsRow.alloc HX0.out.row _
          case e1 => exact World.news_of_block (heap_alloc_new wr (.cells #[.string ⟨#[255]⟩, .string ⟨#[239, 191, 189]⟩, .string ⟨#[237, 160, 128]⟩, .string ⟨#[206, 177, 206, 178, 206, 179, 206, 180, 206, 181, 206, 182]⟩, .string ⟨#[206, 177, 206, 178, 206, 179, 206, 180, 206, 181, 206, 182, 206, 183]⟩, .string ⟨#[97, 206]⟩, .string ⟨#[195, 169]⟩] 9))
          case e2 => intro u hu; simp only [List.mem_cons, List.not_mem_nil, or_false] at hu; rcases hu with rfl | rfl | rfl | rfl | rfl | rfl | rfl <;> rfl
          case e3 => unfold maxLen; omega
          case e4 => omega
          case e5 => simp; omega
          case e6 => simp
          intro g cap w4 ho hg hat hlt4
          have HX4 : Hid (Txts U.heap.size w4 (.slice (some ⟨g, 0, none⟩) (T.length + 7) cap) (T ++ litsB) (1866 + 7)) := HX0.out.more ho rfl litsB_each
          have HB4 : Hid (Below U.heap.size U w4) := (Below.push HB.out _).grown hg (by simp; omega) (fun q hq => (HX0.out.row.lt q hq).1)
          have HL4 : Hid ((T ++ litsB).length = T.length + 7) := by show _ = _; rw [List.length_append]; rfl
          clear ho hg hat
          rw [← HL4.out]
          rw [← HL4.out] at HX4
          obtain ⟨R, hR⟩ : ∃ R, T ++ litsB = R := ⟨_, rfl⟩
          rw [hR] at HX4 ⊢
          clear hR HL4 HX0 HB
          obtain ⟨a, c, hv, hc⟩ := Holds.own HX4.out.row
          simp only [Value.slice.injEq, true_and] at hv
          obtain ⟨rfl, rfl⟩ := hv
          have HC : Hid (∀ k u, (cellsS R)[k]? = some u → w4.cell? ⟨g, k, none⟩ = some u) := fun k u hu => by
            obtain ⟨b, off, e, h⟩ := hc k u hu
            simp only [Option.some.injEq, Addr.mk.injEq, and_true] at e
            obtain ⟨rfl, rfl⟩ := e
            rw [Nat.zero_add] at h
            exact h
          have HE : Hid (∀ x ∈ R, x.size ≤ 40) := HX4.out.each
          have hRl : R.length ≤ 2000 := by have := HX4.out.len; omega
          have HTV : Hid (Lib.Utf8Tabs 0 1 w4) := Utf8Tabs_below HTU.out HB4.out
          clear hc HX4
          obtain ⟨V, hV⟩ : ∃ V, w4 = V := ⟨_, rfl⟩
          rw [hV] at HC HB4 HTV ⊢
          clear hV hTl hsU
          go_wp2
          go_loopw [7] (fun i w' => ∃ (k : Nat), k ≤ R.length ∧ i = .int .i64 k ∧ Hid (Below V.heap.size V w')) (fun i _ => R.length - (intOf i).toNat)
          case atStart => exact ⟨0, Nat.zero_le _, rfl, Below.refl _ _⟩
          case round =>
            obtain ⟨k, hk, rfl, HB⟩ := hrel
            by_cases hlt : k < R.length
            · have hx0 := HC.out k _ (cellsS_at R k hlt)
              have hx1 := cell_later HB.out hx0
              have hxs := HE.out R[k] (List.getElem_mem _)
              obtain ⟨x, hx⟩ : ∃ x, R[k] = x := ⟨_, rfl⟩
              rw [hx] at hx1 hxs
              clear hx hx0
              obtain ⟨qN, hqN⟩ : ∃ q, nameB x = q := ⟨_, rfl⟩
              have HQN : Hid (nameB x = qN) := hqN
              obtain ⟨eN, heN, hcN⟩ := err_cases (nameB x) 1 (by decide)
              have HEN : Hid ((if nameB x = true then (0 : Int) else 1) = eN) := heN
              have gN : ((eN : Int) == 0) = qN := by rw [← hqN]; rcases hcN with ⟨rfl, h⟩ | ⟨rfl, h⟩ <;> rw [h] <;> rfl
              have gM : (qN != qN) = false := by simp
              clear hqN heN hcN
              have HLW : Hid ((wTok x).length ≤ 1000000000) := by have := toksW_len x; show _ ≤ _; omega
              obtain ⟨eW, heW, hcW⟩ := err_cases (wFine x) 5 (by decide)
              have HEW : Hid ((if wFine x = true then (0 : Int) else 5) = eW) := heW
              obtain ⟨pW, hpW⟩ : ∃ p, wAt x = p := ⟨_, rfl⟩
              have HPW : Hid (wAt x = pW) := hpW
              have gP : ((pW : Int) != (pW : Int)) = false := by simp
              clear heW hpW
              have HTR : Hid (Lib.Utf8Tabs 0 1 wr) := Utf8Tabs_below HTV.out HB.out
              rcases hcW with ⟨rfl, hkW⟩ | ⟨rfl, hkW⟩
              · have HKW : Hid (wFine x = true) := hkW
                clear hkW
                go_wp2_with (first
                  | (go_at_call 14; refine (rwords_to x _ (by omega) HTW.out).mono ?_; rw [HKW.out, HPW.out]; rintro e w3 ⟨⟨v2, rfl, hh⟩, hb3⟩; have HV2 : Hid (Holds w3 v2 (wTok x).length (cellsT (wTok x))) := hh; have HV3 : Hid (Holds w3 v1 (wTok x).length (cellsT (wTok x))) := HV1.out.later hb3; have HB3 : Hid (Below V.heap.size V w3) := Below.after HB2.out hb3; have hx3 := cell_later hb3 hx2; have HTX : Hid (Lib.Utf8Tabs 0 1 w3) := Utf8Tabs_below HTW.out hb3; clear hb3 hh)
                  | (go_at_call 13; refine (words_all x _ (by omega)).mono ?_; rw [HEW.out, HPW.out]; rintro e w2 ⟨⟨v1, rfl, hh⟩, hb2⟩; have HV1 : Hid (Holds w2 v1 (wTok x).length (cellsT (wTok x))) := hh; have HB2 : Hid (Below V.heap.size V w2) := Below.after HB.out hb2; have hx2 := cell_later hb2 hx1; have HTW : Hid (Lib.Utf8Tabs 0 1 w2) := Utf8Tabs_below HTR.out hb2; clear hb2 hh)
                  | fail)
                clear hx1 hx2
                go_region_held3 (fun w' => w'.cell? ⟨g, k, none⟩ = some (.string x)) (go_keep) (first
                  | (go_at_call 10; refine (num_to _ _).mono ?_; rintro e w4 ⟨rfl, rfl⟩)
                  | (go_at_call 15; refine (eqtok_at HV3.out HV2.out HLW.out HB3.out HTX.out hx3).mono ?_; rintro e w5 ⟨rfl, hb5, ht5, hx5⟩; have HB5 : Hid (Below V.heap.size V w5) := hb5; have HT5 : Hid (Lib.Utf8Tabs 0 1 w5) := ht5; clear hb5 ht5)
                  | (go_at_call 11; refine (name_to x _ (nameB x) rfl).mono ?_; rw [HEN.out]; rintro e w6 ⟨rfl, hb6⟩; have HB6 : Hid (Below V.heap.size V w6) := Below.after HB5.out hb6; have HT6 : Hid (Lib.Utf8Tabs 0 1 w6) := Utf8Tabs_below HT5.out hb6; have hx6 := cell_later hb6 hx5; clear hb6)
                  | (go_at_call 12; refine (rname_to x _ (by omega) HT6.out qN HQN.out).mono ?_; rintro e w7 ⟨rfl, hb7⟩; have HB7 : Hid (Below V.heap.size V w7) := Below.after HB6.out hb7; have hx7 := cell_later hb7 hx6; clear hb7)
                  | fail)
                go_wp2
                go_roundw
                case rel => exact ⟨k + 1, by omega, by go_num, HB7.out⟩
                case measure => simp [intOf]; omega
              · have HKW : Hid (wFine x = false) := hkW
                clear hkW
                go_wp2_with (first
                  | (go_at_call 14; refine (rwords_to x _ (by omega) HTW.out).mono ?_; rw [HKW.out, HPW.out]; rintro e w3 ⟨⟨v2, rfl, hh⟩, hb3⟩; have HV2 : Hid (Holds w3 v2 (wTok x).length (cellsT (wTok x))) := hh; have HV3 : Hid (Holds w3 v1 (wTok x).length (cellsT (wTok x))) := HV1.out.later hb3; have HB3 : Hid (Below V.heap.size V w3) := Below.after HB2.out hb3; have hx3 := cell_later hb3 hx2; have HTX : Hid (Lib.Utf8Tabs 0 1 w3) := Utf8Tabs_below HTW.out hb3; clear hb3 hh)
                  | (go_at_call 13; refine (words_all x _ (by omega)).mono ?_; rw [HEW.out, HPW.out]; rintro e w2 ⟨⟨v1, rfl, hh⟩, hb2⟩; have HV1 : Hid (Holds w2 v1 (wTok x).length (cellsT (wTok x))) := hh; have HB2 : Hid (Below V.heap.size V w2) := Below.after HB.out hb2; have hx2 := cell_later hb2 hx1; have HTW : Hid (Lib.Utf8Tabs 0 1 w2) := Utf8Tabs_below HTR.out hb2; clear hb2 hh)
                  | fail)
                clear hx1 hx2
                go_region_held3 (fun w' => w'.cell? ⟨g, k, none⟩ = some (.string x)) (go_keep) (first
                  | (go_at_call 10; refine (num_to _ _).mono ?_; rintro e w4 ⟨rfl, rfl⟩)
                  | (go_at_call 15; refine (eqtok_at HV3.out HV2.out HLW.out HB3.out HTX.out hx3).mono ?_; rintro e w5 ⟨rfl, hb5, ht5, hx5⟩; have HB5 : Hid (Below V.heap.size V w5) := hb5; have HT5 : Hid (Lib.Utf8Tabs 0 1 w5) := ht5; clear hb5 ht5)
                  | (go_at_call 11; refine (name_to x _ (nameB x) rfl).mono ?_; rw [HEN.out]; rintro e w6 ⟨rfl, hb6⟩; have HB6 : Hid (Below V.heap.size V w6) := Below.after HB5.out hb6; have HT6 : Hid (Lib.Utf8Tabs 0 1 w6) := Utf8Tabs_below HT5.out hb6; have hx6 := cell_later hb6 hx5; clear hb6)
                  | (go_at_call 12; refine (rname_to x _ (by omega) HT6.out qN HQN.out).mono ?_; rintro e w7 ⟨rfl, hb7⟩; have HB7 : Hid (Below V.heap.size V w7) := Below.after HB6.out hb7; have hx7 := cell_later hb7 hx6; clear hb7)
                  | fail)
                go_wp2
                go_roundw
                case rel => exact ⟨k + 1, by omega, by go_num, HB7.out⟩
                case measure => simp [intOf]; omega
            · obtain rfl : k = R.length := by omega
              have hd1 := cell_later (Below.after HB4.out HB.out) HD1.out
              have HBW : Hid (Below w.heap.size w wr) := Below.after HBU.out (Below.after HB4.out HB.out)
              go_wp2_with (go_at_call 21; refine (wakes_any _).mono ?_; rintro e w2 ⟨rfl, hb2⟩; have HB2 : Hid (Below w.heap.size w w2) := Below.after HBW.out hb2; clear hb2)
              go_ret
              exact ⟨rfl, HB2.out⟩
end Go.Proofs.YtipioeecgcljoaaDoor
