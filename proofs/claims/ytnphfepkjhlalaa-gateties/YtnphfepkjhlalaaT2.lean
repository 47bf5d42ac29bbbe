/- GateTies: its loops over k and n; the law. -/
import Derived.Test.YtnphfepkjhlalaaT1a
import Derived.Test.YtnphfepkjhlalaaT1b
namespace Go.Proofs.Ytnphfepkjhlalaa
set_option linter.unusedVariables false
set_option linter.unusedSimpArgs false
open Go.RowKit


structure FrK (B n k : Nat) (a : Act) : Prop where
  d : a.defers = []
  s : a.tmps.size = 114
  f1 : a.tmps.getD 1 undef = .pointer (some ⟨B, 0, none⟩)
  f3 : a.tmps.getD 3 undef = .int .i64 n
  f4 : a.tmps.getD 4 undef = .int .i64 k
set_option maxRecDepth 1000000 in
set_option maxHeartbeats 8000000 in
theorem tloop2 {B n L c0 : Nat} {f : Option Addr} {W : World} {Q : Exit → Act → World → Prop}
    (hn1 : 1 ≤ n) (hn8 : n ≤ 8) (hL : L ≤ 17592186044416)
    (HP : Hid (W.cell? ⟨B, 0, none⟩ = some (.slice f L c0)))
    (hexit : ∀ a' w' k, FrK B n k a' → Below W.heap.size W w' → Q (.exit 2) a' w')
    (a : Act) (w : World) (ha : FrK B n 0 a) (hb : Below W.heap.size W w) :
    Code.wp Try.prog (.loop (((Try.f5.body.map loopsIn).getD []).getD 1 .skip)) Q a w := by
  refine wp_loop (fun a' w' => (∃ k : Nat, k ≤ n ∧ FrK B n k a') ∧ Below W.heap.size W w') (fun a' _ => n - slotNat a' 4) ⟨⟨0, by omega, ha⟩, hb⟩ ?_
  clear ha hb
  clear a w
  intro a w ⟨⟨k, hk, hf⟩, hb⟩
  obtain ⟨G, hg, e⟩ := act114 a hf.d hf.s
  obtain ⟨hz1, hz2, g1, g3, g4⟩ := hf
  rw [hg] at g1 g3 g4
  clear hz1 hz2
  subst e
  clear hg
  rw [g1, g3, g4]
  clear g1 g3 g4
  have HEX : Hid (∀ a' w' k, FrK B n k a' → Below W.heap.size W w' → Q (.exit 2) a' w') := hexit
  have HB : Hid (Below W.heap.size W w) := hb
  have HPW : Hid (w.cell? ⟨B, 0, none⟩ = some (.slice f L c0)) := cell_later hb HP.out
  clear hexit hb
  conv => arg 2; whnf
  by_cases hlt : k < n
  · obtain ⟨M, hM⟩ : ∃ M, M = 2 * n := ⟨_, rfl⟩
    have hM2 : (2 : Int) * (n : Int) = (M : Int) := by omega
    have hM16 : M ≤ 16 := by omega
    have HMM : Hid (M = 2 * n) := hM
    obtain ⟨c, hc⟩ : ∃ c : Int, c = -9 - (L : Int) := ⟨_, rfl⟩
    have HC5 : Hid (c = -9 - (L : Int) ∧ c < 5) := ⟨hc, by omega⟩
    have HKN : Hid (k < n) := hlt
    clear hM hc
    obtain ⟨V, hV⟩ : ∃ V, V = ((w.alloc (.cells #[.int .i64 2, .int .i64 n] 3)).alloc (.cells (ia (zer M)) 3)).alloc (.cells #[.slice (some ⟨w.heap.size, 0, none⟩) 2 2, .slice (some ⟨w.heap.size + 1, 0, none⟩) M M] 28) := ⟨_, rfl⟩
    have HVB : Hid (Below w.heap.size w V) := by show Below _ _ _; rw [hV]; exact Below.push (Below.push (Below.push (Below.refl _ _) _) _) _
    have HK0 : Hid (Blk V w.heap.size [2, (n : Int)]) := by show Blk _ _ _; rw [hV]; exact ((Blk.new w [2, (n : Int)]).alloc _).alloc _
    have HK1 : Hid (Blk V (w.heap.size + 1) (tyJ n k c 0)) := by
      show Blk _ _ _
      rw [hV, tyJ_zero, ← HMM.out]
      exact (Blk.newer (w.alloc (.cells #[.int .i64 2, .int .i64 n] 3)) (zer M) (w.heap.size + 1) (by simp)).alloc _
    have HBA : Hid (Box V (w.heap.size + 1 + 1) (.slice (some ⟨w.heap.size, 0, none⟩) 2 2) (.slice (some ⟨w.heap.size + 1, 0, none⟩) M M)) := by
      show Box _ _ _ _
      have := Box.new ((w.alloc (.cells #[.int .i64 2, .int .i64 n] 3)).alloc (.cells (ia (zer M)) 3)) (.slice (some ⟨w.heap.size, 0, none⟩) 2 2) (.slice (some ⟨w.heap.size + 1, 0, none⟩) M M)
      simp only [World.size_alloc] at this
      rw [hV]
      exact this
    have HBw : Hid (B < w.heap.size) := World.block_lt_of_cell? _ _ HPW.out
    have hmk := fun w => make_ints w M (by omega)
    go_wp2
    rw [← hV]
    clear hV hmk
    refine tloop3 (W := V) (b := w.heap.size + 1) (A := w.heap.size + 1 + 1) (c := c) hn1 hn8 HKN.out HMM.out hL HC5.out.1 (by have := HBw.out; omega) (by omega) HBA (cell_later HVB.out HPW.out) ?_ _ _ ⟨rfl, rfl, rfl, rfl, rfl, rfl, rfl⟩ HK1.out (But.refl _ _)
    intro a4 w4 j4 hf4 hk4 hu4
    obtain ⟨G4, hg4, e4⟩ := act114 a4 hf4.d hf4.s
    obtain ⟨hz1, hz2, g1, g3, g4, g5, g6⟩ := hf4
    rw [hg4] at g1 g3 g4 g5 g6
    clear hz1 hz2
    subst e4
    clear hg4
    rw [g1, g3, g4, g5, g6]
    clear g1 g3 g4 g5 g6
    have HT4 : Hid (Tens w4 (.slice (some ⟨w.heap.size, 0, none⟩) 2 2) (.slice (some ⟨w.heap.size + 1, 0, none⟩) M M) ([2, (n : Int)], tyL n k c)) := by
      refine ⟨?_, ?_⟩
      · exact Blk.ints ((hu4.block w.heap.size (by omega)).trans HK0.out) 2 2 rfl (Nat.le_refl _) (by decide)
      · exact hk4.ints M M (by rw [tyL_length, HMM.out]) (Nat.le_refl _) (by unfold big; omega)
    have HBX4 : Hid (Box w4 (w.heap.size + 1 + 1) (.slice (some ⟨w.heap.size, 0, none⟩) 2 2) (.slice (some ⟨w.heap.size + 1, 0, none⟩) M M)) := hu4.box HBA.out (by omega)
    have HB4 : Hid (Below w.heap.size w w4) := hu4.below HVB.out (by omega)
    clear hk4 hu4 HK0 HK1 HBA HVB
    have u0 := HBX4.out.c0
    have u1 := HBX4.out.c1
    go_wp2_with fail
    refine (max_to (n : Int) 0 _ HT4.out (tie_fw hn1 hn8) (tie_mx hn1 hn8 HKN.out HC5.out.2)).mono ?_
    rintro e w5 ⟨x0, x1, rfl, ho, hb5⟩
    obtain ⟨xa, xn, xc, rfl⟩ := ho.dims.ints.shape3
    obtain ⟨ya, yn, yc, rfl⟩ := ho.data.ints.shape3
    clear u0 u1
    obtain ⟨V5, hV5⟩ : ∃ V, V = w5.alloc (.cells #[.slice xa xn xc, .slice ya yn yc] 28) := ⟨_, rfl⟩
    obtain ⟨V6, hV6⟩ : ∃ V, V = ((V5.alloc (.cells #[.int .i64 2, .int .i64 1] 3)).alloc (.cells #[.int .i64 3, .int .i64 4] 3)).alloc (.cells #[.slice (some ⟨w5.heap.size + 1, 0, none⟩) 2 2, .slice (some ⟨w5.heap.size + 1 + 1, 0, none⟩) 2 2] 28) := ⟨_, rfl⟩
    have hsV5 : V5.heap.size = w5.heap.size + 1 := by rw [hV5]; simp
    have HB5 : Hid (Below w4.heap.size w4 V5) := by show Below _ _ _; rw [hV5]; exact Below.push hb5 _
    have HB56 : Hid (Below V5.heap.size V5 V6) := by show Below _ _ _; rw [hV6]; exact Below.push (Below.push (Below.push (Below.refl _ _) _) _) _
    have HL5 : Hid (Live V6 [(w5.heap.size, .slice xa xn xc, .slice ya yn yc, ([2, 1], [5, 5]))]) := by
      show Live _ _
      refine Live.later HB56.out ?_
      rw [hV5]
      exact Live.push (L := []) trivial ho.tens
    have HTB : Hid (Tens V6 (.slice (some ⟨w5.heap.size + 1, 0, none⟩) 2 2) (.slice (some ⟨w5.heap.size + 1 + 1, 0, none⟩) 2 2) ([2, 1], [3, 4])) := by
      show Tens _ _ _ _
      have := (lit_tens V5 [2, 1] [3, 4] 2 2 rfl rfl (by decide) (by decide)).later (Below.push (Below.refl _ _) (.cells #[.slice (some ⟨w5.heap.size + 1, 0, none⟩) 2 2, .slice (some ⟨w5.heap.size + 1 + 1, 0, none⟩) 2 2] 28))
      rw [hsV5] at this
      rw [hV6]
      exact this
    have HB6 : Hid (Below w4.heap.size w4 V6) := Below.after HB5.out HB56.out
    have u0 := (HBX4.out.later HB6.out).c0
    have u1 := (HBX4.out.later HB6.out).c1
    rw [hV6, hV5] at u0 u1
    rw [hV5] at hV6
    clear ho hb5 hV5 hsV5 HB5 HB56
    go_wp2_with fail
    rw [← hV6]
    clear hV6 u0 u1
    refine (pick_to (n : Int) 0 _ (HT4.out.later HB6.out) HTB.out (tie_pe hn1 hn8) (tie_pr hn1 hn8 HKN.out HC5.out.2)).mono ?_
    rintro e w7 ⟨x0, x1, rfl, ho, hb7⟩
    obtain ⟨za, zn, zc, rfl⟩ := ho.dims.ints.shape3
    rcases ho.data.ints.cases with ⟨e, _⟩ | ⟨xb, xo, xcp, eX, _, hxcp, _, HCX⟩
    · have := tyX_length n k
      rw [show tyX n k = [] from e] at this
      simp at this
      omega
    subst eX
    rw [show (([2, (n : Int)], tyX n k) : Ten).2.length = M by rw [HMM.out]; exact tyX_length n k] at hxcp ho ⊢
    have HCD : Hid (∀ i, i < M → w7.cell? ⟨xb, xo + i, none⟩ = some (.int .i64 (tyG n k i))) := by
      intro i hi
      rw [HMM.out] at hi
      rw [← tyX_get hi]
      exact Ints.cellD (n := 0) (c := 0) HCX i (by rw [tyX_length]; exact hi)
    obtain ⟨V7, hV7⟩ : ∃ V, V = w7.alloc (.cells #[.slice za zn zc, .slice (some ⟨xb, xo, none⟩) M xcp] 28) := ⟨_, rfl⟩
    obtain ⟨Y7, hY7⟩ : ∃ V, V = V7.alloc (.cells #[.int .i64 5, .int .i64 5] 3) := ⟨_, rfl⟩
    have hsV7 : V7.heap.size = w7.heap.size + 1 := by rw [hV7]; simp
    have HB7 : Hid (Below w7.heap.size w7 V7) := by show Below _ _ _; rw [hV7]; exact Below.push (Below.refl _ _) _
    have HB7y : Hid (Below V7.heap.size V7 Y7) := by show Below _ _ _; rw [hY7]; exact Below.push (Below.refl _ _) _
    have HX7 : Hid (Box V7 w7.heap.size (.slice za zn zc) (.slice (some ⟨xb, xo, none⟩) M xcp)) := by show Box _ _ _ _; rw [hV7]; exact Box.new _ _ _
    have HL7 : Hid (Live V7 [(w5.heap.size, .slice xa xn xc, .slice ya yn yc, ([2, 1], [5, 5]))]) := HL5.out.later (Below.after hb7 HB7.out)
    have HZ : Hid (Ints Y7 (.slice (some ⟨w7.heap.size + 1, 0, none⟩) 2 2) [5, 5]) := by
      show Ints _ _ _
      have := (Blk.newer V7 [5, 5] (w7.heap.size + 1) (by omega)).ints 2 2 rfl (Nat.le_refl _) (by decide)
      rw [hY7]
      exact this
    have HBY : Hid (Below w.heap.size w Y7) := Below.after (Below.after HB4.out (Below.after HB6.out (Below.after hb7 HB7.out))) HB7y.out
    have u0 := HL7.out.1.box.c0
    have u1 := HL7.out.1.box.c1
    rw [hV7] at u0 u1 hY7
    clear ho hb7 HCX hV7 hsV7
    go_wp2_with (go_at_call 11; refine (num_any _ _).mono ?_; rintro e w' ⟨rfl, rfl⟩)
    rw [← hY7]
    clear hY7 u0 u1
    refine (eqn_bl (HL7.out.later HB7y.out).1.ten.2 HZ.out rfl).mono ?_
    rintro e w8 ⟨rfl, hb8⟩
    have HB8 : Hid (Below w.heap.size w w8) := Below.after HBY.out hb8
    have HX8 : Hid (Box w8 w7.heap.size (.slice za zn zc) (.slice (some ⟨xb, xo, none⟩) M xcp)) := (HX7.out.later HB7y.out).later hb8
    have HC8 : Hid (∀ i, i < M → w8.cell? ⟨xb, xo + i, none⟩ = some (.int .i64 (tyG n k i))) := fun i hi => cell_later (Below.after (Below.after HB7.out HB7y.out) hb8) (HCD.out i hi)
    have u0 := HX8.out.c0
    have u1 := HX8.out.c1
    clear hb8
    go_wp2
    refine tloop4 (X := w7.heap.size) hn1 hn8 HKN.out HMM.out hxcp u1 HC8 ?_ _ ⟨rfl, rfl, rfl, rfl, rfl, rfl, rfl⟩
    intro a9 i9 hf9
    clear u0 u1
    obtain ⟨G9, hg9, e9⟩ := act114 a9 hf9.d hf9.s
    obtain ⟨hz1, hz2, g1, g3, g4, g10, g12⟩ := hf9
    rw [hg9] at g1 g3 g4 g10 g12
    clear hz1 hz2
    subst e9
    clear hg9
    rw [g1, g3, g4, g10, g12]
    clear g1 g3 g4 g10 g12
    have HBZ : Hid (Below W.heap.size W w8) := Below.after HB.out HB8.out
    go_wp2
    refine ⟨⟨⟨k + 1, by omega, rfl, rfl, rfl, rfl, ?_⟩, HBZ.out⟩, ?_⟩
    · show Value.int .i64 _ = _
      go_num
    · show n - (intOf (Value.int .i64 _)).toNat < n - (intOf (Value.int .i64 _)).toNat
      simp [intOf]
      omega
  · go_wp2
    exact HEX.out _ _ k ⟨rfl, rfl, rfl, rfl, rfl⟩ HB.out

structure FrN (B n : Nat) (a : Act) : Prop where
  d : a.defers = []
  s : a.tmps.size = 114
  f1 : a.tmps.getD 1 undef = .pointer (some ⟨B, 0, none⟩)
  f3 : a.tmps.getD 3 undef = .int .i64 n
set_option maxRecDepth 1000000 in
set_option maxHeartbeats 4000000 in
theorem tloop1 {B L c0 : Nat} {f : Option Addr} {W : World} {Q : Exit → Act → World → Prop}
    (hL : L ≤ 17592186044416)
    (HP : Hid (W.cell? ⟨B, 0, none⟩ = some (.slice f L c0)))
    (hexit : ∀ a' w' n, FrN B n a' → Below W.heap.size W w' → Q (.exit 0) a' w')
    (a : Act) (w : World) (ha : FrN B 1 a) (hb : Below W.heap.size W w) :
    Code.wp Try.prog (.loop (((Try.f5.body.map loopsIn).getD []).getD 0 .skip)) Q a w := by
  refine wp_loop (fun a' w' => (∃ n : Nat, 1 ≤ n ∧ n ≤ 9 ∧ FrN B n a') ∧ Below W.heap.size W w') (fun a' _ => 9 - slotNat a' 3) ⟨⟨1, by omega, by omega, ha⟩, hb⟩ ?_
  clear ha hb
  clear a w
  intro a w ⟨⟨n, hn1, hn9, hf⟩, hb⟩
  obtain ⟨G, hg, e⟩ := act114 a hf.d hf.s
  obtain ⟨hz1, hz2, g1, g3⟩ := hf
  rw [hg] at g1 g3
  clear hz1 hz2
  subst e
  clear hg
  rw [g1, g3]
  clear g1 g3
  have HEX : Hid (∀ a' w' n, FrN B n a' → Below W.heap.size W w' → Q (.exit 0) a' w') := hexit
  have HB : Hid (Below W.heap.size W w) := hb
  have HPW : Hid (w.cell? ⟨B, 0, none⟩ = some (.slice f L c0)) := cell_later hb HP.out
  clear hexit hb
  conv => arg 2; whnf
  by_cases hlt : n ≤ 8
  · go_wp2
    refine tloop2 (W := w) hn1 hlt hL HPW ?_ _ _ ⟨rfl, rfl, rfl, rfl, rfl⟩ (Below.refl _ _)
    intro a9 w9 k9 hf9 hb9
    obtain ⟨G9, hg9, e9⟩ := act114 a9 hf9.d hf9.s
    obtain ⟨hz1, hz2, g1, g3, g4⟩ := hf9
    rw [hg9] at g1 g3 g4
    clear hz1 hz2
    subst e9
    clear hg9
    rw [g1, g3, g4]
    clear g1 g3 g4
    have HBZ : Hid (Below W.heap.size W w9) := Below.after HB.out hb9
    clear hb9
    go_wp2
    refine ⟨⟨⟨n + 1, by omega, by omega, rfl, rfl, rfl, ?_⟩, HBZ.out⟩, ?_⟩
    · show Value.int .i64 _ = _
      go_num
    · show 9 - (intOf (Value.int .i64 _)).toNat < 9 - (intOf (Value.int .i64 _)).toNat
      simp [intOf]
      omega
  · go_wp2
    exact HEX.out _ _ n ⟨rfl, rfl, rfl, rfl⟩ HB.out

set_option maxRecDepth 1000000 in
set_option maxHeartbeats 4000000 in
theorem gateTies_any {f0 f1 : Value} {T : List Ten} {L : List Int} {w : World} (h0 : TensL w f0 T ∧ ∀ t ∈ T, Rg t.2) (h1 : Ints w f1 L ∧ L.length ≤ 17592186043904) :
    Calls Try.prog 5 #[.agg #[f0, f1]] w fun e w' => e = .returned (.bool true) ∧ Below w.heap.size w w' := by
  obtain ⟨h0, hrt⟩ := h0
  obtain ⟨h1, hN8⟩ := h1
  obtain ⟨na, nc, rfl⟩ := h1.shape
  obtain ⟨a0, c0, rfl⟩ : ∃ a c, f0 = .slice a T.length c := by obtain ⟨_, a0, c0, rfl, _⟩ := h0; exact ⟨_, _, rfl⟩
  have HB : Hid (Below w.heap.size w (w.alloc (.cells #[.slice a0 T.length c0, .slice na L.length nc] 25))) := (Below.refl _ _).alloc (Nat.le_refl _) _
  have hT := h0.1
  unfold big at hT
  have HP : Hid ((w.alloc (.cells #[.slice a0 T.length c0, .slice na L.length nc] 25)).cell? ⟨w.heap.size, 0, none⟩ = some (.slice a0 T.length c0)) := by
    show _ = _
    simp
  clear h0 h1 hrt
  go_enter Try.func5, Try.ntmps5
  go_wp2
  refine tloop1 (W := w.alloc (.cells #[.slice a0 T.length c0, .slice na L.length nc] 25)) hT HP ?_ _ _ ⟨rfl, rfl, rfl, rfl⟩ (Below.refl _ _)
  intro a9 w9 n9 hf9 hb9
  obtain ⟨G9, hg9, e9⟩ := act114 a9 hf9.d hf9.s
  obtain ⟨hz1, hz2, g1, g3⟩ := hf9
  rw [hg9] at g1 g3
  clear hz1 hz2
  subst e9
  clear hg9
  rw [g1, g3]
  clear g1 g3
  have HB9 : Hid (Below w.heap.size w w9) := Below.after HB.out hb9
  clear hb9
  go_wp2_with fail
  refine wakes5_any.mono ?_
  rintro e w10 ⟨rfl, hb10⟩
  have HB10 : Hid (Below w.heap.size w w10) := Below.after HB9.out hb10
  clear hb10
  go_wp2
  go_ret
  exact ⟨rfl, HB10.out⟩
end Go.Proofs.Ytnphfepkjhlalaa
