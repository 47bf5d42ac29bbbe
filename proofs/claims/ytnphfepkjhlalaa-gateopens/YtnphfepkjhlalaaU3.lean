/- GateDots: its outer loop; the law. -/
import Derived.Test.YtnphfepkjhlalaaU2
namespace Go.Proofs.Ytnphfepkjhlalaa
set_option linter.unusedVariables false
set_option linter.unusedSimpArgs false
open Go.RowKit

structure FrU0 (B i : Nat) (a : Act) : Prop where
  d : a.defers = []
  s : a.tmps.size = 249
  f1 : a.tmps.getD 1 undef = .pointer (some ⟨B, 0, none⟩)
  f3 : a.tmps.getD 3 undef = .int .i64 i
structure EnvG (B : Nat) (f0 : Value) (T : List Ten) (w : World) : Prop where
  b0 : w.cell? ⟨B, 0, none⟩ = some f0
  hT : TensL w f0 T
theorem EnvG.later {B : Nat} {f0 : Value} {T : List Ten} {w w' : World} (hb : Below w.heap.size w w') (h : EnvG B f0 T w) : EnvG B f0 T w' := ⟨cell_later hb h.b0, h.hT.later hb⟩
set_option maxRecDepth 1000000 in
set_option maxHeartbeats 16000000 in
theorem uloop1 {B c0 : Nat} {f : Option Addr} {T : List Ten} {W : World} {Q : Exit → Act → World → Prop}
    (hcT : T.length ≤ c0) (hT0 : T.length ≤ 17592186044416)
    (HE : Hid (EnvG B (.slice f T.length c0) T W))
    (hexit : ∀ a' w' i, FrU0 B i a' → Below W.heap.size W w' → Q (.exit 0) a' w')
    (a : Act) (w : World) (ha : FrU0 B 0 a) (hb : Below W.heap.size W w) :
    Code.wp Try.prog (.loop (((Try.f4.body.map loopsIn).getD []).getD 0 .skip)) Q a w := by
  refine wp_loop (fun a' w' => (∃ i : Nat, i ≤ T.length ∧ i ≤ 6 ∧ FrU0 B i a') ∧ Below W.heap.size W w') (fun a' _ => 6 - slotNat a' 3) ⟨⟨0, by omega, by omega, ha⟩, hb⟩ ?_
  clear ha hb
  clear a w
  intro a w ⟨⟨i, hi, hi6, hf⟩, hb⟩
  obtain ⟨G, hg, e⟩ := act249 a hf.d hf.s
  obtain ⟨hz1, hz2, g1, g3⟩ := hf
  rw [hg] at g1 g3 
  clear hz1 hz2
  subst e
  clear hg
  rw [g1, g3]
  clear g1 g3
  have HEX : Hid (∀ a' w' i, FrU0 B i a' → Below W.heap.size W w' → Q (.exit 0) a' w') := hexit
  have HB : Hid (Below W.heap.size W w) := hb
  have HEW : Hid (EnvG B (.slice f T.length c0) T w) := HE.out.later hb
  clear hexit hb
  have hbx := HEW.out.b0
  conv => arg 2; whnf
  by_cases hlt : i < T.length
  · by_cases hlt6 : i < 6
    · obtain ⟨tb, tof, xa, xc, ya, yc, ea, hr1, hr2, HTT⟩ := HEW.out.hT.row i hlt
      subst ea
      obtain ⟨t, ht⟩ : ∃ t, T[i] = t := ⟨_, rfl⟩
      rw [ht] at hr1 hr2 HTT
      obtain ⟨xn, hxn⟩ : ∃ n, t.1.length = n := ⟨_, rfl⟩
      obtain ⟨yn, hyn⟩ : ∃ n, t.2.length = n := ⟨_, rfl⟩
      rw [hxn] at hr1 HTT
      rw [hyn] at hr2 HTT
      have HYN : Hid (t.2.length = yn) := hyn
      clear ht hxn hyn
      have hv : Below w.heap.size w (w.alloc (.cells #[.slice xa xn xc, .slice ya yn yc] 28)) := Below.push (Below.refl _ _) _
      have HL1 : Hid (TB (w.alloc (.cells #[.slice xa xn xc, .slice ya yn yc] 28)) w.heap.size (.slice xa xn xc) (.slice ya yn yc) t) := ⟨Box.new _ _ _, HTT.out.later hv⟩
      have HB1 : Hid (Below w.heap.size w (w.alloc (.cells #[.slice xa xn xc, .slice ya yn yc] 28))) := hv
      have u0 := HL1.out.box.c0
      have u1 := HL1.out.box.c1
      clear hv
      by_cases hx : tkE t = 0
      · obtain ⟨l, hll, he, hff, hk2, he2, hval⟩ := relu_law hx
        have HR1 : Hid (tkE t = 0 ∧ eachR opG t t = (t.1, l)) := ⟨hx, he⟩
        have HR2 : Hid (tkE (t.1, l) = 0 ∧ eachR opG (t.1, l) (t.1, l) = (t.1, l)) := ⟨hk2, he2⟩
        have HR3 : Hid (fitE t t = 0 ∧ eachR opG t t = (t.1, l)) := ⟨hff, he⟩
        have HV : Hid (∀ k, k < yn → l.getD k 0 = opG (t.2.getD k 0) (t.2.getD k 0)) := by rw [← HYN.out]; exact hval
        have HLL : Hid (l.length = yn) := by show _ = _; rw [hll, HYN.out]
        have hpos := tok_pos (fwE_tok hx)
        rw [HYN.out] at hpos
        clear hll he hff hk2 he2 hval hx
        go_wp2_with fail
        refine (relu_to 0 (t.1, l) HL1.out.ten HR1.out.1 HR1.out.2).mono ?_
        rintro e w2 ⟨x0, x1, rfl, ho, hb2⟩
        obtain ⟨xa2, xn2, xc2, rfl⟩ := ho.dims.ints.shape3
        obtain ⟨xb, xo, xcp, rfl, hxcp, hcx⟩ := Own.getD (n := yn) ho.data.ints HLL.out hpos.1
        obtain ⟨kb, ko, kc, hke, hkc, hck⟩ := Own.getD (n := yn) HL1.out.ten.2 HYN.out hpos.1
        simp only [Value.slice.injEq, true_and] at hke
        obtain ⟨rfl, rfl⟩ := hke
        have hv : Below w2.heap.size w2 (w2.alloc (.cells #[.slice xa2 xn2 xc2, .slice (some ⟨xb, xo, none⟩) yn xcp] 28)) := Below.push (Below.refl _ _) _
        have HL2 : Hid (Live (w2.alloc (.cells #[.slice xa2 xn2 xc2, .slice (some ⟨xb, xo, none⟩) yn xcp] 28)) [(w2.heap.size, .slice xa2 xn2 xc2, .slice (some ⟨xb, xo, none⟩) yn xcp, (t.1, l)), (w.heap.size, .slice xa xn xc, .slice (some ⟨kb, ko, none⟩) yn yc, t)]) := Live.push (L := [(w.heap.size, .slice xa xn xc, .slice (some ⟨kb, ko, none⟩) yn yc, t)]) ⟨HL1.out.later hb2, trivial⟩ ho.tens
        have HB2 : Hid (Below w.heap.size w (w2.alloc (.cells #[.slice xa2 xn2 xc2, .slice (some ⟨xb, xo, none⟩) yn xcp] 28))) := Below.after (Below.after HB1.out hb2) hv
        have HCX : Hid (∀ k, k < yn → (w2.alloc (.cells #[.slice xa2 xn2 xc2, .slice (some ⟨xb, xo, none⟩) yn xcp] 28)).cell? ⟨xb, xo + k, none⟩ = some (.int .i64 (l.getD k 0))) := fun k hk => cell_later hv (hcx k hk)
        have HCA : Hid (∀ k, k < yn → (w2.alloc (.cells #[.slice xa2 xn2 xc2, .slice (some ⟨xb, xo, none⟩) yn xcp] 28)).cell? ⟨kb, ko + k, none⟩ = some (.int .i64 (t.2.getD k 0))) := fun k hk => cell_later (Below.after hb2 hv) (hck k hk)
        have HEQ : Hid (Below (w2.alloc (.cells #[.slice xa2 xn2 xc2, .slice (some ⟨xb, xo, none⟩) yn xcp] 28)).heap.size (w2.alloc (.cells #[.slice xa2 xn2 xc2, .slice (some ⟨xb, xo, none⟩) yn xcp] 28)) (w2.alloc (.cells #[.slice xa2 xn2 xc2, .slice (some ⟨xb, xo, none⟩) yn xcp] 28))) := Below.refl _ _
        obtain ⟨V2, hV2⟩ : ∃ V, V = (w2.alloc (.cells #[.slice xa2 xn2 xc2, .slice (some ⟨xb, xo, none⟩) yn xcp] 28)) := ⟨_, rfl⟩
        rw [← hV2] at HL2 HB2 HCX HCA HEQ
        clear ho hb2 hv u0 u1 hcx hck
        have c0 := HL2.out.1.box.c0
        have c1 := HL2.out.1.box.c1
        have c2 := HL2.out.2.1.box.c0
        have c3 := HL2.out.2.1.box.c1
        rw [hV2] at c0 c1 c2 c3
        go_wp2_with (go_at_call 11; refine (num_any _ _).mono ?_; rintro e w' ⟨rfl, rfl⟩)
        rw [← hV2]
        refine (relu_to 0 (t.1, l) HL2.out.1.ten HR2.out.1 HR2.out.2).mono ?_
        rintro e w3 ⟨x0, x1, rfl, ho, hb3⟩
        obtain ⟨xa3, xn3, xc3, rfl⟩ := ho.dims.ints.shape3
        obtain ⟨ya3, yn3, yc3, rfl⟩ := ho.data.ints.shape3
        have HL3 : Hid (Live (w3.alloc (.cells #[.slice xa3 xn3 xc3, .slice ya3 yn3 yc3] 28)) _) := (HL2.out.later hb3).push ho.tens
        have HB3 : Hid (Below V2.heap.size V2 (w3.alloc (.cells #[.slice xa3 xn3 xc3, .slice ya3 yn3 yc3] 28))) := Below.push hb3 _
        clear ho hb3 c0 c1 c2 c3 hV2
        have c2 := HL3.out.2.2.1.box.c0
        have c3 := HL3.out.2.2.1.box.c1
        go_wp2_with fail
        refine (step_to 0 (t.1, l) HL3.out.2.2.1.ten HL3.out.2.2.1.ten HR3.out.1 HR3.out.2).mono ?_
        rintro e w4 ⟨x0, x1, rfl, ho, hb4⟩
        obtain ⟨xa4, xn4, xc4, rfl⟩ := ho.dims.ints.shape3
        obtain ⟨ya4, yn4, yc4, rfl⟩ := ho.data.ints.shape3
        have HL4 : Hid (Live (w4.alloc (.cells #[.slice xa4 xn4 xc4, .slice ya4 yn4 yc4] 28)) _) := (HL3.out.later hb4).push ho.tens
        have HB4 : Hid (Below V2.heap.size V2 (w4.alloc (.cells #[.slice xa4 xn4 xc4, .slice ya4 yn4 yc4] 28))) := Below.push (Below.after HB3.out hb4) _
        clear ho hb4 c2 c3 HL3 HB3
        have c0 := HL4.out.2.1.box.c0
        have c1 := HL4.out.2.1.box.c1
        have c2 := HL4.out.2.2.1.box.c0
        have c3 := HL4.out.2.2.1.box.c1
        go_wp2_with (go_at_call 11; refine (num_any _ _).mono ?_; rintro e w' ⟨rfl, rfl⟩)
        refine (eqt_to HL4.out.2.2.1.ten HL4.out.2.1.ten rfl).mono ?_
        rintro e w5 ⟨rfl, hb5⟩
        have HL5 : Hid (Live w5 _) := HL4.out.later hb5
        have HB5 : Hid (Below V2.heap.size V2 w5) := Below.after HB4.out hb5
        clear hb5 c0 c1 c2 c3 HL4 HB4
        have c0 := HL5.out.1.box.c0
        have c1 := HL5.out.1.box.c1
        have c2 := HL5.out.2.2.1.box.c0
        have c3 := HL5.out.2.2.1.box.c1
        go_wp2_with fail
        refine (eqt_to HL5.out.2.2.1.ten HL5.out.1.ten rfl).mono ?_
        rintro e w6 ⟨rfl, hb6⟩
        have HL6 : Hid (Live w6 _) := HL5.out.2.2.later hb6
        have HB6 : Hid (Below V2.heap.size V2 w6) := Below.after HB5.out hb6
        clear hb6 c0 c1 c2 c3 HL5 HB5
        have c0 := HL6.out.1.box.c0
        have c1 := HL6.out.1.box.c1
        have c2 := HL6.out.2.1.box.c0
        have c3 := HL6.out.2.1.box.c1
        have HCX6 : Hid (∀ k, k < yn → w6.cell? ⟨xb, xo + k, none⟩ = some (.int .i64 (l.getD k 0))) := fun k hk => cell_later HB6.out (HCX.out k hk)
        have HCA6 : Hid (∀ k, k < yn → w6.cell? ⟨kb, ko + k, none⟩ = some (.int .i64 (t.2.getD k 0))) := fun k hk => cell_later HB6.out (HCA.out k hk)
        have HBW6 : Hid (Below w.heap.size w w6) := Below.after HB2.out HB6.out
        clear HCX HCA HL2 HB2 HB6 HEQ
        go_wp2
        refine uloop2 (al := t.2) (xl := l) hpos.2 hkc hxcp c3 c1 HCA6 HCX6 HV ?_ _ ⟨rfl, rfl, rfl, rfl, rfl, rfl, rfl⟩
        intro a7 w7 k7 hf7 hb7
        clear c0 c1 c2 c3
        obtain ⟨G7, hg7, e7⟩ := act249 a7 hf7.d hf7.s
        obtain ⟨hz1, hz2, g1, g3, g4, g5, g11⟩ := hf7
        rw [hg7] at g1 g3 g4 g5 g11 
        clear hz1 hz2
        subst e7
        clear hg7
        rw [g1, g3, g4, g5, g11]
        clear g1 g3 g4 g5 g11
        have HT7 : Hid (TB w7 w.heap.size (.slice xa xn xc) (.slice (some ⟨kb, ko, none⟩) yn yc) t) := HL6.out.2.1.later hb7
        have HB7 : Hid (Below w.heap.size w w7) := Below.after HBW6.out hb7
        have HK : Hid (tkE t = 0) := HR1.out.1
        clear hb7 HL6 HBW6 HCA6 HCX6
        go_wp2
        refine uloop3 (W := w7) HT7 HK ?_ _ _ ⟨rfl, rfl, rfl, rfl, rfl, rfl⟩ (Below.refl _ _)
        intro a9 w9 n9 hf9 hb9
        obtain ⟨G9, hg9, e9⟩ := act249 a9 hf9.d hf9.s
        obtain ⟨hz1, hz2, g1, g3, g4, g12⟩ := hf9
        rw [hg9] at g1 g3 g4 g12 
        clear hz1 hz2
        subst e9
        clear hg9
        rw [g1, g3, g4, g12]
        clear g1 g3 g4 g12
        have HB9 : Hid (Below W.heap.size W w9) := Below.after HB.out (Below.after HB7.out hb9)
        clear hb9
        go_wp2
        refine ⟨⟨⟨i + 1, by omega, by omega, rfl, rfl, rfl, ?_⟩, HB9.out⟩, ?_⟩
        · show Value.int .i64 _ = _
          go_num
        · show 6 - (intOf (Value.int .i64 _)).toNat < 6 - (intOf (Value.int .i64 _)).toNat
          simp [intOf]
          omega
      · obtain ⟨e0, he0⟩ : ∃ e, tkE t = e := ⟨_, rfl⟩
        have HR1 : Hid (tkE t = e0) := he0
        rw [he0] at hx
        have hne : (e0 == 0) = false := by simp [hx]
        clear hx he0
        go_wp2_with fail
        refine (relu_to e0 _ HL1.out.ten HR1.out rfl).mono ?_
        rintro e w2 ⟨x0, x1, rfl, ho, hb2⟩
        obtain ⟨xa2, xn2, xc2, rfl⟩ := ho.dims.ints.shape3
        obtain ⟨ya2, yn2, yc2, rfl⟩ := ho.data.ints.shape3
        have HB2 : Hid (Below W.heap.size W (w2.alloc (.cells #[.slice xa2 xn2 xc2, .slice ya2 yn2 yc2] 28))) := Below.push (Below.after HB.out (Below.after HB1.out hb2)) _
        clear ho hb2
        go_wp2_with (go_at_call 11; refine (num_any _ _).mono ?_; rintro e w' ⟨rfl, rfl⟩)
        refine ⟨⟨⟨i + 1, by omega, by omega, rfl, rfl, rfl, ?_⟩, HB2.out⟩, ?_⟩
        · show Value.int .i64 _ = _
          go_num
        · show 6 - (intOf (Value.int .i64 _)).toNat < 6 - (intOf (Value.int .i64 _)).toNat
          simp [intOf]
          omega
    · go_wp2
      exact HEX.out _ _ i ⟨rfl, rfl, rfl, rfl⟩ HB.out
  · go_wp2
    exact HEX.out _ _ i ⟨rfl, rfl, rfl, rfl⟩ HB.out

set_option maxRecDepth 100000 in
set_option maxHeartbeats 8000000 in
theorem gateDots_any {f0 f1 : Value} {T : List Ten} {L : List Int} {w : World} (h0 : TensL w f0 T ∧ ∀ t ∈ T, Rg t.2) (h1 : Ints w f1 L ∧ L.length ≤ 17592186043904) :
    Calls Try.prog 4 #[.agg #[f0, f1]] w fun e w' => e = .returned (.bool true) ∧ Below w.heap.size w w' := by
  obtain ⟨h0, hrt⟩ := h0
  obtain ⟨h1, hN8⟩ := h1
  have hb : Below w.heap.size w (w.alloc (.cells #[f0, f1] 25)) := (Below.refl _ _).alloc (Nat.le_refl _) _
  obtain ⟨na, nc, rfl⟩ := h1.shape
  obtain ⟨a0, c0, rfl⟩ : ∃ a c, f0 = .slice a T.length c := by obtain ⟨_, a0, c0, rfl, _⟩ := h0; exact ⟨_, _, rfl⟩
  have HB : Hid (Below w.heap.size w (w.alloc (.cells #[.slice a0 T.length c0, .slice na L.length nc] 25))) := hb
  have H0 : Hid (TensL (w.alloc (.cells #[.slice a0 T.length c0, .slice na L.length nc] 25)) (.slice a0 T.length c0) T) := h0.later hb
  have H1 : Hid (Ints (w.alloc (.cells #[.slice a0 T.length c0, .slice na L.length nc] 25)) (.slice na L.length nc) L) := h1.later hb
  have hT := h0.1
  unfold big at hT
  have hcT : T.length ≤ c0 := by
    obtain ⟨_, a', c', e, h1, _⟩ := h0
    simp only [Value.slice.injEq] at e
    omega
  clear h0 h1 hb hrt
  go_enter Try.func4, Try.ntmps4
  go_wp2_with fail
  refine (heavy2_any H0.out H1.out).mono ?_
  rintro e w1 ⟨hv, rfl, hb1⟩
  have HB1 : Hid (Below w.heap.size w w1) := Below.after HB.out hb1
  cases hv with
  | true =>
    go_wp2
    go_ret
    exact ⟨rfl, HB1.out⟩
  | false =>
    have HE : Hid (EnvG w.heap.size (.slice a0 T.length c0) T w1) := ⟨cell_later hb1 (by simp), H0.out.later hb1⟩
    clear hb1 H0 H1 HB
    go_wp2
    refine uloop1 (W := w1) hcT hT HE ?_ _ _ ⟨rfl, rfl, rfl, rfl⟩ (Below.refl _ _)
    intro a3' w3 q hf3 hb3
    obtain ⟨G3, hg3, e3⟩ := act249 a3' hf3.d hf3.s
    clear hf3
    subst e3
    clear hg3
    have HB3 : Hid (Below w.heap.size w w3) := Below.after HB1.out hb3
    clear hb3
    go_wp2_with (go_at_call 24; refine (within_ok 3 2 (by decide) (by decide) (by decide)).mono ?_; rintro e w' ⟨rfl, rfl⟩)
    refine wakes5_any.mono ?_
    rintro e w5 ⟨rfl, hb5⟩
    have HB5 : Hid (Below w.heap.size w w5) := Below.after HB3.out hb5
    clear hb5
    go_wp2
    go_ret
    exact ⟨rfl, HB5.out⟩
end Go.Proofs.Ytnphfepkjhlalaa
