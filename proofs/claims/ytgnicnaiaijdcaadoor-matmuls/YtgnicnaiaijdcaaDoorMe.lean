/- MatMuls: its loop over numbers. -/
import Derived.Test.YtgnicnaiaijdcaaDoorMd
namespace Go.Proofs.YtgnicnaiaijdcaaDoor
set_option linter.unusedVariables false
set_option linter.unusedSimpArgs false
open Go.RowKit

structure FrK (B g gcap n k : Nat) (a : Act) : Prop where
  d : a.defers = []
  s : a.tmps.size = 235
  f1 : a.tmps.getD 1 undef = .pointer (some ⟨B, 0, none⟩)
  f11 : a.tmps.getD 11 undef = .slice (some ⟨g, 0, none⟩) n gcap
  f12 : a.tmps.getD 12 undef = .int .i64 k
structure FrKe (B g gcap n k Bx Bz : Nat) (e0 bad : Int) (a : Act) : Prop where
  d : a.defers = []
  s : a.tmps.size = 235
  f1 : a.tmps.getD 1 undef = .pointer (some ⟨B, 0, none⟩)
  f11 : a.tmps.getD 11 undef = .slice (some ⟨g, 0, none⟩) n gcap
  f12 : a.tmps.getD 12 undef = .int .i64 k
  f13 : a.tmps.getD 13 undef = .pointer (some ⟨Bx, 0, none⟩)
  f14 : a.tmps.getD 14 undef = .int .i64 e0
  f15 : a.tmps.getD 15 undef = .int .i64 bad
  f16 : a.tmps.getD 16 undef = .pointer (some ⟨Bz, 0, none⟩)
theorem on_bad {n : Int} (h : ¬ (1 ≤ n ∧ n ≤ 8)) : onE n = 1 ∧ onR n = ([], []) := by
  have e : onE n = 1 := by rw [onE, if_neg h]
  exact ⟨e, by rw [onR, e]; rfl⟩

set_option maxRecDepth 1000000 in
set_option maxHeartbeats 16000000 in
theorem mloop3 {B g gcap n c0 : Nat} {f : Option Addr} {T : List Ten} {ns : List Int} {W : World} {Q : Exit → Act → World → Prop}
    (hn : ns.length = n) (hn0 : n ≤ 17592186044416) (hcap : n ≤ gcap) (hcT : T.length ≤ c0) (hT0 : T.length ≤ 17592186044416) (HRT : Hid (∀ t ∈ T, Rg t.2))
    (HE : Hid (EnvN B g (.slice f T.length c0) T ns W))
    (hexit : ∀ a' w' k, FrK B g gcap n k a' → Below W.heap.size W w' → Q (.exit 4) a' w')
    (a : Act) (w : World) (ha : FrK B g gcap n 0 a) (hb : Below W.heap.size W w) :
    Code.wp Tryd.prog (.loop (((Tryd.f3.body.map loopsIn).getD []).getD 2 .skip)) Q a w := by
  refine wp_loop (fun a' w' => (∃ k : Nat, k ≤ n ∧ k ≤ 15 ∧ FrK B g gcap n k a') ∧ Below W.heap.size W w') (fun a' _ => 15 - slotNat a' 12) ⟨⟨0, by omega, by omega, ha⟩, hb⟩ ?_
  clear ha hb
  clear a w
  intro a w ⟨⟨k, hk, hk15, hf⟩, hb⟩
  obtain ⟨G, hg, e⟩ := act235 a hf.d hf.s
  obtain ⟨hz1, hz2, g1, g11, g12⟩ := hf
  rw [hg] at g1 g11 g12
  clear hz1 hz2
  subst e
  clear hg
  rw [g1, g11, g12]
  clear g1 g11 g12
  have HEX : Hid (∀ a' w' k, FrK B g gcap n k a' → Below W.heap.size W w' → Q (.exit 4) a' w') := hexit
  have HB : Hid (Below W.heap.size W w) := hb
  have HEW : Hid (EnvN B g (.slice f T.length c0) T ns w) := HE.out.later hb
  clear hexit hb
  conv => arg 2; whnf
  by_cases hlt : k < n
  · by_cases hlt6 : k < 15
    · obtain ⟨nk, hnk⟩ : ∃ x, ns.getD k 0 = x := ⟨_, rfl⟩
      have HNK : Hid (ns.getD k 0 = nk) := hnk
      have HHK : Hid (k < ns.length) := by show _ < _; omega
      have hc := HEW.out.at HHK.out HNK.out
      obtain ⟨e0, he0⟩ : ∃ e, onE nk = e := ⟨_, rfl⟩
      obtain ⟨u, hu⟩ : ∃ u, onR nk = u := ⟨_, rfl⟩
      have HOE : Hid (onE nk = e0 ∧ onR nk = u) := ⟨he0, hu⟩
      clear hnk he0 hu
      go_wp2_with fail
      refine (one_to nk e0 u HOE.out.1 HOE.out.2).mono ?_
      rintro e w1 ⟨x, y, rfl, ho, hb1⟩
      obtain ⟨xa1, xn1, xc1, rfl⟩ := ho.dims.ints.shape3
      obtain ⟨ya1, yn1, yc1, rfl⟩ := ho.data.ints.shape3
      have HL1 : Hid (Live (w1.alloc (.cells #[.slice xa1 xn1 xc1, .slice ya1 yn1 yc1] 28)) [(w1.heap.size, .slice xa1 xn1 xc1, .slice ya1 yn1 yc1, u)]) := Live.push (L := []) trivial ho.tens
      have HB1 : Hid (Below w.heap.size w (w1.alloc (.cells #[.slice xa1 xn1 xc1, .slice ya1 yn1 yc1] 28))) := Below.push hb1 _
      clear ho hb1 hc
      have HVB : Hid (Below (w1.alloc (.cells #[.slice xa1 xn1 xc1, .slice ya1 yn1 yc1] 28)).heap.size (w1.alloc (.cells #[.slice xa1 xn1 xc1, .slice ya1 yn1 yc1] 28)) ((w1.alloc (.cells #[.slice xa1 xn1 xc1, .slice ya1 yn1 yc1] 28)).alloc (.cells #[.slice none 0 0, .slice none 0 0] 28))) := Below.push (Below.refl _ _) _
      have HV4 : Hid (Live ((w1.alloc (.cells #[.slice xa1 xn1 xc1, .slice ya1 yn1 yc1] 28)).alloc (.cells #[.slice none 0 0, .slice none 0 0] 28)) [((w1.heap.size + 1), .slice none 0 0, .slice none 0 0, ([], []))]) := by
        have h := Live.push (w := (w1.alloc (.cells #[.slice xa1 xn1 xc1, .slice ya1 yn1 yc1] 28))) (L := []) (t := ([], [])) trivial ⟨Ints.nil _, Ints.nil _⟩
        simp only [World.size_alloc] at h
        exact h
      have hc : ((w1.alloc (.cells #[.slice xa1 xn1 xc1, .slice ya1 yn1 yc1] 28)).alloc (.cells #[.slice none 0 0, .slice none 0 0] 28)).cell? ⟨g, k, none⟩ = some (.int .i64 nk) := (HEW.out.later (Below.after HB1.out HVB.out)).at HHK.out HNK.out
      go_upto_region 27 with fail
      rename_i K1 hK1 K0 hK0
      have HM : Hid (∀ a' w', FrKe B g gcap n k w1.heap.size (w1.heap.size + 1) e0 e0 a' → (∃ r0 r1, Live w' [((w1.heap.size + 1), r0, r1, u)]) → Below (w1.alloc (.cells #[.slice xa1 xn1 xc1, .slice ya1 yn1 yc1] 28)).heap.size (w1.alloc (.cells #[.slice xa1 xn1 xc1, .slice ya1 yn1 yc1] 28)) w' → K1 a' w') := by
        intro a6 w6 hf6 ⟨r0, r1, hl6⟩ hb6
        apply hK1
        clear hK1 hK0 K0 hc HV4 HVB
        have HL6 : Hid (Live w6 _) := HL1.out.later hb6
        have HB6 : Hid (Below w.heap.size w w6) := Below.after HB1.out hb6
        have HP6 : Hid (Live w6 _) := hl6
        clear hl6 hb6 HL1 HB1
        obtain ⟨G6, hg6, e6⟩ := act235 a6 hf6.d hf6.s
        obtain ⟨hz1, hz2, g1, g11, g12, g13, g14, g15, g16⟩ := hf6
        rw [hg6] at g1 g11 g12 g13 g14 g15 g16
        clear hz1 hz2
        subst e6
        clear hg6
        rw [g1, g11, g12, g13, g14, g15, g16]
        clear g1 g11 g12 g13 g14 g15 g16
        have u1 := HL6.out.1.box.c0
        have u2 := HL6.out.1.box.c1
        have u3 := HP6.out.1.box.c0
        have u4 := HP6.out.1.box.c1
        go_wp2_with (go_at_call 11; refine (num_any _ _).mono ?_; rintro e w' ⟨rfl, rfl⟩)
        refine (eqt_to HL6.out.1.ten HP6.out.1.ten rfl).mono ?_
        rintro e w8 ⟨rfl, hb8⟩
        have HB8 : Hid (Below w.heap.size w w8) := Below.after HB6.out hb8
        clear hb8 u1 u2 u3 u4
        go_wp2
        refine mloop4 (W := w8) hlt hn hn0 hcap hcT hT0 HRT (HEW.out.later HB8.out) ?_ _ _ ⟨rfl, rfl, rfl, rfl, rfl, rfl⟩ (Below.refl _ _)
        intro a9 w9 i9 hf9 hb9
        obtain ⟨G9, hg9, e9⟩ := act235 a9 hf9.d hf9.s
        obtain ⟨hz1, hz2, g1, g11, g12, g17⟩ := hf9
        rw [hg9] at g1 g11 g12 g17
        clear hz1 hz2
        subst e9
        clear hg9
        rw [g1, g11, g12, g17]
        clear g1 g11 g12 g17
        have HBZ : Hid (Below W.heap.size W w9) := Below.after HB.out (Below.after HB8.out hb9)
        clear hb9
        go_wp2
        refine ⟨⟨⟨k + 1, by omega, by omega, rfl, rfl, rfl, rfl, ?_⟩, HBZ.out⟩, ?_⟩
        · show Value.int .i64 _ = _
          go_num
        · show 15 - (intOf (Value.int .i64 _)).toNat < 15 - (intOf (Value.int .i64 _)).toNat
          simp [intOf]
          omega
      clear hK1
      by_cases hnn : 1 ≤ nk ∧ nk ≤ 8
      · obtain ⟨m, rfl⟩ : ∃ m : Nat, nk = m := ⟨nk.toNat, by omega⟩
        have HMM : Hid (1 ≤ m ∧ m ≤ 8) := by show _ ∧ _; omega
        have HF : Hid (e0 = 0 ∧ u = ([(m : Int), (m : Int)], onl m)) := by
          show _ ∧ _
          rw [← HOE.out.1, ← HOE.out.2]
          exact on_nat m HMM.out.1 HMM.out.2
        clear hnn
        go_wp2_with fail
        refine (between_t m 1 8 _ (by have := HMM.out; omega) (by have := HMM.out; omega)).mono ?_
        rintro e w5 ⟨rfl, rfl⟩
        go_wp2_with fail
        refine (rone_ok m HMM.out.1 HMM.out.2).mono ?_
        rintro e w7 ⟨x, y, rfl, ho, hb7⟩
        obtain ⟨ra, rn, rc, rfl⟩ := ho.dims.ints.shape3
        obtain ⟨sa, sn, sc, rfl⟩ := ho.data.ints.shape3
        have hz := (HV4.out.later hb7).1.box
        have z0 := hz.c0
        have z1 := hz.c1
        have z2 := hz.f 0
        have z3 := hz.f 1
        have hlt7 := HV4.out.1.box.lt
        have HB7 : Hid (Below (w1.alloc (.cells #[.slice xa1 xn1 xc1, .slice ya1 yn1 yc1] 28)).heap.size (w1.alloc (.cells #[.slice xa1 xn1 xc1, .slice ya1 yn1 yc1] 28)) _) := ((Below.after HVB.out hb7).setCell (p := ⟨(w1.heap.size + 1), 0, none⟩) (by simp) (.slice ra rn rc)).setCell (p := ⟨(w1.heap.size + 1), 1, none⟩) (by simp) (.slice sa sn sc)
        have HZ7 : Hid (Live _ [((w1.heap.size + 1), .slice ra rn rc, .slice sa sn sc, ([(m : Int), (m : Int)], onl m))]) := ⟨⟨hz.set (.slice ra rn rc) (.slice sa sn sc), (ho.set2 (p := (w1.heap.size + 1)) (.slice ra rn rc) (.slice sa sn sc) hlt7).tens⟩, trivial⟩
        clear ho hb7 hz hc
        go_wp2
        refine HM.out _ _ ⟨rfl, rfl, rfl, rfl, rfl, rfl, rfl, by rw [HF.out.1]; rfl, rfl⟩ ⟨.slice ra rn rc, .slice sa sn sc, ?_⟩ HB7.out
        rw [HF.out.2]
        exact HZ7.out
      · have HF : Hid (e0 = 1 ∧ u = ([], [])) := by
          show _ ∧ _
          rw [← HOE.out.1, ← HOE.out.2]
          exact on_bad hnn
        have HNN : Hid (¬ (1 ≤ nk ∧ nk ≤ 8)) := hnn
        clear hnn
        go_wp2_with fail
        refine (between_f nk 1 8 _ (by have := HNN.out; omega)).mono ?_
        rintro e w5 ⟨rfl, rfl⟩
        go_wp2
        refine HM.out _ _ ⟨rfl, rfl, rfl, rfl, rfl, rfl, rfl, by rw [HF.out.1]; rfl, rfl⟩ ⟨.slice none 0 0, .slice none 0 0, ?_⟩ HVB.out
        rw [HF.out.2]
        exact HV4.out
    · go_wp2
      exact HEX.out _ _ k ⟨rfl, rfl, rfl, rfl, rfl⟩ HB.out
  · go_wp2
    exact HEX.out _ _ k ⟨rfl, rfl, rfl, rfl, rfl⟩ HB.out
end Go.Proofs.YtgnicnaiaijdcaaDoor
