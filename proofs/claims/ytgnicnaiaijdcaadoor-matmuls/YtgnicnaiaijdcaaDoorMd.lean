/- MatMuls: its loop over powers. -/
import Derived.Test.YtgnicnaiaijdcaaDoorMc
namespace Go.Proofs.YtgnicnaiaijdcaaDoor
set_option linter.unusedVariables false
set_option linter.unusedSimpArgs false
open Go.RowKit

/-- What the loops over numbers read. -/
structure EnvN (B g : Nat) (f0 : Value) (T : List Ten) (ns : List Int) (w : World) : Prop where
  b0 : w.cell? ⟨B, 0, none⟩ = some f0
  hT : TensL w f0 T
  ns : ∀ j (h : j < ns.length), w.cell? ⟨g, j, none⟩ = some (.int .i64 ns[j])
  hg : w.cell? ⟨2, 1, none⟩ = some (.int .u8 1)
theorem EnvN.later {B g : Nat} {f0 : Value} {T : List Ten} {ns : List Int} {w w' : World} (hb : Below w.heap.size w w') (h : EnvN B g f0 T ns w) : EnvN B g f0 T ns w' :=
  ⟨cell_later hb h.b0, h.hT.later hb, fun j hj => cell_later hb (h.ns j hj), cell_later hb h.hg⟩
theorem EnvN.at {B g k : Nat} {f0 : Value} {T : List Ten} {ns : List Int} {w : World} {x : Int} (h : EnvN B g f0 T ns w) (hk : k < ns.length) (hx : ns.getD k 0 = x) : w.cell? ⟨g, k, none⟩ = some (.int .i64 x) := by
  rw [← hx, show ns.getD k 0 = ns[k] by simp [hk]]
  exact h.ns k hk
theorem poE_bad1 {s : Ten} {n : Int} (h : tok s = false) : poE s n = 1 ∧ poR s n = ([], []) := by
  have e : poE s n = 1 := by simp [poE, h]
  exact ⟨e, by rw [poR, e]; rfl⟩
theorem poE_bad2 {s : Ten} {n : Int} (h : ¬ (0 ≤ n ∧ n ≤ 1073741824)) : poE s n = 1 ∧ poR s n = ([], []) := by
  have e : poE s n = 1 := by rw [poE, if_neg (by omega)]
  exact ⟨e, by rw [poR, e]; rfl⟩
theorem poE_four {s : Ten} {n : Int} (hs : tok s = true) (hn : 0 ≤ n ∧ n ≤ 1073741824) (h : ¬ (s.1.length = 2 ∧ s.1.getD 0 0 = s.1.getD 1 0)) : poE s n = 4 ∧ poR s n = ([], []) := by
  have e : poE s n = 4 := by rw [poE, if_pos ⟨hs, hn⟩, if_neg h]
  exact ⟨e, by rw [poR, e]; rfl⟩
theorem ten_eta2 {t : Ten} {d : List Int} (h : t.1 = d) : t = (d, t.2) := by rw [← h]

set_option maxRecDepth 1000000 in
set_option maxHeartbeats 16000000 in
theorem mloop4 {B g gcap n k c0 : Nat} {f : Option Addr} {T : List Ten} {ns : List Int} {W : World} {Q : Exit → Act → World → Prop}
    (hk : k < n) (hn : ns.length = n) (hn0 : n ≤ 17592186044416) (hcap : n ≤ gcap) (hcT : T.length ≤ c0) (hT0 : T.length ≤ 17592186044416) (HRT : Hid (∀ t ∈ T, Rg t.2))
    (HE : Hid (EnvN B g (.slice f T.length c0) T ns W))
    (hexit : ∀ a' w' i, FrN B g gcap n k i a' → Below W.heap.size W w' → Q (.exit 6) a' w')
    (a : Act) (w : World) (ha : FrN B g gcap n k 0 a) (hb : Below W.heap.size W w) :
    Code.wp Tryd.prog (.loop (((Tryd.f3.body.map loopsIn).getD []).getD 3 .skip)) Q a w := by
  refine wp_loop (fun a' w' => (∃ i : Nat, i ≤ T.length ∧ i ≤ 6 ∧ FrN B g gcap n k i a') ∧ Below W.heap.size W w') (fun a' _ => 6 - slotNat a' 17) ⟨⟨0, by omega, by omega, ha⟩, hb⟩ ?_
  clear ha hb
  clear a w
  intro a w ⟨⟨i, hi, hi6, hf⟩, hb⟩
  obtain ⟨G, hg, e⟩ := act235 a hf.d hf.s
  obtain ⟨hz1, hz2, g1, g11, g12, g17⟩ := hf
  rw [hg] at g1 g11 g12 g17
  clear hz1 hz2
  subst e
  clear hg
  rw [g1, g11, g12, g17]
  clear g1 g11 g12 g17
  have HEX : Hid (∀ a' w' i, FrN B g gcap n k i a' → Below W.heap.size W w' → Q (.exit 6) a' w') := hexit
  have HB : Hid (Below W.heap.size W w) := hb
  have HEW : Hid (EnvN B g (.slice f T.length c0) T ns w) := HE.out.later hb
  clear hexit hb
  have hbx := HEW.out.b0
  conv => arg 2; whnf
  by_cases hlt : i < T.length
  · by_cases hlt6 : i < 6
    · obtain ⟨tb, tof, xa, xc, ya, yc, ea, hr1, hr2, HTT⟩ := HEW.out.hT.row i hlt
      subst ea
      have HRG : Hid (Rg T[i].2) := HRT.out T[i] (List.getElem_mem hlt)
      obtain ⟨t, ht⟩ : ∃ t, T[i] = t := ⟨_, rfl⟩
      rw [ht] at hr1 hr2 HTT HRG
      obtain ⟨xn, hxn⟩ : ∃ n, t.1.length = n := ⟨_, rfl⟩
      obtain ⟨yn, hyn⟩ : ∃ n, t.2.length = n := ⟨_, rfl⟩
      rw [hxn] at hr1 HTT
      rw [hyn] at hr2 HTT
      have HXN : Hid (t.1.length = xn ∧ t.2.length = yn) := ⟨hxn, hyn⟩
      obtain ⟨nk, hnk⟩ : ∃ x, ns.getD k 0 = x := ⟨_, rfl⟩
      have HNK : Hid (ns.getD k 0 = nk) := hnk
      have HHK : Hid (k < ns.length) := by show _ < _; omega
      clear ht hxn hyn hnk
      have hv : Below w.heap.size w (w.alloc (.cells #[.slice xa xn xc, .slice ya yn yc] 28)) := Below.push (Below.refl _ _) _
      have HL0 : Hid (Live (w.alloc (.cells #[.slice xa xn xc, .slice ya yn yc] 28)) [(w.heap.size, .slice xa xn xc, .slice ya yn yc, t)]) := ⟨⟨Box.new _ _ _, HTT.out.later hv⟩, trivial⟩
      have HV : Hid (Below w.heap.size w (w.alloc (.cells #[.slice xa xn xc, .slice ya yn yc] 28))) := hv
      have hcv : (w.alloc (.cells #[.slice xa xn xc, .slice ya yn yc] 28)).cell? ⟨g, k, none⟩ = some (.int .i64 nk) := (HEW.out.later hv).at HHK.out HNK.out
      have HGV : Hid ((w.alloc (.cells #[.slice xa xn xc, .slice ya yn yc] 28)).cell? ⟨2, 1, none⟩ = some (.int .u8 1)) := (HEW.out.later hv).hg
      have hgw : g < w.heap.size := World.block_lt_of_cell? _ _ (HEW.out.at HHK.out HNK.out)
      obtain ⟨e0, he0⟩ : ∃ e, poE t nk = e := ⟨_, rfl⟩
      obtain ⟨u, hu⟩ : ∃ u, poR t nk = u := ⟨_, rfl⟩
      have HPE : Hid (poE t nk = e0 ∧ poR t nk = u) := ⟨he0, hu⟩
      clear he0 hu hv
      go_upto_region 35 with fail
      refine mreg35 (t := t) (u := u) (e0 := e0) (nk := nk) hk hcap hn0 hcv HGV HL0 HPE ?_ _ ⟨rfl, rfl, rfl, rfl, rfl, rfl⟩ rfl
      intro a1 w1 By y0 y1 hf1 hl1 hb1
      obtain ⟨G1, hg1, e1⟩ := act235 a1 hf1.d hf1.s
      obtain ⟨hz1, hz2, g1, g11, g12, g17, g18, g19, g20⟩ := hf1
      rw [hg1] at g1 g11 g12 g17 g18 g19 g20
      clear hz1 hz2
      subst e1
      clear hg1
      rw [g1, g11, g12, g17, g18, g19, g20]
      clear g1 g11 g12 g17 g18 g19 g20
      obtain ⟨ya1, yn1, yc1, rfl⟩ := hl1.1.ten.1.shape3
      obtain ⟨za1, zn1, zc1, rfl⟩ := hl1.1.ten.2.shape3
      have HL1 : Hid (Live w1 _) := hl1
      have HB1 : Hid (Below w.heap.size w w1) := Below.after HV.out hb1
      have hBa : w.heap.size < w1.heap.size := hl1.2.1.box.lt
      clear hl1 hb1 hbx hr1 hr2 HL0 HTT hcv HGV HV
      have HVB : Hid (Below w1.heap.size w1 (w1.alloc (.cells #[.slice none 0 0, .slice none 0 0] 28))) := Below.push (Below.refl _ _) _
      have HV4 : Hid (Live (w1.alloc (.cells #[.slice none 0 0, .slice none 0 0] 28)) [(w1.heap.size, .slice none 0 0, .slice none 0 0, ([], []))]) := Live.push (L := []) trivial ⟨Ints.nil _, Ints.nil _⟩
      go_upto_region 38 with fail
      have c1 := (HL1.out.later HVB.out).2.1.box.c0
      have c2 := (HL1.out.later HVB.out).2.1.box.c1
      rename_i K1 hK1 K0 hK0
      have HM : Hid (∀ a' w', FrV B g gcap n k i w.heap.size By w1.heap.size e0 e0 a' → (∃ r0 r1, Live w' [(w1.heap.size, r0, r1, u)]) → Below w1.heap.size w1 w' → K1 a' w') := by
        intro a6 w6 hf6 ⟨r0, r1, hl6⟩ hb6
        apply hK1
        clear hK1 hK0 K0 c1 c2 HV4 HVB
        have HL6 : Hid (Live w6 _) := HL1.out.later hb6
        have HBZ6 : Hid (Below W.heap.size W w6) := Below.after HB.out (Below.after HB1.out hb6)
        have HP6 : Hid (Live w6 _) := hl6
        clear hl6 hb6 HL1 HB1
        obtain ⟨G6, hg6, e6⟩ := act235 a6 hf6.d hf6.s
        obtain ⟨hz1, hz2, g1, g11, g12, g17, g18, g19, g20, g21, g22⟩ := hf6
        rw [hg6] at g1 g11 g12 g17 g18 g19 g20 g21 g22
        clear hz1 hz2
        subst e6
        clear hg6
        rw [g1, g11, g12, g17, g18, g19, g20, g21, g22]
        clear g1 g11 g12 g17 g18 g19 g20 g21 g22
        have u1 := HL6.out.1.box.c0
        have u2 := HL6.out.1.box.c1
        have u3 := HP6.out.1.box.c0
        have u4 := HP6.out.1.box.c1
        go_wp2_with (go_at_call 11; refine (num_any _ _).mono ?_; rintro e w' ⟨rfl, rfl⟩)
        refine (eqt_to HL6.out.1.ten HP6.out.1.ten rfl).mono ?_
        rintro e w8 ⟨rfl, hb8⟩
        have HBZ : Hid (Below W.heap.size W w8) := Below.after HBZ6.out hb8
        clear hb8 u1 u2 u3 u4
        go_wp2
        refine ⟨⟨⟨i + 1, by omega, by omega, rfl, rfl, rfl, rfl, rfl, ?_⟩, HBZ.out⟩, ?_⟩
        · show Value.int .i64 _ = _
          go_num
        · show 6 - (intOf (Value.int .i64 _)).toNat < 6 - (intOf (Value.int .i64 _)).toNat
          simp [intOf]
          omega
      clear hK1
      cases hs : tok t with
      | false =>
        have HF : Hid (e0 = 1 ∧ u = ([], [])) := by
          show _ ∧ _
          rw [← HPE.out.1, ← HPE.out.2]
          exact poE_bad1 hs
        have HS : Hid (tok t = false) := hs
        clear hs
        go_wp2_with fail
        refine (rtensor_to false (HL1.out.later HVB.out).2.1.ten HS.out).mono ?_
        rintro e w5 ⟨rfl, hb5⟩
        have HV5 : Hid (Live w5 _) := HV4.out.later hb5
        have HB5 : Hid (Below w1.heap.size w1 w5) := Below.after HVB.out hb5
        clear hb5
        go_wp2
        refine HM.out _ _ ⟨rfl, rfl, rfl, rfl, rfl, rfl, rfl, rfl, rfl, by rw [HF.out.1]; rfl, rfl⟩ ⟨.slice none 0 0, .slice none 0 0, ?_⟩ HB5.out
        rw [HF.out.2]
        exact HV5.out
      | true =>
        have HS : Hid (tok t = true) := hs
        go_wp2_with fail
        refine (rtensor_to true (HL1.out.later HVB.out).2.1.ten HS.out).mono ?_
        rintro e w5 ⟨rfl, hb5⟩
        have HV5 : Hid (Live w5 _) := HV4.out.later hb5
        have HB5 : Hid (Below w1.heap.size w1 w5) := Below.after HVB.out hb5
        clear hb5 HVB HV4 c1 c2
        have hcn : w5.cell? ⟨g, k, none⟩ = some (.int .i64 nk) := (HEW.out.later (Below.after HB1.out HB5.out)).at HHK.out HNK.out
        by_cases hnn : 0 ≤ nk ∧ nk ≤ 1073741824
        · have HNN : Hid (0 ≤ nk ∧ nk ≤ 1073741824) := hnn
          clear hnn
          go_wp2_with fail
          refine (numb_to true nk 1073741824 _ (by have := HNN.out; simp; omega)).mono ?_
          rintro e w5' ⟨rfl, rfl⟩
          have c1 := (HL1.out.later HB5.out).2.1.box.c0
          by_cases h2 : xn = 2
          · subst h2
            obtain ⟨p, q, hd⟩ := nat2 (l := t.2) hs HXN.out.1
            have HD : Hid (t = ([(p : Int), (q : Int)], t.2)) := ten_eta2 hd
            have ta := (HL1.out.later HB5.out).2.1.ten
            rw [HD.out] at ta hs
            have HTA : Hid (Tens w5 _ _ ([(p : Int), (q : Int)], t.2)) := ta
            have hlp := (tok2 hs).2.2.2.2
            obtain ⟨db, dof, dc, ab, ao, ac, MA⟩ := ta.mat hlp (Nat.mul_pos (tok2 hs).1 (tok2 hs).2.2.1)
            have m0 := MA.e0
            have hdc := MA.hdc
            simp only [Value.slice.injEq] at m0
            obtain ⟨rfl, _, rfl⟩ := m0
            have d1 := MA.c0
            have d2 := MA.c1
            have HSK : Hid (tok ([(p : Int), (q : Int)], t.2) = true) := hs
            clear MA ta hlp hs hd
            by_cases h4 : p = q
            · subst h4
              obtain ⟨m, rfl⟩ : ∃ m : Nat, nk = m := ⟨nk.toNat, by have := HNN.out; omega⟩
              have hm : m ≤ 1073741824 := by have := HNN.out; omega
              have HF : Hid (e0 = 0 ∧ u = ([(p : Int), (p : Int)], mpw p t.2 m)) := by
                show _ ∧ _
                rw [← HPE.out.1, ← HPE.out.2, HD.out]
                exact ⟨poE_ok HSK.out hm, poR_ok HSK.out hm⟩
              go_wp2_with fail
              go_quiet (fail)
              have hnq : Below w5.heap.size w5 (w5.drewN nq) := Below.drewN (Below.refl _ _) _
              have hcq := cell_later hnq hcn
              have k0 := cell_later hnq c1
              have k1 := cell_later hnq (HL1.out.later HB5.out).2.1.box.c1
              have HTQ : Hid (Tens (w5.drewN nq) _ _ ([(p : Int), (p : Int)], t.2)) := HTA.out.later hnq
              have HZQ : Hid (Box (w5.drewN nq) w1.heap.size (.slice none 0 0) (.slice none 0 0)) := (HV5.out.later hnq).1.box
              have HBQ : Hid (Below w1.heap.size w1 (w5.drewN nq)) := Below.drewN HB5.out _
              clear hnq hcn c1 d1 d2
              go_upto_region 41 with fail
              refine mreg41 (V := w1) (Bz := w1.heap.size) (m := m) (p := p) (l := t.2) hk hcap hn0 hm hcq k0 k1 (Nat.ne_of_gt hBa) (by have := HB1.out.size; omega) HTQ HSK HRG HZQ HBQ rfl ?_ _ ⟨rfl, rfl, rfl, rfl, rfl, rfl, rfl, rfl, rfl, rfl, rfl⟩
              intro a7 w7 r0 r1 hf7 hl7 hb7
              obtain ⟨G7, hg7, e7⟩ := act235 a7 hf7.d hf7.s
              obtain ⟨hz1, hz2, g1, g11, g12, g17, g18, g19, g20, g21, g22⟩ := hf7
              rw [hg7] at g1 g11 g12 g17 g18 g19 g20 g21 g22
              clear hz1 hz2
              subst e7
              clear hg7
              rw [g1, g11, g12, g17, g18, g19, g20, g21, g22]
              clear g1 g11 g12 g17 g18 g19 g20 g21 g22
              have HL7 : Hid (Live w7 _) := hl7
              have HB7 : Hid (Below w1.heap.size w1 w7) := hb7
              clear hl7 hb7 hcq k0 k1
              go_wp2
              refine HM.out _ _ ⟨rfl, rfl, rfl, rfl, rfl, rfl, rfl, rfl, rfl, by rw [HF.out.1]; rfl, rfl⟩ ⟨r0, r1, ?_⟩ HB7.out
              rw [HF.out.2]
              exact HL7.out
            · have HF : Hid (e0 = 4 ∧ u = ([], [])) := by
                show _ ∧ _
                rw [← HPE.out.1, ← HPE.out.2, HD.out]
                exact poE_four HSK.out HNN.out (by simp; omega)
              have g1 : ((p : Int) == (q : Int)) = false := by simp; omega
              have g2 : decide ((p : Int) = (q : Int)) = false := by simp; omega
              go_wp2_with fail
              go_quiet (fail)
              go_wp2
              refine HM.out _ _ ⟨rfl, rfl, rfl, rfl, rfl, rfl, rfl, rfl, rfl, by rw [HF.out.1]; rfl, rfl⟩ ⟨.slice none 0 0, .slice none 0 0, ?_⟩ (Below.drewN HB5.out _)
              rw [HF.out.2]
              exact HV5.out.later (Below.drewN (Below.refl _ _) _)
          · have HF : Hid (e0 = 4 ∧ u = ([], [])) := by
              show _ ∧ _
              rw [← HPE.out.1, ← HPE.out.2]
              exact poE_four hs HNN.out (by have := HXN.out; omega)
            have g1 : ((xn : Int) == 2) = false := by simp; omega
            have g2 : decide ((xn : Int) = 2) = false := by simp; omega
            clear hs
            go_wp2_with fail
            go_quiet (fail)
            go_wp2
            refine HM.out _ _ ⟨rfl, rfl, rfl, rfl, rfl, rfl, rfl, rfl, rfl, by rw [HF.out.1]; rfl, rfl⟩ ⟨.slice none 0 0, .slice none 0 0, ?_⟩ (Below.drewN HB5.out _)
            rw [HF.out.2]
            exact HV5.out.later (Below.drewN (Below.refl _ _) _)
        · have HF : Hid (e0 = 1 ∧ u = ([], [])) := by
            show _ ∧ _
            rw [← HPE.out.1, ← HPE.out.2]
            exact poE_bad2 hnn
          have HNN : Hid (¬ (0 ≤ nk ∧ nk ≤ 1073741824)) := hnn
          clear hnn
          go_wp2_with fail
          refine (numb_to false nk 1073741824 _ (by have := HNN.out; simp; omega)).mono ?_
          rintro e w5' ⟨rfl, rfl⟩
          go_wp2
          refine HM.out _ _ ⟨rfl, rfl, rfl, rfl, rfl, rfl, rfl, rfl, rfl, by rw [HF.out.1]; rfl, rfl⟩ ⟨.slice none 0 0, .slice none 0 0, ?_⟩ HB5.out
          rw [HF.out.2]
          exact HV5.out
    · go_wp2
      exact HEX.out _ _ i ⟨rfl, rfl, rfl, rfl, rfl, rfl⟩ HB.out
  · go_wp2
    exact HEX.out _ _ i ⟨rfl, rfl, rfl, rfl, rfl, rfl⟩ HB.out
end Go.Proofs.YtgnicnaiaijdcaaDoor
