/- RingScales: its outer loop. -/
import Derived.Test.YtoocfoodnkikeaaS1
namespace Go.Proofs.Ytoocfoodnkikeaa
set_option linter.unusedVariables false
set_option linter.unusedSimpArgs false
open Go.RowKit

/-- What the outer loop reads. -/
structure EnvO (B g : Nat) (f0 : Value) (T : List Ten) (ns : List Int) (w : World) : Prop where
  b0 : w.cell? ⟨B, 0, none⟩ = some f0
  hT : TensL w f0 T
  ns : ∀ j (h : j < ns.length), w.cell? ⟨g, j, none⟩ = some (.int .i64 ns[j])
theorem EnvO.later {B g : Nat} {f0 : Value} {T : List Ten} {ns : List Int} {w w' : World} (h : EnvO B g f0 T ns w) (hb : Below w.heap.size w w') : EnvO B g f0 T ns w' :=
  ⟨cell_later hb h.b0, h.hT.later hb, fun j hj => cell_later hb (h.ns j hj)⟩
structure FrO (B g gcap n i : Nat) (a : Act) : Prop where
  d : a.defers = []
  s : a.tmps.size = 125
  f1 : a.tmps.getD 1 undef = .pointer (some ⟨B, 0, none⟩)
  f3 : a.tmps.getD 3 undef = .slice (some ⟨g, 0, none⟩) n gcap
  f4 : a.tmps.getD 4 undef = .int .i64 i
theorem zip_self (op : Int → Int → Int) (l : List Int) : List.zipWith op l l = l.map (fun y => op y y) := by
  induction l with
  | nil => rfl
  | cons x l ih => simp [ih]
theorem each_neg_ok {t : Ten} (h : tok t = true) : eachR opN t t = (t.1, t.2.map (fun y => wrap64 (y * -1))) := by
  have h0 : fitE t t = 0 := by rw [fit_self, tkE, h]; rfl
  rw [eachR, if_pos h0, zip_self]
  congr 2
  funext y
  rw [opN, Int.mul_neg, Int.mul_one]
theorem each_neg_bad {t : Ten} (h : tok t = false) : eachR opN t t = ([], []) := by
  have h0 : fitE t t = 1 := by rw [fit_self, tkE, h]; rfl
  rw [eachR, h0]; rfl
theorem total_at {a0 a1 : Value} {s : Ten} {w : World} (x y : Int) (ha : Tens w a0 a1 s) (hx : totV s = x) (hy : tkE s = y) :
    Calls Try.prog 22 #[.agg #[a0, a1]] w fun e w' => e = .returned (.tuple #[.int .i64 x, .int .i64 y]) ∧ Below w.heap.size w w' := total_to x y ha hx hy

set_option maxRecDepth 1000000 in
set_option maxHeartbeats 8000000 in
theorem sloop1 {B g gcap n c0 : Nat} {a0 : Option Addr} {T : List Ten} {ns : List Int} {W : World} {Q : Exit → Act → World → Prop}
    (hn : ns.length = n) (hn0 : n ≤ 17592186043909) (hcap : n ≤ gcap) (hcT : T.length ≤ c0) (hT0 : T.length ≤ 17592186044416)
    (HE : Hid (EnvO B g (.slice a0 T.length c0) T ns W))
    (hexit : ∀ a' w' i, FrO B g gcap n i a' → Below W.heap.size W w' → Q (.exit 0) a' w')
    (a : Act) (w : World) (ha : FrO B g gcap n 0 a) (hb : Below W.heap.size W w) :
    Code.wp Try.prog (.loop (((Try.f4.body.map loopsIn).getD []).getD 0 .skip)) Q a w := by
  refine wp_loop (fun a' w' => (∃ i : Nat, i ≤ T.length ∧ i ≤ 6 ∧ FrO B g gcap n i a') ∧ Below W.heap.size W w') (fun a' _ => 6 - slotNat a' 4) ⟨⟨0, by omega, by omega, ha⟩, hb⟩ ?_
  clear ha hb
  clear a w
  intro a w ⟨⟨i, hi, hi6, hf⟩, hb⟩
  obtain ⟨G, hg, e⟩ := act125 a hf.d hf.s
  obtain ⟨hz1, hz2, g1, g3, g4⟩ := hf
  rw [hg] at g1 g3 g4
  clear hz1 hz2
  subst e
  clear hg
  rw [g1, g3, g4]
  have HEX : Hid (∀ a' w' i, FrO B g gcap n i a' → Below W.heap.size W w' → Q (.exit 0) a' w') := hexit
  have HB : Hid (Below W.heap.size W w) := hb
  have HEW : Hid (EnvO B g (.slice a0 T.length c0) T ns w) := HE.out.later hb
  clear hexit hb g1 g3 g4
  have hbx := HEW.out.b0
  conv => arg 2; whnf
  by_cases hlt : i < T.length
  · by_cases hlt6 : i < 6
    · obtain ⟨tb, tof, xa, xc, ya, yc, ea, hr1, hr2, HTT⟩ := HEW.out.hT.row i hlt
      subst ea
      go_wp2_with fail
      refine (copyT_any HTT.out).mono ?_
      rintro e w1 ⟨x, y, rfl, ho, hb1⟩
      obtain ⟨xa1, xn1, xc1, rfl⟩ := ho.dims.ints.shape3
      obtain ⟨ya1, yn1, yc1, rfl⟩ := ho.data.ints.shape3
      have HL1 : Hid (Live (w1.alloc (.cells #[.slice xa1 xn1 xc1, .slice ya1 yn1 yc1] 28)) _) := Live.push (L := []) trivial ho.tens
      have HB1 : Hid (Below w.heap.size w (w1.alloc (.cells #[.slice xa1 xn1 xc1, .slice ya1 yn1 yc1] 28))) := Below.push hb1 _
      have u1 := HL1.out.1.box.c0
      have u2 := HL1.out.1.box.c1
      clear ho hb1
      go_wp2_with fail
      refine (neg_tk (tkE T[i]) HL1.out.1.ten rfl).mono ?_
      rintro e w2 ⟨x, y, rfl, ho, hb2⟩
      obtain ⟨xa2, xn2, xc2, rfl⟩ := ho.dims.ints.shape3
      obtain ⟨ya2, yn2, yc2, rfl⟩ := ho.data.ints.shape3
      have HL2 : Hid (Live (w2.alloc (.cells #[.slice xa2 xn2 xc2, .slice ya2 yn2 yc2] 28)) _) := (HL1.out.later hb2).push ho.tens
      have HB2 : Hid (Below w.heap.size w (w2.alloc (.cells #[.slice xa2 xn2 xc2, .slice ya2 yn2 yc2] 28))) := Below.push (Below.after HB1.out hb2) _
      have u1 := HL2.out.2.1.box.c0
      have u2 := HL2.out.2.1.box.c1
      clear ho hb2 HL1 HB1
      go_wp2_with fail
      refine (total_at (totV T[i]) (tkE T[i]) HL2.out.2.1.ten rfl rfl).mono ?_
      rintro e w3 ⟨rfl, hb3⟩
      have HL3 : Hid (Live (w3.alloc (.cells #[.slice none 0 0, .slice none 0 0] 28)) _) := (HL2.out.later hb3).push (t := ([], [])) ⟨Ints.nil _, Ints.nil _⟩
      have HB3 : Hid (Below w.heap.size w (w3.alloc (.cells #[.slice none 0 0, .slice none 0 0] 28))) := Below.push (Below.after HB2.out hb3) _
      have u1 := HL3.out.2.2.1.box.c0
      have u2 := HL3.out.2.2.1.box.c1
      have HLB : Hid (Live w3 _) := HL2.out.later hb3
      have HBB : Hid (Below w.heap.size w w3) := Below.after HB2.out hb3
      clear hb3 HL2 HB2
      cases ht : tok T[i] with
      | false =>
        have HK0 : Hid (tkE T[i] = 1) := by show _ = _; simp [tkE, ht]
        have HV0 : Hid (totV T[i] = 0) := by show _ = _; simp [totV, ht]
        have HTK : Hid (tok T[i] = false) := ht
        have HEQ : Hid (eachR opN T[i] T[i] = ([], [])) := each_neg_bad ht
        clear ht
        rw [HK0.out, HV0.out]
        go_wp2_with fail
        refine (rtensor_to false HL3.out.2.2.1.ten HTK.out).mono ?_
        rintro e w4 ⟨rfl, hb4⟩
        have HL : Hid (Live w4 _) := HL3.out.later hb4
        have HBV : Hid (Below w.heap.size w w4) := Below.after HB3.out hb4
        clear hb4 HL3 HB3 u1 u2
        have u1 := HL.out.1.box.c0
        have u2 := HL.out.1.box.c1
        have u3 := HL.out.2.1.box.c0
        have u4 := HL.out.2.1.box.c1
        go_wp2_with (go_at_call 17; refine (num_any _ _).mono ?_; rintro e w' ⟨rfl, rfl⟩)
        refine (eqt_to HL.out.2.1.ten HL.out.1.ten HEQ.out).mono ?_
        rintro e w8 ⟨rfl, hb8⟩
        have HL8 : Hid (Live w8 _) := HL.out.later hb8
        have HB8 : Hid (Below w.heap.size w w8) := Below.after HBV.out hb8
        clear hb8 u1 u2 u3 u4 HL HBV
        go_wp2
        refine sloop2 (W := w8) (lT := T.length) (t := T[i]) hn hn0 hcap hlt hcT hT0 ⟨cell_later HB8.out hbx, cell_later HB8.out hr1, cell_later HB8.out hr2, HTT.out.later HB8.out, HL8.out.2.2.1.box, HL8.out.2.2.1.ten, fun j hj => cell_later HB8.out (HEW.out.ns j hj)⟩ ?_ _ _ ⟨rfl, rfl, rfl, rfl, rfl, rfl, by rw [HK0.out]; rfl⟩ rfl (Below.refl _ _)
        intro a9 w9 hf9 hb9
        obtain ⟨G9, hg9, e9⟩ := act125 a9 hf9.d hf9.s
        obtain ⟨hz1, hz2, g1, g3, g4, g5, g10⟩ := hf9
        rw [hg9] at g1 g3 g4
        clear hz1 hz2 g5 g10
        subst e9
        clear hg9
        rw [g1, g3, g4]
        clear g1 g3 g4
        go_wp2
        refine ⟨⟨⟨i + 1, by omega, by omega, rfl, rfl, rfl, rfl, ?_⟩, Below.after HB.out (Below.after HB8.out hb9)⟩, ?_⟩
        · show Value.int .i64 _ = _
          go_num
        · show 6 - (intOf (Value.int .i64 _)).toNat < 6 - (intOf (Value.int .i64 _)).toNat
          simp [intOf]
          omega
      | true =>
        have HK0 : Hid (tkE T[i] = 0) := by show _ = _; simp [tkE, ht]
        have HV0 : Hid (totV T[i] = ttl T[i].2) := by show _ = _; simp [totV, ht]
        have HTK : Hid (tok T[i] = true) := ht
        have HTP : Hid (1 ≤ T[i].2.length ∧ T[i].2.length ≤ 64) := tok_pos ht
        have HEQ : Hid (eachR opN T[i] T[i] = (T[i].1, T[i].2.map (fun y => wrap64 (y * -1)))) := each_neg_ok ht
        clear ht
        rw [HK0.out, HV0.out]
        go_wp2_with fail
        refine (rtensor_to true HL3.out.2.2.1.ten HTK.out).mono ?_
        rintro e w4 ⟨rfl, hb4⟩
        have HL4 : Hid (Live w4 _) := HL3.out.later hb4
        have HB4 : Hid (Below w3.heap.size w3 w4) := Below.after (Below.push (Below.refl _ _) _) hb4
        clear hb4 HL3 HB3 u1 u2
        go_upto_region 13 with fail
        refine wp_cut (fun a' w' => FrO B g gcap n i a' ∧ a'.tmps.getD 5 undef = .pointer (some ⟨w1.heap.size, 0, none⟩) ∧ a'.tmps.getD 6 undef = .pointer (some ⟨w2.heap.size, 0, none⟩) ∧ a'.tmps.getD 7 undef = .int .i64 0 ∧ a'.tmps.getD 8 undef = .int .i64 (ttl T[i].2) ∧ a'.tmps.getD 9 undef = .int .i64 0 ∧ a'.tmps.getD 10 undef = .int .i64 0 ∧ a'.tmps.getD 11 undef = .int .i64 (ttl T[i].2) ∧ a'.tmps.getD 12 undef = .pointer (some ⟨w3.heap.size, 0, none⟩) ∧ (∃ z0 z1, Live w' [(w3.heap.size, z0, z1, (T[i].1, T[i].2.map (fun y => wrap64 (y * -1)))), (w2.heap.size, .slice xa2 xn2 xc2, .slice ya2 yn2 yc2, eachR opN T[i] T[i]), (w1.heap.size, .slice xa1 xn1 xc1, .slice ya1 yn1 yc1, T[i])]) ∧ Below w.heap.size w w') ?_ ?_
        · intro a6 w6 ⟨hf6, h5, h6, h7, h8, h9, h10, h11, h12, ⟨z0, z1, hl6⟩, hb6⟩
          obtain ⟨G6, hg6, e6⟩ := act125 a6 hf6.d hf6.s
          obtain ⟨hz1, hz2, g1, g3, g4⟩ := hf6
          rw [hg6] at g1 g3 g4 h5 h6 h7 h8 h9 h10 h11 h12
          clear hz1 hz2
          subst e6
          clear hg6
          rw [g1, g3, g4, h5, h6, h7, h8, h9, h10, h11, h12]
          clear g1 g3 g4 h5 h6 h7 h8 h9 h10 h11 h12
          have HL : Hid (Live w6 _) := hl6
          have HBV : Hid (Below w.heap.size w w6) := hb6
          clear hl6 hb6 HL4 HB4
          have u1 := HL.out.1.box.c0
          have u2 := HL.out.1.box.c1
          have u3 := HL.out.2.1.box.c0
          have u4 := HL.out.2.1.box.c1
          go_wp2_with (go_at_call 17; refine (num_any _ _).mono ?_; rintro e w' ⟨rfl, rfl⟩)
          refine (eqt_to HL.out.2.1.ten HL.out.1.ten HEQ.out).mono ?_
          rintro e w8 ⟨rfl, hb8⟩
          have HL8 : Hid (Live w8 _) := HL.out.later hb8
          have HB8 : Hid (Below w.heap.size w w8) := Below.after HBV.out hb8
          clear hb8 u1 u2 u3 u4 HL HBV
          go_wp2
          refine sloop2 (W := w8) (lT := T.length) (t := T[i]) hn hn0 hcap hlt hcT hT0 ⟨cell_later HB8.out hbx, cell_later HB8.out hr1, cell_later HB8.out hr2, HTT.out.later HB8.out, HL8.out.2.2.1.box, HL8.out.2.2.1.ten, fun j hj => cell_later HB8.out (HEW.out.ns j hj)⟩ ?_ _ _ ⟨rfl, rfl, rfl, rfl, rfl, rfl, by rw [HK0.out]; rfl⟩ rfl (Below.refl _ _)
          intro a9 w9 hf9 hb9
          obtain ⟨G9, hg9, e9⟩ := act125 a9 hf9.d hf9.s
          obtain ⟨hz1, hz2, g1, g3, g4, g5, g10⟩ := hf9
          rw [hg9] at g1 g3 g4
          clear hz1 hz2 g5 g10
          subst e9
          clear hg9
          rw [g1, g3, g4]
          clear g1 g3 g4
          go_wp2
          refine ⟨⟨⟨i + 1, by omega, by omega, rfl, rfl, rfl, rfl, ?_⟩, Below.after HB.out (Below.after HB8.out hb9)⟩, ?_⟩
          · show Value.int .i64 _ = _
            go_num
          · show 6 - (intOf (Value.int .i64 _)).toNat < 6 - (intOf (Value.int .i64 _)).toNat
            simp [intOf]
            omega
        · intro J K' hJ hK'
          have HJ : Hid _ := hJ
          have HK' : Hid _ := hK'
          clear hJ hK'
          have v0 := HL4.out.2.2.1.box.c0
          have v1 := HL4.out.2.2.1.box.c1
          have v2 := HL4.out.1.box.c0
          have v3 := HL4.out.1.box.c1
          have v4 := HL4.out.1.box.f 0
          have v5 := HL4.out.1.box.f 1
          have hlt3 := HL4.out.1.box.lt
          have n1 : w3.heap.size ≠ w1.heap.size := Nat.ne_of_gt HLB.out.2.1.box.lt
          go_region_held3 (fun w' => w'.cell? ⟨w1.heap.size, 0, none⟩ = some (.slice xa1 xn1 xc1) ∧ w'.cell? ⟨w1.heap.size, 1, none⟩ = some (.slice ya1 yn1 yc1)) (go_keep)
            (first
              | (go_at_call 16; refine (rtotal_any (HL4.out.2.2.1.ten.later (Below.refl _ _).drew)).mono ?_; rintro e w5 ⟨rfl, hbq⟩; have HQ : Hid (Below w4.heap.size w4 w5) := Below.after (Below.refl _ _).drew hbq; have k0 := cell_later HQ.out v0; have k1 := cell_later HQ.out v1; clear hbq)
              | (go_at_call 23; refine (rscale_any (-1) (HL4.out.2.2.1.ten.later HQ.out) HTP.out.1 HTP.out.2).mono ?_; rintro e w7 ⟨y0', y1', rfl, ho, hbq⟩; obtain ⟨xa, xn, xc, rfl⟩ := ho.dims.ints.shape3; obtain ⟨ya, yn, yc, rfl⟩ := ho.data.ints.shape3; have HQ2 : Hid (Below w4.heap.size w4 w7) := Below.after HQ.out hbq; have HOT : Hid (OwnT w7 w4.heap.size (.slice xa xn xc) (.slice ya yn yc) (T[i].1, T[i].2.map (fun y => wrap64 (y * -1)))) := ho.mono HQ.out.size; have k0 := cell_later HQ2.out v0; have k1 := cell_later HQ2.out v1; have hz := HL4.out.1.box.later HQ2.out; have z0 := hz.c0; have z1 := hz.c1; have z2 := hz.f 0; have z3 := hz.f 1; have HZ : Hid (Box w7 w3.heap.size (.slice none 0 0) (.slice none 0 0)) := hz; clear ho hbq hz))
          have HBE : Hid (Below w3.heap.size w3 ((w7.setCell ⟨w3.heap.size, 0, none⟩ (.slice xa xn xc)).setCell ⟨w3.heap.size, 1, none⟩ (.slice ya yn yc))) := ((Below.after HB4.out HQ2.out).setCell (Nat.le_refl _) _).setCell (Nat.le_refl _) _
          exact HK'.out _ _ (Met.intro (HJ.out _ _ ⟨⟨rfl, rfl, rfl, rfl, rfl⟩, rfl, rfl, rfl, rfl, rfl, rfl, rfl, rfl, ⟨_, _, ⟨HZ.out.set _ _, ((HOT.out.setCell _ _ hlt3).setCell _ _ hlt3).tens⟩, Live.later HBE.out HLB.out⟩, Below.after HBB.out HBE.out⟩))
    · go_wp2
      exact HEX.out _ _ i ⟨rfl, rfl, rfl, rfl, rfl⟩ HB.out
  · go_wp2
    exact HEX.out _ _ i ⟨rfl, rfl, rfl, rfl, rfl⟩ HB.out
end Go.Proofs.Ytoocfoodnkikeaa
