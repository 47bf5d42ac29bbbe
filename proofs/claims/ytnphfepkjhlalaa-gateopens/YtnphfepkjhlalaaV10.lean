/- GateOpens: its outer loop; the law. -/
import Derived.Test.YtnphfepkjhlalaaV9
import Derived.Test.YtnphfepkjhlalaaU3
namespace Go.Proofs.Ytnphfepkjhlalaa
set_option linter.unusedVariables false
set_option linter.unusedSimpArgs false
open Go.RowKit

structure FrO0 (B i : Nat) (a : Act) : Prop where
  d : a.defers = []
  s : a.tmps.size = 240
  f1 : a.tmps.getD 1 undef = .pointer (some ⟨B, 0, none⟩)
  f3 : a.tmps.getD 3 undef = .int .i64 i
structure FrO0e (B i Ba : Nat) (may : Bool) (Bx Bw : Nat) (e0 bad : Int) (a : Act) : Prop where
  d : a.defers = []
  s : a.tmps.size = 240
  f1 : a.tmps.getD 1 undef = .pointer (some ⟨B, 0, none⟩)
  f3 : a.tmps.getD 3 undef = .int .i64 i
  f4 : a.tmps.getD 4 undef = .pointer (some ⟨Ba, 0, none⟩)
  f5 : a.tmps.getD 5 undef = .bool may
  f6 : a.tmps.getD 6 undef = .pointer (some ⟨Bx, 0, none⟩)
  f7 : a.tmps.getD 7 undef = .int .i64 e0
  f8 : a.tmps.getD 8 undef = .int .i64 bad
  f9 : a.tmps.getD 9 undef = .pointer (some ⟨Bw, 0, none⟩)
theorem RowT.empty (w : World) (B : Nat) (hB : B ≤ w.heap.size) (n : Nat) (hn : n = w.heap.size) : RowT (w.alloc (.cells #[] 28)) B (.slice (some ⟨n, 0, none⟩) 0 0) [] [] := by
  subst hn
  refine ⟨?_, fun i hi => by simp at hi⟩
  have := World.ownsRow_lit (base := B) (e := 28) (size := 2) w #[] 0 hB (by decide) rfl
  simpa using this
set_option maxRecDepth 1000000 in
set_option maxHeartbeats 16000000 in
theorem oloop1 {B c0 : Nat} {f : Option Addr} {T : List Ten} {W : World} {Q : Exit → Act → World → Prop}
    (hcT : T.length ≤ c0) (hT0 : T.length ≤ 500)
    (HE : Hid (EnvG B (.slice f T.length c0) T W))
    (hexit : ∀ a' w' i, FrO0 B i a' → Below W.heap.size W w' → Q (.exit 0) a' w')
    (a : Act) (w : World) (ha : FrO0 B 0 a) (hb : Below W.heap.size W w) :
    Code.wp Try.prog (.loop (((Try.f3.body.map loopsIn).getD []).getD 0 .skip)) Q a w := by
  refine wp_loop (fun a' w' => (∃ i : Nat, i ≤ T.length ∧ i ≤ 6 ∧ FrO0 B i a') ∧ Below W.heap.size W w') (fun a' _ => 6 - slotNat a' 3) ⟨⟨0, by omega, by omega, ha⟩, hb⟩ ?_
  clear ha hb
  clear a w
  intro a w ⟨⟨i, hi, hi6, hf⟩, hb⟩
  obtain ⟨G, hg, e⟩ := act240 a hf.d hf.s
  obtain ⟨hz1, hz2, g1, g3⟩ := hf
  rw [hg] at g1 g3 
  clear hz1 hz2
  subst e
  clear hg
  rw [g1, g3]
  clear g1 g3
  have HEX : Hid (∀ a' w' i, FrO0 B i a' → Below W.heap.size W w' → Q (.exit 0) a' w') := hexit
  have HB : Hid (Below W.heap.size W w) := hb
  have HEW : Hid (EnvG B (.slice f T.length c0) T w) := HE.out.later hb
  clear hexit hb
  have hbx := HEW.out.b0
  conv => arg 2; whnf
  by_cases hlt : i < T.length
  · by_cases hlt6 : i < 6
    · obtain ⟨tb, tof, ta, tc, ua, uc, ea, hr1, hr2, HTT⟩ := HEW.out.hT.row i hlt
      subst ea
      obtain ⟨s, hs⟩ : ∃ t, T[i] = t := ⟨_, rfl⟩
      rw [hs] at hr1 hr2 HTT
      obtain ⟨tn, htn⟩ : ∃ n, s.1.length = n := ⟨_, rfl⟩
      obtain ⟨un, hun⟩ : ∃ n, s.2.length = n := ⟨_, rfl⟩
      rw [htn] at hr1 HTT
      rw [hun] at hr2 HTT
      obtain ⟨lT, hlT⟩ : ∃ n, T.length = n := ⟨_, rfl⟩
      have HLT : Hid (T.length = lT) := hlT
      have HKW : Hid (Tens w (.slice ta tn tc) (.slice ua un uc) s ∧ w.cell? ⟨B, 0, none⟩ = some (.slice (some ⟨tb, tof, none⟩) lT c0) ∧ w.cell? ⟨tb, tof + i * 2, none⟩ = some (.slice ta tn tc) ∧ w.cell? ⟨tb, tof + i * 2 + 1, none⟩ = some (.slice ua un uc)) := ⟨HTT.out, by rw [← hlT]; exact hbx, hr1, hr2⟩
      have HTL : Hid (TensL w (.slice (some ⟨tb, tof, none⟩) lT c0) T) := by show TensL _ _ _; rw [← hlT]; exact HEW.out.hT
      rw [hlT] at hlt hcT hT0 hi hbx
      clear hs htn hun HTT hlT HEW
      obtain ⟨may, hmay⟩ : ∃ b, tok s = b := ⟨_, rfl⟩
      have HMY : Hid (tok s = may) := hmay
      clear hmay
      go_wp2_with fail
      refine (copyT_any HKW.out.1).mono ?_
      rintro e w1 ⟨p0, p1, rfl, ho, hb1⟩
      obtain ⟨pa, pn, pc, rfl⟩ := ho.dims.ints.shape3
      obtain ⟨qa, qn, qc, rfl⟩ := ho.data.ints.shape3
      have HL1 : Hid (Live (w1.alloc (.cells #[.slice pa pn pc, .slice qa qn qc] 28)) [(w1.heap.size, .slice pa pn pc, .slice qa qn qc, s)]) := Live.push (L := []) trivial ho.tens
      have HB1 : Hid (Below w.heap.size w (w1.alloc (.cells #[.slice pa pn pc, .slice qa qn qc] 28))) := Below.push hb1 _
      clear ho hb1 hr1 hr2 hbx
      have c0' := HL1.out.1.box.c0
      have c1 := HL1.out.1.box.c1
      go_wp2_with fail
      refine (rtensor_to may HL1.out.1.ten HMY.out).mono ?_
      rintro e w2 ⟨rfl, hb2⟩
      have HL2 : Hid (Live w2 [(w1.heap.size, .slice pa pn pc, .slice qa qn qc, s)]) := HL1.out.later hb2
      have HB2 : Hid (Below w.heap.size w w2) := Below.after HB1.out hb2
      clear hb2 c0' c1 HL1 HB1
      obtain ⟨e0, he0⟩ : ∃ e, tkE s = e := ⟨_, rfl⟩
      obtain ⟨u, hu⟩ : ∃ u, eachR opG s s = u := ⟨_, rfl⟩
      have HPK : Hid (tkE s = e0 ∧ eachR opG s s = u) := ⟨he0, hu⟩
      clear he0 hu
      have c0' := HL2.out.1.box.c0
      have c1 := HL2.out.1.box.c1
      go_wp2_with fail
      refine (relu_to e0 u HL2.out.1.ten HPK.out.1 HPK.out.2).mono ?_
      rintro e w3 ⟨x0, x1, rfl, ho, hb3⟩
      obtain ⟨xa, xn, xc, rfl⟩ := ho.dims.ints.shape3
      obtain ⟨ya, yn, yc, rfl⟩ := ho.data.ints.shape3
      have HL3 : Hid (Live (w3.alloc (.cells #[.slice xa xn xc, .slice ya yn yc] 28)) [(w3.heap.size, .slice xa xn xc, .slice ya yn yc, u), (w1.heap.size, .slice pa pn pc, .slice qa qn qc, s)]) := Live.push (L := [(w1.heap.size, .slice pa pn pc, .slice qa qn qc, s)]) (HL2.out.later hb3) ho.tens
      have HB3 : Hid (Below w.heap.size w (w3.alloc (.cells #[.slice xa xn xc, .slice ya yn yc] 28))) := Below.push (Below.after HB2.out hb3) _
      have HVB : Hid (Below (w3.alloc (.cells #[.slice xa xn xc, .slice ya yn yc] 28)).heap.size (w3.alloc (.cells #[.slice xa xn xc, .slice ya yn yc] 28)) ((w3.alloc (.cells #[.slice xa xn xc, .slice ya yn yc] 28)).alloc (.cells #[.slice none 0 0, .slice none 0 0] 28))) := Below.push (Below.refl _ _) _
      have HV4 : Hid (Live ((w3.alloc (.cells #[.slice xa xn xc, .slice ya yn yc] 28)).alloc (.cells #[.slice none 0 0, .slice none 0 0] 28)) [((w3.heap.size + 1), .slice none 0 0, .slice none 0 0, ([], []))]) := by
        have h := Live.push (w := (w3.alloc (.cells #[.slice xa xn xc, .slice ya yn yc] 28))) (L := []) (t := ([], [])) trivial ⟨Ints.nil _, Ints.nil _⟩
        simp only [World.size_alloc] at h
        exact h
      clear ho hb3 c0' c1 HL2 HB2
      go_upto_region 11 with fail
      rename_i K1 hK1 K0 hK0
      have HM : Hid (∀ a' w', FrO0e B i w1.heap.size may w3.heap.size (w3.heap.size + 1) e0 e0 a' → (∃ r0 r1, Live w' [((w3.heap.size + 1), r0, r1, u)]) → Below (w3.alloc (.cells #[.slice xa xn xc, .slice ya yn yc] 28)).heap.size (w3.alloc (.cells #[.slice xa xn xc, .slice ya yn yc] 28)) w' → K1 a' w') := by
        intro a6 w6 hf6 ⟨r0, r1, hl6⟩ hb6
        apply hK1
        clear hK1 hK0 K0 HV4 HVB
        have HL6 : Hid (Live w6 _) := HL3.out.later hb6
        have HB6 : Hid (Below w.heap.size w w6) := Below.after HB3.out hb6
        have HP6 : Hid (Live w6 _) := hl6
        clear hl6 hb6 HL3 HB3
        obtain ⟨G6, hg6, e6⟩ := act240 a6 hf6.d hf6.s
        obtain ⟨hz1, hz2, g1, g3, g4, g5, g6, g7, g8, g9⟩ := hf6
        rw [hg6] at g1 g3 g4 g5 g6 g7 g8 g9 
        clear hz1 hz2
        subst e6
        clear hg6
        rw [g1, g3, g4, g5, g6, g7, g8, g9]
        clear g1 g3 g4 g5 g6 g7 g8 g9
        have u1 := HL6.out.1.box.c0
        have u2 := HL6.out.1.box.c1
        have u3 := HP6.out.1.box.c0
        have u4 := HP6.out.1.box.c1
        go_wp2_with (go_at_call 11; refine (num_any _ _).mono ?_; rintro e w' ⟨rfl, rfl⟩)
        refine (eqt_to HL6.out.1.ten HP6.out.1.ten rfl).mono ?_
        rintro e w8 ⟨rfl, hb8⟩
        have HTA : Hid (TB w8 w1.heap.size (.slice pa pn pc) (.slice qa qn qc) s) := HL6.out.2.1.later hb8
        have HB8 : Hid (Below w.heap.size w w8) := Below.after HB6.out hb8
        have HK8 : Hid (Tens w8 (.slice ta tn tc) (.slice ua un uc) s ∧ w8.cell? ⟨B, 0, none⟩ = some (.slice (some ⟨tb, tof, none⟩) lT c0) ∧ w8.cell? ⟨tb, tof + i * 2, none⟩ = some (.slice ta tn tc) ∧ w8.cell? ⟨tb, tof + i * 2 + 1, none⟩ = some (.slice ua un uc)) := ⟨HKW.out.1.later HB8.out, cell_later HB8.out HKW.out.2.1, cell_later HB8.out HKW.out.2.2.1, cell_later HB8.out HKW.out.2.2.2⟩
        have HT8 : Hid (TensL w8 (.slice (some ⟨tb, tof, none⟩) lT c0) T) := HTL.out.later HB8.out
        clear hb8 u1 u2 u3 u4 HL6 HB6 HP6
        have HUP : Hid (Below w8.heap.size w8 (w8.alloc (.cells #[] 28))) := Below.push (Below.refl _ _) _
        have HR8 : Hid (RowT (w8.alloc (.cells #[] 28)) w8.heap.size (.slice (some ⟨w8.heap.size, 0, none⟩) 0 0) [] []) := RowT.empty w8 _ (Nat.le_refl _) _ rfl
        obtain ⟨hlt8, news, hnl, hn1, hn2, hn3⟩ := HT8.out.vals
        have HNL : Hid (news.length = lT * 2) := by show _ = _; rw [hnl, ← hlt8]
        have HN1 : Hid (∀ j u, news[j]? = some u → w8.cell? ((⟨tb, tof, none⟩ : Addr).add j) = some u) := hn1
        have HN2 : Hid (∀ i (h : i < T.length), ∃ x y, news[i * 2]? = some x ∧ news[i * 2 + 1]? = some y ∧ Tens w8 x y T[i]) := hn2
        have HN3 : Hid (∀ u ∈ news, u.oneCell' = true) := hn3
        clear hnl hn1 hn2 hn3 hlt8
        obtain ⟨i28, hi28, hz0, hz1, hz2⟩ := info28
        have HI : Hid (Try.prog.info? 28 = some i28 ∧ i28.zero = some (.agg #[.slice none 0 0, .slice none 0 0]) ∧ i28.size = 2 ∧ i28.bytes = 48) := ⟨hi28, hz0, hz1, hz2⟩
        clear hi28 hz0 hz1 hz2
        have hcB := cell_later HUP.out HK8.out.2.1
        go_wp2_with (at_builtin; refine wpList_append_own_at _ rfl _ _ 22 rfl w8.heap.size 28 i28 (.agg #[.slice none 0 0, .slice none 0 0]) 2 48 Try.underlying22 HI.out.1 HI.out.2.1 HI.out.2.2.1 HI.out.2.2.2 rfl (by decide) _ 0 [] rfl ?own ⟨tb, tof, none⟩ lT c0 news rfl HNL.out ?news HN3.out ?c3 ?c4 ?c5 ?_)
        case own => exact HR8.out.own
        case news => exact fun j u hj => cell_later HUP.out (HN1.out j u hj)
        case c3 => unfold maxLen; omega
        case c4 => omega
        case c5 => simp
        intro v' w9 hown hgrow _ hat
        have hrr := HR8.out.appH (E := T) (m := lT) (news := news) HLT.out.symm (fun j hj => by
          obtain ⟨x, y, h1, h2, h3, h4⟩ := HN2.out j hj
          exact ⟨x, y, h1, h2, Elt.old h3 HUP.out (fun k hk => by simp [Value.ownBlock] at hk; omega), Elt.old h4 HUP.out (fun k hk => by simp [Value.ownBlock] at hk; omega)⟩) (by simpa using hown) hgrow hat (by simp)
        have HB9 : Hid (Below w8.heap.size w8 w9) := HUP.out.grown hgrow HUP.out.size (fun k hk => by simp [Value.ownBlock] at hk; omega)
        obtain ⟨og, oc, ex, hoc, _, _⟩ := hrr.form (by simp; rw [HLT.out]; omega)
        have hl9 : ([] ++ T).length = lT := by simpa using HLT.out
        rw [hl9] at ex hoc
        subst ex
        have HR9 : Hid (RowT w9 w8.heap.size (.slice (some ⟨og, 0, none⟩) lT oc) ([] ++ T) ([] ++ news)) := hrr
        have HL9 : Hid (([] ++ T).length = lT) := hl9
        clear hrr hown hgrow hat hl9 hcB
        go_wp2
        refine oloop2 (W := w8) (s := s) hlt hcT (by omega) HMY HTA HK8 ?_ _ _ og oc lT _ _ ⟨rfl, rfl, rfl, rfl, rfl, rfl, rfl, rfl⟩ HB9.out HR9.out HL9.out (by omega) hT0
        clear HR9 HL9 HB9 hoc
        intro a9 w12 n9 og2 oc2 oL L xs hf9 hb9 hr9 hL9 hoL
        obtain ⟨G9, hg9, e9⟩ := act240 a9 hf9.d hf9.s
        obtain ⟨hz1, hz2, g1, g3, g4, g5, g10, g11⟩ := hf9
        rw [hg9] at g1 g3 g4 g5 g10 g11 
        clear hz1 hz2
        subst e9
        clear hg9
        rw [g1, g3, g4, g5, g10, g11]
        clear g1 g3 g4 g5 g10 g11
        have HB12 : Hid (Below w8.heap.size w8 w12) := hb9
        obtain ⟨g', c', eq, hoc, _, _⟩ := hr9.form (by omega)
        simp only [Value.slice.injEq, Option.some.injEq, Addr.mk.injEq, and_true] at eq
        obtain ⟨rfl, rfl, rfl⟩ := eq
        have HO9 : Hid (TensL w12 (.slice (some ⟨og2, 0, none⟩) L.length oc2) L) := hr9.tensL (by unfold big; omega)
        have HTA9 : Hid (TB w12 w1.heap.size (.slice pa pn pc) (.slice qa qn qc) s) := HTA.out.later hb9
        clear hb9 hr9
        go_wp2
        refine oloop3 (W := w12) (s := s) (Lo := L) hoc (by omega) rfl HMY HTA9 HO9 ?_ _ _ ⟨rfl, rfl, rfl, rfl, rfl, rfl, rfl, rfl⟩ (Below.refl _ _)
        intro a10 w10 k10 hf10 hb10
        obtain ⟨G10, hg10, e10⟩ := act240 a10 hf10.d hf10.s
        obtain ⟨hz1, hz2, g1, g3, g4, g5, g10, g16⟩ := hf10
        rw [hg10] at g1 g3 g4 g5 g10 g16 
        clear hz1 hz2
        subst e10
        clear hg10
        rw [g1, g3, g4, g5, g10, g16]
        clear g1 g3 g4 g5 g10 g16
        have HB10 : Hid (Below w8.heap.size w8 w10) := Below.after HB12.out hb10
        have HTA10 : Hid (TB w10 w1.heap.size (.slice pa pn pc) (.slice qa qn qc) s) := HTA.out.later HB10.out
        have HK10 : Hid (Tens w10 (.slice ta tn tc) (.slice ua un uc) s ∧ w10.cell? ⟨B, 0, none⟩ = some (.slice (some ⟨tb, tof, none⟩) lT c0) ∧ w10.cell? ⟨tb, tof + i * 2, none⟩ = some (.slice ta tn tc) ∧ w10.cell? ⟨tb, tof + i * 2 + 1, none⟩ = some (.slice ua un uc)) := ⟨HK8.out.1.later HB10.out, cell_later HB10.out HK8.out.2.1, cell_later HB10.out HK8.out.2.2.1, cell_later HB10.out HK8.out.2.2.2⟩
        clear hb10
        go_upto_region 56 with fail
        refine oreg56 (t := s) hlt hcT (by omega) HTA10 HK10.out.1 HK10.out.2.1 HK10.out.2.2.1 HK10.out.2.2.2 ?_ _ ⟨rfl, rfl, rfl, rfl, rfl⟩
        intro a11 w11 hf11 h238 hb11
        obtain ⟨G11, hg11, e11⟩ := act240 a11 hf11.d hf11.s
        obtain ⟨hz1, hz2, g1, g3, g4⟩ := hf11
        rw [hg11] at g1 g3 h238
        clear hz1 hz2 g4
        subst e11
        clear hg11
        rw [g1, g3, h238]
        clear g1 g3 h238
        have HB11 : Hid (Below W.heap.size W w11) := Below.after HB.out (Below.after HB8.out (Below.after HB10.out hb11))
        clear hb11
        go_wp2
        refine ⟨⟨⟨i + 1, by have := HLT.out; omega, by omega, rfl, rfl, rfl, ?_⟩, HB11.out⟩, ?_⟩
        · show Value.int .i64 _ = _
          go_num
        · show 6 - (intOf (Value.int .i64 _)).toNat < 6 - (intOf (Value.int .i64 _)).toNat
          simp [intOf]
          omega
      clear hK1
      cases hs : may with
      | false =>
        subst hs
        have HF : Hid (e0 = 1 ∧ u = ([], [])) := by
          show _ ∧ _
          rw [← HPK.out.1, ← HPK.out.2]
          have h := fit_bad (t := s) (Or.inl HMY.out)
          rw [fit_self] at h
          exact h
        go_wp2
        refine HM.out _ _ ⟨rfl, rfl, rfl, rfl, rfl, rfl, rfl, rfl, by rw [HF.out.1]; rfl, rfl⟩ ⟨.slice none 0 0, .slice none 0 0, ?_⟩ HVB.out
        rw [HF.out.2]
        exact HV4.out
      | true =>
        subst hs
        have HF : Hid (e0 = 0 ∧ u = (s.1, List.zipWith opG s.2 s.2)) := by
          show _ ∧ _
          rw [← HPK.out.1, ← HPK.out.2]
          have h := fit_yes (t := s) HMY.out HMY.out (by simp)
          rw [fit_self] at h
          exact h
        have HLN : Hid (1 ≤ s.2.length ∧ s.2.length ≤ 64) := tok_pos HMY.out
        have c2 := (HL3.out.later HVB.out).2.1.box.c0
        have c3 := (HL3.out.later HVB.out).2.1.box.c1
        go_wp2_with fail
        refine (rgate_ok (HL3.out.later HVB.out).2.1.ten (HL3.out.later HVB.out).2.1.ten rfl HLN.out.1 HLN.out.2).mono ?_
        rintro e w8 ⟨z0, z1, rfl, ho, hb8⟩
        obtain ⟨za, zn, zc, rfl⟩ := ho.dims.ints.shape3
        obtain ⟨ra, rn, rc, rfl⟩ := ho.data.ints.shape3
        have hbx := (HV4.out.later hb8).1.box
        have l0 := hbx.c0
        have l1 := hbx.c1
        have m0 := hbx.f 0
        have m1 := hbx.f 1
        have HBS : Hid (Box _ _ _ _) := hbx.set (.slice za zn zc) (.slice ra rn rc)
        have HTS : Hid (Tens _ _ _ _) := (ho.set2 (.slice za zn zc) (.slice ra rn rc) (p := (w3.heap.size + 1)) (by simp)).tens
        have HB8 : Hid (Below (w3.alloc (.cells #[.slice xa xn xc, .slice ya yn yc] 28)).heap.size (w3.alloc (.cells #[.slice xa xn xc, .slice ya yn yc] 28)) w8) := Below.after HVB.out hb8
        clear hbx ho hb8 c2 c3
        go_wp2
        refine HM.out _ _ ⟨rfl, rfl, rfl, rfl, rfl, rfl, rfl, rfl, by rw [HF.out.1]; rfl, rfl⟩ ⟨.slice za zn zc, .slice ra rn rc, ?_⟩ ((HB8.out.setCell (by simp) _).setCell (by simp) _)
        rw [HF.out.2]
        exact ⟨⟨HBS.out, HTS.out⟩, trivial⟩
    · go_wp2
      exact HEX.out _ _ i ⟨rfl, rfl, rfl, rfl⟩ HB.out
  · go_wp2
    exact HEX.out _ _ i ⟨rfl, rfl, rfl, rfl⟩ HB.out

set_option maxRecDepth 100000 in
set_option maxHeartbeats 8000000 in
theorem gateOpens_any {f0 f1 : Value} {T : List Ten} {L : List Int} {w : World} (h0 : TensL w f0 T ∧ ∀ t ∈ T, Rg t.2) (h1 : Ints w f1 L ∧ L.length ≤ 17592186043904) :
    Calls Try.prog 3 #[.agg #[f0, f1]] w fun e w' => e = .returned (.bool true) ∧ Below w.heap.size w w' := by
  obtain ⟨h0, hrt⟩ := h0
  obtain ⟨h1, hN8⟩ := h1
  have hb : Below w.heap.size w (w.alloc (.cells #[f0, f1] 25)) := (Below.refl _ _).alloc (Nat.le_refl _) _
  obtain ⟨na, nc, rfl⟩ := h1.shape
  obtain ⟨a0, c0, rfl⟩ : ∃ a c, f0 = .slice a T.length c := by obtain ⟨_, a0, c0, rfl, _⟩ := h0; exact ⟨_, _, rfl⟩
  have HB : Hid (Below w.heap.size w (w.alloc (.cells #[.slice a0 T.length c0, .slice na L.length nc] 25))) := hb
  have H0 : Hid (TensL (w.alloc (.cells #[.slice a0 T.length c0, .slice na L.length nc] 25)) (.slice a0 T.length c0) T) := h0.later hb
  have H1 : Hid (Ints (w.alloc (.cells #[.slice a0 T.length c0, .slice na L.length nc] 25)) (.slice na L.length nc) L) := h1.later hb
  have hcT : T.length ≤ c0 := by
    obtain ⟨_, a', c', e, h1, _⟩ := h0
    simp only [Value.slice.injEq] at e
    omega
  clear h0 h1 hb hrt
  go_enter Try.func3, Try.ntmps3
  go_wp2_with fail
  refine (heavy2_bd H0.out H1.out).mono ?_
  rintro e w1 ⟨hv, rfl, hT, hb1⟩
  have HB1 : Hid (Below w.heap.size w w1) := Below.after HB.out hb1
  cases hv with
  | true =>
    clear hT
    go_wp2
    go_ret
    exact ⟨rfl, HB1.out⟩
  | false =>
    have HE : Hid (EnvG w.heap.size (.slice a0 T.length c0) T w1) := ⟨cell_later hb1 (by simp), H0.out.later hb1⟩
    have HT5 : Hid (T.length ≤ 500) := hT rfl
    clear hb1 H0 H1 HB hT
    go_wp2
    refine oloop1 (W := w1) hcT HT5.out HE ?_ _ _ ⟨rfl, rfl, rfl, rfl⟩ (Below.refl _ _)
    intro a3' w3 q hf3 hb3
    obtain ⟨G3, hg3, e3⟩ := act240 a3' hf3.d hf3.s
    clear hf3
    subst e3
    clear hg3
    have HB3 : Hid (Below w.heap.size w w3) := Below.after HB1.out hb3
    clear hb3
    go_wp2_with fail
    refine wakes5_any.mono ?_
    rintro e w5 ⟨rfl, hb5⟩
    have HB5 : Hid (Below w.heap.size w w5) := Below.after HB3.out hb5
    clear hb5
    go_wp2
    go_ret
    exact ⟨rfl, HB5.out⟩
end Go.Proofs.Ytnphfepkjhlalaa
