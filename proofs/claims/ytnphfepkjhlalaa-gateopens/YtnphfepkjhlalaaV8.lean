/- GateOpens: its loop over n, of the greatest. -/
import Derived.Test.YtnphfepkjhlalaaV7
namespace Go.Proofs.Ytnphfepkjhlalaa
set_option linter.unusedVariables false
set_option linter.unusedSimpArgs false
open Go.RowKit

theorem mxR_bad {s : Ten} {n e : Int} (h : fwE s n = e) (he : e ≠ 0) : fwE s n = e ∧ mxR s n = ([], []) := ⟨h, by rw [mxR, h, if_neg he]⟩
theorem TB.grown {w w' : World} {N B : Nat} {row : Option Nat} {x y : Value} {t : Ten} (h : TB w B x y t) (hg : w.grownBy w' row) (hr : ∀ k, row = some k → k < N) (hB : N ≤ B) (hx : From N x) (hy : From N y) : TB w' B x y t := by
  have ne : ∀ {z : Value} {d : List Int}, Ints w z d → From N z → Ints w' z d := fun hz hf => (Elt.grown ⟨hz, fun h0 e => by
    cases hrow : row with
    | none =>
      rw [hrow] at e
      rcases hz.cases with ⟨q, _⟩ | ⟨b, off, c, rfl, _⟩
      · rw [q] at h0; simp at h0
      · simp [Value.ownBlock] at e
    | some k =>
      have h1 := hr k hrow
      have h2 := hf k (by rw [e, hrow])
      omega⟩ hg (Or.inl rfl)).1
  refine ⟨(hg.block B h.box.lt (fun e => ?_)).trans h.box, ne h.ten.1 hx, ne h.ten.2 hy⟩
  have := hr B e.symm
  omega
theorem RowT.form {w : World} {B : Nat} {v : Value} {L : List Ten} {xs : List Value} (h : RowT w B v L xs) (h0 : 0 < L.length) : ∃ g cap, v = .slice (some ⟨g, 0, none⟩) L.length cap ∧ L.length ≤ cap ∧ B ≤ g ∧ g < w.heap.size := by
  rcases h.own.2 with ⟨_, h1⟩ | ⟨g, cap, cur, rfl, hb, hh, h1, _⟩
  · omega
  · exact ⟨g, cap, rfl, h1, hb, (Array.getElem?_eq_some_iff.1 hh).1⟩
theorem RowT.appH {w w' : World} {B m H : Nat} {v v' : Value} {L E : List Ten} {xs news : List Value} (h : RowT w B v L xs) (hm : m = E.length) (he : ∀ i (h : i < E.length), ∃ x y, news[i * 2]? = some x ∧ news[i * 2 + 1]? = some y ∧ Elt w v.ownBlock x E[i].1 ∧ Elt w v.ownBlock y E[i].2)
    (hown : w'.ownsRow B 28 2 v' (L.length + m) (xs ++ news)) (hg : w.grownBy w' v.ownBlock) (hat : v'.ownBlock = v.ownBlock ∨ v'.ownBlock = some H) (hH : w.heap.size = H) : RowT w' B v' (L ++ E) (xs ++ news) := by
  subst hH
  exact h.app hm he hown hg hat
theorem news28 (w : World) (x y : Value) (n : Nat) (hn : w.heap.size = n) : ∀ j u, [x, y][j]? = some u → (w.alloc (.cells #[x, y] 28)).cell? ((⟨n, 0, none⟩ : Addr).add j) = some u := by
  subst hn
  exact World.news_of_block (heap_alloc_new w (.cells #[x, y] 28))
theorem one28 {a b : Option Addr} {n m c d : Nat} : ∀ u ∈ [Value.slice a n c, Value.slice b m d], u.oneCell' = true := by
  intro u hu
  simp only [List.mem_cons, List.not_mem_nil, or_false] at hu
  rcases hu with rfl | rfl <;> rfl
set_option maxRecDepth 1000000 in
set_option maxHeartbeats 16000000 in
theorem oloop2 {B i Ba tb tof lT cT : Nat} {may : Bool} {a0 a1 xk yk : Value} {s : Ten} {W : World} {Q : Exit → Act → World → Prop}
    (hk : i < lT) (hcT : lT ≤ cT) (hlT : lT ≤ 1000) (HMY : Hid (tok s = may))
    (HA : Hid (TB W Ba a0 a1 s)) (HK : Hid (Tens W xk yk s ∧ W.cell? ⟨B, 0, none⟩ = some (.slice (some ⟨tb, tof, none⟩) lT cT) ∧ W.cell? ⟨tb, tof + i * 2, none⟩ = some xk ∧ W.cell? ⟨tb, tof + i * 2 + 1, none⟩ = some yk))
    (hexit : ∀ a' w' n og oc oL L xs, FrO2 B i Ba may (.slice (some ⟨og, 0, none⟩) oL oc) n a' → Below W.heap.size W w' → RowT w' W.heap.size (.slice (some ⟨og, 0, none⟩) oL oc) L xs → L.length = oL → 1 ≤ oL ∧ oL ≤ 600 → Q (.exit 2) a' w')
    (a : Act) (w : World) (og oc oL : Nat) (L : List Ten) (xs : List Value) (ha : FrO2 B i Ba may (.slice (some ⟨og, 0, none⟩) oL oc) (-1) a) (hb : Below W.heap.size W w) (hr : RowT w W.heap.size (.slice (some ⟨og, 0, none⟩) oL oc) L xs) (hLn : L.length = oL) (hL1 : 1 ≤ oL) (hL5 : oL ≤ 500) :
    Code.wp Try.prog (.loop (((Try.f3.body.map loopsIn).getD []).getD 1 .skip)) Q a w := by
  refine wp_loop (fun a' w' => ∃ (n : Int) (og oc oL : Nat) (L : List Ten) (xs : List Value), (-1 ≤ n ∧ n ≤ 10) ∧ FrO2 B i Ba may (.slice (some ⟨og, 0, none⟩) oL oc) n a' ∧ Below W.heap.size W w' ∧ RowT w' W.heap.size (.slice (some ⟨og, 0, none⟩) oL oc) L xs ∧ L.length = oL ∧ (1 ≤ oL ∧ (oL : Int) ≤ 501 + n)) (fun a' _ => (10 - intOf (a'.tmps.getD 11 undef)).toNat) ⟨-1, og, oc, oL, L, xs, by omega, ha, hb, hr, hLn, by omega⟩ ?_
  clear ha hb hr hLn hL1 hL5 og oc oL L xs
  clear a w
  intro a w ⟨n, og, oc, oL, L, xs, hn, hf, hb, hr, hLn, hL⟩
  obtain ⟨G, hg, e⟩ := act240 a hf.d hf.s
  obtain ⟨hz1, hz2, g1, g3, g4, g5, g10, g11⟩ := hf
  rw [hg] at g1 g3 g4 g5 g10 g11 
  clear hz1 hz2
  subst e
  clear hg
  rw [g1, g3, g4, g5, g10, g11]
  clear g1 g3 g4 g5 g10 g11
  have HEX : Hid (∀ a' w' n og oc oL L xs, FrO2 B i Ba may (.slice (some ⟨og, 0, none⟩) oL oc) n a' → Below W.heap.size W w' → RowT w' W.heap.size (.slice (some ⟨og, 0, none⟩) oL oc) L xs → L.length = oL → 1 ≤ oL ∧ oL ≤ 600 → Q (.exit 2) a' w') := hexit
  have HB : Hid (Below W.heap.size W w) := hb
  have HR : Hid (RowT w W.heap.size (.slice (some ⟨og, 0, none⟩) oL oc) L xs) := hr
  have HLN : Hid (L.length = oL) := hLn
  have HLL : Hid (1 ≤ oL ∧ (oL : Int) ≤ 501 + n) := hL
  have HTA : Hid (TB w Ba a0 a1 s) := HA.out.later hb
  have hoc : oL ≤ oc := by
    obtain ⟨g', c', e, h1, _, _⟩ := hr.form (by omega)
    simp only [Value.slice.injEq] at e
    omega
  clear hexit hb hr hLn
  obtain ⟨aa, an, ac, rfl⟩ := HTA.out.ten.1.shape3
  obtain ⟨ab, am, ad, rfl⟩ := HTA.out.ten.2.shape3
  conv => arg 2; whnf
  by_cases hlt : n ≤ 9
  · obtain ⟨e0, he0⟩ : ∃ e, fwE s n = e := ⟨_, rfl⟩
    obtain ⟨u, hu⟩ : ∃ u, mxR s n = u := ⟨_, rfl⟩
    have HPK : Hid (fwE s n = e0 ∧ mxR s n = u) := ⟨he0, hu⟩
    clear he0 hu
    have c0 := HTA.out.box.c0
    have c1 := HTA.out.box.c1
    go_wp2_with fail
    refine (max_to n e0 u HTA.out.ten HPK.out.1 HPK.out.2).mono ?_
    rintro e w1 ⟨x0, x1, rfl, ho, hb1⟩
    obtain ⟨xa, xn, xc, rfl⟩ := ho.dims.ints.shape3
    obtain ⟨ya, yn, yc, rfl⟩ := ho.data.ints.shape3
    have HL1 : Hid (Live (w1.alloc (.cells #[.slice xa xn xc, .slice ya yn yc] 28)) [(w1.heap.size, .slice xa xn xc, .slice ya yn yc, u), (Ba, .slice aa an ac, .slice ab am ad, s)]) := Live.push (L := [(Ba, .slice aa an ac, .slice ab am ad, s)]) ⟨HTA.out.later hb1, trivial⟩ ho.tens
    have HB1 : Hid (Below w.heap.size w (w1.alloc (.cells #[.slice xa xn xc, .slice ya yn yc] 28))) := Below.push hb1 _
    have HFX : Hid (From w.heap.size (.slice xa xn xc) ∧ From w.heap.size (.slice ya yn yc)) := ⟨ho.dims.frm, ho.data.frm⟩
    have hs1 := hb1.size
    have HVB : Hid (Below (w1.alloc (.cells #[.slice xa xn xc, .slice ya yn yc] 28)).heap.size (w1.alloc (.cells #[.slice xa xn xc, .slice ya yn yc] 28)) ((w1.alloc (.cells #[.slice xa xn xc, .slice ya yn yc] 28)).alloc (.cells #[.slice none 0 0, .slice none 0 0] 28))) := Below.push (Below.refl _ _) _
    have HV4 : Hid (Live ((w1.alloc (.cells #[.slice xa xn xc, .slice ya yn yc] 28)).alloc (.cells #[.slice none 0 0, .slice none 0 0] 28)) [((w1.heap.size + 1), .slice none 0 0, .slice none 0 0, ([], []))]) := by
      have h := Live.push (w := (w1.alloc (.cells #[.slice xa xn xc, .slice ya yn yc] 28))) (L := []) (t := ([], [])) trivial ⟨Ints.nil _, Ints.nil _⟩
      simp only [World.size_alloc] at h
      exact h
    clear ho hb1 c0 c1
    go_upto_region 22 with fail
    rename_i K1 hK1 K0 hK0
    have HM : Hid (∀ a' w' og oc oL L xs, FrO2e B i Ba may (.slice (some ⟨og, 0, none⟩) oL oc) n w1.heap.size (w1.heap.size + 1) e0 e0 a' → (∃ r0 r1, Live w' [(w1.heap.size, .slice xa xn xc, .slice ya yn yc, u), ((w1.heap.size + 1), r0, r1, u)]) → Below W.heap.size W w' → RowT w' W.heap.size (.slice (some ⟨og, 0, none⟩) oL oc) L xs → L.length = oL → (1 ≤ oL ∧ (oL : Int) ≤ 502 + n) → K1 a' w') := by
      clear HR HLN HLL hoc hL
      intro a6 w6 og oc oL L xs hf6 ⟨r0, r1, hl6⟩ hb6 hr6 hLn6 hLL6
      apply hK1
      clear hK1 hK0 K0 HV4 HVB HL1 HB1
      have HP6 : Hid (Live w6 _) := hl6
      have HB6 : Hid (Below W.heap.size W w6) := hb6
      have HR6 : Hid (RowT w6 W.heap.size (.slice (some ⟨og, 0, none⟩) oL oc) L xs) := hr6
      have HLN6 : Hid (L.length = oL) := hLn6
      have HTA6 : Hid (TB w6 Ba (.slice aa an ac) (.slice ab am ad) s) := HA.out.later hb6
      have HK6 : Hid (Tens w6 xk yk s ∧ w6.cell? ⟨B, 0, none⟩ = some (.slice (some ⟨tb, tof, none⟩) lT cT) ∧ w6.cell? ⟨tb, tof + i * 2, none⟩ = some xk ∧ w6.cell? ⟨tb, tof + i * 2 + 1, none⟩ = some yk) := ⟨HK.out.1.later hb6, cell_later hb6 HK.out.2.1, cell_later hb6 HK.out.2.2.1, cell_later hb6 HK.out.2.2.2⟩
      clear hl6 hb6 hr6 hLn6
      obtain ⟨G6, hg6, e6⟩ := act240 a6 hf6.d hf6.s
      obtain ⟨hz1, hz2, g1, g3, g4, g5, g10, g11, g12, g13, g14, g15⟩ := hf6
      rw [hg6] at g1 g3 g4 g5 g10 g11 g12 g13 g14 g15 
      clear hz1 hz2
      subst e6
      clear hg6
      rw [g1, g3, g4, g5, g10, g11, g12, g13, g14, g15]
      clear g1 g3 g4 g5 g10 g11 g12 g13 g14 g15
      go_upto_region 27 with fail
      refine oreg27 (t := s) (u := u) hk hcT hlT HP6.out.1 HP6.out.2.1 HTA6 HK6.out.1 HK6.out.2.1 HK6.out.2.2.1 HK6.out.2.2.2 ?_ _ ⟨rfl, rfl, rfl, rfl, rfl, rfl, rfl, rfl, rfl, rfl, rfl, rfl⟩
      intro a7 w7 hf7 h125 hb7
      obtain ⟨G7, hg7, e7⟩ := act240 a7 hf7.d hf7.s
      obtain ⟨hz1, hz2, g1, g3, g4, g5, g10, g11, g12, g13, g14, g15⟩ := hf7
      rw [hg7] at g1 g3 g4 g5 g10 g11 h125
      clear hz1 hz2 g12 g13 g14 g15
      subst e7
      clear hg7
      rw [g1, g3, g4, g5, g10, g11, h125]
      clear g1 g3 g4 g5 g10 g11 h125
      have HB7 : Hid (Below W.heap.size W w7) := Below.after HB6.out hb7
      have HR7 : Hid (RowT w7 W.heap.size (.slice (some ⟨og, 0, none⟩) oL oc) L xs) := HR6.out.later hb7
      clear hb7 HP6 HB6 HR6 HTA6 HK6
      go_wp2
      refine ⟨⟨n + 1, og, oc, oL, L, xs, by omega, ⟨rfl, rfl, rfl, rfl, rfl, rfl, rfl, ?_⟩, HB7.out, HR7.out, HLN6.out, by omega⟩, ?_⟩
      · show Value.int .i64 _ = _
        go_num
      · show (10 - intOf (Value.int .i64 _)).toNat < (10 - intOf (Value.int .i64 _)).toNat
        simp [intOf]
        omega
    clear hK1
    cases hs : may with
    | false =>
      subst hs
      have HF : Hid (e0 = 1 ∧ u = ([], [])) := by
        show _ ∧ _
        rw [← HPK.out.1, ← HPK.out.2]
        exact mxR_bad (fwE_bad (Or.inl HMY.out)) (by decide)
      go_wp2
      refine HM.out _ _ og oc oL L xs ⟨rfl, rfl, rfl, rfl, rfl, rfl, rfl, rfl, rfl, rfl, by rw [HF.out.1]; rfl, rfl⟩ ⟨.slice none 0 0, .slice none 0 0, ?_⟩ (Below.after HB.out (Below.after HB1.out HVB.out)) (HR.out.later (Below.after HB1.out HVB.out)) HLN.out (by have := HLL.out; omega)
      rw [HF.out.2]
      refine ⟨?_, (HV4.out.later (Below.refl _ _)).1, trivial⟩
      rw [← HF.out.2]
      exact (HL1.out.later HVB.out).1
    | true =>
      subst hs
      by_cases hn8 : 1 ≤ n ∧ n ≤ 8
      · obtain ⟨q, rfl⟩ : ∃ q : Nat, n = q := ⟨n.toNat, by omega⟩
        have hq1 : 1 ≤ q := by omega
        have hq8 : q ≤ 8 := by omega
        obtain ⟨b, off, c, E, Ld, ha0, hE, hLd, l1, l8, hc, hE2, hbw, hcell⟩ := last_of HTA.out.ten HMY.out
        simp only [Value.slice.injEq] at ha0
        obtain ⟨rfl, rfl, rfl⟩ := ha0
        have HCE : Hid (w.cell? ⟨b, off + E, none⟩ = some (.int .i64 Ld)) := hcell
        have n0 : ¬ q = 0 := by omega
        clear hcell hE
        go_wp2_with fail
        refine (between_t (q : Int) 1 8 _ (by omega) (by omega)).mono ?_
        rintro e w5 ⟨rfl, rfl⟩
        have c0 := (HL1.out.later HVB.out).2.1.box.c0
        have c1 := (HL1.out.later HVB.out).2.1.box.c1
        have c2 := cell_later (Below.after HB1.out HVB.out) HCE.out
        by_cases hd : lastD s.1 % q = 0
        · have HFW : Hid (fwE s q = 0) := fwE_yes HMY.out (by omega) (by omega) hd
          obtain ⟨m, hm1, hm, hok, hpm⟩ := few_mul HMY.out hq1 hd
          have HM2 : Hid (s.2.length = m * q ∧ okd (lesD s.1 q) = true ∧ (prd (lesD s.1 q)).toNat = m) := ⟨hm, hok, hpm⟩
          have HF : Hid (e0 = 0 ∧ u = (lesD s.1 q, maxs q m s.2)) := by
            show _ ∧ _
            rw [← HPK.out.1, ← HPK.out.2]
            have hq : s.2.length / q = m := by rw [hm]; exact Nat.mul_div_cancel _ (by omega)
            exact ⟨HFW.out, by rw [mxR, if_pos HFW.out, mxM, Int.toNat_natCast, hq]⟩
          rw [hLd] at hd
          have hd2 : ((Ld : Int) % (q : Int) == 0) = true := by simpa using hd
          clear hm hok hpm hLd
          go_wp2_with fail
          refine (rmax_ok q m (m * q) (HL1.out.later HVB.out).2.1.ten HMY.out hq1 hq8 hm1 HM2.out.1 rfl HM2.out.2.1 HM2.out.2.2).mono ?_
          rintro e w7 ⟨z0, z1, rfl, ho, hb7⟩
          obtain ⟨za, zn, zc, rfl⟩ := ho.dims.ints.shape3
          obtain ⟨ra, rn, rc, rfl⟩ := ho.data.ints.shape3
          have hbx := (HV4.out.later hb7).1.box
          have l0 := hbx.c0
          have l1' := hbx.c1
          have m0 := hbx.f 0
          have m1 := hbx.f 1
          have hs7 := hb7.size
          simp only [World.size_alloc] at hs7
          obtain ⟨U, hU⟩ : ∃ U, U = (w7.setCell ⟨(w1.heap.size + 1), 0, none⟩ (.slice za zn zc)).setCell ⟨(w1.heap.size + 1), 1, none⟩ (.slice ra rn rc) := ⟨_, rfl⟩
          have hsU : U.heap.size = w7.heap.size := by rw [hU]; simp
          have HBS : Hid (Box U (w1.heap.size + 1) (.slice za zn zc) (.slice ra rn rc)) := by show Box _ _ _ _; rw [hU]; exact hbx.set (.slice za zn zc) (.slice ra rn rc)
          have HOS : Hid (OwnT U (w1.heap.size + 1 + 1) (.slice za zn zc) (.slice ra rn rc) (lesD s.1 q, maxs q m s.2)) := by
            show OwnT _ _ _ _ _
            rw [hU]
            have := ho.set2 (.slice za zn zc) (.slice ra rn rc) (p := (w1.heap.size + 1)) (by simp)
            simpa using this
          have HBU : Hid (Below (w1.alloc (.cells #[.slice xa xn xc, .slice ya yn yc] 28)).heap.size (w1.alloc (.cells #[.slice xa xn xc, .slice ya yn yc] 28)) U) := by
            show Below _ _ _
            rw [hU]
            exact ((Below.after HVB.out hb7).setCell (by simp) _).setCell (by simp) _
          clear hbx ho hb7 c0 c1 c2
          have HBW : Hid (Below w.heap.size w U) := Below.after HB1.out HBU.out
          have k0 := HBS.out.c0
          have k1 := HBS.out.c1
          obtain ⟨i28, hi, hz0, hz1, hz2⟩ := info28
          have HI : Hid (Try.prog.info? 28 = some i28 ∧ i28.zero = some (.agg #[.slice none 0 0, .slice none 0 0]) ∧ i28.size = 2 ∧ i28.bytes = 48) := ⟨hi, hz0, hz1, hz2⟩
          clear hi hz0 hz1 hz2
          have hW0 := HB.out.size
          have hog := HR.out.lt og rfl
          have HUP : Hid (Below U.heap.size U (U.alloc (.cells #[.slice za zn zc, .slice ra rn rc] 28))) := Below.push (Below.refl _ _) _
          have HOWN : Hid ((U.alloc (.cells #[.slice za zn zc, .slice ra rn rc] 28)).ownsRow W.heap.size 28 2 (.slice (some ⟨og, 0, none⟩) oL oc) oL xs) := by
            have h := (HR.out.later (Below.after HBW.out HUP.out)).own
            rw [HLN.out] at h
            exact h
          rw [hU] at k0 k1
          go_wp2_with (at_builtin; rw [← hU]; refine wpList_append_own_at _ rfl _ _ 22 rfl W.heap.size 28 i28 (.agg #[.slice none 0 0, .slice none 0 0]) 2 48 Try.underlying22 HI.out.1 HI.out.2.1 HI.out.2.2.1 HI.out.2.2.2 rfl (by decide) _ oL xs rfl ?own ⟨w7.heap.size, 0, none⟩ 1 1 [.slice za zn zc, .slice ra rn rc] rfl rfl ?news one28 ?c3 ?c4 ?c5 ?_)
          case own => exact HOWN.out
          case news => exact news28 _ _ _ _ hsU
          case c3 => have := HLL.out; unfold maxLen; omega
          case c4 => have := HLL.out; omega
          case c5 => have := HBW.out.size; simp; omega
          intro v' w9 hown hgrow _ hat
          rw [← HLN.out] at hown
          rw [← hU] at hgrow
          have hrr := (HR.out.later (Below.after HBW.out HUP.out)).appH (E := [(lesD s.1 q, maxs q m s.2)]) (m := 1) (news := [.slice za zn zc, .slice ra rn rc]) rfl (fun j hj => by
            obtain rfl : j = 0 := by simp at hj; omega
            refine ⟨_, _, rfl, rfl, ⟨HOS.out.dims.ints.later HUP.out, fun _ e => ?_⟩, ⟨HOS.out.data.ints.later HUP.out, fun _ e => ?_⟩⟩
            · have := HOS.out.dims.frm og e; omega
            · have := HOS.out.data.frm og e; omega) hown hgrow hat (by simp [hU])
          have hgr : ∀ k, (Value.slice (some ⟨og, 0, none⟩) oL oc).ownBlock = some k → k < w.heap.size := fun k hk => (HR.out.lt k hk).2
          have HT1 : Hid (TB w9 w1.heap.size (.slice xa xn xc) (.slice ya yn yc) u) := (((HL1.out.later HBU.out).later HUP.out).1).grown hgrow hgr hs1 HFX.out.1 HFX.out.2
          have HT2 : Hid (TB w9 (w1.heap.size + 1) (.slice za zn zc) (.slice ra rn rc) (lesD s.1 q, maxs q m s.2)) := (TB.later HUP.out ⟨HBS.out, HOS.out.tens⟩).grown hgrow hgr (by omega) (fun k hk => by have := HOS.out.dims.frm k hk; omega) (fun k hk => by have := HOS.out.data.frm k hk; omega)
          have hbW : Below W.heap.size W (U.alloc (.cells #[.slice za zn zc, .slice ra rn rc] 28)) := Below.after HB.out (Below.after HBW.out HUP.out)
          have HB9 : Hid (Below W.heap.size W w9) := hbW.grown hgrow hbW.size (fun k hk => (HR.out.lt k hk).1)
          obtain ⟨g9, c9, ex, hc9, _, _⟩ := hrr.form (by simp)
          have hl9 : (L ++ [(lesD s.1 q, maxs q m s.2)]).length = oL + 1 := by simp [HLN.out]
          rw [hl9] at ex
          subst ex
          have HR9 : Hid (RowT w9 W.heap.size (.slice (some ⟨g9, 0, none⟩) (oL + 1) c9) (L ++ [(lesD s.1 q, maxs q m s.2)]) (xs ++ [.slice za zn zc, .slice ra rn rc])) := hrr
          have HL9 : Hid ((L ++ [(lesD s.1 q, maxs q m s.2)]).length = oL + 1) := hl9
          clear hrr hown hgrow hat hgr hbW hc9 hl9 k0 k1
          go_wp2
          refine HM.out _ _ g9 c9 (oL + 1) _ _ ⟨rfl, rfl, rfl, rfl, rfl, rfl, rfl, rfl, rfl, rfl, by rw [HF.out.1]; rfl, rfl⟩ ⟨.slice za zn zc, .slice ra rn rc, HT1.out, ?_, trivial⟩ HB9.out HR9.out HL9.out (by have := HLL.out; omega)
          rw [HF.out.2]
          exact HT2.out
        · have HF : Hid (e0 = 4 ∧ u = ([], [])) := by
            show _ ∧ _
            rw [← HPK.out.1, ← HPK.out.2]
            exact mxR_bad (fwE_no HMY.out (by omega) (by omega) hd) (by decide)
          rw [hLd] at hd
          have hd2 : ((Ld : Int) % (q : Int) == 0) = false := by simpa using hd
          clear hLd
          go_wp2
          refine HM.out _ _ og oc oL L xs ⟨rfl, rfl, rfl, rfl, rfl, rfl, rfl, rfl, rfl, rfl, by rw [HF.out.1]; rfl, rfl⟩ ⟨.slice none 0 0, .slice none 0 0, ?_⟩ (Below.after HB.out (Below.after HB1.out HVB.out)) (HR.out.later (Below.after HB1.out HVB.out)) HLN.out (by have := HLL.out; omega)
          rw [HF.out.2]
          refine ⟨?_, (HV4.out.later (Below.refl _ _)).1, trivial⟩
          rw [← HF.out.2]
          exact (HL1.out.later HVB.out).1
      · have HF : Hid (e0 = 1 ∧ u = ([], [])) := by
          show _ ∧ _
          rw [← HPK.out.1, ← HPK.out.2]
          exact mxR_bad (fwE_bad (Or.inr hn8)) (by decide)
        go_wp2_with fail
        refine (between_f n 1 8 _ (by omega)).mono ?_
        rintro e w5 ⟨rfl, rfl⟩
        go_wp2
        refine HM.out _ _ og oc oL L xs ⟨rfl, rfl, rfl, rfl, rfl, rfl, rfl, rfl, rfl, rfl, by rw [HF.out.1]; rfl, rfl⟩ ⟨.slice none 0 0, .slice none 0 0, ?_⟩ (Below.after HB.out (Below.after HB1.out HVB.out)) (HR.out.later (Below.after HB1.out HVB.out)) HLN.out (by have := HLL.out; omega)
        rw [HF.out.2]
        refine ⟨?_, (HV4.out.later (Below.refl _ _)).1, trivial⟩
        rw [← HF.out.2]
        exact (HL1.out.later HVB.out).1
  · go_wp2
    exact HEX.out _ _ n og oc oL L xs ⟨rfl, rfl, rfl, rfl, rfl, rfl, rfl, rfl⟩ HB.out HR.out HLN.out (by have := HLL.out; omega)
end Go.Proofs.Ytnphfepkjhlalaa
