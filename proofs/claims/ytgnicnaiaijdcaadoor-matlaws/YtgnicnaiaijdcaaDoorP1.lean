/- MatLaws: what follows, and its loop. -/
import Derived.Test.YtgnicnaiaijdcaaDoorRe
namespace Go.Proofs.YtgnicnaiaijdcaaDoor
set_option linter.unusedVariables false
set_option linter.unusedSimpArgs false
open Go.RowKit

theorem turn_to {a0 a1 : Value} {s : Ten} {w : World} (x : Int) (u : Ten) (ha : Tens w a0 a1 s) (hx : trE s = x) (hu : trR s = u) :
    Calls Tryd.prog 24 #[.agg #[a0, a1]] w fun e w' => ∃ x0 x1, e = .returned (.tuple #[.agg #[x0, x1], .int .i64 x]) ∧ OwnT w' w.heap.size x0 x1 u ∧ Below w.heap.size w w' := by
  subst hx hu
  exact turn_any ha
theorem tr_ok {p q : Nat} {l : List Int} (hx : tok ([(p : Int), (q : Int)], l) = true) : trE ([(p : Int), (q : Int)], l) = 0 ∧ trR ([(p : Int), (q : Int)], l) = ([(q : Int), (p : Int)], tns p q l) := by
  have he : trE ([(p : Int), (q : Int)], l) = 0 := by simp [trE, hx]
  refine ⟨he, ?_⟩
  rw [trR, he, if_pos rfl]
  simp
theorem fit_ok {p q : Nat} {l m : List Int} (hx : tok ([(p : Int), (q : Int)], l) = true) (hy : tok ([(p : Int), (q : Int)], m) = true) : fitE ([(p : Int), (q : Int)], l) ([(p : Int), (q : Int)], m) = 0 ∧ eachR opA ([(p : Int), (q : Int)], l) ([(p : Int), (q : Int)], m) = ([(p : Int), (q : Int)], List.zipWith opA l m) := by
  have he : fitE ([(p : Int), (q : Int)], l) ([(p : Int), (q : Int)], m) = 0 := by simp [fitE, hx, hy]
  exact ⟨he, each_ok_eq he⟩
/-- What MatLaws asks of three matrices. -/
theorem laws_law (n : Nat) (X Y Z : List Int) (h1 : 1 ≤ n) (h8 : n ≤ 8) (hX : X.length = n * n) (hY : Y.length = n * n) (hZ : Z.length = n * n) (hr : Rg X) :
    ∃ ab xx bd ss uu ad tt ta tb p2 p3 pq : Ten, (muE ([(n : Int), (n : Int)], X) ([(n : Int), (n : Int)], Y) = 0 ∧ muR ([(n : Int), (n : Int)], X) ([(n : Int), (n : Int)], Y) = ab) ∧ (muE ab ([(n : Int), (n : Int)], Z) = 0 ∧ muR ab ([(n : Int), (n : Int)], Z) = xx) ∧ (muE ([(n : Int), (n : Int)], Y) ([(n : Int), (n : Int)], Z) = 0 ∧ muR ([(n : Int), (n : Int)], Y) ([(n : Int), (n : Int)], Z) = bd) ∧ (muE ([(n : Int), (n : Int)], X) bd = 0 ∧ muR ([(n : Int), (n : Int)], X) bd = xx) ∧ (fitE ([(n : Int), (n : Int)], Y) ([(n : Int), (n : Int)], Z) = 0 ∧ eachR opA ([(n : Int), (n : Int)], Y) ([(n : Int), (n : Int)], Z) = ss) ∧ (muE ([(n : Int), (n : Int)], X) ss = 0 ∧ muR ([(n : Int), (n : Int)], X) ss = uu) ∧ (muE ([(n : Int), (n : Int)], X) ([(n : Int), (n : Int)], Z) = 0 ∧ muR ([(n : Int), (n : Int)], X) ([(n : Int), (n : Int)], Z) = ad) ∧ (fitE ab ad = 0 ∧ eachR opA ab ad = uu) ∧ (trE ab = 0 ∧ trR ab = tt) ∧ (trE ([(n : Int), (n : Int)], X) = 0 ∧ trR ([(n : Int), (n : Int)], X) = ta) ∧ (trE ([(n : Int), (n : Int)], Y) = 0 ∧ trR ([(n : Int), (n : Int)], Y) = tb) ∧ (muE tb ta = 0 ∧ muR tb ta = tt) ∧ (poE ([(n : Int), (n : Int)], X) 2 = 0 ∧ poR ([(n : Int), (n : Int)], X) 2 = p2) ∧ (poE ([(n : Int), (n : Int)], X) 3 = 0 ∧ poR ([(n : Int), (n : Int)], X) 3 = p3) ∧ (poE ([(n : Int), (n : Int)], X) 5 = 0 ∧ poR ([(n : Int), (n : Int)], X) 5 = pq) ∧ (muE p2 p3 = 0 ∧ muR p2 p3 = pq) := by
  have tX := tok2_mk (l := X) h1 h8 h1 h8 hX
  have tY := tok2_mk (l := Y) h1 h8 h1 h8 hY
  have tZ := tok2_mk (l := Z) h1 h8 h1 h8 hZ
  have T : ∀ a b, tok ([(n : Int), (n : Int)], mxl n n n a b) = true := fun a b => tok2_mk h1 h8 h1 h8 (mxl_length _ _ _ _ _)
  have hs : (List.zipWith opA Y Z).length = n * n := by simp [hY, hZ]
  have tS := tok2_mk (l := List.zipWith opA Y Z) h1 h8 h1 h8 hs
  have N : ∀ a, tok ([(n : Int), (n : Int)], tns n n a) = true := fun a => tok2_mk h1 h8 h1 h8 (tns_length _ _ _)
  have W : ∀ k, tok ([(n : Int), (n : Int)], mpw n X k) = true := fun k => tok2_mk h1 h8 h1 h8 (mpw_length _ _ _)
  refine ⟨_, _, _, _, _, _, _, _, _, _, _, _, ⟨muE_ok tX tY, muR_ok tX tY⟩, ⟨muE_ok (T _ _) tZ, muR_ok (T _ _) tZ⟩, ⟨muE_ok tY tZ, muR_ok tY tZ⟩, ⟨muE_ok tX (T _ _), ?_⟩, fit_ok tY tZ, ⟨muE_ok tX tS, muR_ok tX tS⟩, ⟨muE_ok tX tZ, muR_ok tX tZ⟩, ⟨(fit_ok (T _ _) (T _ _)).1, ?_⟩, tr_ok (T _ _), tr_ok tX, tr_ok tY, ⟨muE_ok (N _) (N _), ?_⟩, ⟨poE_ok (n := 2) tX (by decide), poR_ok (n := 2) tX (by decide)⟩, ⟨poE_ok (n := 3) tX (by decide), poR_ok (n := 3) tX (by decide)⟩, ⟨poE_ok (n := 5) tX (by decide), poR_ok (n := 5) tX (by decide)⟩, ⟨muE_ok (W _) (W _), ?_⟩⟩
  · rw [muR_ok tX (T _ _), ← mx_assoc]
  · rw [(fit_ok (T _ _) (T _ _)).2, ← mx_add n n n X Y Z hY hZ]
  · rw [muR_ok (N _) (N _), ← mx_turn n n n X Y]
  · rw [muR_ok (W _) (W _), ← mpw_add n X 2 3]

structure FrP (B i : Nat) (a : Act) : Prop where
  d : a.defers = []
  s : a.tmps.size = 245
  f1 : a.tmps.getD 1 undef = .pointer (some ⟨B, 0, none⟩)
  f3 : a.tmps.getD 3 undef = .int .i64 i

set_option maxRecDepth 1000000 in
set_option maxHeartbeats 16000000 in
theorem ploop {B c0 : Nat} {f na : Option Addr} {nc : Nat} {T : List Ten} {L : List Int} {W : World} {Q : Exit → Act → World → Prop}
    (hcT : T.length ≤ c0) (hT0 : T.length ≤ 17592186044416) (hN8 : L.length ≤ 17592186043904)
    (HE : Hid (EnvM B (.slice f T.length c0) (.slice na L.length nc) T L W))
    (hexit : ∀ a' w' i, FrP B i a' → Below W.heap.size W w' → Q (.exit 0) a' w')
    (a : Act) (w : World) (ha : FrP B 0 a) (hb : Below W.heap.size W w) :
    Code.wp Tryd.prog (.loop (((Tryd.f4.body.map loopsIn).getD []).getD 0 .skip)) Q a w := by
  refine wp_loop (fun a' w' => (∃ i : Nat, i ≤ 6 ∧ FrP B i a') ∧ Below W.heap.size W w') (fun a' _ => 6 - slotNat a' 3) ⟨⟨0, by omega, ha⟩, hb⟩ ?_
  clear ha hb
  clear a w
  intro a w ⟨⟨i, hi6, hf⟩, hb⟩
  obtain ⟨G, hg, e⟩ := act245 a hf.d hf.s
  obtain ⟨hz1, hz2, g1, g3⟩ := hf
  rw [hg] at g1 g3 
  clear hz1 hz2
  subst e
  clear hg
  rw [g1, g3]
  have HEX : Hid (∀ a' w' i, FrP B i a' → Below W.heap.size W w' → Q (.exit 0) a' w') := hexit
  have HBW : Hid (Below W.heap.size W w) := hb
  have HEW : Hid (EnvM B (.slice f T.length c0) (.slice na L.length nc) T L w) := HE.out.later hb
  have hbx := HEW.out.b0
  have hby := HEW.out.b1
  obtain ⟨lL, hlL⟩ : ∃ l, L.length = l := ⟨_, rfl⟩
  rw [hlL] at hby hN8
  clear hexit hb g1 g3
  conv => arg 2; whnf
  by_cases hlt : i + 2 < T.length
  · by_cases hlt6 : i < 6
    · obtain ⟨tb, tof, xa, xc, ya, yc, ea, hi1, hi2, HTI⟩ := HEW.out.hT.row i (by omega)
      subst ea
      obtain ⟨tb', tof', ua, uc, va, vc, ea, hj1, hj2, HTJ⟩ := HEW.out.hT.row (i + 1) (by omega)
      cases ea
      obtain ⟨tb', tof', qa, qc, ra, rc, ea, hk1, hk2, HTK⟩ := HEW.out.hT.row (i + 2) (by omega)
      cases ea
      have hw1 : IntKind.i64.wrap ((lL : Int) + i) = ((lL + i : Nat) : Int) := by rw [wrap_small _ (by omega) (by omega)]; simp
      have hm4 : (lL + i) % 4 < 4 := Nat.mod_lt _ (by decide)
      obtain ⟨m, hm⟩ : ∃ m, (lL + i) % 4 = m := ⟨_, rfl⟩
      obtain ⟨n, hn⟩ : ∃ n, 1 + m = n := ⟨_, rfl⟩
      have hw2 : IntKind.i64.wrap (1 + (m : Int)) = (n : Int) := by rw [wrap_small _ (by omega) (by omega)]; omega
      have hn1 : 1 ≤ n := by omega
      have hn8 : n ≤ 8 := by omega
      have HWI : Hid ((lL + i) % 4 = m) := hm
      have hg2 : decide ((i : Int) < 6) = true := by simp; omega
      clear hm hn hm4
      go_upto_region 7 with (go_at_call 21; refine (within_ok (lL + i) 4 (by omega) (by decide) (by decide)).mono ?_; rw [HWI.out]; rintro e w' ⟨rfl, rfl⟩)
      refine sq_region (n := n) (i := i) (s := T[i]) (t := T[i + 1]) (u := T[i + 2]) hn1 hn8 hlt hlt6 hbx hi1 hi2 hj1 hj2 hk1 hk2 HTI.out HTJ.out HTK.out rfl rfl rfl rfl ?_ ?_
      · rfl
      · intro a1 w0 Ba Bb Bd a0 a1' b0 b1 d0 d1 X Y Z hd1 hs1 g1 g3 g5 g6 g7 hX hY hZ hl0 hb0
        obtain ⟨G1, hg1, e1⟩ := act245 a1 hd1 hs1
        rw [hg1] at g1 g3 g5 g6 g7
        subst e1
        clear hg1 hd1 hs1
        rw [g1, g3, g5, g6, g7]
        clear g1 g3 g5 g6 g7
        obtain ⟨ab, xx, bd, ss, uu, ad, tt, ta, tb, p2, p3, pq, hon⟩ := laws_law n X Y Z hn1 hn8 hX.1 hY.1 hZ.1 hX.2
        have HON : Hid ((muE ([(n : Int), (n : Int)], X) ([(n : Int), (n : Int)], Y) = 0 ∧ muR ([(n : Int), (n : Int)], X) ([(n : Int), (n : Int)], Y) = ab) ∧ (muE ab ([(n : Int), (n : Int)], Z) = 0 ∧ muR ab ([(n : Int), (n : Int)], Z) = xx) ∧ (muE ([(n : Int), (n : Int)], Y) ([(n : Int), (n : Int)], Z) = 0 ∧ muR ([(n : Int), (n : Int)], Y) ([(n : Int), (n : Int)], Z) = bd) ∧ (muE ([(n : Int), (n : Int)], X) bd = 0 ∧ muR ([(n : Int), (n : Int)], X) bd = xx) ∧ (fitE ([(n : Int), (n : Int)], Y) ([(n : Int), (n : Int)], Z) = 0 ∧ eachR opA ([(n : Int), (n : Int)], Y) ([(n : Int), (n : Int)], Z) = ss) ∧ (muE ([(n : Int), (n : Int)], X) ss = 0 ∧ muR ([(n : Int), (n : Int)], X) ss = uu) ∧ (muE ([(n : Int), (n : Int)], X) ([(n : Int), (n : Int)], Z) = 0 ∧ muR ([(n : Int), (n : Int)], X) ([(n : Int), (n : Int)], Z) = ad) ∧ (fitE ab ad = 0 ∧ eachR opA ab ad = uu) ∧ (trE ab = 0 ∧ trR ab = tt) ∧ (trE ([(n : Int), (n : Int)], X) = 0 ∧ trR ([(n : Int), (n : Int)], X) = ta) ∧ (trE ([(n : Int), (n : Int)], Y) = 0 ∧ trR ([(n : Int), (n : Int)], Y) = tb) ∧ (muE tb ta = 0 ∧ muR tb ta = tt) ∧ (poE ([(n : Int), (n : Int)], X) 2 = 0 ∧ poR ([(n : Int), (n : Int)], X) 2 = p2) ∧ (poE ([(n : Int), (n : Int)], X) 3 = 0 ∧ poR ([(n : Int), (n : Int)], X) 3 = p3) ∧ (poE ([(n : Int), (n : Int)], X) 5 = 0 ∧ poR ([(n : Int), (n : Int)], X) 5 = pq) ∧ (muE p2 p3 = 0 ∧ muR p2 p3 = pq)) := hon
        obtain ⟨aa0, an0, ac0, rfl⟩ := hl0.1.ten.1.shape3
        obtain ⟨aa1, an1, ac1, rfl⟩ := hl0.1.ten.2.shape3
        obtain ⟨ba0, bn0, bc0, rfl⟩ := hl0.2.1.ten.1.shape3
        obtain ⟨ba1, bn1, bc1, rfl⟩ := hl0.2.1.ten.2.shape3
        obtain ⟨da0, dn0, dc0, rfl⟩ := hl0.2.2.1.ten.1.shape3
        obtain ⟨da1, dn1, dc1, rfl⟩ := hl0.2.2.1.ten.2.shape3
        have HL0 : Hid (Live w0 _) := hl0
        have HBq : Hid (Below w.heap.size w w0) := hb0
        have HB0 : Hid (Below w0.heap.size w0 w0) := Below.refl _ _
        have HG0 : Hid (w0.cell? ⟨2, 1, none⟩ = some (.int .u8 1)) := (HEW.out.later hb0).hg
        clear hon hX hY hZ hl0 hb0 hi1 hi2 hj1 hj2 hk1 hk2 hbx hby HTI HTJ HTK HEW hw1 hw2 HWI
        have c0 := HL0.out.1.box.c0
        have c1 := HL0.out.1.box.c1
        have c2 := HL0.out.2.1.box.c0
        have c3 := HL0.out.2.1.box.c1
        go_wp2_with fail
        refine (mul_to 0 ab HL0.out.1.ten HL0.out.2.1.ten HON.out.1.1 HON.out.1.2).mono ?_
        rintro e v1 ⟨x, y, rfl, ho, hb⟩
        obtain ⟨xa1, xn1, xc1, rfl⟩ := ho.dims.ints.shape3
        obtain ⟨ya1, yn1, yc1, rfl⟩ := ho.data.ints.shape3
        have HL1 : Hid (Live (v1.alloc (.cells #[.slice xa1 xn1 xc1, .slice ya1 yn1 yc1] 28)) _) := (HL0.out.later hb).push ho.tens
        have HB1 : Hid (Below w0.heap.size w0 (v1.alloc (.cells #[.slice xa1 xn1 xc1, .slice ya1 yn1 yc1] 28))) := Below.push (Below.after HB0.out hb) _
        clear ho hb c0 c1 c2 c3   
        have c0 := HL1.out.1.box.c0
        have c1 := HL1.out.1.box.c1
        have c2 := HL1.out.2.2.2.1.box.c0
        have c3 := HL1.out.2.2.2.1.box.c1
        go_wp2_with fail
        refine (mul_to 0 xx HL1.out.1.ten HL1.out.2.2.2.1.ten HON.out.2.1.1 HON.out.2.1.2).mono ?_
        rintro e v2 ⟨x, y, rfl, ho, hb⟩
        obtain ⟨xa2, xn2, xc2, rfl⟩ := ho.dims.ints.shape3
        obtain ⟨ya2, yn2, yc2, rfl⟩ := ho.data.ints.shape3
        have HL2 : Hid (Live (v2.alloc (.cells #[.slice xa2 xn2 xc2, .slice ya2 yn2 yc2] 28)) _) := (HL1.out.later hb).push ho.tens
        have HB2 : Hid (Below w0.heap.size w0 (v2.alloc (.cells #[.slice xa2 xn2 xc2, .slice ya2 yn2 yc2] 28))) := Below.push (Below.after HB1.out hb) _
        clear ho hb c0 c1 c2 c3  HL1 HB1
        have c0 := HL2.out.2.2.2.1.box.c0
        have c1 := HL2.out.2.2.2.1.box.c1
        have c2 := HL2.out.2.2.2.2.1.box.c0
        have c3 := HL2.out.2.2.2.2.1.box.c1
        go_wp2_with fail
        refine (mul_to 0 bd HL2.out.2.2.2.1.ten HL2.out.2.2.2.2.1.ten HON.out.2.2.1.1 HON.out.2.2.1.2).mono ?_
        rintro e v3 ⟨x, y, rfl, ho, hb⟩
        obtain ⟨xa3, xn3, xc3, rfl⟩ := ho.dims.ints.shape3
        obtain ⟨ya3, yn3, yc3, rfl⟩ := ho.data.ints.shape3
        have HL3 : Hid (Live (v3.alloc (.cells #[.slice xa3 xn3 xc3, .slice ya3 yn3 yc3] 28)) _) := (HL2.out.later hb).push ho.tens
        have HB3 : Hid (Below w0.heap.size w0 (v3.alloc (.cells #[.slice xa3 xn3 xc3, .slice ya3 yn3 yc3] 28))) := Below.push (Below.after HB2.out hb) _
        clear ho hb c0 c1 c2 c3  HL2 HB2
        have c0 := HL3.out.2.2.2.1.box.c0
        have c1 := HL3.out.2.2.2.1.box.c1
        have c2 := HL3.out.1.box.c0
        have c3 := HL3.out.1.box.c1
        go_wp2_with fail
        refine (mul_to 0 xx HL3.out.2.2.2.1.ten HL3.out.1.ten HON.out.2.2.2.1.1 HON.out.2.2.2.1.2).mono ?_
        rintro e v4 ⟨x, y, rfl, ho, hb⟩
        obtain ⟨xa4, xn4, xc4, rfl⟩ := ho.dims.ints.shape3
        obtain ⟨ya4, yn4, yc4, rfl⟩ := ho.data.ints.shape3
        have HL4 : Hid (Live (v4.alloc (.cells #[.slice xa4 xn4 xc4, .slice ya4 yn4 yc4] 28)) _) := (HL3.out.later hb).push ho.tens
        have HB4 : Hid (Below w0.heap.size w0 (v4.alloc (.cells #[.slice xa4 xn4 xc4, .slice ya4 yn4 yc4] 28))) := Below.push (Below.after HB3.out hb) _
        clear ho hb c0 c1 c2 c3  HL3 HB3
        have c0 := HL4.out.2.2.2.2.2.1.box.c0
        have c1 := HL4.out.2.2.2.2.2.1.box.c1
        have c2 := HL4.out.2.2.2.2.2.2.1.box.c0
        have c3 := HL4.out.2.2.2.2.2.2.1.box.c1
        go_wp2_with fail
        refine (add_to 0 ss HL4.out.2.2.2.2.2.1.ten HL4.out.2.2.2.2.2.2.1.ten HON.out.2.2.2.2.1.1 HON.out.2.2.2.2.1.2).mono ?_
        rintro e v5 ⟨x, y, rfl, ho, hb⟩
        obtain ⟨xa5, xn5, xc5, rfl⟩ := ho.dims.ints.shape3
        obtain ⟨ya5, yn5, yc5, rfl⟩ := ho.data.ints.shape3
        have HL5 : Hid (Live (v5.alloc (.cells #[.slice xa5 xn5 xc5, .slice ya5 yn5 yc5] 28)) _) := (HL4.out.later hb).push ho.tens
        have HB5 : Hid (Below w0.heap.size w0 (v5.alloc (.cells #[.slice xa5 xn5 xc5, .slice ya5 yn5 yc5] 28))) := Below.push (Below.after HB4.out hb) _
        clear ho hb c0 c1 c2 c3  HL4 HB4
        have c0 := HL5.out.2.2.2.2.2.1.box.c0
        have c1 := HL5.out.2.2.2.2.2.1.box.c1
        have c2 := HL5.out.1.box.c0
        have c3 := HL5.out.1.box.c1
        go_wp2_with fail
        refine (mul_to 0 uu HL5.out.2.2.2.2.2.1.ten HL5.out.1.ten HON.out.2.2.2.2.2.1.1 HON.out.2.2.2.2.2.1.2).mono ?_
        rintro e v6 ⟨x, y, rfl, ho, hb⟩
        obtain ⟨xa6, xn6, xc6, rfl⟩ := ho.dims.ints.shape3
        obtain ⟨ya6, yn6, yc6, rfl⟩ := ho.data.ints.shape3
        have HL6 : Hid (Live (v6.alloc (.cells #[.slice xa6 xn6 xc6, .slice ya6 yn6 yc6] 28)) _) := (HL5.out.later hb).push ho.tens
        have HB6 : Hid (Below w0.heap.size w0 (v6.alloc (.cells #[.slice xa6 xn6 xc6, .slice ya6 yn6 yc6] 28))) := Below.push (Below.after HB5.out hb) _
        clear ho hb c0 c1 c2 c3  HL5 HB5
        have c0 := HL6.out.2.2.2.2.2.2.1.box.c0
        have c1 := HL6.out.2.2.2.2.2.2.1.box.c1
        have c2 := HL6.out.2.2.2.2.2.2.2.2.1.box.c0
        have c3 := HL6.out.2.2.2.2.2.2.2.2.1.box.c1
        go_wp2_with fail
        refine (mul_to 0 ad HL6.out.2.2.2.2.2.2.1.ten HL6.out.2.2.2.2.2.2.2.2.1.ten HON.out.2.2.2.2.2.2.1.1 HON.out.2.2.2.2.2.2.1.2).mono ?_
        rintro e v7 ⟨x, y, rfl, ho, hb⟩
        obtain ⟨xa7, xn7, xc7, rfl⟩ := ho.dims.ints.shape3
        obtain ⟨ya7, yn7, yc7, rfl⟩ := ho.data.ints.shape3
        have HL7 : Hid (Live (v7.alloc (.cells #[.slice xa7 xn7 xc7, .slice ya7 yn7 yc7] 28)) _) := (HL6.out.later hb).push ho.tens
        have HB7 : Hid (Below w0.heap.size w0 (v7.alloc (.cells #[.slice xa7 xn7 xc7, .slice ya7 yn7 yc7] 28))) := Below.push (Below.after HB6.out hb) _
        clear ho hb c0 c1 c2 c3  HL6 HB6
        have c0 := HL7.out.2.2.2.2.2.2.1.box.c0
        have c1 := HL7.out.2.2.2.2.2.2.1.box.c1
        have c2 := HL7.out.1.box.c0
        have c3 := HL7.out.1.box.c1
        go_wp2_with fail
        refine (add_to 0 uu HL7.out.2.2.2.2.2.2.1.ten HL7.out.1.ten HON.out.2.2.2.2.2.2.2.1.1 HON.out.2.2.2.2.2.2.2.1.2).mono ?_
        rintro e v8 ⟨x, y, rfl, ho, hb⟩
        obtain ⟨xa8, xn8, xc8, rfl⟩ := ho.dims.ints.shape3
        obtain ⟨ya8, yn8, yc8, rfl⟩ := ho.data.ints.shape3
        have HL8 : Hid (Live (v8.alloc (.cells #[.slice xa8 xn8 xc8, .slice ya8 yn8 yc8] 28)) _) := (HL7.out.later hb).push ho.tens
        have HB8 : Hid (Below w0.heap.size w0 (v8.alloc (.cells #[.slice xa8 xn8 xc8, .slice ya8 yn8 yc8] 28))) := Below.push (Below.after HB7.out hb) _
        clear ho hb c0 c1 c2 c3  HL7 HB7
        have c0 := HL8.out.2.2.2.2.2.2.2.1.box.c0
        have c1 := HL8.out.2.2.2.2.2.2.2.1.box.c1
        go_wp2_with fail
        refine (turn_to 0 tt HL8.out.2.2.2.2.2.2.2.1.ten HON.out.2.2.2.2.2.2.2.2.1.1 HON.out.2.2.2.2.2.2.2.2.1.2).mono ?_
        rintro e v9 ⟨x, y, rfl, ho, hb⟩
        obtain ⟨xa9, xn9, xc9, rfl⟩ := ho.dims.ints.shape3
        obtain ⟨ya9, yn9, yc9, rfl⟩ := ho.data.ints.shape3
        have HL9 : Hid (Live (v9.alloc (.cells #[.slice xa9 xn9 xc9, .slice ya9 yn9 yc9] 28)) _) := (HL8.out.later hb).push ho.tens
        have HB9 : Hid (Below w0.heap.size w0 (v9.alloc (.cells #[.slice xa9 xn9 xc9, .slice ya9 yn9 yc9] 28))) := Below.push (Below.after HB8.out hb) _
        clear ho hb c0 c1  HL8 HB8
        have c0 := HL9.out.2.2.2.2.2.2.2.2.2.1.box.c0
        have c1 := HL9.out.2.2.2.2.2.2.2.2.2.1.box.c1
        go_wp2_with fail
        refine (turn_to 0 ta HL9.out.2.2.2.2.2.2.2.2.2.1.ten HON.out.2.2.2.2.2.2.2.2.2.1.1 HON.out.2.2.2.2.2.2.2.2.2.1.2).mono ?_
        rintro e v10 ⟨x, y, rfl, ho, hb⟩
        obtain ⟨xa10, xn10, xc10, rfl⟩ := ho.dims.ints.shape3
        obtain ⟨ya10, yn10, yc10, rfl⟩ := ho.data.ints.shape3
        have HL10 : Hid (Live (v10.alloc (.cells #[.slice xa10 xn10 xc10, .slice ya10 yn10 yc10] 28)) _) := (HL9.out.later hb).push ho.tens
        have HB10 : Hid (Below w0.heap.size w0 (v10.alloc (.cells #[.slice xa10 xn10 xc10, .slice ya10 yn10 yc10] 28))) := Below.push (Below.after HB9.out hb) _
        clear ho hb c0 c1  HL9 HB9
        have c0 := HL10.out.2.2.2.2.2.2.2.2.2.2.2.1.box.c0
        have c1 := HL10.out.2.2.2.2.2.2.2.2.2.2.2.1.box.c1
        go_wp2_with fail
        refine (turn_to 0 tb HL10.out.2.2.2.2.2.2.2.2.2.2.2.1.ten HON.out.2.2.2.2.2.2.2.2.2.2.1.1 HON.out.2.2.2.2.2.2.2.2.2.2.1.2).mono ?_
        rintro e v11 ⟨x, y, rfl, ho, hb⟩
        obtain ⟨xa11, xn11, xc11, rfl⟩ := ho.dims.ints.shape3
        obtain ⟨ya11, yn11, yc11, rfl⟩ := ho.data.ints.shape3
        have HL11 : Hid (Live (v11.alloc (.cells #[.slice xa11 xn11 xc11, .slice ya11 yn11 yc11] 28)) _) := (HL10.out.later hb).push ho.tens
        have HB11 : Hid (Below w0.heap.size w0 (v11.alloc (.cells #[.slice xa11 xn11 xc11, .slice ya11 yn11 yc11] 28))) := Below.push (Below.after HB10.out hb) _
        clear ho hb c0 c1  HL10 HB10
        have c0 := HL11.out.1.box.c0
        have c1 := HL11.out.1.box.c1
        have c2 := HL11.out.2.1.box.c0
        have c3 := HL11.out.2.1.box.c1
        go_wp2_with fail
        refine (mul_to 0 tt HL11.out.1.ten HL11.out.2.1.ten HON.out.2.2.2.2.2.2.2.2.2.2.2.1.1 HON.out.2.2.2.2.2.2.2.2.2.2.2.1.2).mono ?_
        rintro e v12 ⟨x, y, rfl, ho, hb⟩
        obtain ⟨xa12, xn12, xc12, rfl⟩ := ho.dims.ints.shape3
        obtain ⟨ya12, yn12, yc12, rfl⟩ := ho.data.ints.shape3
        have HL12 : Hid (Live (v12.alloc (.cells #[.slice xa12 xn12 xc12, .slice ya12 yn12 yc12] 28)) _) := (HL11.out.later hb).push ho.tens
        have HB12 : Hid (Below w0.heap.size w0 (v12.alloc (.cells #[.slice xa12 xn12 xc12, .slice ya12 yn12 yc12] 28))) := Below.push (Below.after HB11.out hb) _
        clear ho hb c0 c1 c2 c3  HL11 HB11
        have c0 := HL12.out.2.2.2.2.2.2.2.2.2.2.2.2.1.box.c0
        have c1 := HL12.out.2.2.2.2.2.2.2.2.2.2.2.2.1.box.c1
        go_wp2_with fail
        refine (pow_to 2 0 p2 (cell_later HB12.out HG0.out) HL12.out.2.2.2.2.2.2.2.2.2.2.2.2.1.ten HON.out.2.2.2.2.2.2.2.2.2.2.2.2.1.1 HON.out.2.2.2.2.2.2.2.2.2.2.2.2.1.2).mono ?_
        rintro e v13 ⟨x, y, rfl, ho, hb⟩
        obtain ⟨xa13, xn13, xc13, rfl⟩ := ho.dims.ints.shape3
        obtain ⟨ya13, yn13, yc13, rfl⟩ := ho.data.ints.shape3
        have HL13 : Hid (Live (v13.alloc (.cells #[.slice xa13 xn13 xc13, .slice ya13 yn13 yc13] 28)) _) := (HL12.out.later hb).push ho.tens
        have HB13 : Hid (Below w0.heap.size w0 (v13.alloc (.cells #[.slice xa13 xn13 xc13, .slice ya13 yn13 yc13] 28))) := Below.push (Below.after HB12.out hb) _
        clear ho hb c0 c1  HL12 HB12
        have c0 := HL13.out.2.2.2.2.2.2.2.2.2.2.2.2.2.1.box.c0
        have c1 := HL13.out.2.2.2.2.2.2.2.2.2.2.2.2.2.1.box.c1
        go_wp2_with fail
        refine (pow_to 3 0 p3 (cell_later HB13.out HG0.out) HL13.out.2.2.2.2.2.2.2.2.2.2.2.2.2.1.ten HON.out.2.2.2.2.2.2.2.2.2.2.2.2.2.1.1 HON.out.2.2.2.2.2.2.2.2.2.2.2.2.2.1.2).mono ?_
        rintro e v14 ⟨x, y, rfl, ho, hb⟩
        obtain ⟨xa14, xn14, xc14, rfl⟩ := ho.dims.ints.shape3
        obtain ⟨ya14, yn14, yc14, rfl⟩ := ho.data.ints.shape3
        have HL14 : Hid (Live (v14.alloc (.cells #[.slice xa14 xn14 xc14, .slice ya14 yn14 yc14] 28)) _) := (HL13.out.later hb).push ho.tens
        have HB14 : Hid (Below w0.heap.size w0 (v14.alloc (.cells #[.slice xa14 xn14 xc14, .slice ya14 yn14 yc14] 28))) := Below.push (Below.after HB13.out hb) _
        clear ho hb c0 c1  HL13 HB13
        have c0 := HL14.out.2.2.2.2.2.2.2.2.2.2.2.2.2.2.1.box.c0
        have c1 := HL14.out.2.2.2.2.2.2.2.2.2.2.2.2.2.2.1.box.c1
        go_wp2_with fail
        refine (pow_to 5 0 pq (cell_later HB14.out HG0.out) HL14.out.2.2.2.2.2.2.2.2.2.2.2.2.2.2.1.ten HON.out.2.2.2.2.2.2.2.2.2.2.2.2.2.2.1.1 HON.out.2.2.2.2.2.2.2.2.2.2.2.2.2.2.1.2).mono ?_
        rintro e v15 ⟨x, y, rfl, ho, hb⟩
        obtain ⟨xa15, xn15, xc15, rfl⟩ := ho.dims.ints.shape3
        obtain ⟨ya15, yn15, yc15, rfl⟩ := ho.data.ints.shape3
        have HL15 : Hid (Live (v15.alloc (.cells #[.slice xa15 xn15 xc15, .slice ya15 yn15 yc15] 28)) _) := (HL14.out.later hb).push ho.tens
        have HB15 : Hid (Below w0.heap.size w0 (v15.alloc (.cells #[.slice xa15 xn15 xc15, .slice ya15 yn15 yc15] 28))) := Below.push (Below.after HB14.out hb) _
        clear ho hb c0 c1  HL14 HB14
        have c0 := HL15.out.2.2.1.box.c0
        have c1 := HL15.out.2.2.1.box.c1
        have c2 := HL15.out.2.1.box.c0
        have c3 := HL15.out.2.1.box.c1
        go_wp2_with fail
        refine (mul_to 0 pq HL15.out.2.2.1.ten HL15.out.2.1.ten HON.out.2.2.2.2.2.2.2.2.2.2.2.2.2.2.2.1 HON.out.2.2.2.2.2.2.2.2.2.2.2.2.2.2.2.2).mono ?_
        rintro e v16 ⟨x, y, rfl, ho, hb⟩
        obtain ⟨xa16, xn16, xc16, rfl⟩ := ho.dims.ints.shape3
        obtain ⟨ya16, yn16, yc16, rfl⟩ := ho.data.ints.shape3
        have HL16 : Hid (Live (v16.alloc (.cells #[.slice xa16 xn16 xc16, .slice ya16 yn16 yc16] 28)) _) := (HL15.out.later hb).push ho.tens
        have HB16 : Hid (Below w0.heap.size w0 (v16.alloc (.cells #[.slice xa16 xn16 xc16, .slice ya16 yn16 yc16] 28))) := Below.push (Below.after HB15.out hb) _
        clear ho hb c0 c1 c2 c3  HL15 HB15
        have c0 := HL16.out.2.2.2.2.2.2.2.2.2.2.2.2.2.2.1.box.c0
        have c1 := HL16.out.2.2.2.2.2.2.2.2.2.2.2.2.2.2.1.box.c1
        have c2 := HL16.out.2.2.2.2.2.2.2.2.2.2.2.2.1.box.c0
        have c3 := HL16.out.2.2.2.2.2.2.2.2.2.2.2.2.1.box.c1
        go_wp2_with (go_at_call 11; refine (num_any _ _).mono ?_; rintro e w' ⟨rfl, rfl⟩)
        refine (eqt_to HL16.out.2.2.2.2.2.2.2.2.2.2.2.2.2.2.1.ten HL16.out.2.2.2.2.2.2.2.2.2.2.2.2.1.ten (rfl)).mono ?_
        rintro e v17 ⟨rfl, hb⟩
        have HL17 : Hid (Live v17 _) := HL16.out.later hb
        have HB17 : Hid (Below w0.heap.size w0 v17) := Below.after HB16.out hb
        clear hb c0 c1 c2 c3 HL16 HB16
        have c0 := HL17.out.2.2.2.2.2.2.2.2.2.2.1.box.c0
        have c1 := HL17.out.2.2.2.2.2.2.2.2.2.2.1.box.c1
        have c2 := HL17.out.2.2.2.2.2.2.2.2.1.box.c0
        have c3 := HL17.out.2.2.2.2.2.2.2.2.1.box.c1
        go_wp2_with fail
        refine (eqt_to HL17.out.2.2.2.2.2.2.2.2.2.2.1.ten HL17.out.2.2.2.2.2.2.2.2.1.ten (rfl)).mono ?_
        rintro e v18 ⟨rfl, hb⟩
        have HL18 : Hid (Live v18 _) := HL17.out.later hb
        have HB18 : Hid (Below w0.heap.size w0 v18) := Below.after HB17.out hb
        clear hb c0 c1 c2 c3 HL17 HB17
        have c0 := HL18.out.2.2.2.2.2.2.2.1.box.c0
        have c1 := HL18.out.2.2.2.2.2.2.2.1.box.c1
        have c2 := HL18.out.2.2.2.2.1.box.c0
        have c3 := HL18.out.2.2.2.2.1.box.c1
        go_wp2_with fail
        refine (eqt_to HL18.out.2.2.2.2.2.2.2.1.ten HL18.out.2.2.2.2.1.ten (rfl)).mono ?_
        rintro e v19 ⟨rfl, hb⟩
        have HL19 : Hid (Live v19 _) := HL18.out.later hb
        have HB19 : Hid (Below w0.heap.size w0 v19) := Below.after HB18.out hb
        clear hb c0 c1 c2 c3 HL18 HB18
        have c0 := HL19.out.2.1.box.c0
        have c1 := HL19.out.2.1.box.c1
        have c2 := HL19.out.1.box.c0
        have c3 := HL19.out.1.box.c1
        go_wp2_with fail
        refine (eqt_to HL19.out.2.1.ten HL19.out.1.ten (rfl)).mono ?_
        rintro e v20 ⟨rfl, hb⟩
        have HL20 : Hid (Live v20 _) := HL19.out.later hb
        have HB20 : Hid (Below w0.heap.size w0 v20) := Below.after HB19.out hb
        clear hb c0 c1 c2 c3 HL19 HB19
        have HBZ : Hid (Below W.heap.size W v20) := Below.after HBW.out (Below.after HBq.out HB20.out)
        go_wp2
        refine ⟨⟨⟨i + 1, by omega, rfl, rfl, rfl, ?_⟩, HBZ.out⟩, ?_⟩
        · show Value.int .i64 _ = _
          go_num
        · show 6 - (intOf (Value.int .i64 _)).toNat < 6 - (intOf (Value.int .i64 _)).toNat
          simp [intOf]
          omega
    · have hg2 : decide ((i : Int) < 6) = false := by simp; omega
      go_wp2
      exact HEX.out _ _ i ⟨rfl, rfl, rfl, rfl⟩ HBW.out
  · go_wp2
    exact HEX.out _ _ i ⟨rfl, rfl, rfl, rfl⟩ HBW.out
end Go.Proofs.YtgnicnaiaijdcaaDoor
