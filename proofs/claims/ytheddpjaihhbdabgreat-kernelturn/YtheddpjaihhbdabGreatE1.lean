/- graduslaw6.each. -/
import Derived.Test.YtheddpjaihhbdabGreatA6
import Derived.Test.YtheddpjaihhbdabGreatB6
namespace Go.Proofs.YtheddpjaihhbdabGreat
set_option linter.unusedVariables false
set_option linter.unusedSimpArgs false
set_option maxRecDepth 100000
open Go.RowKit

set_option maxRecDepth 100000 in
theorem lit122 (g : Nat → Value) : (g 0 :: g 1 :: g 2 :: g 3 :: g 4 :: g 5 :: g 6 :: g 7 :: g 8 :: g 9 :: g 10 :: g 11 :: g 12 :: g 13 :: g 14 :: g 15 :: g 16 :: g 17 :: g 18 :: g 19 :: g 20 :: g 21 :: g 22 :: g 23 :: g 24 :: g 25 :: g 26 :: g 27 :: g 28 :: g 29 :: g 30 :: g 31 :: g 32 :: g 33 :: g 34 :: g 35 :: g 36 :: g 37 :: g 38 :: g 39 :: g 40 :: g 41 :: g 42 :: g 43 :: g 44 :: g 45 :: g 46 :: g 47 :: g 48 :: g 49 :: g 50 :: g 51 :: g 52 :: g 53 :: g 54 :: g 55 :: g 56 :: g 57 :: g 58 :: g 59 :: g 60 :: g 61 :: g 62 :: g 63 :: g 64 :: g 65 :: g 66 :: g 67 :: g 68 :: g 69 :: g 70 :: g 71 :: g 72 :: g 73 :: g 74 :: g 75 :: g 76 :: g 77 :: g 78 :: g 79 :: g 80 :: g 81 :: g 82 :: g 83 :: g 84 :: g 85 :: g 86 :: g 87 :: g 88 :: g 89 :: g 90 :: g 91 :: g 92 :: g 93 :: g 94 :: g 95 :: g 96 :: g 97 :: g 98 :: g 99 :: g 100 :: g 101 :: g 102 :: g 103 :: g 104 :: g 105 :: g 106 :: g 107 :: g 108 :: g 109 :: g 110 :: g 111 :: g 112 :: g 113 :: g 114 :: g 115 :: g 116 :: g 117 :: g 118 :: g 119 :: g 120 :: g 121 :: []).toArray = ((List.range 122).map g).toArray := by rfl
set_option maxRecDepth 100000 in
theorem act122 (a : Act) (hd : a.defers = []) (hs : a.tmps.size = 122) : ∃ g : Nat → Value, (∀ i, a.tmps.getD i undef = g i) ∧ a = { tmps := (g 0 :: g 1 :: g 2 :: g 3 :: g 4 :: g 5 :: g 6 :: g 7 :: g 8 :: g 9 :: g 10 :: g 11 :: g 12 :: g 13 :: g 14 :: g 15 :: g 16 :: g 17 :: g 18 :: g 19 :: g 20 :: g 21 :: g 22 :: g 23 :: g 24 :: g 25 :: g 26 :: g 27 :: g 28 :: g 29 :: g 30 :: g 31 :: g 32 :: g 33 :: g 34 :: g 35 :: g 36 :: g 37 :: g 38 :: g 39 :: g 40 :: g 41 :: g 42 :: g 43 :: g 44 :: g 45 :: g 46 :: g 47 :: g 48 :: g 49 :: g 50 :: g 51 :: g 52 :: g 53 :: g 54 :: g 55 :: g 56 :: g 57 :: g 58 :: g 59 :: g 60 :: g 61 :: g 62 :: g 63 :: g 64 :: g 65 :: g 66 :: g 67 :: g 68 :: g 69 :: g 70 :: g 71 :: g 72 :: g 73 :: g 74 :: g 75 :: g 76 :: g 77 :: g 78 :: g 79 :: g 80 :: g 81 :: g 82 :: g 83 :: g 84 :: g 85 :: g 86 :: g 87 :: g 88 :: g 89 :: g 90 :: g 91 :: g 92 :: g 93 :: g 94 :: g 95 :: g 96 :: g 97 :: g 98 :: g 99 :: g 100 :: g 101 :: g 102 :: g 103 :: g 104 :: g 105 :: g 106 :: g 107 :: g 108 :: g 109 :: g 110 :: g 111 :: g 112 :: g 113 :: g 114 :: g 115 :: g 116 :: g 117 :: g 118 :: g 119 :: g 120 :: g 121 :: []).toArray, defers := [] } := by
  refine ⟨fun i => a.tmps.getD i undef, fun _ => rfl, ?_⟩
  have h := lit122 (fun i => a.tmps.getD i undef)
  have e : a.tmps = ((List.range 122).map (fun i => a.tmps.getD i undef)).toArray := by
    apply Array.ext
    · simp [hs]
    · intro i h1 h2
      simp [h1]
  exact (show a = Act.mk a.tmps a.defers from rfl).trans (by rw [hd]; exact congrArg (fun t => Act.mk t []) (e.trans h.symm))
structure FrE (da va ia ja xa wa : Option Addr) (dn dc m vc im ic jn jc xn xc wn wc b5 b6 : Nat) (e1 e2 : Int) (a : Act) : Prop where
  d : a.defers = []
  s : a.tmps.size = 122
  f2 : a.tmps.getD 2 undef = .slice da dn dc
  f3 : a.tmps.getD 3 undef = .slice va m vc
  f9 : a.tmps.getD 9 undef = .slice ia im ic
  f10 : a.tmps.getD 10 undef = .slice ja jn jc
  f12 : a.tmps.getD 12 undef = .slice xa xn xc
  f13 : a.tmps.getD 13 undef = .int .i64 e1
  f14 : a.tmps.getD 14 undef = .pointer (some ⟨b5, 0, none⟩)
  f15 : a.tmps.getD 15 undef = .int .i64 e2
  f16 : a.tmps.getD 16 undef = .int .i64 e1
  f17 : a.tmps.getD 17 undef = .int .i64 e2
  f18 : a.tmps.getD 18 undef = .slice wa wn wc
  f19 : a.tmps.getD 19 undef = .pointer (some ⟨b6, 0, none⟩)
theorem TensL.shape3 {w : World} {v : Value} {L : List Ten} (h : TensL w v L) : ∃ a n c, v = .slice a n c := by
  obtain ⟨_, a, c, e, _⟩ := h
  exact ⟨a, _, c, e⟩
theorem row_shape3 {w : World} {B : Nat} {v : Value} {L : List (List Int)} {xs : List Value} (h : Row w B v L xs) : ∃ a n c, v = .slice a n c := by
  rcases h.own.2 with ⟨h0, _⟩ | ⟨g, cap, cur, h0, _⟩
  · exact ⟨none, 0, 0, h0⟩
  · exact ⟨_, _, _, h0⟩
theorem Below.trans3 {w3 w V w' : World} (h : Below w3.heap.size w3 V) (h2 : Below V.heap.size V w') : Below w3.heap.size w3 w' := Below.after h h2
theorem OwnT.tens {w : World} {B : Nat} {v0 v1 : Value} {t : Ten} (h : OwnT w B v0 v1 t) : Tens w v0 v1 t := ⟨h.dims.ints, h.data.ints⟩
theorem beq_self_ints (l : List Int) : (l == l) = true := by simp
set_option maxRecDepth 1000000 in
set_option maxHeartbeats 16000000 in
theorem leach_any {vd v : Value} {d : List Int} {L : List Ten} {w : World} (k n : Int) (hd : Ints w vd d) (hl : TensL w v L) (h2 : L.length ≤ 2) :
    Calls Tryz.prog 11 #[.int .i64 k, .int .i64 n, vd, v] w fun e w' => e = .returned (.bool true) ∧ Below w.heap.size w w' := by
  obtain ⟨da, dn, dc, rfl⟩ := hd.shape3
  obtain ⟨va, m, vc, rfl⟩ := hl.shape3
  obtain ⟨P, hP⟩ : ∃ P, L.map Prod.fst = P := ⟨_, rfl⟩
  have HP : Hid (L.map Prod.fst = P) := hP
  have hp2 : P.length ≤ 2 := by rw [← hP]; simpa using h2
  have HD : Hid (Ints w (.slice da dn dc) d) := hd
  have HL : Hid (TensL w (.slice va m vc) L) := hl
  have HL2 : Hid (L.length ≤ 2) := h2
  have HP2 : Hid (P.length ≤ 2) := hp2
  clear hd hl h2 hp2 hP
  go_enter Tryz.func11, Tryz.ntmps11
  go_wp2_with fail
  refine (copyTs_any HL.out HL2.out).mono ?_
  rintro e w1 ⟨vi, rfl, hti, hb1⟩
  obtain ⟨ia, im, ic, rfl⟩ := hti.shape3
  have HI1 : Hid (TensL w1 (.slice ia im ic) L) := hti
  have HB1 : Hid (Below w.heap.size w w1) := hb1
  clear hti hb1
  go_wp2_with fail
  refine (copy_Own (HD.out.later HB1.out)).mono ?_
  rintro e w2 ⟨vdi, rfl, ho, hb2⟩
  obtain ⟨ja, jn, jc, rfl⟩ := ho.ints.shape3
  have HJ2 : Hid (Ints w2 (.slice ja jn jc) d) := ho.ints
  have HI2 : Hid (TensL w2 (.slice ia im ic) L) := HI1.out.later hb2
  have HB2 : Hid (Below w.heap.size w w2) := Below.after HB1.out hb2
  clear ho hb2 HI1 HB1
  go_wp2_with fail
  refine (dimsOf_any (HL.out.later HB2.out) HL2.out).mono ?_
  rintro e w3 ⟨vs, xs, rfl, hrow, hb3⟩
  rw [HP.out] at hrow
  obtain ⟨ra, rn, rc, rfl⟩ := row_shape3 hrow
  have HR3 : Hid (Row w3 w2.heap.size (.slice ra rn rc) P xs) := hrow
  have HJ3 : Hid (Ints w3 (.slice ja jn jc) d) := HJ2.out.later hb3
  have HI3 : Hid (TensL w3 (.slice ia im ic) L) := HI2.out.later hb3
  have HB3 : Hid (Below w.heap.size w w3) := Below.after HB2.out hb3
  clear hrow hb3 HI2 HJ2 HB2
  obtain ⟨e1, he1⟩ : ∃ e, diE k n d P = e := ⟨_, rfl⟩
  obtain ⟨X, hX⟩ : ∃ X, diR k n d P = X := ⟨_, rfl⟩
  have HE1 : Hid (diE k n d P = e1 ∧ diR k n d P = X) := ⟨he1, hX⟩
  have HDI : Hid (∀ {w : World} {v : Value}, Ints w v d → Row w w2.heap.size (.slice ra rn rc) P xs → Calls Tryz.prog 19 #[.int .i64 k, .int .i64 n, v, .slice ra rn rc] w fun e w' => ∃ x, e = .returned (.tuple #[x, .int .i64 e1]) ∧ Own w' w.heap.size x X ∧ Below w.heap.size w w') := by
    intro w v hd hr
    have h := dims_any k n hd (hr.intsL (by have := HP2.out; unfold big; omega)) HP2.out
    rw [he1, hX] at h
    exact h
  clear he1 hX
  go_wp2_with fail
  refine (HDI.out HJ3.out HR3.out).mono ?_
  rintro e w4 ⟨x, rfl, ho, hb4⟩
  obtain ⟨xa, xn, xc, rfl⟩ := ho.ints.shape3
  have HX4 : Hid (Own w4 w3.heap.size (.slice xa xn xc) X) := ho
  have HB4 : Hid (Below w3.heap.size w3 w4) := hb4
  clear ho hb4 HDI
  obtain ⟨e2, he2⟩ : ∃ e, doE k n d L = e := ⟨_, rfl⟩
  obtain ⟨U, hU⟩ : ∃ X, doR k n d L = X := ⟨_, rfl⟩
  have HE2 : Hid (doE k n d L = e2 ∧ doR k n d L = U) := ⟨he2, hU⟩
  have HDO : Hid (∀ {w : World} {v u : Value}, Ints w v d → TensL w u L → Calls Tryz.prog 20 #[.int .i64 k, .int .i64 n, v, u] w fun e w' => ∃ x0 x1, e = .returned (.tuple #[.agg #[x0, x1], .int .i64 e2]) ∧ OwnT w' w.heap.size x0 x1 U ∧ Below w.heap.size w w') := by
    intro w v u hd hl
    have h := do_any k n hd hl
    rw [he2, hU] at h
    exact h
  clear he2 hU
  go_wp2_with fail
  refine (HDO.out (HJ3.out.later HB4.out) (HI3.out.later HB4.out)).mono ?_
  rintro e w5 ⟨x0, x1, rfl, ho, hb5⟩
  obtain ⟨ta, tn, tc, rfl⟩ := ho.dims.ints.shape3
  obtain ⟨ua, un, uc, rfl⟩ := ho.data.ints.shape3
  have hs4 := HB4.out.size
  have hs5 := hb5.size
  obtain ⟨b5, hb55⟩ : ∃ b, w5.heap.size = b := ⟨_, rfl⟩
  obtain ⟨V, hV⟩ : ∃ V, V = w5.alloc (.cells #[.slice ta tn tc, .slice ua un uc] 34) := ⟨_, rfl⟩
  have hVs : V.heap.size = b5 + 1 := by rw [hV, ← hb55]; simp
  have HVB : Hid (Below w3.heap.size w3 V) := by show Below _ _ _; rw [hV]; exact Below.push (Below.after HB4.out hb5) _
  have hup : Below w5.heap.size w5 V := by rw [hV]; exact Below.push (Below.refl _ _) _
  have HBX : Hid (Box V b5 (.slice ta tn tc) (.slice ua un uc)) := by show Box _ _ _ _; rw [hV, ← hb55]; exact Box.new _ _ _
  have HXN : Hid (∀ q, (Value.slice xa xn xc).ownBlock = some q → q < b5) := by
    intro q hq
    have := HX4.out.lt q hq
    omega
  have HXV : Hid (Own V w3.heap.size (.slice xa xn xc) X) := HX4.out.later (Below.after hb5 hup)
  have HTV : Hid (OwnT V w3.heap.size (.slice ta tn tc) (.slice ua un uc) U) := (ho.mono hs4).later hup
  have HIV : Hid (TensL V (.slice ia im ic) L) := HI3.out.later HVB.out
  have HJV : Hid (Ints V (.slice ja jn jc) d) := HJ3.out.later HVB.out
  have HRV : Hid (Row V w2.heap.size (.slice ra rn rc) P xs) := HR3.out.later HVB.out
  have HBV : Hid (Below w.heap.size w V) := Below.after HB3.out HVB.out
  have HLV : Hid (TensL V (.slice va m vc) L) := HL.out.later HBV.out
  have HDV : Hid (Ints V (.slice da dn dc) d) := HD.out.later HBV.out
  have HS3 : Hid (w3.heap.size ≤ b5) := by show _ ≤ _; omega
  have HI0 : Hid (TensL w3 (.slice ia im ic) L) := HI3.out
  have HJ0 : Hid (Ints w3 (.slice ja jn jc) d) := HJ3.out
  have HB0 : Hid (Below w.heap.size w w3) := HB3.out
  have HL0 : Hid (TensL w (.slice va m vc) L) := HL.out
  have HD0 : Hid (Ints w (.slice da dn dc) d) := HD.out
  clear ho hb5 hup HDO HX4 HB4 HI3 HJ3 HR3 HB3 HL HD
  have HUP : Hid (Below V.heap.size V (V.alloc (.cells #[.slice none 0 0, .slice none 0 0] 34))) := Below.push (Below.refl _ _) _
  have HW0 : Hid (Live (V.alloc (.cells #[.slice none 0 0, .slice none 0 0] 34)) [(V.heap.size, .slice none 0 0, .slice none 0 0, ([], []))]) := Live.push (w := V) (L := []) (t := ([], [])) trivial ⟨Ints.nil _, Ints.nil _⟩
  go_upto_region 8 with fail
  rw [← hV, ← hVs]
  clear hb55 hV hVs
  rename_i K1 hK1 K0 hK0
  have HM : Hid (∀ a' w' wa wn wc r0 r1, FrE da va ia ja xa wa dn dc m vc im ic jn jc xn xc wn wc b5 V.heap.size e1 e2 a' → Ints w' (.slice wa wn wc) X → Live w' [(V.heap.size, r0, r1, U)] → Below V.heap.size V w' → K1 a' w') := by
    intro a6 w6 wa wn wc r0 r1 hf6 hw6 hl6 hb6
    apply hK1
    clear hK1 hK0 K0 HUP HW0
    obtain ⟨ya, yn, yc, rfl⟩ := hl6.1.ten.1.shape3
    obtain ⟨za, zn, zc, rfl⟩ := hl6.1.ten.2.shape3
    have HB6 : Hid (Below V.heap.size V w6) := hb6
    have HW6 : Hid (Ints w6 (.slice wa wn wc) X) := hw6
    have HL6 : Hid (Live w6 [(V.heap.size, .slice ya yn yc, .slice za zn zc, U)]) := hl6
    clear hb6 hw6 hl6
    obtain ⟨G6, hg6, e6⟩ := act122 a6 hf6.d hf6.s
    obtain ⟨hz1, hz2, g2, g3, g9, g10, g12, g13, g14, g15, g16, g17, g18, g19⟩ := hf6
    rw [hg6] at g2 g3 g9 g10 g12 g13 g14 g15 g16 g17 g18 g19 
    clear hz1 hz2
    subst e6
    clear hg6
    rw [g2, g3, g9, g10, g12, g13, g14, g15, g16, g17, g18, g19]
    clear g2 g3 g9 g10 g12 g13 g14 g15 g16 g17 g18 g19
    go_wp2_with (go_at_call 25; refine (num_any _ _).mono ?_; rintro e w' ⟨rfl, rfl⟩)
    refine (eqn_to true (HXV.out.ints.later HB6.out) HW6.out (beq_self_ints _)).mono ?_
    rintro e w7 ⟨rfl, n7, e7⟩
    have hb7 : Below w6.heap.size w6 w7 := by rw [e7]; exact Below.drewN (Below.refl _ _) _
    have HB7 : Hid (Below V.heap.size V w7) := Below.after HB6.out hb7
    have HL7 : Hid (Live w7 [(V.heap.size, .slice ya yn yc, .slice za zn zc, U)]) := HL6.out.later hb7
    have u1 := (HBX.out.later HB7.out).c0
    have u2 := (HBX.out.later HB7.out).c1
    have u3 := HL7.out.1.box.c0
    have u4 := HL7.out.1.box.c1
    clear hb7 e7 HW6 HL6 HB6
    go_wp2_with (go_at_call 25; refine (num_any _ _).mono ?_; rintro e w' ⟨rfl, rfl⟩)
    refine (eqt_to (HTV.out.later HB7.out).tens HL7.out.1.ten rfl).mono ?_
    rintro e w8 ⟨rfl, hb8⟩
    have HB8 : Hid (Below V.heap.size V w8) := Below.after HB7.out hb8
    clear hb8 u1 u2 u3 u4 HL7 HB7
    go_wp2_with fail
    refine (eqTs_to (HIV.out.later HB8.out) (HLV.out.later HB8.out)).mono ?_
    rintro e w9 ⟨rfl, hb9⟩
    have HB9 : Hid (Below V.heap.size V w9) := Below.after HB8.out hb9
    clear hb9 HB8
    go_wp2_with fail
    refine (eqn_to true (HJV.out.later HB9.out) (HDV.out.later HB9.out) (beq_self_ints _)).mono ?_
    rintro e w10 ⟨rfl, n10, e10⟩
    have hb10 : Below w9.heap.size w9 w10 := by rw [e10]; exact Below.drewN (Below.refl _ _) _
    have HB10 : Hid (Below V.heap.size V w10) := Below.after HB9.out hb10
    clear hb10 e10 HB9
    have HX10 : Hid (Wr w10 w3.heap.size (.slice xa xn xc)) := (HXV.out.later HB10.out).wr
    have HT0 : Hid (Wr w10 w3.heap.size (.slice ta tn tc)) := (HTV.out.later HB10.out).dims.wr
    have HT1 : Hid (Wr w10 w3.heap.size (.slice ua un uc)) := (HTV.out.later HB10.out).data.wr
    go_wp2_with fail
    refine (numbers_any HX10.out).mono ?_
    rintro e w11 ⟨rfl, hb11, hw11, ho11⟩
    have hbx : Box w11 b5 (.slice ta tn tc) (.slice ua un uc) := (ho11 b5 (fun e => absurd (HXN.out _ e) (Nat.lt_irrefl _))).trans (HBX.out.later HB10.out)
    have HT2 : Hid (Wr w11 w3.heap.size (.slice ta tn tc)) := hw11 _ HT0.out
    have HT3 : Hid (Wr w11 w3.heap.size (.slice ua un uc)) := hw11 _ HT1.out
    have HB11 : Hid (Below w3.heap.size w3 w11) := (Below.after HVB.out HB10.out).trans hb11
    have u1 := hbx.c0
    have u2 := hbx.c1
    clear hb11 hw11 ho11 hbx HT0 HT1 HX10
    go_wp2_with fail
    refine (spoil_wr HT2.out HT3.out HB11.out.size).mono ?_
    rintro e w12 ⟨rfl, hb12, _⟩
    have HB12 : Hid (Below w3.heap.size w3 w12) := HB11.out.trans hb12
    clear hb12 u1 u2 HT2 HT3 HB11
    go_wp2_with fail
    refine (eqTs_to (HI0.out.later HB12.out) (HL0.out.later (Below.after HB0.out HB12.out))).mono ?_
    rintro e w13 ⟨rfl, hb13⟩
    have HB13 : Hid (Below w3.heap.size w3 w13) := Below.after HB12.out hb13
    clear hb13 HB12
    go_wp2_with fail
    refine (eqn_to true (HJ0.out.later HB13.out) (HD0.out.later (Below.after HB0.out HB13.out)) (beq_self_ints _)).mono ?_
    rintro e w14 ⟨rfl, n14, e14⟩
    have HB14 : Hid (Below w.heap.size w w14) := by
      show Below _ _ _
      rw [e14]
      exact Below.drewN (Below.after HB0.out HB13.out) _
    clear e14 HB13
    go_wp2
    go_ret
    exact ⟨rfl, HB14.out⟩
  clear hK1
  by_cases hmay : may k n d P = true
  · have HMY : Hid (may k n d P = true) := hmay
    obtain ⟨ok, hok⟩ : ∃ b, inf k.toNat n d (P.getD 0 []) (P.getD 1 []) = b := ⟨_, rfl⟩
    have HOK : Hid (inf k.toNat n d (P.getD 0 []) (P.getD 1 []) = ok) := hok
    have hk := (frm_partsM (by simp only [may, Bool.and_eq_true] at hmay; exact hmay.1)).1
    clear hmay hok
    go_wp2_with fail
    refine (may_to k n true (HDV.out.later HUP.out) ((HRV.out.later HUP.out).intsL (by have := HP2.out; unfold big; omega)) HP2.out HMY.out).mono ?_
    rintro e w6 ⟨rfl, hb6⟩
    have HB6 : Hid (Below V.heap.size V w6) := Below.after HUP.out hb6
    have HW6 : Hid (Live w6 [(V.heap.size, .slice none 0 0, .slice none 0 0, ([], []))]) := HW0.out.later hb6
    clear hb6 HUP HW0
    go_wp2_with fail
    refine (infer_to k n HMY.out (HDV.out.later HB6.out) (HRV.out.later HB6.out) ok HOK.out).mono ?_
    rintro e w7 ⟨y, z, rfl, ho, hz, hb7⟩
    obtain ⟨ya, yn, yc, rfl⟩ := ho.ints.shape3
    have HY7 : Hid (Ints w7 (.slice ya yn yc) z) := ho.ints
    have HZ : Hid (ok = true → z = inD k.toNat n d (P.getD 0 []) (P.getD 1 [])) := hz
    have HB7 : Hid (Below V.heap.size V w7) := Below.after HB6.out hb7
    have HW7 : Hid (Live w7 [(V.heap.size, .slice none 0 0, .slice none 0 0, ([], []))]) := HW6.out.later hb7
    have HYO : Hid (∀ (w8 w9 : World) (p q : Value), Below w8.heap.size w8 w9 → Ints w8 (.slice ya yn yc) z → Own w8 w6.heap.size (.slice ya yn yc) z → Ints ((w9.setCell ⟨V.heap.size, 0, none⟩ p).setCell ⟨V.heap.size, 1, none⟩ q) (.slice ya yn yc) z) := by
      intro w8 w9 p q hb _ hown
      have hlt : V.heap.size < w6.heap.size := HW6.out.1.box.lt
      have hne : ∀ j, (Value.slice ya yn yc).ownBlock = some j → j ≠ V.heap.size := fun j hj => by
        have := hown.frm j hj
        omega
      exact (((hown.later hb).setCell ⟨V.heap.size, 0, none⟩ p hne).setCell ⟨V.heap.size, 1, none⟩ q hne).ints
    have HYW : Hid (Own w7 w6.heap.size (.slice ya yn yc) z) := ho
    clear ho hz hb7 HB6 HW6
    cases ok with
    | false =>
      by_cases h1 : k = 1
      · have g1 : (k != 1) = false := by simp [h1]
        have HX0 : Hid (e1 = 4 ∧ X = []) := by
          show _ ∧ _
          have h := di_yes HMY.out
          rw [HOK.out, if_neg (by decide), if_neg (by decide)] at h
          rw [← HE1.out.1, ← HE1.out.2]
          exact h
        have HX1 : Hid (e2 = 1 ∧ U = ([], [])) := by
          show _ ∧ _
          rw [← HE2.out.1, ← HE2.out.2]
          exact do_no (Or.inr (Or.inl (by omega)))
        go_wp2
        refine HM.out _ _ none 0 0 (.slice none 0 0) (.slice none 0 0) ⟨rfl, rfl, rfl, rfl, rfl, rfl, rfl, rfl, rfl, rfl, by rw [HX0.out.1]; rfl, by rw [HX1.out.1]; rfl, rfl, rfl⟩ ?_ ?_ HB7.out
        · rw [HX0.out.2]; exact Ints.nil _
        · rw [HX1.out.2]; exact HW7.out
      · have g1 : (k != 1) = true := by simp [h1]
        by_cases h2 : k = 2
        · have g2 : (k != 2) = false := by simp [h2]
          have HX0 : Hid (e1 = 4 ∧ X = []) := by
            show _ ∧ _
            have h := di_yes HMY.out
            rw [HOK.out, if_neg (by decide), if_neg (by decide)] at h
            rw [← HE1.out.1, ← HE1.out.2]
            exact h
          have HX1 : Hid (e2 = 1 ∧ U = ([], [])) := by
            show _ ∧ _
            rw [← HE2.out.1, ← HE2.out.2]
            exact do_no (Or.inr (Or.inl (by omega)))
          go_wp2
          refine HM.out _ _ none 0 0 (.slice none 0 0) (.slice none 0 0) ⟨rfl, rfl, rfl, rfl, rfl, rfl, rfl, rfl, rfl, rfl, by rw [HX0.out.1]; rfl, by rw [HX1.out.1]; rfl, rfl, rfl⟩ ?_ ?_ HB7.out
          · rw [HX0.out.2]; exact Ints.nil _
          · rw [HX1.out.2]; exact HW7.out
        · have g2 : (k != 2) = true := by simp [h2]
          have hk3 : ¬ k < 3 := by omega
          cases ht : L.all tok with
          | false =>
            have HT : Hid (L.all tok = false) := ht
            clear ht
            have HX0 : Hid (e1 = 4 ∧ X = []) := by
              show _ ∧ _
              have h := di_yes HMY.out
              rw [HOK.out, if_neg (by decide), if_neg (by decide)] at h
              rw [← HE1.out.1, ← HE1.out.2]
              exact h
            have HX1 : Hid (e2 = 1 ∧ U = ([], [])) := by
              show _ ∧ _
              rw [← HE2.out.1, ← HE2.out.2]
              exact do_no (Or.inr (Or.inr (by rw [HT.out]; decide)))
            go_wp2_with fail
            refine (rtensors_to false (HLV.out.later HB7.out) HT.out).mono ?_
            rintro e w8 ⟨rfl, hb8⟩
            have HB8 : Hid (Below V.heap.size V w8) := Below.after HB7.out hb8
            have HW8 : Hid (Live w8 [(V.heap.size, .slice none 0 0, .slice none 0 0, ([], []))]) := HW7.out.later hb8

            clear hb8
            go_wp2
            refine HM.out _ _ none 0 0 (.slice none 0 0) (.slice none 0 0) ⟨rfl, rfl, rfl, rfl, rfl, rfl, rfl, rfl, rfl, rfl, by rw [HX0.out.1]; rfl, by rw [HX1.out.1]; rfl, rfl, rfl⟩ ?_ ?_ HB8.out
            · rw [HX0.out.2]; exact Ints.nil _
            · rw [HX1.out.2]; exact HW8.out
          | true =>
            have HT : Hid (L.all tok = true) := ht
            clear ht
            have HX0 : Hid (e1 = 4 ∧ X = []) := by
              show _ ∧ _
              have h := di_yes HMY.out
              rw [HOK.out, if_neg (by decide), if_neg (by decide)] at h
              rw [← HE1.out.1, ← HE1.out.2]
              exact h
            have HX1 : Hid (e2 = 4 ∧ U = ([], [])) := by
              show _ ∧ _
              have h := do_yes (L := L) (by rw [HP.out]; exact HMY.out) hk3 HT.out
              rw [HP.out, HOK.out, if_neg (by decide), if_neg (by decide)] at h
              rw [← HE2.out.1, ← HE2.out.2]
              exact ⟨h.1, h.2.1⟩
            go_wp2_with fail
            refine (rtensors_to true (HLV.out.later HB7.out) HT.out).mono ?_
            rintro e w8 ⟨rfl, hb8⟩
            have HB8 : Hid (Below V.heap.size V w8) := Below.after HB7.out hb8
            have HW8 : Hid (Live w8 [(V.heap.size, .slice none 0 0, .slice none 0 0, ([], []))]) := HW7.out.later hb8
            clear hb8
            go_wp2
            refine HM.out _ _ none 0 0 (.slice none 0 0) (.slice none 0 0) ⟨rfl, rfl, rfl, rfl, rfl, rfl, rfl, rfl, rfl, rfl, by rw [HX0.out.1]; rfl, by rw [HX1.out.1]; rfl, rfl, rfl⟩ ?_ ?_ HB8.out
            · rw [HX0.out.2]; exact Ints.nil _
            · rw [HX1.out.2]; exact HW8.out
    | true =>
      by_cases h1 : k = 1
      · have g1 : (k != 1) = false := by simp [h1]
        have HX0 : Hid (e1 = 0 ∧ X = z) := by
          show _ ∧ _
          have h := di_yes HMY.out
          rw [HOK.out, if_pos rfl, if_pos rfl] at h
          rw [← HE1.out.1, ← HE1.out.2, HZ.out rfl]
          exact h
        have HX1 : Hid (e2 = 1 ∧ U = ([], [])) := by
          show _ ∧ _
          rw [← HE2.out.1, ← HE2.out.2]
          exact do_no (Or.inr (Or.inl (by omega)))
        go_wp2
        refine HM.out _ _ ya yn yc (.slice none 0 0) (.slice none 0 0) ⟨rfl, rfl, rfl, rfl, rfl, rfl, rfl, rfl, rfl, rfl, by rw [HX0.out.1]; rfl, by rw [HX1.out.1]; rfl, rfl, rfl⟩ ?_ ?_ HB7.out
        · rw [HX0.out.2]; exact HY7.out
        · rw [HX1.out.2]; exact HW7.out
      · have g1 : (k != 1) = true := by simp [h1]
        by_cases h2 : k = 2
        · have g2 : (k != 2) = false := by simp [h2]
          have HX0 : Hid (e1 = 0 ∧ X = z) := by
            show _ ∧ _
            have h := di_yes HMY.out
            rw [HOK.out, if_pos rfl, if_pos rfl] at h
            rw [← HE1.out.1, ← HE1.out.2, HZ.out rfl]
            exact h
          have HX1 : Hid (e2 = 1 ∧ U = ([], [])) := by
            show _ ∧ _
            rw [← HE2.out.1, ← HE2.out.2]
            exact do_no (Or.inr (Or.inl (by omega)))
          go_wp2
          refine HM.out _ _ ya yn yc (.slice none 0 0) (.slice none 0 0) ⟨rfl, rfl, rfl, rfl, rfl, rfl, rfl, rfl, rfl, rfl, by rw [HX0.out.1]; rfl, by rw [HX1.out.1]; rfl, rfl, rfl⟩ ?_ ?_ HB7.out
          · rw [HX0.out.2]; exact HY7.out
          · rw [HX1.out.2]; exact HW7.out
        · have g2 : (k != 2) = true := by simp [h2]
          have hk3 : ¬ k < 3 := by omega
          cases ht : L.all tok with
          | false =>
            have HT : Hid (L.all tok = false) := ht
            clear ht
            have HX0 : Hid (e1 = 0 ∧ X = z) := by
              show _ ∧ _
              have h := di_yes HMY.out
              rw [HOK.out, if_pos rfl, if_pos rfl] at h
              rw [← HE1.out.1, ← HE1.out.2, HZ.out rfl]
              exact h
            have HX1 : Hid (e2 = 1 ∧ U = ([], [])) := by
              show _ ∧ _
              rw [← HE2.out.1, ← HE2.out.2]
              exact do_no (Or.inr (Or.inr (by rw [HT.out]; decide)))
            go_wp2_with fail
            refine (rtensors_to false (HLV.out.later HB7.out) HT.out).mono ?_
            rintro e w8 ⟨rfl, hb8⟩
            have HB8 : Hid (Below V.heap.size V w8) := Below.after HB7.out hb8
            have HW8 : Hid (Live w8 [(V.heap.size, .slice none 0 0, .slice none 0 0, ([], []))]) := HW7.out.later hb8
            have HY8 : Hid (Ints w8 (.slice ya yn yc) z) := HY7.out.later hb8
            clear hb8
            go_wp2
            refine HM.out _ _ ya yn yc (.slice none 0 0) (.slice none 0 0) ⟨rfl, rfl, rfl, rfl, rfl, rfl, rfl, rfl, rfl, rfl, by rw [HX0.out.1]; rfl, by rw [HX1.out.1]; rfl, rfl, rfl⟩ ?_ ?_ HB8.out
            · rw [HX0.out.2]; exact HY8.out
            · rw [HX1.out.2]; exact HW8.out
          | true =>
            have HT : Hid (L.all tok = true) := ht
            clear ht
            have HX0 : Hid (e1 = 0 ∧ X = z) := by
              show _ ∧ _
              have h := di_yes HMY.out
              rw [HOK.out, if_pos rfl, if_pos rfl] at h
              rw [← HE1.out.1, ← HE1.out.2, HZ.out rfl]
              exact h
            have HX1 : Hid (e2 = 0 ∧ U = vR k.toNat n d (L.getD 0 no) (L.getD 1 no)) := by
              show _ ∧ _
              have h := do_yes (L := L) (by rw [HP.out]; exact HMY.out) hk3 HT.out
              rw [HP.out, HOK.out, if_pos rfl, if_pos rfl] at h
              rw [← HE2.out.1, ← HE2.out.2]
              exact ⟨h.1, h.2.1⟩
            have HV0 : Hid (vE k.toNat n d (L.getD 0 no) (L.getD 1 no) = 0 ∧ L.length = many k.toNat) := by
              show _ ∧ _
              have h := do_yes (L := L) (by rw [HP.out]; exact HMY.out) hk3 HT.out
              rw [HP.out, HOK.out, if_pos rfl, if_pos rfl] at h
              exact h.2.2
            go_wp2_with fail
            refine (rtensors_to true (HLV.out.later HB7.out) HT.out).mono ?_
            rintro e w8 ⟨rfl, hb8⟩
            have HB8 : Hid (Below V.heap.size V w8) := Below.after HB7.out hb8
            have HW8 : Hid (Live w8 [(V.heap.size, .slice none 0 0, .slice none 0 0, ([], []))]) := HW7.out.later hb8
            have HY8 : Hid (Ints w8 (.slice ya yn yc) z) := HY7.out.later hb8
            have HYW8 : Hid (Own w8 w6.heap.size (.slice ya yn yc) z) := HYW.out.later hb8
            clear hb8
            go_wp2_with fail
            refine (rdo_to k n ⟨by omega, hk.2⟩ HV0.out.2 (HDV.out.later HB8.out) (HLV.out.later HB8.out) HV0.out.1).mono ?_
            rintro e w9 ⟨y0, y1, rfl, ho, hb9⟩
            rw [← HX1.out.2] at ho
            obtain ⟨pa, pn, pc, rfl⟩ := ho.dims.ints.shape3
            obtain ⟨qa, qn, qc, rfl⟩ := ho.data.ints.shape3
            have hbx := (HW8.out.later hb9).1.box
            have l0 := hbx.c0
            have l1 := hbx.c1
            have m0 := hbx.f 0
            have m1 := hbx.f 1
            have hlt : V.heap.size < w8.heap.size := HW8.out.1.box.lt
            have HBS : Hid (Box _ _ _ _) := hbx.set (.slice pa pn pc) (.slice qa qn qc)
            have HTS : Hid (Tens _ _ _ _) := (ho.set2 (.slice pa pn pc) (.slice qa qn qc) hlt).tens
            have HYS : Hid (Ints ((w9.setCell ⟨V.heap.size, 0, none⟩ (.slice pa pn pc)).setCell ⟨V.heap.size, 1, none⟩ (.slice qa qn qc)) (.slice ya yn yc) z) := HYO.out w8 w9 _ _ hb9 HY8.out HYW8.out
            have HB9 : Hid (Below V.heap.size V w9) := Below.after HB8.out hb9
            clear hbx ho hb9
            go_wp2
            refine HM.out _ _ ya yn yc (.slice pa pn pc) (.slice qa qn qc) ⟨rfl, rfl, rfl, rfl, rfl, rfl, rfl, rfl, rfl, rfl, by rw [HX0.out.1]; rfl, by rw [HX1.out.1]; rfl, rfl, rfl⟩ ?_ ?_ ((HB9.out.setCell (by simp) _).setCell (by simp) _)
            · rw [HX0.out.2]; exact HYS.out
            · exact ⟨⟨HBS.out, HTS.out⟩, trivial⟩
  · have HMY : Hid (may k n d P = false) := by
      show _ = _
      cases h : may k n d P with
      | false => rfl
      | true => exact absurd h hmay
    have HX0 : Hid (e1 = 1 ∧ X = []) := by
      show _ ∧ _
      rw [← HE1.out.1, ← HE1.out.2]
      exact di_no hmay
    have HX1 : Hid (e2 = 1 ∧ U = ([], [])) := by
      show _ ∧ _
      rw [← HE2.out.1, ← HE2.out.2]
      exact do_no (Or.inl (by rw [HP.out]; exact hmay))
    clear hmay
    go_wp2_with fail
    refine (may_to k n false (HDV.out.later HUP.out) ((HRV.out.later HUP.out).intsL (by have := HP2.out; unfold big; omega)) HP2.out HMY.out).mono ?_
    rintro e w6 ⟨rfl, hb6⟩
    have HB6 : Hid (Below V.heap.size V w6) := Below.after HUP.out hb6
    have HW6 : Hid (Live w6 [(V.heap.size, .slice none 0 0, .slice none 0 0, ([], []))]) := HW0.out.later hb6
    clear hb6 HUP HW0
    go_wp2
    refine HM.out _ _ none 0 0 (.slice none 0 0) (.slice none 0 0) ⟨rfl, rfl, rfl, rfl, rfl, rfl, rfl, rfl, rfl, rfl, by rw [HX0.out.1]; rfl, by rw [HX1.out.1]; rfl, rfl, rfl⟩ ?_ ?_ HB6.out
    · rw [HX0.out.2]; exact Ints.nil _
    · rw [HX1.out.2]; exact HW6.out
end Go.Proofs.YtheddpjaihhbdabGreat
