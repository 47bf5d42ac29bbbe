/- KernelDims: its inmost loop. -/
import Derived.Test.YtheddpjaihhbdaaP3
import Derived.Test.YtheddpjaihhbdaaB1P
namespace Go.Proofs.Ytheddpjaihhbdaa
set_option linter.unusedVariables false
set_option linter.unusedSimpArgs false
set_option maxRecDepth 100000
open Go.RowKit

set_option maxRecDepth 1000000 in
set_option maxHeartbeats 16000000 in
theorem dloop4 {B kd i n on oc un uc nD cD : Nat} {oa ua pD : Option Addr} {L1 L2 : List Ten} {ds : List (List Int)} {W : World} {Q : Exit → Act → World → Prop}
    (h4 : 4 ≤ kd) (h17 : kd ≤ 17) (hn4 : n < 4) (hDb : nD ≤ 17592186044416) (HL1 : Hid (TensL W (.slice oa on oc) L1 ∧ L1.length ≤ 2)) (HL2 : Hid (TensL W (.slice ua un uc) L2 ∧ L2.length ≤ 2)) (HCD : Hid (W.cell? ⟨B, 2, none⟩ = some (.slice pD nD cD))) (HDS : Hid (IntsL W (.slice pD nD cD) ds))
    (hexit : ∀ a' w' k, FrD4 B kd i n on oc un uc oa ua k a' → Below W.heap.size W w' → Q (.exit 6) a' w')
    (a : Act) (w : World) (ha : FrD4 B kd i n on oc un uc oa ua 0 a) (hb : Below W.heap.size W w) :
    Code.wp Try.prog (.loop (((Try.f3.body.map loopsIn).getD []).getD 3 .skip)) Q a w := by
  refine wp_loop (fun a' w' => (∃ k : Nat, k ≤ 2 ∧ FrD4 B kd i n on oc un uc oa ua k a') ∧ Below W.heap.size W w') (fun a' _ => 2 - slotNat a' 8) ⟨⟨0, by omega, ha⟩, hb⟩ ?_
  clear ha hb
  clear a w
  intro a w ⟨⟨k, hk2, hf⟩, hb⟩
  obtain ⟨G, hg, e⟩ := act125 a hf.d hf.s
  obtain ⟨hz1, hz2, g1, g3, g4, g5, g6, g7, g8⟩ := hf
  rw [hg] at g1 g3 g4 g5 g6 g7 g8 
  clear hz1 hz2
  subst e
  clear hg
  rw [g1, g3, g4, g5, g6, g7, g8]
  clear g1 g3 g4 g5 g6 g7 g8 
  have HEX : Hid (∀ a' w' k, FrD4 B kd i n on oc un uc oa ua k a' → Below W.heap.size W w' → Q (.exit 6) a' w') := hexit
  have HB : Hid (Below W.heap.size W w) := hb
  have HL1w : Hid (TensL w (.slice oa on oc) L1 ∧ L1.length ≤ 2) := ⟨HL1.out.1.later hb, HL1.out.2⟩
  have HL2w : Hid (TensL w (.slice ua un uc) L2 ∧ L2.length ≤ 2) := ⟨HL2.out.1.later hb, HL2.out.2⟩
  have HCDw : Hid (w.cell? ⟨B, 2, none⟩ = some (.slice pD nD cD)) := cell_later hb HCD.out
  have HDSw : Hid (IntsL w (.slice pD nD cD) ds) := HDS.out.later hb
  clear hexit hb HL1 HL2 HCD HDS
  conv => arg 2; whnf
  by_cases hlt : k < 2
  · go_upto_region 18 with fail
    rename_i K1 hK1 K0 hK0
    have HM : Hid (∀ a' w' la ln lc L, FrD5 B kd i n on oc un uc oa ua k ln lc la a' → TensL w' (.slice la ln lc) L → L.length ≤ 2 → Below w.heap.size w w' → K1 a' w') := by
      intro a6 w6 la ln lc L hf6 hL6 hLn hb6
      apply hK1
      clear hK1 hK0 K0
      have HL6 : Hid (TensL w6 (.slice la ln lc) L) := hL6
      have HLN : Hid (L.length ≤ 2) := hLn
      have HB6 : Hid (Below w.heap.size w w6) := hb6
      have HDS6 : Hid (IntsL w6 (.slice pD nD cD) ds) := HDSw.out.later hb6
      have hcd := cell_later hb6 HCDw.out
      clear hL6 hLn hb6
      obtain ⟨G6, hg6, e6⟩ := act125 a6 hf6.d hf6.s
      obtain ⟨hz1, hz2, g1, g3, g4, g5, g6, g7, g8, g9⟩ := hf6
      rw [hg6] at g1 g3 g4 g5 g6 g7 g8 g9 
      clear hz1 hz2
      subst e6
      clear hg6
      rw [g1, g3, g4, g5, g6, g7, g8, g9]
      clear g1 g3 g4 g5 g6 g7 g8 g9 
      go_upto_region 21 with fail
      rename_i K2 hK2 K3 hK3
      have HM2 : Hid (∀ a' w' xa xn xc d, FrD6 B kd i n on oc un uc oa ua k ln lc la xn xc xa a' → Ints w' (.slice xa xn xc) d → Below w6.heap.size w6 w' → K2 a' w') := by
        intro a7 w7 xa xn xc d hf7 hx7 hb7
        apply hK2
        clear hK2 hK3 K3 hcd
        have HX7 : Hid (Ints w7 (.slice xa xn xc) d) := hx7
        have HB7 : Hid (Below w.heap.size w w7) := Below.after HB6.out hb7
        have HL7 : Hid (TensL w7 (.slice la ln lc) L) := HL6.out.later hb7
        clear hx7 hb7
        obtain ⟨G7, hg7, e7⟩ := act125 a7 hf7.d hf7.s
        obtain ⟨hz1, hz2, g1, g3, g4, g5, g6, g7, g8, g9, g10⟩ := hf7
        rw [hg7] at g1 g3 g4 g5 g6 g7 g8 g9 g10 
        clear hz1 hz2
        subst e7
        clear hg7
        rw [g1, g3, g4, g5, g6, g7, g8, g9, g10]
        clear g1 g3 g4 g5 g6 g7 g8 g9 g10 
        go_wp2_with fail
        refine (do_any (kd : Int) (n : Int) (HX7.out) (HL7.out)).mono ?_
        obtain ⟨e0, he0⟩ : ∃ e, doE (kd : Int) (n : Int) d L = e := ⟨_, rfl⟩
        obtain ⟨u, hu⟩ : ∃ u, doR (kd : Int) (n : Int) d L = u := ⟨_, rfl⟩
        have HEU : Hid (doE (kd : Int) (n : Int) d L = e0 ∧ doR (kd : Int) (n : Int) d L = u) := ⟨he0, hu⟩
        rw [he0, hu]
        clear he0 hu
        rintro e w8 ⟨x0, x1, rfl, ho, hb8⟩
        obtain ⟨ta, tn, tc, rfl⟩ := ho.dims.ints.shape3
        obtain ⟨va, vn, vc, rfl⟩ := ho.data.ints.shape3
        have HT8 : Hid (TB (w8.alloc (.cells #[.slice ta tn tc, .slice va vn vc] 31)) w8.heap.size (.slice ta tn tc) (.slice va vn vc) u) := ⟨Box.new _ _ _, ho.tens.later (Below.push (Below.refl _ _) _)⟩
        have HB8 : Hid (Below w7.heap.size w7 (w8.alloc (.cells #[.slice ta tn tc, .slice va vn vc] 31))) := Below.push hb8 _
        clear ho hb8
        go_upto_region 24 with fail
        obtain ⟨b8, hb8⟩ : ∃ b, w8.heap.size = b := ⟨_, rfl⟩
        rw [hb8] at HT8 ⊢
        generalize (w8.alloc (.cells #[.slice ta tn tc, .slice va vn vc] 31)) = V at HT8 HB8 ⊢
        clear hb8
        by_cases h0 : e0 = 0
        · subst h0
          have HDD : Hid (diE (kd : Int) (n : Int) d (L.map Prod.fst) = 0 ∧ diR (kd : Int) (n : Int) d (L.map Prod.fst) = u.1 ∧ tok u = true) := by
            have h := do_dims (by omega : (4 : Int) ≤ (kd : Int)) HEU.out.1
            rw [HEU.out.2] at h
            exact h
          go_wp2_with (go_at_call 7; refine (num_any _ _).mono ?_; rintro e w' ⟨rfl, rfl⟩)
          refine (dimsOf_any (HL7.out.later HB8.out) HLN.out).mono ?_
          rintro e w9 ⟨vs, xs, rfl, hrow, hb9⟩
          obtain ⟨ra, rn, rc, rfl⟩ := row_shape3 hrow
          have HR9 : Hid (Row w9 V.heap.size (.slice ra rn rc) (L.map Prod.fst) xs) := hrow
          have HB9 : Hid (Below V.heap.size V w9) := hb9
          clear hrow hb9
          go_wp2_with fail
          refine (dims_any (kd : Int) (n : Int) (HX7.out.later (Below.after HB8.out HB9.out)) (HR9.out.intsL (by have := HLN.out; rw [List.length_map]; unfold big; omega)) (by rw [List.length_map]; exact HLN.out)).mono ?_
          rw [HDD.out.1, HDD.out.2.1]
          rintro e w10 ⟨x, rfl, ho, hb10⟩
          obtain ⟨pa, pn, pc, rfl⟩ := ho.ints.shape3
          have HP10 : Hid (Ints w10 (.slice pa pn pc) u.1) := ho.ints
          have HB10 : Hid (Below V.heap.size V w10) := Below.after HB9.out hb10
          have HT10 : Hid (TB w10 b8 (.slice ta tn tc) (.slice va vn vc) u) := HT8.out.later HB10.out
          clear ho hb10
          have c0 := HT10.out.box.c0
          have c1 := HT10.out.box.c1
          go_wp2_with (go_at_call 7; refine (num_any _ _).mono ?_; rintro e w' ⟨rfl, rfl⟩)
          refine (eqn_to true HP10.out HT10.out.ten.1 (beq_self_ints _)).mono ?_
          rintro e w11 ⟨rfl, n11, e11⟩
          have hb11 : Below w10.heap.size w10 w11 := by rw [e11]; exact Below.drewN (Below.refl _ _) _
          have HT11 : Hid (TB w11 b8 (.slice ta tn tc) (.slice va vn vc) u) := HT10.out.later hb11
          have HB11 : Hid (Below V.heap.size V w11) := Below.after HB10.out hb11
          clear hb11 e11 c0 c1
          have c0 := HT11.out.box.c0
          have c1 := HT11.out.box.c1
          go_wp2_with fail
          refine (rtensor_to true HT11.out.ten HDD.out.2.2).mono ?_
          rintro e w12 ⟨rfl, hb12⟩
          have HBZ : Hid (Below W.heap.size W w12) := Below.after HB.out (Below.after HB7.out (Below.after HB8.out (Below.after HB11.out hb12)))
          clear hb12 c0 c1
          go_wp2
          refine ⟨⟨⟨k + 1, by omega, rfl, rfl, rfl, rfl, rfl, rfl, rfl, rfl, ?_⟩, HBZ.out⟩, ?_⟩
          · show Value.int .i64 _ = _
            go_num
          · show 2 - (intOf (Value.int .i64 _)).toNat < 2 - (intOf (Value.int .i64 _)).toNat
            simp [intOf]
            omega
        · have hne : (e0 != 0) = true := by simpa using h0
          have HBZ : Hid (Below W.heap.size W V) := Below.after HB.out (Below.after HB7.out HB8.out)
          go_wp2_with (go_at_call 7; refine (num_any _ _).mono ?_; rintro e w' ⟨rfl, rfl⟩)
          refine ⟨⟨⟨k + 1, by omega, rfl, rfl, rfl, rfl, rfl, rfl, rfl, rfl, ?_⟩, HBZ.out⟩, ?_⟩
          · show Value.int .i64 _ = _
            go_num
          · show 2 - (intOf (Value.int .i64 _)).toNat < 2 - (intOf (Value.int .i64 _)).toNat
            simp [intOf]
            omega
      clear hK2
      by_cases hD0 : nD = 0
      · have hgt : ¬ (0 : Int) < (nD : Int) := by omega
        go_wp2
        exact HM2.out _ _ none 0 0 [] ⟨rfl, rfl, rfl, rfl, rfl, rfl, rfl, rfl, rfl, rfl, rfl⟩ (Ints.nil _) (Below.refl _ _)
      · have hgt : (0 : Int) < (nD : Int) := by omega
        by_cases hb : 11 ≤ kd ∧ kd ≤ 13
        · obtain ⟨j, hj⟩ : ∃ j, n % nD = j := ⟨_, rfl⟩
          obtain ⟨db, dO, d, xa, xn, xc, ea, hr0, HX⟩ := HDS6.out.rowN j (by rw [← hj]; exact Nat.mod_lt _ (by omega))
          subst ea
          have b1 : (11 : Int) ≤ (kd : Int) := by omega
          have b2 : (kd : Int) ≤ 13 := by omega
          go_upto_region 22 with (go_at_call 5; refine (between_t _ _ _ _ b1 b2).mono ?_; rintro e w2 ⟨rfl, rfl⟩)
          refine dreg22 hn4 hj (by omega) hDb hcd hr0 ?_ _ ⟨rfl, rfl, rfl, rfl, rfl, rfl, rfl, rfl, rfl, rfl⟩
          intro a8 w8 hf8 hb8
          exact HM2.out _ _ xa xn xc d hf8 (HX.out.later hb8) hb8
        · have HN : Hid ((kd : Int) < 11 ∨ (13 : Int) < (kd : Int)) := by show _ ∨ _; omega
          go_wp2_with (go_at_call 5; refine (between_f _ _ _ _ HN.out).mono ?_; rintro e w2 ⟨rfl, rfl⟩)
          exact HM2.out _ _ none 0 0 [] ⟨rfl, rfl, rfl, rfl, rfl, rfl, rfl, rfl, rfl, rfl, rfl⟩ (Ints.nil _) (Below.refl _ _)
    clear hK1
    have h01 : k = 0 ∨ k = 1 := by omega
    rcases h01 with rfl | rfl
    · go_wp2
      exact HM.out _ _ oa on oc L1 ⟨rfl, rfl, rfl, rfl, rfl, rfl, rfl, rfl, rfl, rfl⟩ HL1w.out.1 HL1w.out.2 (Below.refl _ _)
    · go_wp2
      exact HM.out _ _ ua un uc L2 ⟨rfl, rfl, rfl, rfl, rfl, rfl, rfl, rfl, rfl, rfl⟩ HL2w.out.1 HL2w.out.2 (Below.refl _ _)
  · go_wp2
    exact HEX.out _ _ k ⟨rfl, rfl, rfl, rfl, rfl, rfl, rfl, rfl, rfl⟩ HB.out
end Go.Proofs.Ytheddpjaihhbdaa
