/- Contract: gate's Max. -/
import Derived.Test.YtnphfepkjhlalaaG6
namespace Go.Proofs.Ytnphfepkjhlalaa
set_option linter.unusedVariables false
set_option linter.unusedSimpArgs false
open Go.RowKit

theorem last_split {d : List Int} (h : 1 ≤ d.length) : d = d.take (d.length - 1) ++ [lastD d] := by
  have h1 : d.length - 1 < d.length := by omega
  have := take_snoc d (d.length - 1) h1
  rw [show d.length - 1 + 1 = d.length by omega, List.take_length] at this
  rw [show lastD d = d[d.length - 1] by simp [lastD, h1]]
  exact this
theorem les_split {d : List Int} (h : 1 ≤ d.length) (n : Int) : lesD d n = d.take (d.length - 1) ++ [lastD d / n] := by
  have h1 : d.length - 1 < d.length := by omega
  rw [lesD, List.set_eq_take_append_cons_drop, if_pos h1, List.drop_of_length_le (by omega)]
/-- n goes into all cells; what is left. -/
theorem few_mul {t : Ten} {n : Nat} (hx : tok t = true) (h1 : 1 ≤ n) (hd : lastD t.1 % n = 0) :
    ∃ m : Nat, 1 ≤ m ∧ t.2.length = m * n ∧ okd (lesD t.1 n) = true ∧ (prd (lesD t.1 n)).toNat = m := by
  have ho := tok_okd hx
  obtain ⟨k1, k3, kin, k64⟩ := okd_parts ho
  obtain ⟨l1, l8⟩ := lastD_bd ho
  have hs := last_split k1
  have hl := les_split k1 (n : Int)
  have hlen := tok_len hx
  obtain ⟨P, hP⟩ : ∃ P, t.1.take (t.1.length - 1) = P := ⟨_, rfl⟩
  rw [hP] at hs hl
  have hPin : inr P = true := by rw [← hP]; exact inr_take kin _
  have hp1 := prd_lo hPin
  obtain ⟨q, hq⟩ : ∃ q : Nat, lastD t.1 / n = q := ⟨(lastD t.1 / n).toNat, by have := Int.ediv_nonneg (show (0:Int) ≤ lastD t.1 by omega) (show (0:Int) ≤ n by omega); omega⟩
  have hqn : lastD t.1 = q * n := by rw [← hq]; exact (Int.ediv_mul_cancel (Int.dvd_of_emod_eq_zero hd)).symm
  have q1 : 1 ≤ q := by
    rcases Nat.eq_zero_or_pos q with h | h
    · rw [h] at hqn; simp at hqn; omega
    · exact h
  have q8 : (q : Int) ≤ lastD t.1 := by
    rw [hqn]
    have := Int.mul_le_mul_of_nonneg_left (show (1:Int) ≤ n by omega) (show (0:Int) ≤ q by omega)
    omega
  have e1 : prd t.1 = prd P * lastD t.1 := by rw [hs, prd_snoc]; congr 1; rw [← hs]
  have e2 : prd (lesD t.1 n) = prd P * q := by rw [hl, prd_snoc, hq]
  have hin : inr (lesD t.1 n) = true := by
    rw [hl, inr_snoc, hPin, hq]
    simp
    omega
  obtain ⟨p, hp⟩ : ∃ p : Nat, prd P = p := ⟨(prd P).toNat, by omega⟩
  have e3 : prd P * (q : Int) ≤ prd P * lastD t.1 := Int.mul_le_mul_of_nonneg_left q8 (by omega)
  refine ⟨p * q, Nat.mul_pos (by omega) q1, ?_, okd_mk ?_ ?_ hin ?_, ?_⟩
  · have : (t.2.length : Int) = ((p * q * n : Nat) : Int) := by rw [hlen, e1, hqn, hp]; simp [Int.mul_assoc]
    omega
  · rw [lesD, List.length_set]; exact k1
  · rw [lesD, List.length_set]; exact k3
  · rw [e2]; omega
  · rw [e2, hp, ← Int.natCast_mul, Int.toNat_natCast]
def mxM (t : Ten) (n : Int) : List Int := maxs n.toNat (t.2.length / n.toNat) t.2
def mxR (t : Ten) (n : Int) : Ten := if fwE t n = 0 then (lesD t.1 n, mxM t n) else ([], [])
theorem fwE_zero {t : Ten} {n : Int} (h : fwE t n = 0) : tok t = true ∧ 1 ≤ n ∧ n ≤ 8 ∧ lastD t.1 % n = 0 := by
  unfold fwE at h
  split at h
  · rename_i h1
    split at h
    · rename_i h2
      exact ⟨h1.1, h1.2.1, h1.2.2, h2⟩
    · simp at h
  · simp at h

set_option maxRecDepth 100000 in
set_option maxHeartbeats 2000000 in
theorem max_bad {a0 a1 : Value} {t : Ten} {w : World} (n c : Int) (ha : Tens w a0 a1 t) (hc : fwE t n = c) (hc0 : c ≠ 0) :
    Calls Try.prog 13 #[.agg #[a0, a1], .int .i64 n] w fun e w' => e = .returned (.tuple #[.agg #[.slice none 0 0, .slice none 0 0], .int .i64 c]) ∧ Below w.heap.size w w' := by
  obtain ⟨aa, an, ac, rfl⟩ := ha.1.shape3
  obtain ⟨ba, bn, bc, rfl⟩ := ha.2.shape3
  have hne : (c != 0) = true := by simpa using hc0
  obtain ⟨U, hU⟩ : ∃ U, U = ((w.alloc (.cells #[.slice aa an ac, .slice ba bn bc] 28)).alloc (.cells #[.slice none 0 0, .slice none 0 0] 28)) := ⟨_, rfl⟩
  have hb : Below w.heap.size w U := by rw [hU]; exact ((Below.refl _ _).alloc (Nat.le_refl _) _).alloc (by simp) _
  have HA : Hid (Tens U (.slice aa an ac) (.slice ba bn bc) t) := ha.later hb
  have HB : Hid (Below w.heap.size w U) := hb
  have HBX : Hid (Box U (w.heap.size + 1) (.slice none 0 0) (.slice none 0 0)) := by
    show Box _ _ _ _
    have := Box.new (w.alloc (.cells #[.slice aa an ac, .slice ba bn bc] 28)) (.slice none 0 0) (.slice none 0 0)
    simp only [World.size_alloc] at this
    rw [hU]
    exact this
  have HC : Hid (fwE t n = c) := hc
  clear ha hb hc hc0
  go_enter Try.func13, Try.ntmps13
  go_wp2_with fail
  rw [← hU]
  clear hU
  refine (few_any n HA.out).mono ?_
  rw [HC.out]
  rintro e w2 ⟨v, rfl, ho, hb2⟩
  have hbx := HBX.out.later hb2
  have l0 := hbx.c0
  have l1 := hbx.c1
  have m0 := hbx.f 0
  have m1 := hbx.f 1
  have HBS : Hid (Box _ _ _ _) := hbx.set (.slice none 0 0) (.slice none 0 0)
  have HBW : Hid (Below w.heap.size w w2) := Below.after HB.out hb2
  clear hbx ho hb2
  go_wp2
  have hr0 := HBS.out.c0
  have hr1 := HBS.out.c1
  exact bodyPost_ret (v := .tuple #[.agg #[.slice none 0 0, .slice none 0 0], .int .i64 c]) (by simp [results, Try.results13, go_sem, hr0, hr1]) rfl ⟨rfl, (HBW.out.setCell (by simp <;> omega) _).setCell (by simp <;> omega) _⟩

theorem It.own {w : World} {B I p : Nat} {s : ByteArray} {v : Value} {d : List Int} (h : Own w B v d) (hi : It w I s p) : ∀ k, v.ownBlock = some k → k ≠ I := by
  intro k hk e
  subst e
  rcases h.row.2 with ⟨e, _⟩ | ⟨g, cap, cur, hv, _, hg, _⟩
  · rw [e] at hk; simp [Value.ownBlock] at hk
  · rw [hv] at hk
    simp [Value.ownBlock] at hk
    subst hk
    have hi' : w.heap[g]? = some (.stringIter s p) := hi
    rw [hg] at hi'
    simp at hi'
theorem Own.moved {w : World} {B I q : Nat} {s s' : ByteArray} {p : Nat} {v : Value} {d : List Int} (h : Own w B v d) (hi : It w I s p) : Own (w.iterAt I s' q) B v d :=
  h.at fun k hk => by
    have := It.own h hi k hk
    simp only [World.iterAt, Array.getElem?_setIfInBounds]
    rw [if_neg (fun e => this e.symm)]

set_option maxRecDepth 100000 in
set_option maxHeartbeats 4000000 in
theorem max_ok {a0 a1 : Value} {t : Ten} {w : World} (n m : Nat) (ha : Tens w a0 a1 t) (hf : fwE t n = 0) (hm1 : 1 ≤ m) (hm : t.2.length = m * n) :
    Calls Try.prog 13 #[.agg #[a0, a1], .int .i64 n] w fun e w' => ∃ x0 x1, e = .returned (.tuple #[.agg #[x0, x1], .int .i64 0]) ∧ OwnT w' w.heap.size x0 x1 (lesD t.1 n, maxs n m t.2) ∧ Below w.heap.size w w' := by
  obtain ⟨hx, hn1, hn8, hd⟩ := fwE_zero hf
  have hl64 := tok_pos hx
  obtain ⟨aa, an, ac, rfl⟩ := ha.1.shape3
  have haold := ha.2.old hl64.1
  rcases ha.2.cases with ⟨e, _⟩ | ⟨ab, ao, acp, eA, _, hacp, _, HCA⟩
  · rw [e] at hl64; simp at hl64
  subst eA
  have hab : ab < w.heap.size := haold ab rfl
  obtain ⟨N, hN⟩ : ∃ N, t.2.length = N := ⟨_, rfl⟩
  have HCD : Hid (∀ i, i < N → w.cell? ⟨ab, ao + i, none⟩ = some (.int .i64 (t.2.getD i 0))) := fun i hi => Ints.cellD (n := 0) (c := 0) HCA i (by omega)
  have HN : Hid (t.2.length = N ∧ N = m * n) := ⟨hN, by omega⟩
  rw [hN] at hl64 hacp ha
  rw [hN]
  obtain ⟨hl1, hl64⟩ := hl64
  have HW : Hid (fwE t n = 0) := hf
  have hn1' : 1 ≤ n := by omega
  have hn8' : n ≤ 8 := by omega
  obtain ⟨U, hU⟩ : ∃ U, U = ((w.alloc (.cells #[.slice aa an ac, .slice (some ⟨ab, ao, none⟩) N acp] 28)).alloc (.cells #[.slice none 0 0, .slice none 0 0] 28)) := ⟨_, rfl⟩
  have hb : Below w.heap.size w U := by rw [hU]; exact ((Below.refl _ _).alloc (Nat.le_refl _) _).alloc (by simp) _
  have HA : Hid (Tens U (.slice aa an ac) (.slice (some ⟨ab, ao, none⟩) N acp) t) := ha.later hb
  have HB : Hid (Below w.heap.size w U) := hb
  have HBA : Hid (Box U w.heap.size (.slice aa an ac) (.slice (some ⟨ab, ao, none⟩) N acp)) := by show Box _ _ _ _; rw [hU]; exact (Box.new w _ _).alloc _
  have HBX : Hid (Box U (w.heap.size + 1) (.slice none 0 0) (.slice none 0 0)) := by
    show Box _ _ _ _
    have := Box.new (w.alloc (.cells #[.slice aa an ac, .slice (some ⟨ab, ao, none⟩) N acp] 28)) (.slice none 0 0) (.slice none 0 0)
    simp only [World.size_alloc] at this
    rw [hU]
    exact this
  have hs0 : w.heap.size + 1 + 1 ≤ U.heap.size := by rw [hU]; simp
  obtain ⟨i3, hi, hz0, hz1, hz2⟩ := info3
  have HI : Hid (Try.prog.info? 3 = some i3) := hi
  have HZ0 : Hid (i3.zero = some (.int .i64 0)) := hz0
  have HZ1 : Hid (i3.size = 1) := hz1
  have HZ2 : Hid (i3.bytes = 8) := hz2
  clear ha hb hf hx hd hN hm HCA haold hi hz0 hz1 hz2 hn1 hn8
  go_enter Try.func13, Try.ntmps13
  go_wp2_with fail
  rw [← hU]
  clear hU
  refine (few_any (n : Int) HA.out).mono ?_
  rw [HW.out]
  rintro e w2 ⟨v, rfl, ho, hb2⟩
  rw [fwD, HW.out, if_pos rfl] at ho
  obtain ⟨da, dn, dc, rfl⟩ := ho.ints.shape3
  have hs2 := hb2.size
  have HO2 : Hid (Own w2 (w.heap.size + 1 + 1) (.slice da dn dc) (lesD t.1 n)) := ho.mono hs0
  have HB2 : Hid (Below w.heap.size w w2) := Below.after HB.out hb2
  have HU2 : Hid (Below U.heap.size U w2) := hb2
  obtain ⟨V, hV⟩ : ∃ V, V = w2.alloc (.cells #[] 3) := ⟨_, rfl⟩
  have HBV : Hid (Below w2.heap.size w2 V) := by show Below _ _ _; rw [hV]; exact Below.push (Below.refl _ _) _
  have hsV : w2.heap.size < V.heap.size := by rw [hV]; simp
  have HOV : Hid (Own V w2.heap.size (.slice (some ⟨w2.heap.size, 0, none⟩) 0 0) []) := by
    show Own _ _ _ _
    rw [hV]
    exact ⟨World.ownsRow_made w2 #[] 0 (Nat.le_refl _) (Nat.zero_le _) rfl, by simp⟩
  have HAV : Hid (Ints V (.slice (some ⟨ab, ao, none⟩) N acp) t.2) := (HA.out.2.later HU2.out).later HBV.out
  have q0 : V.cell? ⟨w.heap.size, 1, none⟩ = _ := (Box.later HBV.out (HBA.out.later HU2.out)).c1
  rw [hV] at q0
  clear ho hb2
  go_wp2_with fail
  rw [← hV]
  clear hV q0
  refine (firsts_any n m HAV.out hn1' hn8' hm1 (by rw [HN.out.1]; exact HN.out.2) (by rw [HN.out.1]; exact hl64)).mono ?_
  rw [HN.out.1]
  rintro e w5 ⟨rfl, hb5⟩
  have hs5 := hb5.size
  have HV5 : Hid (Below w2.heap.size w2 (w5.iter (gT (gC n t.2) N) 0)) := Below.push (Below.after HBV.out hb5) _
  have HO5 : Hid (Own (w5.iter (gT (gC n t.2) N) 0) w2.heap.size (.slice (some ⟨w2.heap.size, 0, none⟩) 0 0) []) := (HOV.out.later hb5).later (Below.push (Below.refl _ _) _)
  clear hb5
  go_wp2
  go_loopw [8] (fun v w' => ∃ j : Nat, j ≤ N ∧ Own w' w2.heap.size v (maxs n (nxC n t.2 j) t.2) ∧ It w' w5.heap.size (gT (gC n t.2) N) j ∧ Below w2.heap.size w2 w') (fun _ w' => N - w'.iterPos w5.heap.size)
  case atStart => exact ⟨0, by omega, by rw [nxC_zero, maxs_zero]; exact HO5.out, It.new _ _ _, HV5.out⟩
  case round =>
    obtain ⟨j, hj, hO, hI, hbu⟩ := hrel
    have HP : Hid (wr.iterPos w5.heap.size = j) := hI.pos
    have HOR : Hid (Own wr w2.heap.size u8 (maxs n (nxC n t.2 j) t.2)) := hO
    have HIR : Hid (It wr w5.heap.size (gT (gC n t.2) N) j) := hI
    have HBU : Hid (Below w2.heap.size w2 wr) := hbu
    clear hO hI hbu
    by_cases hlt : j < N
    · have hnx := fun ty => It.g (g := gC n t.2) HIR.out hlt ty
      have HO1 : Hid (Own (wr.iterAt w5.heap.size (gT (gC n t.2) N) (j + 1)) w2.heap.size u8 (maxs n (nxC n t.2 j) t.2)) := Own.moved HOR.out HIR.out
      have HI1 : Hid (It (wr.iterAt w5.heap.size (gT (gC n t.2) N) (j + 1)) w5.heap.size (gT (gC n t.2) N) (j + 1)) := HIR.out.moved _
      have HU1 : Hid (Below w2.heap.size w2 (wr.iterAt w5.heap.size (gT (gC n t.2) N) (j + 1))) := Below.moved HBU.out (by omega) _ _
      obtain ⟨W1, hW1⟩ : ∃ W1, wr.iterAt w5.heap.size (gT (gC n t.2) N) (j + 1) = W1 := ⟨_, rfl⟩
      rw [hW1] at hnx HO1 HI1 HU1
      obtain ⟨g, hg⟩ : ∃ g, gC n t.2 j = g := ⟨_, rfl⟩
      rw [hg] at hnx
      cases g with
      | false =>
        have HS : Hid (nxC n t.2 (j + 1) = nxC n t.2 j) := nxC_off _ _ hn1' hg
        clear hW1 hg
        go_wp2_with (go_at_call 31; refine (opened_any false _).mono ?_; rintro e w' ⟨rfl, hw⟩; subst w')
        go_roundw
        case rel => exact ⟨j + 1, by omega, by rw [HS.out]; exact HO1.out, HI1.out, HU1.out⟩
        case measure => rw [HI1.out.pos, HP.out]; omega
      | true =>
        have HS : Hid (maxs n (nxC n t.2 (j + 1)) t.2 = maxs n (nxC n t.2 j) t.2 ++ [t.2.getD j 0]) := maxs_on _ _ hn1' hg
        have v1 := (Box.later HU1.out (HBA.out.later HU2.out)).c1
        have v2 : W1.cell? ⟨ab, ao + j, none⟩ = some (.int .i64 (t.2.getD j 0)) := cell_later (Below.after HB2.out HU1.out) (HCD.out j hlt)
        obtain ⟨y, hy⟩ : ∃ y, t.2.getD j 0 = y := ⟨_, rfl⟩
        rw [hy] at v2 HS
        have hk : (maxs n (nxC n t.2 j) t.2).length ≤ 65 := by
          rw [maxs_length]
          have := Nat.div_le_self j n
          unfold nxC
          split <;> omega
        obtain ⟨k, ek⟩ : ∃ k, (maxs n (nxC n t.2 j) t.2).length = k := ⟨_, rfl⟩
        have HRW : Hid (W1.ownsRow w2.heap.size 3 1 u8 k ((maxs n (nxC n t.2 j) t.2).map (Value.int .i64))) := by
          have := HO1.out.row
          rw [ek] at this
          exact this
        have HNE : Hid (∀ k, u8.ownBlock = some k → k ≠ w5.heap.size) := It.own HO1.out HI1.out
        obtain ⟨ua, uc, eu⟩ := HO1.out.ints.shape
        rw [ek] at eu hk
        subst eu
        have z4 : (0 : Int) ≤ (j : Int) := by omega
        have z5 : (j : Int) < N := by omega
        have hsW := HU1.out.size
        clear hW1 hg hy
        go_wp2_with (first
          | (go_at_call 31; refine (opened_any true _).mono ?_; rintro e w' ⟨rfl, hw⟩; subst w')
          | (at_builtin; refine wpList_append_own _ rfl _ _ 23 rfl w2.heap.size 3 i3 (.int .i64 0) 1 8 Try.underlying23 HI.out HZ0.out HZ1.out HZ2.out rfl (by decide) _ _ _ rfl (HRW.out.alloc _) ⟨W1.heap.size, 0, none⟩ 1 1 [.int .i64 y] rfl rfl ?c1 ?c2 ?c3 ?c4 ?c5 ?_))
        case c1 => exact cell_one_new _ _ _
        case c2 => intro u hu; simp at hu; subst hu; rfl
        case c3 => unfold maxLen; omega
        case c4 => omega
        case c5 => simp; omega
        intro v1 w1 ho hg _
        have HO3 : Hid (Own w1 w2.heap.size v1 (maxs n (nxC n t.2 (j + 1)) t.2)) := by
          show Own _ _ _ _
          rw [HS.out]
          refine ⟨?_, ?_⟩
          · rw [List.map_append, List.length_append, ek]
            exact ho
          · rw [List.length_append, ek]; simp; unfold big; omega
        have HB3 : Hid (Below w2.heap.size w2 w1) := (HU1.out.alloc (by omega) _).grown hg (by simp; omega) (fun q hq => (HRW.out.lt q hq).1)
        have HI3 : Hid (It w1 w5.heap.size (gT (gC n t.2) N) (j + 1)) := (hg.block w5.heap.size (by have := HI1.out.lt; simp; omega) (fun e => HNE.out _ e.symm rfl)).trans ((Below.heap_alloc W1 _ _ HI1.out.lt).trans HI1.out)
        clear ho hg
        go_wp2
        go_roundw
        case rel => exact ⟨j + 1, by omega, HO3.out, HI3.out, HB3.out⟩
        case measure => rw [HI3.out.pos, HP.out]; omega
    · have hj' : j = N := by omega
      subst hj'
      have hnd := fun ty => HIR.out.nd (gT_size _ _).symm ty
      have HOE : Hid (Own wr w2.heap.size u8 (maxs n m t.2)) := by
        have := HOR.out
        rw [HN.out.2, nxC_all _ _ hn1'] at this
        exact this
      obtain ⟨ua, un, uc, rfl⟩ := HOE.out.ints.shape3
      have hbx := Box.later HBU.out (HBX.out.later HU2.out)
      have l0 := hbx.c0
      have l1 := hbx.c1
      have m0 := hbx.f 0
      have m1 := hbx.f 1
      have HBS : Hid (Box _ _ _ _) := hbx.set (.slice da dn dc) (.slice ua un uc)
      have HBW : Hid (Below w.heap.size w wr) := Below.after HB2.out HBU.out
      clear hbx
      go_wp2
      have hr0 := HBS.out.c0
      have hr1 := HBS.out.c1
      refine bodyPost_ret (v := .tuple #[.agg #[.slice da dn dc, .slice ua un uc], .int .i64 0]) (by simp [results, Try.results13, go_sem, hr0, hr1]) rfl ⟨_, _, rfl, ?_, ?_⟩
      · have h1 : OwnT wr (w.heap.size + 1 + 1) (.slice da dn dc) (.slice ua un uc) (lesD t.1 n, maxs n m t.2) := ⟨HO2.out.later HBU.out, HOE.out.mono (by omega), fun k hk e => by
          have h2 := HO2.out.lt k hk
          have h3 := HOE.out.frm k e
          omega⟩
        exact (h1.set2 _ _ (by omega)).mono (by omega)
      · exact (HBW.out.setCell (by simp <;> omega) _).setCell (by simp <;> omega) _
theorem max_any {a0 a1 : Value} {t : Ten} {w : World} (n : Int) (ha : Tens w a0 a1 t) :
    Calls Try.prog 13 #[.agg #[a0, a1], .int .i64 n] w fun e w' => ∃ x0 x1, e = .returned (.tuple #[.agg #[x0, x1], .int .i64 (fwE t n)]) ∧ OwnT w' w.heap.size x0 x1 (mxR t n) ∧ Below w.heap.size w w' := by
  by_cases he : fwE t n = 0
  · obtain ⟨hx, h1, h8, hd⟩ := fwE_zero he
    obtain ⟨k, rfl⟩ : ∃ k : Nat, n = k := ⟨n.toNat, by omega⟩
    obtain ⟨m, hm1, hm, _, _⟩ := few_mul hx (by omega) hd
    have e : mxM t k = maxs k m t.2 := by
      rw [mxM, Int.toNat_natCast, hm, Nat.mul_div_cancel _ (by omega)]
    rw [mxR, he, if_pos rfl, e]
    exact max_ok k m ha he hm1 hm
  · refine (max_bad n _ ha rfl he).mono ?_
    rintro e w' ⟨rfl, hb⟩
    refine ⟨.slice none 0 0, .slice none 0 0, rfl, ?_, hb⟩
    rw [mxR, if_neg he]
    exact OwnT.nil _ _
theorem max_to {a0 a1 : Value} {t : Ten} {w : World} (n x : Int) (u : Ten) (ha : Tens w a0 a1 t) (hx : fwE t n = x) (hu : mxR t n = u) :
    Calls Try.prog 13 #[.agg #[a0, a1], .int .i64 n] w fun e w' => ∃ x0 x1, e = .returned (.tuple #[.agg #[x0, x1], .int .i64 x]) ∧ OwnT w' w.heap.size x0 x1 u ∧ Below w.heap.size w w' := by
  subst hx hu
  exact max_any n ha
end Go.Proofs.Ytnphfepkjhlalaa
