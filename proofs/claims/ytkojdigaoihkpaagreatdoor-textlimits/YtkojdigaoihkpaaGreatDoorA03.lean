/- Part 3 of the texts that the theorem leans on. -/
import Derived.Test.YtkojdigaoihkpaaGreatDoorA02
section
namespace Go.Proofs.YtkojdigaoihkpaaGreatDoor
set_option linter.unusedVariables false
set_option linter.unusedSimpArgs false
set_option maxRecDepth 100000
open Go.RowKit

set_option maxRecDepth 100000 in
set_option maxHeartbeats 4000000 in
theorem max_ok {a0 a1 : Value} {t : Ten} {w : World} (n m : Nat) (ha : Tens w a0 a1 t) (hf : fwE t n = 0) (hm1 : 1 ≤ m) (hm : t.2.length = m * n) :
    Calls Tryz.prog 140 #[.agg #[a0, a1], .int .i64 n] w fun e w' => ∃ x0 x1, e = .returned (.tuple #[.agg #[x0, x1], .int .i64 0]) ∧ OwnT w' w.heap.size x0 x1 (lesD t.1 n, maxs n m t.2) ∧ Below w.heap.size w w' := by
  obtain ⟨hx, hn1, hn8, hd⟩ := fwE_zero hf
  have hl64 := tok_pos hx
  obtain ⟨aa, an, ac, rfl⟩ := ha.1.shape3
  have haold := ha.2.old hl64.1
  rcases ha.2.cases with ⟨e, _⟩ | ⟨ab, ao, acp, eA, _, hacp, _, HCA⟩
  · rw [e] at hl64; simp at hl64
  subst eA
  have hab : ab < w.heap.size := haold ab rfl
  obtain ⟨N, hN⟩ : ∃ N, t.2.length = N := ⟨_, rfl⟩
  have HCD : Hid (∀ i, i < N → w.cell? ⟨ab, ao + i, none⟩ = some (.int .i64 (t.2.getD i 0))) := fun i hi => Ints.cellD (n := 0) (c := 0) HCA i (by omega)
  have HN : Hid (t.2.length = N ∧ N = m * n) := ⟨hN, by omega⟩
  rw [hN] at hl64 hacp ha
  rw [hN]
  obtain ⟨hl1, hl64⟩ := hl64
  have HW : Hid (fwE t n = 0) := hf
  have hn1' : 1 ≤ n := by omega
  have hn8' : n ≤ 8 := by omega
  obtain ⟨U, hU⟩ : ∃ U, U = ((w.alloc (.cells #[.slice aa an ac, .slice (some ⟨ab, ao, none⟩) N acp] 156)).alloc (.cells #[.slice none 0 0, .slice none 0 0] 156)) := ⟨_, rfl⟩
  have hb : Below w.heap.size w U := by rw [hU]; exact ((Below.refl _ _).alloc (Nat.le_refl _) _).alloc (by simp) _
  have HA : Hid (Tens U (.slice aa an ac) (.slice (some ⟨ab, ao, none⟩) N acp) t) := ha.later hb
  have HB : Hid (Below w.heap.size w U) := hb
  have HBA : Hid (Box U w.heap.size (.slice aa an ac) (.slice (some ⟨ab, ao, none⟩) N acp)) := by show Box _ _ _ _; rw [hU]; exact (Box.new w _ _).alloc _
  have HBX : Hid (Box U (w.heap.size + 1) (.slice none 0 0) (.slice none 0 0)) := by
    show Box _ _ _ _
    have := Box.new (w.alloc (.cells #[.slice aa an ac, .slice (some ⟨ab, ao, none⟩) N acp] 156)) (.slice none 0 0) (.slice none 0 0)
    simp only [World.size_alloc] at this
    rw [hU]
    exact this
  have hs0 : w.heap.size + 1 + 1 ≤ U.heap.size := by rw [hU]; simp
  obtain ⟨i3, hi, hz0, hz1, hz2⟩ := info3
  have HI : Hid (Tryz.prog.info? 3 = some i3) := hi
  have HZ0 : Hid (i3.zero = some (.int .i64 0)) := hz0
  have HZ1 : Hid (i3.size = 1) := hz1
  have HZ2 : Hid (i3.bytes = 8) := hz2
  clear ha hb hf hx hd hN hm HCA haold hi hz0 hz1 hz2 hn1 hn8
  go_enter Tryz.func140, Tryz.ntmps140
  go_wp2_with fail
  rw [← hU]
  clear hU
  refine (few_any (n : Int) HA.out).mono ?_
  rw [HW.out]
  rintro e w2 ⟨v, rfl, ho, hb2⟩
  rw [fwD, HW.out, if_pos rfl] at ho
  obtain ⟨da, dn, dc, rfl⟩ := ho.ints.shape3
  have hs2 := hb2.size
  have HO2 : Hid (Own w2 (w.heap.size + 1 + 1) (.slice da dn dc) (lesD t.1 n)) := ho.mono hs0
  have HB2 : Hid (Below w.heap.size w w2) := Below.after HB.out hb2
  have HU2 : Hid (Below U.heap.size U w2) := hb2
  obtain ⟨V, hV⟩ : ∃ V, V = w2.alloc (.cells #[] 3) := ⟨_, rfl⟩
  have HBV : Hid (Below w2.heap.size w2 V) := by show Below _ _ _; rw [hV]; exact Below.push (Below.refl _ _) _
  have hsV : w2.heap.size < V.heap.size := by rw [hV]; simp
  have HOV : Hid (Own V w2.heap.size (.slice (some ⟨w2.heap.size, 0, none⟩) 0 0) []) := by
    show Own _ _ _ _
    rw [hV]
    exact ⟨World.ownsRow_made w2 #[] 0 (Nat.le_refl _) (Nat.zero_le _) rfl, by simp⟩
  have HAV : Hid (Ints V (.slice (some ⟨ab, ao, none⟩) N acp) t.2) := (HA.out.2.later HU2.out).later HBV.out
  have q0 : V.cell? ⟨w.heap.size, 1, none⟩ = _ := (Box.later HBV.out (HBA.out.later HU2.out)).c1
  rw [hV] at q0
  clear ho hb2
  go_wp2_with fail
  rw [← hV]
  clear hV q0
  refine (firsts_any n m HAV.out hn1' hn8' hm1 (by rw [HN.out.1]; exact HN.out.2) (by rw [HN.out.1]; exact hl64)).mono ?_
  rw [HN.out.1]
  rintro e w5 ⟨rfl, hb5⟩
  have hs5 := hb5.size
  have HV5 : Hid (Below w2.heap.size w2 (w5.iter (gT (gC n t.2) N) 0)) := Below.push (Below.after HBV.out hb5) _
  have HO5 : Hid (Own (w5.iter (gT (gC n t.2) N) 0) w2.heap.size (.slice (some ⟨w2.heap.size, 0, none⟩) 0 0) []) := (HOV.out.later hb5).later (Below.push (Below.refl _ _) _)
  clear hb5
  go_wp2
  go_loopw [8] (fun v w' => ∃ j : Nat, j ≤ N ∧ Own w' w2.heap.size v (maxs n (nxC n t.2 j) t.2) ∧ It w' w5.heap.size (gT (gC n t.2) N) j ∧ Below w2.heap.size w2 w') (fun _ w' => N - w'.iterPos w5.heap.size)
  case atStart => exact ⟨0, by omega, by rw [nxC_zero, maxs_zero]; exact HO5.out, It.new _ _ _, HV5.out⟩
  case round =>
    obtain ⟨j, hj, hO, hI, hbu⟩ := hrel
    have HP : Hid (wr.iterPos w5.heap.size = j) := hI.pos
    have HOR : Hid (Own wr w2.heap.size u8 (maxs n (nxC n t.2 j) t.2)) := hO
    have HIR : Hid (It wr w5.heap.size (gT (gC n t.2) N) j) := hI
    have HBU : Hid (Below w2.heap.size w2 wr) := hbu
    clear hO hI hbu
    by_cases hlt : j < N
    · have hnx := fun ty => It.g (g := gC n t.2) HIR.out hlt ty
      have HO1 : Hid (Own (wr.iterAt w5.heap.size (gT (gC n t.2) N) (j + 1)) w2.heap.size u8 (maxs n (nxC n t.2 j) t.2)) := Own.moved HOR.out HIR.out
      have HI1 : Hid (It (wr.iterAt w5.heap.size (gT (gC n t.2) N) (j + 1)) w5.heap.size (gT (gC n t.2) N) (j + 1)) := HIR.out.moved _
      have HU1 : Hid (Below w2.heap.size w2 (wr.iterAt w5.heap.size (gT (gC n t.2) N) (j + 1))) := Below.moved HBU.out (by omega) _ _
      obtain ⟨W1, hW1⟩ : ∃ W1, wr.iterAt w5.heap.size (gT (gC n t.2) N) (j + 1) = W1 := ⟨_, rfl⟩
      rw [hW1] at hnx HO1 HI1 HU1
      obtain ⟨g, hg⟩ : ∃ g, gC n t.2 j = g := ⟨_, rfl⟩
      rw [hg] at hnx
      cases g with
      | false =>
        have HS : Hid (nxC n t.2 (j + 1) = nxC n t.2 j) := nxC_off _ _ hn1' hg
        clear hW1 hg
        go_wp2_with (go_at_call 158; refine (opened_any false _).mono ?_; rintro e w' ⟨rfl, hw⟩; subst w')
        go_roundw
        case rel => exact ⟨j + 1, by omega, by rw [HS.out]; exact HO1.out, HI1.out, HU1.out⟩
        case measure => rw [HI1.out.pos, HP.out]; omega
      | true =>
        have HS : Hid (maxs n (nxC n t.2 (j + 1)) t.2 = maxs n (nxC n t.2 j) t.2 ++ [t.2.getD j 0]) := maxs_on _ _ hn1' hg
        have v1 := (Box.later HU1.out (HBA.out.later HU2.out)).c1
        have v2 : W1.cell? ⟨ab, ao + j, none⟩ = some (.int .i64 (t.2.getD j 0)) := cell_later (Below.after HB2.out HU1.out) (HCD.out j hlt)
        obtain ⟨y, hy⟩ : ∃ y, t.2.getD j 0 = y := ⟨_, rfl⟩
        rw [hy] at v2 HS
        have hk : (maxs n (nxC n t.2 j) t.2).length ≤ 65 := by
          rw [maxs_length]
          have := Nat.div_le_self j n
          unfold nxC
          split <;> omega
        obtain ⟨k, ek⟩ : ∃ k, (maxs n (nxC n t.2 j) t.2).length = k := ⟨_, rfl⟩
        have HRW : Hid (W1.ownsRow w2.heap.size 3 1 u8 k ((maxs n (nxC n t.2 j) t.2).map (Value.int .i64))) := by
          have := HO1.out.row
          rw [ek] at this
          exact this
        have HNE : Hid (∀ k, u8.ownBlock = some k → k ≠ w5.heap.size) := It.own HO1.out HI1.out
        obtain ⟨ua, uc, eu⟩ := HO1.out.ints.shape
        rw [ek] at eu hk
        subst eu
        have z4 : (0 : Int) ≤ (j : Int) := by omega
        have z5 : (j : Int) < N := by omega
        have hsW := HU1.out.size
        clear hW1 hg hy
        go_wp2_with (first
          | (go_at_call 158; refine (opened_any true _).mono ?_; rintro e w' ⟨rfl, hw⟩; subst w')
          | (at_builtin; refine wpList_append_own _ rfl _ _ 23 rfl w2.heap.size 3 i3 (.int .i64 0) 1 8 Tryz.underlying23 HI.out HZ0.out HZ1.out HZ2.out rfl (by decide) _ _ _ rfl (HRW.out.alloc _) ⟨W1.heap.size, 0, none⟩ 1 1 [.int .i64 y] rfl rfl ?c1 ?c2 ?c3 ?c4 ?c5 ?_))
        case c1 => exact cell_one_new _ _ _
        case c2 => intro u hu; simp at hu; subst hu; rfl
        case c3 => unfold maxLen; omega
        case c4 => omega
        case c5 => simp; omega
        intro v1 w1 ho hg _
        have HO3 : Hid (Own w1 w2.heap.size v1 (maxs n (nxC n t.2 (j + 1)) t.2)) := by
          show Own _ _ _ _
          rw [HS.out]
          refine ⟨?_, ?_⟩
          · rw [List.map_append, List.length_append, ek]
            exact ho
          · rw [List.length_append, ek]; simp; unfold big; omega
        have HB3 : Hid (Below w2.heap.size w2 w1) := (HU1.out.alloc (by omega) _).grown hg (by simp; omega) (fun q hq => (HRW.out.lt q hq).1)
        have HI3 : Hid (It w1 w5.heap.size (gT (gC n t.2) N) (j + 1)) := (hg.block w5.heap.size (by have := HI1.out.lt; simp; omega) (fun e => HNE.out _ e.symm rfl)).trans ((Below.heap_alloc W1 _ _ HI1.out.lt).trans HI1.out)
        clear ho hg
        go_wp2
        go_roundw
        case rel => exact ⟨j + 1, by omega, HO3.out, HI3.out, HB3.out⟩
        case measure => rw [HI3.out.pos, HP.out]; omega
    · have hj' : j = N := by omega
      subst hj'
      have hnd := fun ty => HIR.out.nd (gT_size _ _).symm ty
      have HOE : Hid (Own wr w2.heap.size u8 (maxs n m t.2)) := by
        have := HOR.out
        rw [HN.out.2, nxC_all _ _ hn1'] at this
        exact this
      obtain ⟨ua, un, uc, rfl⟩ := HOE.out.ints.shape3
      have hbx := Box.later HBU.out (HBX.out.later HU2.out)
      have l0 := hbx.c0
      have l1 := hbx.c1
      have m0 := hbx.f 0
      have m1 := hbx.f 1
      have HBS : Hid (Box _ _ _ _) := hbx.set (.slice da dn dc) (.slice ua un uc)
      have HBW : Hid (Below w.heap.size w wr) := Below.after HB2.out HBU.out
      clear hbx
      go_wp2
      have hr0 := HBS.out.c0
      have hr1 := HBS.out.c1
      refine bodyPost_ret (v := .tuple #[.agg #[.slice da dn dc, .slice ua un uc], .int .i64 0]) (by simp [results, Tryz.results140, go_sem, hr0, hr1]) rfl ⟨_, _, rfl, ?_, ?_⟩
      · have h1 : OwnT wr (w.heap.size + 1 + 1) (.slice da dn dc) (.slice ua un uc) (lesD t.1 n, maxs n m t.2) := ⟨HO2.out.later HBU.out, HOE.out.mono (by omega), fun k hk e => by
          have h2 := HO2.out.lt k hk
          have h3 := HOE.out.frm k e
          omega⟩
        exact (h1.set2 _ _ (by omega)).mono (by omega)
      · exact (HBW.out.setCell (by simp <;> omega) _).setCell (by simp <;> omega) _
theorem max_any {a0 a1 : Value} {t : Ten} {w : World} (n : Int) (ha : Tens w a0 a1 t) :
    Calls Tryz.prog 140 #[.agg #[a0, a1], .int .i64 n] w fun e w' => ∃ x0 x1, e = .returned (.tuple #[.agg #[x0, x1], .int .i64 (fwE t n)]) ∧ OwnT w' w.heap.size x0 x1 (mxR t n) ∧ Below w.heap.size w w' := by
  by_cases he : fwE t n = 0
  · obtain ⟨hx, h1, h8, hd⟩ := fwE_zero he
    obtain ⟨k, rfl⟩ : ∃ k : Nat, n = k := ⟨n.toNat, by omega⟩
    obtain ⟨m, hm1, hm, _, _⟩ := few_mul hx (by omega) hd
    have e : mxM t k = maxs k m t.2 := by
      rw [mxM, Int.toNat_natCast, hm, Nat.mul_div_cancel _ (by omega)]
    rw [mxR, he, if_pos rfl, e]
    exact max_ok k m ha he hm1 hm
  · refine (max_bad n _ ha rfl he).mono ?_
    rintro e w' ⟨rfl, hb⟩
    refine ⟨.slice none 0 0, .slice none 0 0, rfl, ?_, hb⟩
    rw [mxR, if_neg he]
    exact OwnT.nil _ _
theorem max_to {a0 a1 : Value} {t : Ten} {w : World} (n x : Int) (u : Ten) (ha : Tens w a0 a1 t) (hx : fwE t n = x) (hu : mxR t n = u) :
    Calls Tryz.prog 140 #[.agg #[a0, a1], .int .i64 n] w fun e w' => ∃ x0 x1, e = .returned (.tuple #[.agg #[x0, x1], .int .i64 x]) ∧ OwnT w' w.heap.size x0 x1 u ∧ Below w.heap.size w w' := by
  subst hx hu
  exact max_any n ha
def pkE (s t : Ten) (n : Int) : Int := if fwE s n = 1 ∨ tok t = false then 1 else if fwE s n = 0 ∧ t.1 = lesD s.1 n then 0 else 4
def pkR (s t : Ten) (n : Int) : Ten := if pkE s t n = 0 then (s.1, picks n.toNat s.2 t.2) else ([], [])
set_option maxRecDepth 100000 in
set_option maxHeartbeats 2000000 in
theorem pick_bad1 {a0 a1 b0 b1 : Value} {s t : Ten} {w : World} (n : Int) (ha : Tens w a0 a1 s) (ht : Tens w b0 b1 t) (hx : fwE s n = 1) :
    Calls Tryz.prog 142 #[.agg #[a0, a1], .agg #[b0, b1], .int .i64 n] w fun e w' => e = .returned (.tuple #[.agg #[.slice none 0 0, .slice none 0 0], .int .i64 1]) ∧ Below w.heap.size w w' := by
  obtain ⟨aa, an, ac, rfl⟩ := ha.1.shape3
  obtain ⟨ba, bn, bc, rfl⟩ := ha.2.shape3
  obtain ⟨ea, en, ec, rfl⟩ := ht.1.shape3
  obtain ⟨fa, fn, fc, rfl⟩ := ht.2.shape3
  obtain ⟨U, hU⟩ : ∃ U, U = ((((w.alloc (.cells #[(.slice aa an ac), (.slice ba bn bc)] 156)).alloc (.cells #[(.slice ea en ec), (.slice fa fn fc)] 156)).alloc (.cells #[.slice none 0 0, .slice none 0 0] 156)).alloc (.cells #[.slice none 0 0, .slice none 0 0] 156)) := ⟨_, rfl⟩
  have hb : Below w.heap.size w U := by rw [hU]; exact ((((Below.refl _ _).alloc (Nat.le_refl _) _).alloc (by simp) _).alloc (by simp; omega) _).alloc (by simp; omega) _
  have HA : Hid (Tens U (.slice aa an ac) (.slice ba bn bc) s) := ha.later hb
  have HT : Hid (Tens U (.slice ea en ec) (.slice fa fn fc) t) := ht.later hb
  have HB : Hid (Below w.heap.size w U) := hb
  have HBA : Hid (Box U w.heap.size (.slice aa an ac) (.slice ba bn bc)) := by show Box _ _ _ _; rw [hU]; exact (((Box.new w (.slice aa an ac) (.slice ba bn bc)).alloc _).alloc _).alloc _
  have HBB : Hid (Box U (w.heap.size + 1) (.slice ea en ec) (.slice fa fn fc)) := by
    show Box _ _ _ _
    have := ((Box.new (w.alloc (.cells #[(.slice aa an ac), (.slice ba bn bc)] 156)) (.slice ea en ec) (.slice fa fn fc)).alloc (.cells #[.slice none 0 0, .slice none 0 0] 156)).alloc (.cells #[.slice none 0 0, .slice none 0 0] 156)
    simp only [World.size_alloc] at this
    rw [hU]
    exact this
  have HBX : Hid (Box U (w.heap.size + 1 + 1) (.slice none 0 0) (.slice none 0 0)) := by
    show Box _ _ _ _
    have := (Box.new ((w.alloc (.cells #[(.slice aa an ac), (.slice ba bn bc)] 156)).alloc (.cells #[(.slice ea en ec), (.slice fa fn fc)] 156)) (.slice none 0 0) (.slice none 0 0)).alloc (.cells #[.slice none 0 0, .slice none 0 0] 156)
    simp only [World.size_alloc] at this
    rw [hU]
    exact this
  have HBT : Hid (Box U (w.heap.size + 1 + 1 + 1) (.slice none 0 0) (.slice none 0 0)) := by
    show Box _ _ _ _
    have := Box.new (((w.alloc (.cells #[(.slice aa an ac), (.slice ba bn bc)] 156)).alloc (.cells #[(.slice ea en ec), (.slice fa fn fc)] 156)).alloc (.cells #[.slice none 0 0, .slice none 0 0] 156)) (.slice none 0 0) (.slice none 0 0)
    simp only [World.size_alloc] at this
    rw [hU]
    exact this
  have hs0 : U.heap.size = w.heap.size + 1 + 1 + 1 + 1 := by rw [hU]; simp
  have k0 := HBA.out.c0
  have k1 := HBA.out.c1
  have HF : Hid (fwE s n = 1) := hx
  clear ha ht hb hx
  go_enter Tryz.func142, Tryz.ntmps142
  go_wp2_with fail
  refine wp_scope_jumps 0 (Jg 69 6 (w.heap.size + 1 + 1) w) (fun _ _ => 0) rfl ?_ ?_
  · go_wp2_with fail
    rw [← hU]
    clear hU
    refine (few_any n HA.out).mono ?_
    rw [HF.out]
    rintro e w2 ⟨v, rfl, ho, hb2⟩
    obtain ⟨da, dn, dc, rfl⟩ := ho.ints.shape3
    have hs2 := hb2.size
    have HD2 : Hid (Ints w2 (.slice da dn dc) (fwD s n)) := ho.ints
    have HA2 : Hid (Tens w2 _ _ t) := HT.out.later hb2
    have HU2 : Hid (Below U.heap.size U w2) := hb2
    have HB2 : Hid (Below w.heap.size w w2) := Below.after HB.out hb2
    have HBX2 : Hid (Box w2 (w.heap.size + 1 + 1) (.slice none 0 0) (.slice none 0 0)) := HBX.out.later hb2
    have q0 := (HBB.out.later hb2).c0
    have q1 := (HBB.out.later hb2).c1
    clear hb2 k0 k1 ho
    go_wp2
    go_step3
    exact ⟨rfl, rfl, rfl, rfl, HBX2.out, HB2.out⟩
  · rintro a w' ⟨hd, hs, h4, hbx, hbe⟩
    obtain ⟨G, hg, e⟩ := act69 a hd hs
    rw [hg] at h4
    subst e
    rw [h4]
    have l0 := hbx.c0
    have l1 := hbx.c1
    have m0 := hbx.f 0
    have m1 := hbx.f 1
    have HBS : Hid (Box _ _ _ _) := hbx.set (.slice none 0 0) (.slice none 0 0)
    have HBE : Hid (Below w.heap.size w w') := hbe
    clear hg hd hs hbx h4 hbe
    go_wp2
    rw [jump_ret]
    have hr0 := HBS.out.c0
    have hr1 := HBS.out.c1
    exact bodyPost_ret (v := .tuple #[.agg #[.slice none 0 0, .slice none 0 0], .int .i64 1]) (by simp [results, Tryz.results142, go_sem, hr0, hr1]) rfl ⟨rfl, (HBE.out.setCell (by simp; omega) _).setCell (by simp; omega) _⟩
set_option maxRecDepth 100000 in
set_option maxHeartbeats 2000000 in
theorem pick_bad2 {a0 a1 b0 b1 : Value} {s t : Ten} {w : World} (n : Int) (ha : Tens w a0 a1 s) (ht : Tens w b0 b1 t) (c : Int) (hx : fwE s n = c) (hc : c ≠ 1) (hy : tok t = false) :
    Calls Tryz.prog 142 #[.agg #[a0, a1], .agg #[b0, b1], .int .i64 n] w fun e w' => e = .returned (.tuple #[.agg #[.slice none 0 0, .slice none 0 0], .int .i64 1]) ∧ Below w.heap.size w w' := by
  obtain ⟨aa, an, ac, rfl⟩ := ha.1.shape3
  obtain ⟨ba, bn, bc, rfl⟩ := ha.2.shape3
  obtain ⟨ea, en, ec, rfl⟩ := ht.1.shape3
  obtain ⟨fa, fn, fc, rfl⟩ := ht.2.shape3
  obtain ⟨U, hU⟩ : ∃ U, U = ((((w.alloc (.cells #[(.slice aa an ac), (.slice ba bn bc)] 156)).alloc (.cells #[(.slice ea en ec), (.slice fa fn fc)] 156)).alloc (.cells #[.slice none 0 0, .slice none 0 0] 156)).alloc (.cells #[.slice none 0 0, .slice none 0 0] 156)) := ⟨_, rfl⟩
  have hb : Below w.heap.size w U := by rw [hU]; exact ((((Below.refl _ _).alloc (Nat.le_refl _) _).alloc (by simp) _).alloc (by simp; omega) _).alloc (by simp; omega) _
  have HA : Hid (Tens U (.slice aa an ac) (.slice ba bn bc) s) := ha.later hb
  have HT : Hid (Tens U (.slice ea en ec) (.slice fa fn fc) t) := ht.later hb
  have HB : Hid (Below w.heap.size w U) := hb
  have HBA : Hid (Box U w.heap.size (.slice aa an ac) (.slice ba bn bc)) := by show Box _ _ _ _; rw [hU]; exact (((Box.new w (.slice aa an ac) (.slice ba bn bc)).alloc _).alloc _).alloc _
  have HBB : Hid (Box U (w.heap.size + 1) (.slice ea en ec) (.slice fa fn fc)) := by
    show Box _ _ _ _
    have := ((Box.new (w.alloc (.cells #[(.slice aa an ac), (.slice ba bn bc)] 156)) (.slice ea en ec) (.slice fa fn fc)).alloc (.cells #[.slice none 0 0, .slice none 0 0] 156)).alloc (.cells #[.slice none 0 0, .slice none 0 0] 156)
    simp only [World.size_alloc] at this
    rw [hU]
    exact this
  have HBX : Hid (Box U (w.heap.size + 1 + 1) (.slice none 0 0) (.slice none 0 0)) := by
    show Box _ _ _ _
    have := (Box.new ((w.alloc (.cells #[(.slice aa an ac), (.slice ba bn bc)] 156)).alloc (.cells #[(.slice ea en ec), (.slice fa fn fc)] 156)) (.slice none 0 0) (.slice none 0 0)).alloc (.cells #[.slice none 0 0, .slice none 0 0] 156)
    simp only [World.size_alloc] at this
    rw [hU]
    exact this
  have HBT : Hid (Box U (w.heap.size + 1 + 1 + 1) (.slice none 0 0) (.slice none 0 0)) := by
    show Box _ _ _ _
    have := Box.new (((w.alloc (.cells #[(.slice aa an ac), (.slice ba bn bc)] 156)).alloc (.cells #[(.slice ea en ec), (.slice fa fn fc)] 156)).alloc (.cells #[.slice none 0 0, .slice none 0 0] 156)) (.slice none 0 0) (.slice none 0 0)
    simp only [World.size_alloc] at this
    rw [hU]
    exact this
  have hs0 : U.heap.size = w.heap.size + 1 + 1 + 1 + 1 := by rw [hU]; simp
  have k0 := HBA.out.c0
  have k1 := HBA.out.c1
  have HF : Hid (fwE s n = c) := hx
  have hc1 : (c == 1) = false := by simpa using hc
  have HK2 : Hid (tkE t = 1) := by show _ = _; simp [tkE, hy]
  clear ha ht hb hx hy
  go_enter Tryz.func142, Tryz.ntmps142
  go_wp2_with fail
  refine wp_scope_jumps 0 (Jg 69 6 (w.heap.size + 1 + 1) w) (fun _ _ => 0) rfl ?_ ?_
  · go_wp2_with fail
    rw [← hU]
    clear hU
    refine (few_any n HA.out).mono ?_
    rw [HF.out]
    rintro e w2 ⟨v, rfl, ho, hb2⟩
    obtain ⟨da, dn, dc, rfl⟩ := ho.ints.shape3
    have hs2 := hb2.size
    have HD2 : Hid (Ints w2 (.slice da dn dc) (fwD s n)) := ho.ints
    have HA2 : Hid (Tens w2 _ _ t) := HT.out.later hb2
    have HU2 : Hid (Below U.heap.size U w2) := hb2
    have HB2 : Hid (Below w.heap.size w w2) := Below.after HB.out hb2
    have HBX2 : Hid (Box w2 (w.heap.size + 1 + 1) (.slice none 0 0) (.slice none 0 0)) := HBX.out.later hb2
    have q0 := (HBB.out.later hb2).c0
    have q1 := (HBB.out.later hb2).c1
    clear hb2 k0 k1 ho
    go_wp2_with fail
    refine (tensor_to 1 HA2.out HK2.out).mono ?_
    rintro e w3 ⟨rfl, hb3⟩
    have HB3 : Hid (Below w.heap.size w w3) := Below.after HB2.out hb3
    have HBX3 : Hid (Box w3 (w.heap.size + 1 + 1) (.slice none 0 0) (.slice none 0 0)) := HBX2.out.later hb3
    clear hb3 q0 q1
    go_wp2
    go_step3
    exact ⟨rfl, rfl, rfl, rfl, HBX3.out, HB3.out⟩
  · rintro a w' ⟨hd, hs, h4, hbx, hbe⟩
    obtain ⟨G, hg, e⟩ := act69 a hd hs
    rw [hg] at h4
    subst e
    rw [h4]
    have l0 := hbx.c0
    have l1 := hbx.c1
    have m0 := hbx.f 0
    have m1 := hbx.f 1
    have HBS : Hid (Box _ _ _ _) := hbx.set (.slice none 0 0) (.slice none 0 0)
    have HBE : Hid (Below w.heap.size w w') := hbe
    clear hg hd hs hbx h4 hbe
    go_wp2
    rw [jump_ret]
    have hr0 := HBS.out.c0
    have hr1 := HBS.out.c1
    exact bodyPost_ret (v := .tuple #[.agg #[.slice none 0 0, .slice none 0 0], .int .i64 1]) (by simp [results, Tryz.results142, go_sem, hr0, hr1]) rfl ⟨rfl, (HBE.out.setCell (by simp; omega) _).setCell (by simp; omega) _⟩
set_option maxRecDepth 100000 in
set_option maxHeartbeats 2000000 in
theorem pick_four {a0 a1 b0 b1 : Value} {s t : Ten} {w : World} (n : Int) (ha : Tens w a0 a1 s) (ht : Tens w b0 b1 t) (c : Int) (hx : fwE s n = c) (hc : c ≠ 1) (hy : tok t = true) (h4 : smB t.1 (fwD s n) = false) :
    Calls Tryz.prog 142 #[.agg #[a0, a1], .agg #[b0, b1], .int .i64 n] w fun e w' => e = .returned (.tuple #[.agg #[.slice none 0 0, .slice none 0 0], .int .i64 4]) ∧ Below w.heap.size w w' := by
  obtain ⟨aa, an, ac, rfl⟩ := ha.1.shape3
  obtain ⟨ba, bn, bc, rfl⟩ := ha.2.shape3
  obtain ⟨ea, en, ec, rfl⟩ := ht.1.shape3
  obtain ⟨fa, fn, fc, rfl⟩ := ht.2.shape3
  obtain ⟨U, hU⟩ : ∃ U, U = ((((w.alloc (.cells #[(.slice aa an ac), (.slice ba bn bc)] 156)).alloc (.cells #[(.slice ea en ec), (.slice fa fn fc)] 156)).alloc (.cells #[.slice none 0 0, .slice none 0 0] 156)).alloc (.cells #[.slice none 0 0, .slice none 0 0] 156)) := ⟨_, rfl⟩
  have hb : Below w.heap.size w U := by rw [hU]; exact ((((Below.refl _ _).alloc (Nat.le_refl _) _).alloc (by simp) _).alloc (by simp; omega) _).alloc (by simp; omega) _
  have HA : Hid (Tens U (.slice aa an ac) (.slice ba bn bc) s) := ha.later hb
  have HT : Hid (Tens U (.slice ea en ec) (.slice fa fn fc) t) := ht.later hb
  have HB : Hid (Below w.heap.size w U) := hb
  have HBA : Hid (Box U w.heap.size (.slice aa an ac) (.slice ba bn bc)) := by show Box _ _ _ _; rw [hU]; exact (((Box.new w (.slice aa an ac) (.slice ba bn bc)).alloc _).alloc _).alloc _
  have HBB : Hid (Box U (w.heap.size + 1) (.slice ea en ec) (.slice fa fn fc)) := by
    show Box _ _ _ _
    have := ((Box.new (w.alloc (.cells #[(.slice aa an ac), (.slice ba bn bc)] 156)) (.slice ea en ec) (.slice fa fn fc)).alloc (.cells #[.slice none 0 0, .slice none 0 0] 156)).alloc (.cells #[.slice none 0 0, .slice none 0 0] 156)
    simp only [World.size_alloc] at this
    rw [hU]
    exact this
  have HBX : Hid (Box U (w.heap.size + 1 + 1) (.slice none 0 0) (.slice none 0 0)) := by
    show Box _ _ _ _
    have := (Box.new ((w.alloc (.cells #[(.slice aa an ac), (.slice ba bn bc)] 156)).alloc (.cells #[(.slice ea en ec), (.slice fa fn fc)] 156)) (.slice none 0 0) (.slice none 0 0)).alloc (.cells #[.slice none 0 0, .slice none 0 0] 156)
    simp only [World.size_alloc] at this
    rw [hU]
    exact this
  have HBT : Hid (Box U (w.heap.size + 1 + 1 + 1) (.slice none 0 0) (.slice none 0 0)) := by
    show Box _ _ _ _
    have := Box.new (((w.alloc (.cells #[(.slice aa an ac), (.slice ba bn bc)] 156)).alloc (.cells #[(.slice ea en ec), (.slice fa fn fc)] 156)).alloc (.cells #[.slice none 0 0, .slice none 0 0] 156)) (.slice none 0 0) (.slice none 0 0)
    simp only [World.size_alloc] at this
    rw [hU]
    exact this
  have hs0 : U.heap.size = w.heap.size + 1 + 1 + 1 + 1 := by rw [hU]; simp
  have k0 := HBA.out.c0
  have k1 := HBA.out.c1
  have HF : Hid (fwE s n = c) := hx
  have hc1 : (c == 1) = false := by simpa using hc
  have HK2 : Hid (tkE t = 0) := by show _ = _; simp [tkE, hy]
  have HSB : Hid (smB t.1 (fwD s n) = false) := h4
  clear ha ht hb hx hy h4
  go_enter Tryz.func142, Tryz.ntmps142
  go_wp2_with fail
  refine wp_scope_jumps 1 (Jg 69 6 (w.heap.size + 1 + 1) w) (fun _ _ => 0) rfl ?_ ?_
  · go_wp2_with fail
    rw [← hU]
    clear hU
    refine (few_any n HA.out).mono ?_
    rw [HF.out]
    rintro e w2 ⟨v, rfl, ho, hb2⟩
    obtain ⟨da, dn, dc, rfl⟩ := ho.ints.shape3
    have hs2 := hb2.size
    have HD2 : Hid (Ints w2 (.slice da dn dc) (fwD s n)) := ho.ints
    have HA2 : Hid (Tens w2 _ _ t) := HT.out.later hb2
    have HU2 : Hid (Below U.heap.size U w2) := hb2
    have HB2 : Hid (Below w.heap.size w w2) := Below.after HB.out hb2
    have HBX2 : Hid (Box w2 (w.heap.size + 1 + 1) (.slice none 0 0) (.slice none 0 0)) := HBX.out.later hb2
    have q0 := (HBB.out.later hb2).c0
    have q1 := (HBB.out.later hb2).c1
    clear hb2 k0 k1 ho
    go_wp2_with fail
    refine (tensor_to 0 HA2.out HK2.out).mono ?_
    rintro e w3 ⟨rfl, hb3⟩
    have HU3 : Hid (Below U.heap.size U w3) := Below.after HU2.out hb3
    have HB3 : Hid (Below w.heap.size w w3) := Below.after HB2.out hb3
    have HBX3 : Hid (Box w3 (w.heap.size + 1 + 1) (.slice none 0 0) (.slice none 0 0)) := HBX2.out.later hb3
    have HD3 : Hid (Ints w3 (.slice da dn dc) (fwD s n)) := HD2.out.later hb3
    clear hb3 q0 q1
    have q2 := (HBB.out.later HU3.out).c0
    go_wp2_with fail
    refine (same_to false _ (HT.out.later HU3.out).1 HD3.out HSB.out rfl).mono ?_
    rintro e w4 ⟨rfl, hw4⟩
    subst w4
    go_wp2
    go_step3
    exact ⟨rfl, rfl, rfl, rfl, HBX3.out, HB3.out⟩
  · rintro a w' ⟨hd, hs, h4, hbx, hbe⟩
    obtain ⟨G, hg, e⟩ := act69 a hd hs
    rw [hg] at h4
    subst e
    rw [h4]
    have l0 := hbx.c0
    have l1 := hbx.c1
    have m0 := hbx.f 0
    have m1 := hbx.f 1
    have HBS : Hid (Box _ _ _ _) := hbx.set (.slice none 0 0) (.slice none 0 0)
    have HBE : Hid (Below w.heap.size w w') := hbe
    clear hg hd hs hbx h4 hbe
    go_wp2
    rw [jump_ret]
    have hr0 := HBS.out.c0
    have hr1 := HBS.out.c1
    exact bodyPost_ret (v := .tuple #[.agg #[.slice none 0 0, .slice none 0 0], .int .i64 4]) (by simp [results, Tryz.results142, go_sem, hr0, hr1]) rfl ⟨rfl, (HBE.out.setCell (by simp; omega) _).setCell (by simp; omega) _⟩
set_option maxRecDepth 100000 in
set_option maxHeartbeats 4000000 in
theorem pick_ok {a0 a1 b0 b1 : Value} {s t : Ten} {w : World} (n m : Nat) (ha : Tens w a0 a1 s) (ht : Tens w b0 b1 t) (hf : fwE s n = 0) (hy : tok t = true) (hst : t.1 = lesD s.1 n) (hm1 : 1 ≤ m) (hm : s.2.length = m * n) (hok : okd (lesD s.1 n) = true) (hpm : (prd (lesD s.1 n)).toNat = m) :
    Calls Tryz.prog 142 #[.agg #[a0, a1], .agg #[b0, b1], .int .i64 n] w fun e w' => ∃ x0 x1, e = .returned (.tuple #[.agg #[x0, x1], .int .i64 0]) ∧ OwnT w' w.heap.size x0 x1 (s.1, picks n s.2 t.2) ∧ Below w.heap.size w w' := by
  obtain ⟨hx, hn1, hn8, hd⟩ := fwE_zero hf
  obtain ⟨hl1, hl64⟩ := tok_pos hx
  have hpr : (prd s.1).toNat = s.2.length := by have := tok_len hx; omega
  have htm : t.2.length = m := by have := tok_len hy; rw [hst] at this; omega
  obtain ⟨aa, ac, eaa⟩ := ha.1.shape
  have hd1 : 1 ≤ s.1.length := (okd_parts (tok_okd hx)).1
  subst eaa
  obtain ⟨ea, en, ec, rfl⟩ := ht.1.shape3
  have hbold := ht.2.old (by omega)
  have haold := ha.2.old hl1
  rcases ha.2.cases with ⟨e, _⟩ | ⟨ab, ao, acp, eA, _, hacp, _, HCA⟩
  · rw [e] at hl1; simp at hl1
  rcases ht.2.cases with ⟨e, _⟩ | ⟨bb, bo, bcp, eB, _, hbcp, _, HCB⟩
  · rw [e] at htm; simp at htm; omega
  subst eA eB
  have hbb : bb < w.heap.size := hbold bb rfl
  have hab : ab < w.heap.size := haold ab rfl
  obtain ⟨N, hN⟩ : ∃ N, s.2.length = N := ⟨_, rfl⟩
  obtain ⟨D, hD⟩ : ∃ D, s.1.length = D := ⟨_, rfl⟩
  rw [hN] at hl1 hl64 hpr hacp
  rw [htm] at hbcp
  have HCD : Hid (∀ i, i < m → w.cell? ⟨bb, bo + i, none⟩ = some (.int .i64 (t.2.getD i 0))) := fun i hi => Ints.cellD (n := 0) (c := 0) HCB i (by omega)
  have HPR : Hid ((prd s.1).toNat = N) := hpr
  have HNN : Hid (s.2.length = N ∧ t.2.length = m ∧ N = m * n) := ⟨hN, htm, by omega⟩
  have HOK : Hid (okd s.1 = true) := tok_okd hx
  have HF : Hid (fwE s n = 0) := hf
  have hn1' : 1 ≤ n := by omega
  have hn8' : n ≤ 8 := by omega
  have hm64 : m ≤ 64 := by
    have := Nat.le_mul_of_pos_right m hn1'
    omega
  rw [hN, hD] at ha
  rw [htm] at ht
  rw [hN, hD, htm]
  obtain ⟨U, hU⟩ : ∃ U, U = ((((w.alloc (.cells #[(.slice aa D ac), (.slice (some ⟨ab, ao, none⟩) N acp)] 156)).alloc (.cells #[(.slice ea en ec), (.slice (some ⟨bb, bo, none⟩) m bcp)] 156)).alloc (.cells #[.slice none 0 0, .slice none 0 0] 156)).alloc (.cells #[.slice none 0 0, .slice none 0 0] 156)) := ⟨_, rfl⟩
  have hb : Below w.heap.size w U := by rw [hU]; exact ((((Below.refl _ _).alloc (Nat.le_refl _) _).alloc (by simp) _).alloc (by simp; omega) _).alloc (by simp; omega) _
  have HA : Hid (Tens U (.slice aa D ac) (.slice (some ⟨ab, ao, none⟩) N acp) s) := ha.later hb
  have HT : Hid (Tens U (.slice ea en ec) (.slice (some ⟨bb, bo, none⟩) m bcp) t) := ht.later hb
  have HB : Hid (Below w.heap.size w U) := hb
  have HBA : Hid (Box U w.heap.size (.slice aa D ac) (.slice (some ⟨ab, ao, none⟩) N acp)) := by show Box _ _ _ _; rw [hU]; exact (((Box.new w (.slice aa D ac) (.slice (some ⟨ab, ao, none⟩) N acp)).alloc _).alloc _).alloc _
  have HBB : Hid (Box U (w.heap.size + 1) (.slice ea en ec) (.slice (some ⟨bb, bo, none⟩) m bcp)) := by
    show Box _ _ _ _
    have := ((Box.new (w.alloc (.cells #[(.slice aa D ac), (.slice (some ⟨ab, ao, none⟩) N acp)] 156)) (.slice ea en ec) (.slice (some ⟨bb, bo, none⟩) m bcp)).alloc (.cells #[.slice none 0 0, .slice none 0 0] 156)).alloc (.cells #[.slice none 0 0, .slice none 0 0] 156)
    simp only [World.size_alloc] at this
    rw [hU]
    exact this
  have HBX : Hid (Box U (w.heap.size + 1 + 1) (.slice none 0 0) (.slice none 0 0)) := by
    show Box _ _ _ _
    have := (Box.new ((w.alloc (.cells #[(.slice aa D ac), (.slice (some ⟨ab, ao, none⟩) N acp)] 156)).alloc (.cells #[(.slice ea en ec), (.slice (some ⟨bb, bo, none⟩) m bcp)] 156)) (.slice none 0 0) (.slice none 0 0)).alloc (.cells #[.slice none 0 0, .slice none 0 0] 156)
    simp only [World.size_alloc] at this
    rw [hU]
    exact this
  have HBT : Hid (Box U (w.heap.size + 1 + 1 + 1) (.slice none 0 0) (.slice none 0 0)) := by
    show Box _ _ _ _
    have := Box.new (((w.alloc (.cells #[(.slice aa D ac), (.slice (some ⟨ab, ao, none⟩) N acp)] 156)).alloc (.cells #[(.slice ea en ec), (.slice (some ⟨bb, bo, none⟩) m bcp)] 156)).alloc (.cells #[.slice none 0 0, .slice none 0 0] 156)) (.slice none 0 0) (.slice none 0 0)
    simp only [World.size_alloc] at this
    rw [hU]
    exact this
  have hs0 : U.heap.size = w.heap.size + 1 + 1 + 1 + 1 := by rw [hU]; simp
  have k0 := HBA.out.c0
  have k1 := HBA.out.c1
  have HK2 : Hid (tkE t = 0) := by show _ = _; simp [tkE, hy]
  have HSB : Hid (smB t.1 (fwD s n) = true) := by show _ = _; rw [fwD, hf, if_pos rfl, hst]; simp [smB, hok]
  have HLG : Hid (lyG (gC n s.2) (fun i => t.2.getD (nxC n s.2 i) 0) N N = picks n s.2 t.2) := by
    show _ = _
    have := lyG_pick n s.2 t.2 hn1'
    rw [hN] at this
    exact this
  have HD1 : Hid (s.1.length = D ∧ 1 ≤ D) := ⟨hD, by omega⟩
  clear ha ht hb hx hy hst hf hpr hN hD HCA HCB hbold haold hm htm hd hok hpm hn1 hn8
  go_enter Tryz.func142, Tryz.ntmps142
  go_wp2_with fail
  refine wp_scope_jumps 0 (fun _ _ => False) (fun _ _ => 0) rfl ?_ ?_
  · go_wp2_with fail
    rw [← hU]
    clear hU
    refine (few_any (n : Int) HA.out).mono ?_
    rw [HF.out]
    rintro e w2 ⟨v, rfl, ho, hb2⟩
    obtain ⟨da, dn, dc, rfl⟩ := ho.ints.shape3
    have hs2 := hb2.size
    have HD2 : Hid (Ints w2 (.slice da dn dc) (fwD s (n : Int))) := ho.ints
    have HA2 : Hid (Tens w2 _ _ t) := HT.out.later hb2
    have HU2 : Hid (Below U.heap.size U w2) := hb2
    have HB2 : Hid (Below w.heap.size w w2) := Below.after HB.out hb2
    have HBX2 : Hid (Box w2 (w.heap.size + 1 + 1) (.slice none 0 0) (.slice none 0 0)) := HBX.out.later hb2
    have q0 := (HBB.out.later hb2).c0
    have q1 := (HBB.out.later hb2).c1
    clear hb2 k0 k1 ho
    go_wp2_with fail
    refine (tensor_to 0 HA2.out HK2.out).mono ?_
    rintro e w3 ⟨rfl, hb3⟩
    have HU3 : Hid (Below U.heap.size U w3) := Below.after HU2.out hb3
    have HB3 : Hid (Below w.heap.size w w3) := Below.after HB2.out hb3
    have HD3 : Hid (Ints w3 (.slice da dn dc) (fwD s (n : Int))) := HD2.out.later hb3
    clear hb3 q0 q1
    have q2 := (HBB.out.later HU3.out).c0
    have q3 := (HBA.out.later HU3.out).c0
    go_wp2_with fail
    refine (same_to true _ (HT.out.later HU3.out).1 HD3.out HSB.out rfl).mono ?_
    rintro e w4 ⟨rfl, hw4⟩
    subst w4
    go_wp2_with fail
    refine (fill_own 0 (HA.out.later HU3.out).1 HOK.out).mono ?_
    rw [HPR.out]
    rintro e w6 ⟨x0, b1, rfl, ho, hbk, ⟨hb1l, hap⟩, hb6⟩
    clear q2 q3
    have hs3 := HU3.out.size
    have hs6 := hb6.size
    obtain ⟨xg, xc, ex, hxc, hxg1, hxg2⟩ := ho.form (by rw [HD1.out.1]; exact HD1.out.2)
    rw [HD1.out.1] at ex
    subst ex
    have hxb : xg ≠ b1 := hap xg rfl
    have hb1w := hbk.lt
    have HU6 : Hid (Below U.heap.size U w6) := Below.after HU3.out hb6
    obtain ⟨V, hV⟩ : ∃ V, V = (w6.setCell ⟨w.heap.size + 1 + 1 + 1, 0, none⟩ (.slice (some ⟨xg, 0, none⟩) D xc)).setCell ⟨w.heap.size + 1 + 1 + 1, 1, none⟩ (.slice (some ⟨b1, 0, none⟩) N N) := ⟨_, rfl⟩
    have hsV : w6.heap.size ≤ V.heap.size ∧ V.heap.size ≤ w6.heap.size := by rw [hV]; simp
    obtain ⟨hsV1, hsV2⟩ := hsV
    have HBAV : Hid (Box V w.heap.size (.slice aa D ac) (.slice (some ⟨ab, ao, none⟩) N acp)) := by show Box _ _ _ _; rw [hV]; exact (HBA.out.later HU6.out).other2 _ _ (by omega)
    have HBBV : Hid (Box V (w.heap.size + 1) (.slice ea en ec) (.slice (some ⟨bb, bo, none⟩) m bcp)) := by show Box _ _ _ _; rw [hV]; exact (HBB.out.later HU6.out).other2 _ _ (by omega)
    have HBXV : Hid (Box V (w.heap.size + 1 + 1) (.slice none 0 0) (.slice none 0 0)) := by show Box _ _ _ _; rw [hV]; exact (HBX.out.later HU6.out).other2 _ _ (by omega)
    have HBTV : Hid (Box V (w.heap.size + 1 + 1 + 1) (.slice (some ⟨xg, 0, none⟩) D xc) (.slice (some ⟨b1, 0, none⟩) N N)) := by show Box _ _ _ _; rw [hV]; exact (HBT.out.later HU6.out).set _ _
    have HBV : Hid (Below w.heap.size w V) := by show Below _ _ _; rw [hV]; exact ((Below.after HB.out HU6.out).setCell (by simp; omega) _).setCell (by simp; omega) _
    have HOV : Hid (Own V (w.heap.size + 1 + 1 + 1 + 1) (.slice (some ⟨xg, 0, none⟩) D xc) s.1) := by
      show Own _ _ _ _
      rw [hV]
      exact ((ho.mono (by omega)).setCell _ _ (fun k hk => by have := ho.frm k hk; simp; omega)).setCell _ _ (fun k hk => by have := ho.frm k hk; simp; omega)
    have HKV : Hid (Blk V b1 (lyG (gC n s.2) (fun i => t.2.getD (nxC n s.2 i) 0) N 0)) := by
      show Blk _ _ _
      rw [hV, lyG_zero]
      exact (hbk.setOther _ _ (by simp; omega)).setOther _ _ (by simp; omega)
    have HAV : Hid (Ints V (.slice (some ⟨ab, ao, none⟩) N acp) s.2) := by
      show Ints _ _ _
      rw [hV]
      exact ((HA.out.later HU6.out).2.setCell _ _ (fun k hk => by simp [Value.ownBlock] at hk; simp; omega)).setCell _ _ (fun k hk => by simp [Value.ownBlock] at hk; simp; omega)
    have z0 := (HBT.out.later HU6.out).c0
    have z1 := (HBT.out.later HU6.out).c1
    have z2 := (HBT.out.later HU6.out).f 0
    have z3 := (HBT.out.later HU6.out).f 1
    have z4 := HBAV.out.c1
    rw [hV] at z4
    clear ho hbk hap hb6
    go_wp2_with fail
    rw [← hV]
    clear hV z0 z1 z2 z3 z4
    refine (firsts_any n m HAV.out hn1' hn8' hm1 (by rw [HNN.out.1]; exact HNN.out.2.2) (by rw [HNN.out.1]; exact hl64)).mono ?_
    rw [HNN.out.1]
    rintro e w7 ⟨rfl, hb7⟩
    have HV7 : Hid (Below V.heap.size V w7) := hb7
    have hs7 := hb7.size
    clear hb7
    go_wp2
    have hsB := HBV.out.size
    go_loopw [10] (fun x w' => ∃ j : Nat, j ≤ N ∧ x = .int .i64 (nxC n s.2 j : Nat) ∧ Blk w' b1 (lyG (gC n s.2) (fun i => t.2.getD (nxC n s.2 i) 0) N j) ∧ It w' w7.heap.size (gT (gC n s.2) N) j ∧ Bu2 b1 w7.heap.size (w7.iter (gT (gC n s.2) N) 0) w') (fun _ w' => N - w'.iterPos w7.heap.size)
    case atStart => exact ⟨0, by omega, by rw [nxC_zero]; rfl, (HKV.out.later HV7.out (by omega)).alloc _, It.new _ _ _, Bu2.refl _ _ _⟩
    case round =>
      obtain ⟨j, hj, rfl, hB, hI, hbu⟩ := hrel
      have HP : Hid (wr.iterPos w7.heap.size = j) := hI.pos
      have hsr := hbu.size
      rw [iter_alloc, World.size_alloc] at hsr
      have HBU : Hid (Bu2 b1 w7.heap.size (w7.iter (gT (gC n s.2) N) 0) wr) := hbu
      have HKR : Hid (Blk wr b1 (lyG (gC n s.2) (fun i => t.2.getD (nxC n s.2 i) 0) N j)) := hB
      have HIR : Hid (It wr w7.heap.size (gT (gC n s.2) N) j) := hI
      clear hB hI hbu
      by_cases hlt : j < N
      · have hnx := fun ty => It.g (g := gC n s.2) HIR.out hlt ty
        have HK1 : Hid (Blk (wr.iterAt w7.heap.size (gT (gC n s.2) N) (j + 1)) b1 (lyG (gC n s.2) (fun i => t.2.getD (nxC n s.2 i) 0) N j)) := HKR.out.moved (by omega) _ _
        have HI1 : Hid (It (wr.iterAt w7.heap.size (gT (gC n s.2) N) (j + 1)) w7.heap.size (gT (gC n s.2) N) (j + 1)) := HIR.out.moved _
        have HU1 : Hid (Bu2 b1 w7.heap.size (w7.iter (gT (gC n s.2) N) 0) (wr.iterAt w7.heap.size (gT (gC n s.2) N) (j + 1))) := HBU.out.moved _ _
        obtain ⟨W1, hW1⟩ : ∃ W1, wr.iterAt w7.heap.size (gT (gC n s.2) N) (j + 1) = W1 := ⟨_, rfl⟩
        rw [hW1] at hnx HK1 HI1 HU1
        obtain ⟨g, hg⟩ : ∃ g, gC n s.2 j = g := ⟨_, rfl⟩
        rw [hg] at hnx
        cases g with
        | false =>
          have HS : Hid (lyG (gC n s.2) (fun i => t.2.getD (nxC n s.2 i) 0) N j = lyG (gC n s.2) (fun i => t.2.getD (nxC n s.2 i) 0) N (j + 1)) := lyG_off _ _ _ _ hg
          have HX : Hid (nxC n s.2 (j + 1) = nxC n s.2 j) := nxC_off _ _ hn1' hg
          clear hW1 hg
          go_wp2_with (go_at_call 158; refine (opened_any false _).mono ?_; rintro e w' ⟨rfl, hw⟩; subst w')
          go_roundw
          case rel => exact ⟨j + 1, by omega, by rw [HX.out], by rw [← HS.out]; exact HK1.out, HI1.out, HU1.out⟩
          case measure => rw [HI1.out.pos, HP.out]; omega
        | true =>
          have HS : Hid ((lyG (gC n s.2) (fun i => t.2.getD (nxC n s.2 i) 0) N j).set j (t.2.getD (nxC n s.2 j) 0) = lyG (gC n s.2) (fun i => t.2.getD (nxC n s.2 i) 0) N (j + 1)) := lyG_on _ _ _ _ hg
          obtain ⟨x1, x2, x3⟩ := nxC_on s.2 j hn1' hg
          clear x3
          have hxm : nxC n s.2 j < m := by
            rw [x2, Nat.div_lt_iff_lt_mul hn1', ← HNN.out.2.2]
            exact hlt
          have HX : Hid (nxC n s.2 (j + 1) = nxC n s.2 j + 1) := x1
          clear x1 x2
          have HXM : Hid (nxC n s.2 j < m) := hxm
          clear hW1 hxm hg
          go_wp2_with (go_at_call 158; refine (opened_any true _).mono ?_; rintro e w' ⟨rfl, hw⟩; subst w')
          generalize nxC n s.2 j = x at HX HXM HS ⊢
          have hxm := HXM.out
          have HBT1 : Hid (Box W1 (w.heap.size + 1 + 1 + 1) (.slice (some ⟨xg, 0, none⟩) D xc) (.slice (some ⟨b1, 0, none⟩) N N)) := HU1.out.box ((HBTV.out.later HV7.out).alloc _) (by omega) (by omega)
          have HBB1 : Hid (Box W1 (w.heap.size + 1) (.slice ea en ec) (.slice (some ⟨bb, bo, none⟩) m bcp)) := HU1.out.box ((HBBV.out.later HV7.out).alloc _) (by omega) (by omega)
          have v0 := HBT1.out.c1
          have v1 := HBB1.out.c1
          have v2 : W1.cell? ⟨bb, bo + x, none⟩ = some (.int .i64 (t.2.getD x 0)) := by
            refine (HU1.out.cell (p := ⟨bb, bo + x, none⟩) (by rw [iter_alloc, World.size_alloc]; simp; omega) (by simp; omega) (by simp; omega)).trans ?_
            exact (Below.cell (p := ⟨bb, bo + x, none⟩) (Below.push (Below.after HBV.out HV7.out) _) hbb).trans (HCD.out x hxm)
          obtain ⟨y, hy⟩ : ∃ y, t.2.getD x 0 = y := ⟨_, rfl⟩
          rw [hy] at v2 HS
          have hf := HK1.out.frozen j
          obtain ⟨xx, hc⟩ : ∃ x, W1.cell? ⟨b1, j, none⟩ = some x := ⟨_, HK1.out.cell j (by rw [lyG_length]; exact hlt)⟩
          have z4 : (0 : Int) ≤ (j : Int) := by omega
          have z5 : (j : Int) < N := by omega
          have z6 : (x : Int) < m := by omega
          have y0 : b1 ≠ w.heap.size + 1 + 1 + 1 := by omega
          have y1 : w.heap.size + 1 + 1 + 1 ≠ b1 := by omega
          have y2 : b1 ≠ w.heap.size + 1 := by omega
          have y3 : w.heap.size + 1 ≠ b1 := by omega
          have y4 : b1 ≠ bb := by omega
          have y5 : bb ≠ b1 := by omega
          clear hy
          go_region_held3 (fun w' => w'.cell? ⟨w.heap.size + 1 + 1 + 1, 1, none⟩ = some (.slice (some ⟨b1, 0, none⟩) N N) ∧ w'.cell? ⟨w.heap.size + 1, 1, none⟩ = some (.slice (some ⟨bb, bo, none⟩) m bcp) ∧ w'.cell? ⟨bb, bo + x, none⟩ = some (.int .i64 y)) (go_keep) (fail)
          go_wp2
          go_roundw
          case rel =>
            refine ⟨j + 1, by omega, by rw [HX.out]; go_num, ?_, ?_, ?_⟩
            · rw [← HS.out]
              exact HK1.out.set j y
            · exact HI1.out.set _ _ (by simp; omega)
            · exact (HU1.out.setCell (.int .i64 y)).drew
          case measure =>
            have hp := (HI1.out.set ⟨b1, j, none⟩ (.int .i64 y) (by simp; omega)).pos
            have hp2 : ((W1.setCell ⟨b1, j, none⟩ (.int .i64 y)).drew).iterPos w7.heap.size = j + 1 := hp
            rw [hp2, HP.out]
            omega
      · have hj' : j = N := by omega
        subst hj'
        have hnd := fun ty => HIR.out.nd (gT_size _ _).symm ty
        have hbt := HBU.out.box ((HBTV.out.later HV7.out).alloc _) (by omega) (by omega)
        have t0 := hbt.c0
        have t1 := hbt.c1
        have hbx := HBU.out.box ((HBXV.out.later HV7.out).alloc _) (by omega) (by omega)
        have l0 := hbx.c0
        have l1 := hbx.c1
        have m0 := hbx.f 0
        have m1 := hbx.f 1
        have HBS : Hid (Box _ _ _ _) := hbx.set (.slice (some ⟨xg, 0, none⟩) D xc) (.slice (some ⟨b1, 0, none⟩) j j)
        have HO5 : Hid (Own wr (w.heap.size + 1 + 1 + 1 + 1) (.slice (some ⟨xg, 0, none⟩) D xc) s.1) := ((HOV.out.later HV7.out).later (Below.push (Below.refl _ _) _)).at fun k hk => by
          simp [Value.ownBlock] at hk
          exact HBU.out.block k (by rw [iter_alloc, World.size_alloc]; omega) (by omega) (by omega)
        have HK5 : Hid (Own wr (w.heap.size + 1 + 1 + 1 + 1) (.slice (some ⟨b1, 0, none⟩) j j) (picks n s.2 t.2)) := by
          have h := HKR.out
          rw [HLG.out] at h
          have hz : (picks n s.2 t.2).length = j := by rw [picks_length, HNN.out.1]
          exact Blk.own h (by omega) hz.symm (by rw [hz]; unfold big; omega)
        have HBW : Hid (Below w.heap.size w wr) := HBU.out.below (Below.push (Below.after HBV.out HV7.out) _) (by omega) (by omega) (by rw [iter_alloc, World.size_alloc]; omega)
        clear hbx hbt
        go_wp2
        rw [jump_ret]
        have hr0 := HBS.out.c0
        have hr1 := HBS.out.c1
        refine bodyPost_ret (v := .tuple #[.agg #[.slice (some ⟨xg, 0, none⟩) D xc, .slice (some ⟨b1, 0, none⟩) j j], .int .i64 0]) (by simp [results, Tryz.results142, go_sem, hr0, hr1]) rfl ⟨_, _, rfl, ?_, ?_⟩
        · have h1 : OwnT wr (w.heap.size + 1 + 1 + 1 + 1) (.slice (some ⟨xg, 0, none⟩) D xc) (.slice (some ⟨b1, 0, none⟩) j j) (s.1, picks n s.2 t.2) := ⟨HO5.out, HK5.out, fun k hk e => by simp [Value.ownBlock] at hk e; omega⟩
          exact ((h1.setCell _ _ (by simp <;> omega)).setCell _ _ (by simp <;> omega)).mono (by omega)
        · exact (HBW.out.setCell (by simp <;> omega) _).setCell (by simp <;> omega) _
  · intro a w' h
    exact h.elim
theorem pick_any {a0 a1 b0 b1 : Value} {s t : Ten} {w : World} (n : Int) (ha : Tens w a0 a1 s) (ht : Tens w b0 b1 t) :
    Calls Tryz.prog 142 #[.agg #[a0, a1], .agg #[b0, b1], .int .i64 n] w fun e w' => ∃ x0 x1, e = .returned (.tuple #[.agg #[x0, x1], .int .i64 (pkE s t n)]) ∧ OwnT w' w.heap.size x0 x1 (pkR s t n) ∧ Below w.heap.size w w' := by
  have bad : ∀ c : Int, c ≠ 0 → pkE s t n = c → (Calls Tryz.prog 142 #[.agg #[a0, a1], .agg #[b0, b1], .int .i64 n] w fun e w' => e = .returned (.tuple #[.agg #[.slice none 0 0, .slice none 0 0], .int .i64 c]) ∧ Below w.heap.size w w') →
      Calls Tryz.prog 142 #[.agg #[a0, a1], .agg #[b0, b1], .int .i64 n] w fun e w' => ∃ x0 x1, e = .returned (.tuple #[.agg #[x0, x1], .int .i64 (pkE s t n)]) ∧ OwnT w' w.heap.size x0 x1 (pkR s t n) ∧ Below w.heap.size w w' := by
    intro c hc he h
    refine h.mono ?_
    rintro e w' ⟨rfl, hb⟩
    refine ⟨.slice none 0 0, .slice none 0 0, by rw [he], ?_, hb⟩
    rw [pkR, he, if_neg hc]
    exact OwnT.nil _ _
  by_cases h1 : fwE s n = 1
  · exact bad 1 (by decide) (by rw [pkE, if_pos (Or.inl h1)]) (pick_bad1 n ha ht h1)
  cases hy : tok t with
  | false => exact bad 1 (by decide) (by rw [pkE, if_pos (Or.inr hy)]) (pick_bad2 n ha ht _ rfl h1 hy)
  | true =>
    by_cases h2 : fwE s n = 0 ∧ t.1 = lesD s.1 n
    · have he : pkE s t n = 0 := by rw [pkE, if_neg (by simp [h1, hy]), if_pos h2]
      obtain ⟨hx, hn1, hn8, hd⟩ := fwE_zero h2.1
      obtain ⟨k, rfl⟩ : ∃ k : Nat, n = k := ⟨n.toNat, by omega⟩
      obtain ⟨m, hm1, hm, ho, hp⟩ := few_mul hx (by omega) hd
      rw [pkR, he, if_pos rfl, Int.toNat_natCast]
      exact pick_ok k m ha ht h2.1 hy h2.2 hm1 hm ho hp
    · have he : pkE s t n = 4 := by rw [pkE, if_neg (by simp [h1, hy]), if_neg h2]
      refine bad 4 (by decide) he (pick_four n ha ht _ rfl h1 hy ?_)
      unfold fwD
      by_cases h3 : fwE s n = 0
      · rw [if_pos h3]
        have h5 : (t.1 == lesD s.1 n) = false := beq_eq_false_iff_ne.2 fun e => h2 ⟨h3, e⟩
        rw [smB, h5, Bool.and_false, Bool.and_false]
      · rw [if_neg h3]
        simp [smB, okd]
theorem pick_to {a0 a1 b0 b1 : Value} {s t : Ten} {w : World} (n x : Int) (u : Ten) (ha : Tens w a0 a1 s) (ht : Tens w b0 b1 t) (hx : pkE s t n = x) (hu : pkR s t n = u) :
    Calls Tryz.prog 142 #[.agg #[a0, a1], .agg #[b0, b1], .int .i64 n] w fun e w' => ∃ x0 x1, e = .returned (.tuple #[.agg #[x0, x1], .int .i64 x]) ∧ OwnT w' w.heap.size x0 x1 u ∧ Below w.heap.size w w' := by
  subst hx hu
  exact pick_any n ha ht
set_option maxRecDepth 100000 in
set_option maxHeartbeats 1000000 in
theorem less_ok {v : Value} {d : List Int} {w : World} (n : Nat) (h : Ints w v d) (hd : okd d = true) (h1 : 1 ≤ n) (h8 : n ≤ 8) :
    Calls Tryz.prog 100 #[v, .int .i64 n] w fun e w' => ∃ x, e = .returned x ∧ Own w' w.heap.size x (lesD d n) ∧ Below w.heap.size w w' := by
  obtain ⟨k1, k3, _, _⟩ := okd_parts hd
  obtain ⟨l1, l8⟩ := lastD_bd hd
  have H : Hid (Ints w v d) := h
  obtain ⟨va, vn, vc, rfl⟩ := h.shape3
  obtain ⟨D, hD⟩ : ∃ D, d.length = D + 1 := ⟨d.length - 1, by omega⟩
  have HD : Hid (d.length = D + 1) := hD
  have HLD : Hid (lastD d = d.getD D 0) := by show _ = _; simp [lastD, hD]
  have HLE : Hid (lesD d n = d.set D (d.getD D 0 / n)) := by show _ = _; rw [lesD, HLD.out, hD]; rfl
  rw [HLD.out] at l1 l8
  rw [hD] at k3
  clear h hd hD k1
  go_enter Tryz.func100, Tryz.ntmps100
  go_wp2_with fail
  refine (copy_Own H.out).mono ?_
  rintro e w1 ⟨x, rfl, ho, hb⟩
  obtain ⟨g, cap, rfl, hcap, hg1, hg2⟩ := ho.form (by rw [HD.out]; omega)
  rw [HD.out] at hcap ho ⊢
  have HB : Hid (Below w.heap.size w w1) := hb
  obtain ⟨q, hq⟩ : ∃ q, d.getD D 0 = q := ⟨_, rfl⟩
  rw [hq] at l1 l8
  obtain ⟨r, hr⟩ : ∃ r, q / (n : Int) = r := ⟨_, rfl⟩
  have r1 : 0 ≤ r := by rw [← hr]; exact Int.ediv_nonneg (by omega) (by omega)
  have r2 : r ≤ 8 := by rw [← hr]; exact Int.le_trans (Int.ediv_le_self _ (by omega)) l8
  obtain ⟨hc, hf, hp⟩ := ho.put HD.out D (by omega) r
  rw [hq] at hc
  have HP : Hid (Own (w1.setCell ⟨g, D, none⟩ (.int .i64 r)) w.heap.size (.slice (some ⟨g, 0, none⟩) (D + 1) cap) (lesD d n)) := by
    show Own _ _ _ _
    rw [HLE.out, hq, hr]
    exact hp
  have hn0 : ¬ (n : Int) = 0 := by omega
  have hn00 : ¬ n = 0 := by omega
  have hw : IntKind.i64.wrap (((D + 1 : Nat) : Int) - 1) = (D : Int) := by rw [wrap_small _ (by omega) (by omega)]; omega
  have hqt : Int.tdiv q n = r := by rw [← hr]; exact Int.tdiv_eq_ediv_of_nonneg (by omega)
  have z0 : (0 : Int) ≤ (D : Int) := by omega
  have z1 : (D : Int) < ((D + 1 : Nat) : Int) := by omega
  have hwr : IntKind.i64.wrap r = r := wrap_small _ (by omega) (by omega)
  have hwq : IntKind.i64.wrap (q.tdiv n) = r := by rw [hqt]; exact hwr
  clear ho hb hp hq hr
  go_wp2
  go_ret
  exact ⟨_, rfl, HP.out, HB.out.setCell hg1 _⟩
set_option maxHeartbeats 400000 in
theorem rwider_any {v v' : Value} {a b : List Int} {w : World} (ha : Ints w v a) (hb : Ints w v' b) :
    Calls Tryz.prog 99 #[v, v'] w fun e w' => e = .returned (.bool (wid a b)) ∧ ∃ n, w' = w.drewN n := by
  by_cases hl : a.length = b.length
  · have HL : Hid (a.length = b.length) := hl
    rcases ha.cases with ⟨rfl, a1, c1, rfl⟩ | ⟨b1, o1, c1, rfl, h0, h1, h2, h3⟩
    · rcases hb.cases with ⟨rfl, a2, c2, rfl⟩ | ⟨b2, o2, c2, rfl, h0, h1, h2, h3⟩
      · clear ha hb hl HL
        go_enter Tryz.func99, Tryz.ntmps99
        go_wp2
        refine wp_loop_rounds 1 ?_
        rw [rounds_succ]
        go_wp2
        go_ret
        exact ⟨rfl, 0, rfl⟩
      · simp only [List.length_nil] at hl; omega
    · rcases hb.cases with ⟨rfl, a2, c2, rfl⟩ | ⟨b2, o2, c2, rfl, h0', h1', h2', h3'⟩
      · simp only [List.length_nil] at hl; omega
      · clear ha hb
        have hne : ((a.length : Int) != (b.length : Int)) = false := by simp [hl]
        unfold big at h2 h2'
        clear hl
        go_enter Tryz.func99, Tryz.ntmps99
        go_wp2
        go_loopw [5] (fun i w' => ∃ k m : Nat, k ≤ a.length ∧ i = .int .i64 k ∧ w' = w.drewN m ∧ Hid (∀ j (h1 : j < a.length) (h2 : j < b.length), j < k → widAt a[j] b[j] = true)) (fun i _ => a.length - (intOf i).toNat)
        case atStart => exact ⟨0, 0, Nat.zero_le _, rfl, rfl, fun j h1 h2 h3 => by omega⟩
        case round =>
          obtain ⟨k, m, hk, rfl, rfl, hpre⟩ := hrel
          by_cases hlt : k < a.length
          · have hlt' : k < b.length := by have := HL.out; omega
            have hx := h3.out k hlt
            have hy := h3'.out k hlt'
            by_cases he : a[k] = b[k]
            · have he' : (a[k] != b[k]) = false := by simp [he]
              have HE : Hid (widAt a[k] b[k] = true) := by show _ = _; simp [widAt, he]
              clear he
              go_wp2
              go_quiet (fail)
              go_wp2
              go_roundw
              case rel =>
                refine ⟨k + 1, m + nq, by omega, by go_num, rfl, fun j h1 h2 h3 => ?_⟩
                by_cases hj : j = k
                · subst hj; exact HE.out
                · exact hpre.out j h1 h2 (by omega)
              case measure => simp [intOf]; omega
            · have he' : (a[k] != b[k]) = true := by simp [he]
              by_cases h1 : a[k] = 1
              · have h1' : (a[k] != 1) = false := by simp [h1]
                have HE : Hid (widAt a[k] b[k] = true) := by show _ = _; simp [widAt, h1]
                clear he h1
                go_wp2
                go_quiet (fail)
                go_wp2
                go_roundw
                case rel =>
                  refine ⟨k + 1, m + nq, by omega, by go_num, rfl, fun j h1 h2 h3 => ?_⟩
                  by_cases hj : j = k
                  · subst hj; exact HE.out
                  · exact hpre.out j h1 h2 (by omega)
                case measure => simp [intOf]; omega
              · have h1' : (a[k] != 1) = true := by simp [h1]
                have HE : Hid (wid a b = false) := wid_bad k hlt hlt' (by simp [widAt, h1, he])
                clear he h1
                go_wp2
                go_quiet (fail)
                go_wp2
                go_ret
                exact ⟨by rw [HE.out]; rfl, m + nq, by rw [World.drewN_drewN]⟩
          · have hk' : k = a.length := by omega
            have HE : Hid (wid a b = true) := wid_ok HL.out fun j h1 h2 => hpre.out j h1 h2 (by omega)
            clear hk'
            go_wp2
            go_ret
            exact ⟨by rw [HE.out]; rfl, _, rfl⟩
  · have HE : Hid (wid a b = false) := wid_len hl
    have hne : ((a.length : Int) != (b.length : Int)) = true := by simp; omega
    rcases ha.cases with ⟨rfl, a1, c1, rfl⟩ | ⟨b1, o1, c1, rfl, h0, h1, h2, h3⟩
    · rcases hb.cases with ⟨rfl, a2, c2, rfl⟩ | ⟨b2, o2, c2, rfl, h0', h1', h2', h3'⟩
      · exact absurd rfl hl
      · clear ha hb hl
        go_enter Tryz.func99, Tryz.ntmps99
        go_wp2
        go_ret
        exact ⟨by rw [HE.out]; rfl, 0, rfl⟩
    · rcases hb.cases with ⟨rfl, a2, c2, rfl⟩ | ⟨b2, o2, c2, rfl, h0', h1', h2', h3'⟩
      · clear ha hb hl
        go_enter Tryz.func99, Tryz.ntmps99
        go_wp2
        go_ret
        exact ⟨by rw [HE.out]; rfl, 0, rfl⟩
      · clear ha hb hl
        go_enter Tryz.func99, Tryz.ntmps99
        go_wp2
        go_ret
        exact ⟨by rw [HE.out]; rfl, 0, rfl⟩
theorem rwider_bl {v v' : Value} {a b : List Int} {w : World} (x : Bool) (ha : Ints w v a) (hb : Ints w v' b) (hx : wid a b = x) :
    Calls Tryz.prog 99 #[v, v'] w fun e w' => e = .returned (.bool x) ∧ Below w.heap.size w w' := by
  subst hx
  refine (rwider_any ha hb).mono ?_
  rintro e w' ⟨rfl, n, rfl⟩
  exact ⟨rfl, Below.drewN (Below.refl _ _) _⟩
set_option maxRecDepth 100000 in
set_option maxHeartbeats 4000000 in
theorem infer_k1 {vd vl : Value} {d : List Int} {w : World} (n : Int) (hd : Ints w vd d) :
    Calls Tryz.prog 85 #[.int .i64 1, .int .i64 n, vd, vl] w fun e w' => ∃ x, e = .returned (.tuple #[x, .bool true]) ∧ Own w' w.heap.size x (d) ∧ Below w.heap.size w w' := by
  obtain ⟨da, dn, dc, rfl⟩ := hd.shape3
  have HD : Hid (Ints w (.slice da dn dc) d) := hd
  clear hd
  go_enter Tryz.func85, Tryz.ntmps85
  go_wp2_with fail
  refine (copy_Own HD.out).mono ?_
  rintro e w1 ⟨x, rfl, ho, hb⟩
  have HO : Hid (Own w1 w.heap.size x d) := ho
  have HB : Hid (Below w.heap.size w w1) := hb
  clear ho hb
  go_wp2
  go_ret2
  exact ⟨_, rfl, HO.out, HB.out⟩
set_option maxRecDepth 100000 in
set_option maxHeartbeats 4000000 in
theorem infer_k2 {vd vl : Value} {d : List Int} {w : World} (n : Int) (hd : Ints w vd d) :
    Calls Tryz.prog 85 #[.int .i64 2, .int .i64 n, vd, vl] w fun e w' => ∃ x, e = .returned (.tuple #[x, .bool true]) ∧ Own w' w.heap.size x (d) ∧ Below w.heap.size w w' := by
  obtain ⟨da, dn, dc, rfl⟩ := hd.shape3
  have HD : Hid (Ints w (.slice da dn dc) d) := hd
  clear hd
  go_enter Tryz.func85, Tryz.ntmps85
  go_wp2_with fail
  refine (copy_Own HD.out).mono ?_
  rintro e w1 ⟨x, rfl, ho, hb⟩
  have HO : Hid (Own w1 w.heap.size x d) := ho
  have HB : Hid (Below w.heap.size w w1) := hb
  clear ho hb
  go_wp2
  go_ret2
  exact ⟨_, rfl, HO.out, HB.out⟩
set_option maxRecDepth 100000 in
set_option maxHeartbeats 4000000 in
theorem infer_k3 {vd vl : Value} {d : List Int} {w : World} (n : Int) (hd : Ints w vd d) :
    Calls Tryz.prog 85 #[.int .i64 3, .int .i64 n, vd, vl] w fun e w' => ∃ x, e = .returned (.tuple #[x, .bool true]) ∧ Own w' w.heap.size x (d) ∧ Below w.heap.size w w' := by
  obtain ⟨da, dn, dc, rfl⟩ := hd.shape3
  have HD : Hid (Ints w (.slice da dn dc) d) := hd
  clear hd
  go_enter Tryz.func85, Tryz.ntmps85
  go_wp2_with fail
  refine (copy_Own HD.out).mono ?_
  rintro e w1 ⟨x, rfl, ho, hb⟩
  have HO : Hid (Own w1 w.heap.size x d) := ho
  have HB : Hid (Below w.heap.size w w1) := hb
  clear ho hb
  go_wp2
  go_ret2
  exact ⟨_, rfl, HO.out, HB.out⟩
set_option maxRecDepth 100000 in
set_option maxHeartbeats 4000000 in
theorem infer_k4 {vd a0 b0 : Value} {d0 d1 : List Int} {w : World} {P c : Nat} (n : Int) (hc : 2 ≤ c) (ha : Ints w a0 d0) (hb : Ints w b0 d1) (p0 : w.cell? ⟨P, 0, none⟩ = some a0) (p1 : w.cell? ⟨P, 1, none⟩ = some b0) (q : Bool) (hq : (d0 == d1) = q) :
    Calls Tryz.prog 85 #[.int .i64 4, .int .i64 n, vd, .slice (some ⟨P, 0, none⟩) 2 c] w fun e w' => ∃ x, e = .returned (.tuple #[x, .bool q]) ∧ Own w' w.heap.size x (d0) ∧ Below w.heap.size w w' := by
  obtain ⟨aa, an, ac, rfl⟩ := ha.shape3
  obtain ⟨ba, bn, bc, rfl⟩ := hb.shape3
  have HA : Hid (Ints w (.slice aa an ac) d0) := ha
  have HT : Hid (Ints w (.slice ba bn bc) d1) := hb
  have HQ : Hid ((d0 == d1) = q) := hq
  clear ha hb hq
  go_enter Tryz.func85, Tryz.ntmps85
  go_wp2_with fail
  go_region_held3 (fun w' => w'.cell? ⟨P, 0, none⟩ = some (.slice aa an ac) ∧ w'.cell? ⟨P, 1, none⟩ = some (.slice ba bn bc)) (go_keep)
    (first
      | (go_at_call 64; refine (copy_Own (d := d0) ?_).mono ?_; exact HA.out.later (Below.refl _ _).drew; rintro r w4 ⟨y, rfl, ho4, hb4⟩; have HB4 : Hid (Below w.heap.size w w4) := Below.after (Below.refl _ _).drew hb4; have HO4 : Hid (Own w4 w.heap.size y d0) := ho4; have a_0 := cell_later HB4.out p0; have a_1 := cell_later HB4.out p1; clear ho4 hb4)
      | (go_at_call 63; refine (eqn_to q (a := d0) (b := d1) ?_ ?_ HQ.out).mono ?_; exact HA.out.later HB4.out; exact HT.out.later HB4.out; rintro r w5 ⟨rfl, m5, e5⟩; have HB5 : Hid (Below w4.heap.size w4 w5) := (by show Below _ _ _; rw [e5]; exact Below.drewN (Below.refl _ _) _); have b_0 := cell_later (Below.after HB4.out HB5.out) p0; have b_1 := cell_later (Below.after HB4.out HB5.out) p1; clear e5))
  clear a_0 a_1 b_0 b_1 p0 p1
  go_wp2
  go_ret2
  exact ⟨_, rfl, HO4.out.later HB5.out, Below.after HB4.out HB5.out⟩
set_option maxRecDepth 100000 in
set_option maxHeartbeats 4000000 in
theorem infer_k5 {vd a0 b0 : Value} {d0 d1 : List Int} {w : World} {P c : Nat} (n : Int) (hc : 2 ≤ c) (ha : Ints w a0 d0) (hb : Ints w b0 d1) (p0 : w.cell? ⟨P, 0, none⟩ = some a0) (p1 : w.cell? ⟨P, 1, none⟩ = some b0) (q : Bool) (hq : (d0 == d1) = q) :
    Calls Tryz.prog 85 #[.int .i64 5, .int .i64 n, vd, .slice (some ⟨P, 0, none⟩) 2 c] w fun e w' => ∃ x, e = .returned (.tuple #[x, .bool q]) ∧ Own w' w.heap.size x (d0) ∧ Below w.heap.size w w' := by
  obtain ⟨aa, an, ac, rfl⟩ := ha.shape3
  obtain ⟨ba, bn, bc, rfl⟩ := hb.shape3
  have HA : Hid (Ints w (.slice aa an ac) d0) := ha
  have HT : Hid (Ints w (.slice ba bn bc) d1) := hb
  have HQ : Hid ((d0 == d1) = q) := hq
  clear ha hb hq
  go_enter Tryz.func85, Tryz.ntmps85
  go_wp2_with fail
  go_region_held3 (fun w' => w'.cell? ⟨P, 0, none⟩ = some (.slice aa an ac) ∧ w'.cell? ⟨P, 1, none⟩ = some (.slice ba bn bc)) (go_keep)
    (first
      | (go_at_call 64; refine (copy_Own (d := d0) ?_).mono ?_; exact HA.out.later (Below.refl _ _).drew; rintro r w4 ⟨y, rfl, ho4, hb4⟩; have HB4 : Hid (Below w.heap.size w w4) := Below.after (Below.refl _ _).drew hb4; have HO4 : Hid (Own w4 w.heap.size y d0) := ho4; have a_0 := cell_later HB4.out p0; have a_1 := cell_later HB4.out p1; clear ho4 hb4)
      | (go_at_call 63; refine (eqn_to q (a := d0) (b := d1) ?_ ?_ HQ.out).mono ?_; exact HA.out.later HB4.out; exact HT.out.later HB4.out; rintro r w5 ⟨rfl, m5, e5⟩; have HB5 : Hid (Below w4.heap.size w4 w5) := (by show Below _ _ _; rw [e5]; exact Below.drewN (Below.refl _ _) _); have b_0 := cell_later (Below.after HB4.out HB5.out) p0; have b_1 := cell_later (Below.after HB4.out HB5.out) p1; clear e5))
  clear a_0 a_1 b_0 b_1 p0 p1
  go_wp2
  go_ret2
  exact ⟨_, rfl, HO4.out.later HB5.out, Below.after HB4.out HB5.out⟩
end Go.Proofs.YtkojdigaoihkpaaGreatDoor

end
section
namespace Go.Proofs.YtkojdigaoihkpaaGreatDoor
set_option linter.unusedVariables false
set_option linter.unusedSimpArgs false
set_option maxRecDepth 100000
open Go.RowKit

set_option maxRecDepth 100000 in
set_option maxHeartbeats 4000000 in
theorem infer_k6 {vd a0 b0 : Value} {d0 d1 : List Int} {w : World} {P c : Nat} (n : Int) (hc : 2 ≤ c) (ha : Ints w a0 d0) (hb : Ints w b0 d1) (p0 : w.cell? ⟨P, 0, none⟩ = some a0) (p1 : w.cell? ⟨P, 1, none⟩ = some b0) (q : Bool) (hq : (d0 == d1) = q) :
    Calls Tryz.prog 85 #[.int .i64 6, .int .i64 n, vd, .slice (some ⟨P, 0, none⟩) 2 c] w fun e w' => ∃ x, e = .returned (.tuple #[x, .bool q]) ∧ Own w' w.heap.size x (d0) ∧ Below w.heap.size w w' := by
  obtain ⟨aa, an, ac, rfl⟩ := ha.shape3
  obtain ⟨ba, bn, bc, rfl⟩ := hb.shape3
  have HA : Hid (Ints w (.slice aa an ac) d0) := ha
  have HT : Hid (Ints w (.slice ba bn bc) d1) := hb
  have HQ : Hid ((d0 == d1) = q) := hq
  clear ha hb hq
  go_enter Tryz.func85, Tryz.ntmps85
  go_wp2_with fail
  go_region_held3 (fun w' => w'.cell? ⟨P, 0, none⟩ = some (.slice aa an ac) ∧ w'.cell? ⟨P, 1, none⟩ = some (.slice ba bn bc)) (go_keep)
    (first
      | (go_at_call 64; refine (copy_Own (d := d0) ?_).mono ?_; exact HA.out.later (Below.refl _ _).drew; rintro r w4 ⟨y, rfl, ho4, hb4⟩; have HB4 : Hid (Below w.heap.size w w4) := Below.after (Below.refl _ _).drew hb4; have HO4 : Hid (Own w4 w.heap.size y d0) := ho4; have a_0 := cell_later HB4.out p0; have a_1 := cell_later HB4.out p1; clear ho4 hb4)
      | (go_at_call 63; refine (eqn_to q (a := d0) (b := d1) ?_ ?_ HQ.out).mono ?_; exact HA.out.later HB4.out; exact HT.out.later HB4.out; rintro r w5 ⟨rfl, m5, e5⟩; have HB5 : Hid (Below w4.heap.size w4 w5) := (by show Below _ _ _; rw [e5]; exact Below.drewN (Below.refl _ _) _); have b_0 := cell_later (Below.after HB4.out HB5.out) p0; have b_1 := cell_later (Below.after HB4.out HB5.out) p1; clear e5))
  clear a_0 a_1 b_0 b_1 p0 p1
  go_wp2
  go_ret2
  exact ⟨_, rfl, HO4.out.later HB5.out, Below.after HB4.out HB5.out⟩
set_option maxRecDepth 100000 in
set_option maxHeartbeats 4000000 in
theorem infer_k16 {vd a0 b0 : Value} {d0 d1 : List Int} {w : World} {P c : Nat} (n : Int) (hc : 2 ≤ c) (ha : Ints w a0 d0) (hb : Ints w b0 d1) (p0 : w.cell? ⟨P, 0, none⟩ = some a0) (p1 : w.cell? ⟨P, 1, none⟩ = some b0) (q : Bool) (hq : (d0 == d1) = q) :
    Calls Tryz.prog 85 #[.int .i64 16, .int .i64 n, vd, .slice (some ⟨P, 0, none⟩) 2 c] w fun e w' => ∃ x, e = .returned (.tuple #[x, .bool q]) ∧ Own w' w.heap.size x (d0) ∧ Below w.heap.size w w' := by
  obtain ⟨aa, an, ac, rfl⟩ := ha.shape3
  obtain ⟨ba, bn, bc, rfl⟩ := hb.shape3
  have HA : Hid (Ints w (.slice aa an ac) d0) := ha
  have HT : Hid (Ints w (.slice ba bn bc) d1) := hb
  have HQ : Hid ((d0 == d1) = q) := hq
  clear ha hb hq
  go_enter Tryz.func85, Tryz.ntmps85
  go_wp2_with fail
  go_region_held3 (fun w' => w'.cell? ⟨P, 0, none⟩ = some (.slice aa an ac) ∧ w'.cell? ⟨P, 1, none⟩ = some (.slice ba bn bc)) (go_keep)
    (first
      | (go_at_call 64; refine (copy_Own (d := d0) ?_).mono ?_; exact HA.out.later (Below.refl _ _).drew; rintro r w4 ⟨y, rfl, ho4, hb4⟩; have HB4 : Hid (Below w.heap.size w w4) := Below.after (Below.refl _ _).drew hb4; have HO4 : Hid (Own w4 w.heap.size y d0) := ho4; have a_0 := cell_later HB4.out p0; have a_1 := cell_later HB4.out p1; clear ho4 hb4)
      | (go_at_call 63; refine (eqn_to q (a := d0) (b := d1) ?_ ?_ HQ.out).mono ?_; exact HA.out.later HB4.out; exact HT.out.later HB4.out; rintro r w5 ⟨rfl, m5, e5⟩; have HB5 : Hid (Below w4.heap.size w4 w5) := (by show Below _ _ _; rw [e5]; exact Below.drewN (Below.refl _ _) _); have b_0 := cell_later (Below.after HB4.out HB5.out) p0; have b_1 := cell_later (Below.after HB4.out HB5.out) p1; clear e5))
  clear a_0 a_1 b_0 b_1 p0 p1
  go_wp2
  go_ret2
  exact ⟨_, rfl, HO4.out.later HB5.out, Below.after HB4.out HB5.out⟩
set_option maxRecDepth 100000 in
set_option maxHeartbeats 4000000 in
theorem infer_k7 {vd a0 : Value} {d0 : List Int} {w : World} {P c : Nat} (n : Int) (hc : 1 ≤ c) (ha : Ints w a0 d0) (p0 : w.cell? ⟨P, 0, none⟩ = some a0) :
    Calls Tryz.prog 85 #[.int .i64 7, .int .i64 n, vd, .slice (some ⟨P, 0, none⟩) 1 c] w fun e w' => ∃ x, e = .returned (.tuple #[x, .bool true]) ∧ Own w' w.heap.size x (d0) ∧ Below w.heap.size w w' := by
  obtain ⟨aa, an, ac, rfl⟩ := ha.shape3
  have HA : Hid (Ints w (.slice aa an ac) d0) := ha
  clear ha
  go_enter Tryz.func85, Tryz.ntmps85
  go_wp2_with fail
  refine (copy_Own HA.out).mono ?_
  rintro e w1 ⟨x, rfl, ho, hb⟩
  have HO : Hid (Own w1 w.heap.size x d0) := ho
  have HB : Hid (Below w.heap.size w w1) := hb
  clear ho hb
  go_wp2
  go_ret2
  exact ⟨_, rfl, HO.out, HB.out⟩
set_option maxRecDepth 100000 in
set_option maxHeartbeats 4000000 in
theorem infer_k8 {vd a0 : Value} {d0 : List Int} {w : World} {P c : Nat} (n : Int) (hc : 1 ≤ c) (ha : Ints w a0 d0) (p0 : w.cell? ⟨P, 0, none⟩ = some a0) :
    Calls Tryz.prog 85 #[.int .i64 8, .int .i64 n, vd, .slice (some ⟨P, 0, none⟩) 1 c] w fun e w' => ∃ x, e = .returned (.tuple #[x, .bool true]) ∧ Own w' w.heap.size x (d0) ∧ Below w.heap.size w w' := by
  obtain ⟨aa, an, ac, rfl⟩ := ha.shape3
  have HA : Hid (Ints w (.slice aa an ac) d0) := ha
  clear ha
  go_enter Tryz.func85, Tryz.ntmps85
  go_wp2_with fail
  refine (copy_Own HA.out).mono ?_
  rintro e w1 ⟨x, rfl, ho, hb⟩
  have HO : Hid (Own w1 w.heap.size x d0) := ho
  have HB : Hid (Below w.heap.size w w1) := hb
  clear ho hb
  go_wp2
  go_ret2
  exact ⟨_, rfl, HO.out, HB.out⟩
set_option maxRecDepth 100000 in
set_option maxHeartbeats 4000000 in
theorem infer_k14 {vd a0 : Value} {d0 : List Int} {w : World} {P c : Nat} (n : Int) (hc : 1 ≤ c) (ha : Ints w a0 d0) (p0 : w.cell? ⟨P, 0, none⟩ = some a0) :
    Calls Tryz.prog 85 #[.int .i64 14, .int .i64 n, vd, .slice (some ⟨P, 0, none⟩) 1 c] w fun e w' => ∃ x, e = .returned (.tuple #[x, .bool true]) ∧ Own w' w.heap.size x (d0) ∧ Below w.heap.size w w' := by
  obtain ⟨aa, an, ac, rfl⟩ := ha.shape3
  have HA : Hid (Ints w (.slice aa an ac) d0) := ha
  clear ha
  go_enter Tryz.func85, Tryz.ntmps85
  go_wp2_with fail
  refine (copy_Own HA.out).mono ?_
  rintro e w1 ⟨x, rfl, ho, hb⟩
  have HO : Hid (Own w1 w.heap.size x d0) := ho
  have HB : Hid (Below w.heap.size w w1) := hb
  clear ho hb
  go_wp2
  go_ret2
  exact ⟨_, rfl, HO.out, HB.out⟩
theorem rcells_to {v : Value} {d : List Int} {w : World} (x : Int) (h : Ints w v d) (hok : okd d = true) (hx : prd d = x) :
    Calls Tryz.prog 43 #[v] w fun e w' => e = .returned (.int .i64 x) ∧ w = w' := by
  subst hx
  exact rcells_ok h hok
set_option maxRecDepth 100000 in
set_option maxHeartbeats 4000000 in
theorem infer_k11 {vd a0 : Value} {d d0 : List Int} {w : World} {P c : Nat} (n : Int) (q : Bool) (hc : 1 ≤ c) (hd : Ints w vd d) (ha : Ints w a0 d0) (p0 : w.cell? ⟨P, 0, none⟩ = some a0) (h0 : okd d0 = true) (h1 : okd d = true) (hq : (prd d == prd d0) = q) :
    Calls Tryz.prog 85 #[.int .i64 11, .int .i64 n, vd, .slice (some ⟨P, 0, none⟩) 1 c] w fun e w' => ∃ x, e = .returned (.tuple #[x, .bool q]) ∧ Own w' w.heap.size x (d) ∧ Below w.heap.size w w' := by
  obtain ⟨aa, an, ac, rfl⟩ := ha.shape3
  obtain ⟨da, dn, dc, rfl⟩ := hd.shape3
  have HA : Hid (Ints w (.slice aa an ac) d0) := ha
  have HD : Hid (Ints w (.slice da dn dc) d) := hd
  have H0 : Hid (okd d0 = true) := h0
  have H1 : Hid (okd d = true) := h1
  obtain ⟨x0, hx0⟩ : ∃ x, prd d0 = x := ⟨_, rfl⟩
  obtain ⟨x1, hx1⟩ : ∃ x, prd d = x := ⟨_, rfl⟩
  rw [hx0, hx1] at hq
  have HX : Hid (prd d0 = x0 ∧ prd d = x1) := ⟨hx0, hx1⟩
  clear ha hd h0 h1 hx0 hx1
  go_enter Tryz.func85, Tryz.ntmps85
  go_wp2_with fail
  go_region_held3 (fun w' => w'.cell? ⟨P, 0, none⟩ = some (.slice aa an ac)) (assumption)
    (first
      | (go_at_call 64; refine (copy_Own (d := d) ?_).mono ?_; exact HD.out.later (Below.refl _ _).drew; rintro r w4 ⟨y, rfl, ho4, hb4⟩; have HB4 : Hid (Below w.heap.size w w4) := Below.after (Below.refl _ _).drew hb4; have HO4 : Hid (Own w4 w.heap.size y d) := ho4; have a_0 := cell_later HB4.out p0; clear ho4 hb4)
      | (go_at_call_of 43 (Value.slice da dn dc); refine (rcells_to x1 (d := d) ?_ H1.out HX.out.2).mono ?_; exact HD.out.later HB4.out; rintro r w5 ⟨rfl, rfl⟩)
      | (go_at_call_of 43 (Value.slice aa an ac); refine (rcells_to x0 (d := d0) ?_ H0.out HX.out.1).mono ?_; exact HA.out.later HB4.out; rintro r w5 ⟨rfl, rfl⟩))
  clear a_0 p0
  go_wp2
  go_ret2
  exact ⟨_, by rw [← hq]; rfl, HO4.out, HB4.out⟩
set_option maxRecDepth 100000 in
set_option maxHeartbeats 4000000 in
theorem infer_k12 {vd a0 : Value} {d d0 : List Int} {w : World} {P c : Nat} (n : Int) (q : Bool) (hc : 1 ≤ c) (hd : Ints w vd d) (ha : Ints w a0 d0) (p0 : w.cell? ⟨P, 0, none⟩ = some a0) (hq : wid d0 d = q) :
    Calls Tryz.prog 85 #[.int .i64 12, .int .i64 n, vd, .slice (some ⟨P, 0, none⟩) 1 c] w fun e w' => ∃ x, e = .returned (.tuple #[x, .bool q]) ∧ Own w' w.heap.size x (d) ∧ Below w.heap.size w w' := by
  obtain ⟨aa, an, ac, rfl⟩ := ha.shape3
  obtain ⟨da, dn, dc, rfl⟩ := hd.shape3
  have HA : Hid (Ints w (.slice aa an ac) d0) := ha
  have HD : Hid (Ints w (.slice da dn dc) d) := hd
  have HQ : Hid (wid d0 d = q) := hq
  clear ha hd hq
  go_enter Tryz.func85, Tryz.ntmps85
  go_wp2_with fail
  go_region_held3 (fun w' => w'.cell? ⟨P, 0, none⟩ = some (.slice aa an ac)) (assumption)
    (first
      | (go_at_call 64; refine (copy_Own (d := d) ?_).mono ?_; exact HD.out.later (Below.refl _ _).drew; rintro r w4 ⟨y, rfl, ho4, hb4⟩; have HB4 : Hid (Below w.heap.size w w4) := Below.after (Below.refl _ _).drew hb4; have HO4 : Hid (Own w4 w.heap.size y d) := ho4; have a_0 := cell_later HB4.out p0; clear ho4 hb4)
      | (go_at_call 99; refine (rwider_bl q (a := d0) (b := d) ?_ ?_ HQ.out).mono ?_; exact HA.out.later HB4.out; exact HD.out.later HB4.out; rintro r w5 ⟨rfl, hb5⟩; have HB5 : Hid (Below w4.heap.size w4 w5) := hb5; have b_0 := cell_later (Below.after HB4.out HB5.out) p0; clear hb5))
  clear a_0 b_0 p0
  go_wp2
  go_ret2
  exact ⟨_, rfl, HO4.out.later HB5.out, Below.after HB4.out HB5.out⟩
set_option maxRecDepth 100000 in
set_option maxHeartbeats 4000000 in
theorem infer_k13 {vd a0 : Value} {d d0 : List Int} {w : World} {P c : Nat} (n : Int) (q : Bool) (hc : 1 ≤ c) (hd : Ints w vd d) (ha : Ints w a0 d0) (p0 : w.cell? ⟨P, 0, none⟩ = some a0) (hq : wid d d0 = q) :
    Calls Tryz.prog 85 #[.int .i64 13, .int .i64 n, vd, .slice (some ⟨P, 0, none⟩) 1 c] w fun e w' => ∃ x, e = .returned (.tuple #[x, .bool q]) ∧ Own w' w.heap.size x (d) ∧ Below w.heap.size w w' := by
  obtain ⟨aa, an, ac, rfl⟩ := ha.shape3
  obtain ⟨da, dn, dc, rfl⟩ := hd.shape3
  have HA : Hid (Ints w (.slice aa an ac) d0) := ha
  have HD : Hid (Ints w (.slice da dn dc) d) := hd
  have HQ : Hid (wid d d0 = q) := hq
  clear ha hd hq
  go_enter Tryz.func85, Tryz.ntmps85
  go_wp2_with fail
  go_region_held3 (fun w' => w'.cell? ⟨P, 0, none⟩ = some (.slice aa an ac)) (assumption)
    (first
      | (go_at_call 64; refine (copy_Own (d := d) ?_).mono ?_; exact HD.out.later (Below.refl _ _).drew; rintro r w4 ⟨y, rfl, ho4, hb4⟩; have HB4 : Hid (Below w.heap.size w w4) := Below.after (Below.refl _ _).drew hb4; have HO4 : Hid (Own w4 w.heap.size y d) := ho4; have a_0 := cell_later HB4.out p0; clear ho4 hb4)
      | (go_at_call 99; refine (rwider_bl q (a := d) (b := d0) ?_ ?_ HQ.out).mono ?_; exact HD.out.later HB4.out; exact HA.out.later HB4.out; rintro r w5 ⟨rfl, hb5⟩; have HB5 : Hid (Below w4.heap.size w4 w5) := hb5; have b_0 := cell_later (Below.after HB4.out HB5.out) p0; clear hb5))
  clear a_0 b_0 p0
  go_wp2
  go_ret2
  exact ⟨_, rfl, HO4.out.later HB5.out, Below.after HB4.out HB5.out⟩
theorem Own.getD {w : World} {v : Value} {d : List Int} {n : Nat} (h : Ints w v d) (hn : d.length = n) (h1 : 1 ≤ n) :
    ∃ b o c, v = .slice (some ⟨b, o, none⟩) n c ∧ n ≤ c ∧ ∀ k, k < n → w.cell? ⟨b, o + k, none⟩ = some (.int .i64 (d.getD k 0)) := by
  subst hn
  rcases h.cases with ⟨e, _⟩ | ⟨b, o, c, e, _, hc, _, HC⟩
  · rw [e] at h1; simp at h1
  · exact ⟨b, o, c, e, hc, fun k hk => Ints.cellD (n := 0) (c := 0) HC k hk⟩
/-- Dims that may be: the last one in memory. -/
theorem last_ofD {w : World} {a0 : Value} {d : List Int} (ha : Ints w a0 d) (ho : okd d = true) :
    ∃ b off c E L : Nat, a0 = .slice (some ⟨b, off, none⟩) (E + 1) c ∧ d.length = E + 1 ∧ lastD d = (L : Int) ∧ 1 ≤ L ∧ L ≤ 8 ∧ E + 1 ≤ c ∧ E ≤ 2 ∧ b < w.heap.size ∧ w.cell? ⟨b, off + E, none⟩ = some (.int .i64 L) := by
  obtain ⟨h1, h3, _, _⟩ := okd_parts ho
  obtain ⟨l1, l8⟩ := lastD_bd ho
  have hold := ha.old h1
  rcases ha.cases with ⟨e, _⟩ | ⟨b, off, c, rfl, h0, hc, hb, HC⟩
  · rw [e] at h1; simp at h1
  obtain ⟨E, hE⟩ : ∃ E, d.length = E + 1 := ⟨d.length - 1, by omega⟩
  refine ⟨b, off, c, E, (lastD d).toNat, by rw [hE], hE, by omega, by omega, by omega, by omega, by omega, hold b rfl, ?_⟩
  have := Ints.cellD (n := 0) (c := 0) HC E (by omega)
  rw [this]
  congr 2
  have : lastD d = d.getD E 0 := by rw [lastD, hE]; rfl
  omega
set_option maxRecDepth 100000 in
set_option maxHeartbeats 4000000 in
theorem infer_k15_four {vd a0 b0 : Value} {d0 d1 : List Int} {w : World} {P c : Nat} (n : Nat) (hc : 1 ≤ c) (ha : Ints w a0 d0) (hx : okd d0 = true) (h1 : 1 ≤ n) (h8 : n ≤ 8) (p0 : w.cell? ⟨P, 0, none⟩ = some a0) (hd : ¬ lastD d0 % n = 0) :
    Calls Tryz.prog 85 #[.int .i64 15, .int .i64 n, vd, .slice (some ⟨P, 0, none⟩) 1 c] w fun e w' => ∃ u, e = .returned (.tuple #[u, .bool false]) ∧ Own w' w.heap.size u ([]) ∧ Below w.heap.size w w' := by
  obtain ⟨b, off, cc, E, L, rfl, hE, hL, l1, l8, hcc, hE2, hbw, hcell⟩ := last_ofD ha hx
  rw [hL] at hd
  have n0 : ¬ n = 0 := by omega
  have n00 : ¬ (n : Int) = 0 := by omega
  have hwE : IntKind.i64.wrap (((E + 1 : Nat) : Int) - 1) = (E : Int) := by rw [wrap_small _ (by omega) (by omega)]; omega
  have hwE2 : IntKind.i64.wrap ((E : Int) + 1 - 1) = (E : Int) := by rw [wrap_small _ (by omega) (by omega)]; omega
  obtain ⟨r, hr⟩ : ∃ r, L % n = r := ⟨_, rfl⟩
  have hrn : r < n := by rw [← hr]; exact Nat.mod_lt _ (by omega)
  have f0 : (L : Int).tmod (n : Int) = (r : Int) := by rw [Int.tmod_eq_emod_of_nonneg (by omega), ← hr]; simp
  have f1 : (L : Int) % (n : Int) = (r : Int) := by rw [← hr]; simp
  have f2 : IntKind.i64.wrap (r : Int) = (r : Int) := wrap_small _ (by omega) (by omega)
  have f4 : IntKind.i64.wrap ((L : Int).tmod (n : Int)) = (r : Int) := by rw [f0, f2]
  rw [f1] at hd
  have z0 : (0 : Int) ≤ (E : Int) := by omega
  have z1 : (E : Int) < ((E + 1 : Nat) : Int) := by omega
  have z2 : (E : Int) < (E : Int) + 1 := by omega
  obtain rfl | hr0 := Nat.eq_zero_or_pos r
  · exact absurd rfl hd
  have g1 : ((r : Int) == 0) = false := by simp; omega
  have g2 : ((r : Int) != 0) = true := by simp; omega
  have g3 : decide ((r : Int) = 0) = false := by simp; omega
  have g4 : ¬ (r : Int) = 0 := by omega
  clear ha hx hE hL hr hd
  go_enter Tryz.func85, Tryz.ntmps85
  go_wp2_with fail
  go_quiet (fail)
  go_wp2
  go_ret2
  exact ⟨_, rfl, Own.nil _ _, Below.drewN (Below.refl _ _) _⟩
set_option maxRecDepth 100000 in
set_option maxHeartbeats 4000000 in
theorem infer_k15_ok {vd a0 b0 : Value} {d0 d1 : List Int} {w : World} {P c : Nat} (n : Nat) (hc : 1 ≤ c) (ha : Ints w a0 d0) (hx : okd d0 = true) (h1 : 1 ≤ n) (h8 : n ≤ 8) (p0 : w.cell? ⟨P, 0, none⟩ = some a0) (hd : lastD d0 % n = 0) :
    Calls Tryz.prog 85 #[.int .i64 15, .int .i64 n, vd, .slice (some ⟨P, 0, none⟩) 1 c] w fun e w' => ∃ u, e = .returned (.tuple #[u, .bool true]) ∧ Own w' w.heap.size u (lesD d0 n) ∧ Below w.heap.size w w' := by
  obtain ⟨b, off, cc, E, L, rfl, hE, hL, l1, l8, hcc, hE2, hbw, hcell⟩ := last_ofD ha hx
  rw [hL] at hd
  have n0 : ¬ n = 0 := by omega
  have n00 : ¬ (n : Int) = 0 := by omega
  have hwE : IntKind.i64.wrap (((E + 1 : Nat) : Int) - 1) = (E : Int) := by rw [wrap_small _ (by omega) (by omega)]; omega
  have hwE2 : IntKind.i64.wrap ((E : Int) + 1 - 1) = (E : Int) := by rw [wrap_small _ (by omega) (by omega)]; omega
  obtain ⟨r, hr⟩ : ∃ r, L % n = r := ⟨_, rfl⟩
  have hrn : r < n := by rw [← hr]; exact Nat.mod_lt _ (by omega)
  have f0 : (L : Int).tmod (n : Int) = (r : Int) := by rw [Int.tmod_eq_emod_of_nonneg (by omega), ← hr]; simp
  have f1 : (L : Int) % (n : Int) = (r : Int) := by rw [← hr]; simp
  have f2 : IntKind.i64.wrap (r : Int) = (r : Int) := wrap_small _ (by omega) (by omega)
  have f4 : IntKind.i64.wrap ((L : Int).tmod (n : Int)) = (r : Int) := by rw [f0, f2]
  rw [f1] at hd
  have z0 : (0 : Int) ≤ (E : Int) := by omega
  have z1 : (E : Int) < ((E + 1 : Nat) : Int) := by omega
  have z2 : (E : Int) < (E : Int) + 1 := by omega
  have hr0 : r = 0 := by omega
  subst hr0
  have HA : Hid (Ints w (.slice (some ⟨b, off, none⟩) (E + 1) cc) d0) := ha
  have HOK : Hid (okd d0 = true) := hx
  have HP : Hid (w.cell? ⟨P, 0, none⟩ = some (.slice (some ⟨b, off, none⟩) (E + 1) cc)) := p0
  clear ha hx hE hL hr hd
  go_enter Tryz.func85, Tryz.ntmps85
  go_wp2_with fail
  go_quiet (fail)
  have hB : Below w.heap.size w (w.drewN nq) := Below.drewN (Below.refl _ _) _
  generalize w.drewN nq = W at hB ⊢
  have HB : Hid (Below w.heap.size w W) := hB
  have q0 := cell_later hB HP.out
  clear hB p0 hcell
  go_wp2_with fail
  refine (less_ok n (HA.out.later HB.out) HOK.out h1 h8).mono ?_
  rintro e w2 ⟨x, rfl, ho, hb2⟩
  obtain ⟨la, ln, lc, rfl⟩ := ho.ints.shape3
  have HL : Hid (Own w2 W.heap.size (.slice la ln lc) (lesD d0 n)) := ho
  have HB2 : Hid (Below w.heap.size w w2) := Below.after HB.out hb2
  have hsW := HB.out.size
  clear ho hb2 q0
  go_wp2
  go_ret2
  exact ⟨_, rfl, HL.out.mono hsW, HB2.out⟩
set_option maxRecDepth 100000 in
set_option maxHeartbeats 4000000 in
theorem infer_k17_four {vd a0 b0 : Value} {d0 d1 : List Int} {w : World} {P c : Nat} (n : Nat) (hc : 2 ≤ c) (ha : Ints w a0 d0) (hx : okd d0 = true) (h1 : 1 ≤ n) (h8 : n ≤ 8) (p0 : w.cell? ⟨P, 0, none⟩ = some a0) (ht : Ints w b0 d1) (p1 : w.cell? ⟨P, 1, none⟩ = some b0) (hd : ¬ lastD d0 % n = 0) :
    Calls Tryz.prog 85 #[.int .i64 17, .int .i64 n, vd, .slice (some ⟨P, 0, none⟩) 2 c] w fun e w' => ∃ u, e = .returned (.tuple #[u, .bool false]) ∧ Own w' w.heap.size u ([]) ∧ Below w.heap.size w w' := by
  obtain ⟨b, off, cc, E, L, rfl, hE, hL, l1, l8, hcc, hE2, hbw, hcell⟩ := last_ofD ha hx
  obtain ⟨ba, bn, bc, rfl⟩ := ht.shape3
  rw [hL] at hd
  have n0 : ¬ n = 0 := by omega
  have n00 : ¬ (n : Int) = 0 := by omega
  have hwE : IntKind.i64.wrap (((E + 1 : Nat) : Int) - 1) = (E : Int) := by rw [wrap_small _ (by omega) (by omega)]; omega
  have hwE2 : IntKind.i64.wrap ((E : Int) + 1 - 1) = (E : Int) := by rw [wrap_small _ (by omega) (by omega)]; omega
  obtain ⟨r, hr⟩ : ∃ r, L % n = r := ⟨_, rfl⟩
  have hrn : r < n := by rw [← hr]; exact Nat.mod_lt _ (by omega)
  have f0 : (L : Int).tmod (n : Int) = (r : Int) := by rw [Int.tmod_eq_emod_of_nonneg (by omega), ← hr]; simp
  have f1 : (L : Int) % (n : Int) = (r : Int) := by rw [← hr]; simp
  have f2 : IntKind.i64.wrap (r : Int) = (r : Int) := wrap_small _ (by omega) (by omega)
  have f4 : IntKind.i64.wrap ((L : Int).tmod (n : Int)) = (r : Int) := by rw [f0, f2]
  rw [f1] at hd
  have z0 : (0 : Int) ≤ (E : Int) := by omega
  have z1 : (E : Int) < ((E + 1 : Nat) : Int) := by omega
  have z2 : (E : Int) < (E : Int) + 1 := by omega
  obtain rfl | hr0 := Nat.eq_zero_or_pos r
  · exact absurd rfl hd
  have g1 : ((r : Int) == 0) = false := by simp; omega
  have g2 : ((r : Int) != 0) = true := by simp; omega
  have g3 : decide ((r : Int) = 0) = false := by simp; omega
  have g4 : ¬ (r : Int) = 0 := by omega
  clear ha hx hE hL hr hd ht
  go_enter Tryz.func85, Tryz.ntmps85
  go_wp2_with fail
  go_quiet (fail)
  go_wp2
  go_ret2
  exact ⟨_, rfl, Own.nil _ _, Below.drewN (Below.refl _ _) _⟩
set_option maxRecDepth 100000 in
set_option maxHeartbeats 4000000 in
theorem infer_k17_ok {vd a0 b0 : Value} {d0 d1 : List Int} {w : World} {P c : Nat} (n : Nat) (hc : 2 ≤ c) (ha : Ints w a0 d0) (hx : okd d0 = true) (h1 : 1 ≤ n) (h8 : n ≤ 8) (p0 : w.cell? ⟨P, 0, none⟩ = some a0) (ht : Ints w b0 d1) (p1 : w.cell? ⟨P, 1, none⟩ = some b0) (q : Bool) (hq : (lesD d0 n == d1) = q) (hd : lastD d0 % n = 0) :
    Calls Tryz.prog 85 #[.int .i64 17, .int .i64 n, vd, .slice (some ⟨P, 0, none⟩) 2 c] w fun e w' => ∃ u, e = .returned (.tuple #[u, .bool q]) ∧ Own w' w.heap.size u (d0) ∧ Below w.heap.size w w' := by
  obtain ⟨b, off, cc, E, L, rfl, hE, hL, l1, l8, hcc, hE2, hbw, hcell⟩ := last_ofD ha hx
  obtain ⟨ba, bn, bc, rfl⟩ := ht.shape3
  rw [hL] at hd
  have n0 : ¬ n = 0 := by omega
  have n00 : ¬ (n : Int) = 0 := by omega
  have hwE : IntKind.i64.wrap (((E + 1 : Nat) : Int) - 1) = (E : Int) := by rw [wrap_small _ (by omega) (by omega)]; omega
  have hwE2 : IntKind.i64.wrap ((E : Int) + 1 - 1) = (E : Int) := by rw [wrap_small _ (by omega) (by omega)]; omega
  obtain ⟨r, hr⟩ : ∃ r, L % n = r := ⟨_, rfl⟩
  have hrn : r < n := by rw [← hr]; exact Nat.mod_lt _ (by omega)
  have f0 : (L : Int).tmod (n : Int) = (r : Int) := by rw [Int.tmod_eq_emod_of_nonneg (by omega), ← hr]; simp
  have f1 : (L : Int) % (n : Int) = (r : Int) := by rw [← hr]; simp
  have f2 : IntKind.i64.wrap (r : Int) = (r : Int) := wrap_small _ (by omega) (by omega)
  have f4 : IntKind.i64.wrap ((L : Int).tmod (n : Int)) = (r : Int) := by rw [f0, f2]
  rw [f1] at hd
  have z0 : (0 : Int) ≤ (E : Int) := by omega
  have z1 : (E : Int) < ((E + 1 : Nat) : Int) := by omega
  have z2 : (E : Int) < (E : Int) + 1 := by omega
  have hr0 : r = 0 := by omega
  subst hr0
  have HA : Hid (Ints w (.slice (some ⟨b, off, none⟩) (E + 1) cc) d0) := ha
  have HOK : Hid (okd d0 = true) := hx
  have HP : Hid (w.cell? ⟨P, 0, none⟩ = some (.slice (some ⟨b, off, none⟩) (E + 1) cc)) := p0
  have HT : Hid (Ints w (.slice ba bn bc) d1) := ht
  have HQ : Hid ((lesD d0 n == d1) = q) := hq
  have HP1 : Hid (w.cell? ⟨P, 1, none⟩ = some (.slice ba bn bc)) := p1
  clear ht hq
  clear ha hx hE hL hr hd
  go_enter Tryz.func85, Tryz.ntmps85
  go_wp2_with fail
  go_quiet (fail)
  have hB : Below w.heap.size w (w.drewN nq) := Below.drewN (Below.refl _ _) _
  generalize w.drewN nq = W at hB ⊢
  have HB : Hid (Below w.heap.size w W) := hB
  have q0 := cell_later hB HP.out
  clear hB p0 hcell p1
  go_wp2_with fail
  refine (less_ok n (HA.out.later HB.out) HOK.out h1 h8).mono ?_
  rintro e w2 ⟨x, rfl, ho, hb2⟩
  obtain ⟨la, ln, lc, rfl⟩ := ho.ints.shape3
  have HL : Hid (Own w2 W.heap.size (.slice la ln lc) (lesD d0 n)) := ho
  have HB2 : Hid (Below w.heap.size w w2) := Below.after HB.out hb2
  have hsW := HB.out.size
  clear ho hb2 q0
  have q0 := cell_later HB2.out HP.out
  have q1 := cell_later HB2.out HP1.out
  go_wp2_with fail
  go_region_held3 (fun w' => w'.cell? ⟨P, 0, none⟩ = some (.slice (some ⟨b, off, none⟩) (E + 1) cc) ∧ w'.cell? ⟨P, 1, none⟩ = some (.slice ba bn bc)) (go_keep)
    (first
      | (go_at_call 64; refine (copy_Own (d := d0) ?_).mono ?_; exact HA.out.later (Below.after HB2.out (Below.refl _ _).drew); rintro r w4 ⟨y, rfl, ho4, hb4⟩; have HB4 : Hid (Below w2.heap.size w2 w4) := Below.after (Below.refl _ _).drew hb4; have HO4 : Hid (Own w4 w2.heap.size y d0) := ho4; have a_0 := cell_later HB4.out q0; have a_1 := cell_later HB4.out q1; clear ho4 hb4)
      | (go_at_call 63; refine (eqn_to q (a := lesD d0 n) (b := d1) ?_ ?_ HQ.out).mono ?_; exact HL.out.ints.later HB4.out; exact HT.out.later (Below.after HB2.out HB4.out); rintro r w5 ⟨rfl, m5, e5⟩; have HB5 : Hid (Below w4.heap.size w4 w5) := (by show Below _ _ _; rw [e5]; exact Below.drewN (Below.refl _ _) _); have b_0 := cell_later (Below.after HB4.out HB5.out) q0; have b_1 := cell_later (Below.after HB4.out HB5.out) q1; clear e5))
  clear a_0 a_1 b_0 b_1 q0 q1
  go_wp2
  go_ret2
  exact ⟨_, rfl, (HO4.out.later HB5.out).mono HB2.out.size, Below.after HB2.out (Below.after HB4.out HB5.out)⟩
set_option maxRecDepth 100000 in
set_option maxHeartbeats 4000000 in
theorem infer_k10_four {vd a0 : Value} {d0 : List Int} {w : World} {P c : Nat} (n : Int) (hc : 1 ≤ c) (ha : Ints w a0 d0) (p0 : w.cell? ⟨P, 0, none⟩ = some a0) (hd : d0.length ≠ 2) :
    Calls Tryz.prog 85 #[.int .i64 10, .int .i64 n, vd, .slice (some ⟨P, 0, none⟩) 1 c] w fun e w' => ∃ u, e = .returned (.tuple #[u, .bool false]) ∧ Own w' w.heap.size u ([]) ∧ Below w.heap.size w w' := by
  obtain ⟨aa, ac, rfl⟩ := ha.shape
  obtain ⟨an, han⟩ : ∃ n, d0.length = n := ⟨_, rfl⟩
  rw [han] at p0 hd
  have g1 : ((an : Int) == 2) = false := by simp; omega
  have g2 : decide ((an : Int) = 2) = false := by simp; omega
  have g3 : ¬ (an : Int) = 2 := by omega
  clear ha han
  go_enter Tryz.func85, Tryz.ntmps85
  go_wp2
  go_ret2
  exact ⟨_, rfl, Own.nil _ _, Below.refl _ _⟩
theorem cells2 {w : World} {a0 : Value} {x y : Int} (ha : Ints w a0 [x, y]) : ∃ b off c : Nat, a0 = .slice (some ⟨b, off, none⟩) 2 c ∧ 2 ≤ c ∧ w.cell? ⟨b, off, none⟩ = some (.int .i64 x) ∧ w.cell? ⟨b, off + 1, none⟩ = some (.int .i64 y) := by
  obtain ⟨b, o, c, e, hc, h⟩ := Own.getD (n := 2) ha rfl (by decide)
  exact ⟨b, o, c, e, hc, h 0 (by decide), h 1 (by decide)⟩
set_option maxRecDepth 100000 in
set_option maxHeartbeats 4000000 in
theorem infer_k10_ok {vd a0 : Value} {x y : Int} {w : World} {P c : Nat} (n : Int) (hc : 1 ≤ c) (ha : Ints w a0 [x, y]) (p0 : w.cell? ⟨P, 0, none⟩ = some a0) :
    Calls Tryz.prog 85 #[.int .i64 10, .int .i64 n, vd, .slice (some ⟨P, 0, none⟩) 1 c] w fun e w' => ∃ u, e = .returned (.tuple #[u, .bool true]) ∧ Own w' w.heap.size u ([y, x]) ∧ Below w.heap.size w w' := by
  obtain ⟨b, off, cc, rfl, hcc, e0, e1⟩ := cells2 ha
  clear ha
  go_enter Tryz.func85, Tryz.ntmps85
  go_wp2_with fail
  have n1 := World.new_ne w _ p0
  have n2 := World.new_ne w _ e0
  have n3 := World.new_ne w _ e1
  go_region_held3 (fun w' => w'.cell? ⟨P, 0, none⟩ = some (.slice (some ⟨b, off, none⟩) 2 cc) ∧ w'.cell? ⟨b, off, none⟩ = some (.int .i64 x) ∧ w'.cell? ⟨b, off + 1, none⟩ = some (.int .i64 y)) (go_keep) (fail)
  go_wp2
  go_ret2
  exact ⟨_, rfl, ((Blk.new w.drew [y, x]).own (Nat.le_refl _) rfl (by simp [big])), Below.push (Below.refl _ _).drew _⟩
set_option maxRecDepth 100000 in
set_option maxHeartbeats 4000000 in
theorem infer_k9_ok {vd a0 b0 : Value} {x y v : Int} {w : World} {P c : Nat} (n : Int) (hc : 2 ≤ c) (ha : Ints w a0 [x, y]) (hb : Ints w b0 [y, v]) (p0 : w.cell? ⟨P, 0, none⟩ = some a0) (p1 : w.cell? ⟨P, 1, none⟩ = some b0) :
    Calls Tryz.prog 85 #[.int .i64 9, .int .i64 n, vd, .slice (some ⟨P, 0, none⟩) 2 c] w fun e w' => ∃ u, e = .returned (.tuple #[u, .bool true]) ∧ Own w' w.heap.size u ([x, v]) ∧ Below w.heap.size w w' := by
  obtain ⟨b, off, cc, rfl, hcc, e0, e1⟩ := cells2 ha
  obtain ⟨bb, boff, bcc, rfl, hbcc, f0, f1⟩ := cells2 hb
  have HP : Hid (w.cell? ⟨P, 0, none⟩ = some (.slice (some ⟨b, off, none⟩) 2 cc) ∧ w.cell? ⟨P, 1, none⟩ = some (.slice (some ⟨bb, boff, none⟩) 2 bcc) ∧ w.cell? ⟨b, off, none⟩ = some (.int .i64 x) ∧ w.cell? ⟨bb, boff + 1, none⟩ = some (.int .i64 v)) := ⟨p0, p1, e0, f1⟩
  clear ha hb
  go_enter Tryz.func85, Tryz.ntmps85
  go_wp2_with fail
  go_quiet (fail)
  have hB : Below w.heap.size w (w.drewN nq) := Below.drewN (Below.refl _ _) _
  generalize w.drewN nq = W at hB ⊢
  have HB : Hid (Below w.heap.size w W) := hB
  have q0 := cell_later hB HP.out.1
  have q1 := cell_later hB HP.out.2.1
  have q2 := cell_later hB HP.out.2.2.1
  have q3 := cell_later hB HP.out.2.2.2
  clear hB p0 p1 e0 e1 f0 f1
  go_wp2_with fail
  have n1 := World.new_ne W _ q0
  have n2 := World.new_ne W _ q1
  have n3 := World.new_ne W _ q2
  have n4 := World.new_ne W _ q3
  go_region_held3 (fun w' => w'.cell? ⟨P, 0, none⟩ = some (.slice (some ⟨b, off, none⟩) 2 cc) ∧ w'.cell? ⟨P, 1, none⟩ = some (.slice (some ⟨bb, boff, none⟩) 2 bcc) ∧ w'.cell? ⟨b, off, none⟩ = some (.int .i64 x) ∧ w'.cell? ⟨bb, boff + 1, none⟩ = some (.int .i64 v)) (go_keep) (fail)
  go_wp2
  go_ret2
  exact ⟨_, rfl, ((Blk.new W.drew [x, v]).own HB.out.size rfl (by simp [big])), Below.push (Below.after HB.out (Below.refl _ _).drew) _⟩
set_option maxRecDepth 100000 in
set_option maxHeartbeats 4000000 in
theorem infer_k9_four {vd a0 b0 : Value} {d0 d1 : List Int} {w : World} {P c : Nat} (n : Int) (hc : 2 ≤ c) (ha : Ints w a0 d0) (hb : Ints w b0 d1) (p0 : w.cell? ⟨P, 0, none⟩ = some a0) (p1 : w.cell? ⟨P, 1, none⟩ = some b0) (hd : ¬ (d0.length = 2 ∧ d1.length = 2 ∧ d0.getD 1 0 = d1.getD 0 0)) :
    Calls Tryz.prog 85 #[.int .i64 9, .int .i64 n, vd, .slice (some ⟨P, 0, none⟩) 2 c] w fun e w' => ∃ u, e = .returned (.tuple #[u, .bool false]) ∧ Own w' w.heap.size u ([]) ∧ Below w.heap.size w w' := by
  by_cases h0 : d0.length = 2
  · obtain ⟨x, y, rfl⟩ := two_of h0
    obtain ⟨b, off, cc, rfl, hcc, e0, e1⟩ := cells2 ha
    by_cases h1 : d1.length = 2
    · obtain ⟨z, v, rfl⟩ := two_of h1
      obtain ⟨bb, boff, bcc, rfl, hbcc, f0, f1⟩ := cells2 hb
      have hne : ¬ y = z := fun e => hd ⟨rfl, rfl, e⟩
      have g1 : (y != z) = true := by simp [hne]
      clear ha hb hd h0 h1
      go_enter Tryz.func85, Tryz.ntmps85
      go_wp2_with fail
      go_quiet (fail)
      go_wp2
      go_ret2
      exact ⟨_, rfl, Own.nil _ _, Below.drewN (Below.refl _ _) _⟩
    · obtain ⟨aa, ac, rfl⟩ := hb.shape
      obtain ⟨an, han⟩ : ∃ n, d1.length = n := ⟨_, rfl⟩
      rw [han] at p1 h1
      have g1 : ((an : Int) != 2) = true := by simp; omega
      clear ha hb hd h0 han
      go_enter Tryz.func85, Tryz.ntmps85
      go_wp2_with fail
      go_quiet (fail)
      go_wp2
      go_ret2
      exact ⟨_, rfl, Own.nil _ _, Below.drewN (Below.refl _ _) _⟩
  · obtain ⟨aa, ac, rfl⟩ := ha.shape
    obtain ⟨ba, bn, bc, rfl⟩ := hb.shape3
    obtain ⟨an, han⟩ : ∃ n, d0.length = n := ⟨_, rfl⟩
    rw [han] at p0 h0
    have g1 : ((an : Int) != 2) = true := by simp; omega
    clear ha hb hd han
    go_enter Tryz.func85, Tryz.ntmps85
    go_wp2_with fail
    go_quiet (fail)
    go_wp2
    go_ret2
    exact ⟨_, rfl, Own.nil _ _, Below.drewN (Below.refl _ _) _⟩
/-- A list whose numbers do not lie in block r. -/
def Elt (w : World) (r : Option Nat) (x : Value) (d : List Int) : Prop := Ints w x d ∧ (0 < d.length → x.ownBlock ≠ r)
theorem Elt.later {w w' : World} {r : Option Nat} {x : Value} {d : List Int} (hb : Below w.heap.size w w') (h : Elt w r x d) : Elt w' r x d := ⟨h.1.later hb, h.2⟩
theorem Elt.grown {w w' : World} {r r' : Option Nat} {x : Value} {d : List Int} (h : Elt w r x d) (hg : w.grownBy w' r) (hr : r' = r ∨ r' = some w.heap.size) : Elt w' r' x d := by
  obtain ⟨h0, hne⟩ := h
  rcases h0 with ⟨rfl, rfl⟩ | ⟨a, c, rfl, h1, h2, h3⟩
  · exact ⟨Ints.nil _, fun h => by simp at h⟩
  · refine ⟨Or.inr ⟨a, c, rfl, h1, h2, fun i hi => ?_⟩, fun h => ?_⟩
    · obtain ⟨b, off, rfl, hc⟩ := h3 i hi
      exact ⟨b, off, rfl, hg.cell hc (hne (by omega))⟩
    · rcases hr with rfl | rfl
      · exact hne h
      · obtain ⟨b, off, rfl, hc⟩ := h3 0 h
        have := World.block_lt_of_cell? _ _ hc
        simp only [Value.ownBlock, ne_eq, Option.some.injEq]
        simp only at this
        omega
theorem addr_add (b off j : Nat) : (⟨b, off, none⟩ : Addr).add j = ⟨b, off + j, none⟩ := by
  by_cases h0 : j = 0
  · subst h0; simp [Addr.add]
  · simp [Addr.add, h0]
set_option maxHeartbeats 1000000 in
theorem steps_ok {v : Value} {d : List Int} {w : World} (h : Ints w v d) (hok : okd d = true) :
    Calls Tryz.prog 163 #[v] w fun e w' => e = .returned (.tuple #[.slice (some ⟨w.heap.size, 0, none⟩) d.length d.length, .int .i64 0]) ∧ Blk w' w.heap.size (stp d) ∧ Below w.heap.size w w' := by
  have H : Hid (Ints w v d) := h
  have HK : Hid (okd d = true) := hok
  obtain ⟨hl1, hl2, hin, hp⟩ := okd_parts hok
  have HI : Hid (inr d = true) := hin
  obtain ⟨av, c, hv⟩ : ∃ a c, v = .slice a d.length c := by
    rcases h.cases with ⟨rfl, a1, c1, rfl⟩ | ⟨b1, o1, c1, rfl, h0, h1, h2, h3⟩
    · exact ⟨_, _, rfl⟩
    · exact ⟨_, _, rfl⟩
  subst hv
  clear h hok hin hp
  have hmk := fun w => make_ints w d.length (by omega)
  go_enter Tryz.func163, Tryz.ntmps163
  go_wp2_with (go_at_call 146; refine (spell_any H.out).mono ?_; rw [spT_ok HK.out, erf_ok HK.out]; rintro e w' ⟨rfl, rfl⟩)
  go_loopw [] (fun w' => ∃ k : Nat, k ≤ d.length ∧ Blk w' w.heap.size (stA d k) ∧ It w' (w.heap.size + 1) (txt d) k ∧ Below w.heap.size w w') (fun w' => d.length - w'.iterPos (w.heap.size + 1))
  case atStart =>
    refine ⟨0, Nat.zero_le _, ?_, ?_, ?_⟩
    · rw [stA_zero]; exact (Blk.new w _).alloc _
    · have := It.new (w.alloc (.cells (ia (zer d.length)) 3)) (txt d) 0
      simpa using this
    · exact ((Below.refl _ _).alloc (Nat.le_refl _) _).alloc (by simp) _
  case round =>
    obtain ⟨k, hk, hB, hI, hbel⟩ := hrel
    by_cases hlt : k < d.length
    · have hnx := fun ty => hI.next HI.out hlt ty
      have HB1 : Hid (Blk (wr.iterAt (w.heap.size + 1) (txt d) (k + 1)) w.heap.size (stA d k)) := hB.moved (by omega) _ _
      have HI1 : Hid (It (wr.iterAt (w.heap.size + 1) (txt d) (k + 1)) (w.heap.size + 1) (txt d) (k + 1)) := hI.moved _
      have HL1 : Hid (Below w.heap.size w (wr.iterAt (w.heap.size + 1) (txt d) (k + 1))) := Below.moved hbel (by omega) _ _
      have HP : Hid (wr.iterPos (w.heap.size + 1) = k) := hI.pos
      obtain ⟨g1, g2⟩ := inr_mem HI.out (List.getElem_mem hlt)
      clear hB hI hbel
      go_wp2
      clear hnx
      go_loopw [28] (fun i w' => ∃ j : Nat, j ≤ k ∧ i = .int .i64 j ∧ Blk w' w.heap.size (stI d k j) ∧ It w' (w.heap.size + 1) (txt d) (k + 1) ∧ Below w.heap.size w w') (fun i _ => k - (intOf i).toNat)
      case atStart => exact ⟨0, Nat.zero_le _, rfl, by rw [stI_zero]; exact HB1.out, HI1.out, HL1.out⟩
      case round =>
        obtain ⟨j, hj, rfl, hB, hI, hbel⟩ := hrel
        by_cases hjk : j < k
        · have hc : wr.cell? ⟨w.heap.size, j, none⟩ = some (.int .i64 (stE d k j)) := by
            rw [hB.cell j (by rw [stI_length]; omega), stI_get d k j hjk hlt]
          have hf := hB.frozen j
          have hs := stE_bd HI.out k j hjk (by omega)
          have HB2 : Hid (Blk wr w.heap.size (stI d k j)) := hB
          have HI2 : Hid (It wr (w.heap.size + 1) (txt d) (k + 1)) := hI
          have HL2 : Hid (Below w.heap.size w wr) := hbel
          clear hB hI hbel
          obtain ⟨hs1, hs2⟩ := hs
          have hm1 : 1 ≤ stE d k j * d[k] := by
            have := Int.mul_le_mul hs1 g1 (by omega) (by omega)
            omega
          have hm2 : stE d k j * d[k] ≤ 512 := by
            have := Int.mul_le_mul hs2 g2 (by omega) (by omega)
            omega
          go_wp2
          go_region_with (go_at_call 147; refine (size_any _ _ g1 g2).mono ?_; rintro e w' ⟨rfl, rfl⟩)
          all_goals
            go_wp2
            go_roundw
            case rel =>
              refine ⟨j + 1, by omega, by go_num, ?_, ?_, ?_⟩
              · have := HB2.out.set j (stE d k j * d[k])
                rw [stI_set d k j hjk hlt] at this
                exact this
              · exact HI2.out.set _ _ (by simp)
              · exact (HL2.out.setCell (p := ⟨w.heap.size, j, none⟩) (Nat.le_refl w.heap.size) (.int .i64 (stE d k j * d[k]))).drew
            case measure => simp [intOf]; omega
        · have hj' : j = k := by omega
          subst hj'
          have hf := hB.frozen j
          have hc : ∃ x, wr.cell? ⟨w.heap.size, j, none⟩ = some x := ⟨_, hB.cell j (by rw [stI_length]; omega)⟩
          obtain ⟨x, hc⟩ := hc
          have HB2 : Hid (Blk wr w.heap.size (stI d j j)) := hB
          have HI2 : Hid (It wr (w.heap.size + 1) (txt d) (j + 1)) := hI
          have HL2 : Hid (Below w.heap.size w wr) := hbel
          clear hB hI hbel
          go_wp2
          go_roundw
          case rel =>
            refine ⟨j + 1, by omega, ?_, ?_, ?_⟩
            · have := HB2.out.set j 1
              rw [stI_last d j] at this
              exact this
            · exact HI2.out.set _ _ (by simp)
            · exact HL2.out.setCell (Nat.le_refl _) _
          case measure =>
            rw [(HI2.out.set ⟨w.heap.size, j, none⟩ (.int .i64 1) (by simp)).pos, HP.out]
            omega
    · have hk' : k = d.length := by omega
      subst hk'
      have hnx := fun ty => hI.done ty
      have HB1 : Hid (Blk wr w.heap.size (stp d)) := hB
      have HL1 : Hid (Below w.heap.size w wr) := hbel
      clear hB hI hbel
      go_wp2
      go_ret2
      exact ⟨rfl, HB1.out, HL1.out⟩
set_option maxHeartbeats 1000000 in
theorem at_ok {v v' : Value} {d p : List Int} {w : World} (hd : Ints w v d) (hp : Ints w v' p) (hok : okd d = true) :
    Calls Tryz.prog 153 #[v, v'] w fun e w' => e = .returned (.tuple #[.int .i64 (atR d p), .int .i64 (atE d p)]) ∧ Below w.heap.size w w' := by
  have HA : Hid (Ints w v d) := hd
  have HP : Hid (Ints w v' p) := hp
  have HK : Hid (okd d = true) := hok
  obtain ⟨hl1, hl2, hin, hpr⟩ := okd_parts hok
  have HI : Hid (inr d = true) := hin
  obtain ⟨da, dc, rfl⟩ := hd.shape
  obtain ⟨pa, pc, rfl⟩ := hp.shape
  have hpl := hp.len
  unfold big at hpl
  clear hd hok hin hpr
  go_enter Tryz.func153, Tryz.ntmps153
  go_wp2
  refine wp_scope_jumps 0 (fun a' w' => (Below w.heap.size w w' ∧ Hid (aok d p = false)) ∧ ∃ (u0 u1 u2 u3 u4 u5 u6 u7 u8 u9 u10 u11 u12 u13 u14 u15 u16 u17 u18 u19 u20 u21 u22 u23 u24 u25 u26 u27 u28 u29 u30 u31 u32 u33 u34 u35 u36 u37 u38 u39 u40 u41 u42 u43 u44 u45 u46 u47 u48 u49 u50 u51 u52 u53 u54 : Value), a' = { tmps := #[u0, u1, u2, u3, u4, u5, u6, u7, u8, u9, u10, u11, u12, u13, u14, u15, u16, u17, u18, u19, u20, u21, u22, u23, u24, u25, u26, u27, u28, u29, u30, u31, u32, u33, u34, u35, u36, u37, u38, u39, u40, u41, u42, u43, u44, u45, u46, u47, u48, u49, u50, u51, u52, u53, u54], defers := [] }) (fun _ _ => 0) rfl ?_ ?_
  · go_wp2_with fail
    refine (spell_any HA.out).mono ?_
    rw [spT_ok HK.out, erf_ok HK.out]
    rintro e w' ⟨rfl, rfl⟩
    by_cases hl : p.length = d.length
    · have hne : ((p.length : Int) != (d.length : Int)) = false := by simp [hl]
      have HL : Hid (p.length = d.length) := hl
      obtain ⟨b, off, rfl, hcell⟩ : ∃ b off, pa = some ⟨b, off, none⟩ ∧ Hid (∀ i (h : i < p.length), w.cell? ⟨b, off + i, none⟩ = some (.int .i64 p[i])) := by
        rcases hp.cases with ⟨rfl, a1, c1, e⟩ | ⟨b1, o1, c1, e, h0, h1, h2, h3⟩
        · simp only [List.length_nil] at hl; omega
        · simp only [Value.slice.injEq, true_and] at e
          obtain ⟨rfl, rfl⟩ := e
          exact ⟨b1, o1, rfl, h3⟩
      clear hl hp
      go_wp2
      go_loopw [6] (fun t w' => ∃ k : Nat, k ≤ d.length ∧ t = .int .i64 (atN d p k) ∧ It w' w.heap.size (txt d) k ∧ Below w.heap.size w w' ∧ Hid (∀ j, j < k → 0 ≤ p.getD j 0 ∧ p.getD j 0 < d.getD j 0)) (fun _ w' => d.length - w'.iterPos w.heap.size)
      case atStart => exact ⟨0, Nat.zero_le _, rfl, It.new w (txt d) 0, (Below.refl _ _).alloc (Nat.le_refl _) _, fun j hj => by omega⟩
      case round =>
        obtain ⟨k, hk, rfl, hI, hbel, hpre⟩ := hrel
        by_cases hlt : k < d.length
        · have hnx := fun ty => hI.next HI.out hlt ty
          have hltp : k < p.length := by have := HL.out; omega
          obtain ⟨g1, g2⟩ := inr_mem HI.out (List.getElem_mem hlt)
          have hx := cell_later hbel (hcell.out k hltp)
          have HB1 : Hid (Below w.heap.size w (wr.iterAt w.heap.size (txt d) (k + 1))) := Below.moved hbel (Nat.le_refl _) _ _
          have HI1 : Hid (It (wr.iterAt w.heap.size (txt d) (k + 1)) w.heap.size (txt d) (k + 1)) := hI.moved _
          have HPP : Hid (wr.iterPos w.heap.size = k) := hI.pos
          have hx1 : (wr.iterAt w.heap.size (txt d) (k + 1)).cell? ⟨b, off + k, none⟩ = some (.int .i64 p[k]) := cell_later HB1.out (hcell.out k hltp)
          have ep : p.getD k 0 = p[k] := by simp [hltp]
          have ed : d.getD k 0 = d[k] := by simp [hlt]
          have hbd := atN_bd HI.out k hk hpre.out
          have hp2 := prd_hi (inr_take HI.out k) 2 (by simp; omega)
          have ea : atN d p (k + 1) = atN d p k * d[k] + p[k] := by rw [atN, ep, ed]
          have EA : Hid (atN d p (k + 1) = atN d p k * d[k] + p[k]) := ea
          obtain ⟨hb1, hb2⟩ := hbd
          have hb3 : atN d p k ≤ 64 := by omega
          have hm1 : 0 ≤ atN d p k * d[k] := Int.mul_nonneg hb1 (by omega)
          have hm2 : atN d p k * d[k] ≤ 512 := by
            have := Int.mul_le_mul hb3 g2 (by omega) (by omega)
            omega
          clear hI hbel hx hp2 hb2 ea
          by_cases hr : 0 ≤ p[k] ∧ p[k] < d[k]
          · obtain ⟨r1, r2⟩ := hr
            have HR : Hid (∀ j, j < k + 1 → 0 ≤ p.getD j 0 ∧ p.getD j 0 < d.getD j 0) := by
              intro j hj
              by_cases e : j = k
              · subst e; rw [ep, ed]; exact ⟨r1, r2⟩
              · exact hpre.out j (by omega)
            clear ep ed
            go_wp2
            clear hnx
            generalize wr.iterAt w.heap.size (txt d) (k + 1) = W1 at *
            go_quiet ((go_at_call 147; exact quiet_eq (size_any _ _ g1 g2)))
            go_wp2
            replace HB1 : Hid (Below w.heap.size w (W1.drewN nq)) := Below.drewN HB1.out _
            replace HI1 : Hid (It (W1.drewN nq) w.heap.size (txt d) (k + 1)) := HI1.out
            replace hx1 : (W1.drewN nq).cell? ⟨b, off + k, none⟩ = some (.int .i64 p[k]) := hx1
            generalize W1.drewN nq = W2 at *
            go_quiet ((go_at_call 147; exact quiet_eq (size_any _ _ g1 g2)))
            go_wp2
            go_roundw
            case rel => exact ⟨k + 1, by omega, by rw [EA.out], HI1.out, Below.drewN HB1.out _, HR.out⟩
            case measure =>
              have : (W2.drewN nq).iterPos w.heap.size = k + 1 := It.pos (s := txt d) HI1.out
              rw [this, HPP.out]
              omega
          · have HBD : Hid (aok d p = false) := aok_bad k hlt (by rw [ep, ed]; exact hr)
            clear ep ed
            by_cases r1 : p[k] < 0
            · go_wp2
              clear hnx
              generalize wr.iterAt w.heap.size (txt d) (k + 1) = W1 at *
              have r2 : decide (p[k] < 0) = true := by simp [r1]
              go_quiet ((go_at_call 147; exact quiet_eq (size_any _ _ g1 g2)))
              go_wp2
              go_step3
              exact ⟨rfl, ⟨Below.drewN HB1.out _, HBD⟩, _, _, _, _, _, _, _, _, _, _, _, _, _, _, _, _, _, _, _, _, _, _, _, _, _, _, _, _, _, _, _, _, _, _, _, _, _, _, _, _, _, _, _, _, _, _, _, _, _, _, _, _, _, _, _, rfl⟩
            · have r2 : d[k] ≤ p[k] := by omega
              have r3 : decide (p[k] < 0) = false := by simpa using r1
              go_wp2
              clear hnx
              generalize wr.iterAt w.heap.size (txt d) (k + 1) = W1 at *
              go_quiet ((go_at_call 147; exact quiet_eq (size_any _ _ g1 g2)))
              go_wp2
              go_step3
              exact ⟨rfl, ⟨Below.drewN HB1.out _, HBD⟩, _, _, _, _, _, _, _, _, _, _, _, _, _, _, _, _, _, _, _, _, _, _, _, _, _, _, _, _, _, _, _, _, _, _, _, _, _, _, _, _, _, _, _, _, _, _, _, _, _, _, _, _, _, _, _, rfl⟩
        · have hk' : k = d.length := by omega
          subst hk'
          have hnx := fun ty => hI.done ty
          have HB1 : Hid (Below w.heap.size w wr) := hbel
          have HO : Hid (aok d p = true) := by
            show _ = _
            simp [aok, HK.out, pok_mk HL.out hpre.out]
          clear hI hbel
          go_wp2
          rw [jump_ret]
          go_ret2
          exact ⟨by rw [atR, atE, HO.out]; rfl, HB1.out⟩
    · have hne : ((p.length : Int) != (d.length : Int)) = true := by simp; omega
      have HBD : Hid (aok d p = false) := aok_len hl
      clear hl hp
      go_wp2
      go_step3
      exact ⟨rfl, ⟨Below.refl _ _, HBD⟩, _, _, _, _, _, _, _, _, _, _, _, _, _, _, _, _, _, _, _, _, _, _, _, _, _, _, _, _, _, _, _, _, _, _, _, _, _, _, _, _, _, _, _, _, _, _, _, _, _, _, _, _, _, _, _, rfl⟩
  · rintro a w' ⟨⟨hb, hbad⟩, u0, u1, u2, u3, u4, u5, u6, u7, u8, u9, u10, u11, u12, u13, u14, u15, u16, u17, u18, u19, u20, u21, u22, u23, u24, u25, u26, u27, u28, u29, u30, u31, u32, u33, u34, u35, u36, u37, u38, u39, u40, u41, u42, u43, u44, u45, u46, u47, u48, u49, u50, u51, u52, u53, u54, rfl⟩
    go_wp2
    rw [jump_ret]
    go_ret2
    exact ⟨by rw [atR, atE, hbad.out]; rfl, hb⟩
set_option maxHeartbeats 1000000 in
theorem where_ok {v : Value} {d : List Int} {w : World} (n : Int) (hd : Ints w v d) (hok : okd d = true) (h0 : 0 ≤ n) (h1 : n < prd d) :
    Calls Tryz.prog 152 #[v, .int .i64 n] w fun e w' => ∃ B, w.heap.size ≤ B ∧ e = .returned (.tuple #[.slice (some ⟨B, 0, none⟩) d.length d.length, .int .i64 0]) ∧ Blk w' B (whr d n) ∧ Below w.heap.size w w' := by
  have HA : Hid (Ints w v d) := hd
  have HK : Hid (okd d = true) := hok
  obtain ⟨hl1, hl2, hin, hpr⟩ := okd_parts hok
  have HI : Hid (inr d = true) := hin
  obtain ⟨da, dc, rfl⟩ := hd.shape
  have hmk := fun w => make_ints w d.length (by omega)
  have h64 : n < 64 := by omega
  clear hd hok hin
  go_enter Tryz.func152, Tryz.ntmps152
  go_wp2_with fail
  refine (cells_ok HA.out HK.out).mono ?_
  rintro e w1 ⟨rfl, hb1⟩
  have HB1 : Hid (Below w.heap.size w w1) := hb1
  have HA1 : Hid (Ints w1 (.slice da d.length dc) d) := HA.out.later hb1
  have hz1 := hb1.size
  clear hb1
  go_wp2_with fail
  refine (steps_ok HA1.out HK.out).mono ?_
  rintro e w2 ⟨rfl, hk2, hb2⟩
  have HK2 : Hid (Blk w2 w1.heap.size (stp d)) := hk2
  have HB2 : Hid (Below w.heap.size w w2) := Below.after HB1.out hb2
  have hz2 := hb2.size
  have hz3 := hk2.lt
  clear hb2 hk2
  go_wp2
  clear hmk
  have HST : Hid (Blk (w2.alloc (.cells (ia (zer d.length)) 3)) w2.heap.size (whA d n 0)) := by
    show Blk _ _ _
    rw [whA_zero]
    exact Blk.new w2 _
  go_loopw [1, 39] (fun r i w' => ∃ k : Nat, k ≤ d.length ∧ i = .int .i64 k ∧ r = .int .i64 (whR d n k) ∧ Blk w' w2.heap.size (whA d n k) ∧ Below w2.heap.size w2 w') (fun _ i _ => d.length - (intOf i).toNat)
  case atStart => exact ⟨0, by omega, rfl, rfl, HST.out, (Below.refl _ _).alloc (Nat.le_refl _) _⟩
  case round =>
    obtain ⟨k, hk, rfl, rfl, hB, hbel⟩ := hrel
    have HB3 : Hid (Blk wr w2.heap.size (whA d n k)) := hB
    have HBL3 : Hid (Below w2.heap.size w2 wr) := hbel
    clear hB hbel
    by_cases hlt : k < d.length
    · have hf := HB3.out.frozen k
      obtain ⟨x, hc⟩ : ∃ x, wr.cell? ⟨w2.heap.size, k, none⟩ = some x := ⟨_, HB3.out.cell k (by rw [whA_length]; exact hlt)⟩
      have hs : wr.cell? ⟨w1.heap.size, k, none⟩ = some (.int .i64 (stE d d.length k)) := by
        rw [(HK2.out.later HBL3.out (by omega)).cell k (by rw [stp_length]; exact hlt), stp_get]
      obtain ⟨s1, s2⟩ := stE_bd2 HI.out hl2 k hlt
      obtain ⟨r1, r2⟩ := whR_bd HI.out hl2 h0 h64 k hk
      have hne : ¬ (stE d d.length k = 0) := by omega
      have hnb : (stE d d.length k == 0) = false := by simp; omega
      go_wp2
      refine ⟨⟨k + 1, by omega, by go_num, rfl, ?_, HBL3.out.setCell (Nat.le_refl _) _⟩, by simp [intOf]; omega⟩
      have := HB3.out.set k (whE d n k)
      rw [whA_set] at this
      exact this
    · have hk' : k = d.length := by omega
      subst hk'
      go_wp2
      go_ret2
      refine ⟨w2.heap.size, by omega, rfl, ?_, Below.after HB2.out HBL3.out⟩
      have := HB3.out
      rw [whA_all] at this
      exact this
set_option maxHeartbeats 1000000 in
theorem crossed_any {v : Value} {x y : Int} {w : World} (h : Ints w v [x, y]) :
    Calls Tryz.prog 151 #[v] w fun e w' => e = .returned (.slice (some ⟨w.heap.size, 0, none⟩) 2 2) ∧ Blk w' w.heap.size [y, x] ∧ Below w.heap.size w w' := by
  obtain ⟨b, off, c, rfl, hc, hcell⟩ : ∃ b off c, v = .slice (some ⟨b, off, none⟩) 2 c ∧ 2 ≤ c ∧ (w.cell? ⟨b, off + 0, none⟩ = some (.int .i64 x) ∧ w.cell? ⟨b, off + 1, none⟩ = some (.int .i64 y)) := by
    rcases h.cases with ⟨e, _⟩ | ⟨b, off, c, rfl, h0, h1, h2, HC⟩
    · cases e
    · exact ⟨b, off, c, rfl, h1, HC.out 0 (by simp), HC.out 1 (by simp)⟩
  have hmk : (Instr.makeSlice 23 (.int .i64 2) (.int .i64 2)).run Tryz.prog w = .ok (.slice (some ⟨w.heap.size, 0, none⟩) 2 2) (w.alloc (.cells (ia (zer 2)) 3)) := make_ints w 2 (by omega)
  obtain ⟨g0, g1⟩ := hcell
  have hb0 : Below w.heap.size w ((w.alloc (.cells (ia (zer 2)) 3)).iter ⟨#[49, 48]⟩ 0) := by
    rw [iter_alloc]
    exact ((Below.refl _ _).alloc (Nat.le_refl _) _).alloc (by simp) _
  have hI0 : It ((w.alloc (.cells (ia (zer 2)) 3)).iter ⟨#[49, 48]⟩ 0) (w.heap.size + 1) ⟨#[49, 48]⟩ 0 := by
    have := It.new (w.alloc (.cells (ia (zer 2)) 3)) ⟨#[49, 48]⟩ 0
    simpa using this
  have hB0 : Blk ((w.alloc (.cells (ia (zer 2)) 3)).iter ⟨#[49, 48]⟩ 0) w.heap.size [0, 0] := by
    rw [iter_alloc]
    exact (Blk.new w _).alloc _
  have hn0 := fun ty => hI0.nx (by decide) 49 (by decide) (by decide) ty
  clear h
  go_enter Tryz.func151, Tryz.ntmps151
  go_wp2
  have hI1 := hI0.moved 1
  have hB1 := hB0.moved (I := w.heap.size + 1) (by omega) ⟨#[49, 48]⟩ 1
  have hb1 := Below.moved hb0 (I := w.heap.size + 1) (by omega) ⟨#[49, 48]⟩ 1
  clear hI0 hB0 hb0 hmk
  refine wp_loop_rounds 3 ?_
  rw [rounds_succ]
  generalize hW1 : ((w.alloc (.cells (ia (zer 2)) 3)).iter ⟨#[49, 48]⟩ 0).iterAt (w.heap.size + 1) ⟨#[49, 48]⟩ 1 = W1 at *
  have c1 : W1.cell? ⟨b, off + 1, none⟩ = some (.int .i64 y) := cell_later hb1 g1
  have d0 : W1.cell? ⟨w.heap.size, 0, none⟩ = some (.int .i64 0) := hB1.cell 0 (by simp)
  have f0 := hB1.frozen 0
  go_wp2
  have hI2 := hI1.set ⟨w.heap.size, 0, none⟩ (.int .i64 y) (by simp)
  have hB2 : Blk (W1.setCell ⟨w.heap.size, 0, none⟩ (.int .i64 y)) w.heap.size [y, 0] := hB1.set 0 y
  have hb2 : Below w.heap.size w (W1.setCell ⟨w.heap.size, 0, none⟩ (.int .i64 y)) := hb1.setCell (Nat.le_refl _) _
  have hn1 := fun ty => hI2.nx (by decide) 48 (by decide) (by decide) ty
  have hI3 := hI2.moved 2
  have hB3 := hB2.moved (I := w.heap.size + 1) (by omega) ⟨#[49, 48]⟩ 2
  have hb3 := Below.moved hb2 (I := w.heap.size + 1) (by omega) ⟨#[49, 48]⟩ 2
  clear hI1 hB1 hb1 hI2 hB2 hb2 c1 d0 f0 hn0 hW1
  generalize (W1.setCell ⟨w.heap.size, 0, none⟩ (.int .i64 y)) = V1 at *
  rw [rounds_succ]
  generalize V1.iterAt (w.heap.size + 1) ⟨#[49, 48]⟩ 2 = W2 at *
  have c0 : W2.cell? ⟨b, off, none⟩ = some (.int .i64 x) := cell_later hb3 g0
  have d1 : W2.cell? ⟨w.heap.size, 1, none⟩ = some (.int .i64 0) := hB3.cell 1 (by simp)
  have f1 := hB3.frozen 1
  go_wp2
  have hI4 := hI3.set ⟨w.heap.size, 1, none⟩ (.int .i64 x) (by simp)
  have hB4 : Blk (W2.setCell ⟨w.heap.size, 1, none⟩ (.int .i64 x)) w.heap.size [y, x] := hB3.set 1 x
  have hb4 : Below w.heap.size w (W2.setCell ⟨w.heap.size, 1, none⟩ (.int .i64 x)) := hb3.setCell (Nat.le_refl _) _
  have hn2 := fun ty => hI4.nd (by decide) ty
  clear hI3 hB3 hb3 c0 d1 f1 hn1
  generalize (W2.setCell ⟨w.heap.size, 1, none⟩ (.int .i64 x)) = V2 at *
  rw [rounds_succ]
  go_wp2
  go_ret
  exact ⟨rfl, hB4, hb4⟩
theorem at_to {v v' : Value} {d p : List Int} {w : World} (x : Int) (hd : Ints w v d) (hp : Ints w v' p) (ha : aok d p = true) (hx : atV d p = x) :
    Calls Tryz.prog 153 #[v, v'] w fun e w' => e = .returned (.tuple #[.int .i64 x, .int .i64 0]) ∧ Below w.heap.size w w' := by
  have hok : okd d = true := by
    simp only [aok, Bool.and_eq_true] at ha
    exact ha.1
  have := at_ok hd hp hok
  rw [atR, atE, ha, if_pos rfl, if_pos rfl, hx] at this
  exact this
set_option maxRecDepth 100000 in
set_option maxHeartbeats 2000000 in
theorem turn_bad {a0 a1 : Value} {s : Ten} {w : World} (ha : Tens w a0 a1 s) (hx : tok s = false) :
    Calls Tryz.prog 135 #[.agg #[a0, a1]] w fun e w' => e = .returned (.tuple #[.agg #[.slice none 0 0, .slice none 0 0], .int .i64 1]) ∧ Below w.heap.size w w' := by
  have hb : Below w.heap.size w (((w.alloc (.cells #[a0, a1] 156)).alloc (.cells #[.slice none 0 0, .slice none 0 0] 156)).alloc (.cells #[.slice none 0 0, .slice none 0 0] 156)) := (((Below.refl _ _).alloc (Nat.le_refl _) _).alloc (by simp) _).alloc (by simp; omega) _
  have HA : Hid (Tens (((w.alloc (.cells #[a0, a1] 156)).alloc (.cells #[.slice none 0 0, .slice none 0 0] 156)).alloc (.cells #[.slice none 0 0, .slice none 0 0] 156)) a0 a1 s) := ha.later hb
  have HB : Hid (Below w.heap.size w (((w.alloc (.cells #[a0, a1] 156)).alloc (.cells #[.slice none 0 0, .slice none 0 0] 156)).alloc (.cells #[.slice none 0 0, .slice none 0 0] 156))) := hb
  have HBX : Hid (Box (((w.alloc (.cells #[a0, a1] 156)).alloc (.cells #[.slice none 0 0, .slice none 0 0] 156)).alloc (.cells #[.slice none 0 0, .slice none 0 0] 156)) (w.heap.size + 1) (.slice none 0 0) (.slice none 0 0)) := by
    have := (Box.new (w.alloc (.cells #[a0, a1] 156)) (.slice none 0 0) (.slice none 0 0)).alloc (.cells #[.slice none 0 0, .slice none 0 0] 156)
    simp only [World.size_alloc] at this
    exact this
  obtain ⟨aa, an, ac, rfl⟩ := ha.1.shape3
  obtain ⟨ba, bn, bc, rfl⟩ := ha.2.shape3
  have HT : Hid (tkE s = 1) := by show _ = _; simp [tkE, hx]
  clear ha hb hx
  go_enter Tryz.func135, Tryz.ntmps135
  go_wp2_with fail
  refine wp_scope_jumps 0 (Jg 58 2 (w.heap.size + 1) w) (fun _ _ => 0) rfl ?_ ?_
  · go_wp2_with fail
    refine (tensor_to 1 HA.out HT.out).mono ?_
    rintro e w2 ⟨rfl, hb2⟩
    have HB2 : Hid (Below w.heap.size w w2) := Below.after HB.out hb2
    have HBX2 : Hid (Box w2 (w.heap.size + 1) (.slice none 0 0) (.slice none 0 0)) := HBX.out.later hb2
    clear hb2
    go_wp2
    go_step3
    exact ⟨rfl, rfl, rfl, rfl, HBX2.out, HB2.out⟩
  · rintro a w' ⟨hd, hs, h4, hbx, hbe⟩
    obtain ⟨G, hg, e⟩ := act58 a hd hs
    rw [hg] at h4
    subst e
    rw [h4]
    have l0 := hbx.c0
    have l1 := hbx.c1
    have m0 := hbx.f 0
    have m1 := hbx.f 1
    have HBS : Hid (Box _ _ _ _) := hbx.set (.slice none 0 0) (.slice none 0 0)
    have HBE : Hid (Below w.heap.size w w') := hbe
    clear hg hd hs hbx h4 hbe
    go_wp2
    rw [jump_ret]
    have hr0 := HBS.out.c0
    have hr1 := HBS.out.c1
    exact bodyPost_ret (v := .tuple #[.agg #[.slice none 0 0, .slice none 0 0], .int .i64 1]) (by simp [results, Tryz.results135, go_sem, hr0, hr1]) rfl ⟨rfl, (HBE.out.setCell (by simp) _).setCell (by simp) _⟩
end Go.Proofs.YtkojdigaoihkpaaGreatDoor

end
