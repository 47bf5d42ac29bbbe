/- Part 4 of the texts that the theorem leans on. -/
import Derived.Test.YtkojdigaoihkpaaGreatDoorA03
section
namespace Go.Proofs.YtkojdigaoihkpaaGreatDoor
set_option linter.unusedVariables false
set_option linter.unusedSimpArgs false
set_option maxRecDepth 100000
open Go.RowKit

set_option maxRecDepth 100000 in
set_option maxHeartbeats 2000000 in
theorem turn_four {a0 a1 : Value} {s : Ten} {w : World} (ha : Tens w a0 a1 s) (hx : tok s = true) (h2 : s.1.length ≠ 2) :
    Calls Tryz.prog 135 #[.agg #[a0, a1]] w fun e w' => e = .returned (.tuple #[.agg #[.slice none 0 0, .slice none 0 0], .int .i64 4]) ∧ Below w.heap.size w w' := by
  have hb : Below w.heap.size w (((w.alloc (.cells #[a0, a1] 156)).alloc (.cells #[.slice none 0 0, .slice none 0 0] 156)).alloc (.cells #[.slice none 0 0, .slice none 0 0] 156)) := (((Below.refl _ _).alloc (Nat.le_refl _) _).alloc (by simp) _).alloc (by simp; omega) _
  have HA : Hid (Tens (((w.alloc (.cells #[a0, a1] 156)).alloc (.cells #[.slice none 0 0, .slice none 0 0] 156)).alloc (.cells #[.slice none 0 0, .slice none 0 0] 156)) a0 a1 s) := ha.later hb
  have HB : Hid (Below w.heap.size w (((w.alloc (.cells #[a0, a1] 156)).alloc (.cells #[.slice none 0 0, .slice none 0 0] 156)).alloc (.cells #[.slice none 0 0, .slice none 0 0] 156))) := hb
  have HBA : Hid (Box (((w.alloc (.cells #[a0, a1] 156)).alloc (.cells #[.slice none 0 0, .slice none 0 0] 156)).alloc (.cells #[.slice none 0 0, .slice none 0 0] 156)) w.heap.size a0 a1) := ((Box.new w a0 a1).alloc _).alloc _
  have HBX : Hid (Box (((w.alloc (.cells #[a0, a1] 156)).alloc (.cells #[.slice none 0 0, .slice none 0 0] 156)).alloc (.cells #[.slice none 0 0, .slice none 0 0] 156)) (w.heap.size + 1) (.slice none 0 0) (.slice none 0 0)) := by
    have := (Box.new (w.alloc (.cells #[a0, a1] 156)) (.slice none 0 0) (.slice none 0 0)).alloc (.cells #[.slice none 0 0, .slice none 0 0] 156)
    simp only [World.size_alloc] at this
    exact this
  obtain ⟨n, hn⟩ : ∃ n, s.1.length = n := ⟨_, rfl⟩
  have hne : ((n : Int) != 2) = true := by simp; omega
  obtain ⟨aa, ac, ea⟩ := ha.1.shape
  rw [hn] at ea
  subst ea
  obtain ⟨ba, bn, bc, rfl⟩ := ha.2.shape3
  have HT : Hid (tkE s = 0) := by show _ = _; simp [tkE, hx]
  clear ha hb hx h2 hn
  go_enter Tryz.func135, Tryz.ntmps135
  go_wp2_with fail
  refine wp_scope_jumps 1 (Jg 58 2 (w.heap.size + 1) w) (fun _ _ => 0) rfl ?_ ?_
  · go_wp2_with fail
    refine (tensor_to 0 HA.out HT.out).mono ?_
    rintro e w2 ⟨rfl, hb2⟩
    have hc0 := (HBA.out.later hb2).c0
    have HB2 : Hid (Below w.heap.size w w2) := Below.after HB.out hb2
    have HBX2 : Hid (Box w2 (w.heap.size + 1) (.slice none 0 0) (.slice none 0 0)) := HBX.out.later hb2
    clear hb2
    go_wp2
    go_step3
    exact ⟨rfl, rfl, rfl, rfl, HBX2.out, HB2.out⟩
  · rintro a w' ⟨hd, hs, h4, hbx, hbe⟩
    obtain ⟨G, hg, e⟩ := act58 a hd hs
    rw [hg] at h4
    subst e
    rw [h4]
    have l0 := hbx.c0
    have l1 := hbx.c1
    have m0 := hbx.f 0
    have m1 := hbx.f 1
    have HBS : Hid (Box _ _ _ _) := hbx.set (.slice none 0 0) (.slice none 0 0)
    have HBE : Hid (Below w.heap.size w w') := hbe
    clear hg hd hs hbx h4 hbe
    go_wp2
    rw [jump_ret]
    have hr0 := HBS.out.c0
    have hr1 := HBS.out.c1
    exact bodyPost_ret (v := .tuple #[.agg #[.slice none 0 0, .slice none 0 0], .int .i64 4]) (by simp [results, Tryz.results135, go_sem, hr0, hr1]) rfl ⟨rfl, (HBE.out.setCell (by simp) _).setCell (by simp) _⟩
set_option maxRecDepth 100000 in
set_option maxHeartbeats 4000000 in
theorem turn_ok {a0 a1 : Value} {p q : Nat} {l : List Int} {w : World} (ha : Tens w a0 a1 ([(p : Int), (q : Int)], l)) (hx : tok ([(p : Int), (q : Int)], l) = true) :
    Calls Tryz.prog 135 #[.agg #[a0, a1]] w fun e w' => ∃ x0 x1, e = .returned (.tuple #[.agg #[x0, x1], .int .i64 0]) ∧ OwnT w' w.heap.size x0 x1 ([(q : Int), (p : Int)], tns p q l) ∧ Below w.heap.size w w' := by
  have hok : okd [(p : Int), (q : Int)] = true := tok_okd hx
  obtain ⟨hp1, hp8, hq1, hq8⟩ := okd2 hok
  have hok2 : okd [(q : Int), (p : Int)] = true := okd2_mk ⟨hq1, hq8, hp1, hp8⟩
  obtain ⟨N, hN⟩ : ∃ N, p * q = N := ⟨_, rfl⟩
  have hl : l.length = N := by
    have h := tok_len hx
    have : prd [(p : Int), (q : Int)] = ((p * q : Nat) : Int) := by simp [prd]
    rw [this, hN] at h
    exact Int.ofNat.inj h
  have hpq : (prd [(q : Int), (p : Int)]).toNat = N := by
    have : prd [(q : Int), (p : Int)] = ((q * p : Nat) : Int) := by simp [prd]
    rw [this, Int.toNat_natCast, Nat.mul_comm, hN]
  have hpN : prd [(p : Int), (q : Int)] = N := by
    have : prd [(p : Int), (q : Int)] = ((p * q : Nat) : Int) := by simp [prd]
    rw [this, hN]
  obtain ⟨hn1, hn64⟩ := tok_pos hx
  simp only at hn1 hn64
  rw [hl] at hn1 hn64
  have HN : Hid (p * q = N) := hN
  have HP8 : Hid (p ≤ 8 ∧ q ≤ 8) := ⟨by omega, by omega⟩
  have HPQ : Hid ((prd [(q : Int), (p : Int)]).toNat = N) := hpq
  have HPN : Hid (prd [(p : Int), (q : Int)] = N) := hpN
  have HOK : Hid (okd [(p : Int), (q : Int)] = true) := hok
  have HOK2 : Hid (okd [(q : Int), (p : Int)] = true) := hok2
  have HT : Hid (tkE ([(p : Int), (q : Int)], l) = 0) := by show _ = _; simp [tkE, hx]
  have hb : Below w.heap.size w (((w.alloc (.cells #[a0, a1] 156)).alloc (.cells #[.slice none 0 0, .slice none 0 0] 156)).alloc (.cells #[.slice none 0 0, .slice none 0 0] 156)) := (((Below.refl _ _).alloc (Nat.le_refl _) _).alloc (by simp) _).alloc (by simp; omega) _
  have HA : Hid (Tens (((w.alloc (.cells #[a0, a1] 156)).alloc (.cells #[.slice none 0 0, .slice none 0 0] 156)).alloc (.cells #[.slice none 0 0, .slice none 0 0] 156)) a0 a1 ([(p : Int), (q : Int)], l)) := ha.later hb
  have HB : Hid (Below w.heap.size w (((w.alloc (.cells #[a0, a1] 156)).alloc (.cells #[.slice none 0 0, .slice none 0 0] 156)).alloc (.cells #[.slice none 0 0, .slice none 0 0] 156))) := hb
  have HBA : Hid (Box (((w.alloc (.cells #[a0, a1] 156)).alloc (.cells #[.slice none 0 0, .slice none 0 0] 156)).alloc (.cells #[.slice none 0 0, .slice none 0 0] 156)) w.heap.size a0 a1) := ((Box.new w a0 a1).alloc _).alloc _
  have HBX : Hid (Box (((w.alloc (.cells #[a0, a1] 156)).alloc (.cells #[.slice none 0 0, .slice none 0 0] 156)).alloc (.cells #[.slice none 0 0, .slice none 0 0] 156)) (w.heap.size + 1) (.slice none 0 0) (.slice none 0 0)) := by
    have := (Box.new (w.alloc (.cells #[a0, a1] 156)) (.slice none 0 0) (.slice none 0 0)).alloc (.cells #[.slice none 0 0, .slice none 0 0] 156)
    simp only [World.size_alloc] at this
    exact this
  have HBT : Hid (Box (((w.alloc (.cells #[a0, a1] 156)).alloc (.cells #[.slice none 0 0, .slice none 0 0] 156)).alloc (.cells #[.slice none 0 0, .slice none 0 0] 156)) (w.heap.size + 1 + 1) (.slice none 0 0) (.slice none 0 0)) := by
    have := Box.new ((w.alloc (.cells #[a0, a1] 156)).alloc (.cells #[.slice none 0 0, .slice none 0 0] 156)) (.slice none 0 0) (.slice none 0 0)
    simp only [World.size_alloc] at this
    exact this
  have HL : Hid (l.length = N) := hl
  rcases ha.2.cases with ⟨e, _⟩ | ⟨ab, ao, ac, ea, hab0, ha1, _, HCA⟩
  · simp only at e; rw [e] at hl; simp at hl; omega
  simp only at HCA hab0 ha1 ea
  have hab : ab < w.heap.size := World.block_lt_of_cell? _ _ (HCA.out 0 hab0)
  have HCD : Hid (∀ i, i < N → w.cell? ⟨ab, ao + i, none⟩ = some (.int .i64 (l.getD i 0))) := fun i hi => Ints.cellD (n := 0) (c := 0) HCA i (by rw [hl]; exact hi)
  rw [hl] at ea ha1
  subst ea
  obtain ⟨aa, ac', ed⟩ := ha.1.shape
  have ed' : a0 = .slice aa 2 ac' := ed
  subst ed'
  have HA0 : Hid (Ints w (.slice aa 2 ac') [(p : Int), (q : Int)]) := ha.1
  clear ed ha hb hx hok hok2 hN hl hpq hpN hab0 HCA
  go_enter Tryz.func135, Tryz.ntmps135
  go_wp2_with fail
  refine wp_scope_jumps 0 (fun _ _ => False) (fun _ _ => 0) rfl ?_ ?_
  · go_wp2_with fail
    refine (tensor_to 0 HA.out HT.out).mono ?_
    rintro e w1 ⟨rfl, hb1⟩
    have HB1 : Hid (Below w.heap.size w w1) := Below.after HB.out hb1
    have hs1 := hb1.size
    simp at hs1
    have HBA1 : Hid (Box w1 w.heap.size _ _) := HBA.out.later hb1
    have HBX1 : Hid (Box w1 (w.heap.size + 1) _ _) := HBX.out.later hb1
    have HBT1 : Hid (Box w1 (w.heap.size + 1 + 1) _ _) := HBT.out.later hb1
    have HA1 : Hid (Ints w1 (.slice aa 2 ac') [(p : Int), (q : Int)]) := (HA.out.later hb1).1
    have c0 := HBA1.out.c0
    clear hb1 HA HB HBA HBX HBT
    go_wp2_with fail
    refine (crossed_any HA1.out).mono ?_
    rintro e w2 ⟨rfl, hk2, hb2⟩
    have hs2 := hb2.size
    have hkl2 := hk2.lt
    have HB2 : Hid (Below w.heap.size w w2) := Below.after HB1.out hb2
    have HK2 : Hid (Ints w2 (.slice (some ⟨w1.heap.size, 0, none⟩) 2 2) [(q : Int), (p : Int)]) := hk2.ints 2 2 rfl (Nat.le_refl _) (by decide)
    have HBA2 : Hid (Box w2 w.heap.size _ _) := HBA1.out.later hb2
    have HBX2 : Hid (Box w2 (w.heap.size + 1) _ _) := HBX1.out.later hb2
    have HBT2 : Hid (Box w2 (w.heap.size + 1 + 1) _ _) := HBT1.out.later hb2
    clear hb2 hk2 c0
    go_wp2_with fail
    refine (fill_own 0 HK2.out HOK2.out).mono ?_
    rw [HPQ.out]
    rintro e w3 ⟨x0, b1, rfl, ho, hbk, ⟨hb1l, hap⟩, hb3⟩
    have hs3 := hb3.size
    have hbl := hbk.lt
    obtain ⟨xa, xn, xc, ex⟩ := ho.ints.shape3
    have ho2 := ho.ints.shape
    subst ex
    have hxn : xn = 2 := by obtain ⟨_, _, e⟩ := ho2; simp at e; exact e.2.1
    subst hxn
    have HB3 : Hid (Below w.heap.size w w3) := Below.after HB2.out hb3
    have HBA3 : Hid (Box w3 w.heap.size _ _) := HBA2.out.later hb3
    have HBX3 : Hid (Box w3 (w.heap.size + 1) _ _) := HBX2.out.later hb3
    have hbt3 := HBT2.out.later hb3
    have t0 := hbt3.c0
    have t1 := hbt3.c1
    have g0 := hbt3.f 0
    have g1 := hbt3.f 1
    have hba4 := (HBA3.out.other ⟨w.heap.size + 1 + 1, 0, none⟩ (.slice xa 2 xc) (by simp; omega)).other ⟨w.heap.size + 1 + 1, 1, none⟩ (.slice (some ⟨b1, 0, none⟩) N N) (by simp; omega)
    have d1 := hba4.c1
    have HBA4 : Hid (Box _ w.heap.size _ _) := hba4
    have HBX4 : Hid (Box _ (w.heap.size + 1) _ _) := (HBX3.out.other ⟨w.heap.size + 1 + 1, 0, none⟩ (.slice xa 2 xc) (by simp)).other ⟨w.heap.size + 1 + 1, 1, none⟩ (.slice (some ⟨b1, 0, none⟩) N N) (by simp)
    have HBT4 : Hid (Box _ (w.heap.size + 1 + 1) _ _) := hbt3.set (.slice xa 2 xc) (.slice (some ⟨b1, 0, none⟩) N N)
    have hxb : ∀ k, (Value.slice xa 2 xc).ownBlock = some k → k ≠ w.heap.size + 1 + 1 := fun k hk => by have := ho.frm k hk; omega
    have HO4 : Hid (Own _ w2.heap.size (.slice xa 2 xc) [(q : Int), (p : Int)]) := (ho.setCell ⟨w.heap.size + 1 + 1, 0, none⟩ (.slice xa 2 xc) hxb).setCell ⟨w.heap.size + 1 + 1, 1, none⟩ (.slice (some ⟨b1, 0, none⟩) N N) hxb
    have HK4 : Hid (Blk ((w3.setCell ⟨w.heap.size + 1 + 1, 0, none⟩ (.slice xa 2 xc)).setCell ⟨w.heap.size + 1 + 1, 1, none⟩ (.slice (some ⟨b1, 0, none⟩) N N)) b1 (trn p q l 0)) := by
      show Blk _ _ _
      rw [trn_zero, HN.out]
      exact (hbk.setOther _ _ (by simp; omega)).setOther _ _ (by simp; omega)
    have HB4 : Hid (Below w.heap.size w _) := (HB3.out.setCell (p := ⟨w.heap.size + 1 + 1, 0, none⟩) (by simp; omega) (.slice xa 2 xc)).setCell (p := ⟨w.heap.size + 1 + 1, 1, none⟩) (by simp; omega) (.slice (some ⟨b1, 0, none⟩) N N)
    have HAP : Hid (∀ k, (Value.slice xa 2 xc).ownBlock = some k → k ≠ b1) := hap
    have hsz4 : ((w3.setCell ⟨w.heap.size + 1 + 1, 0, none⟩ (.slice xa 2 xc)).setCell ⟨w.heap.size + 1 + 1, 1, none⟩ (.slice (some ⟨b1, 0, none⟩) N N)).heap.size = w3.heap.size := by simp
    clear hbt3 hba4 ho ho2 hbk hap hb3 hxb
    go_wp2
    generalize ((w3.setCell ⟨w.heap.size + 1 + 1, 0, none⟩ (.slice xa 2 xc)).setCell ⟨w.heap.size + 1 + 1, 1, none⟩ (.slice (some ⟨b1, 0, none⟩) N N)) = V at HBA4 HBX4 HBT4 HO4 HK4 HB4 d1 hsz4 ⊢
    clear t0 t1 g0 g1
    go_loopw [29] (fun i w' => ∃ j : Nat, j ≤ N ∧ i = .int .i64 j ∧ Blk w' b1 (trn p q l j) ∧ Bu b1 V w') (fun i _ => N - (intOf i).toNat)
    case atStart => exact ⟨0, by omega, rfl, HK4.out, Bu.refl _ _⟩
    case round =>
      obtain ⟨j, hj, rfl, hB, hbu⟩ := hrel
      have HKR : Hid (Blk wr b1 (trn p q l j)) := hB
      have HBU : Hid (Bu b1 V wr) := hbu
      have HBW : Hid (Below w.heap.size w wr) := hbu.below HB4.out (by omega) (by omega)
      have hsr := hbu.size
      clear hB hbu
      by_cases hlt : j < N
      · have hcx := cell_later HBW.out (HCD.out j hlt)
        have hba := (HBU.out.box HBA4.out (by omega)).c0
        have hjp : j < p * q := by rw [HN.out]; exact hlt
        obtain ⟨z1, z2⟩ := cross_at p q j HP8.out.1 HP8.out.2 hjp
        have z3 : tinv q p j < N := by
          have := tinv_lt (m := q) (n := p) (q := j) (by rw [Nat.mul_comm]; exact hjp)
          rw [Nat.mul_comm, HN.out] at this
          exact this
        have HAO : Hid (aok [(q : Int), (p : Int)] [((j % q : Nat) : Int), ((j / q : Nat) : Int)] = true) := z1
        have HAV : Hid (atV [(q : Int), (p : Int)] [((j % q : Nat) : Int), ((j / q : Nat) : Int)] = (tinv q p j : Nat)) := z2
        have HTS : Hid ((trn p q l j).set (tinv q p j) (l.getD j 0) = trn p q l (j + 1)) := trn_set p q l j hjp
        clear hjp z1 z2
        obtain ⟨T, hT⟩ : ∃ T, tinv q p j = T := ⟨_, rfl⟩
        rw [hT] at HAV HTS z3
        clear hT
        go_wp2_with fail
        refine (where_ok (j : Int) (HA0.out.later HBW.out) HOK.out (by omega) (by rw [HPN.out]; omega)).mono ?_
        rw [whr2]
        rintro e w5 ⟨P, hP, rfl, hk5, hb5⟩
        have hs5 := hb5.size
        have HB5 : Hid (Below wr.heap.size wr w5) := hb5
        have HP5 : Hid (Ints w5 (.slice (some ⟨P, 0, none⟩) 2 2) [((j / q : Nat) : Int), ((j % q : Nat) : Int)]) := hk5.ints 2 2 rfl (Nat.le_refl _) (by decide)
        have HO5 : Hid (Ints w5 (.slice xa 2 xc) [(q : Int), (p : Int)]) := (HBU.out.ints HO4.out.ints HAP.out).later hb5
        have HT5 : Hid (Box w5 (w.heap.size + 1 + 1) _ _) := (HBU.out.box HBT4.out (by omega)).later hb5
        have hbt := HT5.out.c0
        clear hk5 hb5
        go_wp2_with fail
        go_region_held3 (fun w' => w'.cell? ⟨w.heap.size + 1 + 1, 0, none⟩ = some (.slice xa 2 xc)) (go_keep)
          (first
            | (go_at_call 151; refine (crossed_any (HP5.out.later (Below.refl _ _).drew)).mono ?_; rintro e w6 ⟨rfl, hk6, hb6⟩; have HQ6 : Hid (Below w5.heap.size w5 w6) := Below.after (Below.refl _ _).drew hb6; have HK6 : Hid (Blk w6 w5.heap.size [((j % q : Nat) : Int), ((j / q : Nat) : Int)]) := hk6; have k0 := cell_later HQ6.out hbt; clear hk6 hb6)
            | (go_at_call 153; refine (at_to (T : Nat) (HO5.out.later HQ6.out) (HK6.out.ints 2 2 rfl (Nat.le_refl _) (by decide)) HAO.out HAV.out).mono ?_; rintro e w7 ⟨rfl, hb7⟩; have HQ7 : Hid (Below w5.heap.size w5 w7) := Below.after HQ6.out hb7; have k1 := cell_later HQ7.out hbt; clear hb7))
        have hbr := HKR.out.lt
        have HK7 : Hid (Blk w7 b1 (trn p q l j)) := (HKR.out.later HB5.out hbr).later HQ7.out (by omega)
        have HBU7 : Hid (Bu b1 V w7) := (HBU.out.after HB5.out).after HQ7.out
        have hbt1 := (HT5.out.later HQ7.out).c1
        have hf := HK7.out.frozen T
        obtain ⟨x, hc⟩ : ∃ x, w7.cell? ⟨b1, T, none⟩ = some x := ⟨_, HK7.out.cell T (by rw [trn_length, HN.out]; exact z3)⟩
        clear k0 k1
        go_wp2
        go_roundw
        case rel =>
          refine ⟨j + 1, by omega, by go_num, ?_, HBU7.out.setCell _⟩
          rw [← HTS.out]
          exact HK7.out.set T (l.getD j 0)
        case measure => simp [intOf]; omega
      · have hj' : j = N := by omega
        subst hj'
        have hbt := HBU.out.box HBT4.out (by omega)
        have t0 := hbt.c0
        have t1 := hbt.c1
        have hbx := HBU.out.box HBX4.out (by omega)
        have l0 := hbx.c0
        have l1 := hbx.c1
        have m0 := hbx.f 0
        have m1 := hbx.f 1
        have HBS : Hid (Box _ _ _ _) := hbx.set (.slice xa 2 xc) (.slice (some ⟨b1, 0, none⟩) j j)
        have HO5 : Hid (Own wr w2.heap.size (.slice xa 2 xc) [(q : Int), (p : Int)]) := HO4.out.at fun k hk => HBU.out.block k (HO4.out.lt k hk) (HAP.out k hk)
        have HK5 : Hid (Own wr w2.heap.size (.slice (some ⟨b1, 0, none⟩) j j) (tns p q l)) := by
          have h := HKR.out
          have e : trn p q l j = tns p q l := by rw [← HN.out, trn_all]
          rw [e] at h
          exact Blk.own h hb1l (by rw [tns_length, HN.out]) (by rw [tns_length, HN.out]; unfold big; omega)
        clear hbx hbt
        go_wp2
        rw [jump_ret]
        have hr0 := HBS.out.c0
        have hr1 := HBS.out.c1
        refine bodyPost_ret (v := .tuple #[.agg #[.slice xa 2 xc, .slice (some ⟨b1, 0, none⟩) j j], .int .i64 0]) (by simp [results, Tryz.results135, go_sem, hr0, hr1]) rfl ⟨_, _, rfl, ?_, ?_⟩
        · have h1 : OwnT wr w2.heap.size (.slice xa 2 xc) (.slice (some ⟨b1, 0, none⟩) j j) ([(q : Int), (p : Int)], tns p q l) := ⟨HO5.out, HK5.out, fun k hk e => HAP.out k hk (by simp [Value.ownBlock] at e; exact e.symm)⟩
          exact ((h1.setCell _ _ (by simp; omega)).setCell _ _ (by simp; omega)).mono (by omega)
        · exact (HBW.out.setCell (by simp) _).setCell (by simp) _
  · intro a w' h
    exact h.elim
theorem turn_any {a0 a1 : Value} {s : Ten} {w : World} (ha : Tens w a0 a1 s) :
    Calls Tryz.prog 135 #[.agg #[a0, a1]] w fun e w' => ∃ x0 x1, e = .returned (.tuple #[.agg #[x0, x1], .int .i64 (trE s)]) ∧ OwnT w' w.heap.size x0 x1 (trR s) ∧ Below w.heap.size w w' := by
  cases ht : tok s with
  | false =>
    have he : trE s = 1 := by rw [trE, ht]; rfl
    refine (turn_bad ha ht).mono ?_
    rintro e w' ⟨rfl, hb⟩
    refine ⟨.slice none 0 0, .slice none 0 0, by rw [he], ?_, hb⟩
    rw [trR, he]
    exact OwnT.nil _ _
  | true =>
    by_cases h2 : s.1.length = 2
    · have he : trE s = 0 := by rw [trE, ht, if_pos h2]; rfl
      obtain ⟨x, y, hxy⟩ := two_of h2
      obtain ⟨d, l⟩ := s
      simp only at hxy
      subst hxy
      obtain ⟨h3, _, h5, _⟩ := okd2 (tok_okd ht)
      obtain ⟨p, rfl⟩ : ∃ p : Nat, x = p := ⟨x.toNat, by omega⟩
      obtain ⟨q, rfl⟩ : ∃ q : Nat, y = q := ⟨y.toNat, by omega⟩
      rw [trR, he, if_pos rfl]
      have := turn_ok ha ht
      simpa using this
    · have he : trE s = 4 := by rw [trE, ht, if_neg h2]; rfl
      refine (turn_four ha ht h2).mono ?_
      rintro e w' ⟨rfl, hb⟩
      refine ⟨.slice none 0 0, .slice none 0 0, by rw [he], ?_, hb⟩
      rw [trR, he]
      exact OwnT.nil _ _
set_option maxHeartbeats 1000000 in
theorem add_any {a0 a1 b0 b1 : Value} {s t : Ten} {w : World} (ha : Tens w a0 a1 s) (hb' : Tens w b0 b1 t) :
    Calls Tryz.prog 129 #[.agg #[a0, a1], .agg #[b0, b1]] w fun e w' => ∃ x0 x1, e = .returned (.tuple #[.agg #[x0, x1], .int .i64 (fitE s t)]) ∧ OwnT w' w.heap.size x0 x1 (eachR opA s t) ∧ Below w.heap.size w w' := by
  have hb : Below w.heap.size w (((w.alloc (.cells #[a0, a1] 156)).alloc (.cells #[b0, b1] 156)).alloc (.cells #[.slice none 0 0, .slice none 0 0] 156)) := (((Below.refl _ _).alloc (Nat.le_refl _) _).alloc (by simp) _).alloc (by simp; omega) _
  have HA : Hid (Tens (((w.alloc (.cells #[a0, a1] 156)).alloc (.cells #[b0, b1] 156)).alloc (.cells #[.slice none 0 0, .slice none 0 0] 156)) a0 a1 s) := ha.later hb
  have HT : Hid (Tens (((w.alloc (.cells #[a0, a1] 156)).alloc (.cells #[b0, b1] 156)).alloc (.cells #[.slice none 0 0, .slice none 0 0] 156)) b0 b1 t) := hb'.later hb
  have HB : Hid (Below w.heap.size w (((w.alloc (.cells #[a0, a1] 156)).alloc (.cells #[b0, b1] 156)).alloc (.cells #[.slice none 0 0, .slice none 0 0] 156))) := hb
  have HBX : Hid (Box (((w.alloc (.cells #[a0, a1] 156)).alloc (.cells #[b0, b1] 156)).alloc (.cells #[.slice none 0 0, .slice none 0 0] 156)) (w.heap.size + 1 + 1) (.slice none 0 0) (.slice none 0 0)) := by
    have := Box.new ((w.alloc (.cells #[a0, a1] 156)).alloc (.cells #[b0, b1] 156)) (.slice none 0 0) (.slice none 0 0)
    simp only [World.size_alloc] at this
    exact this
  clear ha hb' hb
  go_enter Tryz.func129, Tryz.ntmps129
  go_wp2_with fail
  refine (each_any (op := opA) deed_add HA.out HT.out).mono ?_
  rintro e w1 ⟨x0, x1, rfl, ho, hb1⟩
  simp only [World.size_alloc] at ho
  have HO : Hid (OwnT w1 (w.heap.size + 1 + 1 + 1) x0 x1 (eachR opA s t)) := ho
  have HB1 : Hid (Below w.heap.size w w1) := Below.after HB.out hb1
  have hbx := HBX.out.later hb1
  have hx0' := hbx.c0
  have hx1 := hbx.c1
  have hf0 := hbx.f 0
  have hf1 := hbx.f 1
  obtain ⟨xa, xc, rfl⟩ := ho.dims.ints.shape
  obtain ⟨ya, yc, rfl⟩ := ho.data.ints.shape
  have HBS : Hid (Box _ _ _ _) := hbx.set (.slice xa (eachR opA s t).1.length xc) (.slice ya (eachR opA s t).2.length yc)
  clear hb1 hbx ho
  go_wp2
  have hr0 := HBS.out.c0
  have hr1 := HBS.out.c1
  refine bodyPost_ret (v := .tuple #[.agg #[.slice xa (eachR opA s t).1.length xc, .slice ya (eachR opA s t).2.length yc], .int .i64 (fitE s t)]) (by simp [results, Tryz.results129, go_sem, hr0, hr1]) rfl ⟨_, _, rfl, ?_, ?_⟩
  · exact ((HO.out.setCell _ _ (by simp)).setCell _ _ (by simp)).mono (by omega)
  · exact (HB1.out.setCell (by simp; omega) _).setCell (by simp; omega) _
theorem add_to {a0 a1 b0 b1 : Value} {s t : Ten} {w : World} (x : Int) (u : Ten) (ha : Tens w a0 a1 s) (hb' : Tens w b0 b1 t) (hx : fitE s t = x) (hu : eachR opA s t = u) :
    Calls Tryz.prog 129 #[.agg #[a0, a1], .agg #[b0, b1]] w fun e w' => ∃ x0 x1, e = .returned (.tuple #[.agg #[x0, x1], .int .i64 x]) ∧ OwnT w' w.heap.size x0 x1 u ∧ Below w.heap.size w w' := by
  subst hx hu
  exact add_any ha hb'
/-- The first j products of row i and column k, summed up. -/
def mxp (a b : List Int) (n q i k j : Nat) : Int := wrap64 (sg (fun j => a.getD (i * n + j) 0 * b.getD (j * q + k) 0) j)
theorem mxp_zero (a b : List Int) (n q i k : Nat) : mxp a b n q i k 0 = 0 := by rw [mxp, sg]; unfold wrap64; omega
theorem mxp_succ (a b : List Int) (n q i k j : Nat) : wrap64 (mxp a b n q i k j + wrap64 (a.getD (i * n + j) 0 * b.getD (j * q + k) 0)) = mxp a b n q i k (j + 1) := by
  rw [mxp, mxp, sg]
  unfold wrap64
  omega
set_option maxRecDepth 100000 in
set_option maxHeartbeats 2000000 in
theorem crossed_ok {a0 a1 b0 b1 : Value} {p q r i k Nq Mq : Nat} {l m : List Int} {w : World} {db dof dc ab ao ac eb eof ec bb bo bc : Nat}
    (A : MatC w a0 a1 p q Nq l db dof dc ab ao ac) (B : MatC w b0 b1 q r Mq m eb eof ec bb bo bc) (hNq : p * q = Nq) (hMq : q * r = Mq) (hn64 : Nq ≤ 64) (hm64 : Mq ≤ 64) (hp8 : p ≤ 8) (hq8 : q ≤ 8) (hr8 : r ≤ 8) (hi : i < p) (hk : k < r) :
    Calls Tryz.prog 150 #[.agg #[a0, a1], .agg #[b0, b1], .int .i64 i, .int .i64 k] w fun e w' => e = .returned (.int .i64 (mxe l m q r i k)) ∧ Below w.heap.size w w' := by
  obtain rfl := A.e0
  obtain rfl := A.e1
  obtain rfl := B.e0
  obtain rfl := B.e1
  have hdc := A.hdc
  have hec := B.hdc
  have hac := A.hac
  have hbc := B.hac
  have HNM : Hid (p * q = Nq ∧ q * r = Mq) := ⟨hNq, hMq⟩
  obtain ⟨U, hU⟩ : ∃ U, U = ((w.alloc (.cells #[(.slice (some ⟨db, dof, none⟩) 2 dc), (.slice (some ⟨ab, ao, none⟩) Nq ac)] 156)).alloc (.cells #[(.slice (some ⟨eb, eof, none⟩) 2 ec), (.slice (some ⟨bb, bo, none⟩) Mq bc)] 156)) := ⟨_, rfl⟩
  have hb : Below w.heap.size w U := by rw [hU]; exact ((Below.refl _ _).alloc (Nat.le_refl _) _).alloc (by simp) _
  have HB : Hid (Below w.heap.size w U) := hb
  have HBA : Hid (Box U w.heap.size (.slice (some ⟨db, dof, none⟩) 2 dc) (.slice (some ⟨ab, ao, none⟩) Nq ac)) := by show Box _ _ _ _; rw [hU]; exact (Box.new w _ _).alloc _
  have HBB : Hid (Box U (w.heap.size + 1) (.slice (some ⟨eb, eof, none⟩) 2 ec) (.slice (some ⟨bb, bo, none⟩) Mq bc)) := by
    show Box _ _ _ _
    have := Box.new (w.alloc (.cells #[(.slice (some ⟨db, dof, none⟩) 2 dc), (.slice (some ⟨ab, ao, none⟩) Nq ac)] 156)) (.slice (some ⟨eb, eof, none⟩) 2 ec) (.slice (some ⟨bb, bo, none⟩) Mq bc)
    simp only [World.size_alloc] at this
    rw [hU]
    exact this
  have c0 := HBA.out.c0
  have c1 := HBA.out.c1
  have c2 := HBB.out.c0
  have c3 := HBB.out.c1
  have c4 := cell_later hb A.c1
  have c5 := cell_later hb B.c1
  have HYA : Hid (∀ i, i < Nq → U.cell? ⟨ab, ao + i, none⟩ = some (.int .i64 (l.getD i 0))) := fun i hi => cell_later hb (A.cd i hi)
  have HYB : Hid (∀ i, i < Mq → U.cell? ⟨bb, bo + i, none⟩ = some (.int .i64 (m.getD i 0))) := fun i hi => cell_later hb (B.cd i hi)
  clear A B hb hNq hMq
  go_enter Tryz.func150, Tryz.ntmps150
  go_wp2_with fail
  rw [← hU]
  clear hU
  go_quiet (fail)
  go_wp2
  go_loopw [9, 22] (fun y x w' => ∃ j n : Nat, j ≤ q ∧ x = .int .i64 j ∧ y = .int .i64 (mxp l m q r i k j) ∧ w' = U.drewN n) (fun _ x _ => q - (intOf x).toNat)
  case atStart => exact ⟨0, _, by omega, rfl, by rw [mxp_zero], rfl⟩
  case round =>
    obtain ⟨j, n, hj, rfl, rfl, rfl⟩ := hrel
    by_cases hlj : j < q
    · have hiq : i * q + j < p * q := rc_lt hi hlj
      have hjr : j * r + k < q * r := rc_lt hlj hk
      rw [HNM.out.1] at hiq
      rw [HNM.out.2] at hjr
      have HS : Hid (wrap64 (mxp l m q r i k j + wrap64 (l.getD (i * q + j) 0 * m.getD (j * r + k) 0)) = mxp l m q r i k (j + 1)) := mxp_succ l m q r i k j
      have e0 : (i : Int) * q = ((i * q : Nat) : Int) := by simp
      have e1 : (j : Int) * r = ((j * r : Nat) : Int) := by simp
      obtain ⟨iq, hiq'⟩ : ∃ x, i * q = x := ⟨_, rfl⟩
      obtain ⟨jr, hjr'⟩ : ∃ x, j * r = x := ⟨_, rfl⟩
      rw [hiq'] at hiq e0 HS
      rw [hjr'] at hjr e1 HS
      have z0 : IntKind.i64.wrap ((i : Int) * q) = (iq : Int) := by rw [e0]; exact wrap_small _ (by omega) (by omega)
      have z1 : IntKind.i64.wrap ((j : Int) * r) = (jr : Int) := by rw [e1]; exact wrap_small _ (by omega) (by omega)
      have z2 : IntKind.i64.wrap ((iq : Int) + j) = ((iq + j : Nat) : Int) := by rw [wrap_small _ (by omega) (by omega)]; simp
      have z3 : IntKind.i64.wrap ((jr : Int) + k) = ((jr + k : Nat) : Int) := by rw [wrap_small _ (by omega) (by omega)]; simp
      obtain ⟨R, hR⟩ : ∃ x, iq + j = x := ⟨_, rfl⟩
      obtain ⟨T, hT⟩ : ∃ x, jr + k = x := ⟨_, rfl⟩
      rw [hR] at z2 hiq HS
      rw [hT] at z3 hjr HS
      have v0' := HYA.out R hiq
      have v1' := HYB.out T hjr
      have z4 : (0 : Int) ≤ (R : Int) := by omega
      have z5 : (R : Int) < Nq := by omega
      have z6 : (0 : Int) ≤ (T : Int) := by omega
      have z7 : (T : Int) < Mq := by omega
      clear hiq' hjr' hR hT e0 e1
      go_wp2_with fail
      go_quiet (fail)
      go_wp2
      go_roundw
      case rel => exact ⟨j + 1, _, by omega, by go_num, by rw [← HS.out]; rfl, rfl⟩
      case measure => simp [intOf]; omega
    · have hj' : j = q := by omega
      subst hj'
      have HF : Hid (mxp l m j r i k j = mxe l m j r i k) := rfl
      obtain ⟨F, hF⟩ : ∃ F, mxp l m j r i k j = F := ⟨_, rfl⟩
      rw [hF] at HF ⊢
      clear hF
      go_wp2
      go_ret
      exact ⟨by rw [HF.out]; rfl, Below.drewN HB.out _⟩
set_option maxRecDepth 100000 in
theorem lit83 (g : Nat → Value) : (g 0 :: g 1 :: g 2 :: g 3 :: g 4 :: g 5 :: g 6 :: g 7 :: g 8 :: g 9 :: g 10 :: g 11 :: g 12 :: g 13 :: g 14 :: g 15 :: g 16 :: g 17 :: g 18 :: g 19 :: g 20 :: g 21 :: g 22 :: g 23 :: g 24 :: g 25 :: g 26 :: g 27 :: g 28 :: g 29 :: g 30 :: g 31 :: g 32 :: g 33 :: g 34 :: g 35 :: g 36 :: g 37 :: g 38 :: g 39 :: g 40 :: g 41 :: g 42 :: g 43 :: g 44 :: g 45 :: g 46 :: g 47 :: g 48 :: g 49 :: g 50 :: g 51 :: g 52 :: g 53 :: g 54 :: g 55 :: g 56 :: g 57 :: g 58 :: g 59 :: g 60 :: g 61 :: g 62 :: g 63 :: g 64 :: g 65 :: g 66 :: g 67 :: g 68 :: g 69 :: g 70 :: g 71 :: g 72 :: g 73 :: g 74 :: g 75 :: g 76 :: g 77 :: g 78 :: g 79 :: g 80 :: g 81 :: g 82 :: []).toArray = ((List.range 83).map g).toArray := by rfl
set_option maxRecDepth 100000 in
theorem act83 (a : Act) (hd : a.defers = []) (hs : a.tmps.size = 83) : ∃ g : Nat → Value, (∀ i, a.tmps.getD i undef = g i) ∧ a = { tmps := (g 0 :: g 1 :: g 2 :: g 3 :: g 4 :: g 5 :: g 6 :: g 7 :: g 8 :: g 9 :: g 10 :: g 11 :: g 12 :: g 13 :: g 14 :: g 15 :: g 16 :: g 17 :: g 18 :: g 19 :: g 20 :: g 21 :: g 22 :: g 23 :: g 24 :: g 25 :: g 26 :: g 27 :: g 28 :: g 29 :: g 30 :: g 31 :: g 32 :: g 33 :: g 34 :: g 35 :: g 36 :: g 37 :: g 38 :: g 39 :: g 40 :: g 41 :: g 42 :: g 43 :: g 44 :: g 45 :: g 46 :: g 47 :: g 48 :: g 49 :: g 50 :: g 51 :: g 52 :: g 53 :: g 54 :: g 55 :: g 56 :: g 57 :: g 58 :: g 59 :: g 60 :: g 61 :: g 62 :: g 63 :: g 64 :: g 65 :: g 66 :: g 67 :: g 68 :: g 69 :: g 70 :: g 71 :: g 72 :: g 73 :: g 74 :: g 75 :: g 76 :: g 77 :: g 78 :: g 79 :: g 80 :: g 81 :: g 82 :: []).toArray, defers := [] } := by
  refine ⟨fun i => a.tmps.getD i undef, fun _ => rfl, ?_⟩
  have h := lit83 (fun i => a.tmps.getD i undef)
  have e : a.tmps = ((List.range 83).map (fun i => a.tmps.getD i undef)).toArray := by
    apply Array.ext
    · simp [hs]
    · intro i h1 h2
      simp [h1]
  exact (show a = Act.mk a.tmps a.defers from rfl).trans (by rw [hd]; exact congrArg (fun t => Act.mk t []) (e.trans h.symm))
def muE (s t : Ten) : Int := if tok s = true ∧ tok t = true then (if s.1.length = 2 ∧ t.1.length = 2 ∧ s.1.getD 1 0 = t.1.getD 0 0 then 0 else 4) else 1
def muR (s t : Ten) : Ten := if muE s t = 0 then ([s.1.getD 0 0, t.1.getD 1 0], mxl (s.1.getD 0 0).toNat (s.1.getD 1 0).toNat (t.1.getD 1 0).toNat s.2 t.2) else ([], [])
theorem muE_ok {p q r : Nat} {l m : List Int} (hx : tok ([(p : Int), (q : Int)], l) = true) (hy : tok ([(q : Int), (r : Int)], m) = true) : muE ([(p : Int), (q : Int)], l) ([(q : Int), (r : Int)], m) = 0 := by
  rw [muE, if_pos ⟨hx, hy⟩]
  simp
theorem muR_ok {p q r : Nat} {l m : List Int} (hx : tok ([(p : Int), (q : Int)], l) = true) (hy : tok ([(q : Int), (r : Int)], m) = true) : muR ([(p : Int), (q : Int)], l) ([(q : Int), (r : Int)], m) = ([(p : Int), (r : Int)], mxl p q r l m) := by
  rw [muR, muE_ok hx hy]
  simp
set_option maxRecDepth 100000 in
set_option maxHeartbeats 2000000 in
theorem mul_bad1 {a0 a1 b0 b1 : Value} {s t : Ten} {w : World} (ha : Tens w a0 a1 s) (ht : Tens w b0 b1 t) (hx : tok s = false) :
    Calls Tryz.prog 134 #[.agg #[a0, a1], .agg #[b0, b1]] w fun e w' => e = .returned (.tuple #[.agg #[.slice none 0 0, .slice none 0 0], .int .i64 1]) ∧ Below w.heap.size w w' := by
  obtain ⟨aa, an, ac, rfl⟩ := ha.1.shape3
  obtain ⟨ba, bn, bc, rfl⟩ := ha.2.shape3
  obtain ⟨ea, en, ec, rfl⟩ := ht.1.shape3
  obtain ⟨fa, fn, fc, rfl⟩ := ht.2.shape3
  obtain ⟨U, hU⟩ : ∃ U, U = ((((w.alloc (.cells #[(.slice aa an ac), (.slice ba bn bc)] 156)).alloc (.cells #[(.slice ea en ec), (.slice fa fn fc)] 156)).alloc (.cells #[.slice none 0 0, .slice none 0 0] 156)).alloc (.cells #[.slice none 0 0, .slice none 0 0] 156)) := ⟨_, rfl⟩
  have hb : Below w.heap.size w U := by rw [hU]; exact ((((Below.refl _ _).alloc (Nat.le_refl _) _).alloc (by simp) _).alloc (by simp; omega) _).alloc (by simp; omega) _
  have HA : Hid (Tens U (.slice aa an ac) (.slice ba bn bc) s) := ha.later hb
  have HT : Hid (Tens U (.slice ea en ec) (.slice fa fn fc) t) := ht.later hb
  have HB : Hid (Below w.heap.size w U) := hb
  have HBA : Hid (Box U w.heap.size (.slice aa an ac) (.slice ba bn bc)) := by show Box _ _ _ _; rw [hU]; exact (((Box.new w (.slice aa an ac) (.slice ba bn bc)).alloc _).alloc _).alloc _
  have HBB : Hid (Box U (w.heap.size + 1) (.slice ea en ec) (.slice fa fn fc)) := by
    show Box _ _ _ _
    have := ((Box.new (w.alloc (.cells #[(.slice aa an ac), (.slice ba bn bc)] 156)) (.slice ea en ec) (.slice fa fn fc)).alloc (.cells #[.slice none 0 0, .slice none 0 0] 156)).alloc (.cells #[.slice none 0 0, .slice none 0 0] 156)
    simp only [World.size_alloc] at this
    rw [hU]
    exact this
  have HBX : Hid (Box U (w.heap.size + 1 + 1) (.slice none 0 0) (.slice none 0 0)) := by
    show Box _ _ _ _
    have := (Box.new ((w.alloc (.cells #[(.slice aa an ac), (.slice ba bn bc)] 156)).alloc (.cells #[(.slice ea en ec), (.slice fa fn fc)] 156)) (.slice none 0 0) (.slice none 0 0)).alloc (.cells #[.slice none 0 0, .slice none 0 0] 156)
    simp only [World.size_alloc] at this
    rw [hU]
    exact this
  have HK : Hid (tkE s = 1) := by show _ = _; simp [tkE, hx]
  have k0 := HBA.out.c0
  have k1 := HBA.out.c1
  clear ha ht hb hx
  go_enter Tryz.func134, Tryz.ntmps134
  go_wp2_with fail
  refine wp_scope_jumps 0 (Jg 83 4 (w.heap.size + 1 + 1) w) (fun _ _ => 0) rfl ?_ ?_
  · go_wp2_with fail
    rw [← hU]
    clear hU
    refine (tensor_to 1 HA.out HK.out).mono ?_
    rintro e w2 ⟨rfl, hb2⟩
    have HB2 : Hid (Below w.heap.size w w2) := Below.after HB.out hb2
    have HBX2 : Hid (Box w2 (w.heap.size + 1 + 1) (.slice none 0 0) (.slice none 0 0)) := HBX.out.later hb2
    clear hb2
    go_wp2
    go_step3
    exact ⟨rfl, rfl, rfl, rfl, HBX2.out, HB2.out⟩
  · rintro a w' ⟨hd, hs, h4, hbx, hbe⟩
    obtain ⟨G, hg, e⟩ := act83 a hd hs
    rw [hg] at h4
    subst e
    rw [h4]
    have l0 := hbx.c0
    have l1 := hbx.c1
    have m0 := hbx.f 0
    have m1 := hbx.f 1
    have HBS : Hid (Box _ _ _ _) := hbx.set (.slice none 0 0) (.slice none 0 0)
    have HBE : Hid (Below w.heap.size w w') := hbe
    clear hg hd hs hbx h4 hbe
    go_wp2
    rw [jump_ret]
    have hr0 := HBS.out.c0
    have hr1 := HBS.out.c1
    exact bodyPost_ret (v := .tuple #[.agg #[.slice none 0 0, .slice none 0 0], .int .i64 1]) (by simp [results, Tryz.results134, go_sem, hr0, hr1]) rfl ⟨rfl, (HBE.out.setCell (by simp; omega) _).setCell (by simp; omega) _⟩
set_option maxRecDepth 100000 in
set_option maxHeartbeats 2000000 in
theorem mul_bad2 {a0 a1 b0 b1 : Value} {s t : Ten} {w : World} (ha : Tens w a0 a1 s) (ht : Tens w b0 b1 t) (hx : tok s = true) (hy : tok t = false) :
    Calls Tryz.prog 134 #[.agg #[a0, a1], .agg #[b0, b1]] w fun e w' => e = .returned (.tuple #[.agg #[.slice none 0 0, .slice none 0 0], .int .i64 1]) ∧ Below w.heap.size w w' := by
  obtain ⟨aa, an, ac, rfl⟩ := ha.1.shape3
  obtain ⟨ba, bn, bc, rfl⟩ := ha.2.shape3
  obtain ⟨ea, en, ec, rfl⟩ := ht.1.shape3
  obtain ⟨fa, fn, fc, rfl⟩ := ht.2.shape3
  obtain ⟨U, hU⟩ : ∃ U, U = ((((w.alloc (.cells #[(.slice aa an ac), (.slice ba bn bc)] 156)).alloc (.cells #[(.slice ea en ec), (.slice fa fn fc)] 156)).alloc (.cells #[.slice none 0 0, .slice none 0 0] 156)).alloc (.cells #[.slice none 0 0, .slice none 0 0] 156)) := ⟨_, rfl⟩
  have hb : Below w.heap.size w U := by rw [hU]; exact ((((Below.refl _ _).alloc (Nat.le_refl _) _).alloc (by simp) _).alloc (by simp; omega) _).alloc (by simp; omega) _
  have HA : Hid (Tens U (.slice aa an ac) (.slice ba bn bc) s) := ha.later hb
  have HT : Hid (Tens U (.slice ea en ec) (.slice fa fn fc) t) := ht.later hb
  have HB : Hid (Below w.heap.size w U) := hb
  have HBA : Hid (Box U w.heap.size (.slice aa an ac) (.slice ba bn bc)) := by show Box _ _ _ _; rw [hU]; exact (((Box.new w (.slice aa an ac) (.slice ba bn bc)).alloc _).alloc _).alloc _
  have HBB : Hid (Box U (w.heap.size + 1) (.slice ea en ec) (.slice fa fn fc)) := by
    show Box _ _ _ _
    have := ((Box.new (w.alloc (.cells #[(.slice aa an ac), (.slice ba bn bc)] 156)) (.slice ea en ec) (.slice fa fn fc)).alloc (.cells #[.slice none 0 0, .slice none 0 0] 156)).alloc (.cells #[.slice none 0 0, .slice none 0 0] 156)
    simp only [World.size_alloc] at this
    rw [hU]
    exact this
  have HBX : Hid (Box U (w.heap.size + 1 + 1) (.slice none 0 0) (.slice none 0 0)) := by
    show Box _ _ _ _
    have := (Box.new ((w.alloc (.cells #[(.slice aa an ac), (.slice ba bn bc)] 156)).alloc (.cells #[(.slice ea en ec), (.slice fa fn fc)] 156)) (.slice none 0 0) (.slice none 0 0)).alloc (.cells #[.slice none 0 0, .slice none 0 0] 156)
    simp only [World.size_alloc] at this
    rw [hU]
    exact this
  have HK : Hid (tkE s = 0) := by show _ = _; simp [tkE, hx]
  have HK2 : Hid (tkE t = 1) := by show _ = _; simp [tkE, hy]
  have k0 := HBA.out.c0
  have k1 := HBA.out.c1
  clear ha ht hb hx hy
  go_enter Tryz.func134, Tryz.ntmps134
  go_wp2_with fail
  refine wp_scope_jumps 0 (Jg 83 4 (w.heap.size + 1 + 1) w) (fun _ _ => 0) rfl ?_ ?_
  · go_wp2_with fail
    rw [← hU]
    clear hU
    refine (tensor_to 0 HA.out HK.out).mono ?_
    rintro e w2 ⟨rfl, hb2⟩
    have HA2 : Hid (Tens w2 _ _ t) := HT.out.later hb2
    have HU2 : Hid (Below U.heap.size U w2) := hb2
    have q0 := (HBB.out.later hb2).c0
    have q1 := (HBB.out.later hb2).c1
    clear hb2 k0 k1
    go_wp2_with fail
    refine (tensor_to 1 HA2.out HK2.out).mono ?_
    rintro e w3 ⟨rfl, hb3⟩
    have HU3 : Hid (Below U.heap.size U w3) := Below.after HU2.out hb3
    have HB3 : Hid (Below w.heap.size w w3) := Below.after HB.out HU3.out
    have HBX3 : Hid (Box w3 (w.heap.size + 1 + 1) (.slice none 0 0) (.slice none 0 0)) := HBX.out.later HU3.out
    clear hb3 q0 q1
    go_wp2
    go_step3
    exact ⟨rfl, rfl, rfl, rfl, HBX3.out, HB3.out⟩
  · rintro a w' ⟨hd, hs, h4, hbx, hbe⟩
    obtain ⟨G, hg, e⟩ := act83 a hd hs
    rw [hg] at h4
    subst e
    rw [h4]
    have l0 := hbx.c0
    have l1 := hbx.c1
    have m0 := hbx.f 0
    have m1 := hbx.f 1
    have HBS : Hid (Box _ _ _ _) := hbx.set (.slice none 0 0) (.slice none 0 0)
    have HBE : Hid (Below w.heap.size w w') := hbe
    clear hg hd hs hbx h4 hbe
    go_wp2
    rw [jump_ret]
    have hr0 := HBS.out.c0
    have hr1 := HBS.out.c1
    exact bodyPost_ret (v := .tuple #[.agg #[.slice none 0 0, .slice none 0 0], .int .i64 1]) (by simp [results, Tryz.results134, go_sem, hr0, hr1]) rfl ⟨rfl, (HBE.out.setCell (by simp; omega) _).setCell (by simp; omega) _⟩
set_option maxRecDepth 100000 in
set_option maxHeartbeats 2000000 in
theorem mul_four1 {a0 a1 b0 b1 : Value} {s t : Ten} {w : World} (ha : Tens w a0 a1 s) (ht : Tens w b0 b1 t) (hx : tok s = true) (hy : tok t = true) (h2 : s.1.length ≠ 2) :
    Calls Tryz.prog 134 #[.agg #[a0, a1], .agg #[b0, b1]] w fun e w' => e = .returned (.tuple #[.agg #[.slice none 0 0, .slice none 0 0], .int .i64 4]) ∧ Below w.heap.size w w' := by
  obtain ⟨N, hn⟩ : ∃ n, s.1.length = n := ⟨_, rfl⟩
  have hne : ((N : Int) != 2) = true := by simp; omega
  obtain ⟨aa, ac, ea⟩ := ha.1.shape
  rw [hn] at ea
  subst ea
  obtain ⟨ba, bn, bc, rfl⟩ := ha.2.shape3
  obtain ⟨ea, en, ec, rfl⟩ := ht.1.shape3
  obtain ⟨fa, fn, fc, rfl⟩ := ht.2.shape3
  clear hn h2
  obtain ⟨U, hU⟩ : ∃ U, U = ((((w.alloc (.cells #[(.slice aa N ac), (.slice ba bn bc)] 156)).alloc (.cells #[(.slice ea en ec), (.slice fa fn fc)] 156)).alloc (.cells #[.slice none 0 0, .slice none 0 0] 156)).alloc (.cells #[.slice none 0 0, .slice none 0 0] 156)) := ⟨_, rfl⟩
  have hb : Below w.heap.size w U := by rw [hU]; exact ((((Below.refl _ _).alloc (Nat.le_refl _) _).alloc (by simp) _).alloc (by simp; omega) _).alloc (by simp; omega) _
  have HA : Hid (Tens U (.slice aa N ac) (.slice ba bn bc) s) := ha.later hb
  have HT : Hid (Tens U (.slice ea en ec) (.slice fa fn fc) t) := ht.later hb
  have HB : Hid (Below w.heap.size w U) := hb
  have HBA : Hid (Box U w.heap.size (.slice aa N ac) (.slice ba bn bc)) := by show Box _ _ _ _; rw [hU]; exact (((Box.new w (.slice aa N ac) (.slice ba bn bc)).alloc _).alloc _).alloc _
  have HBB : Hid (Box U (w.heap.size + 1) (.slice ea en ec) (.slice fa fn fc)) := by
    show Box _ _ _ _
    have := ((Box.new (w.alloc (.cells #[(.slice aa N ac), (.slice ba bn bc)] 156)) (.slice ea en ec) (.slice fa fn fc)).alloc (.cells #[.slice none 0 0, .slice none 0 0] 156)).alloc (.cells #[.slice none 0 0, .slice none 0 0] 156)
    simp only [World.size_alloc] at this
    rw [hU]
    exact this
  have HBX : Hid (Box U (w.heap.size + 1 + 1) (.slice none 0 0) (.slice none 0 0)) := by
    show Box _ _ _ _
    have := (Box.new ((w.alloc (.cells #[(.slice aa N ac), (.slice ba bn bc)] 156)).alloc (.cells #[(.slice ea en ec), (.slice fa fn fc)] 156)) (.slice none 0 0) (.slice none 0 0)).alloc (.cells #[.slice none 0 0, .slice none 0 0] 156)
    simp only [World.size_alloc] at this
    rw [hU]
    exact this
  have HK : Hid (tkE s = 0) := by show _ = _; simp [tkE, hx]
  have HK2 : Hid (tkE t = 0) := by show _ = _; simp [tkE, hy]
  have k0 := HBA.out.c0
  have k1 := HBA.out.c1
  clear ha ht hb hx hy
  go_enter Tryz.func134, Tryz.ntmps134
  go_wp2_with fail
  refine wp_scope_jumps 1 (Jg 83 4 (w.heap.size + 1 + 1) w) (fun _ _ => 0) rfl ?_ ?_
  · go_wp2_with fail
    rw [← hU]
    clear hU
    refine (tensor_to 0 HA.out HK.out).mono ?_
    rintro e w2 ⟨rfl, hb2⟩
    have HA2 : Hid (Tens w2 _ _ t) := HT.out.later hb2
    have HU2 : Hid (Below U.heap.size U w2) := hb2
    have q0 := (HBB.out.later hb2).c0
    have q1 := (HBB.out.later hb2).c1
    clear hb2 k0 k1
    go_wp2_with fail
    refine (tensor_to 0 HA2.out HK2.out).mono ?_
    rintro e w3 ⟨rfl, hb3⟩
    have HU3 : Hid (Below U.heap.size U w3) := Below.after HU2.out hb3
    have HB3 : Hid (Below w.heap.size w w3) := Below.after HB.out HU3.out
    have HBX3 : Hid (Box w3 (w.heap.size + 1 + 1) (.slice none 0 0) (.slice none 0 0)) := HBX.out.later HU3.out
    clear hb3 q0 q1
    have a0 := (HBA.out.later HU3.out).c0
    have a1 := (HBB.out.later HU3.out).c0
    go_wp2_with fail
    go_quiet (fail)
    go_wp2
    go_step3
    exact ⟨rfl, rfl, rfl, rfl, HBX3.out, Below.drewN HB3.out _⟩
  · rintro a w' ⟨hd, hs, h4, hbx, hbe⟩
    obtain ⟨G, hg, e⟩ := act83 a hd hs
    rw [hg] at h4
    subst e
    rw [h4]
    have l0 := hbx.c0
    have l1 := hbx.c1
    have m0 := hbx.f 0
    have m1 := hbx.f 1
    have HBS : Hid (Box _ _ _ _) := hbx.set (.slice none 0 0) (.slice none 0 0)
    have HBE : Hid (Below w.heap.size w w') := hbe
    clear hg hd hs hbx h4 hbe
    go_wp2
    rw [jump_ret]
    have hr0 := HBS.out.c0
    have hr1 := HBS.out.c1
    exact bodyPost_ret (v := .tuple #[.agg #[.slice none 0 0, .slice none 0 0], .int .i64 4]) (by simp [results, Tryz.results134, go_sem, hr0, hr1]) rfl ⟨rfl, (HBE.out.setCell (by simp; omega) _).setCell (by simp; omega) _⟩
set_option maxRecDepth 100000 in
set_option maxHeartbeats 2000000 in
theorem mul_four2 {a0 a1 b0 b1 : Value} {s t : Ten} {w : World} (ha : Tens w a0 a1 s) (ht : Tens w b0 b1 t) (hx : tok s = true) (hy : tok t = true) (h2 : s.1.length = 2) (h3 : t.1.length ≠ 2) :
    Calls Tryz.prog 134 #[.agg #[a0, a1], .agg #[b0, b1]] w fun e w' => e = .returned (.tuple #[.agg #[.slice none 0 0, .slice none 0 0], .int .i64 4]) ∧ Below w.heap.size w w' := by
  obtain ⟨N, hn⟩ : ∃ n, t.1.length = n := ⟨_, rfl⟩
  have hne : ((N : Int) != 2) = true := by simp; omega
  obtain ⟨aa, ac, ea⟩ := ha.1.shape
  rw [h2] at ea
  subst ea
  obtain ⟨ba, bn, bc, rfl⟩ := ha.2.shape3
  obtain ⟨ca, cc, ed⟩ := ht.1.shape
  rw [hn] at ed
  subst ed
  obtain ⟨fa, fn, fc, rfl⟩ := ht.2.shape3
  clear hn h2 h3
  obtain ⟨U, hU⟩ : ∃ U, U = ((((w.alloc (.cells #[(.slice aa 2 ac), (.slice ba bn bc)] 156)).alloc (.cells #[(.slice ca N cc), (.slice fa fn fc)] 156)).alloc (.cells #[.slice none 0 0, .slice none 0 0] 156)).alloc (.cells #[.slice none 0 0, .slice none 0 0] 156)) := ⟨_, rfl⟩
  have hb : Below w.heap.size w U := by rw [hU]; exact ((((Below.refl _ _).alloc (Nat.le_refl _) _).alloc (by simp) _).alloc (by simp; omega) _).alloc (by simp; omega) _
  have HA : Hid (Tens U (.slice aa 2 ac) (.slice ba bn bc) s) := ha.later hb
  have HT : Hid (Tens U (.slice ca N cc) (.slice fa fn fc) t) := ht.later hb
  have HB : Hid (Below w.heap.size w U) := hb
  have HBA : Hid (Box U w.heap.size (.slice aa 2 ac) (.slice ba bn bc)) := by show Box _ _ _ _; rw [hU]; exact (((Box.new w (.slice aa 2 ac) (.slice ba bn bc)).alloc _).alloc _).alloc _
  have HBB : Hid (Box U (w.heap.size + 1) (.slice ca N cc) (.slice fa fn fc)) := by
    show Box _ _ _ _
    have := ((Box.new (w.alloc (.cells #[(.slice aa 2 ac), (.slice ba bn bc)] 156)) (.slice ca N cc) (.slice fa fn fc)).alloc (.cells #[.slice none 0 0, .slice none 0 0] 156)).alloc (.cells #[.slice none 0 0, .slice none 0 0] 156)
    simp only [World.size_alloc] at this
    rw [hU]
    exact this
  have HBX : Hid (Box U (w.heap.size + 1 + 1) (.slice none 0 0) (.slice none 0 0)) := by
    show Box _ _ _ _
    have := (Box.new ((w.alloc (.cells #[(.slice aa 2 ac), (.slice ba bn bc)] 156)).alloc (.cells #[(.slice ca N cc), (.slice fa fn fc)] 156)) (.slice none 0 0) (.slice none 0 0)).alloc (.cells #[.slice none 0 0, .slice none 0 0] 156)
    simp only [World.size_alloc] at this
    rw [hU]
    exact this
  have HK : Hid (tkE s = 0) := by show _ = _; simp [tkE, hx]
  have HK2 : Hid (tkE t = 0) := by show _ = _; simp [tkE, hy]
  have k0 := HBA.out.c0
  have k1 := HBA.out.c1
  clear ha ht hb hx hy
  go_enter Tryz.func134, Tryz.ntmps134
  go_wp2_with fail
  refine wp_scope_jumps 1 (Jg 83 4 (w.heap.size + 1 + 1) w) (fun _ _ => 0) rfl ?_ ?_
  · go_wp2_with fail
    rw [← hU]
    clear hU
    refine (tensor_to 0 HA.out HK.out).mono ?_
    rintro e w2 ⟨rfl, hb2⟩
    have HA2 : Hid (Tens w2 _ _ t) := HT.out.later hb2
    have HU2 : Hid (Below U.heap.size U w2) := hb2
    have q0 := (HBB.out.later hb2).c0
    have q1 := (HBB.out.later hb2).c1
    clear hb2 k0 k1
    go_wp2_with fail
    refine (tensor_to 0 HA2.out HK2.out).mono ?_
    rintro e w3 ⟨rfl, hb3⟩
    have HU3 : Hid (Below U.heap.size U w3) := Below.after HU2.out hb3
    have HB3 : Hid (Below w.heap.size w w3) := Below.after HB.out HU3.out
    have HBX3 : Hid (Box w3 (w.heap.size + 1 + 1) (.slice none 0 0) (.slice none 0 0)) := HBX.out.later HU3.out
    clear hb3 q0 q1
    have a0 := (HBA.out.later HU3.out).c0
    have a1 := (HBB.out.later HU3.out).c0
    go_wp2_with fail
    go_quiet (fail)
    go_wp2
    go_step3
    exact ⟨rfl, rfl, rfl, rfl, HBX3.out, Below.drewN HB3.out _⟩
  · rintro a w' ⟨hd, hs, h4, hbx, hbe⟩
    obtain ⟨G, hg, e⟩ := act83 a hd hs
    rw [hg] at h4
    subst e
    rw [h4]
    have l0 := hbx.c0
    have l1 := hbx.c1
    have m0 := hbx.f 0
    have m1 := hbx.f 1
    have HBS : Hid (Box _ _ _ _) := hbx.set (.slice none 0 0) (.slice none 0 0)
    have HBE : Hid (Below w.heap.size w w') := hbe
    clear hg hd hs hbx h4 hbe
    go_wp2
    rw [jump_ret]
    have hr0 := HBS.out.c0
    have hr1 := HBS.out.c1
    exact bodyPost_ret (v := .tuple #[.agg #[.slice none 0 0, .slice none 0 0], .int .i64 4]) (by simp [results, Tryz.results134, go_sem, hr0, hr1]) rfl ⟨rfl, (HBE.out.setCell (by simp; omega) _).setCell (by simp; omega) _⟩
set_option maxRecDepth 100000 in
set_option maxHeartbeats 2000000 in
theorem mul_four3 {a0 a1 b0 b1 : Value} {p q q' r : Nat} {l m : List Int} {w : World} (ha : Tens w a0 a1 ([(p : Int), (q : Int)], l)) (ht : Tens w b0 b1 ([(q' : Int), (r : Int)], m)) (hx : tok ([(p : Int), (q : Int)], l) = true) (hy : tok ([(q' : Int), (r : Int)], m) = true) (hne0 : q ≠ q') :
    Calls Tryz.prog 134 #[.agg #[a0, a1], .agg #[b0, b1]] w fun e w' => e = .returned (.tuple #[.agg #[.slice none 0 0, .slice none 0 0], .int .i64 4]) ∧ Below w.heap.size w w' := by
  have hne : ((q : Int) != (q' : Int)) = true := by simp; omega
  have hl := (tok2 hx).2.2.2.2
  have hm := (tok2 hy).2.2.2.2
  obtain ⟨db, dof, dc, ab, ao, ac, A⟩ := ha.mat hl (Nat.mul_pos (tok2 hx).1 (tok2 hx).2.2.1)
  obtain ⟨eb, eof, ec, bb, bo, bc, B⟩ := ht.mat hm (Nat.mul_pos (tok2 hy).1 (tok2 hy).2.2.1)
  obtain rfl := A.e0
  obtain rfl := A.e1
  obtain rfl := B.e0
  obtain rfl := B.e1
  have hdc := A.hdc
  have hec := B.hdc
  have HC1 : Hid (w.cell? ⟨db, dof + 1, none⟩ = some (.int .i64 q)) := A.c1
  have HC2 : Hid (w.cell? ⟨eb, eof, none⟩ = some (.int .i64 q')) := B.c0
  clear A B hl hm
  obtain ⟨s, hs⟩ : ∃ s : Ten, s = ([(p : Int), (q : Int)], l) := ⟨_, rfl⟩
  obtain ⟨t, ht'⟩ : ∃ t : Ten, t = ([(q' : Int), (r : Int)], m) := ⟨_, rfl⟩
  rw [← hs] at ha hx
  rw [← ht'] at ht hy
  clear hs ht'
  obtain ⟨a0, ha0⟩ : ∃ v, v = Value.slice (some ⟨db, dof, none⟩) 2 dc := ⟨_, rfl⟩
  obtain ⟨Nq, hNq⟩ : ∃ N, p * q = N := ⟨_, rfl⟩
  obtain ⟨Mq, hMq⟩ : ∃ N, q' * r = N := ⟨_, rfl⟩
  rw [hNq] at ha ⊢
  rw [hMq] at ht ⊢
  clear hNq hMq ha0 a0
  obtain ⟨U, hU⟩ : ∃ U, U = ((((w.alloc (.cells #[(.slice (some ⟨db, dof, none⟩) 2 dc), (.slice (some ⟨ab, ao, none⟩) Nq ac)] 156)).alloc (.cells #[(.slice (some ⟨eb, eof, none⟩) 2 ec), (.slice (some ⟨bb, bo, none⟩) Mq bc)] 156)).alloc (.cells #[.slice none 0 0, .slice none 0 0] 156)).alloc (.cells #[.slice none 0 0, .slice none 0 0] 156)) := ⟨_, rfl⟩
  have hb : Below w.heap.size w U := by rw [hU]; exact ((((Below.refl _ _).alloc (Nat.le_refl _) _).alloc (by simp) _).alloc (by simp; omega) _).alloc (by simp; omega) _
  have HA : Hid (Tens U (.slice (some ⟨db, dof, none⟩) 2 dc) (.slice (some ⟨ab, ao, none⟩) Nq ac) s) := ha.later hb
  have HT : Hid (Tens U (.slice (some ⟨eb, eof, none⟩) 2 ec) (.slice (some ⟨bb, bo, none⟩) Mq bc) t) := ht.later hb
  have HB : Hid (Below w.heap.size w U) := hb
  have HBA : Hid (Box U w.heap.size (.slice (some ⟨db, dof, none⟩) 2 dc) (.slice (some ⟨ab, ao, none⟩) Nq ac)) := by show Box _ _ _ _; rw [hU]; exact (((Box.new w (.slice (some ⟨db, dof, none⟩) 2 dc) (.slice (some ⟨ab, ao, none⟩) Nq ac)).alloc _).alloc _).alloc _
  have HBB : Hid (Box U (w.heap.size + 1) (.slice (some ⟨eb, eof, none⟩) 2 ec) (.slice (some ⟨bb, bo, none⟩) Mq bc)) := by
    show Box _ _ _ _
    have := ((Box.new (w.alloc (.cells #[(.slice (some ⟨db, dof, none⟩) 2 dc), (.slice (some ⟨ab, ao, none⟩) Nq ac)] 156)) (.slice (some ⟨eb, eof, none⟩) 2 ec) (.slice (some ⟨bb, bo, none⟩) Mq bc)).alloc (.cells #[.slice none 0 0, .slice none 0 0] 156)).alloc (.cells #[.slice none 0 0, .slice none 0 0] 156)
    simp only [World.size_alloc] at this
    rw [hU]
    exact this
  have HBX : Hid (Box U (w.heap.size + 1 + 1) (.slice none 0 0) (.slice none 0 0)) := by
    show Box _ _ _ _
    have := (Box.new ((w.alloc (.cells #[(.slice (some ⟨db, dof, none⟩) 2 dc), (.slice (some ⟨ab, ao, none⟩) Nq ac)] 156)).alloc (.cells #[(.slice (some ⟨eb, eof, none⟩) 2 ec), (.slice (some ⟨bb, bo, none⟩) Mq bc)] 156)) (.slice none 0 0) (.slice none 0 0)).alloc (.cells #[.slice none 0 0, .slice none 0 0] 156)
    simp only [World.size_alloc] at this
    rw [hU]
    exact this
  have HK : Hid (tkE s = 0) := by show _ = _; simp [tkE, hx]
  have HK2 : Hid (tkE t = 0) := by show _ = _; simp [tkE, hy]
  have k0 := HBA.out.c0
  have k1 := HBA.out.c1
  clear ha ht hb hx hy
  go_enter Tryz.func134, Tryz.ntmps134
  go_wp2_with fail
  refine wp_scope_jumps 1 (Jg 83 4 (w.heap.size + 1 + 1) w) (fun _ _ => 0) rfl ?_ ?_
  · go_wp2_with fail
    rw [← hU]
    clear hU
    refine (tensor_to 0 HA.out HK.out).mono ?_
    rintro e w2 ⟨rfl, hb2⟩
    have HA2 : Hid (Tens w2 _ _ t) := HT.out.later hb2
    have HU2 : Hid (Below U.heap.size U w2) := hb2
    have q0 := (HBB.out.later hb2).c0
    have q1 := (HBB.out.later hb2).c1
    clear hb2 k0 k1
    go_wp2_with fail
    refine (tensor_to 0 HA2.out HK2.out).mono ?_
    rintro e w3 ⟨rfl, hb3⟩
    have HU3 : Hid (Below U.heap.size U w3) := Below.after HU2.out hb3
    have HB3 : Hid (Below w.heap.size w w3) := Below.after HB.out HU3.out
    have HBX3 : Hid (Box w3 (w.heap.size + 1 + 1) (.slice none 0 0) (.slice none 0 0)) := HBX.out.later HU3.out
    clear hb3 q0 q1
    have a0 := (HBA.out.later HU3.out).c0
    have a1 := (HBB.out.later HU3.out).c0
    have a2 := cell_later HB3.out HC1.out
    have a3 := cell_later HB3.out HC2.out
    go_wp2_with fail
    go_quiet (fail)
    go_wp2
    go_step3
    exact ⟨rfl, rfl, rfl, rfl, HBX3.out, Below.drewN HB3.out _⟩
  · rintro a w' ⟨hd, hs, h4, hbx, hbe⟩
    obtain ⟨G, hg, e⟩ := act83 a hd hs
    rw [hg] at h4
    subst e
    rw [h4]
    have l0 := hbx.c0
    have l1 := hbx.c1
    have m0 := hbx.f 0
    have m1 := hbx.f 1
    have HBS : Hid (Box _ _ _ _) := hbx.set (.slice none 0 0) (.slice none 0 0)
    have HBE : Hid (Below w.heap.size w w') := hbe
    clear hg hd hs hbx h4 hbe
    go_wp2
    rw [jump_ret]
    have hr0 := HBS.out.c0
    have hr1 := HBS.out.c1
    exact bodyPost_ret (v := .tuple #[.agg #[.slice none 0 0, .slice none 0 0], .int .i64 4]) (by simp [results, Tryz.results134, go_sem, hr0, hr1]) rfl ⟨rfl, (HBE.out.setCell (by simp; omega) _).setCell (by simp; omega) _⟩
theorem mix_rep (F : Nat → Int) (N : Nat) : mix F (List.replicate N 0) N = (List.range N).map F := by
  apply List.ext_getElem
  · simp [mix]
  · intro i h1 h2
    have h3 : i < N := by simpa [mix] using h1
    simp [mix, h3]
structure FrU (B : Nat) (a : Act) : Prop where
  d : a.defers = []
  s : a.tmps.size = 83
  f2 : a.tmps.getD 2 undef = .pointer (some ⟨B, 0, none⟩)
  f3 : a.tmps.getD 3 undef = .pointer (some ⟨B + 1, 0, none⟩)
  f4 : a.tmps.getD 4 undef = .pointer (some ⟨B + 1 + 1, 0, none⟩)
  f6 : a.tmps.getD 6 undef = .pointer (some ⟨B + 1 + 1 + 1, 0, none⟩)
  f7 : a.tmps.getD 7 undef = .int .i64 0
end Go.Proofs.YtkojdigaoihkpaaGreatDoor

end
section
namespace Go.Proofs.YtkojdigaoihkpaaGreatDoor
set_option linter.unusedVariables false
set_option linter.unusedSimpArgs false
set_option maxRecDepth 100000
open Go.RowKit

set_option maxHeartbeats 400000 in
theorem ties_any {v : Value} {d : List Int} {w : World} (h : Ints w v d) (hl : d.length ≤ 3) :
    Calls Tryz.prog 164 #[v] w fun e w' => e = .returned (.string (tieT d)) ∧ w = w' := by
  rcases h.cases with ⟨rfl, a1, c1, rfl⟩ | ⟨b, off, c, rfl, h0, h1, h2, HC⟩
  · clear h
    go_enter Tryz.func164, Tryz.ntmps164
    go_wp2
    refine wp_loop_rounds 1 ?_
    rw [rounds_succ]
    go_wp2
    go_ret
    exact ⟨rfl, rfl⟩
  clear h h2
  go_enter Tryz.func164, Tryz.ntmps164
  go_wp2
  go_loop [3, 8] (fun t i => ∃ k : Nat, k ≤ d.length ∧ i = .int .i64 k ∧ t = .string (tieT (d.take k))) (fun _ i => d.length - (intOf i).toNat)
  case atStart => exact ⟨0, Nat.zero_le _, rfl, by rw [List.take_zero]; rfl⟩
  case round =>
    obtain ⟨k, hk, rfl, rfl⟩ := hrel
    by_cases hlt : k < d.length
    · have hc := HC.out k hlt
      have hsz : (tieT (d.take k)).size = k := by rw [tieT_size]; simp; omega
      have HT : Hid (tieT (d.take (k + 1)) = tieT (d.take k) ++ ⟨#[tieB d[k]]⟩) := by
        show _ = _
        rw [take_snoc d k hlt, tieT_snoc]
      by_cases h1 : d[k] = 1
      · have hq : (d[k] == 1) = true := by simp [h1]
        have HB : Hid (tieB d[k] = 42) := by show _ = _; simp [tieB, h1]
        clear h1
        go_wp2
        exact ⟨⟨k + 1, by omega, by go_num, by rw [HT.out, HB.out]⟩, by simp [intOf]; omega⟩
      · have hq : (d[k] == 1) = false := by simp [h1]
        have HB : Hid (tieB d[k] = 61) := by show _ = _; simp [tieB, h1]
        clear h1
        go_wp2
        exact ⟨⟨k + 1, by omega, by go_num, by rw [HT.out, HB.out]⟩, by simp [intOf]; omega⟩
    · have hk' : k = d.length := by omega
      subst hk'
      go_wp2
      go_ret
      exact ⟨rfl, rfl⟩
end Go.Proofs.YtkojdigaoihkpaaGreatDoor

end
section
namespace Go.Proofs.YtkojdigaoihkpaaGreatDoor
set_option linter.unusedVariables false
set_option linter.unusedSimpArgs false
set_option maxRecDepth 100000
open Go.RowKit

set_option maxRecDepth 100000 in
set_option maxHeartbeats 4000000 in
theorem mul_ok {a0 a1 b0 b1 : Value} {p q r : Nat} {l m : List Int} {w : World} (ha : Tens w a0 a1 ([(p : Int), (q : Int)], l)) (ht : Tens w b0 b1 ([(q : Int), (r : Int)], m))
    (hx : tok ([(p : Int), (q : Int)], l) = true) (hy : tok ([(q : Int), (r : Int)], m) = true) :
    Calls Tryz.prog 134 #[.agg #[a0, a1], .agg #[b0, b1]] w fun e w' => ∃ x0 x1, e = .returned (.tuple #[.agg #[x0, x1], .int .i64 0]) ∧ OwnT w' w.heap.size x0 x1 ([(p : Int), (r : Int)], mxl p q r l m) ∧ Below w.heap.size w w' := by
  obtain ⟨hp1, hp8, hq1, hq8, hl⟩ := tok2 hx
  obtain ⟨_, _, hr1, hr8, hm⟩ := tok2 hy
  obtain ⟨N, hN⟩ : ∃ N, p * r = N := ⟨_, rfl⟩
  have hN64 := mul64 hp8 hr8
  have hN1 := Nat.mul_pos hp1 hr1
  rw [hN] at hN64 hN1
  have HN : Hid (p * r = N) := hN
  have HPQ : Hid ((prd [(p : Int), (r : Int)]).toNat = N) := by show _ = _; rw [prd2, hN]
  have HOK2 : Hid (okd [(p : Int), (r : Int)] = true) := okd2_mk ⟨by omega, by omega, by omega, by omega⟩
  obtain ⟨Nq, hNq⟩ : ∃ N, p * q = N := ⟨_, rfl⟩
  obtain ⟨Mq, hMq⟩ : ∃ N, q * r = N := ⟨_, rfl⟩
  obtain ⟨db, dof, dc, ab, ao, ac, A⟩ := ha.mat (hl.trans hNq) (by rw [← hNq]; exact Nat.mul_pos hp1 hq1)
  obtain ⟨eb, eof, ec, bb, bo, bc, B⟩ := ht.mat (hm.trans hMq) (by rw [← hMq]; exact Nat.mul_pos hq1 hr1)
  have hNq64 := mul64 hp8 hq8
  have hMq64 := mul64 hq8 hr8
  rw [hNq] at hNq64
  rw [hMq] at hMq64
  obtain rfl := A.e0
  obtain rfl := A.e1
  obtain rfl := B.e0
  obtain rfl := B.e1
  have hdc := A.hdc
  have hec := B.hdc
  have hac := A.hac
  have hbc := B.hac
  have hdb := A.hdb
  have heb := B.hdb
  have hab := A.hab
  have hbb := B.hab
  have HP8 : Hid (p ≤ 8 ∧ q ≤ 8 ∧ r ≤ 8 ∧ 1 ≤ r) := ⟨hp8, hq8, hr8, hr1⟩
  have HNM : Hid (p * q = Nq ∧ q * r = Mq ∧ Nq ≤ 64 ∧ Mq ≤ 64) := ⟨hNq, hMq, hNq64, hMq64⟩
  have HMA : Hid (MatC w (.slice (some ⟨db, dof, none⟩) 2 dc) (.slice (some ⟨ab, ao, none⟩) Nq ac) p q Nq l db dof dc ab ao ac) := A
  have HMB : Hid (MatC w (.slice (some ⟨eb, eof, none⟩) 2 ec) (.slice (some ⟨bb, bo, none⟩) Mq bc) q r Mq m eb eof ec bb bo bc) := B
  clear A B
  obtain ⟨U, hU⟩ : ∃ U, U = ((((w.alloc (.cells #[(.slice (some ⟨db, dof, none⟩) 2 dc), (.slice (some ⟨ab, ao, none⟩) Nq ac)] 156)).alloc (.cells #[(.slice (some ⟨eb, eof, none⟩) 2 ec), (.slice (some ⟨bb, bo, none⟩) Mq bc)] 156)).alloc (.cells #[.slice none 0 0, .slice none 0 0] 156)).alloc (.cells #[.slice none 0 0, .slice none 0 0] 156)) := ⟨_, rfl⟩
  have hb : Below w.heap.size w U := by rw [hU]; exact ((((Below.refl _ _).alloc (Nat.le_refl _) _).alloc (by simp) _).alloc (by simp; omega) _).alloc (by simp; omega) _
  have HA : Hid (Tens U (.slice (some ⟨db, dof, none⟩) 2 dc) (.slice (some ⟨ab, ao, none⟩) Nq ac) ([(p : Int), (q : Int)], l)) := ha.later hb
  have HT : Hid (Tens U (.slice (some ⟨eb, eof, none⟩) 2 ec) (.slice (some ⟨bb, bo, none⟩) Mq bc) ([(q : Int), (r : Int)], m)) := ht.later hb
  have HB : Hid (Below w.heap.size w U) := hb
  have HBA : Hid (Box U w.heap.size (.slice (some ⟨db, dof, none⟩) 2 dc) (.slice (some ⟨ab, ao, none⟩) Nq ac)) := by show Box _ _ _ _; rw [hU]; exact (((Box.new w _ _).alloc _).alloc _).alloc _
  have HBB : Hid (Box U (w.heap.size + 1) (.slice (some ⟨eb, eof, none⟩) 2 ec) (.slice (some ⟨bb, bo, none⟩) Mq bc)) := by
    show Box _ _ _ _
    have := ((Box.new (w.alloc (.cells #[(.slice (some ⟨db, dof, none⟩) 2 dc), (.slice (some ⟨ab, ao, none⟩) Nq ac)] 156)) (.slice (some ⟨eb, eof, none⟩) 2 ec) (.slice (some ⟨bb, bo, none⟩) Mq bc)).alloc (.cells #[.slice none 0 0, .slice none 0 0] 156)).alloc (.cells #[.slice none 0 0, .slice none 0 0] 156)
    simp only [World.size_alloc] at this
    rw [hU]
    exact this
  have HBX : Hid (Box U (w.heap.size + 1 + 1) (.slice none 0 0) (.slice none 0 0)) := by
    show Box _ _ _ _
    have := (Box.new ((w.alloc (.cells #[(.slice (some ⟨db, dof, none⟩) 2 dc), (.slice (some ⟨ab, ao, none⟩) Nq ac)] 156)).alloc (.cells #[(.slice (some ⟨eb, eof, none⟩) 2 ec), (.slice (some ⟨bb, bo, none⟩) Mq bc)] 156)) (.slice none 0 0) (.slice none 0 0)).alloc (.cells #[.slice none 0 0, .slice none 0 0] 156)
    simp only [World.size_alloc] at this
    rw [hU]
    exact this
  have HBT : Hid (Box U (w.heap.size + 1 + 1 + 1) (.slice none 0 0) (.slice none 0 0)) := by
    show Box _ _ _ _
    have := Box.new (((w.alloc (.cells #[(.slice (some ⟨db, dof, none⟩) 2 dc), (.slice (some ⟨ab, ao, none⟩) Nq ac)] 156)).alloc (.cells #[(.slice (some ⟨eb, eof, none⟩) 2 ec), (.slice (some ⟨bb, bo, none⟩) Mq bc)] 156)).alloc (.cells #[.slice none 0 0, .slice none 0 0] 156)) (.slice none 0 0) (.slice none 0 0)
    simp only [World.size_alloc] at this
    rw [hU]
    exact this
  have hs0 : U.heap.size = w.heap.size + 1 + 1 + 1 + 1 := by rw [hU]; simp
  have HK : Hid (tkE ([(p : Int), (q : Int)], l) = 0) := by show _ = _; simp [tkE, hx]
  have HK2 : Hid (tkE ([(q : Int), (r : Int)], m) = 0) := by show _ = _; simp [tkE, hy]
  have k0 := HBA.out.c0
  have k1 := HBA.out.c1
  clear ha ht hb hx hy hl hm hN hNq hMq
  go_enter Tryz.func134, Tryz.ntmps134
  go_wp2_with fail
  refine wp_scope_jumps 0 (fun _ _ => False) (fun _ _ => 0) rfl ?_ ?_
  · go_wp2_with fail
    rw [← hU]
    clear hU
    refine (tensor_to 0 HA.out HK.out).mono ?_
    rintro e w2 ⟨rfl, hb2⟩
    have HA2 : Hid (Tens w2 _ _ _) := HT.out.later hb2
    have HU2 : Hid (Below U.heap.size U w2) := hb2
    have q0 := (HBB.out.later hb2).c0
    have q1 := (HBB.out.later hb2).c1
    clear hb2 k0 k1
    go_wp2_with fail
    refine (tensor_to 0 HA2.out HK2.out).mono ?_
    rintro e w3 ⟨rfl, hb3⟩
    have HU3 : Hid (Below U.heap.size U w3) := Below.after HU2.out hb3
    have HB3 : Hid (Below w.heap.size w w3) := Below.after HB.out HU3.out
    clear hb3 q0 q1
    have c0 := (HBA.out.later HU3.out).c0
    have c1 := (HBB.out.later HU3.out).c0
    have c2 := cell_later HB3.out HMA.out.c0
    have c3 := cell_later HB3.out HMA.out.c1
    have c4 := cell_later HB3.out HMB.out.c0
    have c5 := cell_later HB3.out HMB.out.c1
    go_wp2_with fail
    go_quiet (fail)
    go_wp2_with fail
    obtain ⟨V, hV⟩ : ∃ V, V = w3.drewN nq := ⟨_, rfl⟩
    have HUV : Hid (Below U.heap.size U V) := by show Below _ _ _; rw [hV]; exact Below.drewN HU3.out _
    have d0 : V.cell? ⟨w.heap.size, 0, none⟩ = _ := (HBA.out.later HUV.out).c0
    have d1 : V.cell? ⟨w.heap.size + 1, 0, none⟩ = _ := (HBB.out.later HUV.out).c0
    have d2 := cell_later (Below.after HB.out HUV.out) HMA.out.c0
    have d5 := cell_later (Below.after HB.out HUV.out) HMB.out.c1
    rw [← hV]
    clear c0 c1 c2 c3 c4 c5 hV HU3 HB3 HU2 HA2
    have hsV := HUV.out.size
    have HTI : Hid (Ints (V.alloc (.cells #[.int .i64 p, .int .i64 r] 3)) (.slice (some ⟨V.heap.size, 0, none⟩) 2 2) [(p : Int), (r : Int)]) := two_ints V p r
    have n0 := World.new_ne V _ d0
    have n1 := World.new_ne V _ d1
    have n2 := World.new_ne V _ d2
    have n3 := World.new_ne V _ d5
    refine wp_cut (fun a' w' => ∃ xa xc b1, FrU w.heap.size a' ∧ Own w' (w.heap.size + 1 + 1 + 1 + 1) (.slice xa 2 xc) [(p : Int), (r : Int)] ∧ Blk w' b1 (List.replicate N 0) ∧ (w.heap.size + 1 + 1 + 1 + 1 ≤ b1 ∧ ∀ k, (Value.slice xa 2 xc).ownBlock = some k → k ≠ b1) ∧ Box w' (w.heap.size + 1 + 1 + 1) (.slice xa 2 xc) (.slice (some ⟨b1, 0, none⟩) N N) ∧ Box w' w.heap.size (.slice (some ⟨db, dof, none⟩) 2 dc) (.slice (some ⟨ab, ao, none⟩) Nq ac) ∧ Box w' (w.heap.size + 1) (.slice (some ⟨eb, eof, none⟩) 2 ec) (.slice (some ⟨bb, bo, none⟩) Mq bc) ∧ Box w' (w.heap.size + 1 + 1) (.slice none 0 0) (.slice none 0 0) ∧ Below w.heap.size w w') ?_ ?_
    · intro a5 W ⟨xa, xc, b1, hf5, ho, hk, ⟨hb1l, hap⟩, hbt, hba, hbb', hbx, hbw⟩
      obtain ⟨G, hg, e⟩ := act83 a5 hf5.d hf5.s
      obtain ⟨hz1, hz2, g1, g2, g3, g4, g5⟩ := hf5
      rw [hg] at g1 g2 g3 g4 g5
      clear hz1 hz2
      subst e
      clear hg
      rw [g1, g2, g3, g4, g5]
      clear g1 g2 g3 g4 g5
      have t1 := hbt.c1
      have hb1w := hk.lt
      have HBA4 : Hid (Box W w.heap.size (.slice (some ⟨db, dof, none⟩) 2 dc) (.slice (some ⟨ab, ao, none⟩) Nq ac)) := hba
      have HBB4 : Hid (Box W (w.heap.size + 1) (.slice (some ⟨eb, eof, none⟩) 2 ec) (.slice (some ⟨bb, bo, none⟩) Mq bc)) := hbb'
      have HBX4 : Hid (Box W (w.heap.size + 1 + 1) (.slice none 0 0) (.slice none 0 0)) := hbx
      have HBT4 : Hid (Box W (w.heap.size + 1 + 1 + 1) (.slice xa 2 xc) (.slice (some ⟨b1, 0, none⟩) N N)) := hbt
      have HO4 : Hid (Own W (w.heap.size + 1 + 1 + 1 + 1) (.slice xa 2 xc) [(p : Int), (r : Int)]) := ho
      have HAP : Hid (∀ k, (Value.slice xa 2 xc).ownBlock = some k → k ≠ b1) := hap
      have HB4 : Hid (Below w.heap.size w W) := hbw
      have HK4 : Hid (Blk W b1 (mix (fun x => mxe l m q r (x / r) (x % r)) (List.replicate N 0) 0)) := by
        show Blk _ _ _
        rw [mix_zero]
        exact hk
      obtain ⟨xg, xcc, exg, hxcc, hxg1, hxg2⟩ := ho.form (by simp)
      have exa : xa = some ⟨xg, 0, none⟩ := by simp at exg; exact exg.1
      subst exa
      have hxc2 : 2 ≤ xc := by simp at exg hxcc; omega
      have hxb : xg ≠ b1 := hap xg rfl
      have hd1 : W.cell? ⟨xg, 1, none⟩ = some (.int .i64 r) := by
        rcases ho.ints.cases with ⟨e, _⟩ | ⟨b, off, c, e, h0, h1, h2, HC⟩
        · cases e
        · have e2 := e
          simp at e2
          obtain ⟨⟨rfl, rfl⟩, _⟩ := e2
          exact HC.out 1 (by simp)
      have HD1 : Hid (W.cell? ⟨xg, 1, none⟩ = some (.int .i64 r)) := hd1
      clear ho hk hap hbt hba hbb' hbx hbw exg hxcc hd1
      go_wp2
      clear t1
      go_loopw [57] (fun i w' => ∃ j : Nat, j ≤ N ∧ i = .int .i64 j ∧ Blk w' b1 (mix (fun x => mxe l m q r (x / r) (x % r)) (List.replicate N 0) j) ∧ Bu b1 W w') (fun i _ => N - (intOf i).toNat)
      case atStart => exact ⟨0, by omega, rfl, HK4.out, Bu.refl _ _⟩
      case round =>
        obtain ⟨j, hj, rfl, hB, hbu⟩ := hrel
        have HKR : Hid (Blk wr b1 (mix (fun x => mxe l m q r (x / r) (x % r)) (List.replicate N 0) j)) := hB
        have HBU : Hid (Bu b1 W wr) := hbu
        have HBW : Hid (Below w.heap.size w wr) := hbu.below HB4.out (by omega) (by have := HB4.out.size; omega)
        have hsr := hbu.size
        have hsW := HB4.out.size
        clear hB hbu
        by_cases hlt : j < N
        · have hjp : j < p * r := by rw [HN.out]; exact hlt
          obtain ⟨hi1, hk1⟩ := row_lt hjp
          have HMA5 : Hid (MatC wr (.slice (some ⟨db, dof, none⟩) 2 dc) (.slice (some ⟨ab, ao, none⟩) Nq ac) p q Nq l db dof dc ab ao ac) := HMA.out.later HBW.out
          have HMB5 : Hid (MatC wr (.slice (some ⟨eb, eof, none⟩) 2 ec) (.slice (some ⟨bb, bo, none⟩) Mq bc) q r Mq m eb eof ec bb bo bc) := HMB.out.later HBW.out
          have HBAr : Hid (Box wr w.heap.size (.slice (some ⟨db, dof, none⟩) 2 dc) (.slice (some ⟨ab, ao, none⟩) Nq ac)) := HBU.out.box HBA4.out (by omega)
          have HBBr : Hid (Box wr (w.heap.size + 1) (.slice (some ⟨eb, eof, none⟩) 2 ec) (.slice (some ⟨bb, bo, none⟩) Mq bc)) := HBU.out.box HBB4.out (by omega)
          have HBTr : Hid (Box wr (w.heap.size + 1 + 1 + 1) (.slice (some ⟨xg, 0, none⟩) 2 xc) (.slice (some ⟨b1, 0, none⟩) N N)) := HBU.out.box HBT4.out (by omega)
          have v0 := HBTr.out.c0
          have v1 := HBTr.out.c1
          have v2 := HBAr.out.c0
          have v3 := HBAr.out.c1
          have v4 := HBBr.out.c0
          have v5 := HBBr.out.c1
          have v6 : wr.cell? ⟨xg, 1, none⟩ = some (.int .i64 r) := (HBU.out.cell hxg2 hxb).trans HD1.out
          have HMS : Hid ((mix (fun x => mxe l m q r (x / r) (x % r)) (List.replicate N 0) j).set j (mxe l m q r (j / r) (j % r)) = mix (fun x => mxe l m q r (x / r) (x % r)) (List.replicate N 0) (j + 1)) := mix_set _ _ _
          obtain ⟨Q, hQ⟩ : ∃ Q, j / r = Q := ⟨_, rfl⟩
          obtain ⟨S, hS⟩ : ∃ S, j % r = S := ⟨_, rfl⟩
          have f0 : (j : Int).tdiv (r : Int) = (Q : Int) := by rw [Int.tdiv_eq_ediv_of_nonneg (by omega), ← hQ]; simp
          have f1 : (j : Int).tmod (r : Int) = (S : Int) := by rw [Int.tmod_eq_emod_of_nonneg (by omega), ← hS]; simp
          rw [hQ] at hi1 HMS
          rw [hS] at hk1 HMS
          have f2 : IntKind.i64.wrap (Q : Int) = (Q : Int) := wrap_small _ (by omega) (by omega)
          have f3 : IntKind.i64.wrap (S : Int) = (S : Int) := wrap_small _ (by omega) (by omega)
          have f4 : IntKind.i64.wrap ((j : Int).tdiv (r : Int)) = (Q : Int) := by rw [f0, f2]
          have f5 : IntKind.i64.wrap ((j : Int).tmod (r : Int)) = (S : Int) := by rw [f1, f3]
          have f6 : ¬ r = 0 := by have := HP8.out; omega
          have f7 : ¬ (r : Int) = 0 := by omega
          have f8 : ((r : Int) == 0) = false := by simp; omega
          obtain ⟨F, hF⟩ : ∃ F, mxe l m q r Q S = F := ⟨_, rfl⟩
          rw [hF] at HMS
          have HF : Hid (mxe l m q r Q S = F) := hF
          have z4 : (0 : Int) ≤ (j : Int) := by omega
          have z5 : (j : Int) < N := by omega
          clear hjp hQ hS hF
          have HQS : Hid (Q < p ∧ S < r) := ⟨hi1, hk1⟩
          clear hi1 hk1
          have y0 : b1 ≠ w.heap.size + 1 + 1 + 1 := by omega
          have y1 : w.heap.size + 1 + 1 + 1 ≠ b1 := by omega
          have y2 : b1 ≠ xg := by omega
          have y3 : xg ≠ b1 := by omega
          have y4 : b1 ≠ w.heap.size := by omega
          have y5 : w.heap.size ≠ b1 := by omega
          have y6 : b1 ≠ w.heap.size + 1 := by omega
          have y7 : w.heap.size + 1 ≠ b1 := by omega
          go_wp2_with fail
          go_region_held3 (fun w' => w'.cell? ⟨w.heap.size + 1 + 1 + 1, 0, none⟩ = some (.slice (some ⟨xg, 0, none⟩) 2 xc) ∧ w'.cell? ⟨w.heap.size + 1 + 1 + 1, 1, none⟩ = some (.slice (some ⟨b1, 0, none⟩) N N) ∧ w'.cell? ⟨xg, 1, none⟩ = some (.int .i64 r) ∧ w'.cell? ⟨w.heap.size, 0, none⟩ = some (.slice (some ⟨db, dof, none⟩) 2 dc) ∧ w'.cell? ⟨w.heap.size, 1, none⟩ = some (.slice (some ⟨ab, ao, none⟩) Nq ac) ∧ w'.cell? ⟨w.heap.size + 1, 0, none⟩ = some (.slice (some ⟨eb, eof, none⟩) 2 ec) ∧ w'.cell? ⟨w.heap.size + 1, 1, none⟩ = some (.slice (some ⟨bb, bo, none⟩) Mq bc)) (go_keep)
            (first | (go_at_call 150; refine (crossed_ok (p := p) (q := q) (r := r) (i := Q) (k := S) (HMA5.out.later (Below.refl _ _).drew) (HMB5.out.later (Below.refl _ _).drew) HNM.out.1 HNM.out.2.1 HNM.out.2.2.1 HNM.out.2.2.2 HP8.out.1 HP8.out.2.1 HP8.out.2.2.1 HQS.out.1 HQS.out.2).mono ?_; rw [HF.out]; rintro e w6 ⟨rfl, hb6⟩; have HQ6 : Hid (Below wr.heap.size wr w6) := Below.after (Below.refl _ _).drew hb6; have a_0 := cell_later HQ6.out v0; have a_1 := cell_later HQ6.out v1; have a_2 := cell_later HQ6.out v2; have a_3 := cell_later HQ6.out v3; have a_4 := cell_later HQ6.out v4; have a_5 := cell_later HQ6.out v5; have a_6 := cell_later HQ6.out v6; have HK6 : Hid (Blk w6 b1 (mix (fun x => mxe l m q r (x / r) (x % r)) (List.replicate N 0) j)) := HKR.out.later HQ6.out HKR.out.lt; have hf6 := HK6.out.frozen j; obtain ⟨xx, hc6⟩ : ∃ x, w6.cell? ⟨b1, j, none⟩ = some x := ⟨_, HK6.out.cell j (by rw [mix_length, List.length_replicate]; exact hlt)⟩; clear hb6))
          go_wp2
          go_roundw
          case rel =>
            refine ⟨j + 1, by omega, by go_num, ?_, (HBU.out.after HQ6.out).setCell _⟩
            rw [← HMS.out]
            exact HK6.out.set j F
          case measure => simp [intOf]; omega
        · have hj' : j = N := by omega
          subst hj'
          have hbt := HBU.out.box HBT4.out (by omega)
          have t0 := hbt.c0
          have t1 := hbt.c1
          have hbx := HBU.out.box HBX4.out (by omega)
          have l0 := hbx.c0
          have l1 := hbx.c1
          have m0 := hbx.f 0
          have m1 := hbx.f 1
          have HBS : Hid (Box _ _ _ _) := hbx.set (.slice (some ⟨xg, 0, none⟩) 2 xc) (.slice (some ⟨b1, 0, none⟩) j j)
          have HO5 : Hid (Own wr (w.heap.size + 1 + 1 + 1 + 1) (.slice (some ⟨xg, 0, none⟩) 2 xc) [(p : Int), (r : Int)]) := HO4.out.at fun k hk => HBU.out.block k (HO4.out.lt k hk) (HAP.out k hk)
          have HK5 : Hid (Own wr (w.heap.size + 1 + 1 + 1 + 1) (.slice (some ⟨b1, 0, none⟩) j j) (mxl p q r l m)) := by
            have h := HKR.out
            rw [mix_rep] at h
            have e : (List.range j).map (fun x => mxe l m q r (x / r) (x % r)) = mxl p q r l m := by rw [mxl, HN.out]
            rw [e] at h
            exact Blk.own h hb1l (by rw [mxl_length, HN.out]) (by rw [mxl_length, HN.out]; unfold big; omega)
          clear hbx hbt
          go_wp2
          rw [jump_ret]
          have hr0 := HBS.out.c0
          have hr1 := HBS.out.c1
          refine bodyPost_ret (v := .tuple #[.agg #[.slice (some ⟨xg, 0, none⟩) 2 xc, .slice (some ⟨b1, 0, none⟩) j j], .int .i64 0]) (by simp [results, Tryz.results134, go_sem, hr0, hr1]) rfl ⟨_, _, rfl, ?_, ?_⟩
          · have h1 : OwnT wr (w.heap.size + 1 + 1 + 1 + 1) (.slice (some ⟨xg, 0, none⟩) 2 xc) (.slice (some ⟨b1, 0, none⟩) j j) ([(p : Int), (r : Int)], mxl p q r l m) := ⟨HO5.out, HK5.out, fun k hk e => HAP.out k hk (by simp [Value.ownBlock] at e; exact e.symm)⟩
            exact ((h1.setCell _ _ (by simp <;> omega)).setCell _ _ (by simp <;> omega)).mono (by omega)
          · exact (HBW.out.setCell (by simp <;> omega) _).setCell (by simp <;> omega) _
    · intro J K' hJ hK'
      have HJ : Hid _ := hJ
      have HK' : Hid _ := hK'
      clear hJ hK'
      have y0 : w.heap.size + 1 + 1 + 1 ≠ db := by omega
      have y1 : db ≠ w.heap.size + 1 + 1 + 1 := by omega
      have y2 : w.heap.size + 1 + 1 + 1 ≠ eb := by omega
      have y3 : eb ≠ w.heap.size + 1 + 1 + 1 := by omega
      have y4 : w.heap.size + 1 + 1 + 1 ≠ w.heap.size := by omega
      have y5 : w.heap.size ≠ w.heap.size + 1 + 1 + 1 := by omega
      have y6 : w.heap.size + 1 + 1 + 1 ≠ w.heap.size + 1 := by omega
      have y7 : w.heap.size + 1 ≠ w.heap.size + 1 + 1 + 1 := by omega
      have y20 : w.heap.size ≠ w.heap.size + 1 + 1 := by omega
      have y21 : w.heap.size + 1 + 1 ≠ w.heap.size := by omega
      have q0 : V.heap.size ≠ w.heap.size := by omega
      have q1 : w.heap.size ≠ V.heap.size := by omega
      have q2 : V.heap.size ≠ w.heap.size + 1 := by omega
      have q3 : w.heap.size + 1 ≠ V.heap.size := by omega
      have q4 : V.heap.size ≠ db := by omega
      have q5 : db ≠ V.heap.size := by omega
      have q6 : V.heap.size ≠ eb := by omega
      have q7 : eb ≠ V.heap.size := by omega
      go_region_held3 (fun w' => w'.cell? ⟨w.heap.size, 0, none⟩ = some (.slice (some ⟨db, dof, none⟩) 2 dc) ∧ w'.cell? ⟨w.heap.size + 1, 0, none⟩ = some (.slice (some ⟨eb, eof, none⟩) 2 ec) ∧ w'.cell? ⟨db, dof, none⟩ = some (.int .i64 p) ∧ w'.cell? ⟨eb, eof + 1, none⟩ = some (.int .i64 r)) (go_keep)
        (first | (go_at_call 115; refine (fill_own (d := [(p : Int), (r : Int)]) 0 ?_ HOK2.out).mono ?_; exact Ints.later (Below.refl _ _).drew HTI.out; rw [HPQ.out]; rintro e w6 ⟨x0, b1, rfl, ho, hbk, ⟨hb1l, hap⟩, hb6⟩; obtain ⟨xa, xc, rfl⟩ : ∃ xa xc, x0 = .slice xa 2 xc := ho.ints.shape; have HQ6 : Hid (Below U.heap.size U w6) := Below.after HUV.out (Below.after (Below.push (Below.refl _ _) _).drew hb6); have HO6 : Hid (Own w6 (w.heap.size + 1 + 1 + 1 + 1) (.slice xa 2 xc) [(p : Int), (r : Int)]) := ho.mono (by simp; omega); have HBK6 : Hid (Blk w6 b1 (List.replicate N 0) ∧ w.heap.size + 1 + 1 + 1 + 1 ≤ b1 ∧ ∀ k, (Value.slice xa 2 xc).ownBlock = some k → k ≠ b1) := ⟨hbk, (by simp at hb1l; omega), hap⟩; have HZ : Hid (Box w6 (w.heap.size + 1 + 1 + 1) (.slice none 0 0) (.slice none 0 0)) := HBT.out.later HQ6.out; have z0 := HZ.out.c0; have z1 := HZ.out.c1; have z2 := HZ.out.f 0; have z3 := HZ.out.f 1; have a_0 := (HBA.out.later HQ6.out).c0; have a_1 := (HBB.out.later HQ6.out).c0; have a_2 := cell_later (Below.after HB.out HQ6.out) HMA.out.c0; have a_3 := cell_later (Below.after HB.out HQ6.out) HMB.out.c1; clear ho hbk hap hb6 hb1l))
      exact HK'.out _ _ (Met.intro (HJ.out _ _ ⟨_, _, _, ⟨rfl, rfl, rfl, rfl, rfl, rfl, rfl⟩, (HO6.out.setCell _ _ (fun k hk => by have := HO6.out.frm k hk; simp; omega)).setCell _ _ (fun k hk => by have := HO6.out.frm k hk; simp; omega), (HBK6.out.1.setOther _ _ (by have := HBK6.out.2.1; simp; omega)).setOther _ _ (by have := HBK6.out.2.1; simp; omega), HBK6.out.2, HZ.out.set _ _, (HBA.out.later HQ6.out).other2 _ _ (by omega), (HBB.out.later HQ6.out).other2 _ _ (by omega), (HBX.out.later HQ6.out).other2 _ _ (by omega), ((Below.after HB.out HQ6.out).setCell (by simp; omega) _).setCell (by simp; omega) _⟩))
  · intro a w' h
    exact h.elim
theorem mul_any_1 {a0 a1 b0 b1 : Value} {s t : Ten} {w : World} (ha : Tens w a0 a1 s) (hb' : Tens w b0 b1 t) :
    Calls Tryz.prog 134 #[.agg #[a0, a1], .agg #[b0, b1]] w fun e w' => ∃ x0 x1, e = .returned (.tuple #[.agg #[x0, x1], .int .i64 (muE s t)]) ∧ OwnT w' w.heap.size x0 x1 (muR s t) ∧ Below w.heap.size w w' := by
  have bad : ∀ c : Int, c ≠ 0 → muE s t = c → (Calls Tryz.prog 134 #[.agg #[a0, a1], .agg #[b0, b1]] w fun e w' => e = .returned (.tuple #[.agg #[.slice none 0 0, .slice none 0 0], .int .i64 c]) ∧ Below w.heap.size w w') →
      Calls Tryz.prog 134 #[.agg #[a0, a1], .agg #[b0, b1]] w fun e w' => ∃ x0 x1, e = .returned (.tuple #[.agg #[x0, x1], .int .i64 (muE s t)]) ∧ OwnT w' w.heap.size x0 x1 (muR s t) ∧ Below w.heap.size w w' := by
    intro c hc he h
    refine h.mono ?_
    rintro e w' ⟨rfl, hb⟩
    refine ⟨.slice none 0 0, .slice none 0 0, by rw [he], ?_, hb⟩
    rw [muR, he, if_neg hc]
    exact OwnT.nil _ _
  cases hx : tok s with
  | false => exact bad 1 (by decide) (by simp [muE, hx]) (mul_bad1 ha hb' hx)
  | true =>
    cases hy : tok t with
    | false => exact bad 1 (by decide) (by simp [muE, hy]) (mul_bad2 ha hb' hx hy)
    | true =>
      by_cases h2 : s.1.length = 2
      · by_cases h3 : t.1.length = 2
        · obtain ⟨d, l⟩ := s
          obtain ⟨e, m⟩ := t
          obtain ⟨p, q, rfl⟩ := nat2 hx h2
          obtain ⟨q', r, rfl⟩ := nat2 hy h3
          by_cases h4 : q = q'
          · subst h4
            rw [muE_ok hx hy, muR_ok hx hy]
            exact mul_ok ha hb' hx hy
          · refine bad 4 (by decide) ?_ (mul_four3 ha hb' hx hy h4)
            rw [muE, if_pos ⟨hx, hy⟩, if_neg]
            simp
            omega
        · refine bad 4 (by decide) ?_ (mul_four2 ha hb' hx hy h2 h3)
          rw [muE, if_pos ⟨hx, hy⟩, if_neg]
          simp [h3]
      · refine bad 4 (by decide) ?_ (mul_four1 ha hb' hx hy h2)
        rw [muE, if_pos ⟨hx, hy⟩, if_neg]
        simp [h2]
theorem mul_to_1 {a0 a1 b0 b1 : Value} {s t : Ten} {w : World} (x : Int) (u : Ten) (ha : Tens w a0 a1 s) (hb' : Tens w b0 b1 t) (hx : muE s t = x) (hu : muR s t = u) :
    Calls Tryz.prog 134 #[.agg #[a0, a1], .agg #[b0, b1]] w fun e w' => ∃ x0 x1, e = .returned (.tuple #[.agg #[x0, x1], .int .i64 x]) ∧ OwnT w' w.heap.size x0 x1 u ∧ Below w.heap.size w w' := by
  subst hx hu
  exact mul_any_1 ha hb'
theorem It.later {w w' : World} {I p : Nat} {s : ByteArray} (hb : Below w.heap.size w w') (h : It w I s p) : It w' I s p := (hb.block I h.lt).trans h
theorem turn_to {a0 a1 : Value} {s : Ten} {w : World} (x : Int) (u : Ten) (ha : Tens w a0 a1 s) (hx : trE s = x) (hu : trR s = u) :
    Calls Tryz.prog 135 #[.agg #[a0, a1]] w fun e w' => ∃ x0 x1, e = .returned (.tuple #[.agg #[x0, x1], .int .i64 x]) ∧ OwnT w' w.heap.size x0 x1 u ∧ Below w.heap.size w w' := by
  subst hx hu
  exact turn_any ha
set_option maxHeartbeats 400000 in
theorem check_any {v : Value} {d : List Int} {w : World} (h : Ints w v d) :
    Calls Tryz.prog 127 #[v] w fun e w' => e = .returned (.int .i64 (erf d)) ∧ w = w' := by
  have H : Hid (Ints w v d) := h
  clear h
  go_enter Tryz.func127, Tryz.ntmps127
  go_wp2_with (go_at_call 146; refine (spell_any H.out).mono ?_; rintro e w' ⟨rfl, rfl⟩)
  go_ret
  exact ⟨rfl, rfl⟩
set_option maxHeartbeats 400000 in
theorem wider_bad {v v' : Value} {a b : List Int} {w : World} (ha : Ints w v a) (hb : Ints w v' b) (h : (okd a && okd b) = false) :
    Calls Tryz.prog 154 #[v, v'] w fun e w' => e = .returned (.int .i64 1) ∧ w = w' := by
  have HA : Hid (Ints w v a) := ha
  have HB : Hid (Ints w v' b) := hb
  clear ha hb
  cases ea : okd a with
  | false =>
    have H : Hid (okd a = false) := ea
    clear h ea
    go_enter Tryz.func154, Tryz.ntmps154
    go_wp2
    go_step3
    go_wp2_with (go_at_call 127; refine (check_any HA.out).mono ?_; rw [erf_bad H.out]; rintro e w' ⟨rfl, rfl⟩)
    try rw [Exit.noGoto_ret]
    go_ret
    exact ⟨rfl, rfl⟩
  | true =>
    have H : Hid (okd a = true) := ea
    have H2 : Hid (okd b = false) := by rw [ea] at h; show _ = _; simpa using h
    clear h ea
    go_enter Tryz.func154, Tryz.ntmps154
    go_wp2
    go_step3
    go_wp2_with fail
    refine (check_any HA.out).mono ?_
    rw [erf_ok H.out]
    rintro e w' ⟨rfl, rfl⟩
    go_wp2_with fail
    refine (check_any HB.out).mono ?_
    rw [erf_bad H2.out]
    rintro e w' ⟨rfl, rfl⟩
    go_wp2
    try rw [Exit.noGoto_ret]
    go_ret
    exact ⟨rfl, rfl⟩
set_option maxHeartbeats 400000 in
theorem wider_ok {v v' : Value} {a b : List Int} {w : World} (ha : Ints w v a) (hb : Ints w v' b) (oa : okd a = true) (ob : okd b = true) :
    Calls Tryz.prog 154 #[v, v'] w fun e w' => e = .returned (.int .i64 (if wid a b then 0 else 4)) ∧ w = w' := by
  have HA : Hid (Ints w v a) := ha
  have HB : Hid (Ints w v' b) := hb
  obtain ⟨la1, la2, _, _⟩ := okd_parts oa
  obtain ⟨lb1, lb2, _, _⟩ := okd_parts ob
  have OA : Hid (okd a = true) := oa
  have OB : Hid (okd b = true) := ob
  rcases ha.cases with ⟨rfl, a1, c1, rfl⟩ | ⟨b1, o1, c1, rfl, h0, h1, h2, h3⟩
  · simp only [List.length_nil] at la1; omega
  rcases hb.cases with ⟨rfl, a2, c2, rfl⟩ | ⟨b2, o2, c2, rfl, h0', h1', h2', h3'⟩
  · simp only [List.length_nil] at lb1; omega
  clear ha hb oa ob h2 h2' h0 h0'
  go_enter Tryz.func154, Tryz.ntmps154
  go_wp2
  refine wp_scope_jumps 0 (fun a' w' => (w' = w ∧ Hid (wid a b = false)) ∧ ∃ (u0 u1 u2 u3 u4 u5 u6 u7 u8 u9 u10 u11 u12 u13 u14 u15 u16 u17 u18 u19 u20 u21 u22 u23 u24 u25 u26 u27 u28 u29 u30 u31 u32 u33 u34 u35 u36 u37 : Value), a' = { tmps := #[u0, u1, u2, u3, u4, u5, u6, u7, u8, u9, u10, u11, u12, u13, u14, u15, u16, u17, u18, u19, u20, u21, u22, u23, u24, u25, u26, u27, u28, u29, u30, u31, u32, u33, u34, u35, u36, u37], defers := [] }) (fun _ _ => 0) rfl ?_ ?_
  · go_wp2_with fail
    refine (check_any HA.out).mono ?_
    rw [erf_ok OA.out]
    rintro e w' ⟨rfl, rfl⟩
    go_wp2_with fail
    refine (check_any HB.out).mono ?_
    rw [erf_ok OB.out]
    rintro e w' ⟨rfl, rfl⟩
    by_cases hl : a.length = b.length
    · have HL : Hid (a.length = b.length) := hl
      have hne : ((a.length : Int) != (b.length : Int)) = false := by simp [hl]
      clear hl
      go_wp2
      go_loop [22] (fun i => ∃ k : Nat, k ≤ a.length ∧ i = .int .i64 k ∧ Hid (∀ j (h1 : j < a.length) (h2 : j < b.length), j < k → widAt a[j] b[j] = true)) (fun i => a.length - (intOf i).toNat)
      case atStart => exact ⟨0, Nat.zero_le _, rfl, fun j h1 h2 h3 => by omega⟩
      case round =>
        obtain ⟨k, hk, rfl, hpre⟩ := hrel
        by_cases hlt : k < a.length
        · have hlt' : k < b.length := by have := HL.out; omega
          have hx := h3.out k hlt
          have hy := h3'.out k hlt'
          by_cases he : a[k] = b[k]
          · have he' : (a[k] != b[k]) = false := by simp [he]
            have HE : Hid (widAt a[k] b[k] = true) := by show _ = _; simp [widAt, he]
            clear he
            go_wp2
            refine ⟨⟨k + 1, by omega, by go_num, fun j h1 h2 h3 => ?_⟩, by simp [intOf]; omega⟩
            by_cases hj : j = k
            · subst hj; exact HE.out
            · exact hpre.out j h1 h2 (by omega)
          · have he' : (a[k] != b[k]) = true := by simp [he]
            by_cases h1 : a[k] = 1
            · have h1' : (a[k] != 1) = false := by simp [h1]
              have HE : Hid (widAt a[k] b[k] = true) := by show _ = _; simp [widAt, h1]
              clear he h1
              go_wp2
              refine ⟨⟨k + 1, by omega, by go_num, fun j h1 h2 h3 => ?_⟩, by simp [intOf]; omega⟩
              by_cases hj : j = k
              · subst hj; exact HE.out
              · exact hpre.out j h1 h2 (by omega)
            · have h1' : (a[k] != 1) = true := by simp [h1]
              have HE : Hid (wid a b = false) := wid_bad k hlt hlt' (by simp [widAt, h1, he])
              clear he h1
              go_wp2
              go_step3
              exact ⟨rfl, ⟨rfl, HE⟩, _, _, _, _, _, _, _, _, _, _, _, _, _, _, _, _, _, _, _, _, _, _, _, _, _, _, _, _, _, _, _, _, _, _, _, _, _, _, rfl⟩
        · have hk' : k = a.length := by omega
          have HE : Hid (wid a b = true) := wid_ok HL.out fun j h1 h2 => hpre.out j h1 h2 (by omega)
          clear hk'
          go_wp2
          rw [jump_ret]
          go_ret
          exact ⟨by rw [HE.out]; rfl, rfl⟩
    · have hne : ((a.length : Int) != (b.length : Int)) = true := by simp; omega
      have HE : Hid (wid a b = false) := wid_len hl
      clear hl
      go_wp2
      go_step3
      exact ⟨rfl, ⟨rfl, HE⟩, _, _, _, _, _, _, _, _, _, _, _, _, _, _, _, _, _, _, _, _, _, _, _, _, _, _, _, _, _, _, _, _, _, _, _, _, _, _, rfl⟩
  · rintro a w' ⟨⟨rfl, hbad⟩, u0, u1, u2, u3, u4, u5, u6, u7, u8, u9, u10, u11, u12, u13, u14, u15, u16, u17, u18, u19, u20, u21, u22, u23, u24, u25, u26, u27, u28, u29, u30, u31, u32, u33, u34, u35, u36, u37, rfl⟩
    go_wp2
    rw [jump_ret]
    go_ret
    exact ⟨by rw [hbad.out]; rfl, rfl⟩
end Go.Proofs.YtkojdigaoihkpaaGreatDoor

end
section
namespace Go.Proofs.YtkojdigaoihkpaaGreatDoor
set_option linter.unusedVariables false
set_option linter.unusedSimpArgs false
set_option maxRecDepth 100000

def chkJ (d p : List Int) (k j : Nat) : Bool :=
  (pok d (bump p j) == decide ((bump p j).getD j 0 < d.getD j 0)) && (!pok d (bump p j) || atV d (bump p j) == (k : Int) + stE d d.length j) && (whE d k j == rwE d k j) && (rsN d (d.length - 1 - j) == stE d d.length j)
def chkK (d : List Int) (k : Nat) : Bool :=
  pok d (whr d k) && (atV d (whr d k) == (k : Int)) && (List.range d.length).all (chkJ d (whr d k) k)
def chk_2 (d : List Int) : Bool := (List.range (prd d).toNat).all (chkK d)
def all1 : Bool := (List.range 8).all fun a => chk_2 [(a : Int) + 1]
def all2 : Bool := (List.range 8).all fun a => (List.range 8).all fun b => chk_2 [(a : Int) + 1, (b : Int) + 1]
def all3 (a : Nat) : Bool := (List.range 8).all fun b => (List.range 8).all fun c => !decide (prd [(a : Int) + 1, (b : Int) + 1, (c : Int) + 1] ≤ 64) || chk_2 [(a : Int) + 1, (b : Int) + 1, (c : Int) + 1]
theorem all1_true : all1 = true := by decide +kernel
theorem all2_true : all2 = true := by decide +kernel
theorem all3_true0 : all3 0 = true := by decide +kernel
theorem all3_true1 : all3 1 = true := by decide +kernel
theorem all3_true2 : all3 2 = true := by decide +kernel
theorem all3_true3 : all3 3 = true := by decide +kernel
theorem all3_true4 : all3 4 = true := by decide +kernel
theorem all3_true5 : all3 5 = true := by decide +kernel
theorem all3_true6 : all3 6 = true := by decide +kernel
theorem all3_true7 : all3 7 = true := by decide +kernel
theorem all3_true (a : Nat) (h : a < 8) : all3 a = true := by
  have : a = 0 ∨ a = 1 ∨ a = 2 ∨ a = 3 ∨ a = 4 ∨ a = 5 ∨ a = 6 ∨ a = 7 := by omega
  rcases this with rfl | rfl | rfl | rfl | rfl | rfl | rfl | rfl
  · exact all3_true0
  · exact all3_true1
  · exact all3_true2
  · exact all3_true3
  · exact all3_true4
  · exact all3_true5
  · exact all3_true6
  · exact all3_true7
theorem nat_of {x : Int} (h1 : 1 ≤ x) (h2 : x ≤ 8) : ∃ a : Nat, a < 8 ∧ x = (a : Int) + 1 := ⟨(x - 1).toNat, by omega, by omega⟩
theorem chk_ok {d : List Int} (h : okd d = true) : chk_2 d = true := by
  obtain ⟨h1, h2, hin, hp⟩ := okd_parts h
  match d, h1, h2, hin, hp with
  | [x], _, _, hin, _ =>
    obtain ⟨g1, g2⟩ := inr_mem hin (x := x) (by simp)
    obtain ⟨a, ha, rfl⟩ := nat_of g1 g2
    exact List.all_eq_true.1 all1_true a (List.mem_range.2 ha)
  | [x, y], _, _, hin, _ =>
    obtain ⟨g1, g2⟩ := inr_mem hin (x := x) (by simp)
    obtain ⟨g3, g4⟩ := inr_mem hin (x := y) (by simp)
    obtain ⟨a, ha, rfl⟩ := nat_of g1 g2
    obtain ⟨b, hb, rfl⟩ := nat_of g3 g4
    exact List.all_eq_true.1 (List.all_eq_true.1 all2_true a (List.mem_range.2 ha)) b (List.mem_range.2 hb)
  | [x, y, z], _, _, hin, hp =>
    obtain ⟨g1, g2⟩ := inr_mem hin (x := x) (by simp)
    obtain ⟨g3, g4⟩ := inr_mem hin (x := y) (by simp)
    obtain ⟨g5, g6⟩ := inr_mem hin (x := z) (by simp)
    obtain ⟨a, ha, rfl⟩ := nat_of g1 g2
    obtain ⟨b, hb, rfl⟩ := nat_of g3 g4
    obtain ⟨c, hc, rfl⟩ := nat_of g5 g6
    have := List.all_eq_true.1 (List.all_eq_true.1 (all3_true a ha) b (List.mem_range.2 hb)) c (List.mem_range.2 hc)
    rw [decide_eq_true hp] at this
    simpa using this
  | [], h1, _, _, _ => simp at h1
  | _ :: _ :: _ :: _ :: _, _, h2, _, _ => simp at h2
theorem chk_k {d : List Int} (h : okd d = true) (k : Nat) (hk : (k : Int) < prd d) : pok d (whr d k) = true ∧ atV d (whr d k) = k ∧ ∀ j, j < d.length → chkJ d (whr d k) k j = true := by
  have := List.all_eq_true.1 (chk_ok h) k (List.mem_range.2 (by omega))
  simp only [chkK, Bool.and_eq_true, beq_iff_eq, List.all_eq_true] at this
  exact ⟨this.1.1, this.1.2, fun j hj => this.2 j (List.mem_range.2 hj)⟩
end Go.Proofs.YtkojdigaoihkpaaGreatDoor

end
section
namespace Go.Proofs.YtkojdigaoihkpaaGreatDoor
set_option linter.unusedVariables false
set_option linter.unusedSimpArgs false
set_option maxRecDepth 100000

/-- A place of wider dims in narrower ones. -/
def nar (e p : List Int) : List Int := (List.range e.length).map fun j => if e.getD j 0 = 1 then 0 else p.getD j 0
def wmp (e d : List Int) (i : Nat) : Nat := (atV e (nar e (whr d i))).toNat
theorem nar_length (e p : List Int) : (nar e p).length = e.length := by simp [nar]
theorem nar_pok {e d p : List Int} (hw : wid e d = true) (hp : pok d p = true) : pok e (nar e p) = true := by
  have hl : e.length = d.length := by
    by_cases h : e.length = d.length
    · exact h
    · rw [wid_len h] at hw; cases hw
  simp only [pok, Bool.and_eq_true, decide_eq_true_eq, List.all_eq_true] at hp ⊢
  refine ⟨nar_length e p, fun k hk => ?_⟩
  have hk1 : k < e.length := List.mem_range.1 hk
  have hk2 : k < d.length := by omega
  have h1 := hp.2 k (List.mem_range.2 hk2)
  have h2 : widAt e[k] d[k] = true := by
    cases h : widAt e[k] d[k] with
    | true => rfl
    | false => rw [wid_bad k hk1 hk2 h] at hw; cases hw
  simp only [pin, Bool.and_eq_true, decide_eq_true_eq] at h1 ⊢
  have e1 : (nar e p).getD k 0 = if e.getD k 0 = 1 then 0 else p.getD k 0 := by simp [nar, hk1]
  rw [e1]
  have e2 : e.getD k 0 = e[k] := by simp [hk1]
  have e3 : d.getD k 0 = d[k] := by simp [hk2]
  rw [e2]
  rw [e3] at h1
  simp only [widAt, Bool.or_eq_true, beq_iff_eq] at h2
  by_cases g : e[k] = 1
  · rw [if_pos g, g]; omega
  · rw [if_neg g]
    rcases h2 with h2 | h2
    · omega
    · exact absurd h2 g
theorem atN_bd0 {e q : List Int} (hin : inr e = true) (hp : pok e q = true) : ∀ k, k ≤ e.length → 0 ≤ atN e q k ∧ atN e q k < prd (e.take k)
  | 0, _ => by simp [atN, prd]
  | k + 1, h => by
    obtain ⟨h1, h2⟩ := atN_bd0 hin hp k (by omega)
    simp only [pok, Bool.and_eq_true, decide_eq_true_eq, List.all_eq_true] at hp
    have h3 := hp.2 k (List.mem_range.2 (by omega))
    simp only [pin, Bool.and_eq_true, decide_eq_true_eq] at h3
    have hk : k < e.length := by omega
    have e3 : e.getD k 0 = e[k] := by simp [hk]
    have hg := inr_mem hin (List.getElem_mem hk)
    rw [atN, take_snoc e k hk, prd_snoc, e3]
    rw [e3] at h3
    have a1 := Int.mul_nonneg h1 (show 0 ≤ e[k] by omega)
    have a2 : (atN e q k + 1) * e[k] ≤ prd (e.take k) * e[k] := Int.mul_le_mul_of_nonneg_right (by omega) (by omega)
    rw [Int.add_mul, Int.one_mul] at a2
    omega
theorem wmp_lt {e d : List Int} (he : okd e = true) (ho : okd d = true) (hw : wid e d = true) (i : Nat) (hi : (i : Int) < prd d) :
    pok e (nar e (whr d i)) = true ∧ (wmp e d i : Int) = atV e (nar e (whr d i)) ∧ (wmp e d i : Int) < prd e := by
  have hp := nar_pok hw (chk_k ho i hi).1
  have hb := atN_bd0 (okd_parts he).2.2.1 hp e.length (Nat.le_refl _)
  rw [List.take_length] at hb
  have h1 : (wmp e d i : Int) = atV e (nar e (whr d i)) := by
    unfold wmp
    exact Int.toNat_of_nonneg hb.1
  exact ⟨hp, h1, by rw [h1]; exact hb.2⟩
end Go.Proofs.YtkojdigaoihkpaaGreatDoor

end
section
namespace Go.Proofs.YtkojdigaoihkpaaGreatDoor
set_option linter.unusedVariables false
set_option linter.unusedSimpArgs false
set_option maxRecDepth 100000
open Go.RowKit

/-- Narrowed as far as dim k. -/
def narK (e p : List Int) (k : Nat) : List Int := (List.range e.length).map fun j => if j < k ∧ e.getD j 0 = 1 then 0 else p.getD j 0
theorem narK_length (e p : List Int) (k : Nat) : (narK e p k).length = e.length := by simp [narK]
theorem narK_zero {e p : List Int} (h : p.length = e.length) : narK e p 0 = p := by
  apply List.ext_getElem
  · simp [narK, h]
  · intro i h1 h2
    simp [narK, h2]
theorem narK_all (e p : List Int) : narK e p e.length = nar e p := by
  apply List.ext_getElem
  · simp [narK, nar]
  · intro i h1 h2
    have : i < e.length := by simpa [narK] using h1
    simp [narK, nar, this]
theorem narK_one {e p : List Int} {k : Nat} (h : e.getD k 0 = 1) : (narK e p k).set k 0 = narK e p (k + 1) := by
  apply List.ext_getElem
  · simp [narK]
  · intro i h1 h2
    simp only [List.getElem_set, narK, List.getElem_map, List.getElem_range]
    by_cases q : k = i
    · subst q; rw [if_pos rfl, if_pos ⟨by omega, h⟩]
    · rw [if_neg q]
      by_cases h3 : i < k
      · simp [h3, show i < k + 1 from by omega]
      · simp [h3, show ¬ i < k + 1 from by omega]
theorem narK_other {e p : List Int} {k : Nat} (h : ¬ e.getD k 0 = 1) : narK e p k = narK e p (k + 1) := by
  apply List.ext_getElem
  · simp [narK]
  · intro i h1 h2
    simp only [narK, List.getElem_map, List.getElem_range]
    by_cases q : k = i
    · subst q; rw [if_neg (fun x => h x.2), if_neg (fun x => h x.2)]
    · by_cases h3 : i < k
      · simp [h3, show i < k + 1 from by omega]
      · simp [h3, show ¬ i < k + 1 from by omega]
theorem wid_length {a b : List Int} (h : wid a b = true) : a.length = b.length := by
  by_cases e : a.length = b.length
  · exact e
  · rw [wid_len e] at h; cases h
set_option maxHeartbeats 2000000 in
theorem below_ok {v v' : Value} {e d : List Int} {w : World} (he : Ints w v e) (hd : Ints w v' d) (oe : okd e = true) (od : okd d = true) (hw : wid e d = true) :
    Calls Tryz.prog 155 #[v, v'] w fun r w' => ∃ B, w.heap.size ≤ B ∧ r = .returned (.slice (some ⟨B, 0, none⟩) (prd d).toNat (prd d).toNat) ∧ Blk w' B ((List.range (prd d).toNat).map fun i => (wmp e d i : Int)) ∧ Below w.heap.size w w' := by
  have HE : Hid (Ints w v e) := he
  have HD : Hid (Ints w v' d) := hd
  have OE : Hid (okd e = true) := oe
  have OD : Hid (okd d = true) := od
  have HW : Hid (wid e d = true) := hw
  have hel := (okd_parts oe).2.1
  obtain ⟨_, _, hin, hp⟩ := okd_parts od
  have hp1 := prd_lo hin
  have hl := wid_length hw
  have HL : Hid (e.length = d.length) := hl
  obtain ⟨m, hm⟩ : ∃ m : Nat, prd d = m := ⟨(prd d).toNat, by omega⟩
  have HM : Hid (prd d = m) := hm
  have hm1 : 1 ≤ m := by omega
  have hm2 : m ≤ 64 := by omega
  have hmk := fun w => make_ints w m (by omega)
  obtain ⟨ea, ec, rfl⟩ := he.shape
  obtain ⟨da, dc, rfl⟩ := hd.shape
  rw [hl] at HE ⊢
  rw [hm, Int.toNat_natCast]
  clear he hd oe od hw hin hp hp1 hm hl
  go_enter Tryz.func155, Tryz.ntmps155
  go_wp2_with (go_at_call 164; refine (ties_any HE.out hel).mono ?_; rintro e w' ⟨rfl, rfl⟩)
  refine (cells_ok HD.out OD.out).mono ?_
  rw [HM.out]
  rintro r w1 ⟨rfl, hb1⟩
  have HB1 : Hid (Below w.heap.size w w1) := hb1
  have hz1 := hb1.size
  clear hb1
  go_wp2
  clear hmk
  have HST : Hid (Blk (w1.alloc (.cells (ia (zer m)) 3)) w1.heap.size (lay (fun i => (wmp e d i : Int)) m 0)) := by
    show Blk _ _ _
    rw [lay_zero]
    exact Blk.new w1 _
  go_loopw [25] (fun i w' => ∃ j : Nat, j ≤ m ∧ i = .int .i64 j ∧ Blk w' w1.heap.size (lay (fun i => (wmp e d i : Int)) m j) ∧ Below w1.heap.size w1 w') (fun i _ => m - (intOf i).toNat)
  case atStart => exact ⟨0, by omega, rfl, HST.out, (Below.refl _ _).alloc (Nat.le_refl _) _⟩
  case round =>
    obtain ⟨wo, rfl⟩ : ∃ x, x = wr := ⟨_, rfl⟩
    obtain ⟨j, hj, rfl, hB, hbel⟩ := hrel
    have HB3 : Hid (Blk wo w1.heap.size (lay (fun i => (wmp e d i : Int)) m j)) := hB
    have HBL3 : Hid (Below w1.heap.size w1 wo) := hbel
    have hsr := hB.lt
    clear hB hbel
    by_cases hlt : j < m
    · have HJ : Hid ((j : Int) < prd d) := by show _ < _; rw [HM.out]; omega
      have HBW : Hid (Below w.heap.size w wo) := Below.after HB1.out HBL3.out
      go_wp2_with fail
      refine (where_ok (j : Int) (HD.out.later HBW.out) OD.out (by omega) HJ.out).mono ?_
      rintro r w2 ⟨P, hP, rfl, hk2, hb2⟩
      have hz2 := hb2.size
      have hPl := hk2.lt
      have HK2 : Hid (Blk (w2.iter (tieT e) 0) P (narK e (whr d j) 0)) := by
        show Blk _ _ _
        rw [narK_zero (by rw [whr_length, HL.out]), iter_alloc]
        exact hk2.alloc _
      have HB2 : Hid (Below wo.heap.size wo (w2.iter (tieT e) 0)) := by
        show Below _ _ _
        rw [iter_alloc]
        exact hb2.alloc hz2 _
      have HI2 : Hid (It (w2.iter (tieT e) 0) w2.heap.size (tieT e) 0) := It.new _ _ _
      clear hb2 hk2
      go_wp2
      go_loopw [] (fun w' => ∃ k : Nat, k ≤ e.length ∧ Blk w' P (narK e (whr d j) k) ∧ It w' w2.heap.size (tieT e) k ∧ Below wo.heap.size wo w') (fun w' => e.length - w'.iterPos w2.heap.size)
      case atStart => exact ⟨0, Nat.zero_le _, HK2.out, HI2.out, HB2.out⟩
      case round =>
        obtain ⟨k, hk, hB, hI, hbel⟩ := hrel
        have hIB := It.blk hB hI
        by_cases hlt2 : k < e.length
        · have hks : k < (tieT e).size := by rw [tieT_size]; exact hlt2
          have hq : e.getD k 0 = e[k] := by simp [hlt2]
          have hgk := tieT_get e k hlt2 hks
          have HPP : Hid (wr.iterPos w2.heap.size = k) := hI.pos
          have HI1 : Hid (It (wr.iterAt w2.heap.size (tieT e) (k + 1)) w2.heap.size (tieT e) (k + 1)) := hI.moved _
          have HK1 : Hid (Blk (wr.iterAt w2.heap.size (tieT e) (k + 1)) P (narK e (whr d j) k)) := hB.moved hIB _ _
          have HL1 : Hid (Below wo.heap.size wo (wr.iterAt w2.heap.size (tieT e) (k + 1))) := Below.moved hbel (by omega) _ _
          have hlk : (narK e (whr d j) k).length = e.length := narK_length _ _ _
          by_cases h1 : e[k] = 1
          · have hnx := fun ty => hI.nx hks 42 (by rw [hgk, tieB, if_pos h1]; decide) (by rw [hgk, tieB, if_pos h1]; decide) ty
            have HN : Hid ((narK e (whr d j) k).set k 0 = narK e (whr d j) (k + 1)) := narK_one (by rw [hq]; exact h1)
            clear hB hI hbel hgk hq h1
            have hc := HK1.out.cell k (by omega)
            have hf := HK1.out.frozen k
            have hkd : (k : Int) < d.length := by have := HL.out; omega
            go_wp2
            clear hnx
            go_roundw
            case rel =>
              refine ⟨k + 1, by omega, ?_, HI1.out.set _ _ (by simpa using hIB), HL1.out.setCell (by simpa using hP) _⟩
              rw [← HN.out]
              exact HK1.out.set k 0
            case measure =>
              have : ((wr.iterAt w2.heap.size (tieT e) (k + 1)).setCell ⟨P, k, none⟩ (.int .i64 0)).iterPos w2.heap.size = k + 1 := It.pos (s := tieT e) (HI1.out.set _ _ (by simpa using hIB))
              rw [this, HPP.out]
              omega
          · have hnx := fun ty => hI.nx hks 61 (by rw [hgk, tieB, if_neg h1]; decide) (by rw [hgk, tieB, if_neg h1]; decide) ty
            have HN : Hid (narK e (whr d j) k = narK e (whr d j) (k + 1)) := narK_other (by rw [hq]; exact h1)
            clear hB hI hbel hgk hq h1
            go_wp2
            clear hnx
            go_roundw
            case rel =>
              refine ⟨k + 1, by omega, ?_, HI1.out, HL1.out⟩
              rw [← HN.out]
              exact HK1.out
            case measure =>
              have : (wr.iterAt w2.heap.size (tieT e) (k + 1)).iterPos w2.heap.size = k + 1 := It.pos (s := tieT e) HI1.out
              rw [this, HPP.out]
              omega
        · have hk' : k = e.length := by omega
          subst hk'
          have hnx := fun ty => hI.nd (by rw [tieT_size]) ty
          have hB' := hB
          rw [narK_all] at hB'
          have hwl := wmp_lt OE.out OD.out HW.out j HJ.out
          have hpb := hB'.lt
          have hsz := hbel.size
          have hln : (nar e (whr d j)).length = d.length := by rw [nar_length, HL.out]
          have HAO : Hid (aok e (nar e (whr d j)) = true) := by
            show _ = _
            rw [aok, OE.out, hwl.1]
            rfl
          have HAV : Hid (atV e (nar e (whr d j)) = (wmp e d j : Nat)) := hwl.2.1.symm
          have HIN : Hid (Ints wr (.slice (some ⟨P, 0, none⟩) d.length d.length) (nar e (whr d j))) := hB'.ints _ _ hln.symm (Nat.le_refl _) (by unfold big; have := HL.out; omega)
          have HBL4 : Hid (Below wo.heap.size wo wr) := hbel
          have HB4 : Hid (Blk wr w1.heap.size (lay (fun i => (wmp e d i : Int)) m j)) := HB3.out.later hbel hsr
          clear hB hB' hI hbel hwl
          go_wp2_with fail
          refine (at_to (wmp e d j : Nat) (HE.out.later (Below.after HBW.out HBL4.out)) HIN.out HAO.out HAV.out).mono ?_
          rintro r w5 ⟨rfl, hb5⟩
          have HB5 : Hid (Blk w5 w1.heap.size (lay (fun i => (wmp e d i : Int)) m j)) := HB4.out.later hb5 (by omega)
          have HBL5 : Hid (Below w1.heap.size w1 w5) := Below.after (Below.after HBL3.out HBL4.out) hb5
          have hf := HB5.out.frozen j
          obtain ⟨x, hc⟩ : ∃ x, w5.cell? ⟨w1.heap.size, j, none⟩ = some x := ⟨_, HB5.out.cell j (by rw [lay_length]; exact hlt)⟩
          clear hb5 hnx
          go_wp2
          go_roundw
          case rel =>
            refine ⟨j + 1, by omega, by go_num, ?_, HBL5.out.setCell (Nat.le_refl _) _⟩
            have := HB5.out.set j (wmp e d j : Nat)
            rw [lay_set (fun i => (wmp e d i : Int))] at this
            exact this
          case measure => simp [intOf]; omega
    · have hj' : j = m := by omega
      subst hj'
      go_wp2
      go_ret
      refine ⟨w1.heap.size, by omega, rfl, ?_, Below.after HB1.out HBL3.out⟩
      have := HB3.out
      rw [lay_all] at this
      exact this
def wiE (t : Ten) (d : List Int) : Int := if tok t then wdr t.1 d else 1
def wiR (t : Ten) (d : List Int) : Ten := if wiE t d = 0 then (d, laid (wmp t.1 d) t.2 (prd d).toNat) else ([], [])
def suE (t : Ten) (d : List Int) : Int := if tok t then wdr d t.1 else 1
def suR (t : Ten) (d : List Int) : Ten := if suE t d = 0 then (d, sums (wmp d t.1) t.2 (prd d).toNat t.2.length) else ([], [])
theorem wdr_zero {a b : List Int} (h : wdr a b = 0) : okd a = true ∧ okd b = true ∧ wid a b = true := by
  unfold wdr at h
  cases ha : okd a <;> cases hb : okd b <;> cases hw : wid a b <;> simp [ha, hb, hw] at h ⊢
theorem wider_to {v v' : Value} {a b : List Int} {w : World} (x : Int) (ha : Ints w v a) (hb : Ints w v' b) (hx : wdr a b = x) :
    Calls Tryz.prog 154 #[v, v'] w fun e w' => e = .returned (.int .i64 x) ∧ w = w' := by
  subst hx
  cases h : (okd a && okd b) with
  | false =>
    rw [wdr, h]
    exact wider_bad ha hb h
  | true =>
    have h' := h
    rw [Bool.and_eq_true] at h'
    rw [wdr, h]
    exact wider_ok ha hb h'.1 h'.2
set_option maxHeartbeats 1000000 in
theorem wide_bad {a0 a1 v : Value} {s : Ten} {d : List Int} {w : World} (x : Int) (ha : Tens w a0 a1 s) (hd : Ints w v d) (hx : wiE s d = x) (hx0 : x ≠ 0) :
    Calls Tryz.prog 137 #[.agg #[a0, a1], v] w fun e w' => e = .returned (.tuple #[.agg #[.slice none 0 0, .slice none 0 0], .int .i64 x]) ∧ Below w.heap.size w w' := by
  have hb : Below w.heap.size w ((w.alloc (.cells #[a0, a1] 156)).alloc (.cells #[.slice none 0 0, .slice none 0 0] 156)) := ((Below.refl _ _).alloc (Nat.le_refl _) _).alloc (by simp) _
  have HA : Hid (Tens ((w.alloc (.cells #[a0, a1] 156)).alloc (.cells #[.slice none 0 0, .slice none 0 0] 156)) a0 a1 s) := ha.later hb
  have HD : Hid (Ints ((w.alloc (.cells #[a0, a1] 156)).alloc (.cells #[.slice none 0 0, .slice none 0 0] 156)) v d) := hd.later hb
  have HB : Hid (Below w.heap.size w ((w.alloc (.cells #[a0, a1] 156)).alloc (.cells #[.slice none 0 0, .slice none 0 0] 156))) := hb
  have HBA : Hid (Box ((w.alloc (.cells #[a0, a1] 156)).alloc (.cells #[.slice none 0 0, .slice none 0 0] 156)) w.heap.size a0 a1) := (Box.new w a0 a1).alloc _
  have HBX : Hid (Box ((w.alloc (.cells #[a0, a1] 156)).alloc (.cells #[.slice none 0 0, .slice none 0 0] 156)) (w.heap.size + 1) (.slice none 0 0) (.slice none 0 0)) := by
    have := Box.new (w.alloc (.cells #[a0, a1] 156)) (.slice none 0 0) (.slice none 0 0)
    simp only [World.size_alloc] at this
    exact this
  cases ht : tok s with
  | false =>
    obtain rfl : x = 1 := by rw [← hx, wiE, ht]; rfl
    have HX : Hid (tkE s = 1) := by show _ = _; simp [tkE, ht]
    clear ha hd hb hx ht hx0
    go_enter Tryz.func137, Tryz.ntmps137
    go_wp2_with fail
    refine (tensor_to 1 HA.out HX.out).mono ?_
    rintro e w1 ⟨rfl, hb1⟩
    have HB1 : Hid (Below w.heap.size w w1) := Below.after HB.out hb1
    have hbx := HBX.out.later hb1
    have hx0' := hbx.c0
    have hx1 := hbx.c1
    have hf0 := hbx.f 0
    have hf1 := hbx.f 1
    have HBS : Hid (Box _ _ _ _) := hbx.set (.slice none 0 0) (.slice none 0 0)
    clear hb1 hbx
    go_wp2
    have hr0 := HBS.out.c0
    have hr1 := HBS.out.c1
    exact bodyPost_ret (v := .tuple #[.agg #[.slice none 0 0, .slice none 0 0], .int .i64 1]) (by simp [results, Tryz.results137, go_sem, hr0, hr1]) rfl ⟨rfl, (HB1.out.setCell (by simp) _).setCell (by simp) _⟩
  | true =>
    have HX : Hid (tkE s = 0) := by show _ = _; simp [tkE, ht]
    have HW : Hid (wdr s.1 d = x) := by show _ = _; rw [← hx, wiE, ht]; rfl
    have hne : (x != 0) = true := by simp [hx0]
    have HTA : Hid (Tens w a0 a1 s) := ha
    obtain ⟨aa, an, ac, rfl⟩ := ha.1.shape3
    obtain ⟨da, dn, dc, rfl⟩ := hd.shape3
    clear ha hd hb hx ht hx0
    go_enter Tryz.func137, Tryz.ntmps137
    go_wp2_with fail
    refine (tensor_to 0 HA.out HX.out).mono ?_
    rintro e w1 ⟨rfl, hb1⟩
    have HB1 : Hid (Below w.heap.size w w1) := Below.after HB.out hb1
    have hca0 := (HBA.out.later hb1).c0
    have hbx := HBX.out.later hb1
    have HA1 := HA.out.later hb1
    have HD1 := HD.out.later hb1
    have hx0' := hbx.c0
    have hx1 := hbx.c1
    have hf0 := hbx.f 0
    have hf1 := hbx.f 1
    have HBS : Hid (Box _ _ _ _) := hbx.set (.slice none 0 0) (.slice none 0 0)
    clear hb1 hbx
    go_wp2_with (go_at_call 154; refine (wider_to x HA1.1 HD1 HW.out).mono ?_; rintro e w' ⟨rfl, rfl⟩)
    have hr0 := HBS.out.c0
    have hr1 := HBS.out.c1
    exact bodyPost_ret (v := .tuple #[.agg #[.slice none 0 0, .slice none 0 0], .int .i64 x]) (by simp [results, Tryz.results137, go_sem, hr0, hr1]) rfl ⟨rfl, (HB1.out.setCell (by simp) _).setCell (by simp) _⟩
set_option maxHeartbeats 4000000 in
theorem wide_ok {a0 a1 v : Value} {s : Ten} {d : List Int} {w : World} (ha : Tens w a0 a1 s) (hd : Ints w v d) (hx : wiE s d = 0) :
    Calls Tryz.prog 137 #[.agg #[a0, a1], v] w fun e w' => ∃ x0 x1, e = .returned (.tuple #[.agg #[x0, x1], .int .i64 0]) ∧ OwnT w' w.heap.size x0 x1 (d, laid (wmp s.1 d) s.2 (prd d).toNat) ∧ Below w.heap.size w w' := by
  have ht : tok s = true := by
    cases h : tok s with
    | true => rfl
    | false => rw [wiE, h] at hx; simp at hx
  have hw : wdr s.1 d = 0 := by rw [wiE, ht] at hx; exact hx
  obtain ⟨o1, o2, hwd⟩ := wdr_zero hw
  obtain ⟨_, _, hin, hp⟩ := okd_parts o2
  have hp1 := prd_lo hin
  obtain ⟨n, hn⟩ : ∃ n : Nat, prd d = n := ⟨(prd d).toNat, by omega⟩
  have hn1 : 1 ≤ n := by omega
  have hn64 : n ≤ 64 := by omega
  have hnt : (prd d).toNat = n := by omega
  obtain ⟨hp2, hp3⟩ := tok_pos ht
  obtain ⟨m, hm⟩ : ∃ m : Nat, s.2.length = m := ⟨_, rfl⟩
  have HL : Hid (∀ i, i < n → wmp s.1 d i < m) := fun i hi => by
    have h1 := (wmp_lt o1 o2 hwd i (by omega)).2.2
    have h2 := tok_len ht
    omega
  have hm1 : 1 ≤ m := by omega
  have hm64 : m ≤ 64 := by omega
  have HNT : Hid ((prd d).toNat = n) := hnt
  have HT : Hid (tkE s = 0) := by show _ = _; simp [tkE, ht]
  have HW : Hid (wdr s.1 d = 0) := hw
  have O1 : Hid (okd s.1 = true) := o1
  have O2 : Hid (okd d = true) := o2
  have HWD : Hid (wid s.1 d = true) := hwd
  have hb : Below w.heap.size w ((w.alloc (.cells #[a0, a1] 156)).alloc (.cells #[.slice none 0 0, .slice none 0 0] 156)) := ((Below.refl _ _).alloc (Nat.le_refl _) _).alloc (by simp) _
  have HA : Hid (Tens ((w.alloc (.cells #[a0, a1] 156)).alloc (.cells #[.slice none 0 0, .slice none 0 0] 156)) a0 a1 s) := ha.later hb
  have HD : Hid (Ints ((w.alloc (.cells #[a0, a1] 156)).alloc (.cells #[.slice none 0 0, .slice none 0 0] 156)) v d) := hd.later hb
  have HB : Hid (Below w.heap.size w ((w.alloc (.cells #[a0, a1] 156)).alloc (.cells #[.slice none 0 0, .slice none 0 0] 156))) := hb
  have HBA : Hid (Box ((w.alloc (.cells #[a0, a1] 156)).alloc (.cells #[.slice none 0 0, .slice none 0 0] 156)) w.heap.size a0 a1) := (Box.new w a0 a1).alloc _
  have HBX : Hid (Box ((w.alloc (.cells #[a0, a1] 156)).alloc (.cells #[.slice none 0 0, .slice none 0 0] 156)) (w.heap.size + 1) (.slice none 0 0) (.slice none 0 0)) := by
    have := Box.new (w.alloc (.cells #[a0, a1] 156)) (.slice none 0 0) (.slice none 0 0)
    simp only [World.size_alloc] at this
    exact this
  rcases ha.2.cases with ⟨e, _⟩ | ⟨ab, ao, ac, ea, hab0, ha1, _, HCA⟩
  · rw [e] at hm; simp at hm; omega
  have hab : ab < w.heap.size := World.block_lt_of_cell? _ _ (HCA.out 0 hab0)
  have HCD : Hid (∀ i, i < m → w.cell? ⟨ab, ao + i, none⟩ = some (.int .i64 (s.2.getD i 0))) := fun i hi => Ints.cellD (n := 0) (c := 0) HCA i (by rw [hm]; exact hi)
  rw [hm] at ea ha1
  subst ea
  obtain ⟨aa, an, ac', rfl⟩ := ha.1.shape3
  obtain ⟨da, dn, dc, rfl⟩ := hd.shape3
  rw [hnt]
  clear ha hd hb hx ht hw o1 o2 hwd hin hp hp1 hn hnt hp2 hp3 hm hab0 HCA
  go_enter Tryz.func137, Tryz.ntmps137
  go_wp2_with fail
  refine (tensor_to 0 HA.out HT.out).mono ?_
  rintro e w1 ⟨rfl, hb1⟩
  have HB1 : Hid (Below w.heap.size w w1) := Below.after HB.out hb1
  have hs1 := hb1.size
  simp at hs1
  have HBA1 : Hid (Box w1 w.heap.size _ _) := HBA.out.later hb1
  have hca0 := HBA1.out.c0
  have HBX1 : Hid (Box w1 (w.heap.size + 1) _ _) := HBX.out.later hb1
  have HA1 : Hid (Tens w1 _ _ s) := HA.out.later hb1
  have HD1 : Hid (Ints w1 _ d) := HD.out.later hb1
  clear hb1 HA HB HBA HBX HD
  go_wp2_with (go_at_call 154; refine (wider_to 0 HA1.out.1 HD1.out HW.out).mono ?_; rintro e w' ⟨rfl, rfl⟩)
  refine (fill_own 0 HD1.out O2.out).mono ?_
  rw [HNT.out]
  rintro e w2 ⟨x0, b1, rfl, ho, hbk, ⟨hb1l, hap⟩, hb2⟩
  have hs2 := hb2.size
  obtain ⟨xa, xn, xc, rfl⟩ := ho.ints.shape3
  have hbl := hbk.lt
  have hv : Below w2.heap.size w2 (w2.alloc (.cells #[.slice xa xn xc, .slice (some ⟨b1, 0, none⟩) n n] 156)) := (Below.refl _ _).alloc (Nat.le_refl _) _
  have HB2 : Hid (Below w.heap.size w (w2.alloc (.cells #[.slice xa xn xc, .slice (some ⟨b1, 0, none⟩) n n] 156))) := Below.after (Below.after HB1.out hb2) hv
  have HBA2 : Hid (Box (w2.alloc (.cells #[.slice xa xn xc, .slice (some ⟨b1, 0, none⟩) n n] 156)) w.heap.size _ _) := (HBA1.out.later hb2).alloc _
  have HBX2 : Hid (Box (w2.alloc (.cells #[.slice xa xn xc, .slice (some ⟨b1, 0, none⟩) n n] 156)) (w.heap.size + 1) _ _) := (HBX1.out.later hb2).alloc _
  have HBT2 : Hid (Box (w2.alloc (.cells #[.slice xa xn xc, .slice (some ⟨b1, 0, none⟩) n n] 156)) w2.heap.size _ _) := Box.new _ _ _
  have HO2 : Hid (Own (w2.alloc (.cells #[.slice xa xn xc, .slice (some ⟨b1, 0, none⟩) n n] 156)) w1.heap.size (.slice xa xn xc) d) := ho.later hv
  have HK2 : Hid (Blk (w2.alloc (.cells #[.slice xa xn xc, .slice (some ⟨b1, 0, none⟩) n n] 156)) b1 (List.replicate n 0)) := hbk.alloc _
  have HA2 : Hid (Tens (w2.alloc (.cells #[.slice xa xn xc, .slice (some ⟨b1, 0, none⟩) n n] 156)) _ _ s) := (HA1.out.later hb2).later hv
  have HD2 : Hid (Ints (w2.alloc (.cells #[.slice xa xn xc, .slice (some ⟨b1, 0, none⟩) n n] 156)) _ d) := (HD1.out.later hb2).later hv
  have HAP : Hid (∀ k, (Value.slice xa xn xc).ownBlock = some k → k ≠ b1) := hap
  have hca2 := HBA2.out.c0
  clear ho hbk hap hb2 hv hca0
  go_wp2_with fail
  refine (below_ok HA2.out.1 HD2.out O1.out O2.out HWD.out).mono ?_
  rw [HNT.out]
  rintro e w3 ⟨B, hBl, rfl, hbk, hb3⟩
  simp only [World.size_alloc] at hBl
  have hs3 := hb3.size
  simp at hs3
  have hBL := hbk.lt
  have HB3 : Hid (Below w.heap.size w w3) := Below.after HB2.out hb3
  have HBA3 : Hid (Box w3 w.heap.size _ _) := HBA2.out.later hb3
  have HBX3 : Hid (Box w3 (w.heap.size + 1) _ _) := HBX2.out.later hb3
  have HBT3 : Hid (Box w3 w2.heap.size _ _) := HBT2.out.later hb3
  have HO3 : Hid (Own w3 w1.heap.size (.slice xa xn xc) d) := HO2.out.later hb3
  have HP3 : Hid (Blk w3 B ((List.range n).map fun i => (wmp s.1 d i : Int))) := hbk
  have HK3 : Hid (Blk w3 b1 (lay (fun i => s.2.getD (wmp s.1 d i) 0) n 0)) := by
    show Blk _ _ _
    rw [lay_zero]
    exact HK2.out.later hb3 (by simp; omega)
  clear hbk hb3 HB2 HBA2 HBX2 HBT2 HO2 HK2 HA2 HD2 HA1 HD1 HBA1 HBX1 hca2
  go_wp2
  go_loopw [33] (fun i w' => ∃ j : Nat, j ≤ n ∧ i = .int .i64 j ∧ Blk w' b1 (lay (fun i => s.2.getD (wmp s.1 d i) 0) n j) ∧ But b1 w3 w') (fun i _ => n - (intOf i).toNat)
  case atStart => exact ⟨0, by omega, rfl, HK3.out, But.refl _ _⟩
  case round =>
    obtain ⟨j, hj, rfl, hB, hbut⟩ := hrel
    have HBU : Hid (But b1 w3 wr) := hbut
    have HKR : Hid (Blk wr b1 (lay (fun i => s.2.getD (wmp s.1 d i) 0) n j)) := hB
    clear hB hbut
    by_cases hlt : j < n
    · have hwl := HL.out j hlt
      have hpl : wr.cell? ⟨B, j, none⟩ = some (.int .i64 (wmp s.1 d j : Nat)) := by
        rw [HBU.out.cell (by simp; omega), HP3.out.cell j (by simpa using hlt)]
        simp
      have hba := (HBU.out.box HBA3.out (by omega)).c1
      have hbt := (HBU.out.box HBT3.out (by omega)).c1
      have hy : wr.cell? ⟨ab, ao + wmp s.1 d j, none⟩ = some (.int .i64 (s.2.getD (wmp s.1 d j) 0)) := (HBU.out.cell (by simp; omega)).trans (cell_later HB3.out (HCD.out _ hwl))
      have hf := HKR.out.frozen j
      obtain ⟨x, hc⟩ : ∃ x, wr.cell? ⟨b1, j, none⟩ = some x := ⟨_, HKR.out.cell j (by rw [lay_length]; exact hlt)⟩
      have HKS : Hid (Blk (wr.setCell ⟨b1, j, none⟩ (.int .i64 (s.2.getD (wmp s.1 d j) 0))) b1 (lay (fun i => s.2.getD (wmp s.1 d i) 0) n (j + 1))) := by
        have := HKR.out.set j (s.2.getD (wmp s.1 d j) 0)
        rw [lay_set (fun i => s.2.getD (wmp s.1 d i) 0)] at this
        exact this
      have HBS : Hid (But b1 w3 (wr.setCell ⟨b1, j, none⟩ (.int .i64 (s.2.getD (wmp s.1 d j) 0)))) := HBU.out.setCell _
      go_wp2
      go_region
      go_wp2
      go_roundw
      case rel => exact ⟨j + 1, by omega, by go_num, HKS.out.drew, HBS.out.drew⟩
      case measure => simp [intOf]; omega
    · have hj' : j = n := by omega
      subst hj'
      have hbt := HBU.out.box HBT3.out (by omega)
      have t0 := hbt.c0
      have t1 := hbt.c1
      have hbx := HBU.out.box HBX3.out (by omega)
      have l0 := hbx.c0
      have l1 := hbx.c1
      have m0 := hbx.f 0
      have m1 := hbx.f 1
      have HBS : Hid (Box _ _ _ _) := hbx.set (.slice xa xn xc) (.slice (some ⟨b1, 0, none⟩) j j)
      have HO5 : Hid (Own wr w1.heap.size (.slice xa xn xc) d) := HO3.out.at fun k hk => HBU.out.block k (HAP.out k hk)
      have HK5 : Hid (Own wr w1.heap.size (.slice (some ⟨b1, 0, none⟩) j j) (laid (wmp s.1 d) s.2 j)) := by
        have h := HKR.out
        rw [lay_all] at h
        exact Blk.own (xs := laid (wmp s.1 d) s.2 j) h hb1l (laid_length _ _ _).symm (by rw [laid_length]; unfold big; omega)
      have HBE : Hid (Below w.heap.size w wr) := HBU.out.below HB3.out (by omega)
      clear hbx hbt
      go_wp2
      have hr0 := HBS.out.c0
      have hr1 := HBS.out.c1
      refine bodyPost_ret (v := .tuple #[.agg #[.slice xa xn xc, .slice (some ⟨b1, 0, none⟩) j j], .int .i64 0]) (by simp [results, Tryz.results137, go_sem, hr0, hr1]) rfl ⟨_, _, rfl, ?_, ?_⟩
      · have h1 : OwnT wr w1.heap.size (.slice xa xn xc) (.slice (some ⟨b1, 0, none⟩) j j) (d, laid (wmp s.1 d) s.2 j) := ⟨HO5.out, HK5.out, fun k hk e => HAP.out k hk (by simp [Value.ownBlock] at e; exact e.symm)⟩
        exact ((h1.setCell _ _ (by simp; omega)).setCell _ _ (by simp; omega)).mono (by omega)
      · exact (HBE.out.setCell (by simp) _).setCell (by simp) _
set_option maxHeartbeats 1000000 in
theorem sumd_bad {a0 a1 v : Value} {s : Ten} {d : List Int} {w : World} (x : Int) (ha : Tens w a0 a1 s) (hd : Ints w v d) (hx : suE s d = x) (hx0 : x ≠ 0) :
    Calls Tryz.prog 138 #[.agg #[a0, a1], v] w fun e w' => e = .returned (.tuple #[.agg #[.slice none 0 0, .slice none 0 0], .int .i64 x]) ∧ Below w.heap.size w w' := by
  have hb : Below w.heap.size w ((w.alloc (.cells #[a0, a1] 156)).alloc (.cells #[.slice none 0 0, .slice none 0 0] 156)) := ((Below.refl _ _).alloc (Nat.le_refl _) _).alloc (by simp) _
  have HA : Hid (Tens ((w.alloc (.cells #[a0, a1] 156)).alloc (.cells #[.slice none 0 0, .slice none 0 0] 156)) a0 a1 s) := ha.later hb
  have HD : Hid (Ints ((w.alloc (.cells #[a0, a1] 156)).alloc (.cells #[.slice none 0 0, .slice none 0 0] 156)) v d) := hd.later hb
  have HB : Hid (Below w.heap.size w ((w.alloc (.cells #[a0, a1] 156)).alloc (.cells #[.slice none 0 0, .slice none 0 0] 156))) := hb
  have HBA : Hid (Box ((w.alloc (.cells #[a0, a1] 156)).alloc (.cells #[.slice none 0 0, .slice none 0 0] 156)) w.heap.size a0 a1) := (Box.new w a0 a1).alloc _
  have HBX : Hid (Box ((w.alloc (.cells #[a0, a1] 156)).alloc (.cells #[.slice none 0 0, .slice none 0 0] 156)) (w.heap.size + 1) (.slice none 0 0) (.slice none 0 0)) := by
    have := Box.new (w.alloc (.cells #[a0, a1] 156)) (.slice none 0 0) (.slice none 0 0)
    simp only [World.size_alloc] at this
    exact this
  cases ht : tok s with
  | false =>
    obtain rfl : x = 1 := by rw [← hx, suE, ht]; rfl
    have HX : Hid (tkE s = 1) := by show _ = _; simp [tkE, ht]
    clear ha hd hb hx ht hx0
    go_enter Tryz.func138, Tryz.ntmps138
    go_wp2_with fail
    refine (tensor_to 1 HA.out HX.out).mono ?_
    rintro e w1 ⟨rfl, hb1⟩
    have HB1 : Hid (Below w.heap.size w w1) := Below.after HB.out hb1
    have hbx := HBX.out.later hb1
    have hx0' := hbx.c0
    have hx1 := hbx.c1
    have hf0 := hbx.f 0
    have hf1 := hbx.f 1
    have HBS : Hid (Box _ _ _ _) := hbx.set (.slice none 0 0) (.slice none 0 0)
    clear hb1 hbx
    go_wp2
    have hr0 := HBS.out.c0
    have hr1 := HBS.out.c1
    exact bodyPost_ret (v := .tuple #[.agg #[.slice none 0 0, .slice none 0 0], .int .i64 1]) (by simp [results, Tryz.results138, go_sem, hr0, hr1]) rfl ⟨rfl, (HB1.out.setCell (by simp) _).setCell (by simp) _⟩
  | true =>
    have HX : Hid (tkE s = 0) := by show _ = _; simp [tkE, ht]
    have HW : Hid (wdr d s.1 = x) := by show _ = _; rw [← hx, suE, ht]; rfl
    have hne : (x != 0) = true := by simp [hx0]
    have HTA : Hid (Tens w a0 a1 s) := ha
    obtain ⟨aa, an, ac, rfl⟩ := ha.1.shape3
    obtain ⟨da, dn, dc, rfl⟩ := hd.shape3
    clear ha hd hb hx ht hx0
    go_enter Tryz.func138, Tryz.ntmps138
    go_wp2_with fail
    refine (tensor_to 0 HA.out HX.out).mono ?_
    rintro e w1 ⟨rfl, hb1⟩
    have HB1 : Hid (Below w.heap.size w w1) := Below.after HB.out hb1
    have hca0 := (HBA.out.later hb1).c0
    have hbx := HBX.out.later hb1
    have HA1 := HA.out.later hb1
    have HD1 := HD.out.later hb1
    have hx0' := hbx.c0
    have hx1 := hbx.c1
    have hf0 := hbx.f 0
    have hf1 := hbx.f 1
    have HBS : Hid (Box _ _ _ _) := hbx.set (.slice none 0 0) (.slice none 0 0)
    clear hb1 hbx
    go_wp2_with (go_at_call 154; refine (wider_to x HD1 HA1.1 HW.out).mono ?_; rintro e w' ⟨rfl, rfl⟩)
    have hr0 := HBS.out.c0
    have hr1 := HBS.out.c1
    exact bodyPost_ret (v := .tuple #[.agg #[.slice none 0 0, .slice none 0 0], .int .i64 x]) (by simp [results, Tryz.results138, go_sem, hr0, hr1]) rfl ⟨rfl, (HB1.out.setCell (by simp) _).setCell (by simp) _⟩
set_option maxHeartbeats 4000000 in
theorem sumd_ok {a0 a1 v : Value} {s : Ten} {d : List Int} {w : World} (ha : Tens w a0 a1 s) (hd : Ints w v d) (hx : suE s d = 0) :
    Calls Tryz.prog 138 #[.agg #[a0, a1], v] w fun e w' => ∃ x0 x1, e = .returned (.tuple #[.agg #[x0, x1], .int .i64 0]) ∧ OwnT w' w.heap.size x0 x1 (d, sums (wmp d s.1) s.2 (prd d).toNat s.2.length) ∧ Below w.heap.size w w' := by
  have ht : tok s = true := by
    cases h : tok s with
    | true => rfl
    | false => rw [suE, h] at hx; simp at hx
  have hw : wdr d s.1 = 0 := by rw [suE, ht] at hx; exact hx
  obtain ⟨o2, o1, hwd⟩ := wdr_zero hw
  obtain ⟨_, _, hin, hp⟩ := okd_parts o2
  have hp1 := prd_lo hin
  obtain ⟨n, hn⟩ : ∃ n : Nat, prd d = n := ⟨(prd d).toNat, by omega⟩
  have hn1 : 1 ≤ n := by omega
  have hn64 : n ≤ 64 := by omega
  have hnt : (prd d).toNat = n := by omega
  obtain ⟨hp2, hp3⟩ := tok_pos ht
  obtain ⟨m, hm⟩ : ∃ m : Nat, s.2.length = m := ⟨_, rfl⟩
  have HL : Hid (∀ i, i < m → wmp d s.1 i < n) := fun i hi => by
    have h2 := tok_len ht
    have h1 := (wmp_lt o2 o1 hwd i (by omega)).2.2
    omega
  have hm1 : 1 ≤ m := by omega
  have hm64 : m ≤ 64 := by omega
  have HNT : Hid ((prd d).toNat = n) := hnt
  have HMT : Hid ((prd s.1).toNat = m) := by
    show _ = _
    have h2 := tok_len ht
    omega
  have HT : Hid (tkE s = 0) := by show _ = _; simp [tkE, ht]
  have HW : Hid (wdr d s.1 = 0) := hw
  have O1 : Hid (okd s.1 = true) := o1
  have O2 : Hid (okd d = true) := o2
  have HWD : Hid (wid d s.1 = true) := hwd
  have hb : Below w.heap.size w ((w.alloc (.cells #[a0, a1] 156)).alloc (.cells #[.slice none 0 0, .slice none 0 0] 156)) := ((Below.refl _ _).alloc (Nat.le_refl _) _).alloc (by simp) _
  have HA : Hid (Tens ((w.alloc (.cells #[a0, a1] 156)).alloc (.cells #[.slice none 0 0, .slice none 0 0] 156)) a0 a1 s) := ha.later hb
  have HD : Hid (Ints ((w.alloc (.cells #[a0, a1] 156)).alloc (.cells #[.slice none 0 0, .slice none 0 0] 156)) v d) := hd.later hb
  have HB : Hid (Below w.heap.size w ((w.alloc (.cells #[a0, a1] 156)).alloc (.cells #[.slice none 0 0, .slice none 0 0] 156))) := hb
  have HBA : Hid (Box ((w.alloc (.cells #[a0, a1] 156)).alloc (.cells #[.slice none 0 0, .slice none 0 0] 156)) w.heap.size a0 a1) := (Box.new w a0 a1).alloc _
  have HBX : Hid (Box ((w.alloc (.cells #[a0, a1] 156)).alloc (.cells #[.slice none 0 0, .slice none 0 0] 156)) (w.heap.size + 1) (.slice none 0 0) (.slice none 0 0)) := by
    have := Box.new (w.alloc (.cells #[a0, a1] 156)) (.slice none 0 0) (.slice none 0 0)
    simp only [World.size_alloc] at this
    exact this
  rcases ha.2.cases with ⟨e, _⟩ | ⟨ab, ao, ac, ea, hab0, ha1, _, HCA⟩
  · rw [e] at hm; simp at hm; omega
  have hab : ab < w.heap.size := World.block_lt_of_cell? _ _ (HCA.out 0 hab0)
  have HCD : Hid (∀ i, i < m → w.cell? ⟨ab, ao + i, none⟩ = some (.int .i64 (s.2.getD i 0))) := fun i hi => Ints.cellD (n := 0) (c := 0) HCA i (by rw [hm]; exact hi)
  rw [hm] at ea ha1
  subst ea
  obtain ⟨aa, an, ac', rfl⟩ := ha.1.shape3
  obtain ⟨da, dn, dc, rfl⟩ := hd.shape3
  rw [hnt, hm]
  clear ha hd hb hx ht hw o1 o2 hwd hin hp hp1 hn hnt hp2 hp3 hm hab0 HCA
  go_enter Tryz.func138, Tryz.ntmps138
  go_wp2_with fail
  refine (tensor_to 0 HA.out HT.out).mono ?_
  rintro e w1 ⟨rfl, hb1⟩
  have HB1 : Hid (Below w.heap.size w w1) := Below.after HB.out hb1
  have hs1 := hb1.size
  simp at hs1
  have HBA1 : Hid (Box w1 w.heap.size _ _) := HBA.out.later hb1
  have hca0 := HBA1.out.c0
  have HBX1 : Hid (Box w1 (w.heap.size + 1) _ _) := HBX.out.later hb1
  have HA1 : Hid (Tens w1 _ _ s) := HA.out.later hb1
  have HD1 : Hid (Ints w1 _ d) := HD.out.later hb1
  clear hb1 HA HB HBA HBX HD
  go_wp2_with (go_at_call 154; refine (wider_to 0 HD1.out HA1.out.1 HW.out).mono ?_; rintro e w' ⟨rfl, rfl⟩)
  refine (fill_own 0 HD1.out O2.out).mono ?_
  rw [HNT.out]
  rintro e w2 ⟨x0, b1, rfl, ho, hbk, ⟨hb1l, hap⟩, hb2⟩
  have hs2 := hb2.size
  obtain ⟨xa, xn, xc, rfl⟩ := ho.ints.shape3
  have hbl := hbk.lt
  have hv : Below w2.heap.size w2 (w2.alloc (.cells #[.slice xa xn xc, .slice (some ⟨b1, 0, none⟩) n n] 156)) := (Below.refl _ _).alloc (Nat.le_refl _) _
  have HB2 : Hid (Below w.heap.size w (w2.alloc (.cells #[.slice xa xn xc, .slice (some ⟨b1, 0, none⟩) n n] 156))) := Below.after (Below.after HB1.out hb2) hv
  have HBA2 : Hid (Box (w2.alloc (.cells #[.slice xa xn xc, .slice (some ⟨b1, 0, none⟩) n n] 156)) w.heap.size _ _) := (HBA1.out.later hb2).alloc _
  have HBX2 : Hid (Box (w2.alloc (.cells #[.slice xa xn xc, .slice (some ⟨b1, 0, none⟩) n n] 156)) (w.heap.size + 1) _ _) := (HBX1.out.later hb2).alloc _
  have HBT2 : Hid (Box (w2.alloc (.cells #[.slice xa xn xc, .slice (some ⟨b1, 0, none⟩) n n] 156)) w2.heap.size _ _) := Box.new _ _ _
  have HO2 : Hid (Own (w2.alloc (.cells #[.slice xa xn xc, .slice (some ⟨b1, 0, none⟩) n n] 156)) w1.heap.size (.slice xa xn xc) d) := ho.later hv
  have HK2 : Hid (Blk (w2.alloc (.cells #[.slice xa xn xc, .slice (some ⟨b1, 0, none⟩) n n] 156)) b1 (List.replicate n 0)) := hbk.alloc _
  have HA2 : Hid (Tens (w2.alloc (.cells #[.slice xa xn xc, .slice (some ⟨b1, 0, none⟩) n n] 156)) _ _ s) := (HA1.out.later hb2).later hv
  have HD2 : Hid (Ints (w2.alloc (.cells #[.slice xa xn xc, .slice (some ⟨b1, 0, none⟩) n n] 156)) _ d) := (HD1.out.later hb2).later hv
  have HAP : Hid (∀ k, (Value.slice xa xn xc).ownBlock = some k → k ≠ b1) := hap
  have hca2 := HBA2.out.c0
  clear ho hbk hap hb2 hv hca0
  go_wp2_with fail
  refine (below_ok HD2.out HA2.out.1 O2.out O1.out HWD.out).mono ?_
  rw [HMT.out]
  rintro e w3 ⟨B, hBl, rfl, hbk, hb3⟩
  simp only [World.size_alloc] at hBl
  have hs3 := hb3.size
  simp at hs3
  have hBL := hbk.lt
  have HB3 : Hid (Below w.heap.size w w3) := Below.after HB2.out hb3
  have HBA3 : Hid (Box w3 w.heap.size _ _) := HBA2.out.later hb3
  have HBX3 : Hid (Box w3 (w.heap.size + 1) _ _) := HBX2.out.later hb3
  have HBT3 : Hid (Box w3 w2.heap.size _ _) := HBT2.out.later hb3
  have HO3 : Hid (Own w3 w1.heap.size (.slice xa xn xc) d) := HO2.out.later hb3
  have HP3 : Hid (Blk w3 B ((List.range m).map fun i => (wmp d s.1 i : Int))) := hbk
  have HK3 : Hid (Blk w3 b1 (sums (wmp d s.1) s.2 n 0)) := by
    show Blk _ _ _
    rw [sums_zero]
    exact HK2.out.later hb3 (by simp; omega)
  clear hbk hb3 HB2 HBA2 HBX2 HBT2 HO2 HK2 HA2 HD2 HA1 HD1 HBA1 HBX1 hca2
  go_wp2
  go_loopw [33] (fun i w' => ∃ j : Nat, j ≤ m ∧ i = .int .i64 j ∧ Blk w' b1 (sums (wmp d s.1) s.2 n j) ∧ But b1 w3 w') (fun i _ => m - (intOf i).toNat)
  case atStart => exact ⟨0, by omega, rfl, HK3.out, But.refl _ _⟩
  case round =>
    obtain ⟨j, hj, rfl, hB, hbut⟩ := hrel
    have HBU : Hid (But b1 w3 wr) := hbut
    have HKR : Hid (Blk wr b1 (sums (wmp d s.1) s.2 n j)) := hB
    clear hB hbut
    by_cases hlt : j < m
    · have hwl := HL.out j hlt
      obtain ⟨q, hq⟩ : ∃ q, wmp d s.1 j = q := ⟨_, rfl⟩
      rw [hq] at hwl
      have hpl : wr.cell? ⟨B, j, none⟩ = some (.int .i64 (q : Nat)) := by
        rw [HBU.out.cell (by simp; omega), HP3.out.cell j (by simpa using hlt)]
        simp [hq]
      have hba := (HBU.out.box HBA3.out (by omega)).c1
      have hbt := (HBU.out.box HBT3.out (by omega)).c1
      have hy : wr.cell? ⟨ab, ao + j, none⟩ = some (.int .i64 (s.2.getD j 0)) := (HBU.out.cell (by simp; omega)).trans (cell_later HB3.out (HCD.out _ hlt))
      have hf := HKR.out.frozen q
      have hc : wr.cell? ⟨b1, q, none⟩ = some (.int .i64 ((sums (wmp d s.1) s.2 n j).getD q 0)) := by
        rw [HKR.out.cell q (by rw [sums_length]; exact hwl)]
        simp [sums_length, hwl]
      have HKS : Hid (Blk (wr.setCell ⟨b1, q, none⟩ (.int .i64 (wrap64 ((sums (wmp d s.1) s.2 n j).getD q 0 + s.2.getD j 0)))) b1 (sums (wmp d s.1) s.2 n (j + 1))) := by
        have := HKR.out.set q (wrap64 ((sums (wmp d s.1) s.2 n j).getD q 0 + s.2.getD j 0))
        rw [← hq, sums_set (wmp d s.1) s.2 n j (by rw [hq]; exact hwl), hq] at this
        exact this
      have HBS : Hid (But b1 w3 (wr.setCell ⟨b1, q, none⟩ (.int .i64 (wrap64 ((sums (wmp d s.1) s.2 n j).getD q 0 + s.2.getD j 0))))) := HBU.out.setCell _
      clear hq
      go_wp2
      go_region
      go_wp2
      go_roundw
      case rel => exact ⟨j + 1, by omega, by go_num, HKS.out.drew, HBS.out.drew⟩
      case measure => simp [intOf]; omega
    · have hj' : j = m := by omega
      subst hj'
      have hbt := HBU.out.box HBT3.out (by omega)
      have t0 := hbt.c0
      have t1 := hbt.c1
      have hbx := HBU.out.box HBX3.out (by omega)
      have l0 := hbx.c0
      have l1 := hbx.c1
      have m0 := hbx.f 0
      have m1 := hbx.f 1
      have HBS : Hid (Box _ _ _ _) := hbx.set (.slice xa xn xc) (.slice (some ⟨b1, 0, none⟩) n n)
      have HO5 : Hid (Own wr w1.heap.size (.slice xa xn xc) d) := HO3.out.at fun k hk => HBU.out.block k (HAP.out k hk)
      have HK5 : Hid (Own wr w1.heap.size (.slice (some ⟨b1, 0, none⟩) n n) (sums (wmp d s.1) s.2 n j)) := by
        have h := HKR.out
        exact Blk.own (xs := sums (wmp d s.1) s.2 n j) h hb1l (sums_length _ _ _ _).symm (by rw [sums_length]; unfold big; omega)
      have HBE : Hid (Below w.heap.size w wr) := HBU.out.below HB3.out (by omega)
      clear hbx hbt
      go_wp2
      have hr0 := HBS.out.c0
      have hr1 := HBS.out.c1
      refine bodyPost_ret (v := .tuple #[.agg #[.slice xa xn xc, .slice (some ⟨b1, 0, none⟩) n n], .int .i64 0]) (by simp [results, Tryz.results138, go_sem, hr0, hr1]) rfl ⟨_, _, rfl, ?_, ?_⟩
      · have h1 : OwnT wr w1.heap.size (.slice xa xn xc) (.slice (some ⟨b1, 0, none⟩) n n) (d, sums (wmp d s.1) s.2 n j) := ⟨HO5.out, HK5.out, fun k hk e => HAP.out k hk (by simp [Value.ownBlock] at e; exact e.symm)⟩
        exact ((h1.setCell _ _ (by simp; omega)).setCell _ _ (by simp; omega)).mono (by omega)
      · exact (HBE.out.setCell (by simp) _).setCell (by simp) _
theorem wide_any {a0 a1 v : Value} {s : Ten} {d : List Int} {w : World} (ha : Tens w a0 a1 s) (hd : Ints w v d) :
    Calls Tryz.prog 137 #[.agg #[a0, a1], v] w fun e w' => ∃ x0 x1, e = .returned (.tuple #[.agg #[x0, x1], .int .i64 (wiE s d)]) ∧ OwnT w' w.heap.size x0 x1 (wiR s d) ∧ Below w.heap.size w w' := by
  by_cases h : wiE s d = 0
  · rw [wiR, if_pos h, h]
    exact wide_ok ha hd h
  · rw [wiR, if_neg h]
    refine (wide_bad _ ha hd rfl h).mono ?_
    rintro e w' ⟨rfl, hb⟩
    exact ⟨_, _, rfl, OwnT.nil _ _, hb⟩
theorem sumd_any {a0 a1 v : Value} {s : Ten} {d : List Int} {w : World} (ha : Tens w a0 a1 s) (hd : Ints w v d) :
    Calls Tryz.prog 138 #[.agg #[a0, a1], v] w fun e w' => ∃ x0 x1, e = .returned (.tuple #[.agg #[x0, x1], .int .i64 (suE s d)]) ∧ OwnT w' w.heap.size x0 x1 (suR s d) ∧ Below w.heap.size w w' := by
  by_cases h : suE s d = 0
  · rw [suR, if_pos h, h]
    exact sumd_ok ha hd h
  · rw [suR, if_neg h]
    refine (sumd_bad _ ha hd rfl h).mono ?_
    rintro e w' ⟨rfl, hb⟩
    exact ⟨_, _, rfl, OwnT.nil _ _, hb⟩
def shE (t : Ten) (d : List Int) : Int := if okd d && tok t then (if (t.2.length : Int) = prd d then 0 else 4) else 1
def shR (t : Ten) (d : List Int) : Ten := if shE t d = 0 then (d, t.2) else ([], [])
theorem size3 : (Tryz.prog.info? 3).map (·.size) = some 1 := by kernel_rfl
set_option maxRecDepth 100000 in
set_option maxHeartbeats 2000000 in
theorem shape_bad1 {a0 a1 v : Value} {s : Ten} {d : List Int} {w : World} (ha : Tens w a0 a1 s) (hd : Ints w v d) (hx : (okd d && tok s) = false) :
    Calls Tryz.prog 136 #[.agg #[a0, a1], v] w fun e w' => e = .returned (.tuple #[.agg #[.slice none 0 0, .slice none 0 0], .int .i64 1]) ∧ Below w.heap.size w w' := by
  have hb : Below w.heap.size w ((w.alloc (.cells #[a0, a1] 156)).alloc (.cells #[.slice none 0 0, .slice none 0 0] 156)) := ((Below.refl _ _).alloc (Nat.le_refl _) _).alloc (by simp) _
  have HA : Hid (Tens ((w.alloc (.cells #[a0, a1] 156)).alloc (.cells #[.slice none 0 0, .slice none 0 0] 156)) a0 a1 s) := ha.later hb
  have HD : Hid (Ints ((w.alloc (.cells #[a0, a1] 156)).alloc (.cells #[.slice none 0 0, .slice none 0 0] 156)) v d) := hd.later hb
  have HB : Hid (Below w.heap.size w ((w.alloc (.cells #[a0, a1] 156)).alloc (.cells #[.slice none 0 0, .slice none 0 0] 156))) := hb
  have HBA : Hid (Box ((w.alloc (.cells #[a0, a1] 156)).alloc (.cells #[.slice none 0 0, .slice none 0 0] 156)) w.heap.size a0 a1) := (Box.new w a0 a1).alloc _
  have HBX : Hid (Box ((w.alloc (.cells #[a0, a1] 156)).alloc (.cells #[.slice none 0 0, .slice none 0 0] 156)) (w.heap.size + 1) (.slice none 0 0) (.slice none 0 0)) := by
    have := Box.new (w.alloc (.cells #[a0, a1] 156)) (.slice none 0 0) (.slice none 0 0)
    simp only [World.size_alloc] at this
    exact this
  obtain ⟨aa, an, ac, rfl⟩ := ha.1.shape3
  obtain ⟨ba, bn, bc, rfl⟩ := ha.2.shape3
  have HX : Hid ((okd d && tok s) = false) := hx
  clear ha hd hb hx
  go_enter Tryz.func136, Tryz.ntmps136
  go_wp2_with fail
  refine wp_scope_jumps 0 (Jg 35 4 (w.heap.size + 1) w) (fun _ _ => 0) rfl ?_ ?_
  · cases ho : okd d with
    | false =>
      go_wp2_with fail
      refine (fill_bad 0 HD.out ho).mono ?_
      rintro e w1 ⟨rfl, hb1⟩
      have HB1 : Hid (Below w.heap.size w (w1.alloc (.cells #[.slice none 0 0, .slice none 0 0] 156))) := Below.push (Below.after HB.out hb1) _
      have HBX1 : Hid (Box (w1.alloc (.cells #[.slice none 0 0, .slice none 0 0] 156)) (w.heap.size + 1) (.slice none 0 0) (.slice none 0 0)) := (HBX.out.later hb1).alloc _
      clear hb1 ho
      go_wp2
      go_step3
      exact ⟨rfl, rfl, rfl, rfl, HBX1.out, HB1.out⟩
    | true =>
      have ht : tkE s = 1 := by
        have := HX.out
        rw [ho] at this
        simp at this
        simp [tkE, this]
      have HT : Hid (tkE s = 1) := ht
      go_wp2_with fail
      refine (fill_own 0 HD.out ho).mono ?_
      rintro e w1 ⟨x0, b1, rfl, hox, hbk, _, hb1⟩
      obtain ⟨xa, xn, xc, rfl⟩ := hox.ints.shape3
      obtain ⟨nn, hnn⟩ : ∃ n, (prd d).toNat = n := ⟨_, rfl⟩
      rw [hnn]
      have hv : Below w1.heap.size w1 (w1.alloc (.cells #[.slice xa xn xc, .slice (some ⟨b1, 0, none⟩) nn nn] 156)) := (Below.refl _ _).alloc (Nat.le_refl _) _
      have HB1 : Hid (Below w.heap.size w (w1.alloc (.cells #[.slice xa xn xc, .slice (some ⟨b1, 0, none⟩) nn nn] 156))) := Below.after (Below.after HB.out hb1) hv
      have HBX1 : Hid (Box (w1.alloc (.cells #[.slice xa xn xc, .slice (some ⟨b1, 0, none⟩) nn nn] 156)) (w.heap.size + 1) (.slice none 0 0) (.slice none 0 0)) := (HBX.out.later hb1).alloc _
      have hba := (HBA.out.later hb1).alloc (.cells #[.slice xa xn xc, .slice (some ⟨b1, 0, none⟩) nn nn] 156)
      have hc0 := hba.c0
      have hc1 := hba.c1
      have HA1 : Hid (Tens (w1.alloc (.cells #[.slice xa xn xc, .slice (some ⟨b1, 0, none⟩) nn nn] 156)) _ _ s) := (HA.out.later hb1).later hv
      clear hb1 ho ht hv hba hbk hox hnn
      go_wp2_with fail
      refine (tensor_to 1 HA1.out HT.out).mono ?_
      rintro e w2 ⟨rfl, hb2⟩
      have HB2 : Hid (Below w.heap.size w w2) := Below.after HB1.out hb2
      have HBX2 : Hid (Box w2 (w.heap.size + 1) (.slice none 0 0) (.slice none 0 0)) := HBX1.out.later hb2
      clear hb2
      go_wp2
      go_step3
      exact ⟨rfl, rfl, rfl, rfl, HBX2.out, HB2.out⟩
  · rintro a w' ⟨hd, hs, h4, hbx, hbe⟩
    obtain ⟨G, hg, e⟩ := act35 a hd hs
    rw [hg] at h4
    subst e
    rw [h4]
    have l0 := hbx.c0
    have l1 := hbx.c1
    have m0 := hbx.f 0
    have m1 := hbx.f 1
    have HBS : Hid (Box _ _ _ _) := hbx.set (.slice none 0 0) (.slice none 0 0)
    have HBE : Hid (Below w.heap.size w w') := hbe
    clear hg hd hs hbx h4 hbe
    go_wp2
    rw [jump_ret]
    have hr0 := HBS.out.c0
    have hr1 := HBS.out.c1
    exact bodyPost_ret (v := .tuple #[.agg #[.slice none 0 0, .slice none 0 0], .int .i64 1]) (by simp [results, Tryz.results136, go_sem, hr0, hr1]) rfl ⟨rfl, (HBE.out.setCell (by simp) _).setCell (by simp) _⟩
set_option maxRecDepth 100000 in
set_option maxHeartbeats 2000000 in
theorem shape_go {a0 a1 v : Value} {s : Ten} {d : List Int} {w : World} (ha : Tens w a0 a1 s) (hd : Ints w v d) (od : okd d = true) (ht : tok s = true) :
    Calls Tryz.prog 136 #[.agg #[a0, a1], v] w fun e w' => ∃ x0 x1, e = .returned (.tuple #[.agg #[x0, x1], .int .i64 (shE s d)]) ∧ OwnT w' w.heap.size x0 x1 (shR s d) ∧ Below w.heap.size w w' := by
  have hb : Below w.heap.size w ((w.alloc (.cells #[a0, a1] 156)).alloc (.cells #[.slice none 0 0, .slice none 0 0] 156)) := ((Below.refl _ _).alloc (Nat.le_refl _) _).alloc (by simp) _
  have HA : Hid (Tens ((w.alloc (.cells #[a0, a1] 156)).alloc (.cells #[.slice none 0 0, .slice none 0 0] 156)) a0 a1 s) := ha.later hb
  have HD : Hid (Ints ((w.alloc (.cells #[a0, a1] 156)).alloc (.cells #[.slice none 0 0, .slice none 0 0] 156)) v d) := hd.later hb
  have HB : Hid (Below w.heap.size w ((w.alloc (.cells #[a0, a1] 156)).alloc (.cells #[.slice none 0 0, .slice none 0 0] 156))) := hb
  have HBA : Hid (Box ((w.alloc (.cells #[a0, a1] 156)).alloc (.cells #[.slice none 0 0, .slice none 0 0] 156)) w.heap.size a0 a1) := (Box.new w a0 a1).alloc _
  have HBX : Hid (Box ((w.alloc (.cells #[a0, a1] 156)).alloc (.cells #[.slice none 0 0, .slice none 0 0] 156)) (w.heap.size + 1) (.slice none 0 0) (.slice none 0 0)) := by
    have := Box.new (w.alloc (.cells #[a0, a1] 156)) (.slice none 0 0) (.slice none 0 0)
    simp only [World.size_alloc] at this
    exact this
  obtain ⟨_, _, hin, hp⟩ := okd_parts od
  have hp1 := prd_lo hin
  obtain ⟨n, hn⟩ : ∃ n : Nat, prd d = n := ⟨(prd d).toNat, by omega⟩
  have hn1 : 1 ≤ n := by omega
  have hn64 : n ≤ 64 := by omega
  have HNT : Hid ((prd d).toNat = n) := by show _ = _; omega
  obtain ⟨hp2, hp3⟩ := tok_pos ht
  obtain ⟨m, hm⟩ : ∃ m : Nat, s.2.length = m := ⟨_, rfl⟩
  have hm1 : 1 ≤ m := by omega
  have hm64 : m ≤ 64 := by omega
  have HT : Hid (tkE s = 0) := by show _ = _; simp [tkE, ht]
  have OD : Hid (okd d = true) := od
  have HSE : Hid (shE s d = if (m : Int) = n then 0 else 4) := by show _ = _; rw [shE, od, ht, hm, hn]; rfl
  rcases ha.2.cases with ⟨e, _⟩ | ⟨ab, ao, ac, ea, hab0, ha1, _, HCA⟩
  · rw [e] at hm; simp at hm; omega
  have hab : ab < w.heap.size := World.block_lt_of_cell? _ _ (HCA.out 0 hab0)
  have HML : Hid (s.2.length = m) := hm
  rw [hm] at ea ha1
  subst ea
  obtain ⟨aa, an, ac', rfl⟩ := ha.1.shape3
  obtain ⟨da, dn, dc, rfl⟩ := hd.shape3
  clear ha hd hb ht od hin hp hp1 hn hp2 hp3 hm hab0
  go_enter Tryz.func136, Tryz.ntmps136
  go_wp2_with fail
  refine wp_scope_jumps 1 (fun a w' => Jg 35 4 (w.heap.size + 1) w a w' ∧ (m : Int) ≠ n) (fun _ _ => 0) rfl ?_ ?_
  · go_wp2_with fail
    refine (fill_own 0 HD.out OD.out).mono ?_
    rw [HNT.out]
    rintro e w1 ⟨x0, b1, rfl, ho, hbk, ⟨hb1l, hap⟩, hb1⟩
    simp only [World.size_alloc] at hb1l ho
    have hs1 := hb1.size
    simp at hs1
    have hbl := hbk.lt
    obtain ⟨xa, xn, xc, rfl⟩ := ho.ints.shape3
    have hv : Below w1.heap.size w1 (w1.alloc (.cells #[.slice xa xn xc, .slice (some ⟨b1, 0, none⟩) n n] 156)) := (Below.refl _ _).alloc (Nat.le_refl _) _
    have HB1 : Hid (Below w.heap.size w (w1.alloc (.cells #[.slice xa xn xc, .slice (some ⟨b1, 0, none⟩) n n] 156))) := Below.after (Below.after HB.out hb1) hv
    have HBX1 : Hid (Box (w1.alloc (.cells #[.slice xa xn xc, .slice (some ⟨b1, 0, none⟩) n n] 156)) (w.heap.size + 1) (.slice none 0 0) (.slice none 0 0)) := (HBX.out.later hb1).alloc _
    have HBA1 : Hid (Box (w1.alloc (.cells #[.slice xa xn xc, .slice (some ⟨b1, 0, none⟩) n n] 156)) w.heap.size _ _) := (HBA.out.later hb1).alloc _
    have HBT1 : Hid (Box (w1.alloc (.cells #[.slice xa xn xc, .slice (some ⟨b1, 0, none⟩) n n] 156)) w1.heap.size _ _) := Box.new _ _ _
    have hc0 := HBA1.out.c0
    have hc1 := HBA1.out.c1
    have HA1 : Hid (Tens (w1.alloc (.cells #[.slice xa xn xc, .slice (some ⟨b1, 0, none⟩) n n] 156)) _ _ s) := (HA.out.later hb1).later hv
    have HO1 : Hid (Own (w1.alloc (.cells #[.slice xa xn xc, .slice (some ⟨b1, 0, none⟩) n n] 156)) (w.heap.size + 1 + 1) (.slice xa xn xc) d) := ho.later hv
    have HK1 : Hid (Blk (w1.alloc (.cells #[.slice xa xn xc, .slice (some ⟨b1, 0, none⟩) n n] 156)) b1 (List.replicate n 0)) := hbk.alloc _
    have HAP : Hid (∀ k, (Value.slice xa xn xc).ownBlock = some k → k ≠ b1) := hap
    clear ho hbk hap hb1 hv
    go_wp2_with fail
    refine (tensor_to 0 HA1.out HT.out).mono ?_
    rintro e w2 ⟨rfl, hb2⟩
    have hs2 := hb2.size
    simp at hs2
    have HB2 : Hid (Below w.heap.size w w2) := Below.after HB1.out hb2
    have HBX2 : Hid (Box w2 (w.heap.size + 1) (.slice none 0 0) (.slice none 0 0)) := HBX1.out.later hb2
    have HBT2 : Hid (Box w2 w1.heap.size _ _) := HBT1.out.later hb2
    have e1 := (HBA1.out.later hb2).c1
    have t1 := HBT2.out.c1
    have HO2 : Hid (Own w2 (w.heap.size + 1 + 1) (.slice xa xn xc) d) := HO1.out.later hb2
    have HK2 : Hid (Blk w2 b1 (List.replicate n 0)) := HK1.out.later hb2 (by simp; omega)
    have HCC : Hid (∀ i (h : i < s.2.length), w2.cell? ⟨ab, ao + i, none⟩ = some (.int .i64 s.2[i])) := fun i h => cell_later HB2.out (HCA.out i h)
    clear hb2 hc0 hc1 HB1 HBX1 HBA1 HBT1 HO1 HK1
    by_cases hmn : m = n
    · subst hmn
      have HS0 : Hid (shE s d = 0) := by show _ = _; rw [HSE.out, if_pos rfl]
      clear HSE
      have hne : ((m : Int) != (m : Int)) = false := by simp
      have hR : ((ia (List.replicate m 0)).toList.take 0 ++ s.2.map (Value.int .i64) ++ (ia (List.replicate m 0)).toList.drop (0 + (s.2.map (Value.int .i64)).length)).toArray = ia s.2 := by
        have : (ia (List.replicate m 0)).toList.drop (0 + (s.2.map (Value.int .i64)).length) = [] := by
          apply List.drop_eq_nil_of_le
          rw [List.length_map, HML.out, Nat.zero_add, Array.length_toList, ia_size, List.length_replicate]
          exact Nat.le_refl _
        rw [this]
        simp [ia]
      have hrun := run_copy_row (P := Tryz.prog) w2 23 23 3 3 b1 0 m m ⟨ab, ao, none⟩ m ac (ia (List.replicate m 0)) 3 (s.2.map (Value.int .i64)) Tryz.underlying23 size3 HK2.out (by rw [List.length_map, HML.out]; simp) (news_cells HCC) (by rw [List.length_map, HML.out, ia_size, List.length_replicate, Nat.zero_add]; exact Nat.le_refl _) (ints_one s.2)
      rw [hR, List.length_map, HML.out] at hrun
      clear hR
      have HKS : Hid (Blk (w2.setRow b1 (ia s.2)) b1 s.2) := setRow_heap w2 b1 _ _ 3 _ HK2.out
      have HBU : Hid (But b1 w2 (w2.setRow b1 (ia s.2))) := ⟨rfl, rfl, rfl, by simp [World.setRow], fun k hk => setRow_other w2 b1 k _ hk⟩
      generalize w2.setRow b1 (ia s.2) = V at HKS HBU hrun ⊢
      have hbt := HBU.out.box HBT2.out (by omega)
      have u0 := hbt.c0
      have u1 := hbt.c1
      have hbx := HBU.out.box HBX2.out (by omega)
      have l0 := hbx.c0
      have l1 := hbx.c1
      have m0 := hbx.f 0
      have m1 := hbx.f 1
      have HBS : Hid (Box _ _ _ _) := hbx.set (.slice xa xn xc) (.slice (some ⟨b1, 0, none⟩) m m)
      have HO5 : Hid (Own V (w.heap.size + 1 + 1) (.slice xa xn xc) d) := HO2.out.at fun k hk => HBU.out.block k (HAP.out k hk)
      have HK5 : Hid (Own V (w.heap.size + 1 + 1) (.slice (some ⟨b1, 0, none⟩) m m) s.2) := Blk.own HKS.out hb1l HML.out.symm (by rw [HML.out]; unfold big; omega)
      have HBE : Hid (Below w.heap.size w V) := HBU.out.below HB2.out (by omega)
      clear hbx hbt
      go_wp2
      rw [jump_ret]
      have hr0 := HBS.out.c0
      have hr1 := HBS.out.c1
      refine bodyPost_ret (v := .tuple #[.agg #[.slice xa xn xc, .slice (some ⟨b1, 0, none⟩) m m], .int .i64 0]) (by simp [results, Tryz.results136, go_sem, hr0, hr1]) rfl ⟨.slice xa xn xc, .slice (some ⟨b1, 0, none⟩) m m, ?_, ?_, ?_⟩
      · rw [HS0.out]
      · rw [shR, HS0.out, if_pos rfl]
        have h1 : OwnT V (w.heap.size + 1 + 1) (.slice xa xn xc) (.slice (some ⟨b1, 0, none⟩) m m) (d, s.2) := ⟨HO5.out, HK5.out, fun k hk e => HAP.out k hk (by simp [Value.ownBlock] at e; exact e.symm)⟩
        exact ((h1.setCell _ _ (by simp)).setCell _ _ (by simp)).mono (by omega)
      · exact (HBE.out.setCell (by simp) _).setCell (by simp) _
    · have hne : ((n : Int) != (m : Int)) = true := by simp; omega
      go_wp2
      go_step3
      exact ⟨rfl, ⟨rfl, rfl, rfl, HBX2.out, HB2.out⟩, by omega⟩
  · rintro a w' ⟨⟨hd, hs, h4, hbx, hbe⟩, hmn⟩
    have HMN : Hid ((m : Int) ≠ n) := hmn
    obtain ⟨G, hg, e⟩ := act35 a hd hs
    rw [hg] at h4
    subst e
    rw [h4]
    have l0 := hbx.c0
    have l1 := hbx.c1
    have m0 := hbx.f 0
    have m1 := hbx.f 1
    have HBS : Hid (Box _ _ _ _) := hbx.set (.slice none 0 0) (.slice none 0 0)
    have HBE : Hid (Below w.heap.size w w') := hbe
    clear hg hd hs hbx h4 hbe hmn
    go_wp2
    rw [jump_ret]
    have hr0 := HBS.out.c0
    have hr1 := HBS.out.c1
    refine bodyPost_ret (v := .tuple #[.agg #[.slice none 0 0, .slice none 0 0], .int .i64 4]) (by simp [results, Tryz.results136, go_sem, hr0, hr1]) rfl ⟨.slice none 0 0, .slice none 0 0, ?_, ?_, ?_⟩
    · rw [HSE.out, if_neg HMN.out]
    · rw [shR, HSE.out, if_neg HMN.out]
      exact OwnT.nil _ _
    · exact (HBE.out.setCell (by simp) _).setCell (by simp) _
theorem shape_any {a0 a1 v : Value} {s : Ten} {d : List Int} {w : World} (ha : Tens w a0 a1 s) (hd : Ints w v d) :
    Calls Tryz.prog 136 #[.agg #[a0, a1], v] w fun e w' => ∃ x0 x1, e = .returned (.tuple #[.agg #[x0, x1], .int .i64 (shE s d)]) ∧ OwnT w' w.heap.size x0 x1 (shR s d) ∧ Below w.heap.size w w' := by
  cases h : (okd d && tok s) with
  | true =>
    rw [Bool.and_eq_true] at h
    exact shape_go ha hd h.1 h.2
  | false =>
    have he : shE s d = 1 := by rw [shE, h]; rfl
    refine (shape_bad1 ha hd h).mono ?_
    rintro e w' ⟨rfl, hb⟩
    refine ⟨.slice none 0 0, .slice none 0 0, by rw [he], ?_, hb⟩
    rw [shR, he]
    exact OwnT.nil _ _
end Go.Proofs.YtkojdigaoihkpaaGreatDoor

end
section
namespace Go.Proofs.YtkojdigaoihkpaaGreatDoor
set_option linter.unusedVariables false
set_option linter.unusedSimpArgs false
set_option maxRecDepth 100000
open Go.ChangeShapes Go.WideShapes Go.ChangeAt Go.RowKit Go.Joins Go.Deep

/-- A list of lists in a row of its own. -/
structure Row (w : World) (B : Nat) (v : Value) (L : List (List Int)) (xs : List Value) : Prop where
  own : w.ownsRow B 23 1 v L.length xs
  elt : ∀ i (h : i < L.length), ∃ x, xs[i]? = some x ∧ Elt w v.ownBlock x L[i]
theorem Row.later {w w' : World} {B : Nat} {v : Value} {L : List (List Int)} {xs : List Value} (hb : Below w.heap.size w w') (h : Row w B v L xs) : Row w' B v L xs := by
  refine ⟨⟨h.own.1, ?_⟩, fun i hi => ?_⟩
  · rcases h.own.2 with h0 | ⟨g, cap, cur, rfl, h1, hh, h2⟩
    · exact Or.inl h0
    · exact Or.inr ⟨g, cap, cur, rfl, h1, (hb.block g (Array.getElem?_eq_some_iff.1 hh).1).trans hh, h2⟩
  · obtain ⟨x, hx, he⟩ := h.elt i hi
    exact ⟨x, hx, he.later hb⟩
theorem Row.app {w w' : World} {B m : Nat} {v v' : Value} {L E : List (List Int)} {xs news : List Value} (h : Row w B v L xs) (hm : m = E.length) (he : ∀ i (h : i < E.length), ∃ y, news[i]? = some y ∧ Elt w v.ownBlock y E[i])
    (hown : w'.ownsRow B 23 1 v' (L.length + m) (xs ++ news)) (hg : w.grownBy w' v.ownBlock) (hat : v'.ownBlock = v.ownBlock ∨ v'.ownBlock = some w.heap.size) : Row w' B v' (L ++ E) (xs ++ news) := by
  subst hm
  have hl := h.own.1
  rw [Nat.mul_one] at hl
  refine ⟨by rw [List.length_append]; exact hown, fun i hi => ?_⟩
  by_cases hlt : i < L.length
  · obtain ⟨x, hx, hx2⟩ := h.elt i hlt
    refine ⟨x, by rw [List.getElem?_append_left (by omega)]; exact hx, ?_⟩
    rw [List.getElem_append_left hlt]
    exact hx2.grown hg hat
  · rw [List.length_append] at hi
    obtain ⟨x, hx, hx2⟩ := he (i - L.length) (by omega)
    refine ⟨x, by rw [List.getElem?_append_right (by omega), hl]; exact hx, ?_⟩
    rw [List.getElem_append_right (by omega)]
    exact hx2.grown hg hat
theorem Row.intsL {w : World} {B : Nat} {v : Value} {L : List (List Int)} {xs : List Value} (h : Row w B v L xs) (hb : L.length ≤ big) : IntsL w v L := by
  rcases h.own.2 with ⟨rfl, h0⟩ | ⟨g, cap, cur, rfl, h1, hh, h2, h3, h4, h5⟩
  · refine ⟨hb, none, 0, by rw [h0], by omega, fun i hi => by omega⟩
  · refine ⟨hb, some ⟨g, 0, none⟩, cap, rfl, h2, fun i hi => ?_⟩
    obtain ⟨x, hx, he⟩ := h.elt i hi
    refine ⟨g, 0, x, rfl, ?_, he.1⟩
    rw [Nat.zero_add, h.own.cellAt i (by omega)]
    exact hx
theorem Row.lt {w : World} {B : Nat} {v : Value} {L : List (List Int)} {xs : List Value} (h : Row w B v L xs) : ∀ k, v.ownBlock = some k → B ≤ k ∧ k < w.heap.size := h.own.lt
section
variable {H : Type} {enc : TypeId × Value → H} {w : World}
end
end Go.Proofs.YtkojdigaoihkpaaGreatDoor

end
