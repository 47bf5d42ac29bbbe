/- Carried: C19, C20. -/
import Derived.Test.YtjfkhfahpjdidaaC17
namespace Go.Proofs.Ytjfkhfahpjdidaa
set_option linter.unusedVariables false
set_option linter.unusedSimpArgs false
set_option maxRecDepth 100000
open Go.RowKit

set_option maxRecDepth 100000 in
set_option maxHeartbeats 2000000 in
theorem turn_four {a0 a1 : Value} {s : Ten} {w : World} (ha : Tens w a0 a1 s) (hx : tok s = true) (h2 : s.1.length ≠ 2) :
    Calls Try.prog 58 #[.agg #[a0, a1]] w fun e w' => e = .returned (.tuple #[.agg #[.slice none 0 0, .slice none 0 0], .int .i64 4]) ∧ Below w.heap.size w w' := by
  have hb : Below w.heap.size w (((w.alloc (.cells #[a0, a1] 70)).alloc (.cells #[.slice none 0 0, .slice none 0 0] 70)).alloc (.cells #[.slice none 0 0, .slice none 0 0] 70)) := (((Below.refl _ _).alloc (Nat.le_refl _) _).alloc (by simp) _).alloc (by simp; omega) _
  have HA : Hid (Tens (((w.alloc (.cells #[a0, a1] 70)).alloc (.cells #[.slice none 0 0, .slice none 0 0] 70)).alloc (.cells #[.slice none 0 0, .slice none 0 0] 70)) a0 a1 s) := ha.later hb
  have HB : Hid (Below w.heap.size w (((w.alloc (.cells #[a0, a1] 70)).alloc (.cells #[.slice none 0 0, .slice none 0 0] 70)).alloc (.cells #[.slice none 0 0, .slice none 0 0] 70))) := hb
  have HBA : Hid (Box (((w.alloc (.cells #[a0, a1] 70)).alloc (.cells #[.slice none 0 0, .slice none 0 0] 70)).alloc (.cells #[.slice none 0 0, .slice none 0 0] 70)) w.heap.size a0 a1) := ((Box.new w a0 a1).alloc _).alloc _
  have HBX : Hid (Box (((w.alloc (.cells #[a0, a1] 70)).alloc (.cells #[.slice none 0 0, .slice none 0 0] 70)).alloc (.cells #[.slice none 0 0, .slice none 0 0] 70)) (w.heap.size + 1) (.slice none 0 0) (.slice none 0 0)) := by
    have := (Box.new (w.alloc (.cells #[a0, a1] 70)) (.slice none 0 0) (.slice none 0 0)).alloc (.cells #[.slice none 0 0, .slice none 0 0] 70)
    simp only [World.size_alloc] at this
    exact this
  obtain ⟨n, hn⟩ : ∃ n, s.1.length = n := ⟨_, rfl⟩
  have hne : ((n : Int) != 2) = true := by simp; omega
  obtain ⟨aa, ac, ea⟩ := ha.1.shape
  rw [hn] at ea
  subst ea
  obtain ⟨ba, bn, bc, rfl⟩ := ha.2.shape3
  have HT : Hid (tkE s = 0) := by show _ = _; simp [tkE, hx]
  clear ha hb hx h2 hn
  go_enter Try.func58, Try.ntmps58
  go_wp2_with fail
  refine wp_scope_jumps 1 (Jg 58 2 (w.heap.size + 1) w) (fun _ _ => 0) rfl ?_ ?_
  · go_wp2_with fail
    refine (tensor_to 0 HA.out HT.out).mono ?_
    rintro e w2 ⟨rfl, hb2⟩
    have hc0 := (HBA.out.later hb2).c0
    have HB2 : Hid (Below w.heap.size w w2) := Below.after HB.out hb2
    have HBX2 : Hid (Box w2 (w.heap.size + 1) (.slice none 0 0) (.slice none 0 0)) := HBX.out.later hb2
    clear hb2
    go_wp2
    go_step3
    exact ⟨rfl, rfl, rfl, rfl, HBX2.out, HB2.out⟩
  · rintro a w' ⟨hd, hs, h4, hbx, hbe⟩
    obtain ⟨G, hg, e⟩ := act58 a hd hs
    rw [hg] at h4
    subst e
    rw [h4]
    have l0 := hbx.c0
    have l1 := hbx.c1
    have m0 := hbx.f 0
    have m1 := hbx.f 1
    have HBS : Hid (Box _ _ _ _) := hbx.set (.slice none 0 0) (.slice none 0 0)
    have HBE : Hid (Below w.heap.size w w') := hbe
    clear hg hd hs hbx h4 hbe
    go_wp2
    rw [jump_ret]
    have hr0 := HBS.out.c0
    have hr1 := HBS.out.c1
    exact bodyPost_ret (v := .tuple #[.agg #[.slice none 0 0, .slice none 0 0], .int .i64 4]) (by simp [results, Try.results58, go_sem, hr0, hr1]) rfl ⟨rfl, (HBE.out.setCell (by simp) _).setCell (by simp) _⟩
set_option maxRecDepth 100000 in
set_option maxHeartbeats 4000000 in
theorem turn_ok {a0 a1 : Value} {p q : Nat} {l : List Int} {w : World} (ha : Tens w a0 a1 ([(p : Int), (q : Int)], l)) (hx : tok ([(p : Int), (q : Int)], l) = true) :
    Calls Try.prog 58 #[.agg #[a0, a1]] w fun e w' => ∃ x0 x1, e = .returned (.tuple #[.agg #[x0, x1], .int .i64 0]) ∧ OwnT w' w.heap.size x0 x1 ([(q : Int), (p : Int)], tns p q l) ∧ Below w.heap.size w w' := by
  have hok : okd [(p : Int), (q : Int)] = true := tok_okd hx
  obtain ⟨hp1, hp8, hq1, hq8⟩ := okd2 hok
  have hok2 : okd [(q : Int), (p : Int)] = true := okd2_mk ⟨hq1, hq8, hp1, hp8⟩
  obtain ⟨N, hN⟩ : ∃ N, p * q = N := ⟨_, rfl⟩
  have hl : l.length = N := by
    have h := tok_len hx
    have : prd [(p : Int), (q : Int)] = ((p * q : Nat) : Int) := by simp [prd]
    rw [this, hN] at h
    exact Int.ofNat.inj h
  have hpq : (prd [(q : Int), (p : Int)]).toNat = N := by
    have : prd [(q : Int), (p : Int)] = ((q * p : Nat) : Int) := by simp [prd]
    rw [this, Int.toNat_natCast, Nat.mul_comm, hN]
  have hpN : prd [(p : Int), (q : Int)] = N := by
    have : prd [(p : Int), (q : Int)] = ((p * q : Nat) : Int) := by simp [prd]
    rw [this, hN]
  obtain ⟨hn1, hn64⟩ := tok_pos hx
  simp only at hn1 hn64
  rw [hl] at hn1 hn64
  have HN : Hid (p * q = N) := hN
  have HP8 : Hid (p ≤ 8 ∧ q ≤ 8) := ⟨by omega, by omega⟩
  have HPQ : Hid ((prd [(q : Int), (p : Int)]).toNat = N) := hpq
  have HPN : Hid (prd [(p : Int), (q : Int)] = N) := hpN
  have HOK : Hid (okd [(p : Int), (q : Int)] = true) := hok
  have HOK2 : Hid (okd [(q : Int), (p : Int)] = true) := hok2
  have HT : Hid (tkE ([(p : Int), (q : Int)], l) = 0) := by show _ = _; simp [tkE, hx]
  have hb : Below w.heap.size w (((w.alloc (.cells #[a0, a1] 70)).alloc (.cells #[.slice none 0 0, .slice none 0 0] 70)).alloc (.cells #[.slice none 0 0, .slice none 0 0] 70)) := (((Below.refl _ _).alloc (Nat.le_refl _) _).alloc (by simp) _).alloc (by simp; omega) _
  have HA : Hid (Tens (((w.alloc (.cells #[a0, a1] 70)).alloc (.cells #[.slice none 0 0, .slice none 0 0] 70)).alloc (.cells #[.slice none 0 0, .slice none 0 0] 70)) a0 a1 ([(p : Int), (q : Int)], l)) := ha.later hb
  have HB : Hid (Below w.heap.size w (((w.alloc (.cells #[a0, a1] 70)).alloc (.cells #[.slice none 0 0, .slice none 0 0] 70)).alloc (.cells #[.slice none 0 0, .slice none 0 0] 70))) := hb
  have HBA : Hid (Box (((w.alloc (.cells #[a0, a1] 70)).alloc (.cells #[.slice none 0 0, .slice none 0 0] 70)).alloc (.cells #[.slice none 0 0, .slice none 0 0] 70)) w.heap.size a0 a1) := ((Box.new w a0 a1).alloc _).alloc _
  have HBX : Hid (Box (((w.alloc (.cells #[a0, a1] 70)).alloc (.cells #[.slice none 0 0, .slice none 0 0] 70)).alloc (.cells #[.slice none 0 0, .slice none 0 0] 70)) (w.heap.size + 1) (.slice none 0 0) (.slice none 0 0)) := by
    have := (Box.new (w.alloc (.cells #[a0, a1] 70)) (.slice none 0 0) (.slice none 0 0)).alloc (.cells #[.slice none 0 0, .slice none 0 0] 70)
    simp only [World.size_alloc] at this
    exact this
  have HBT : Hid (Box (((w.alloc (.cells #[a0, a1] 70)).alloc (.cells #[.slice none 0 0, .slice none 0 0] 70)).alloc (.cells #[.slice none 0 0, .slice none 0 0] 70)) (w.heap.size + 1 + 1) (.slice none 0 0) (.slice none 0 0)) := by
    have := Box.new ((w.alloc (.cells #[a0, a1] 70)).alloc (.cells #[.slice none 0 0, .slice none 0 0] 70)) (.slice none 0 0) (.slice none 0 0)
    simp only [World.size_alloc] at this
    exact this
  have HL : Hid (l.length = N) := hl
  rcases ha.2.cases with ⟨e, _⟩ | ⟨ab, ao, ac, ea, hab0, ha1, _, HCA⟩
  · simp only at e; rw [e] at hl; simp at hl; omega
  simp only at HCA hab0 ha1 ea
  have hab : ab < w.heap.size := World.block_lt_of_cell? _ _ (HCA.out 0 hab0)
  have HCD : Hid (∀ i, i < N → w.cell? ⟨ab, ao + i, none⟩ = some (.int .i64 (l.getD i 0))) := fun i hi => Ints.cellD (n := 0) (c := 0) HCA i (by rw [hl]; exact hi)
  rw [hl] at ea ha1
  subst ea
  obtain ⟨aa, ac', ed⟩ := ha.1.shape
  have ed' : a0 = .slice aa 2 ac' := ed
  subst ed'
  have HA0 : Hid (Ints w (.slice aa 2 ac') [(p : Int), (q : Int)]) := ha.1
  clear ed ha hb hx hok hok2 hN hl hpq hpN hab0 HCA
  go_enter Try.func58, Try.ntmps58
  go_wp2_with fail
  refine wp_scope_jumps 0 (fun _ _ => False) (fun _ _ => 0) rfl ?_ ?_
  · go_wp2_with fail
    refine (tensor_to 0 HA.out HT.out).mono ?_
    rintro e w1 ⟨rfl, hb1⟩
    have HB1 : Hid (Below w.heap.size w w1) := Below.after HB.out hb1
    have hs1 := hb1.size
    simp at hs1
    have HBA1 : Hid (Box w1 w.heap.size _ _) := HBA.out.later hb1
    have HBX1 : Hid (Box w1 (w.heap.size + 1) _ _) := HBX.out.later hb1
    have HBT1 : Hid (Box w1 (w.heap.size + 1 + 1) _ _) := HBT.out.later hb1
    have HA1 : Hid (Ints w1 (.slice aa 2 ac') [(p : Int), (q : Int)]) := (HA.out.later hb1).1
    have c0 := HBA1.out.c0
    clear hb1 HA HB HBA HBX HBT
    go_wp2_with fail
    refine (crossed_any HA1.out).mono ?_
    rintro e w2 ⟨rfl, hk2, hb2⟩
    have hs2 := hb2.size
    have hkl2 := hk2.lt
    have HB2 : Hid (Below w.heap.size w w2) := Below.after HB1.out hb2
    have HK2 : Hid (Ints w2 (.slice (some ⟨w1.heap.size, 0, none⟩) 2 2) [(q : Int), (p : Int)]) := hk2.ints 2 2 rfl (Nat.le_refl _) (by decide)
    have HBA2 : Hid (Box w2 w.heap.size _ _) := HBA1.out.later hb2
    have HBX2 : Hid (Box w2 (w.heap.size + 1) _ _) := HBX1.out.later hb2
    have HBT2 : Hid (Box w2 (w.heap.size + 1 + 1) _ _) := HBT1.out.later hb2
    clear hb2 hk2 c0
    go_wp2_with fail
    refine (fill_own 0 HK2.out HOK2.out).mono ?_
    rw [HPQ.out]
    rintro e w3 ⟨x0, b1, rfl, ho, hbk, ⟨hb1l, hap⟩, hb3⟩
    have hs3 := hb3.size
    have hbl := hbk.lt
    obtain ⟨xa, xn, xc, ex⟩ := ho.ints.shape3
    have ho2 := ho.ints.shape
    subst ex
    have hxn : xn = 2 := by obtain ⟨_, _, e⟩ := ho2; simp at e; exact e.2.1
    subst hxn
    have HB3 : Hid (Below w.heap.size w w3) := Below.after HB2.out hb3
    have HBA3 : Hid (Box w3 w.heap.size _ _) := HBA2.out.later hb3
    have HBX3 : Hid (Box w3 (w.heap.size + 1) _ _) := HBX2.out.later hb3
    have hbt3 := HBT2.out.later hb3
    have t0 := hbt3.c0
    have t1 := hbt3.c1
    have g0 := hbt3.f 0
    have g1 := hbt3.f 1
    have hba4 := (HBA3.out.other ⟨w.heap.size + 1 + 1, 0, none⟩ (.slice xa 2 xc) (by simp; omega)).other ⟨w.heap.size + 1 + 1, 1, none⟩ (.slice (some ⟨b1, 0, none⟩) N N) (by simp; omega)
    have d1 := hba4.c1
    have HBA4 : Hid (Box _ w.heap.size _ _) := hba4
    have HBX4 : Hid (Box _ (w.heap.size + 1) _ _) := (HBX3.out.other ⟨w.heap.size + 1 + 1, 0, none⟩ (.slice xa 2 xc) (by simp)).other ⟨w.heap.size + 1 + 1, 1, none⟩ (.slice (some ⟨b1, 0, none⟩) N N) (by simp)
    have HBT4 : Hid (Box _ (w.heap.size + 1 + 1) _ _) := hbt3.set (.slice xa 2 xc) (.slice (some ⟨b1, 0, none⟩) N N)
    have hxb : ∀ k, (Value.slice xa 2 xc).ownBlock = some k → k ≠ w.heap.size + 1 + 1 := fun k hk => by have := ho.frm k hk; omega
    have HO4 : Hid (Own _ w2.heap.size (.slice xa 2 xc) [(q : Int), (p : Int)]) := (ho.setCell ⟨w.heap.size + 1 + 1, 0, none⟩ (.slice xa 2 xc) hxb).setCell ⟨w.heap.size + 1 + 1, 1, none⟩ (.slice (some ⟨b1, 0, none⟩) N N) hxb
    have HK4 : Hid (Blk ((w3.setCell ⟨w.heap.size + 1 + 1, 0, none⟩ (.slice xa 2 xc)).setCell ⟨w.heap.size + 1 + 1, 1, none⟩ (.slice (some ⟨b1, 0, none⟩) N N)) b1 (trn p q l 0)) := by
      show Blk _ _ _
      rw [trn_zero, HN.out]
      exact (hbk.setOther _ _ (by simp; omega)).setOther _ _ (by simp; omega)
    have HB4 : Hid (Below w.heap.size w _) := (HB3.out.setCell (p := ⟨w.heap.size + 1 + 1, 0, none⟩) (by simp; omega) (.slice xa 2 xc)).setCell (p := ⟨w.heap.size + 1 + 1, 1, none⟩) (by simp; omega) (.slice (some ⟨b1, 0, none⟩) N N)
    have HAP : Hid (∀ k, (Value.slice xa 2 xc).ownBlock = some k → k ≠ b1) := hap
    have hsz4 : ((w3.setCell ⟨w.heap.size + 1 + 1, 0, none⟩ (.slice xa 2 xc)).setCell ⟨w.heap.size + 1 + 1, 1, none⟩ (.slice (some ⟨b1, 0, none⟩) N N)).heap.size = w3.heap.size := by simp
    clear hbt3 hba4 ho ho2 hbk hap hb3 hxb
    go_wp2
    generalize ((w3.setCell ⟨w.heap.size + 1 + 1, 0, none⟩ (.slice xa 2 xc)).setCell ⟨w.heap.size + 1 + 1, 1, none⟩ (.slice (some ⟨b1, 0, none⟩) N N)) = V at HBA4 HBX4 HBT4 HO4 HK4 HB4 d1 hsz4 ⊢
    clear t0 t1 g0 g1
    go_loopw [29] (fun i w' => ∃ j : Nat, j ≤ N ∧ i = .int .i64 j ∧ Blk w' b1 (trn p q l j) ∧ Bu b1 V w') (fun i _ => N - (intOf i).toNat)
    case atStart => exact ⟨0, by omega, rfl, HK4.out, Bu.refl _ _⟩
    case round =>
      obtain ⟨j, hj, rfl, hB, hbu⟩ := hrel
      have HKR : Hid (Blk wr b1 (trn p q l j)) := hB
      have HBU : Hid (Bu b1 V wr) := hbu
      have HBW : Hid (Below w.heap.size w wr) := hbu.below HB4.out (by omega) (by omega)
      have hsr := hbu.size
      clear hB hbu
      by_cases hlt : j < N
      · have hcx := cell_later HBW.out (HCD.out j hlt)
        have hba := (HBU.out.box HBA4.out (by omega)).c0
        have hjp : j < p * q := by rw [HN.out]; exact hlt
        obtain ⟨z1, z2⟩ := cross_at p q j HP8.out.1 HP8.out.2 hjp
        have z3 : tinv q p j < N := by
          have := tinv_lt (m := q) (n := p) (q := j) (by rw [Nat.mul_comm]; exact hjp)
          rw [Nat.mul_comm, HN.out] at this
          exact this
        have HAO : Hid (aok [(q : Int), (p : Int)] [((j % q : Nat) : Int), ((j / q : Nat) : Int)] = true) := z1
        have HAV : Hid (atV [(q : Int), (p : Int)] [((j % q : Nat) : Int), ((j / q : Nat) : Int)] = (tinv q p j : Nat)) := z2
        have HTS : Hid ((trn p q l j).set (tinv q p j) (l.getD j 0) = trn p q l (j + 1)) := trn_set p q l j hjp
        clear hjp z1 z2
        obtain ⟨T, hT⟩ : ∃ T, tinv q p j = T := ⟨_, rfl⟩
        rw [hT] at HAV HTS z3
        clear hT
        go_wp2_with fail
        refine (where_ok (j : Int) (HA0.out.later HBW.out) HOK.out (by omega) (by rw [HPN.out]; omega)).mono ?_
        rw [whr2]
        rintro e w5 ⟨P, hP, rfl, hk5, hb5⟩
        have hs5 := hb5.size
        have HB5 : Hid (Below wr.heap.size wr w5) := hb5
        have HP5 : Hid (Ints w5 (.slice (some ⟨P, 0, none⟩) 2 2) [((j / q : Nat) : Int), ((j % q : Nat) : Int)]) := hk5.ints 2 2 rfl (Nat.le_refl _) (by decide)
        have HO5 : Hid (Ints w5 (.slice xa 2 xc) [(q : Int), (p : Int)]) := (HBU.out.ints HO4.out.ints HAP.out).later hb5
        have HT5 : Hid (Box w5 (w.heap.size + 1 + 1) _ _) := (HBU.out.box HBT4.out (by omega)).later hb5
        have hbt := HT5.out.c0
        clear hk5 hb5
        go_wp2_with fail
        go_region_held3 (fun w' => w'.cell? ⟨w.heap.size + 1 + 1, 0, none⟩ = some (.slice xa 2 xc)) (go_keep)
          (first
            | (go_at_call 71; refine (crossed_any (HP5.out.later (Below.refl _ _).drew)).mono ?_; rintro e w6 ⟨rfl, hk6, hb6⟩; have HQ6 : Hid (Below w5.heap.size w5 w6) := Below.after (Below.refl _ _).drew hb6; have HK6 : Hid (Blk w6 w5.heap.size [((j % q : Nat) : Int), ((j / q : Nat) : Int)]) := hk6; have k0 := cell_later HQ6.out hbt; clear hk6 hb6)
            | (go_at_call 73; refine (at_to (T : Nat) (HO5.out.later HQ6.out) (HK6.out.ints 2 2 rfl (Nat.le_refl _) (by decide)) HAO.out HAV.out).mono ?_; rintro e w7 ⟨rfl, hb7⟩; have HQ7 : Hid (Below w5.heap.size w5 w7) := Below.after HQ6.out hb7; have k1 := cell_later HQ7.out hbt; clear hb7))
        have hbr := HKR.out.lt
        have HK7 : Hid (Blk w7 b1 (trn p q l j)) := (HKR.out.later HB5.out hbr).later HQ7.out (by omega)
        have HBU7 : Hid (Bu b1 V w7) := (HBU.out.after HB5.out).after HQ7.out
        have hbt1 := (HT5.out.later HQ7.out).c1
        have hf := HK7.out.frozen T
        obtain ⟨x, hc⟩ : ∃ x, w7.cell? ⟨b1, T, none⟩ = some x := ⟨_, HK7.out.cell T (by rw [trn_length, HN.out]; exact z3)⟩
        clear k0 k1
        go_wp2
        go_roundw
        case rel =>
          refine ⟨j + 1, by omega, by go_num, ?_, HBU7.out.setCell _⟩
          rw [← HTS.out]
          exact HK7.out.set T (l.getD j 0)
        case measure => simp [intOf]; omega
      · have hj' : j = N := by omega
        subst hj'
        have hbt := HBU.out.box HBT4.out (by omega)
        have t0 := hbt.c0
        have t1 := hbt.c1
        have hbx := HBU.out.box HBX4.out (by omega)
        have l0 := hbx.c0
        have l1 := hbx.c1
        have m0 := hbx.f 0
        have m1 := hbx.f 1
        have HBS : Hid (Box _ _ _ _) := hbx.set (.slice xa 2 xc) (.slice (some ⟨b1, 0, none⟩) j j)
        have HO5 : Hid (Own wr w2.heap.size (.slice xa 2 xc) [(q : Int), (p : Int)]) := HO4.out.at fun k hk => HBU.out.block k (HO4.out.lt k hk) (HAP.out k hk)
        have HK5 : Hid (Own wr w2.heap.size (.slice (some ⟨b1, 0, none⟩) j j) (tns p q l)) := by
          have h := HKR.out
          have e : trn p q l j = tns p q l := by rw [← HN.out, trn_all]
          rw [e] at h
          exact Blk.own h hb1l (by rw [tns_length, HN.out]) (by rw [tns_length, HN.out]; unfold big; omega)
        clear hbx hbt
        go_wp2
        rw [jump_ret]
        have hr0 := HBS.out.c0
        have hr1 := HBS.out.c1
        refine bodyPost_ret (v := .tuple #[.agg #[.slice xa 2 xc, .slice (some ⟨b1, 0, none⟩) j j], .int .i64 0]) (by simp [results, Try.results58, go_sem, hr0, hr1]) rfl ⟨_, _, rfl, ?_, ?_⟩
        · have h1 : OwnT wr w2.heap.size (.slice xa 2 xc) (.slice (some ⟨b1, 0, none⟩) j j) ([(q : Int), (p : Int)], tns p q l) := ⟨HO5.out, HK5.out, fun k hk e => HAP.out k hk (by simp [Value.ownBlock] at e; exact e.symm)⟩
          exact ((h1.setCell _ _ (by simp; omega)).setCell _ _ (by simp; omega)).mono (by omega)
        · exact (HBW.out.setCell (by simp) _).setCell (by simp) _
  · intro a w' h
    exact h.elim
theorem turn_any {a0 a1 : Value} {s : Ten} {w : World} (ha : Tens w a0 a1 s) :
    Calls Try.prog 58 #[.agg #[a0, a1]] w fun e w' => ∃ x0 x1, e = .returned (.tuple #[.agg #[x0, x1], .int .i64 (trE s)]) ∧ OwnT w' w.heap.size x0 x1 (trR s) ∧ Below w.heap.size w w' := by
  cases ht : tok s with
  | false =>
    have he : trE s = 1 := by rw [trE, ht]; rfl
    refine (turn_bad ha ht).mono ?_
    rintro e w' ⟨rfl, hb⟩
    refine ⟨.slice none 0 0, .slice none 0 0, by rw [he], ?_, hb⟩
    rw [trR, he]
    exact OwnT.nil _ _
  | true =>
    by_cases h2 : s.1.length = 2
    · have he : trE s = 0 := by rw [trE, ht, if_pos h2]; rfl
      obtain ⟨x, y, hxy⟩ := two_of h2
      obtain ⟨d, l⟩ := s
      simp only at hxy
      subst hxy
      obtain ⟨h3, _, h5, _⟩ := okd2 (tok_okd ht)
      obtain ⟨p, rfl⟩ : ∃ p : Nat, x = p := ⟨x.toNat, by omega⟩
      obtain ⟨q, rfl⟩ : ∃ q : Nat, y = q := ⟨y.toNat, by omega⟩
      rw [trR, he, if_pos rfl]
      have := turn_ok ha ht
      simpa using this
    · have he : trE s = 4 := by rw [trE, ht, if_neg h2]; rfl
      refine (turn_four ha ht h2).mono ?_
      rintro e w' ⟨rfl, hb⟩
      refine ⟨.slice none 0 0, .slice none 0 0, by rw [he], ?_, hb⟩
      rw [trR, he]
      exact OwnT.nil _ _
set_option maxHeartbeats 1000000 in
theorem add_any {a0 a1 b0 b1 : Value} {s t : Ten} {w : World} (ha : Tens w a0 a1 s) (hb' : Tens w b0 b1 t) :
    Calls Try.prog 52 #[.agg #[a0, a1], .agg #[b0, b1]] w fun e w' => ∃ x0 x1, e = .returned (.tuple #[.agg #[x0, x1], .int .i64 (fitE s t)]) ∧ OwnT w' w.heap.size x0 x1 (eachR opA s t) ∧ Below w.heap.size w w' := by
  have hb : Below w.heap.size w (((w.alloc (.cells #[a0, a1] 70)).alloc (.cells #[b0, b1] 70)).alloc (.cells #[.slice none 0 0, .slice none 0 0] 70)) := (((Below.refl _ _).alloc (Nat.le_refl _) _).alloc (by simp) _).alloc (by simp; omega) _
  have HA : Hid (Tens (((w.alloc (.cells #[a0, a1] 70)).alloc (.cells #[b0, b1] 70)).alloc (.cells #[.slice none 0 0, .slice none 0 0] 70)) a0 a1 s) := ha.later hb
  have HT : Hid (Tens (((w.alloc (.cells #[a0, a1] 70)).alloc (.cells #[b0, b1] 70)).alloc (.cells #[.slice none 0 0, .slice none 0 0] 70)) b0 b1 t) := hb'.later hb
  have HB : Hid (Below w.heap.size w (((w.alloc (.cells #[a0, a1] 70)).alloc (.cells #[b0, b1] 70)).alloc (.cells #[.slice none 0 0, .slice none 0 0] 70))) := hb
  have HBX : Hid (Box (((w.alloc (.cells #[a0, a1] 70)).alloc (.cells #[b0, b1] 70)).alloc (.cells #[.slice none 0 0, .slice none 0 0] 70)) (w.heap.size + 1 + 1) (.slice none 0 0) (.slice none 0 0)) := by
    have := Box.new ((w.alloc (.cells #[a0, a1] 70)).alloc (.cells #[b0, b1] 70)) (.slice none 0 0) (.slice none 0 0)
    simp only [World.size_alloc] at this
    exact this
  clear ha hb' hb
  go_enter Try.func52, Try.ntmps52
  go_wp2_with fail
  refine (each_any (op := opA) deed_add HA.out HT.out).mono ?_
  rintro e w1 ⟨x0, x1, rfl, ho, hb1⟩
  simp only [World.size_alloc] at ho
  have HO : Hid (OwnT w1 (w.heap.size + 1 + 1 + 1) x0 x1 (eachR opA s t)) := ho
  have HB1 : Hid (Below w.heap.size w w1) := Below.after HB.out hb1
  have hbx := HBX.out.later hb1
  have hx0' := hbx.c0
  have hx1 := hbx.c1
  have hf0 := hbx.f 0
  have hf1 := hbx.f 1
  obtain ⟨xa, xc, rfl⟩ := ho.dims.ints.shape
  obtain ⟨ya, yc, rfl⟩ := ho.data.ints.shape
  have HBS : Hid (Box _ _ _ _) := hbx.set (.slice xa (eachR opA s t).1.length xc) (.slice ya (eachR opA s t).2.length yc)
  clear hb1 hbx ho
  go_wp2
  have hr0 := HBS.out.c0
  have hr1 := HBS.out.c1
  refine bodyPost_ret (v := .tuple #[.agg #[.slice xa (eachR opA s t).1.length xc, .slice ya (eachR opA s t).2.length yc], .int .i64 (fitE s t)]) (by simp [results, Try.results52, go_sem, hr0, hr1]) rfl ⟨_, _, rfl, ?_, ?_⟩
  · exact ((HO.out.setCell _ _ (by simp)).setCell _ _ (by simp)).mono (by omega)
  · exact (HB1.out.setCell (by simp; omega) _).setCell (by simp; omega) _
theorem add_to {a0 a1 b0 b1 : Value} {s t : Ten} {w : World} (x : Int) (u : Ten) (ha : Tens w a0 a1 s) (hb' : Tens w b0 b1 t) (hx : fitE s t = x) (hu : eachR opA s t = u) :
    Calls Try.prog 52 #[.agg #[a0, a1], .agg #[b0, b1]] w fun e w' => ∃ x0 x1, e = .returned (.tuple #[.agg #[x0, x1], .int .i64 x]) ∧ OwnT w' w.heap.size x0 x1 u ∧ Below w.heap.size w w' := by
  subst hx hu
  exact add_any ha hb'
/-- The first j products of row i and column k, summed up. -/
def mxp (a b : List Int) (n q i k j : Nat) : Int := wrap64 (sg (fun j => a.getD (i * n + j) 0 * b.getD (j * q + k) 0) j)
theorem mxp_zero (a b : List Int) (n q i k : Nat) : mxp a b n q i k 0 = 0 := by rw [mxp, sg]; unfold wrap64; omega
theorem mxp_succ (a b : List Int) (n q i k j : Nat) : wrap64 (mxp a b n q i k j + wrap64 (a.getD (i * n + j) 0 * b.getD (j * q + k) 0)) = mxp a b n q i k (j + 1) := by
  rw [mxp, mxp, sg]
  unfold wrap64
  omega
set_option maxRecDepth 100000 in
set_option maxHeartbeats 2000000 in
theorem crossed_ok {a0 a1 b0 b1 : Value} {p q r i k Nq Mq : Nat} {l m : List Int} {w : World} {db dof dc ab ao ac eb eof ec bb bo bc : Nat}
    (A : MatC w a0 a1 p q Nq l db dof dc ab ao ac) (B : MatC w b0 b1 q r Mq m eb eof ec bb bo bc) (hNq : p * q = Nq) (hMq : q * r = Mq) (hn64 : Nq ≤ 64) (hm64 : Mq ≤ 64) (hp8 : p ≤ 8) (hq8 : q ≤ 8) (hr8 : r ≤ 8) (hi : i < p) (hk : k < r) :
    Calls Try.prog 70 #[.agg #[a0, a1], .agg #[b0, b1], .int .i64 i, .int .i64 k] w fun e w' => e = .returned (.int .i64 (mxe l m q r i k)) ∧ Below w.heap.size w w' := by
  obtain rfl := A.e0
  obtain rfl := A.e1
  obtain rfl := B.e0
  obtain rfl := B.e1
  have hdc := A.hdc
  have hec := B.hdc
  have hac := A.hac
  have hbc := B.hac
  have HNM : Hid (p * q = Nq ∧ q * r = Mq) := ⟨hNq, hMq⟩
  obtain ⟨U, hU⟩ : ∃ U, U = ((w.alloc (.cells #[(.slice (some ⟨db, dof, none⟩) 2 dc), (.slice (some ⟨ab, ao, none⟩) Nq ac)] 70)).alloc (.cells #[(.slice (some ⟨eb, eof, none⟩) 2 ec), (.slice (some ⟨bb, bo, none⟩) Mq bc)] 70)) := ⟨_, rfl⟩
  have hb : Below w.heap.size w U := by rw [hU]; exact ((Below.refl _ _).alloc (Nat.le_refl _) _).alloc (by simp) _
  have HB : Hid (Below w.heap.size w U) := hb
  have HBA : Hid (Box U w.heap.size (.slice (some ⟨db, dof, none⟩) 2 dc) (.slice (some ⟨ab, ao, none⟩) Nq ac)) := by show Box _ _ _ _; rw [hU]; exact (Box.new w _ _).alloc _
  have HBB : Hid (Box U (w.heap.size + 1) (.slice (some ⟨eb, eof, none⟩) 2 ec) (.slice (some ⟨bb, bo, none⟩) Mq bc)) := by
    show Box _ _ _ _
    have := Box.new (w.alloc (.cells #[(.slice (some ⟨db, dof, none⟩) 2 dc), (.slice (some ⟨ab, ao, none⟩) Nq ac)] 70)) (.slice (some ⟨eb, eof, none⟩) 2 ec) (.slice (some ⟨bb, bo, none⟩) Mq bc)
    simp only [World.size_alloc] at this
    rw [hU]
    exact this
  have c0 := HBA.out.c0
  have c1 := HBA.out.c1
  have c2 := HBB.out.c0
  have c3 := HBB.out.c1
  have c4 := cell_later hb A.c1
  have c5 := cell_later hb B.c1
  have HYA : Hid (∀ i, i < Nq → U.cell? ⟨ab, ao + i, none⟩ = some (.int .i64 (l.getD i 0))) := fun i hi => cell_later hb (A.cd i hi)
  have HYB : Hid (∀ i, i < Mq → U.cell? ⟨bb, bo + i, none⟩ = some (.int .i64 (m.getD i 0))) := fun i hi => cell_later hb (B.cd i hi)
  clear A B hb hNq hMq
  go_enter Try.func70, Try.ntmps70
  go_wp2_with fail
  rw [← hU]
  clear hU
  go_quiet (fail)
  go_wp2
  go_loopw [9, 22] (fun y x w' => ∃ j n : Nat, j ≤ q ∧ x = .int .i64 j ∧ y = .int .i64 (mxp l m q r i k j) ∧ w' = U.drewN n) (fun _ x _ => q - (intOf x).toNat)
  case atStart => exact ⟨0, _, by omega, rfl, by rw [mxp_zero], rfl⟩
  case round =>
    obtain ⟨j, n, hj, rfl, rfl, rfl⟩ := hrel
    by_cases hlj : j < q
    · have hiq : i * q + j < p * q := rc_lt hi hlj
      have hjr : j * r + k < q * r := rc_lt hlj hk
      rw [HNM.out.1] at hiq
      rw [HNM.out.2] at hjr
      have HS : Hid (wrap64 (mxp l m q r i k j + wrap64 (l.getD (i * q + j) 0 * m.getD (j * r + k) 0)) = mxp l m q r i k (j + 1)) := mxp_succ l m q r i k j
      have e0 : (i : Int) * q = ((i * q : Nat) : Int) := by simp
      have e1 : (j : Int) * r = ((j * r : Nat) : Int) := by simp
      obtain ⟨iq, hiq'⟩ : ∃ x, i * q = x := ⟨_, rfl⟩
      obtain ⟨jr, hjr'⟩ : ∃ x, j * r = x := ⟨_, rfl⟩
      rw [hiq'] at hiq e0 HS
      rw [hjr'] at hjr e1 HS
      have z0 : IntKind.i64.wrap ((i : Int) * q) = (iq : Int) := by rw [e0]; exact wrap_small _ (by omega) (by omega)
      have z1 : IntKind.i64.wrap ((j : Int) * r) = (jr : Int) := by rw [e1]; exact wrap_small _ (by omega) (by omega)
      have z2 : IntKind.i64.wrap ((iq : Int) + j) = ((iq + j : Nat) : Int) := by rw [wrap_small _ (by omega) (by omega)]; simp
      have z3 : IntKind.i64.wrap ((jr : Int) + k) = ((jr + k : Nat) : Int) := by rw [wrap_small _ (by omega) (by omega)]; simp
      obtain ⟨R, hR⟩ : ∃ x, iq + j = x := ⟨_, rfl⟩
      obtain ⟨T, hT⟩ : ∃ x, jr + k = x := ⟨_, rfl⟩
      rw [hR] at z2 hiq HS
      rw [hT] at z3 hjr HS
      have v0' := HYA.out R hiq
      have v1' := HYB.out T hjr
      have z4 : (0 : Int) ≤ (R : Int) := by omega
      have z5 : (R : Int) < Nq := by omega
      have z6 : (0 : Int) ≤ (T : Int) := by omega
      have z7 : (T : Int) < Mq := by omega
      clear hiq' hjr' hR hT e0 e1
      go_wp2_with fail
      go_quiet (fail)
      go_wp2
      go_roundw
      case rel => exact ⟨j + 1, _, by omega, by go_num, by rw [← HS.out]; rfl, rfl⟩
      case measure => simp [intOf]; omega
    · have hj' : j = q := by omega
      subst hj'
      have HF : Hid (mxp l m j r i k j = mxe l m j r i k) := rfl
      obtain ⟨F, hF⟩ : ∃ F, mxp l m j r i k j = F := ⟨_, rfl⟩
      rw [hF] at HF ⊢
      clear hF
      go_wp2
      go_ret
      exact ⟨by rw [HF.out]; rfl, Below.drewN HB.out _⟩
set_option maxRecDepth 100000 in
theorem lit83 (g : Nat → Value) : (g 0 :: g 1 :: g 2 :: g 3 :: g 4 :: g 5 :: g 6 :: g 7 :: g 8 :: g 9 :: g 10 :: g 11 :: g 12 :: g 13 :: g 14 :: g 15 :: g 16 :: g 17 :: g 18 :: g 19 :: g 20 :: g 21 :: g 22 :: g 23 :: g 24 :: g 25 :: g 26 :: g 27 :: g 28 :: g 29 :: g 30 :: g 31 :: g 32 :: g 33 :: g 34 :: g 35 :: g 36 :: g 37 :: g 38 :: g 39 :: g 40 :: g 41 :: g 42 :: g 43 :: g 44 :: g 45 :: g 46 :: g 47 :: g 48 :: g 49 :: g 50 :: g 51 :: g 52 :: g 53 :: g 54 :: g 55 :: g 56 :: g 57 :: g 58 :: g 59 :: g 60 :: g 61 :: g 62 :: g 63 :: g 64 :: g 65 :: g 66 :: g 67 :: g 68 :: g 69 :: g 70 :: g 71 :: g 72 :: g 73 :: g 74 :: g 75 :: g 76 :: g 77 :: g 78 :: g 79 :: g 80 :: g 81 :: g 82 :: []).toArray = ((List.range 83).map g).toArray := by rfl
set_option maxRecDepth 100000 in
theorem act83 (a : Act) (hd : a.defers = []) (hs : a.tmps.size = 83) : ∃ g : Nat → Value, (∀ i, a.tmps.getD i undef = g i) ∧ a = { tmps := (g 0 :: g 1 :: g 2 :: g 3 :: g 4 :: g 5 :: g 6 :: g 7 :: g 8 :: g 9 :: g 10 :: g 11 :: g 12 :: g 13 :: g 14 :: g 15 :: g 16 :: g 17 :: g 18 :: g 19 :: g 20 :: g 21 :: g 22 :: g 23 :: g 24 :: g 25 :: g 26 :: g 27 :: g 28 :: g 29 :: g 30 :: g 31 :: g 32 :: g 33 :: g 34 :: g 35 :: g 36 :: g 37 :: g 38 :: g 39 :: g 40 :: g 41 :: g 42 :: g 43 :: g 44 :: g 45 :: g 46 :: g 47 :: g 48 :: g 49 :: g 50 :: g 51 :: g 52 :: g 53 :: g 54 :: g 55 :: g 56 :: g 57 :: g 58 :: g 59 :: g 60 :: g 61 :: g 62 :: g 63 :: g 64 :: g 65 :: g 66 :: g 67 :: g 68 :: g 69 :: g 70 :: g 71 :: g 72 :: g 73 :: g 74 :: g 75 :: g 76 :: g 77 :: g 78 :: g 79 :: g 80 :: g 81 :: g 82 :: []).toArray, defers := [] } := by
  refine ⟨fun i => a.tmps.getD i undef, fun _ => rfl, ?_⟩
  have h := lit83 (fun i => a.tmps.getD i undef)
  have e : a.tmps = ((List.range 83).map (fun i => a.tmps.getD i undef)).toArray := by
    apply Array.ext
    · simp [hs]
    · intro i h1 h2
      simp [h1]
  exact (show a = Act.mk a.tmps a.defers from rfl).trans (by rw [hd]; exact congrArg (fun t => Act.mk t []) (e.trans h.symm))
def muE (s t : Ten) : Int := if tok s = true ∧ tok t = true then (if s.1.length = 2 ∧ t.1.length = 2 ∧ s.1.getD 1 0 = t.1.getD 0 0 then 0 else 4) else 1
def muR (s t : Ten) : Ten := if muE s t = 0 then ([s.1.getD 0 0, t.1.getD 1 0], mxl (s.1.getD 0 0).toNat (s.1.getD 1 0).toNat (t.1.getD 1 0).toNat s.2 t.2) else ([], [])
theorem muE_ok {p q r : Nat} {l m : List Int} (hx : tok ([(p : Int), (q : Int)], l) = true) (hy : tok ([(q : Int), (r : Int)], m) = true) : muE ([(p : Int), (q : Int)], l) ([(q : Int), (r : Int)], m) = 0 := by
  rw [muE, if_pos ⟨hx, hy⟩]
  simp
theorem muR_ok {p q r : Nat} {l m : List Int} (hx : tok ([(p : Int), (q : Int)], l) = true) (hy : tok ([(q : Int), (r : Int)], m) = true) : muR ([(p : Int), (q : Int)], l) ([(q : Int), (r : Int)], m) = ([(p : Int), (r : Int)], mxl p q r l m) := by
  rw [muR, muE_ok hx hy]
  simp
set_option maxRecDepth 100000 in
set_option maxHeartbeats 2000000 in
theorem mul_bad1 {a0 a1 b0 b1 : Value} {s t : Ten} {w : World} (ha : Tens w a0 a1 s) (ht : Tens w b0 b1 t) (hx : tok s = false) :
    Calls Try.prog 57 #[.agg #[a0, a1], .agg #[b0, b1]] w fun e w' => e = .returned (.tuple #[.agg #[.slice none 0 0, .slice none 0 0], .int .i64 1]) ∧ Below w.heap.size w w' := by
  obtain ⟨aa, an, ac, rfl⟩ := ha.1.shape3
  obtain ⟨ba, bn, bc, rfl⟩ := ha.2.shape3
  obtain ⟨ea, en, ec, rfl⟩ := ht.1.shape3
  obtain ⟨fa, fn, fc, rfl⟩ := ht.2.shape3
  obtain ⟨U, hU⟩ : ∃ U, U = ((((w.alloc (.cells #[(.slice aa an ac), (.slice ba bn bc)] 70)).alloc (.cells #[(.slice ea en ec), (.slice fa fn fc)] 70)).alloc (.cells #[.slice none 0 0, .slice none 0 0] 70)).alloc (.cells #[.slice none 0 0, .slice none 0 0] 70)) := ⟨_, rfl⟩
  have hb : Below w.heap.size w U := by rw [hU]; exact ((((Below.refl _ _).alloc (Nat.le_refl _) _).alloc (by simp) _).alloc (by simp; omega) _).alloc (by simp; omega) _
  have HA : Hid (Tens U (.slice aa an ac) (.slice ba bn bc) s) := ha.later hb
  have HT : Hid (Tens U (.slice ea en ec) (.slice fa fn fc) t) := ht.later hb
  have HB : Hid (Below w.heap.size w U) := hb
  have HBA : Hid (Box U w.heap.size (.slice aa an ac) (.slice ba bn bc)) := by show Box _ _ _ _; rw [hU]; exact (((Box.new w (.slice aa an ac) (.slice ba bn bc)).alloc _).alloc _).alloc _
  have HBB : Hid (Box U (w.heap.size + 1) (.slice ea en ec) (.slice fa fn fc)) := by
    show Box _ _ _ _
    have := ((Box.new (w.alloc (.cells #[(.slice aa an ac), (.slice ba bn bc)] 70)) (.slice ea en ec) (.slice fa fn fc)).alloc (.cells #[.slice none 0 0, .slice none 0 0] 70)).alloc (.cells #[.slice none 0 0, .slice none 0 0] 70)
    simp only [World.size_alloc] at this
    rw [hU]
    exact this
  have HBX : Hid (Box U (w.heap.size + 1 + 1) (.slice none 0 0) (.slice none 0 0)) := by
    show Box _ _ _ _
    have := (Box.new ((w.alloc (.cells #[(.slice aa an ac), (.slice ba bn bc)] 70)).alloc (.cells #[(.slice ea en ec), (.slice fa fn fc)] 70)) (.slice none 0 0) (.slice none 0 0)).alloc (.cells #[.slice none 0 0, .slice none 0 0] 70)
    simp only [World.size_alloc] at this
    rw [hU]
    exact this
  have HK : Hid (tkE s = 1) := by show _ = _; simp [tkE, hx]
  have k0 := HBA.out.c0
  have k1 := HBA.out.c1
  clear ha ht hb hx
  go_enter Try.func57, Try.ntmps57
  go_wp2_with fail
  refine wp_scope_jumps 0 (Jg 83 4 (w.heap.size + 1 + 1) w) (fun _ _ => 0) rfl ?_ ?_
  · go_wp2_with fail
    rw [← hU]
    clear hU
    refine (tensor_to 1 HA.out HK.out).mono ?_
    rintro e w2 ⟨rfl, hb2⟩
    have HB2 : Hid (Below w.heap.size w w2) := Below.after HB.out hb2
    have HBX2 : Hid (Box w2 (w.heap.size + 1 + 1) (.slice none 0 0) (.slice none 0 0)) := HBX.out.later hb2
    clear hb2
    go_wp2
    go_step3
    exact ⟨rfl, rfl, rfl, rfl, HBX2.out, HB2.out⟩
  · rintro a w' ⟨hd, hs, h4, hbx, hbe⟩
    obtain ⟨G, hg, e⟩ := act83 a hd hs
    rw [hg] at h4
    subst e
    rw [h4]
    have l0 := hbx.c0
    have l1 := hbx.c1
    have m0 := hbx.f 0
    have m1 := hbx.f 1
    have HBS : Hid (Box _ _ _ _) := hbx.set (.slice none 0 0) (.slice none 0 0)
    have HBE : Hid (Below w.heap.size w w') := hbe
    clear hg hd hs hbx h4 hbe
    go_wp2
    rw [jump_ret]
    have hr0 := HBS.out.c0
    have hr1 := HBS.out.c1
    exact bodyPost_ret (v := .tuple #[.agg #[.slice none 0 0, .slice none 0 0], .int .i64 1]) (by simp [results, Try.results57, go_sem, hr0, hr1]) rfl ⟨rfl, (HBE.out.setCell (by simp; omega) _).setCell (by simp; omega) _⟩
set_option maxRecDepth 100000 in
set_option maxHeartbeats 2000000 in
theorem mul_bad2 {a0 a1 b0 b1 : Value} {s t : Ten} {w : World} (ha : Tens w a0 a1 s) (ht : Tens w b0 b1 t) (hx : tok s = true) (hy : tok t = false) :
    Calls Try.prog 57 #[.agg #[a0, a1], .agg #[b0, b1]] w fun e w' => e = .returned (.tuple #[.agg #[.slice none 0 0, .slice none 0 0], .int .i64 1]) ∧ Below w.heap.size w w' := by
  obtain ⟨aa, an, ac, rfl⟩ := ha.1.shape3
  obtain ⟨ba, bn, bc, rfl⟩ := ha.2.shape3
  obtain ⟨ea, en, ec, rfl⟩ := ht.1.shape3
  obtain ⟨fa, fn, fc, rfl⟩ := ht.2.shape3
  obtain ⟨U, hU⟩ : ∃ U, U = ((((w.alloc (.cells #[(.slice aa an ac), (.slice ba bn bc)] 70)).alloc (.cells #[(.slice ea en ec), (.slice fa fn fc)] 70)).alloc (.cells #[.slice none 0 0, .slice none 0 0] 70)).alloc (.cells #[.slice none 0 0, .slice none 0 0] 70)) := ⟨_, rfl⟩
  have hb : Below w.heap.size w U := by rw [hU]; exact ((((Below.refl _ _).alloc (Nat.le_refl _) _).alloc (by simp) _).alloc (by simp; omega) _).alloc (by simp; omega) _
  have HA : Hid (Tens U (.slice aa an ac) (.slice ba bn bc) s) := ha.later hb
  have HT : Hid (Tens U (.slice ea en ec) (.slice fa fn fc) t) := ht.later hb
  have HB : Hid (Below w.heap.size w U) := hb
  have HBA : Hid (Box U w.heap.size (.slice aa an ac) (.slice ba bn bc)) := by show Box _ _ _ _; rw [hU]; exact (((Box.new w (.slice aa an ac) (.slice ba bn bc)).alloc _).alloc _).alloc _
  have HBB : Hid (Box U (w.heap.size + 1) (.slice ea en ec) (.slice fa fn fc)) := by
    show Box _ _ _ _
    have := ((Box.new (w.alloc (.cells #[(.slice aa an ac), (.slice ba bn bc)] 70)) (.slice ea en ec) (.slice fa fn fc)).alloc (.cells #[.slice none 0 0, .slice none 0 0] 70)).alloc (.cells #[.slice none 0 0, .slice none 0 0] 70)
    simp only [World.size_alloc] at this
    rw [hU]
    exact this
  have HBX : Hid (Box U (w.heap.size + 1 + 1) (.slice none 0 0) (.slice none 0 0)) := by
    show Box _ _ _ _
    have := (Box.new ((w.alloc (.cells #[(.slice aa an ac), (.slice ba bn bc)] 70)).alloc (.cells #[(.slice ea en ec), (.slice fa fn fc)] 70)) (.slice none 0 0) (.slice none 0 0)).alloc (.cells #[.slice none 0 0, .slice none 0 0] 70)
    simp only [World.size_alloc] at this
    rw [hU]
    exact this
  have HK : Hid (tkE s = 0) := by show _ = _; simp [tkE, hx]
  have HK2 : Hid (tkE t = 1) := by show _ = _; simp [tkE, hy]
  have k0 := HBA.out.c0
  have k1 := HBA.out.c1
  clear ha ht hb hx hy
  go_enter Try.func57, Try.ntmps57
  go_wp2_with fail
  refine wp_scope_jumps 0 (Jg 83 4 (w.heap.size + 1 + 1) w) (fun _ _ => 0) rfl ?_ ?_
  · go_wp2_with fail
    rw [← hU]
    clear hU
    refine (tensor_to 0 HA.out HK.out).mono ?_
    rintro e w2 ⟨rfl, hb2⟩
    have HA2 : Hid (Tens w2 _ _ t) := HT.out.later hb2
    have HU2 : Hid (Below U.heap.size U w2) := hb2
    have q0 := (HBB.out.later hb2).c0
    have q1 := (HBB.out.later hb2).c1
    clear hb2 k0 k1
    go_wp2_with fail
    refine (tensor_to 1 HA2.out HK2.out).mono ?_
    rintro e w3 ⟨rfl, hb3⟩
    have HU3 : Hid (Below U.heap.size U w3) := Below.after HU2.out hb3
    have HB3 : Hid (Below w.heap.size w w3) := Below.after HB.out HU3.out
    have HBX3 : Hid (Box w3 (w.heap.size + 1 + 1) (.slice none 0 0) (.slice none 0 0)) := HBX.out.later HU3.out
    clear hb3 q0 q1
    go_wp2
    go_step3
    exact ⟨rfl, rfl, rfl, rfl, HBX3.out, HB3.out⟩
  · rintro a w' ⟨hd, hs, h4, hbx, hbe⟩
    obtain ⟨G, hg, e⟩ := act83 a hd hs
    rw [hg] at h4
    subst e
    rw [h4]
    have l0 := hbx.c0
    have l1 := hbx.c1
    have m0 := hbx.f 0
    have m1 := hbx.f 1
    have HBS : Hid (Box _ _ _ _) := hbx.set (.slice none 0 0) (.slice none 0 0)
    have HBE : Hid (Below w.heap.size w w') := hbe
    clear hg hd hs hbx h4 hbe
    go_wp2
    rw [jump_ret]
    have hr0 := HBS.out.c0
    have hr1 := HBS.out.c1
    exact bodyPost_ret (v := .tuple #[.agg #[.slice none 0 0, .slice none 0 0], .int .i64 1]) (by simp [results, Try.results57, go_sem, hr0, hr1]) rfl ⟨rfl, (HBE.out.setCell (by simp; omega) _).setCell (by simp; omega) _⟩
set_option maxRecDepth 100000 in
set_option maxHeartbeats 2000000 in
theorem mul_four1 {a0 a1 b0 b1 : Value} {s t : Ten} {w : World} (ha : Tens w a0 a1 s) (ht : Tens w b0 b1 t) (hx : tok s = true) (hy : tok t = true) (h2 : s.1.length ≠ 2) :
    Calls Try.prog 57 #[.agg #[a0, a1], .agg #[b0, b1]] w fun e w' => e = .returned (.tuple #[.agg #[.slice none 0 0, .slice none 0 0], .int .i64 4]) ∧ Below w.heap.size w w' := by
  obtain ⟨N, hn⟩ : ∃ n, s.1.length = n := ⟨_, rfl⟩
  have hne : ((N : Int) != 2) = true := by simp; omega
  obtain ⟨aa, ac, ea⟩ := ha.1.shape
  rw [hn] at ea
  subst ea
  obtain ⟨ba, bn, bc, rfl⟩ := ha.2.shape3
  obtain ⟨ea, en, ec, rfl⟩ := ht.1.shape3
  obtain ⟨fa, fn, fc, rfl⟩ := ht.2.shape3
  clear hn h2
  obtain ⟨U, hU⟩ : ∃ U, U = ((((w.alloc (.cells #[(.slice aa N ac), (.slice ba bn bc)] 70)).alloc (.cells #[(.slice ea en ec), (.slice fa fn fc)] 70)).alloc (.cells #[.slice none 0 0, .slice none 0 0] 70)).alloc (.cells #[.slice none 0 0, .slice none 0 0] 70)) := ⟨_, rfl⟩
  have hb : Below w.heap.size w U := by rw [hU]; exact ((((Below.refl _ _).alloc (Nat.le_refl _) _).alloc (by simp) _).alloc (by simp; omega) _).alloc (by simp; omega) _
  have HA : Hid (Tens U (.slice aa N ac) (.slice ba bn bc) s) := ha.later hb
  have HT : Hid (Tens U (.slice ea en ec) (.slice fa fn fc) t) := ht.later hb
  have HB : Hid (Below w.heap.size w U) := hb
  have HBA : Hid (Box U w.heap.size (.slice aa N ac) (.slice ba bn bc)) := by show Box _ _ _ _; rw [hU]; exact (((Box.new w (.slice aa N ac) (.slice ba bn bc)).alloc _).alloc _).alloc _
  have HBB : Hid (Box U (w.heap.size + 1) (.slice ea en ec) (.slice fa fn fc)) := by
    show Box _ _ _ _
    have := ((Box.new (w.alloc (.cells #[(.slice aa N ac), (.slice ba bn bc)] 70)) (.slice ea en ec) (.slice fa fn fc)).alloc (.cells #[.slice none 0 0, .slice none 0 0] 70)).alloc (.cells #[.slice none 0 0, .slice none 0 0] 70)
    simp only [World.size_alloc] at this
    rw [hU]
    exact this
  have HBX : Hid (Box U (w.heap.size + 1 + 1) (.slice none 0 0) (.slice none 0 0)) := by
    show Box _ _ _ _
    have := (Box.new ((w.alloc (.cells #[(.slice aa N ac), (.slice ba bn bc)] 70)).alloc (.cells #[(.slice ea en ec), (.slice fa fn fc)] 70)) (.slice none 0 0) (.slice none 0 0)).alloc (.cells #[.slice none 0 0, .slice none 0 0] 70)
    simp only [World.size_alloc] at this
    rw [hU]
    exact this
  have HK : Hid (tkE s = 0) := by show _ = _; simp [tkE, hx]
  have HK2 : Hid (tkE t = 0) := by show _ = _; simp [tkE, hy]
  have k0 := HBA.out.c0
  have k1 := HBA.out.c1
  clear ha ht hb hx hy
  go_enter Try.func57, Try.ntmps57
  go_wp2_with fail
  refine wp_scope_jumps 1 (Jg 83 4 (w.heap.size + 1 + 1) w) (fun _ _ => 0) rfl ?_ ?_
  · go_wp2_with fail
    rw [← hU]
    clear hU
    refine (tensor_to 0 HA.out HK.out).mono ?_
    rintro e w2 ⟨rfl, hb2⟩
    have HA2 : Hid (Tens w2 _ _ t) := HT.out.later hb2
    have HU2 : Hid (Below U.heap.size U w2) := hb2
    have q0 := (HBB.out.later hb2).c0
    have q1 := (HBB.out.later hb2).c1
    clear hb2 k0 k1
    go_wp2_with fail
    refine (tensor_to 0 HA2.out HK2.out).mono ?_
    rintro e w3 ⟨rfl, hb3⟩
    have HU3 : Hid (Below U.heap.size U w3) := Below.after HU2.out hb3
    have HB3 : Hid (Below w.heap.size w w3) := Below.after HB.out HU3.out
    have HBX3 : Hid (Box w3 (w.heap.size + 1 + 1) (.slice none 0 0) (.slice none 0 0)) := HBX.out.later HU3.out
    clear hb3 q0 q1
    have a0 := (HBA.out.later HU3.out).c0
    have a1 := (HBB.out.later HU3.out).c0
    go_wp2_with fail
    go_quiet (fail)
    go_wp2
    go_step3
    exact ⟨rfl, rfl, rfl, rfl, HBX3.out, Below.drewN HB3.out _⟩
  · rintro a w' ⟨hd, hs, h4, hbx, hbe⟩
    obtain ⟨G, hg, e⟩ := act83 a hd hs
    rw [hg] at h4
    subst e
    rw [h4]
    have l0 := hbx.c0
    have l1 := hbx.c1
    have m0 := hbx.f 0
    have m1 := hbx.f 1
    have HBS : Hid (Box _ _ _ _) := hbx.set (.slice none 0 0) (.slice none 0 0)
    have HBE : Hid (Below w.heap.size w w') := hbe
    clear hg hd hs hbx h4 hbe
    go_wp2
    rw [jump_ret]
    have hr0 := HBS.out.c0
    have hr1 := HBS.out.c1
    exact bodyPost_ret (v := .tuple #[.agg #[.slice none 0 0, .slice none 0 0], .int .i64 4]) (by simp [results, Try.results57, go_sem, hr0, hr1]) rfl ⟨rfl, (HBE.out.setCell (by simp; omega) _).setCell (by simp; omega) _⟩
set_option maxRecDepth 100000 in
set_option maxHeartbeats 2000000 in
theorem mul_four2 {a0 a1 b0 b1 : Value} {s t : Ten} {w : World} (ha : Tens w a0 a1 s) (ht : Tens w b0 b1 t) (hx : tok s = true) (hy : tok t = true) (h2 : s.1.length = 2) (h3 : t.1.length ≠ 2) :
    Calls Try.prog 57 #[.agg #[a0, a1], .agg #[b0, b1]] w fun e w' => e = .returned (.tuple #[.agg #[.slice none 0 0, .slice none 0 0], .int .i64 4]) ∧ Below w.heap.size w w' := by
  obtain ⟨N, hn⟩ : ∃ n, t.1.length = n := ⟨_, rfl⟩
  have hne : ((N : Int) != 2) = true := by simp; omega
  obtain ⟨aa, ac, ea⟩ := ha.1.shape
  rw [h2] at ea
  subst ea
  obtain ⟨ba, bn, bc, rfl⟩ := ha.2.shape3
  obtain ⟨ca, cc, ed⟩ := ht.1.shape
  rw [hn] at ed
  subst ed
  obtain ⟨fa, fn, fc, rfl⟩ := ht.2.shape3
  clear hn h2 h3
  obtain ⟨U, hU⟩ : ∃ U, U = ((((w.alloc (.cells #[(.slice aa 2 ac), (.slice ba bn bc)] 70)).alloc (.cells #[(.slice ca N cc), (.slice fa fn fc)] 70)).alloc (.cells #[.slice none 0 0, .slice none 0 0] 70)).alloc (.cells #[.slice none 0 0, .slice none 0 0] 70)) := ⟨_, rfl⟩
  have hb : Below w.heap.size w U := by rw [hU]; exact ((((Below.refl _ _).alloc (Nat.le_refl _) _).alloc (by simp) _).alloc (by simp; omega) _).alloc (by simp; omega) _
  have HA : Hid (Tens U (.slice aa 2 ac) (.slice ba bn bc) s) := ha.later hb
  have HT : Hid (Tens U (.slice ca N cc) (.slice fa fn fc) t) := ht.later hb
  have HB : Hid (Below w.heap.size w U) := hb
  have HBA : Hid (Box U w.heap.size (.slice aa 2 ac) (.slice ba bn bc)) := by show Box _ _ _ _; rw [hU]; exact (((Box.new w (.slice aa 2 ac) (.slice ba bn bc)).alloc _).alloc _).alloc _
  have HBB : Hid (Box U (w.heap.size + 1) (.slice ca N cc) (.slice fa fn fc)) := by
    show Box _ _ _ _
    have := ((Box.new (w.alloc (.cells #[(.slice aa 2 ac), (.slice ba bn bc)] 70)) (.slice ca N cc) (.slice fa fn fc)).alloc (.cells #[.slice none 0 0, .slice none 0 0] 70)).alloc (.cells #[.slice none 0 0, .slice none 0 0] 70)
    simp only [World.size_alloc] at this
    rw [hU]
    exact this
  have HBX : Hid (Box U (w.heap.size + 1 + 1) (.slice none 0 0) (.slice none 0 0)) := by
    show Box _ _ _ _
    have := (Box.new ((w.alloc (.cells #[(.slice aa 2 ac), (.slice ba bn bc)] 70)).alloc (.cells #[(.slice ca N cc), (.slice fa fn fc)] 70)) (.slice none 0 0) (.slice none 0 0)).alloc (.cells #[.slice none 0 0, .slice none 0 0] 70)
    simp only [World.size_alloc] at this
    rw [hU]
    exact this
  have HK : Hid (tkE s = 0) := by show _ = _; simp [tkE, hx]
  have HK2 : Hid (tkE t = 0) := by show _ = _; simp [tkE, hy]
  have k0 := HBA.out.c0
  have k1 := HBA.out.c1
  clear ha ht hb hx hy
  go_enter Try.func57, Try.ntmps57
  go_wp2_with fail
  refine wp_scope_jumps 1 (Jg 83 4 (w.heap.size + 1 + 1) w) (fun _ _ => 0) rfl ?_ ?_
  · go_wp2_with fail
    rw [← hU]
    clear hU
    refine (tensor_to 0 HA.out HK.out).mono ?_
    rintro e w2 ⟨rfl, hb2⟩
    have HA2 : Hid (Tens w2 _ _ t) := HT.out.later hb2
    have HU2 : Hid (Below U.heap.size U w2) := hb2
    have q0 := (HBB.out.later hb2).c0
    have q1 := (HBB.out.later hb2).c1
    clear hb2 k0 k1
    go_wp2_with fail
    refine (tensor_to 0 HA2.out HK2.out).mono ?_
    rintro e w3 ⟨rfl, hb3⟩
    have HU3 : Hid (Below U.heap.size U w3) := Below.after HU2.out hb3
    have HB3 : Hid (Below w.heap.size w w3) := Below.after HB.out HU3.out
    have HBX3 : Hid (Box w3 (w.heap.size + 1 + 1) (.slice none 0 0) (.slice none 0 0)) := HBX.out.later HU3.out
    clear hb3 q0 q1
    have a0 := (HBA.out.later HU3.out).c0
    have a1 := (HBB.out.later HU3.out).c0
    go_wp2_with fail
    go_quiet (fail)
    go_wp2
    go_step3
    exact ⟨rfl, rfl, rfl, rfl, HBX3.out, Below.drewN HB3.out _⟩
  · rintro a w' ⟨hd, hs, h4, hbx, hbe⟩
    obtain ⟨G, hg, e⟩ := act83 a hd hs
    rw [hg] at h4
    subst e
    rw [h4]
    have l0 := hbx.c0
    have l1 := hbx.c1
    have m0 := hbx.f 0
    have m1 := hbx.f 1
    have HBS : Hid (Box _ _ _ _) := hbx.set (.slice none 0 0) (.slice none 0 0)
    have HBE : Hid (Below w.heap.size w w') := hbe
    clear hg hd hs hbx h4 hbe
    go_wp2
    rw [jump_ret]
    have hr0 := HBS.out.c0
    have hr1 := HBS.out.c1
    exact bodyPost_ret (v := .tuple #[.agg #[.slice none 0 0, .slice none 0 0], .int .i64 4]) (by simp [results, Try.results57, go_sem, hr0, hr1]) rfl ⟨rfl, (HBE.out.setCell (by simp; omega) _).setCell (by simp; omega) _⟩
set_option maxRecDepth 100000 in
set_option maxHeartbeats 2000000 in
theorem mul_four3 {a0 a1 b0 b1 : Value} {p q q' r : Nat} {l m : List Int} {w : World} (ha : Tens w a0 a1 ([(p : Int), (q : Int)], l)) (ht : Tens w b0 b1 ([(q' : Int), (r : Int)], m)) (hx : tok ([(p : Int), (q : Int)], l) = true) (hy : tok ([(q' : Int), (r : Int)], m) = true) (hne0 : q ≠ q') :
    Calls Try.prog 57 #[.agg #[a0, a1], .agg #[b0, b1]] w fun e w' => e = .returned (.tuple #[.agg #[.slice none 0 0, .slice none 0 0], .int .i64 4]) ∧ Below w.heap.size w w' := by
  have hne : ((q : Int) != (q' : Int)) = true := by simp; omega
  have hl := (tok2 hx).2.2.2.2
  have hm := (tok2 hy).2.2.2.2
  obtain ⟨db, dof, dc, ab, ao, ac, A⟩ := ha.mat hl (Nat.mul_pos (tok2 hx).1 (tok2 hx).2.2.1)
  obtain ⟨eb, eof, ec, bb, bo, bc, B⟩ := ht.mat hm (Nat.mul_pos (tok2 hy).1 (tok2 hy).2.2.1)
  obtain rfl := A.e0
  obtain rfl := A.e1
  obtain rfl := B.e0
  obtain rfl := B.e1
  have hdc := A.hdc
  have hec := B.hdc
  have HC1 : Hid (w.cell? ⟨db, dof + 1, none⟩ = some (.int .i64 q)) := A.c1
  have HC2 : Hid (w.cell? ⟨eb, eof, none⟩ = some (.int .i64 q')) := B.c0
  clear A B hl hm
  obtain ⟨s, hs⟩ : ∃ s : Ten, s = ([(p : Int), (q : Int)], l) := ⟨_, rfl⟩
  obtain ⟨t, ht'⟩ : ∃ t : Ten, t = ([(q' : Int), (r : Int)], m) := ⟨_, rfl⟩
  rw [← hs] at ha hx
  rw [← ht'] at ht hy
  clear hs ht'
  obtain ⟨a0, ha0⟩ : ∃ v, v = Value.slice (some ⟨db, dof, none⟩) 2 dc := ⟨_, rfl⟩
  obtain ⟨Nq, hNq⟩ : ∃ N, p * q = N := ⟨_, rfl⟩
  obtain ⟨Mq, hMq⟩ : ∃ N, q' * r = N := ⟨_, rfl⟩
  rw [hNq] at ha ⊢
  rw [hMq] at ht ⊢
  clear hNq hMq ha0 a0
  obtain ⟨U, hU⟩ : ∃ U, U = ((((w.alloc (.cells #[(.slice (some ⟨db, dof, none⟩) 2 dc), (.slice (some ⟨ab, ao, none⟩) Nq ac)] 70)).alloc (.cells #[(.slice (some ⟨eb, eof, none⟩) 2 ec), (.slice (some ⟨bb, bo, none⟩) Mq bc)] 70)).alloc (.cells #[.slice none 0 0, .slice none 0 0] 70)).alloc (.cells #[.slice none 0 0, .slice none 0 0] 70)) := ⟨_, rfl⟩
  have hb : Below w.heap.size w U := by rw [hU]; exact ((((Below.refl _ _).alloc (Nat.le_refl _) _).alloc (by simp) _).alloc (by simp; omega) _).alloc (by simp; omega) _
  have HA : Hid (Tens U (.slice (some ⟨db, dof, none⟩) 2 dc) (.slice (some ⟨ab, ao, none⟩) Nq ac) s) := ha.later hb
  have HT : Hid (Tens U (.slice (some ⟨eb, eof, none⟩) 2 ec) (.slice (some ⟨bb, bo, none⟩) Mq bc) t) := ht.later hb
  have HB : Hid (Below w.heap.size w U) := hb
  have HBA : Hid (Box U w.heap.size (.slice (some ⟨db, dof, none⟩) 2 dc) (.slice (some ⟨ab, ao, none⟩) Nq ac)) := by show Box _ _ _ _; rw [hU]; exact (((Box.new w (.slice (some ⟨db, dof, none⟩) 2 dc) (.slice (some ⟨ab, ao, none⟩) Nq ac)).alloc _).alloc _).alloc _
  have HBB : Hid (Box U (w.heap.size + 1) (.slice (some ⟨eb, eof, none⟩) 2 ec) (.slice (some ⟨bb, bo, none⟩) Mq bc)) := by
    show Box _ _ _ _
    have := ((Box.new (w.alloc (.cells #[(.slice (some ⟨db, dof, none⟩) 2 dc), (.slice (some ⟨ab, ao, none⟩) Nq ac)] 70)) (.slice (some ⟨eb, eof, none⟩) 2 ec) (.slice (some ⟨bb, bo, none⟩) Mq bc)).alloc (.cells #[.slice none 0 0, .slice none 0 0] 70)).alloc (.cells #[.slice none 0 0, .slice none 0 0] 70)
    simp only [World.size_alloc] at this
    rw [hU]
    exact this
  have HBX : Hid (Box U (w.heap.size + 1 + 1) (.slice none 0 0) (.slice none 0 0)) := by
    show Box _ _ _ _
    have := (Box.new ((w.alloc (.cells #[(.slice (some ⟨db, dof, none⟩) 2 dc), (.slice (some ⟨ab, ao, none⟩) Nq ac)] 70)).alloc (.cells #[(.slice (some ⟨eb, eof, none⟩) 2 ec), (.slice (some ⟨bb, bo, none⟩) Mq bc)] 70)) (.slice none 0 0) (.slice none 0 0)).alloc (.cells #[.slice none 0 0, .slice none 0 0] 70)
    simp only [World.size_alloc] at this
    rw [hU]
    exact this
  have HK : Hid (tkE s = 0) := by show _ = _; simp [tkE, hx]
  have HK2 : Hid (tkE t = 0) := by show _ = _; simp [tkE, hy]
  have k0 := HBA.out.c0
  have k1 := HBA.out.c1
  clear ha ht hb hx hy
  go_enter Try.func57, Try.ntmps57
  go_wp2_with fail
  refine wp_scope_jumps 1 (Jg 83 4 (w.heap.size + 1 + 1) w) (fun _ _ => 0) rfl ?_ ?_
  · go_wp2_with fail
    rw [← hU]
    clear hU
    refine (tensor_to 0 HA.out HK.out).mono ?_
    rintro e w2 ⟨rfl, hb2⟩
    have HA2 : Hid (Tens w2 _ _ t) := HT.out.later hb2
    have HU2 : Hid (Below U.heap.size U w2) := hb2
    have q0 := (HBB.out.later hb2).c0
    have q1 := (HBB.out.later hb2).c1
    clear hb2 k0 k1
    go_wp2_with fail
    refine (tensor_to 0 HA2.out HK2.out).mono ?_
    rintro e w3 ⟨rfl, hb3⟩
    have HU3 : Hid (Below U.heap.size U w3) := Below.after HU2.out hb3
    have HB3 : Hid (Below w.heap.size w w3) := Below.after HB.out HU3.out
    have HBX3 : Hid (Box w3 (w.heap.size + 1 + 1) (.slice none 0 0) (.slice none 0 0)) := HBX.out.later HU3.out
    clear hb3 q0 q1
    have a0 := (HBA.out.later HU3.out).c0
    have a1 := (HBB.out.later HU3.out).c0
    have a2 := cell_later HB3.out HC1.out
    have a3 := cell_later HB3.out HC2.out
    go_wp2_with fail
    go_quiet (fail)
    go_wp2
    go_step3
    exact ⟨rfl, rfl, rfl, rfl, HBX3.out, Below.drewN HB3.out _⟩
  · rintro a w' ⟨hd, hs, h4, hbx, hbe⟩
    obtain ⟨G, hg, e⟩ := act83 a hd hs
    rw [hg] at h4
    subst e
    rw [h4]
    have l0 := hbx.c0
    have l1 := hbx.c1
    have m0 := hbx.f 0
    have m1 := hbx.f 1
    have HBS : Hid (Box _ _ _ _) := hbx.set (.slice none 0 0) (.slice none 0 0)
    have HBE : Hid (Below w.heap.size w w') := hbe
    clear hg hd hs hbx h4 hbe
    go_wp2
    rw [jump_ret]
    have hr0 := HBS.out.c0
    have hr1 := HBS.out.c1
    exact bodyPost_ret (v := .tuple #[.agg #[.slice none 0 0, .slice none 0 0], .int .i64 4]) (by simp [results, Try.results57, go_sem, hr0, hr1]) rfl ⟨rfl, (HBE.out.setCell (by simp; omega) _).setCell (by simp; omega) _⟩
theorem mix_rep (F : Nat → Int) (N : Nat) : mix F (List.replicate N 0) N = (List.range N).map F := by
  apply List.ext_getElem
  · simp [mix]
  · intro i h1 h2
    have h3 : i < N := by simpa [mix] using h1
    simp [mix, h3]
structure FrU (B : Nat) (a : Act) : Prop where
  d : a.defers = []
  s : a.tmps.size = 83
  f2 : a.tmps.getD 2 undef = .pointer (some ⟨B, 0, none⟩)
  f3 : a.tmps.getD 3 undef = .pointer (some ⟨B + 1, 0, none⟩)
  f4 : a.tmps.getD 4 undef = .pointer (some ⟨B + 1 + 1, 0, none⟩)
  f6 : a.tmps.getD 6 undef = .pointer (some ⟨B + 1 + 1 + 1, 0, none⟩)
  f7 : a.tmps.getD 7 undef = .int .i64 0
end Go.Proofs.Ytjfkhfahpjdidaa
