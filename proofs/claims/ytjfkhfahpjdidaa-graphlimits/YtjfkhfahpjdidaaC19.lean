/- Carried: C21. -/
import Derived.Test.YtjfkhfahpjdidaaC18
namespace Go.Proofs.Ytjfkhfahpjdidaa
set_option linter.unusedVariables false
set_option linter.unusedSimpArgs false
set_option maxRecDepth 100000
open Go.RowKit

set_option maxRecDepth 100000 in
set_option maxHeartbeats 4000000 in
theorem mul_ok {a0 a1 b0 b1 : Value} {p q r : Nat} {l m : List Int} {w : World} (ha : Tens w a0 a1 ([(p : Int), (q : Int)], l)) (ht : Tens w b0 b1 ([(q : Int), (r : Int)], m))
    (hx : tok ([(p : Int), (q : Int)], l) = true) (hy : tok ([(q : Int), (r : Int)], m) = true) :
    Calls Try.prog 57 #[.agg #[a0, a1], .agg #[b0, b1]] w fun e w' => ∃ x0 x1, e = .returned (.tuple #[.agg #[x0, x1], .int .i64 0]) ∧ OwnT w' w.heap.size x0 x1 ([(p : Int), (r : Int)], mxl p q r l m) ∧ Below w.heap.size w w' := by
  obtain ⟨hp1, hp8, hq1, hq8, hl⟩ := tok2 hx
  obtain ⟨_, _, hr1, hr8, hm⟩ := tok2 hy
  obtain ⟨N, hN⟩ : ∃ N, p * r = N := ⟨_, rfl⟩
  have hN64 := mul64 hp8 hr8
  have hN1 := Nat.mul_pos hp1 hr1
  rw [hN] at hN64 hN1
  have HN : Hid (p * r = N) := hN
  have HPQ : Hid ((prd [(p : Int), (r : Int)]).toNat = N) := by show _ = _; rw [prd2, hN]
  have HOK2 : Hid (okd [(p : Int), (r : Int)] = true) := okd2_mk ⟨by omega, by omega, by omega, by omega⟩
  obtain ⟨Nq, hNq⟩ : ∃ N, p * q = N := ⟨_, rfl⟩
  obtain ⟨Mq, hMq⟩ : ∃ N, q * r = N := ⟨_, rfl⟩
  obtain ⟨db, dof, dc, ab, ao, ac, A⟩ := ha.mat (hl.trans hNq) (by rw [← hNq]; exact Nat.mul_pos hp1 hq1)
  obtain ⟨eb, eof, ec, bb, bo, bc, B⟩ := ht.mat (hm.trans hMq) (by rw [← hMq]; exact Nat.mul_pos hq1 hr1)
  have hNq64 := mul64 hp8 hq8
  have hMq64 := mul64 hq8 hr8
  rw [hNq] at hNq64
  rw [hMq] at hMq64
  obtain rfl := A.e0
  obtain rfl := A.e1
  obtain rfl := B.e0
  obtain rfl := B.e1
  have hdc := A.hdc
  have hec := B.hdc
  have hac := A.hac
  have hbc := B.hac
  have hdb := A.hdb
  have heb := B.hdb
  have hab := A.hab
  have hbb := B.hab
  have HP8 : Hid (p ≤ 8 ∧ q ≤ 8 ∧ r ≤ 8 ∧ 1 ≤ r) := ⟨hp8, hq8, hr8, hr1⟩
  have HNM : Hid (p * q = Nq ∧ q * r = Mq ∧ Nq ≤ 64 ∧ Mq ≤ 64) := ⟨hNq, hMq, hNq64, hMq64⟩
  have HMA : Hid (MatC w (.slice (some ⟨db, dof, none⟩) 2 dc) (.slice (some ⟨ab, ao, none⟩) Nq ac) p q Nq l db dof dc ab ao ac) := A
  have HMB : Hid (MatC w (.slice (some ⟨eb, eof, none⟩) 2 ec) (.slice (some ⟨bb, bo, none⟩) Mq bc) q r Mq m eb eof ec bb bo bc) := B
  clear A B
  obtain ⟨U, hU⟩ : ∃ U, U = ((((w.alloc (.cells #[(.slice (some ⟨db, dof, none⟩) 2 dc), (.slice (some ⟨ab, ao, none⟩) Nq ac)] 70)).alloc (.cells #[(.slice (some ⟨eb, eof, none⟩) 2 ec), (.slice (some ⟨bb, bo, none⟩) Mq bc)] 70)).alloc (.cells #[.slice none 0 0, .slice none 0 0] 70)).alloc (.cells #[.slice none 0 0, .slice none 0 0] 70)) := ⟨_, rfl⟩
  have hb : Below w.heap.size w U := by rw [hU]; exact ((((Below.refl _ _).alloc (Nat.le_refl _) _).alloc (by simp) _).alloc (by simp; omega) _).alloc (by simp; omega) _
  have HA : Hid (Tens U (.slice (some ⟨db, dof, none⟩) 2 dc) (.slice (some ⟨ab, ao, none⟩) Nq ac) ([(p : Int), (q : Int)], l)) := ha.later hb
  have HT : Hid (Tens U (.slice (some ⟨eb, eof, none⟩) 2 ec) (.slice (some ⟨bb, bo, none⟩) Mq bc) ([(q : Int), (r : Int)], m)) := ht.later hb
  have HB : Hid (Below w.heap.size w U) := hb
  have HBA : Hid (Box U w.heap.size (.slice (some ⟨db, dof, none⟩) 2 dc) (.slice (some ⟨ab, ao, none⟩) Nq ac)) := by show Box _ _ _ _; rw [hU]; exact (((Box.new w _ _).alloc _).alloc _).alloc _
  have HBB : Hid (Box U (w.heap.size + 1) (.slice (some ⟨eb, eof, none⟩) 2 ec) (.slice (some ⟨bb, bo, none⟩) Mq bc)) := by
    show Box _ _ _ _
    have := ((Box.new (w.alloc (.cells #[(.slice (some ⟨db, dof, none⟩) 2 dc), (.slice (some ⟨ab, ao, none⟩) Nq ac)] 70)) (.slice (some ⟨eb, eof, none⟩) 2 ec) (.slice (some ⟨bb, bo, none⟩) Mq bc)).alloc (.cells #[.slice none 0 0, .slice none 0 0] 70)).alloc (.cells #[.slice none 0 0, .slice none 0 0] 70)
    simp only [World.size_alloc] at this
    rw [hU]
    exact this
  have HBX : Hid (Box U (w.heap.size + 1 + 1) (.slice none 0 0) (.slice none 0 0)) := by
    show Box _ _ _ _
    have := (Box.new ((w.alloc (.cells #[(.slice (some ⟨db, dof, none⟩) 2 dc), (.slice (some ⟨ab, ao, none⟩) Nq ac)] 70)).alloc (.cells #[(.slice (some ⟨eb, eof, none⟩) 2 ec), (.slice (some ⟨bb, bo, none⟩) Mq bc)] 70)) (.slice none 0 0) (.slice none 0 0)).alloc (.cells #[.slice none 0 0, .slice none 0 0] 70)
    simp only [World.size_alloc] at this
    rw [hU]
    exact this
  have HBT : Hid (Box U (w.heap.size + 1 + 1 + 1) (.slice none 0 0) (.slice none 0 0)) := by
    show Box _ _ _ _
    have := Box.new (((w.alloc (.cells #[(.slice (some ⟨db, dof, none⟩) 2 dc), (.slice (some ⟨ab, ao, none⟩) Nq ac)] 70)).alloc (.cells #[(.slice (some ⟨eb, eof, none⟩) 2 ec), (.slice (some ⟨bb, bo, none⟩) Mq bc)] 70)).alloc (.cells #[.slice none 0 0, .slice none 0 0] 70)) (.slice none 0 0) (.slice none 0 0)
    simp only [World.size_alloc] at this
    rw [hU]
    exact this
  have hs0 : U.heap.size = w.heap.size + 1 + 1 + 1 + 1 := by rw [hU]; simp
  have HK : Hid (tkE ([(p : Int), (q : Int)], l) = 0) := by show _ = _; simp [tkE, hx]
  have HK2 : Hid (tkE ([(q : Int), (r : Int)], m) = 0) := by show _ = _; simp [tkE, hy]
  have k0 := HBA.out.c0
  have k1 := HBA.out.c1
  clear ha ht hb hx hy hl hm hN hNq hMq
  go_enter Try.func57, Try.ntmps57
  go_wp2_with fail
  refine wp_scope_jumps 0 (fun _ _ => False) (fun _ _ => 0) rfl ?_ ?_
  · go_wp2_with fail
    rw [← hU]
    clear hU
    refine (tensor_to 0 HA.out HK.out).mono ?_
    rintro e w2 ⟨rfl, hb2⟩
    have HA2 : Hid (Tens w2 _ _ _) := HT.out.later hb2
    have HU2 : Hid (Below U.heap.size U w2) := hb2
    have q0 := (HBB.out.later hb2).c0
    have q1 := (HBB.out.later hb2).c1
    clear hb2 k0 k1
    go_wp2_with fail
    refine (tensor_to 0 HA2.out HK2.out).mono ?_
    rintro e w3 ⟨rfl, hb3⟩
    have HU3 : Hid (Below U.heap.size U w3) := Below.after HU2.out hb3
    have HB3 : Hid (Below w.heap.size w w3) := Below.after HB.out HU3.out
    clear hb3 q0 q1
    have c0 := (HBA.out.later HU3.out).c0
    have c1 := (HBB.out.later HU3.out).c0
    have c2 := cell_later HB3.out HMA.out.c0
    have c3 := cell_later HB3.out HMA.out.c1
    have c4 := cell_later HB3.out HMB.out.c0
    have c5 := cell_later HB3.out HMB.out.c1
    go_wp2_with fail
    go_quiet (fail)
    go_wp2_with fail
    obtain ⟨V, hV⟩ : ∃ V, V = w3.drewN nq := ⟨_, rfl⟩
    have HUV : Hid (Below U.heap.size U V) := by show Below _ _ _; rw [hV]; exact Below.drewN HU3.out _
    have d0 : V.cell? ⟨w.heap.size, 0, none⟩ = _ := (HBA.out.later HUV.out).c0
    have d1 : V.cell? ⟨w.heap.size + 1, 0, none⟩ = _ := (HBB.out.later HUV.out).c0
    have d2 := cell_later (Below.after HB.out HUV.out) HMA.out.c0
    have d5 := cell_later (Below.after HB.out HUV.out) HMB.out.c1
    rw [← hV]
    clear c0 c1 c2 c3 c4 c5 hV HU3 HB3 HU2 HA2
    have hsV := HUV.out.size
    have HTI : Hid (Ints (V.alloc (.cells #[.int .i64 p, .int .i64 r] 3)) (.slice (some ⟨V.heap.size, 0, none⟩) 2 2) [(p : Int), (r : Int)]) := two_ints V p r
    have n0 := World.new_ne V _ d0
    have n1 := World.new_ne V _ d1
    have n2 := World.new_ne V _ d2
    have n3 := World.new_ne V _ d5
    refine wp_cut (fun a' w' => ∃ xa xc b1, FrU w.heap.size a' ∧ Own w' (w.heap.size + 1 + 1 + 1 + 1) (.slice xa 2 xc) [(p : Int), (r : Int)] ∧ Blk w' b1 (List.replicate N 0) ∧ (w.heap.size + 1 + 1 + 1 + 1 ≤ b1 ∧ ∀ k, (Value.slice xa 2 xc).ownBlock = some k → k ≠ b1) ∧ Box w' (w.heap.size + 1 + 1 + 1) (.slice xa 2 xc) (.slice (some ⟨b1, 0, none⟩) N N) ∧ Box w' w.heap.size (.slice (some ⟨db, dof, none⟩) 2 dc) (.slice (some ⟨ab, ao, none⟩) Nq ac) ∧ Box w' (w.heap.size + 1) (.slice (some ⟨eb, eof, none⟩) 2 ec) (.slice (some ⟨bb, bo, none⟩) Mq bc) ∧ Box w' (w.heap.size + 1 + 1) (.slice none 0 0) (.slice none 0 0) ∧ Below w.heap.size w w') ?_ ?_
    · intro a5 W ⟨xa, xc, b1, hf5, ho, hk, ⟨hb1l, hap⟩, hbt, hba, hbb', hbx, hbw⟩
      obtain ⟨G, hg, e⟩ := act83 a5 hf5.d hf5.s
      obtain ⟨hz1, hz2, g1, g2, g3, g4, g5⟩ := hf5
      rw [hg] at g1 g2 g3 g4 g5
      clear hz1 hz2
      subst e
      clear hg
      rw [g1, g2, g3, g4, g5]
      clear g1 g2 g3 g4 g5
      have t1 := hbt.c1
      have hb1w := hk.lt
      have HBA4 : Hid (Box W w.heap.size (.slice (some ⟨db, dof, none⟩) 2 dc) (.slice (some ⟨ab, ao, none⟩) Nq ac)) := hba
      have HBB4 : Hid (Box W (w.heap.size + 1) (.slice (some ⟨eb, eof, none⟩) 2 ec) (.slice (some ⟨bb, bo, none⟩) Mq bc)) := hbb'
      have HBX4 : Hid (Box W (w.heap.size + 1 + 1) (.slice none 0 0) (.slice none 0 0)) := hbx
      have HBT4 : Hid (Box W (w.heap.size + 1 + 1 + 1) (.slice xa 2 xc) (.slice (some ⟨b1, 0, none⟩) N N)) := hbt
      have HO4 : Hid (Own W (w.heap.size + 1 + 1 + 1 + 1) (.slice xa 2 xc) [(p : Int), (r : Int)]) := ho
      have HAP : Hid (∀ k, (Value.slice xa 2 xc).ownBlock = some k → k ≠ b1) := hap
      have HB4 : Hid (Below w.heap.size w W) := hbw
      have HK4 : Hid (Blk W b1 (mix (fun x => mxe l m q r (x / r) (x % r)) (List.replicate N 0) 0)) := by
        show Blk _ _ _
        rw [mix_zero]
        exact hk
      obtain ⟨xg, xcc, exg, hxcc, hxg1, hxg2⟩ := ho.form (by simp)
      have exa : xa = some ⟨xg, 0, none⟩ := by simp at exg; exact exg.1
      subst exa
      have hxc2 : 2 ≤ xc := by simp at exg hxcc; omega
      have hxb : xg ≠ b1 := hap xg rfl
      have hd1 : W.cell? ⟨xg, 1, none⟩ = some (.int .i64 r) := by
        rcases ho.ints.cases with ⟨e, _⟩ | ⟨b, off, c, e, h0, h1, h2, HC⟩
        · cases e
        · have e2 := e
          simp at e2
          obtain ⟨⟨rfl, rfl⟩, _⟩ := e2
          exact HC.out 1 (by simp)
      have HD1 : Hid (W.cell? ⟨xg, 1, none⟩ = some (.int .i64 r)) := hd1
      clear ho hk hap hbt hba hbb' hbx hbw exg hxcc hd1
      go_wp2
      clear t1
      go_loopw [57] (fun i w' => ∃ j : Nat, j ≤ N ∧ i = .int .i64 j ∧ Blk w' b1 (mix (fun x => mxe l m q r (x / r) (x % r)) (List.replicate N 0) j) ∧ Bu b1 W w') (fun i _ => N - (intOf i).toNat)
      case atStart => exact ⟨0, by omega, rfl, HK4.out, Bu.refl _ _⟩
      case round =>
        obtain ⟨j, hj, rfl, hB, hbu⟩ := hrel
        have HKR : Hid (Blk wr b1 (mix (fun x => mxe l m q r (x / r) (x % r)) (List.replicate N 0) j)) := hB
        have HBU : Hid (Bu b1 W wr) := hbu
        have HBW : Hid (Below w.heap.size w wr) := hbu.below HB4.out (by omega) (by have := HB4.out.size; omega)
        have hsr := hbu.size
        have hsW := HB4.out.size
        clear hB hbu
        by_cases hlt : j < N
        · have hjp : j < p * r := by rw [HN.out]; exact hlt
          obtain ⟨hi1, hk1⟩ := row_lt hjp
          have HMA5 : Hid (MatC wr (.slice (some ⟨db, dof, none⟩) 2 dc) (.slice (some ⟨ab, ao, none⟩) Nq ac) p q Nq l db dof dc ab ao ac) := HMA.out.later HBW.out
          have HMB5 : Hid (MatC wr (.slice (some ⟨eb, eof, none⟩) 2 ec) (.slice (some ⟨bb, bo, none⟩) Mq bc) q r Mq m eb eof ec bb bo bc) := HMB.out.later HBW.out
          have HBAr : Hid (Box wr w.heap.size (.slice (some ⟨db, dof, none⟩) 2 dc) (.slice (some ⟨ab, ao, none⟩) Nq ac)) := HBU.out.box HBA4.out (by omega)
          have HBBr : Hid (Box wr (w.heap.size + 1) (.slice (some ⟨eb, eof, none⟩) 2 ec) (.slice (some ⟨bb, bo, none⟩) Mq bc)) := HBU.out.box HBB4.out (by omega)
          have HBTr : Hid (Box wr (w.heap.size + 1 + 1 + 1) (.slice (some ⟨xg, 0, none⟩) 2 xc) (.slice (some ⟨b1, 0, none⟩) N N)) := HBU.out.box HBT4.out (by omega)
          have v0 := HBTr.out.c0
          have v1 := HBTr.out.c1
          have v2 := HBAr.out.c0
          have v3 := HBAr.out.c1
          have v4 := HBBr.out.c0
          have v5 := HBBr.out.c1
          have v6 : wr.cell? ⟨xg, 1, none⟩ = some (.int .i64 r) := (HBU.out.cell hxg2 hxb).trans HD1.out
          have HMS : Hid ((mix (fun x => mxe l m q r (x / r) (x % r)) (List.replicate N 0) j).set j (mxe l m q r (j / r) (j % r)) = mix (fun x => mxe l m q r (x / r) (x % r)) (List.replicate N 0) (j + 1)) := mix_set _ _ _
          obtain ⟨Q, hQ⟩ : ∃ Q, j / r = Q := ⟨_, rfl⟩
          obtain ⟨S, hS⟩ : ∃ S, j % r = S := ⟨_, rfl⟩
          have f0 : (j : Int).tdiv (r : Int) = (Q : Int) := by rw [Int.tdiv_eq_ediv_of_nonneg (by omega), ← hQ]; simp
          have f1 : (j : Int).tmod (r : Int) = (S : Int) := by rw [Int.tmod_eq_emod_of_nonneg (by omega), ← hS]; simp
          rw [hQ] at hi1 HMS
          rw [hS] at hk1 HMS
          have f2 : IntKind.i64.wrap (Q : Int) = (Q : Int) := wrap_small _ (by omega) (by omega)
          have f3 : IntKind.i64.wrap (S : Int) = (S : Int) := wrap_small _ (by omega) (by omega)
          have f4 : IntKind.i64.wrap ((j : Int).tdiv (r : Int)) = (Q : Int) := by rw [f0, f2]
          have f5 : IntKind.i64.wrap ((j : Int).tmod (r : Int)) = (S : Int) := by rw [f1, f3]
          have f6 : ¬ r = 0 := by have := HP8.out; omega
          have f7 : ¬ (r : Int) = 0 := by omega
          have f8 : ((r : Int) == 0) = false := by simp; omega
          obtain ⟨F, hF⟩ : ∃ F, mxe l m q r Q S = F := ⟨_, rfl⟩
          rw [hF] at HMS
          have HF : Hid (mxe l m q r Q S = F) := hF
          have z4 : (0 : Int) ≤ (j : Int) := by omega
          have z5 : (j : Int) < N := by omega
          clear hjp hQ hS hF
          have HQS : Hid (Q < p ∧ S < r) := ⟨hi1, hk1⟩
          clear hi1 hk1
          have y0 : b1 ≠ w.heap.size + 1 + 1 + 1 := by omega
          have y1 : w.heap.size + 1 + 1 + 1 ≠ b1 := by omega
          have y2 : b1 ≠ xg := by omega
          have y3 : xg ≠ b1 := by omega
          have y4 : b1 ≠ w.heap.size := by omega
          have y5 : w.heap.size ≠ b1 := by omega
          have y6 : b1 ≠ w.heap.size + 1 := by omega
          have y7 : w.heap.size + 1 ≠ b1 := by omega
          go_wp2_with fail
          go_region_held3 (fun w' => w'.cell? ⟨w.heap.size + 1 + 1 + 1, 0, none⟩ = some (.slice (some ⟨xg, 0, none⟩) 2 xc) ∧ w'.cell? ⟨w.heap.size + 1 + 1 + 1, 1, none⟩ = some (.slice (some ⟨b1, 0, none⟩) N N) ∧ w'.cell? ⟨xg, 1, none⟩ = some (.int .i64 r) ∧ w'.cell? ⟨w.heap.size, 0, none⟩ = some (.slice (some ⟨db, dof, none⟩) 2 dc) ∧ w'.cell? ⟨w.heap.size, 1, none⟩ = some (.slice (some ⟨ab, ao, none⟩) Nq ac) ∧ w'.cell? ⟨w.heap.size + 1, 0, none⟩ = some (.slice (some ⟨eb, eof, none⟩) 2 ec) ∧ w'.cell? ⟨w.heap.size + 1, 1, none⟩ = some (.slice (some ⟨bb, bo, none⟩) Mq bc)) (go_keep)
            (first | (go_at_call 70; refine (crossed_ok (p := p) (q := q) (r := r) (i := Q) (k := S) (HMA5.out.later (Below.refl _ _).drew) (HMB5.out.later (Below.refl _ _).drew) HNM.out.1 HNM.out.2.1 HNM.out.2.2.1 HNM.out.2.2.2 HP8.out.1 HP8.out.2.1 HP8.out.2.2.1 HQS.out.1 HQS.out.2).mono ?_; rw [HF.out]; rintro e w6 ⟨rfl, hb6⟩; have HQ6 : Hid (Below wr.heap.size wr w6) := Below.after (Below.refl _ _).drew hb6; have a_0 := cell_later HQ6.out v0; have a_1 := cell_later HQ6.out v1; have a_2 := cell_later HQ6.out v2; have a_3 := cell_later HQ6.out v3; have a_4 := cell_later HQ6.out v4; have a_5 := cell_later HQ6.out v5; have a_6 := cell_later HQ6.out v6; have HK6 : Hid (Blk w6 b1 (mix (fun x => mxe l m q r (x / r) (x % r)) (List.replicate N 0) j)) := HKR.out.later HQ6.out HKR.out.lt; have hf6 := HK6.out.frozen j; obtain ⟨xx, hc6⟩ : ∃ x, w6.cell? ⟨b1, j, none⟩ = some x := ⟨_, HK6.out.cell j (by rw [mix_length, List.length_replicate]; exact hlt)⟩; clear hb6))
          go_wp2
          go_roundw
          case rel =>
            refine ⟨j + 1, by omega, by go_num, ?_, (HBU.out.after HQ6.out).setCell _⟩
            rw [← HMS.out]
            exact HK6.out.set j F
          case measure => simp [intOf]; omega
        · have hj' : j = N := by omega
          subst hj'
          have hbt := HBU.out.box HBT4.out (by omega)
          have t0 := hbt.c0
          have t1 := hbt.c1
          have hbx := HBU.out.box HBX4.out (by omega)
          have l0 := hbx.c0
          have l1 := hbx.c1
          have m0 := hbx.f 0
          have m1 := hbx.f 1
          have HBS : Hid (Box _ _ _ _) := hbx.set (.slice (some ⟨xg, 0, none⟩) 2 xc) (.slice (some ⟨b1, 0, none⟩) j j)
          have HO5 : Hid (Own wr (w.heap.size + 1 + 1 + 1 + 1) (.slice (some ⟨xg, 0, none⟩) 2 xc) [(p : Int), (r : Int)]) := HO4.out.at fun k hk => HBU.out.block k (HO4.out.lt k hk) (HAP.out k hk)
          have HK5 : Hid (Own wr (w.heap.size + 1 + 1 + 1 + 1) (.slice (some ⟨b1, 0, none⟩) j j) (mxl p q r l m)) := by
            have h := HKR.out
            rw [mix_rep] at h
            have e : (List.range j).map (fun x => mxe l m q r (x / r) (x % r)) = mxl p q r l m := by rw [mxl, HN.out]
            rw [e] at h
            exact Blk.own h hb1l (by rw [mxl_length, HN.out]) (by rw [mxl_length, HN.out]; unfold big; omega)
          clear hbx hbt
          go_wp2
          rw [jump_ret]
          have hr0 := HBS.out.c0
          have hr1 := HBS.out.c1
          refine bodyPost_ret (v := .tuple #[.agg #[.slice (some ⟨xg, 0, none⟩) 2 xc, .slice (some ⟨b1, 0, none⟩) j j], .int .i64 0]) (by simp [results, Try.results57, go_sem, hr0, hr1]) rfl ⟨_, _, rfl, ?_, ?_⟩
          · have h1 : OwnT wr (w.heap.size + 1 + 1 + 1 + 1) (.slice (some ⟨xg, 0, none⟩) 2 xc) (.slice (some ⟨b1, 0, none⟩) j j) ([(p : Int), (r : Int)], mxl p q r l m) := ⟨HO5.out, HK5.out, fun k hk e => HAP.out k hk (by simp [Value.ownBlock] at e; exact e.symm)⟩
            exact ((h1.setCell _ _ (by simp <;> omega)).setCell _ _ (by simp <;> omega)).mono (by omega)
          · exact (HBW.out.setCell (by simp <;> omega) _).setCell (by simp <;> omega) _
    · intro J K' hJ hK'
      have HJ : Hid _ := hJ
      have HK' : Hid _ := hK'
      clear hJ hK'
      have y0 : w.heap.size + 1 + 1 + 1 ≠ db := by omega
      have y1 : db ≠ w.heap.size + 1 + 1 + 1 := by omega
      have y2 : w.heap.size + 1 + 1 + 1 ≠ eb := by omega
      have y3 : eb ≠ w.heap.size + 1 + 1 + 1 := by omega
      have y4 : w.heap.size + 1 + 1 + 1 ≠ w.heap.size := by omega
      have y5 : w.heap.size ≠ w.heap.size + 1 + 1 + 1 := by omega
      have y6 : w.heap.size + 1 + 1 + 1 ≠ w.heap.size + 1 := by omega
      have y7 : w.heap.size + 1 ≠ w.heap.size + 1 + 1 + 1 := by omega
      have y20 : w.heap.size ≠ w.heap.size + 1 + 1 := by omega
      have y21 : w.heap.size + 1 + 1 ≠ w.heap.size := by omega
      have q0 : V.heap.size ≠ w.heap.size := by omega
      have q1 : w.heap.size ≠ V.heap.size := by omega
      have q2 : V.heap.size ≠ w.heap.size + 1 := by omega
      have q3 : w.heap.size + 1 ≠ V.heap.size := by omega
      have q4 : V.heap.size ≠ db := by omega
      have q5 : db ≠ V.heap.size := by omega
      have q6 : V.heap.size ≠ eb := by omega
      have q7 : eb ≠ V.heap.size := by omega
      go_region_held3 (fun w' => w'.cell? ⟨w.heap.size, 0, none⟩ = some (.slice (some ⟨db, dof, none⟩) 2 dc) ∧ w'.cell? ⟨w.heap.size + 1, 0, none⟩ = some (.slice (some ⟨eb, eof, none⟩) 2 ec) ∧ w'.cell? ⟨db, dof, none⟩ = some (.int .i64 p) ∧ w'.cell? ⟨eb, eof + 1, none⟩ = some (.int .i64 r)) (go_keep)
        (first | (go_at_call 47; refine (fill_own (d := [(p : Int), (r : Int)]) 0 ?_ HOK2.out).mono ?_; exact Ints.later (Below.refl _ _).drew HTI.out; rw [HPQ.out]; rintro e w6 ⟨x0, b1, rfl, ho, hbk, ⟨hb1l, hap⟩, hb6⟩; obtain ⟨xa, xc, rfl⟩ : ∃ xa xc, x0 = .slice xa 2 xc := ho.ints.shape; have HQ6 : Hid (Below U.heap.size U w6) := Below.after HUV.out (Below.after (Below.push (Below.refl _ _) _).drew hb6); have HO6 : Hid (Own w6 (w.heap.size + 1 + 1 + 1 + 1) (.slice xa 2 xc) [(p : Int), (r : Int)]) := ho.mono (by simp; omega); have HBK6 : Hid (Blk w6 b1 (List.replicate N 0) ∧ w.heap.size + 1 + 1 + 1 + 1 ≤ b1 ∧ ∀ k, (Value.slice xa 2 xc).ownBlock = some k → k ≠ b1) := ⟨hbk, (by simp at hb1l; omega), hap⟩; have HZ : Hid (Box w6 (w.heap.size + 1 + 1 + 1) (.slice none 0 0) (.slice none 0 0)) := HBT.out.later HQ6.out; have z0 := HZ.out.c0; have z1 := HZ.out.c1; have z2 := HZ.out.f 0; have z3 := HZ.out.f 1; have a_0 := (HBA.out.later HQ6.out).c0; have a_1 := (HBB.out.later HQ6.out).c0; have a_2 := cell_later (Below.after HB.out HQ6.out) HMA.out.c0; have a_3 := cell_later (Below.after HB.out HQ6.out) HMB.out.c1; clear ho hbk hap hb6 hb1l))
      exact HK'.out _ _ (Met.intro (HJ.out _ _ ⟨_, _, _, ⟨rfl, rfl, rfl, rfl, rfl, rfl, rfl⟩, (HO6.out.setCell _ _ (fun k hk => by have := HO6.out.frm k hk; simp; omega)).setCell _ _ (fun k hk => by have := HO6.out.frm k hk; simp; omega), (HBK6.out.1.setOther _ _ (by have := HBK6.out.2.1; simp; omega)).setOther _ _ (by have := HBK6.out.2.1; simp; omega), HBK6.out.2, HZ.out.set _ _, (HBA.out.later HQ6.out).other2 _ _ (by omega), (HBB.out.later HQ6.out).other2 _ _ (by omega), (HBX.out.later HQ6.out).other2 _ _ (by omega), ((Below.after HB.out HQ6.out).setCell (by simp; omega) _).setCell (by simp; omega) _⟩))
  · intro a w' h
    exact h.elim
theorem mul_any_1 {a0 a1 b0 b1 : Value} {s t : Ten} {w : World} (ha : Tens w a0 a1 s) (hb' : Tens w b0 b1 t) :
    Calls Try.prog 57 #[.agg #[a0, a1], .agg #[b0, b1]] w fun e w' => ∃ x0 x1, e = .returned (.tuple #[.agg #[x0, x1], .int .i64 (muE s t)]) ∧ OwnT w' w.heap.size x0 x1 (muR s t) ∧ Below w.heap.size w w' := by
  have bad : ∀ c : Int, c ≠ 0 → muE s t = c → (Calls Try.prog 57 #[.agg #[a0, a1], .agg #[b0, b1]] w fun e w' => e = .returned (.tuple #[.agg #[.slice none 0 0, .slice none 0 0], .int .i64 c]) ∧ Below w.heap.size w w') →
      Calls Try.prog 57 #[.agg #[a0, a1], .agg #[b0, b1]] w fun e w' => ∃ x0 x1, e = .returned (.tuple #[.agg #[x0, x1], .int .i64 (muE s t)]) ∧ OwnT w' w.heap.size x0 x1 (muR s t) ∧ Below w.heap.size w w' := by
    intro c hc he h
    refine h.mono ?_
    rintro e w' ⟨rfl, hb⟩
    refine ⟨.slice none 0 0, .slice none 0 0, by rw [he], ?_, hb⟩
    rw [muR, he, if_neg hc]
    exact OwnT.nil _ _
  cases hx : tok s with
  | false => exact bad 1 (by decide) (by simp [muE, hx]) (mul_bad1 ha hb' hx)
  | true =>
    cases hy : tok t with
    | false => exact bad 1 (by decide) (by simp [muE, hy]) (mul_bad2 ha hb' hx hy)
    | true =>
      by_cases h2 : s.1.length = 2
      · by_cases h3 : t.1.length = 2
        · obtain ⟨d, l⟩ := s
          obtain ⟨e, m⟩ := t
          obtain ⟨p, q, rfl⟩ := nat2 hx h2
          obtain ⟨q', r, rfl⟩ := nat2 hy h3
          by_cases h4 : q = q'
          · subst h4
            rw [muE_ok hx hy, muR_ok hx hy]
            exact mul_ok ha hb' hx hy
          · refine bad 4 (by decide) ?_ (mul_four3 ha hb' hx hy h4)
            rw [muE, if_pos ⟨hx, hy⟩, if_neg]
            simp
            omega
        · refine bad 4 (by decide) ?_ (mul_four2 ha hb' hx hy h2 h3)
          rw [muE, if_pos ⟨hx, hy⟩, if_neg]
          simp [h3]
      · refine bad 4 (by decide) ?_ (mul_four1 ha hb' hx hy h2)
        rw [muE, if_pos ⟨hx, hy⟩, if_neg]
        simp [h2]
theorem mul_to_1 {a0 a1 b0 b1 : Value} {s t : Ten} {w : World} (x : Int) (u : Ten) (ha : Tens w a0 a1 s) (hb' : Tens w b0 b1 t) (hx : muE s t = x) (hu : muR s t = u) :
    Calls Try.prog 57 #[.agg #[a0, a1], .agg #[b0, b1]] w fun e w' => ∃ x0 x1, e = .returned (.tuple #[.agg #[x0, x1], .int .i64 x]) ∧ OwnT w' w.heap.size x0 x1 u ∧ Below w.heap.size w w' := by
  subst hx hu
  exact mul_any_1 ha hb'
theorem OwnT.at {w w' : World} {B : Nat} {v0 v1 : Value} {t : Ten} (h : OwnT w B v0 v1 t) (h0 : ∀ k, v0.ownBlock = some k → w'.heap[k]? = w.heap[k]?) (h1 : ∀ k, v1.ownBlock = some k → w'.heap[k]? = w.heap[k]?) : OwnT w' B v0 v1 t :=
  ⟨h.dims.at h0, h.data.at h1, h.apart⟩
theorem heap_iterAt_other (w : World) (I k : Nat) (s : ByteArray) (q : Nat) (h : k ≠ I) : (w.iterAt I s q).heap[k]? = w.heap[k]? := by
  simp only [World.iterAt, Array.getElem?_setIfInBounds]
  rw [if_neg (by omega)]
theorem Box.moved {w : World} {B I : Nat} {x y : Value} (h : Box w B x y) (hi : B ≠ I) (s : ByteArray) (q : Nat) : Box (w.iterAt I s q) B x y := (heap_iterAt_other w I B s q hi).trans h
theorem It.later {w w' : World} {I p : Nat} {s : ByteArray} (hb : Below w.heap.size w w') (h : It w I s p) : It w' I s p := (hb.block I h.lt).trans h
theorem Ints.at {w w' : World} {v : Value} {d : List Int} (h : Ints w v d) (hk : ∀ k, v.ownBlock = some k → w'.heap[k]? = w.heap[k]?) : Ints w' v d := by
  rcases h with ⟨rfl, rfl⟩ | ⟨a, c, rfl, h1, h2, h3⟩
  · exact Ints.nil _
  · refine Or.inr ⟨a, c, rfl, h1, h2, fun i hi => ?_⟩
    obtain ⟨b, off, rfl, hc⟩ := h3 i hi
    refine ⟨b, off, rfl, ?_⟩
    rw [World.cell?_of_block (w := w) (a := ⟨b, off + i, none⟩) (hk b rfl)]
    exact hc
theorem Tens.set2 {w : World} {v0 v1 : Value} {t : Ten} (h : Tens w v0 v1 t) (p : Nat) (u v : Value) (h0 : ∀ k, v0.ownBlock = some k → k ≠ p) (h1 : ∀ k, v1.ownBlock = some k → k ≠ p) : Tens ((w.setCell ⟨p, 0, none⟩ u).setCell ⟨p, 1, none⟩ v) v0 v1 t :=
  ⟨h.1.at fun k hk => (heap_setCell_other _ _ k v (h0 k hk)).trans (heap_setCell_other _ _ k u (h0 k hk)), h.2.at fun k hk => (heap_setCell_other _ _ k v (h1 k hk)).trans (heap_setCell_other _ _ k u (h1 k hk))⟩
/-- What a law holds of its argument. -/
structure EnvM (B : Nat) (f0 f1 : Value) (T : List Ten) (L : List Int) (w : World) : Prop where
  b0 : w.cell? ⟨B, 0, none⟩ = some f0
  b1 : w.cell? ⟨B, 1, none⟩ = some f1
  hT : TensL w f0 T
  hL : Ints w f1 L
  hg : w.cell? ⟨2, 1, none⟩ = some (.int .u8 1)
theorem EnvM.later {B : Nat} {f0 f1 : Value} {T : List Ten} {L : List Int} {w w' : World} (hb : Below w.heap.size w w') (h : EnvM B f0 f1 T L w) : EnvM B f0 f1 T L w' :=
  ⟨cell_later hb h.b0, cell_later hb h.b1, h.hT.later hb, h.hL.later hb, cell_later hb h.hg⟩
/-- What the loops over numbers read. -/
structure EnvN (B g : Nat) (f0 : Value) (T : List Ten) (ns : List Int) (w : World) : Prop where
  b0 : w.cell? ⟨B, 0, none⟩ = some f0
  hT : TensL w f0 T
  ns : ∀ j (h : j < ns.length), w.cell? ⟨g, j, none⟩ = some (.int .i64 ns[j])
  hg : w.cell? ⟨2, 1, none⟩ = some (.int .u8 1)
theorem EnvN.later {B g : Nat} {f0 : Value} {T : List Ten} {ns : List Int} {w w' : World} (hb : Below w.heap.size w w') (h : EnvN B g f0 T ns w) : EnvN B g f0 T ns w' :=
  ⟨cell_later hb h.b0, h.hT.later hb, fun j hj => cell_later hb (h.ns j hj), cell_later hb h.hg⟩
theorem EnvN.at {B g k : Nat} {f0 : Value} {T : List Ten} {ns : List Int} {w : World} {x : Int} (h : EnvN B g f0 T ns w) (hk : k < ns.length) (hx : ns.getD k 0 = x) : w.cell? ⟨g, k, none⟩ = some (.int .i64 x) := by
  rw [← hx, show ns.getD k 0 = ns[k] by simp [hk]]
  exact h.ns k hk
/-- A block that a value's two slices lie in. -/
def Ow (v : Value) (k : Nat) : Prop := ∃ x y, v = .agg #[x, y] ∧ (x.ownBlock = some k ∨ y.ownBlock = some k)
/-- What a call has told: a matrix of its own. -/
def Val (w0 w : World) (n : Nat) (v : Value) : Prop := ∃ (xa : Option Addr) (xn xc : Nat) (ya : Option Addr) (yn yc : Nat) (X : List Int), v = .agg #[.slice xa xn xc, .slice ya yn yc] ∧ X.length = n * n ∧ Rg X ∧ Tens w (.slice xa xn xc) (.slice ya yn yc) ([(n : Int), (n : Int)], X) ∧ ∀ k, Ow v k → w0.heap.size ≤ k ∧ k < w.heap.size
def Bx (w : World) (q v : Value) : Prop := ∃ p x y, q = .pointer (some ⟨p, 0, none⟩) ∧ v = .agg #[x, y] ∧ Box w p x y
def Px (w0 w : World) (q : Value) : Prop := ∃ p u u', q = .pointer (some ⟨p, 0, none⟩) ∧ w0.heap.size ≤ p ∧ Box w p u u'
theorem Val.later {w0 w w' : World} {n : Nat} {v : Value} (hb : Below w.heap.size w w') (h : Val w0 w n v) : Val w0 w' n v := by
  obtain ⟨xa, xn, xc, ya, yn, yc, X, e, h1, h2, h3, h4⟩ := h
  exact ⟨xa, xn, xc, ya, yn, yc, X, e, h1, h2, h3.later hb, fun k hk => ⟨(h4 k hk).1, Nat.lt_of_lt_of_le (h4 k hk).2 hb.size⟩⟩
theorem Val.set {w0 w : World} {n : Nat} {v : Value} (h : Val w0 w n v) (p : Nat) (u u' : Value) (ha : ∀ k, Ow v k → k ≠ p) : Val w0 ((w.setCell ⟨p, 0, none⟩ u).setCell ⟨p, 1, none⟩ u') n v := by
  obtain ⟨xa, xn, xc, ya, yn, yc, X, e, h1, h2, h3, h4⟩ := h
  exact ⟨xa, xn, xc, ya, yn, yc, X, e, h1, h2, h3.set2 p u u' (fun k hk => ha k ⟨_, _, e, Or.inl hk⟩) (fun k hk => ha k ⟨_, _, e, Or.inr hk⟩), fun k hk => by simpa using h4 k hk⟩
theorem Px.later {w0 w w' : World} {q : Value} (hb : Below w.heap.size w w') (h : Px w0 w q) : Px w0 w' q := by
  obtain ⟨p, u, u', e, h1, h2⟩ := h
  exact ⟨p, u, u', e, h1, h2.later hb⟩
theorem Bx.later {w w' : World} {q v : Value} (hb : Below w.heap.size w w') (h : Bx w q v) : Bx w' q v := by
  obtain ⟨p, u, u', e, h1, h2⟩ := h
  exact ⟨p, u, u', e, h1, h2.later hb⟩
theorem Px.set {w0 w : World} {q : Value} (h : Px w0 w q) (p : Nat) (u u' : Value) : Px w0 ((w.setCell ⟨p, 0, none⟩ u).setCell ⟨p, 1, none⟩ u') q := by
  obtain ⟨p', x, y, e, h1, h2⟩ := h
  by_cases hp : p' = p
  · subst hp
    exact ⟨p', _, _, e, h1, h2.set u u'⟩
  · exact ⟨p', _, _, e, h1, h2.other2 u u' hp⟩
theorem Bx.set {w : World} {q v : Value} (h : Bx w q v) (p : Nat) (u u' : Value) (hq : q ≠ .pointer (some ⟨p, 0, none⟩)) : Bx ((w.setCell ⟨p, 0, none⟩ u).setCell ⟨p, 1, none⟩ u') q v := by
  obtain ⟨p', x, y, e, h1, h2⟩ := h
  exact ⟨p', x, y, e, h1, h2.other2 u u' (fun hp => hq (by rw [e, hp]))⟩
theorem Px.lt {w0 w : World} {q : Value} (h : Px w0 w q) : ∃ p, q = .pointer (some ⟨p, 0, none⟩) ∧ p < w.heap.size := by
  obtain ⟨p, u, u', e, h1, h2⟩ := h
  exact ⟨p, e, h2.lt⟩
theorem turn_to {a0 a1 : Value} {s : Ten} {w : World} (x : Int) (u : Ten) (ha : Tens w a0 a1 s) (hx : trE s = x) (hu : trR s = u) :
    Calls Try.prog 58 #[.agg #[a0, a1]] w fun e w' => ∃ x0 x1, e = .returned (.tuple #[.agg #[x0, x1], .int .i64 x]) ∧ OwnT w' w.heap.size x0 x1 u ∧ Below w.heap.size w w' := by
  subst hx hu
  exact turn_any ha
set_option maxHeartbeats 400000 in
theorem check_any {v : Value} {d : List Int} {w : World} (h : Ints w v d) :
    Calls Try.prog 50 #[v] w fun e w' => e = .returned (.int .i64 (erf d)) ∧ w = w' := by
  have H : Hid (Ints w v d) := h
  clear h
  go_enter Try.func50, Try.ntmps50
  go_wp2_with (go_at_call 66; refine (spell_any H.out).mono ?_; rintro e w' ⟨rfl, rfl⟩)
  go_ret
  exact ⟨rfl, rfl⟩
set_option maxHeartbeats 400000 in
theorem wider_bad {v v' : Value} {a b : List Int} {w : World} (ha : Ints w v a) (hb : Ints w v' b) (h : (okd a && okd b) = false) :
    Calls Try.prog 74 #[v, v'] w fun e w' => e = .returned (.int .i64 1) ∧ w = w' := by
  have HA : Hid (Ints w v a) := ha
  have HB : Hid (Ints w v' b) := hb
  clear ha hb
  cases ea : okd a with
  | false =>
    have H : Hid (okd a = false) := ea
    clear h ea
    go_enter Try.func74, Try.ntmps74
    go_wp2
    go_step3
    go_wp2_with (go_at_call 50; refine (check_any HA.out).mono ?_; rw [erf_bad H.out]; rintro e w' ⟨rfl, rfl⟩)
    try rw [Exit.noGoto_ret]
    go_ret
    exact ⟨rfl, rfl⟩
  | true =>
    have H : Hid (okd a = true) := ea
    have H2 : Hid (okd b = false) := by rw [ea] at h; show _ = _; simpa using h
    clear h ea
    go_enter Try.func74, Try.ntmps74
    go_wp2
    go_step3
    go_wp2_with fail
    refine (check_any HA.out).mono ?_
    rw [erf_ok H.out]
    rintro e w' ⟨rfl, rfl⟩
    go_wp2_with fail
    refine (check_any HB.out).mono ?_
    rw [erf_bad H2.out]
    rintro e w' ⟨rfl, rfl⟩
    go_wp2
    try rw [Exit.noGoto_ret]
    go_ret
    exact ⟨rfl, rfl⟩
set_option maxHeartbeats 400000 in
theorem wider_ok {v v' : Value} {a b : List Int} {w : World} (ha : Ints w v a) (hb : Ints w v' b) (oa : okd a = true) (ob : okd b = true) :
    Calls Try.prog 74 #[v, v'] w fun e w' => e = .returned (.int .i64 (if wid a b then 0 else 4)) ∧ w = w' := by
  have HA : Hid (Ints w v a) := ha
  have HB : Hid (Ints w v' b) := hb
  obtain ⟨la1, la2, _, _⟩ := okd_parts oa
  obtain ⟨lb1, lb2, _, _⟩ := okd_parts ob
  have OA : Hid (okd a = true) := oa
  have OB : Hid (okd b = true) := ob
  rcases ha.cases with ⟨rfl, a1, c1, rfl⟩ | ⟨b1, o1, c1, rfl, h0, h1, h2, h3⟩
  · simp only [List.length_nil] at la1; omega
  rcases hb.cases with ⟨rfl, a2, c2, rfl⟩ | ⟨b2, o2, c2, rfl, h0', h1', h2', h3'⟩
  · simp only [List.length_nil] at lb1; omega
  clear ha hb oa ob h2 h2' h0 h0'
  go_enter Try.func74, Try.ntmps74
  go_wp2
  refine wp_scope_jumps 0 (fun a' w' => (w' = w ∧ Hid (wid a b = false)) ∧ ∃ (u0 u1 u2 u3 u4 u5 u6 u7 u8 u9 u10 u11 u12 u13 u14 u15 u16 u17 u18 u19 u20 u21 u22 u23 u24 u25 u26 u27 u28 u29 u30 u31 u32 u33 u34 u35 u36 u37 : Value), a' = { tmps := #[u0, u1, u2, u3, u4, u5, u6, u7, u8, u9, u10, u11, u12, u13, u14, u15, u16, u17, u18, u19, u20, u21, u22, u23, u24, u25, u26, u27, u28, u29, u30, u31, u32, u33, u34, u35, u36, u37], defers := [] }) (fun _ _ => 0) rfl ?_ ?_
  · go_wp2_with fail
    refine (check_any HA.out).mono ?_
    rw [erf_ok OA.out]
    rintro e w' ⟨rfl, rfl⟩
    go_wp2_with fail
    refine (check_any HB.out).mono ?_
    rw [erf_ok OB.out]
    rintro e w' ⟨rfl, rfl⟩
    by_cases hl : a.length = b.length
    · have HL : Hid (a.length = b.length) := hl
      have hne : ((a.length : Int) != (b.length : Int)) = false := by simp [hl]
      clear hl
      go_wp2
      go_loop [22] (fun i => ∃ k : Nat, k ≤ a.length ∧ i = .int .i64 k ∧ Hid (∀ j (h1 : j < a.length) (h2 : j < b.length), j < k → widAt a[j] b[j] = true)) (fun i => a.length - (intOf i).toNat)
      case atStart => exact ⟨0, Nat.zero_le _, rfl, fun j h1 h2 h3 => by omega⟩
      case round =>
        obtain ⟨k, hk, rfl, hpre⟩ := hrel
        by_cases hlt : k < a.length
        · have hlt' : k < b.length := by have := HL.out; omega
          have hx := h3.out k hlt
          have hy := h3'.out k hlt'
          by_cases he : a[k] = b[k]
          · have he' : (a[k] != b[k]) = false := by simp [he]
            have HE : Hid (widAt a[k] b[k] = true) := by show _ = _; simp [widAt, he]
            clear he
            go_wp2
            refine ⟨⟨k + 1, by omega, by go_num, fun j h1 h2 h3 => ?_⟩, by simp [intOf]; omega⟩
            by_cases hj : j = k
            · subst hj; exact HE.out
            · exact hpre.out j h1 h2 (by omega)
          · have he' : (a[k] != b[k]) = true := by simp [he]
            by_cases h1 : a[k] = 1
            · have h1' : (a[k] != 1) = false := by simp [h1]
              have HE : Hid (widAt a[k] b[k] = true) := by show _ = _; simp [widAt, h1]
              clear he h1
              go_wp2
              refine ⟨⟨k + 1, by omega, by go_num, fun j h1 h2 h3 => ?_⟩, by simp [intOf]; omega⟩
              by_cases hj : j = k
              · subst hj; exact HE.out
              · exact hpre.out j h1 h2 (by omega)
            · have h1' : (a[k] != 1) = true := by simp [h1]
              have HE : Hid (wid a b = false) := wid_bad k hlt hlt' (by simp [widAt, h1, he])
              clear he h1
              go_wp2
              go_step3
              exact ⟨rfl, ⟨rfl, HE⟩, _, _, _, _, _, _, _, _, _, _, _, _, _, _, _, _, _, _, _, _, _, _, _, _, _, _, _, _, _, _, _, _, _, _, _, _, _, _, rfl⟩
        · have hk' : k = a.length := by omega
          have HE : Hid (wid a b = true) := wid_ok HL.out fun j h1 h2 => hpre.out j h1 h2 (by omega)
          clear hk'
          go_wp2
          rw [jump_ret]
          go_ret
          exact ⟨by rw [HE.out]; rfl, rfl⟩
    · have hne : ((a.length : Int) != (b.length : Int)) = true := by simp; omega
      have HE : Hid (wid a b = false) := wid_len hl
      clear hl
      go_wp2
      go_step3
      exact ⟨rfl, ⟨rfl, HE⟩, _, _, _, _, _, _, _, _, _, _, _, _, _, _, _, _, _, _, _, _, _, _, _, _, _, _, _, _, _, _, _, _, _, _, _, _, _, _, rfl⟩
  · rintro a w' ⟨⟨rfl, hbad⟩, u0, u1, u2, u3, u4, u5, u6, u7, u8, u9, u10, u11, u12, u13, u14, u15, u16, u17, u18, u19, u20, u21, u22, u23, u24, u25, u26, u27, u28, u29, u30, u31, u32, u33, u34, u35, u36, u37, rfl⟩
    go_wp2
    rw [jump_ret]
    go_ret
    exact ⟨by rw [hbad.out]; rfl, rfl⟩
set_option maxHeartbeats 400000 in
theorem lists_any {v : Value} {L : List (List Int)} {w : World} (h : IntsL w v L) :
    Calls Try.prog 20 #[v] w fun e w' => e = .returned (.int .i64 (lsF L.length (L.map List.length))) ∧ w = w' := by
  obtain ⟨h0, a, c, rfl, h1, h2⟩ := h
  have HC : Hid (∀ i (h : i < L.length), ∃ b off x, a = some ⟨b, off, none⟩ ∧ w.cell? ⟨b, off + i, none⟩ = some x ∧ Ints w x L[i]) := h2
  unfold big at h0
  clear h2
  go_enter Try.func20, Try.ntmps20
  go_wp2
  go_loop [3, 4] (fun n i => ∃ (k : Nat) (x : Int), k ≤ L.length ∧ i = .int .i64 k ∧ n = .int .i64 x ∧ 0 ≤ x ∧ x ≤ 20000000000000 ∧ Hid (lsF x ((L.map List.length).drop k) = lsF L.length (L.map List.length))) (fun _ i => L.length - (intOf i).toNat)
  case atStart => exact ⟨0, _, Nat.zero_le _, rfl, rfl, by omega, by omega, rfl⟩
  case round =>
    obtain ⟨k, x, hk, rfl, rfl, hx0, hx1, hl⟩ := hrel
    by_cases hlt : k < L.length
    · by_cases hx : x < 1048576
      · obtain ⟨b, off, y, rfl, hc, hi⟩ := HC.out k hlt
        have hlen := hi.len
        unfold big at hlen
        obtain ⟨ya, yc, rfl⟩ := hi.shape
        have HN : Hid (lsF (x + L[k].length) ((L.map List.length).drop (k + 1)) = lsF L.length (L.map List.length)) := by
          have := lsF_on x (L.map List.length) k (by simpa using hlt) hx
          show _ = _
          rw [← hl.out, this]
          simp
        clear hi
        go_wp2
        exact ⟨⟨k + 1, _, by omega, by go_num, rfl, by omega, by omega, HN.out⟩, by simp [intOf]; omega⟩
      · go_wp2
        go_ret
        exact ⟨by rw [← hl.out, lsF_off x _ (by omega)]; rfl, rfl⟩
    · go_wp2
      go_ret
      exact ⟨by rw [← hl.out, lsF_end x _ k (by simp; omega)]; rfl, rfl⟩
end Go.Proofs.Ytjfkhfahpjdidaa
