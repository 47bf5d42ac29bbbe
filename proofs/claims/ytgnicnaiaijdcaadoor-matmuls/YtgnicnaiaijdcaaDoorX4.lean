/- Contract: mat's Mul, of what goes together. -/
import Derived.Test.YtgnicnaiaijdcaaDoorX3
namespace Go.Proofs.YtgnicnaiaijdcaaDoor
set_option linter.unusedVariables false
set_option linter.unusedSimpArgs false
open Go.RowKit

theorem Own.form {w : World} {B : Nat} {v : Value} {d : List Int} (h : Own w B v d) (h1 : 1 ≤ d.length) : ∃ g cap, v = .slice (some ⟨g, 0, none⟩) d.length cap ∧ d.length ≤ cap ∧ B ≤ g ∧ g < w.heap.size := by
  rcases h.row.2 with ⟨_, e⟩ | ⟨g, cap, cur, hv, hB, hg, hc, _⟩
  · omega
  · exact ⟨g, cap, hv, hc, hB, (Array.getElem?_eq_some_iff.1 hg).1⟩
theorem mix_rep (F : Nat → Int) (N : Nat) : mix F (List.replicate N 0) N = (List.range N).map F := by
  apply List.ext_getElem
  · simp [mix]
  · intro i h1 h2
    have h3 : i < N := by simpa [mix] using h1
    simp [mix, h3]
theorem rc_back {q x : Nat} : x / q * q + x % q = x := by rw [Nat.mul_comm]; exact Nat.div_add_mod x q

structure FrU (B : Nat) (a : Act) : Prop where
  d : a.defers = []
  s : a.tmps.size = 83
  f2 : a.tmps.getD 2 undef = .pointer (some ⟨B, 0, none⟩)
  f3 : a.tmps.getD 3 undef = .pointer (some ⟨B + 1, 0, none⟩)
  f4 : a.tmps.getD 4 undef = .pointer (some ⟨B + 1 + 1, 0, none⟩)
  f6 : a.tmps.getD 6 undef = .pointer (some ⟨B + 1 + 1 + 1, 0, none⟩)
  f7 : a.tmps.getD 7 undef = .int .i64 0

set_option maxRecDepth 100000 in
set_option maxHeartbeats 4000000 in
theorem mul_ok {a0 a1 b0 b1 : Value} {p q r : Nat} {l m : List Int} {w : World} (ha : Tens w a0 a1 ([(p : Int), (q : Int)], l)) (ht : Tens w b0 b1 ([(q : Int), (r : Int)], m))
    (hx : tok ([(p : Int), (q : Int)], l) = true) (hy : tok ([(q : Int), (r : Int)], m) = true) :
    Calls Tryd.prog 8 #[.agg #[a0, a1], .agg #[b0, b1]] w fun e w' => ∃ x0 x1, e = .returned (.tuple #[.agg #[x0, x1], .int .i64 0]) ∧ OwnT w' w.heap.size x0 x1 ([(p : Int), (r : Int)], mxl p q r l m) ∧ Below w.heap.size w w' := by
  obtain ⟨hp1, hp8, hq1, hq8, hl⟩ := tok2 hx
  obtain ⟨_, _, hr1, hr8, hm⟩ := tok2 hy
  obtain ⟨N, hN⟩ : ∃ N, p * r = N := ⟨_, rfl⟩
  have hN64 := mul64 hp8 hr8
  have hN1 := Nat.mul_pos hp1 hr1
  rw [hN] at hN64 hN1
  have HN : Hid (p * r = N) := hN
  have HPQ : Hid ((prd [(p : Int), (r : Int)]).toNat = N) := by show _ = _; rw [prd2, hN]
  have HOK2 : Hid (okd [(p : Int), (r : Int)] = true) := okd2_mk ⟨by omega, by omega, by omega, by omega⟩
  obtain ⟨Nq, hNq⟩ : ∃ N, p * q = N := ⟨_, rfl⟩
  obtain ⟨Mq, hMq⟩ : ∃ N, q * r = N := ⟨_, rfl⟩
  obtain ⟨db, dof, dc, ab, ao, ac, A⟩ := ha.mat (hl.trans hNq) (by rw [← hNq]; exact Nat.mul_pos hp1 hq1)
  obtain ⟨eb, eof, ec, bb, bo, bc, B⟩ := ht.mat (hm.trans hMq) (by rw [← hMq]; exact Nat.mul_pos hq1 hr1)
  have hNq64 := mul64 hp8 hq8
  have hMq64 := mul64 hq8 hr8
  rw [hNq] at hNq64
  rw [hMq] at hMq64
  obtain rfl := A.e0
  obtain rfl := A.e1
  obtain rfl := B.e0
  obtain rfl := B.e1
  have hdc := A.hdc
  have hec := B.hdc
  have hac := A.hac
  have hbc := B.hac
  have hdb := A.hdb
  have heb := B.hdb
  have hab := A.hab
  have hbb := B.hab
  have HP8 : Hid (p ≤ 8 ∧ q ≤ 8 ∧ r ≤ 8 ∧ 1 ≤ r) := ⟨hp8, hq8, hr8, hr1⟩
  have HNM : Hid (p * q = Nq ∧ q * r = Mq ∧ Nq ≤ 64 ∧ Mq ≤ 64) := ⟨hNq, hMq, hNq64, hMq64⟩
  have HMA : Hid (MatC w (.slice (some ⟨db, dof, none⟩) 2 dc) (.slice (some ⟨ab, ao, none⟩) Nq ac) p q Nq l db dof dc ab ao ac) := A
  have HMB : Hid (MatC w (.slice (some ⟨eb, eof, none⟩) 2 ec) (.slice (some ⟨bb, bo, none⟩) Mq bc) q r Mq m eb eof ec bb bo bc) := B
  clear A B
  obtain ⟨U, hU⟩ : ∃ U, U = ((((w.alloc (.cells #[(.slice (some ⟨db, dof, none⟩) 2 dc), (.slice (some ⟨ab, ao, none⟩) Nq ac)] 28)).alloc (.cells #[(.slice (some ⟨eb, eof, none⟩) 2 ec), (.slice (some ⟨bb, bo, none⟩) Mq bc)] 28)).alloc (.cells #[.slice none 0 0, .slice none 0 0] 28)).alloc (.cells #[.slice none 0 0, .slice none 0 0] 28)) := ⟨_, rfl⟩
  have hb : Below w.heap.size w U := by rw [hU]; exact ((((Below.refl _ _).alloc (Nat.le_refl _) _).alloc (by simp) _).alloc (by simp; omega) _).alloc (by simp; omega) _
  have HA : Hid (Tens U (.slice (some ⟨db, dof, none⟩) 2 dc) (.slice (some ⟨ab, ao, none⟩) Nq ac) ([(p : Int), (q : Int)], l)) := ha.later hb
  have HT : Hid (Tens U (.slice (some ⟨eb, eof, none⟩) 2 ec) (.slice (some ⟨bb, bo, none⟩) Mq bc) ([(q : Int), (r : Int)], m)) := ht.later hb
  have HB : Hid (Below w.heap.size w U) := hb
  have HBA : Hid (Box U w.heap.size (.slice (some ⟨db, dof, none⟩) 2 dc) (.slice (some ⟨ab, ao, none⟩) Nq ac)) := by show Box _ _ _ _; rw [hU]; exact (((Box.new w _ _).alloc _).alloc _).alloc _
  have HBB : Hid (Box U (w.heap.size + 1) (.slice (some ⟨eb, eof, none⟩) 2 ec) (.slice (some ⟨bb, bo, none⟩) Mq bc)) := by
    show Box _ _ _ _
    have := ((Box.new (w.alloc (.cells #[(.slice (some ⟨db, dof, none⟩) 2 dc), (.slice (some ⟨ab, ao, none⟩) Nq ac)] 28)) (.slice (some ⟨eb, eof, none⟩) 2 ec) (.slice (some ⟨bb, bo, none⟩) Mq bc)).alloc (.cells #[.slice none 0 0, .slice none 0 0] 28)).alloc (.cells #[.slice none 0 0, .slice none 0 0] 28)
    simp only [World.size_alloc] at this
    rw [hU]
    exact this
  have HBX : Hid (Box U (w.heap.size + 1 + 1) (.slice none 0 0) (.slice none 0 0)) := by
    show Box _ _ _ _
    have := (Box.new ((w.alloc (.cells #[(.slice (some ⟨db, dof, none⟩) 2 dc), (.slice (some ⟨ab, ao, none⟩) Nq ac)] 28)).alloc (.cells #[(.slice (some ⟨eb, eof, none⟩) 2 ec), (.slice (some ⟨bb, bo, none⟩) Mq bc)] 28)) (.slice none 0 0) (.slice none 0 0)).alloc (.cells #[.slice none 0 0, .slice none 0 0] 28)
    simp only [World.size_alloc] at this
    rw [hU]
    exact this
  have HBT : Hid (Box U (w.heap.size + 1 + 1 + 1) (.slice none 0 0) (.slice none 0 0)) := by
    show Box _ _ _ _
    have := Box.new (((w.alloc (.cells #[(.slice (some ⟨db, dof, none⟩) 2 dc), (.slice (some ⟨ab, ao, none⟩) Nq ac)] 28)).alloc (.cells #[(.slice (some ⟨eb, eof, none⟩) 2 ec), (.slice (some ⟨bb, bo, none⟩) Mq bc)] 28)).alloc (.cells #[.slice none 0 0, .slice none 0 0] 28)) (.slice none 0 0) (.slice none 0 0)
    simp only [World.size_alloc] at this
    rw [hU]
    exact this
  have hs0 : U.heap.size = w.heap.size + 1 + 1 + 1 + 1 := by rw [hU]; simp
  have HK : Hid (tkE ([(p : Int), (q : Int)], l) = 0) := by show _ = _; simp [tkE, hx]
  have HK2 : Hid (tkE ([(q : Int), (r : Int)], m) = 0) := by show _ = _; simp [tkE, hy]
  have k0 := HBA.out.c0
  have k1 := HBA.out.c1
  clear ha ht hb hx hy hl hm hN hNq hMq
  go_enter Tryd.func8, Tryd.ntmps8
  go_wp2_with fail
  refine wp_scope_jumps 0 (fun _ _ => False) (fun _ _ => 0) rfl ?_ ?_
  · go_wp2_with fail
    rw [← hU]
    clear hU
    refine (tensor_to 0 HA.out HK.out).mono ?_
    rintro e w2 ⟨rfl, hb2⟩
    have HA2 : Hid (Tens w2 _ _ _) := HT.out.later hb2
    have HU2 : Hid (Below U.heap.size U w2) := hb2
    have q0 := (HBB.out.later hb2).c0
    have q1 := (HBB.out.later hb2).c1
    clear hb2 k0 k1
    go_wp2_with fail
    refine (tensor_to 0 HA2.out HK2.out).mono ?_
    rintro e w3 ⟨rfl, hb3⟩
    have HU3 : Hid (Below U.heap.size U w3) := Below.after HU2.out hb3
    have HB3 : Hid (Below w.heap.size w w3) := Below.after HB.out HU3.out
    clear hb3 q0 q1
    have c0 := (HBA.out.later HU3.out).c0
    have c1 := (HBB.out.later HU3.out).c0
    have c2 := cell_later HB3.out HMA.out.c0
    have c3 := cell_later HB3.out HMA.out.c1
    have c4 := cell_later HB3.out HMB.out.c0
    have c5 := cell_later HB3.out HMB.out.c1
    go_wp2_with fail
    go_quiet (fail)
    go_wp2_with fail
    obtain ⟨V, hV⟩ : ∃ V, V = w3.drewN nq := ⟨_, rfl⟩
    have HUV : Hid (Below U.heap.size U V) := by show Below _ _ _; rw [hV]; exact Below.drewN HU3.out _
    have d0 : V.cell? ⟨w.heap.size, 0, none⟩ = _ := (HBA.out.later HUV.out).c0
    have d1 : V.cell? ⟨w.heap.size + 1, 0, none⟩ = _ := (HBB.out.later HUV.out).c0
    have d2 := cell_later (Below.after HB.out HUV.out) HMA.out.c0
    have d5 := cell_later (Below.after HB.out HUV.out) HMB.out.c1
    rw [← hV]
    clear c0 c1 c2 c3 c4 c5 hV HU3 HB3 HU2 HA2
    have hsV := HUV.out.size
    have HTI : Hid (Ints (V.alloc (.cells #[.int .i64 p, .int .i64 r] 3)) (.slice (some ⟨V.heap.size, 0, none⟩) 2 2) [(p : Int), (r : Int)]) := two_ints V p r
    have n0 := World.new_ne V _ d0
    have n1 := World.new_ne V _ d1
    have n2 := World.new_ne V _ d2
    have n3 := World.new_ne V _ d5
    refine wp_cut (fun a' w' => ∃ xa xc b1, FrU w.heap.size a' ∧ Own w' (w.heap.size + 1 + 1 + 1 + 1) (.slice xa 2 xc) [(p : Int), (r : Int)] ∧ Blk w' b1 (List.replicate N 0) ∧ (w.heap.size + 1 + 1 + 1 + 1 ≤ b1 ∧ ∀ k, (Value.slice xa 2 xc).ownBlock = some k → k ≠ b1) ∧ Box w' (w.heap.size + 1 + 1 + 1) (.slice xa 2 xc) (.slice (some ⟨b1, 0, none⟩) N N) ∧ Box w' w.heap.size (.slice (some ⟨db, dof, none⟩) 2 dc) (.slice (some ⟨ab, ao, none⟩) Nq ac) ∧ Box w' (w.heap.size + 1) (.slice (some ⟨eb, eof, none⟩) 2 ec) (.slice (some ⟨bb, bo, none⟩) Mq bc) ∧ Box w' (w.heap.size + 1 + 1) (.slice none 0 0) (.slice none 0 0) ∧ Below w.heap.size w w') ?_ ?_
    · intro a5 W ⟨xa, xc, b1, hf5, ho, hk, ⟨hb1l, hap⟩, hbt, hba, hbb', hbx, hbw⟩
      obtain ⟨G, hg, e⟩ := act83 a5 hf5.d hf5.s
      obtain ⟨hz1, hz2, g1, g2, g3, g4, g5⟩ := hf5
      rw [hg] at g1 g2 g3 g4 g5
      clear hz1 hz2
      subst e
      clear hg
      rw [g1, g2, g3, g4, g5]
      clear g1 g2 g3 g4 g5
      have t1 := hbt.c1
      have hb1w := hk.lt
      have HBA4 : Hid (Box W w.heap.size (.slice (some ⟨db, dof, none⟩) 2 dc) (.slice (some ⟨ab, ao, none⟩) Nq ac)) := hba
      have HBB4 : Hid (Box W (w.heap.size + 1) (.slice (some ⟨eb, eof, none⟩) 2 ec) (.slice (some ⟨bb, bo, none⟩) Mq bc)) := hbb'
      have HBX4 : Hid (Box W (w.heap.size + 1 + 1) (.slice none 0 0) (.slice none 0 0)) := hbx
      have HBT4 : Hid (Box W (w.heap.size + 1 + 1 + 1) (.slice xa 2 xc) (.slice (some ⟨b1, 0, none⟩) N N)) := hbt
      have HO4 : Hid (Own W (w.heap.size + 1 + 1 + 1 + 1) (.slice xa 2 xc) [(p : Int), (r : Int)]) := ho
      have HAP : Hid (∀ k, (Value.slice xa 2 xc).ownBlock = some k → k ≠ b1) := hap
      have HB4 : Hid (Below w.heap.size w W) := hbw
      have HK4 : Hid (Blk W b1 (mix (fun x => mxe l m q r (x / r) (x % r)) (List.replicate N 0) 0)) := by
        show Blk _ _ _
        rw [mix_zero]
        exact hk
      obtain ⟨xg, xcc, exg, hxcc, hxg1, hxg2⟩ := ho.form (by simp)
      have exa : xa = some ⟨xg, 0, none⟩ := by simp at exg; exact exg.1
      subst exa
      have hxc2 : 2 ≤ xc := by simp at exg hxcc; omega
      have hxb : xg ≠ b1 := hap xg rfl
      have hd1 : W.cell? ⟨xg, 1, none⟩ = some (.int .i64 r) := by
        rcases ho.ints.cases with ⟨e, _⟩ | ⟨b, off, c, e, h0, h1, h2, HC⟩
        · cases e
        · have e2 := e
          simp at e2
          obtain ⟨⟨rfl, rfl⟩, _⟩ := e2
          exact HC.out 1 (by simp)
      have HD1 : Hid (W.cell? ⟨xg, 1, none⟩ = some (.int .i64 r)) := hd1
      clear ho hk hap hbt hba hbb' hbx hbw exg hxcc hd1
      go_wp2
      clear t1
      go_loopw [57] (fun i w' => ∃ j : Nat, j ≤ N ∧ i = .int .i64 j ∧ Blk w' b1 (mix (fun x => mxe l m q r (x / r) (x % r)) (List.replicate N 0) j) ∧ Bu b1 W w') (fun i _ => N - (intOf i).toNat)
      case atStart => exact ⟨0, by omega, rfl, HK4.out, Bu.refl _ _⟩
      case round =>
        obtain ⟨j, hj, rfl, hB, hbu⟩ := hrel
        have HKR : Hid (Blk wr b1 (mix (fun x => mxe l m q r (x / r) (x % r)) (List.replicate N 0) j)) := hB
        have HBU : Hid (Bu b1 W wr) := hbu
        have HBW : Hid (Below w.heap.size w wr) := hbu.below HB4.out (by omega) (by have := HB4.out.size; omega)
        have hsr := hbu.size
        have hsW := HB4.out.size
        clear hB hbu
        by_cases hlt : j < N
        · have hjp : j < p * r := by rw [HN.out]; exact hlt
          obtain ⟨hi1, hk1⟩ := row_lt hjp
          have HMA5 : Hid (MatC wr (.slice (some ⟨db, dof, none⟩) 2 dc) (.slice (some ⟨ab, ao, none⟩) Nq ac) p q Nq l db dof dc ab ao ac) := HMA.out.later HBW.out
          have HMB5 : Hid (MatC wr (.slice (some ⟨eb, eof, none⟩) 2 ec) (.slice (some ⟨bb, bo, none⟩) Mq bc) q r Mq m eb eof ec bb bo bc) := HMB.out.later HBW.out
          have HBAr : Hid (Box wr w.heap.size (.slice (some ⟨db, dof, none⟩) 2 dc) (.slice (some ⟨ab, ao, none⟩) Nq ac)) := HBU.out.box HBA4.out (by omega)
          have HBBr : Hid (Box wr (w.heap.size + 1) (.slice (some ⟨eb, eof, none⟩) 2 ec) (.slice (some ⟨bb, bo, none⟩) Mq bc)) := HBU.out.box HBB4.out (by omega)
          have HBTr : Hid (Box wr (w.heap.size + 1 + 1 + 1) (.slice (some ⟨xg, 0, none⟩) 2 xc) (.slice (some ⟨b1, 0, none⟩) N N)) := HBU.out.box HBT4.out (by omega)
          have v0 := HBTr.out.c0
          have v1 := HBTr.out.c1
          have v2 := HBAr.out.c0
          have v3 := HBAr.out.c1
          have v4 := HBBr.out.c0
          have v5 := HBBr.out.c1
          have v6 : wr.cell? ⟨xg, 1, none⟩ = some (.int .i64 r) := (HBU.out.cell hxg2 hxb).trans HD1.out
          have HMS : Hid ((mix (fun x => mxe l m q r (x / r) (x % r)) (List.replicate N 0) j).set j (mxe l m q r (j / r) (j % r)) = mix (fun x => mxe l m q r (x / r) (x % r)) (List.replicate N 0) (j + 1)) := mix_set _ _ _
          obtain ⟨Q, hQ⟩ : ∃ Q, j / r = Q := ⟨_, rfl⟩
          obtain ⟨S, hS⟩ : ∃ S, j % r = S := ⟨_, rfl⟩
          have f0 : (j : Int).tdiv (r : Int) = (Q : Int) := by rw [Int.tdiv_eq_ediv_of_nonneg (by omega), ← hQ]; simp
          have f1 : (j : Int).tmod (r : Int) = (S : Int) := by rw [Int.tmod_eq_emod_of_nonneg (by omega), ← hS]; simp
          rw [hQ] at hi1 HMS
          rw [hS] at hk1 HMS
          have f2 : IntKind.i64.wrap (Q : Int) = (Q : Int) := wrap_small _ (by omega) (by omega)
          have f3 : IntKind.i64.wrap (S : Int) = (S : Int) := wrap_small _ (by omega) (by omega)
          have f4 : IntKind.i64.wrap ((j : Int).tdiv (r : Int)) = (Q : Int) := by rw [f0, f2]
          have f5 : IntKind.i64.wrap ((j : Int).tmod (r : Int)) = (S : Int) := by rw [f1, f3]
          have f6 : ¬ r = 0 := by have := HP8.out; omega
          have f7 : ¬ (r : Int) = 0 := by omega
          have f8 : ((r : Int) == 0) = false := by simp; omega
          obtain ⟨F, hF⟩ : ∃ F, mxe l m q r Q S = F := ⟨_, rfl⟩
          rw [hF] at HMS
          have HF : Hid (mxe l m q r Q S = F) := hF
          have z4 : (0 : Int) ≤ (j : Int) := by omega
          have z5 : (j : Int) < N := by omega
          clear hjp hQ hS hF
          have HQS : Hid (Q < p ∧ S < r) := ⟨hi1, hk1⟩
          clear hi1 hk1
          have y0 : b1 ≠ w.heap.size + 1 + 1 + 1 := by omega
          have y1 : w.heap.size + 1 + 1 + 1 ≠ b1 := by omega
          have y2 : b1 ≠ xg := by omega
          have y3 : xg ≠ b1 := by omega
          have y4 : b1 ≠ w.heap.size := by omega
          have y5 : w.heap.size ≠ b1 := by omega
          have y6 : b1 ≠ w.heap.size + 1 := by omega
          have y7 : w.heap.size + 1 ≠ b1 := by omega
          go_wp2_with fail
          go_region_held3 (fun w' => w'.cell? ⟨w.heap.size + 1 + 1 + 1, 0, none⟩ = some (.slice (some ⟨xg, 0, none⟩) 2 xc) ∧ w'.cell? ⟨w.heap.size + 1 + 1 + 1, 1, none⟩ = some (.slice (some ⟨b1, 0, none⟩) N N) ∧ w'.cell? ⟨xg, 1, none⟩ = some (.int .i64 r) ∧ w'.cell? ⟨w.heap.size, 0, none⟩ = some (.slice (some ⟨db, dof, none⟩) 2 dc) ∧ w'.cell? ⟨w.heap.size, 1, none⟩ = some (.slice (some ⟨ab, ao, none⟩) Nq ac) ∧ w'.cell? ⟨w.heap.size + 1, 0, none⟩ = some (.slice (some ⟨eb, eof, none⟩) 2 ec) ∧ w'.cell? ⟨w.heap.size + 1, 1, none⟩ = some (.slice (some ⟨bb, bo, none⟩) Mq bc)) (go_keep)
            (first | (go_at_call 29; refine (crossed_ok (p := p) (q := q) (r := r) (i := Q) (k := S) (HMA5.out.later (Below.refl _ _).drew) (HMB5.out.later (Below.refl _ _).drew) HNM.out.1 HNM.out.2.1 HNM.out.2.2.1 HNM.out.2.2.2 HP8.out.1 HP8.out.2.1 HP8.out.2.2.1 HQS.out.1 HQS.out.2).mono ?_; rw [HF.out]; rintro e w6 ⟨rfl, hb6⟩; have HQ6 : Hid (Below wr.heap.size wr w6) := Below.after (Below.refl _ _).drew hb6; have a_0 := cell_later HQ6.out v0; have a_1 := cell_later HQ6.out v1; have a_2 := cell_later HQ6.out v2; have a_3 := cell_later HQ6.out v3; have a_4 := cell_later HQ6.out v4; have a_5 := cell_later HQ6.out v5; have a_6 := cell_later HQ6.out v6; have HK6 : Hid (Blk w6 b1 (mix (fun x => mxe l m q r (x / r) (x % r)) (List.replicate N 0) j)) := HKR.out.later HQ6.out HKR.out.lt; have hf6 := HK6.out.frozen j; obtain ⟨xx, hc6⟩ : ∃ x, w6.cell? ⟨b1, j, none⟩ = some x := ⟨_, HK6.out.cell j (by rw [mix_length, List.length_replicate]; exact hlt)⟩; clear hb6))
          go_wp2
          go_roundw
          case rel =>
            refine ⟨j + 1, by omega, by go_num, ?_, (HBU.out.after HQ6.out).setCell _⟩
            rw [← HMS.out]
            exact HK6.out.set j F
          case measure => simp [intOf]; omega
        · have hj' : j = N := by omega
          subst hj'
          have hbt := HBU.out.box HBT4.out (by omega)
          have t0 := hbt.c0
          have t1 := hbt.c1
          have hbx := HBU.out.box HBX4.out (by omega)
          have l0 := hbx.c0
          have l1 := hbx.c1
          have m0 := hbx.f 0
          have m1 := hbx.f 1
          have HBS : Hid (Box _ _ _ _) := hbx.set (.slice (some ⟨xg, 0, none⟩) 2 xc) (.slice (some ⟨b1, 0, none⟩) j j)
          have HO5 : Hid (Own wr (w.heap.size + 1 + 1 + 1 + 1) (.slice (some ⟨xg, 0, none⟩) 2 xc) [(p : Int), (r : Int)]) := HO4.out.at fun k hk => HBU.out.block k (HO4.out.lt k hk) (HAP.out k hk)
          have HK5 : Hid (Own wr (w.heap.size + 1 + 1 + 1 + 1) (.slice (some ⟨b1, 0, none⟩) j j) (mxl p q r l m)) := by
            have h := HKR.out
            rw [mix_rep] at h
            have e : (List.range j).map (fun x => mxe l m q r (x / r) (x % r)) = mxl p q r l m := by rw [mxl, HN.out]
            rw [e] at h
            exact Blk.own h hb1l (by rw [mxl_length, HN.out]) (by rw [mxl_length, HN.out]; unfold big; omega)
          clear hbx hbt
          go_wp2
          rw [jump_ret]
          have hr0 := HBS.out.c0
          have hr1 := HBS.out.c1
          refine bodyPost_ret (v := .tuple #[.agg #[.slice (some ⟨xg, 0, none⟩) 2 xc, .slice (some ⟨b1, 0, none⟩) j j], .int .i64 0]) (by simp [results, Tryd.results8, go_sem, hr0, hr1]) rfl ⟨_, _, rfl, ?_, ?_⟩
          · have h1 : OwnT wr (w.heap.size + 1 + 1 + 1 + 1) (.slice (some ⟨xg, 0, none⟩) 2 xc) (.slice (some ⟨b1, 0, none⟩) j j) ([(p : Int), (r : Int)], mxl p q r l m) := ⟨HO5.out, HK5.out, fun k hk e => HAP.out k hk (by simp [Value.ownBlock] at e; exact e.symm)⟩
            exact ((h1.setCell _ _ (by simp <;> omega)).setCell _ _ (by simp <;> omega)).mono (by omega)
          · exact (HBW.out.setCell (by simp <;> omega) _).setCell (by simp <;> omega) _
    · intro J K' hJ hK'
      have HJ : Hid _ := hJ
      have HK' : Hid _ := hK'
      clear hJ hK'
      have y0 : w.heap.size + 1 + 1 + 1 ≠ db := by omega
      have y1 : db ≠ w.heap.size + 1 + 1 + 1 := by omega
      have y2 : w.heap.size + 1 + 1 + 1 ≠ eb := by omega
      have y3 : eb ≠ w.heap.size + 1 + 1 + 1 := by omega
      have y4 : w.heap.size + 1 + 1 + 1 ≠ w.heap.size := by omega
      have y5 : w.heap.size ≠ w.heap.size + 1 + 1 + 1 := by omega
      have y6 : w.heap.size + 1 + 1 + 1 ≠ w.heap.size + 1 := by omega
      have y7 : w.heap.size + 1 ≠ w.heap.size + 1 + 1 + 1 := by omega
      have y20 : w.heap.size ≠ w.heap.size + 1 + 1 := by omega
      have y21 : w.heap.size + 1 + 1 ≠ w.heap.size := by omega
      have q0 : V.heap.size ≠ w.heap.size := by omega
      have q1 : w.heap.size ≠ V.heap.size := by omega
      have q2 : V.heap.size ≠ w.heap.size + 1 := by omega
      have q3 : w.heap.size + 1 ≠ V.heap.size := by omega
      have q4 : V.heap.size ≠ db := by omega
      have q5 : db ≠ V.heap.size := by omega
      have q6 : V.heap.size ≠ eb := by omega
      have q7 : eb ≠ V.heap.size := by omega
      go_region_held3 (fun w' => w'.cell? ⟨w.heap.size, 0, none⟩ = some (.slice (some ⟨db, dof, none⟩) 2 dc) ∧ w'.cell? ⟨w.heap.size + 1, 0, none⟩ = some (.slice (some ⟨eb, eof, none⟩) 2 ec) ∧ w'.cell? ⟨db, dof, none⟩ = some (.int .i64 p) ∧ w'.cell? ⟨eb, eof + 1, none⟩ = some (.int .i64 r)) (go_keep)
        (first | (go_at_call 28; refine (fill_own (d := [(p : Int), (r : Int)]) 0 ?_ HOK2.out).mono ?_; exact Ints.later (Below.refl _ _).drew HTI.out; rw [HPQ.out]; rintro e w6 ⟨x0, b1, rfl, ho, hbk, ⟨hb1l, hap⟩, hb6⟩; obtain ⟨xa, xc, rfl⟩ : ∃ xa xc, x0 = .slice xa 2 xc := ho.ints.shape; have HQ6 : Hid (Below U.heap.size U w6) := Below.after HUV.out (Below.after (Below.push (Below.refl _ _) _).drew hb6); have HO6 : Hid (Own w6 (w.heap.size + 1 + 1 + 1 + 1) (.slice xa 2 xc) [(p : Int), (r : Int)]) := ho.mono (by simp; omega); have HBK6 : Hid (Blk w6 b1 (List.replicate N 0) ∧ w.heap.size + 1 + 1 + 1 + 1 ≤ b1 ∧ ∀ k, (Value.slice xa 2 xc).ownBlock = some k → k ≠ b1) := ⟨hbk, (by simp at hb1l; omega), hap⟩; have HZ : Hid (Box w6 (w.heap.size + 1 + 1 + 1) (.slice none 0 0) (.slice none 0 0)) := HBT.out.later HQ6.out; have z0 := HZ.out.c0; have z1 := HZ.out.c1; have z2 := HZ.out.f 0; have z3 := HZ.out.f 1; have a_0 := (HBA.out.later HQ6.out).c0; have a_1 := (HBB.out.later HQ6.out).c0; have a_2 := cell_later (Below.after HB.out HQ6.out) HMA.out.c0; have a_3 := cell_later (Below.after HB.out HQ6.out) HMB.out.c1; clear ho hbk hap hb6 hb1l))
      exact HK'.out _ _ (Met.intro (HJ.out _ _ ⟨_, _, _, ⟨rfl, rfl, rfl, rfl, rfl, rfl, rfl⟩, (HO6.out.setCell _ _ (fun k hk => by have := HO6.out.frm k hk; simp; omega)).setCell _ _ (fun k hk => by have := HO6.out.frm k hk; simp; omega), (HBK6.out.1.setOther _ _ (by have := HBK6.out.2.1; simp; omega)).setOther _ _ (by have := HBK6.out.2.1; simp; omega), HBK6.out.2, HZ.out.set _ _, (HBA.out.later HQ6.out).other2 _ _ (by omega), (HBB.out.later HQ6.out).other2 _ _ (by omega), (HBX.out.later HQ6.out).other2 _ _ (by omega), ((Below.after HB.out HQ6.out).setCell (by simp; omega) _).setCell (by simp; omega) _⟩))
  · intro a w' h
    exact h.elim
end Go.Proofs.YtgnicnaiaijdcaaDoor
