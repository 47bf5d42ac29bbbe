/- Contract: the page's Mat. -/
import Derived.Test.YtgnicnaiaijdcaaDoorX5
namespace Go.Proofs.YtgnicnaiaijdcaaDoor
set_option linter.unusedVariables false
set_option linter.unusedSimpArgs false
open Go.RowKit

structure FrM (B : Nat) (Bt : Nat) (a : Act) : Prop where
  d : a.defers = []
  s : a.tmps.size = 84
  f2 : a.tmps.getD 2 undef = .pointer (some ⟨B, 0, none⟩)
  f3 : a.tmps.getD 3 undef = .pointer (some ⟨B + 1, 0, none⟩)
  f4 : a.tmps.getD 4 undef = .pointer (some ⟨B + 1 + 1, 0, none⟩)
  f5 : a.tmps.getD 5 undef = .pointer (some ⟨Bt, 0, none⟩)

set_option maxRecDepth 100000 in
set_option maxHeartbeats 4000000 in
theorem rmat_ok {a0 a1 b0 b1 : Value} {p q r : Nat} {l m : List Int} {w : World} (ha : Tens w a0 a1 ([(p : Int), (q : Int)], l)) (ht : Tens w b0 b1 ([(q : Int), (r : Int)], m))
    (hx : tok ([(p : Int), (q : Int)], l) = true) (hy : tok ([(q : Int), (r : Int)], m) = true) :
    Calls Tryd.prog 10 #[.agg #[a0, a1], .agg #[b0, b1]] w fun e w' => ∃ x0 x1, e = .returned (.agg #[x0, x1]) ∧ OwnT w' w.heap.size x0 x1 ([(p : Int), (r : Int)], mxl p q r l m) ∧ Below w.heap.size w w' := by
  obtain ⟨hp1, hp8, hq1, hq8, hl⟩ := tok2 hx
  obtain ⟨_, _, hr1, hr8, hm⟩ := tok2 hy
  obtain ⟨N, hN⟩ : ∃ N, p * r = N := ⟨_, rfl⟩
  have hN64 := mul64 hp8 hr8
  have hN1 := Nat.mul_pos hp1 hr1
  rw [hN] at hN64 hN1
  have HN : Hid (p * r = N) := hN
  have HPQ : Hid ((prd [(p : Int), (r : Int)]).toNat = N) := by show _ = _; rw [prd2, hN]
  have HOK2 : Hid (okd [(p : Int), (r : Int)] = true) := okd2_mk ⟨by omega, by omega, by omega, by omega⟩
  obtain ⟨Nq, hNq⟩ : ∃ N, p * q = N := ⟨_, rfl⟩
  obtain ⟨Mq, hMq⟩ : ∃ N, q * r = N := ⟨_, rfl⟩
  obtain ⟨db, dof, dc, ab, ao, ac, A⟩ := ha.mat (hl.trans hNq) (by rw [← hNq]; exact Nat.mul_pos hp1 hq1)
  obtain ⟨eb, eof, ec, bb, bo, bc, B⟩ := ht.mat (hm.trans hMq) (by rw [← hMq]; exact Nat.mul_pos hq1 hr1)
  have hNq64 := mul64 hp8 hq8
  have hMq64 := mul64 hq8 hr8
  rw [hNq] at hNq64
  rw [hMq] at hMq64
  obtain rfl := A.e0
  obtain rfl := A.e1
  obtain rfl := B.e0
  obtain rfl := B.e1
  have hdc := A.hdc
  have hec := B.hdc
  have hac := A.hac
  have hbc := B.hac
  have hdb := A.hdb
  have heb := B.hdb
  have hab := A.hab
  have hbb := B.hab
  have HNM : Hid (p * q = Nq ∧ q * r = Mq) := ⟨hNq, hMq⟩
  have HD0 : Hid (w.cell? ⟨db, dof, none⟩ = some (.int .i64 p)) := A.c0
  have HD1 : Hid (w.cell? ⟨db, dof + 1, none⟩ = some (.int .i64 q)) := A.c1
  have HE0 : Hid (w.cell? ⟨eb, eof, none⟩ = some (.int .i64 q)) := B.c0
  have HE1 : Hid (w.cell? ⟨eb, eof + 1, none⟩ = some (.int .i64 r)) := B.c1
  have HCA : Hid (∀ i, i < Nq → w.cell? ⟨ab, ao + i, none⟩ = some (.int .i64 (l.getD i 0))) := A.cd
  have HCB : Hid (∀ i, i < Mq → w.cell? ⟨bb, bo + i, none⟩ = some (.int .i64 (m.getD i 0))) := B.cd
  clear A B
  obtain ⟨U, hU⟩ : ∃ U, U = (((w.alloc (.cells #[(.slice (some ⟨db, dof, none⟩) 2 dc), (.slice (some ⟨ab, ao, none⟩) Nq ac)] 28)).alloc (.cells #[(.slice (some ⟨eb, eof, none⟩) 2 ec), (.slice (some ⟨bb, bo, none⟩) Mq bc)] 28)).alloc (.cells #[.slice none 0 0, .slice none 0 0] 28)) := ⟨_, rfl⟩
  have hb : Below w.heap.size w U := by rw [hU]; exact (((Below.refl _ _).alloc (Nat.le_refl _) _).alloc (by simp) _).alloc (by simp; omega) _
  have HB : Hid (Below w.heap.size w U) := hb
  have HBA : Hid (Box U w.heap.size (.slice (some ⟨db, dof, none⟩) 2 dc) (.slice (some ⟨ab, ao, none⟩) Nq ac)) := by show Box _ _ _ _; rw [hU]; exact ((Box.new w _ _).alloc _).alloc _
  have HBB : Hid (Box U (w.heap.size + 1) (.slice (some ⟨eb, eof, none⟩) 2 ec) (.slice (some ⟨bb, bo, none⟩) Mq bc)) := by
    show Box _ _ _ _
    have := (Box.new (w.alloc (.cells #[(.slice (some ⟨db, dof, none⟩) 2 dc), (.slice (some ⟨ab, ao, none⟩) Nq ac)] 28)) (.slice (some ⟨eb, eof, none⟩) 2 ec) (.slice (some ⟨bb, bo, none⟩) Mq bc)).alloc (.cells #[.slice none 0 0, .slice none 0 0] 28)
    simp only [World.size_alloc] at this
    rw [hU]
    exact this
  have HBX : Hid (Box U (w.heap.size + 1 + 1) (.slice none 0 0) (.slice none 0 0)) := by
    show Box _ _ _ _
    have := Box.new ((w.alloc (.cells #[(.slice (some ⟨db, dof, none⟩) 2 dc), (.slice (some ⟨ab, ao, none⟩) Nq ac)] 28)).alloc (.cells #[(.slice (some ⟨eb, eof, none⟩) 2 ec), (.slice (some ⟨bb, bo, none⟩) Mq bc)] 28)) (.slice none 0 0) (.slice none 0 0)
    simp only [World.size_alloc] at this
    rw [hU]
    exact this
  have hs0 : U.heap.size = w.heap.size + 1 + 1 + 1 := by rw [hU]; simp
  clear ha ht hb hx hy hN hl hm hNq hMq
  go_enter Tryd.func10, Tryd.ntmps10
  go_wp2_with fail
  rw [← hU]
  clear hU
  refine wp_cut (fun a' w' => ∃ Bt x0 x1, FrM w.heap.size Bt a' ∧ Box w' Bt x0 x1 ∧ OwnT w' (w.heap.size + 1 + 1 + 1) x0 x1 ([(p : Int), (r : Int)], List.replicate N 0) ∧ (w.heap.size + 1 + 1 + 1 ≤ Bt ∧ ∀ k, x1.ownBlock = some k → k ≠ Bt) ∧ Below U.heap.size U w') ?_ ?_
  · intro a5 w5 ⟨Bt, x0, x1, hf5, hbt, hot, ⟨hB1, hB2⟩, hb5⟩
    obtain ⟨G, hg, e⟩ := act84 a5 hf5.d hf5.s
    obtain ⟨hz1, hz2, g1, g2, g3, g4⟩ := hf5
    rw [hg] at g1 g2 g3 g4
    clear hz1 hz2
    subst e
    clear hg
    rw [g1, g2, g3, g4]
    clear g1 g2 g3 g4
    obtain ⟨xa, xn, xc, rfl⟩ := hot.dims.ints.shape3
    obtain ⟨g, cap, ex, hcap, hg1, hg2⟩ := hot.data.form (by simp; omega)
    simp only [List.length_replicate] at ex hcap
    subst ex
    have hgB : g ≠ Bt := hB2 g rfl
    have HBA5 : Hid (Box w5 w.heap.size _ _) := HBA.out.later hb5
    have HBB5 : Hid (Box w5 (w.heap.size + 1) _ _) := HBB.out.later hb5
    have HBX5 : Hid (Box w5 (w.heap.size + 1 + 1) _ _) := HBX.out.later hb5
    have HBT5 : Hid (Box w5 Bt _ _) := hbt
    have HB5 : Hid (Below w.heap.size w w5) := Below.after HB.out hb5
    have HO5 : Hid (Own w5 (w.heap.size + 1 + 1 + 1) (.slice xa xn xc) [(p : Int), (r : Int)]) := hot.dims
    have HK5 : Hid (Own w5 (w.heap.size + 1 + 1 + 1) (.slice (some ⟨g, 0, none⟩) N cap) (mix (fun x => mxe l m q r (x / r) (x % r)) (List.replicate N 0) 0)) := by
      show Own _ _ _ _
      rw [mix_zero]
      exact hot.data
    have HAP : Hid (∀ k, (Value.slice xa xn xc).ownBlock = some k → k ≠ g) := fun k hk e => hot.apart k hk (by rw [e]; rfl)
    clear hot hbt hb5 hB2
    go_wp2
    go_loopw [6] (fun x w' => ∃ i : Nat, i ≤ p ∧ x = .int .i64 i ∧ Own w' (w.heap.size + 1 + 1 + 1) (.slice (some ⟨g, 0, none⟩) N cap) (mix (fun x => mxe l m q r (x / r) (x % r)) (List.replicate N 0) (i * r)) ∧ But g w5 w') (fun x _ => p - (intOf x).toNat)
    case atStart => exact ⟨0, by omega, rfl, by rw [Nat.zero_mul]; exact HK5.out, But.refl _ _⟩
    case round =>
      obtain ⟨wo, rfl⟩ : ∃ x, x = wr := ⟨_, rfl⟩
      obtain ⟨i, hi, rfl, hO, hbu⟩ := hrel
      have HOI : Hid (Own wo (w.heap.size + 1 + 1 + 1) (.slice (some ⟨g, 0, none⟩) N cap) (mix (fun x => mxe l m q r (x / r) (x % r)) (List.replicate N 0) (i * r))) := hO
      have HBU : Hid (But g w5 wo) := hbu
      have c0 := (hbu.box HBA5.out (by omega)).c0
      have d0 : wo.cell? ⟨db, dof, none⟩ = some (.int .i64 p) := (hbu.cell (by simp; omega)).trans (cell_later HB5.out HD0.out)
      clear hO hbu
      by_cases hlt : i < p
      · go_wp2
        go_loopw [7] (fun x w' => ∃ k : Nat, k ≤ r ∧ x = .int .i64 k ∧ Own w' (w.heap.size + 1 + 1 + 1) (.slice (some ⟨g, 0, none⟩) N cap) (mix (fun x => mxe l m q r (x / r) (x % r)) (List.replicate N 0) (i * r + k)) ∧ But g w5 w') (fun x _ => r - (intOf x).toNat)
        case atStart => exact ⟨0, by omega, rfl, HOI.out, HBU.out⟩
        case round =>
          obtain ⟨wk, rfl⟩ : ∃ x, x = wr := ⟨_, rfl⟩
          obtain ⟨k, hk, rfl, hO, hbu⟩ := hrel
          have HOK' : Hid (Own wk (w.heap.size + 1 + 1 + 1) (.slice (some ⟨g, 0, none⟩) N cap) (mix (fun x => mxe l m q r (x / r) (x % r)) (List.replicate N 0) (i * r + k))) := hO
          have HBK : Hid (But g w5 wk) := hbu
          have v0 := (hbu.box HBB5.out (by omega)).c0
          have v1 : wk.cell? ⟨eb, eof + 1, none⟩ = some (.int .i64 r) := (hbu.cell (by simp; omega)).trans (cell_later HB5.out HE1.out)
          clear hO hbu c0 d0
          by_cases hlk : k < r
          · have x0 := (HBK.out.box HBA5.out (by omega)).c0
            have x1 := (HBK.out.box HBA5.out (by omega)).c1
            have x2 := (HBK.out.box HBB5.out (by omega)).c1
            have x3 : wk.cell? ⟨db, dof + 1, none⟩ = some (.int .i64 q) := (HBK.out.cell (by simp; omega)).trans (cell_later HB5.out HD1.out)
            have HYA : Hid (∀ i, i < Nq → wk.cell? ⟨ab, ao + i, none⟩ = some (.int .i64 (l.getD i 0))) := fun i hi => (HBK.out.cell (by simp; omega)).trans (cell_later HB5.out (HCA.out i hi))
            have HYB : Hid (∀ i, i < Mq → wk.cell? ⟨bb, bo + i, none⟩ = some (.int .i64 (m.getD i 0))) := fun i hi => (HBK.out.cell (by simp; omega)).trans (cell_later HB5.out (HCB.out i hi))
            go_wp2
            go_loopw [8, 9] (fun y x w' => ∃ j n : Nat, j ≤ q ∧ x = .int .i64 j ∧ y = .int .i64 (mxp l m q r i k j) ∧ w' = wk.drewN n) (fun _ x _ => q - (intOf x).toNat)
            case atStart => exact ⟨0, 0, by omega, rfl, by rw [mxp_zero], rfl⟩
            case round =>
              obtain ⟨j, n, hj, rfl, rfl, rfl⟩ := hrel
              by_cases hlj : j < q
              · have hiq : i * q + j < p * q := rc_lt hlt hlj
                have hjr : j * r + k < q * r := rc_lt hlj hlk
                rw [HNM.out.1] at hiq
                rw [HNM.out.2] at hjr
                have HS : Hid (wrap64 (mxp l m q r i k j + wrap64 (l.getD (i * q + j) 0 * m.getD (j * r + k) 0)) = mxp l m q r i k (j + 1)) := mxp_succ l m q r i k j
                have e0 : (i : Int) * q = ((i * q : Nat) : Int) := by simp
                have e1 : (j : Int) * r = ((j * r : Nat) : Int) := by simp
                obtain ⟨iq, hiq'⟩ : ∃ x, i * q = x := ⟨_, rfl⟩
                obtain ⟨jr, hjr'⟩ : ∃ x, j * r = x := ⟨_, rfl⟩
                rw [hiq'] at hiq e0 HS
                rw [hjr'] at hjr e1 HS
                have z0 : IntKind.i64.wrap ((i : Int) * q) = (iq : Int) := by rw [e0]; exact wrap_small _ (by omega) (by omega)
                have z1 : IntKind.i64.wrap ((j : Int) * r) = (jr : Int) := by rw [e1]; exact wrap_small _ (by omega) (by omega)
                have z2 : IntKind.i64.wrap ((iq : Int) + j) = ((iq + j : Nat) : Int) := by rw [wrap_small _ (by omega) (by omega)]; simp
                have z3 : IntKind.i64.wrap ((jr : Int) + k) = ((jr + k : Nat) : Int) := by rw [wrap_small _ (by omega) (by omega)]; simp
                obtain ⟨R, hR⟩ : ∃ x, iq + j = x := ⟨_, rfl⟩
                obtain ⟨T, hT⟩ : ∃ x, jr + k = x := ⟨_, rfl⟩
                rw [hR] at z2 hiq HS
                rw [hT] at z3 hjr HS
                have v0' := HYA.out R hiq
                have v1' := HYB.out T hjr
                have z4 : (0 : Int) ≤ (R : Int) := by omega
                have z5 : (R : Int) < Nq := by omega
                have z6 : (0 : Int) ≤ (T : Int) := by omega
                have z7 : (T : Int) < Mq := by omega
                clear hiq' hjr' hR hT e0 e1
                go_wp2_with fail
                go_quiet (fail)
                go_wp2
                go_roundw
                case rel => exact ⟨j + 1, _, by omega, by go_num, by rw [← HS.out]; rfl, rfl⟩
                case measure => simp [intOf]; omega
              · have hj' : j = q := by omega
                subst hj'
                obtain ⟨F, hF⟩ : ∃ F, mxp l m j r i k j = F := ⟨_, rfl⟩
                rw [hF]
                have hir : i * r + k < p * r := rc_lt hlt hlk
                rw [HN.out] at hir
                have HMS : Hid ((mix (fun x => mxe l m j r (x / r) (x % r)) (List.replicate N 0) (i * r + k)).set (i * r + k) F = mix (fun x => mxe l m j r (x / r) (x % r)) (List.replicate N 0) (i * r + (k + 1))) := by
                  show _ = _
                  have h := mix_set (fun x => mxe l m j r (x / r) (x % r)) (List.replicate N 0) (i * r + k)
                  simp only [rc_div hlk, rc_mod hlk] at h
                  rw [← hF, ← Nat.add_assoc]
                  exact h
                clear hF
                have e1 : (i : Int) * r = ((i * r : Nat) : Int) := by simp
                have HOT : Hid (Own (wk.drewN n) (w.heap.size + 1 + 1 + 1) (.slice (some ⟨g, 0, none⟩) N cap) (mix (fun x => mxe l m j r (x / r) (x % r)) (List.replicate N 0) (i * r + k))) := HOK'.out.drewN n
                obtain ⟨ir, hir'⟩ : ∃ x, i * r = x := ⟨_, rfl⟩
                rw [hir'] at hir e1 HMS HOT
                have z1 : IntKind.i64.wrap ((i : Int) * r) = (ir : Int) := by rw [e1]; exact wrap_small _ (by omega) (by omega)
                have z3 : IntKind.i64.wrap ((ir : Int) + k) = ((ir + k : Nat) : Int) := by rw [wrap_small _ (by omega) (by omega)]; simp
                have HIK : Hid (ir + k + 1 = i * r + (k + 1)) := by show _ = _; omega
                rw [← Nat.add_assoc] at HMS
                obtain ⟨R, hR⟩ : ∃ x, ir + k = x := ⟨_, rfl⟩
                rw [hR] at z3 hir HMS HOT HIK
                have z4 : (0 : Int) ≤ (R : Int) := by omega
                have z5 : (R : Int) < N := by omega
                obtain ⟨f1, f2, f3⟩ := HOT.out.put (by rw [mix_length, List.length_replicate]) R hir F
                rw [HMS.out] at f3
                have HS : Hid (Own ((wk.drewN n).setCell ⟨g, R, none⟩ (.int .i64 F)) (w.heap.size + 1 + 1 + 1) (.slice (some ⟨g, 0, none⟩) N cap) (mix (fun x => mxe l m j r (x / r) (x % r)) (List.replicate N 0) (i * r + (k + 1)))) := by
                  show Own _ _ _ _
                  rw [← HIK.out]
                  exact f3
                have HBS : Hid (But g w5 ((wk.drewN n).setCell ⟨g, R, none⟩ (.int .i64 F))) := (HBK.out.drewN n).setCell _
                have t1 := (HBK.out.box HBT5.out (by omega)).c1
                clear f3 HMS hir' hR e1 HOT
                have n1 : g ≠ w.heap.size + 1 := by omega
                have n2 : w.heap.size + 1 ≠ g := by omega
                have n3 : Bt ≠ g := Ne.symm hgB
                have n4 : g ≠ eb := by omega
                have n5 : eb ≠ g := by omega
                replace t1 : (wk.drewN n).cell? ⟨Bt, 1, none⟩ = some (.slice (some ⟨g, 0, none⟩) N cap) := t1
                replace v0 : (wk.drewN n).cell? ⟨w.heap.size + 1, 0, none⟩ = some (.slice (some ⟨eb, eof, none⟩) 2 ec) := v0
                replace v1 : (wk.drewN n).cell? ⟨eb, eof + 1, none⟩ = some (.int .i64 r) := v1
                go_wp2_with fail
                clear x0 x1 x2 x3
                generalize wk.drewN n = W at t1 v0 v1 HS HBS f1 f2 ⊢
                go_region_held3 (fun w' => w'.cell? ⟨w.heap.size + 1, 0, none⟩ = some (.slice (some ⟨eb, eof, none⟩) 2 ec) ∧ w'.cell? ⟨eb, eof + 1, none⟩ = some (.int .i64 r) ∧ w'.cell? ⟨Bt, 1, none⟩ = some (.slice (some ⟨g, 0, none⟩) N cap)) (go_keep) (fail)
                clear v0 v1 t1 f1 f2
                go_wp2
                go_roundw
                case rel => exact ⟨k + 1, by omega, by go_num, HS.out.drew, HBS.out.drew⟩
                case measure => simp [intOf]; omega
          · have hk' : k = r := by omega
            subst hk'
            go_wp2
            go_roundw
            case rel =>
              refine ⟨i + 1, by omega, by go_num, ?_, HBK.out⟩
              rw [Nat.add_mul, Nat.one_mul]
              exact HOK'.out
            case measure => simp [intOf]; omega
      · have hi' : i = p := by omega
        subst hi'
        have hbt := HBU.out.box HBT5.out (by omega)
        have t0 := hbt.c0
        have t1 := hbt.c1
        have hbx := HBU.out.box HBX5.out (by omega)
        have l0 := hbx.c0
        have l1 := hbx.c1
        have m0 := hbx.f 0
        have m1 := hbx.f 1
        have HBS : Hid (Box _ _ _ _) := hbx.set (.slice xa xn xc) (.slice (some ⟨g, 0, none⟩) N cap)
        have HO6 : Hid (Own wo (w.heap.size + 1 + 1 + 1) (.slice xa xn xc) [(i : Int), (r : Int)]) := HO5.out.at fun k hk => HBU.out.block k (HAP.out k hk)
        have HK6 : Hid (Own wo (w.heap.size + 1 + 1 + 1) (.slice (some ⟨g, 0, none⟩) N cap) (mxl i q r l m)) := by
          have h := HOI.out
          rw [HN.out, mix_rep] at h
          have e : (List.range N).map (fun x => mxe l m q r (x / r) (x % r)) = mxl i q r l m := by rw [mxl, HN.out]
          rw [e] at h
          exact h
        have HBE : Hid (Below w.heap.size w wo) := HBU.out.below HB5.out (by omega)
        clear hbx hbt
        go_wp2
        have hr0 := HBS.out.c0
        have hr1 := HBS.out.c1
        refine bodyPost_ret (v := .agg #[.slice xa xn xc, .slice (some ⟨g, 0, none⟩) N cap]) (by simp [results, Tryd.results10, go_sem, hr0, hr1]) rfl ⟨_, _, rfl, ?_, ?_⟩
        · have h1 : OwnT wo (w.heap.size + 1 + 1 + 1) (.slice xa xn xc) (.slice (some ⟨g, 0, none⟩) N cap) ([(i : Int), (r : Int)], mxl i q r l m) := ⟨HO6.out, HK6.out, fun k hk e => HAP.out k hk (by simp [Value.ownBlock] at e; exact e.symm)⟩
          exact ((h1.setCell _ _ (by simp)).setCell _ _ (by simp)).mono (by omega)
        · exact (HBE.out.setCell (by simp; omega) _).setCell (by simp; omega) _
  · intro J K' hJ hK'
    have HJ : Hid _ := hJ
    have HK' : Hid _ := hK'
    clear hJ hK'
    have l0 := HBA.out.c0
    have l1 := HBB.out.c0
    have l2 := cell_later HB.out HD0.out
    have l3 := cell_later HB.out HE1.out
    have n0 := World.new_ne U _ l0
    have n1 := World.new_ne U _ l1
    have n2 := World.new_ne U _ l2
    have n3 := World.new_ne U _ l3
    have HTI : Hid (Ints (U.alloc (.cells #[.int .i64 p, .int .i64 r] 3)) (.slice (some ⟨w.heap.size + 1 + 1 + 1, 0, none⟩) 2 2) [(p : Int), (r : Int)]) := by
      have := two_ints U p r
      rw [hs0] at this
      exact this
    have HTB : Hid (Ints ((U.alloc (.cells #[.slice none 0 0, .slice none 0 0] 28)).alloc (.cells #[.int .i64 p, .int .i64 r] 3)) (.slice (some ⟨w.heap.size + 1 + 1 + 1 + 1, 0, none⟩) 2 2) [(p : Int), (r : Int)]) := by
      have := two_ints (U.alloc (.cells #[.slice none 0 0, .slice none 0 0] 28)) p r
      rw [World.size_alloc, hs0] at this
      exact this
    have HZ1 : Hid (Box (U.alloc (.cells #[.slice none 0 0, .slice none 0 0] 28)) (w.heap.size + 1 + 1 + 1) (.slice none 0 0) (.slice none 0 0)) := by
      have := Box.new U (.slice none 0 0) (.slice none 0 0)
      rw [hs0] at this
      exact this
    have HZ2 : Hid (Box ((U.alloc (.cells #[.int .i64 p, .int .i64 r] 3)).alloc (.cells #[.slice none 0 0, .slice none 0 0] 28)) (w.heap.size + 1 + 1 + 1 + 1) (.slice none 0 0) (.slice none 0 0)) := by
      have := Box.new (U.alloc (.cells #[.int .i64 p, .int .i64 r] 3)) (.slice none 0 0) (.slice none 0 0)
      rw [World.size_alloc, hs0] at this
      exact this
    have q0 : w.heap.size + 1 + 1 + 1 ≠ w.heap.size := by omega
    have q1 : w.heap.size ≠ w.heap.size + 1 + 1 + 1 := by omega
    have q2 : w.heap.size + 1 + 1 + 1 ≠ w.heap.size + 1 := by omega
    have q3 : w.heap.size + 1 ≠ w.heap.size + 1 + 1 + 1 := by omega
    have q4 : w.heap.size + 1 + 1 + 1 ≠ db := by omega
    have q5 : db ≠ w.heap.size + 1 + 1 + 1 := by omega
    have q6 : w.heap.size + 1 + 1 + 1 ≠ eb := by omega
    have q7 : eb ≠ w.heap.size + 1 + 1 + 1 := by omega
    have q8 : w.heap.size + 1 + 1 + 1 + 1 ≠ w.heap.size := by omega
    have q9 : w.heap.size ≠ w.heap.size + 1 + 1 + 1 + 1 := by omega
    have q10 : w.heap.size + 1 + 1 + 1 + 1 ≠ w.heap.size + 1 := by omega
    have q11 : w.heap.size + 1 ≠ w.heap.size + 1 + 1 + 1 + 1 := by omega
    have q12 : w.heap.size + 1 + 1 + 1 + 1 ≠ db := by omega
    have q13 : db ≠ w.heap.size + 1 + 1 + 1 + 1 := by omega
    have q14 : w.heap.size + 1 + 1 + 1 + 1 ≠ eb := by omega
    have q15 : eb ≠ w.heap.size + 1 + 1 + 1 + 1 := by omega
    have q16 : w.heap.size ≠ w.heap.size + 1 + 1 := by omega
    have q17 : w.heap.size + 1 + 1 ≠ w.heap.size := by omega
    have q18 : w.heap.size ≠ w.heap.size + 1 + 1 + 1 := by omega
    have q19 : w.heap.size + 1 + 1 + 1 ≠ w.heap.size := by omega
    go_region_held3 (fun w' => w'.cell? ⟨w.heap.size, 0, none⟩ = some (.slice (some ⟨db, dof, none⟩) 2 dc) ∧ w'.cell? ⟨w.heap.size + 1, 0, none⟩ = some (.slice (some ⟨eb, eof, none⟩) 2 ec) ∧ w'.cell? ⟨db, dof, none⟩ = some (.int .i64 p) ∧ w'.cell? ⟨eb, eof + 1, none⟩ = some (.int .i64 r)) (go_keep)
      (first | (go_at_call 32; refine (rfill_own (d := [(p : Int), (r : Int)]) 0 ?_ HOK2.out).mono ?_; exact Ints.later (Below.refl _ _).drew HTI.out; rw [HPQ.out]; rintro e w6 ⟨x0, x1, rfl, ho, hb6⟩; obtain ⟨xa, xn, xc, rfl⟩ := ho.dims.ints.shape3; obtain ⟨ya, yn, yc, rfl⟩ := ho.data.ints.shape3; have HQ6 : Hid (Below U.heap.size U w6) := Below.after (Below.push (Below.refl _ _) _).drew hb6; have HO6 : Hid (OwnT w6 (w.heap.size + 1 + 1 + 1) (.slice xa xn xc) (.slice ya yn yc) ([(p : Int), (r : Int)], List.replicate N 0)) := ho.mono (by simp; omega); have a_0 := cell_later HQ6.out l0; have a_1 := cell_later HQ6.out l1; have a_2 := cell_later HQ6.out l2; have a_3 := cell_later HQ6.out l3; have hs6 := hb6.size; clear ho hb6) | (go_at_call 32; refine (rfill_own (d := [(p : Int), (r : Int)]) 0 ?_ HOK2.out).mono ?_; exact Ints.later (Below.refl _ _).drew HTB.out; rw [HPQ.out]; rintro e w6 ⟨x0, x1, rfl, ho, hb6⟩; obtain ⟨xa, xn, xc, rfl⟩ := ho.dims.ints.shape3; obtain ⟨ya, yn, yc, rfl⟩ := ho.data.ints.shape3; have HQ6 : Hid (Below U.heap.size U w6) := Below.after (Below.push (Below.push (Below.refl _ _) _) _).drew hb6; have HO6 : Hid (OwnT w6 (w.heap.size + 1 + 1 + 1 + 1) (.slice xa xn xc) (.slice ya yn yc) ([(p : Int), (r : Int)], List.replicate N 0)) := ho.mono (by simp; omega); have a_0 := cell_later HQ6.out l0; have a_1 := cell_later HQ6.out l1; have a_2 := cell_later HQ6.out l2; have a_3 := cell_later HQ6.out l3; have hs6 := hb6.size; have hz : Box w6 (w.heap.size + 1 + 1 + 1) (.slice none 0 0) (.slice none 0 0) := Box.later hb6 (HZ1.out.alloc _); have z0 := hz.c0; have z1 := hz.c1; have z2 := hz.f 0; have z3 := hz.f 1; have HZ : Hid (Box w6 (w.heap.size + 1 + 1 + 1) (.slice none 0 0) (.slice none 0 0)) := hz; clear hz; clear ho hb6) | (go_at_call 32; refine (rfill_own (d := [(p : Int), (r : Int)]) 0 ?_ HOK2.out).mono ?_; exact Ints.later (Below.refl _ _).drew (HTI.out.later (Below.push (Below.refl _ _) _)); rw [HPQ.out]; rintro e w6 ⟨x0, x1, rfl, ho, hb6⟩; obtain ⟨xa, xn, xc, rfl⟩ := ho.dims.ints.shape3; obtain ⟨ya, yn, yc, rfl⟩ := ho.data.ints.shape3; have HQ6 : Hid (Below U.heap.size U w6) := Below.after (Below.push (Below.push (Below.refl _ _) _) _).drew hb6; have HO6 : Hid (OwnT w6 (w.heap.size + 1 + 1 + 1 + 1 + 1) (.slice xa xn xc) (.slice ya yn yc) ([(p : Int), (r : Int)], List.replicate N 0)) := ho.mono (by simp; omega); have a_0 := cell_later HQ6.out l0; have a_1 := cell_later HQ6.out l1; have a_2 := cell_later HQ6.out l2; have a_3 := cell_later HQ6.out l3; have hs6 := hb6.size; have hz : Box w6 (w.heap.size + 1 + 1 + 1 + 1) (.slice none 0 0) (.slice none 0 0) := Box.later hb6 HZ2.out; have z0 := hz.c0; have z1 := hz.c1; have z2 := hz.f 0; have z3 := hz.f 1; have HZ : Hid (Box w6 (w.heap.size + 1 + 1 + 1 + 1) (.slice none 0 0) (.slice none 0 0)) := hz; clear hz; clear ho hb6))
    · have hsz := HQ6.out.size
      exact HK'.out _ _ (Met.intro (HJ.out _ _ ⟨_, _, _, ⟨rfl, rfl, rfl, rfl, rfl, rfl⟩, Box.new _ _ _, HO6.out.later (Below.push (Below.refl _ _) _), ⟨by omega, fun k hk => by have := HO6.out.data.lt k hk; omega⟩, Below.push HQ6.out _⟩))
    · exact HK'.out _ _ (Met.intro (HJ.out _ _ ⟨_, _, _, ⟨rfl, rfl, rfl, rfl, rfl, rfl⟩, HZ.out.set _ _, (HO6.out.set2 _ _ (by omega)).mono (by omega), ⟨by omega, fun k hk => by have := HO6.out.data.frm k hk; omega⟩, (HQ6.out.setCell (by simp; omega) _).setCell (by simp; omega) _⟩))
    · exact HK'.out _ _ (Met.intro (HJ.out _ _ ⟨_, _, _, ⟨rfl, rfl, rfl, rfl, rfl, rfl⟩, HZ.out.set _ _, (HO6.out.set2 _ _ (by omega)).mono (by omega), ⟨by omega, fun k hk => by have := HO6.out.data.frm k hk; omega⟩, (HQ6.out.setCell (by simp; omega) _).setCell (by simp; omega) _⟩))
end Go.Proofs.YtgnicnaiaijdcaaDoor
