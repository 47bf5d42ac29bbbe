/- GraphInfers. -/
import Derived.Test.YtjfkhfahpjdidaaGZ
import Derived.Test.YtjfkhfahpjdidaaS5a
import Derived.Test.YtjfkhfahpjdidaaQ8
import Derived.Test.YtjfkhfahpjdidaaS4
namespace Go.Proofs.Ytjfkhfahpjdidaa
set_option linter.unusedVariables false
set_option linter.unusedSimpArgs false
set_option maxRecDepth 100000
open Go.RowKit

theorem in_rin (k n : Int) (d : List Int) (L : List Nod) (A : List Int) : rinE k n d L A = inE k n d L A ∧ rinR k n d L A = inR k n d L A := by
  rw [inE, inR, rinE, rinR]
  cases h : argsB A L.length with
  | false => exact ⟨rfl, rfl⟩
  | true =>
    by_cases hm : may k n d (dimsAt L A) = true
    · obtain ⟨e1, e2⟩ := di_yes hm
      rw [hm, e1, e2]
      exact ⟨rfl, rfl⟩
    · obtain ⟨e1, e2⟩ := di_no hm
      have hm' : may k n d (dimsAt L A) = false := by simpa using hm
      rw [hm', e1, e2]
      exact ⟨rfl, rfl⟩
theorem inR_err {k n : Int} {d : List Int} {L : List Nod} {A : List Int} (h : ¬ inE k n d L A = 0) : inR k n d L A = [] := by
  obtain ⟨e1, e2⟩ := in_rin k n d L A
  rw [← e1] at h
  rw [← e2]
  rw [rinE] at h
  rw [rinR]
  split
  · rename_i hc
    rw [if_pos hc] at h
    split
    · rename_i ho
      rw [if_pos ho] at h
      exact absurd rfl h
    · rfl
  · rfl
theorem tmod_in (y : Int) (n : Nat) : -(n : Int) ≤ y.tmod ((n : Int) + 1) ∧ y.tmod ((n : Int) + 1) ≤ n := by
  have h1 := Int.tmod_lt_of_pos y (b := (n : Int) + 1) (by omega)
  have h2 := Int.lt_tmod_of_pos y (b := (n : Int) + 1) (by omega)
  omega
set_option maxRecDepth 1000000 in
set_option maxHeartbeats 64000000 in
theorem graphInfers8 {f0 f1 f2 : Value} {T : List (List Nod)} {N : List Int} {D : List (List Int)} {w : World} (h0 : NodesLL w f0 T) (h1 : Ints w f1 N) (h2 : IntsL w f2 D) (hnil : Nil0 f2) :
    Calls Try.prog 3 #[.agg #[f0, f1, f2]] w fun e w' => e = .returned (.bool true) ∧ Below w.heap.size w w' := by
  have H0 : Hid (NodesLL w f0 T) := h0
  have H1 : Hid (Ints w f1 N) := h1
  have H2 : Hid (IntsL w f2 D) := h2
  have HNIL : Hid (Nil0 f2) := hnil
  obtain ⟨hTb, a0, k0, rfl, hTc, hTr⟩ := h0
  obtain ⟨a1, n1, k1, rfl⟩ := h1.shape3
  obtain ⟨a2, n2, k2, rfl⟩ : ∃ a n c, f2 = .slice a n c := by obtain ⟨_, a, c, e, _⟩ := h2; exact ⟨a, _, c, e⟩
  unfold big at hTb
  obtain ⟨i3, hi, hz0, hz1, hz2⟩ := info3
  have HI : Hid (Try.prog.info? 3 = some i3) := hi
  have HZ0 : Hid (i3.zero = some (.int .i64 0)) := hz0
  have HZ1 : Hid (i3.size = 1) := hz1
  have HZ2 : Hid (i3.bytes = 8) := hz2
  obtain ⟨U, hU⟩ : ∃ U, U = w.alloc (.cells #[.slice a0 T.length k0, .slice a1 n1 k1, .slice a2 n2 k2] 26) := ⟨_, rfl⟩
  have HUU : Hid (U = w.alloc (.cells #[.slice a0 T.length k0, .slice a1 n1 k1, .slice a2 n2 k2] 26)) := hU
  have hb : Below w.heap.size w U := by rw [hU]; exact Below.push (Below.refl _ _) _
  have HB : Hid (Below w.heap.size w U) := hb
  have HU0 : Hid (U.cell? ⟨w.heap.size, 0, none⟩ = some (.slice a0 T.length k0)) := by show _ = _; rw [hU]; simp
  have HU1 : Hid (U.cell? ⟨w.heap.size, 1, none⟩ = some (.slice a1 n1 k1)) := by show _ = _; rw [hU]; simp
  have HU2 : Hid (U.cell? ⟨w.heap.size, 2, none⟩ = some (.slice a2 n2 k2)) := by show _ = _; rw [hU]; simp
  have HT0 : Hid (NodesLL U (.slice a0 T.length k0) T) := H0.out.later hb
  obtain ⟨bh, hbh⟩ : ∃ bh, decide (1200 < hv T N D) = bh := ⟨_, rfl⟩
  have HBH : Hid (decide (1200 < hv T N D) = bh) := hbh
  clear h1 h2 hb hTr hU hbh hnil hi hz0 hz1 hz2
  cases bh with
  | true =>
    go_enter Try.func3, Try.ntmps3
    go_wp2_with fail
    rw [← HUU.out]
    refine (heavy8_any (H0.out.later HB.out) (H1.out.later HB.out) (H2.out.later HB.out) true HBH.out).mono ?_
    rintro e w1 ⟨rfl, hb1⟩
    have HB1 : Hid (Below w.heap.size w w1) := Below.after HB.out hb1
    clear hb1
    go_wp2
    go_ret
    exact ⟨rfl, HB1.out⟩
  | false =>
    have HLI : Hid (Light T N D) := hv_light (by have := of_decide_eq_false HBH.out; omega)
    go_enter Try.func3, Try.ntmps3
    go_wp2_with fail
    rw [← HUU.out]
    refine (heavy8_any (H0.out.later HB.out) (H1.out.later HB.out) (H2.out.later HB.out) false HBH.out).mono ?_
    rintro e w1 ⟨rfl, hb1⟩
    have HB1 : Hid (Below w.heap.size w w1) := Below.after HB.out hb1
    have HT1 : Hid (NodesLL w1 (.slice a0 T.length k0) T) := HT0.out.later hb1
    have HN1 : Hid (Ints w1 (.slice a1 n1 k1) N) := (H1.out.later HB.out).later hb1
    have HD1 : Hid (IntsL w1 (.slice a2 n2 k2) D) := (H2.out.later HB.out).later hb1
    have HC0 : Hid (w1.cell? ⟨w.heap.size, 0, none⟩ = some (.slice a0 T.length k0)) := cell_later hb1 HU0.out
    have HC1 : Hid (w1.cell? ⟨w.heap.size, 1, none⟩ = some (.slice a1 n1 k1)) := cell_later hb1 HU1.out
    have HC2 : Hid (w1.cell? ⟨w.heap.size, 2, none⟩ = some (.slice a2 n2 k2)) := cell_later hb1 HU2.out
    clear hb1
    have HS : Hid ((w1.alloc (.cells #[.int .i64 0, .int .i64 2, .int .i64 5] 3)).ownsRow w1.heap.size 3 1 (.slice (some ⟨w1.heap.size, 0, none⟩) 3 3) 3 ([0, 2, 5].map (Value.int .i64))) := ((Blk.new w1 [0, 2, 5]).own (Nat.le_refl _) rfl (by simp [big])).row
    have HP1 : Hid (Below w1.heap.size w1 (w1.alloc (.cells #[.int .i64 0, .int .i64 2, .int .i64 5] 3))) := Below.push (Below.refl _ _) _
    have hc1 := cell_later HP1.out HC1.out
    go_wp2_with (at_builtin; refine wpList_app_ints _ rfl _ _ rfl w1.heap.size [0, 2, 5] N _ _ 3 rfl rfl HS.out rfl (HN1.out.later HP1.out) ?e1 ?e2 ?_)
    case e1 => exact HP1.out.size
    case e2 => have := HLI.out.n; simp; omega
    intro na nn nc w2 ho hb2
    have HB2 : Hid (Below w1.heap.size w1 w2) := HP1.out.trans hb2
    obtain ⟨NS, hNS⟩ : ∃ NS : List Int, 0 :: 2 :: 5 :: N = NS := ⟨_, rfl⟩
    have hnl : 3 ≤ NS.length ∧ NS.length ≤ 1203 := by have := HLI.out.n; rw [← hNS]; simp; omega
    have hoi : Ints w2 (.slice na nn nc) (0 :: 2 :: 5 :: N) := ho.ints
    rw [hNS] at hoi
    obtain ⟨nb, no, rfl, rfl, hnc⟩ := hoi.addr (by omega)
    have HNC2 : Hid (∀ i (h : i < NS.length), w2.cell? ⟨nb, no + i, none⟩ = some (.int .i64 NS[i])) := hnc
    have HD2 : Hid (IntsL w2 (.slice a2 n2 k2) D) := HD1.out.later HB2.out
    have HP2 : Hid (Below w2.heap.size w2 ((w2.alloc (.cells #[.int .i64 2, .int .i64 2] 3)).alloc (.cells #[.slice none 0 0, .slice (some ⟨w2.heap.size, 0, none⟩) 2 2] 23))) := Below.push (Below.push (Below.refl _ _) _) _
    have HR : Hid (Row _ _ _ _ _) := lit22_row w2
    have hc2 := cell_later HP2.out (cell_later HB2.out HC2.out)
    clear hc1 ho hb2 hoi hnc
    go_wp2_with (at_builtin; refine wpList_app_lists _ rfl _ _ rfl w2.heap.size [[], [2, 2]] D _ _ _ 2 rfl rfl HR.out rfl w2 HD2.out HNIL.out HP2.out rfl ?e3 ?_)
    case e3 => have := HLI.out.d; simp; omega
    intro da dn dc w3 hds hb3
    have HB3 : Hid (Below w2.heap.size w2 w3) := HP2.out.trans hb3
    obtain ⟨DS, hDS⟩ : ∃ DS : List (List Int), [] :: [2, 2] :: D = DS := ⟨_, rfl⟩
    have hdl : 2 ≤ DS.length ∧ DS.length ≤ 1202 := by have := HLI.out.d; rw [← hDS]; simp; omega
    have hds' : IntsL w3 (.slice da dn dc) ([] :: [2, 2] :: D) := hds
    rw [hDS] at hds'
    obtain ⟨db, dO, rfl, rfl, hdc⟩ := hds'.addr (by omega)
    have HDC : Hid (∀ i (h : i < DS.length), ∃ x, w3.cell? ⟨db, dO + i, none⟩ = some x ∧ Ints w3 x DS[i]) := hdc
    have HNC : Hid (∀ i (h : i < NS.length), w3.cell? ⟨nb, no + i, none⟩ = some (.int .i64 NS[i])) := fun i h => cell_later HB3.out (HNC2.out i h)
    have HC3 : Hid (w3.cell? ⟨w.heap.size, 0, none⟩ = some (.slice a0 T.length k0)) := cell_later HB3.out (cell_later HB2.out HC0.out)
    have HT3 : Hid (NodesLL w3 (.slice a0 T.length k0) T) := (HT1.out.later HB2.out).later HB3.out
    have HBW : Hid (Below w.heap.size w w3) := Below.after (Below.after HB1.out HB2.out) HB3.out
    obtain ⟨hn3, hn1203⟩ := hnl
    obtain ⟨hd2, hd1202⟩ := hdl
    clear hc2 hds hds' hb3 hdc hNS hDS
    clear HR HS
    go_wp2
    go_loopw [5] (fun i w' => ∃ k : Nat, k ≤ T.length ∧ k ≤ 5 ∧ i = .int .i64 k ∧ Hid (Below w3.heap.size w3 w')) (fun i _ => 5 - (intOf i).toNat)
    case atStart => exact ⟨0, Nat.zero_le _, by omega, rfl, Below.refl _ _⟩
    case round =>
      obtain ⟨i, hi, hi5, rfl, HBR⟩ := hrel
      have c0 := cell_later HBR.out HC3.out
      by_cases hlt : i < T.length ∧ i < 5
      case neg =>
        have HV1 : Hid (Ints (wr.alloc (.cells #[.int .i64 1] 3)) (.slice (some ⟨wr.heap.size, 0, none⟩) 1 1) [1]) := (Blk.new wr [1]).ints 1 1 rfl (Nat.le_refl _) (by decide)
        have HB8 : Hid (Below w.heap.size w (wr.alloc (.cells #[.int .i64 1] 3))) := Below.after HBW.out (Below.push HBR.out _)
        by_cases hlt1 : i < T.length
        · have h5 : i = 5 := by omega
          subst h5
          have g1 : ((5 : Nat) : Int) < T.length := by omega
          clear hlt
          go_wp2_with (first
            | (go_at_call 12; refine (rdims_to true HV1.out (by decide)).mono ?_; rintro e w8 ⟨rfl, rfl⟩)
            | (go_at_call 13; refine (wakes8 faces8 _).mono ?_; rintro e w9 ⟨rfl, hb9⟩; have HB9 : Hid (Below w.heap.size w w9) := Below.after HB8.out hb9; clear hb9))
          go_ret
          exact ⟨rfl, HB9.out⟩
        · have g1 : ¬ (i : Int) < T.length := by omega
          clear hlt
          go_wp2_with (first
            | (go_at_call 12; refine (rdims_to true HV1.out (by decide)).mono ?_; rintro e w8 ⟨rfl, rfl⟩)
            | (go_at_call 13; refine (wakes8 faces8 _).mono ?_; rintro e w9 ⟨rfl, hb9⟩; have HB9 : Hid (Below w.heap.size w w9) := Below.after HB8.out hb9; clear hb9))
          go_ret
          exact ⟨rfl, HB9.out⟩
      case pos =>
      obtain ⟨hlt1, hlt5⟩ := hlt
      obtain ⟨b, off, x, rfl, hc, hnl⟩ := (HT3.out.later HBR.out).row i hlt1
      have HNL : Hid (NodesL wr x T[i]) := hnl
      have HSM : Hid (Small T[i]) := light_small HLI.out i hlt1
      obtain ⟨la, lc, rfl, hlc, hlb⟩ := hnl.shape
      have g1 : (i : Int) < T.length := by omega
      have g5 : (i : Int) < 5 := by omega
      generalize T[i] = L at HNL HSM hc hlc
      clear hlb
      have HAR : Hid (∀ t ∈ L, t.args.length ≤ 100000000) := fun t ht => by
        obtain ⟨i, hi, rfl⟩ := List.getElem_of_mem ht
        have := HSM.out.a i hi
        omega
      obtain ⟨q, hq⟩ : ∃ q, nodesB L = q := ⟨_, rfl⟩
      have HQ : Hid (nodesB L = q) := hq
      have hLn := HSM.out.n
      clear hnl hq
      go_wp2_with fail
      refine (rnodes_any HNL.out HAR.out q HQ.out).mono ?_
      rintro e w4 ⟨rfl, hb4⟩
      have HB4 : Hid (Below w3.heap.size w3 w4) := Below.after HBR.out hb4
      have HN4 : Hid (NodesL w4 (.slice la L.length lc) L) := HNL.out.later hb4
      clear hb4 hc c0
      go_wp2
      go_loopw [8] (fun v w' => ∃ kd : Nat, kd ≤ 19 ∧ v = .int .i64 kd ∧ Hid (Below w4.heap.size w4 w')) (fun v _ => 19 - (intOf v).toNat)
      case atStart => exact ⟨0, Nat.zero_le _, rfl, Below.refl _ _⟩
      case round =>
        obtain ⟨kd, hkd, rfl, HBK⟩ := hrel
        by_cases hlk : kd < 19
        · have gk : (kd : Int) ≤ 18 := by omega
          go_wp2
          go_loopw [9] (fun v w' => ∃ k : Nat, k ≤ 8 ∧ v = .int .i64 k ∧ Hid (Below w4.heap.size w4 w')) (fun v _ => 8 - (intOf v).toNat)
          case atStart => exact ⟨0, Nat.zero_le _, rfl, HBK.out⟩
          case round =>
            obtain ⟨k, hk, rfl, HBL⟩ := hrel
            by_cases hl8 : k < 8
            · have g8 : (k : Int) < 8 := by omega
              obtain ⟨p, hp⟩ : ∃ p, (k + kd) % NS.length = p := ⟨_, rfl⟩
              obtain ⟨s, hs⟩ : ∃ s, (k + i) % DS.length = s := ⟨_, rfl⟩
              have hpl : p < NS.length := by rw [← hp]; exact Nat.mod_lt _ (by omega)
              have hsl : s < DS.length := by rw [← hs]; exact Nat.mod_lt _ (by omega)
              have l1 := cell_later (Below.after HB4.out HBL.out) (HNC.out p hpl)
              obtain ⟨x, hx, hix⟩ := HDC.out s hsl
              have l2 := cell_later (Below.after HB4.out HBL.out) hx
              have HX : Hid (Ints wr x DS[s]) := hix.later (Below.after HB4.out HBL.out)
              obtain ⟨xa, xn, xc, rfl⟩ := hix.shape3
              obtain ⟨y, hy⟩ : ∃ y, NS[p] = y := ⟨_, rfl⟩
              rw [hy] at l1
              generalize DS[s] = dd at HX
              have q0 : ¬ NS.length = 0 := by omega
              have q1 : ¬ (NS.length : Int) = 0 := by omega
              have q2 : IntKind.i64.wrap ((k : Int) + (kd : Int)) = (k : Int) + (kd : Int) := wrap_small _ (by omega) (by omega)
              have q3 : ((k : Int) + (kd : Int)).tmod (NS.length : Int) = (p : Int) := by rw [← hp, ← Int.natCast_add]; rfl
              have q5 : IntKind.i64.wrap (p : Int) = (p : Int) := wrap_small _ (by omega) (by omega)
              have q4 : IntKind.i64.wrap (((k : Int) + (kd : Int)).tmod (NS.length : Int)) = (p : Int) := by rw [q3, q5]
              have r0 : ¬ DS.length = 0 := by omega
              have r1 : ¬ (DS.length : Int) = 0 := by omega
              have r2 : IntKind.i64.wrap ((k : Int) + (i : Int)) = (k : Int) + (i : Int) := wrap_small _ (by omega) (by omega)
              have r3 : ((k : Int) + (i : Int)).tmod (DS.length : Int) = (s : Int) := by rw [← hs, ← Int.natCast_add]; rfl
              have r5 : IntKind.i64.wrap (s : Int) = (s : Int) := wrap_small _ (by omega) (by omega)
              have r4 : IntKind.i64.wrap (((k : Int) + (i : Int)).tmod (DS.length : Int)) = (s : Int) := by rw [r3, r5]
              have z0 : (0 : Int) ≤ (p : Int) := by omega
              have z1 : (p : Int) < NS.length := by omega
              have z2 : (0 : Int) ≤ (s : Int) := by omega
              have z3 : (s : Int) < DS.length := by omega
              clear hp hs hx hix hy
              go_wp2_with fail
              go_region_held3 (fun w' => w'.cell? ⟨nb, no + p, none⟩ = some (.int .i64 y) ∧ w'.cell? ⟨db, dO + s, none⟩ = some (.slice xa xn xc)) (refine ⟨?_, ?_⟩ <;> first | assumption | go_keep) (fail)
              have HBX0 : Hid (Below w4.heap.size w4 wr.drew) := HBL.out.drew
              have HXD0 : Hid (Ints wr.drew (.slice xa xn xc) dd) := HX.out.later (Below.refl _ _).drew
              obtain ⟨X, hX⟩ : ∃ X, wr.drew = X := ⟨_, rfl⟩
              rw [hX] at HBX0 HXD0
              have HBX : Hid (Below w4.heap.size w4 X) := HBX0
              have HXD : Hid (Ints X (.slice xa xn xc) dd) := HXD0
              rw [hX]
              obtain ⟨t, ht⟩ : ∃ t, k % 3 = t := ⟨_, rfl⟩
              have tm : (k : Int).tmod 3 = (t : Int) := by
                have h : (k : Int).tmod ((3 : Nat) : Int) = ((k % 3 : Nat) : Int) := rfl
                rw [ht] at h
                exact h
              have ht2 : t ≤ 2 := by omega
              clear q0 q1 q2 q3 q4 q5 r0 r1 r2 r3 r4 r5 z0 z1 z2 z3 l1 l2 hX HBX0 HXD0 hpl hsl ht
              go_wp2
              go_loopw [12, 13] (fun v jv w' => ∃ (A : List Int) (j : Nat), A.length = j ∧ j ≤ 2 ∧ jv = .int .i64 j ∧ Hid (Own w' X.heap.size v A) ∧ Hid (Below X.heap.size X w')) (fun _ jv _ => 3 - (intOf jv).toNat)
              case atStart => exact ⟨[], 0, rfl, by omega, rfl, Own.nil _ _, Below.refl _ _⟩
              case round =>
                obtain ⟨A, j, hAj, hj2, rfl, HO, HBA⟩ := hrel
                by_cases hjt : j < t
                · have gj : (j : Int) < t := by omega
                  obtain ⟨p, hp⟩ : ∃ p, (k + j) % NS.length = p := ⟨_, rfl⟩
                  have hpl : p < NS.length := by rw [← hp]; exact Nat.mod_lt _ (by omega)
                  have l1 := cell_later (Below.after (Below.after HB4.out HBX.out) HBA.out) (HNC.out p hpl)
                  obtain ⟨y2, hy2⟩ : ∃ y, NS[p] = y := ⟨_, rfl⟩
                  rw [hy2] at l1
                  have q0 : ¬ NS.length = 0 := by omega
                  have q1 : ¬ (NS.length : Int) = 0 := by omega
                  have q2 : IntKind.i64.wrap ((k : Int) + (j : Int)) = (k : Int) + (j : Int) := wrap_small _ (by omega) (by omega)
                  have q3 : ((k : Int) + (j : Int)).tmod (NS.length : Int) = (p : Int) := by rw [← hp, ← Int.natCast_add]; rfl
                  have q5 : IntKind.i64.wrap (p : Int) = (p : Int) := wrap_small _ (by omega) (by omega)
                  have z1 : (p : Int) < NS.length := by omega
                  have gL : IntKind.i64.wrap ((L.length : Int) + 1) = (L.length : Int) + 1 := wrap_small _ (by omega) (by omega)
                  have s1 : ¬ (L.length : Int) + 1 = 0 := by omega
                  obtain ⟨z, hz⟩ : ∃ z, y2.tmod ((L.length : Int) + 1) = z := ⟨_, rfl⟩
                  have hzb := tmod_in y2 L.length
                  rw [hz] at hzb
                  have hzw : IntKind.i64.wrap z = z := by simp [IntKind.wrap, IntKind.signed, IntKind.bits]; omega
                  have hsz : X.heap.size ≤ wr.heap.size := HBA.out.size
                  have HAJ : Hid (A.length = j) := hAj
                  clear hp hy2 hzb
                  go_wp2_with (at_builtin; refine wpList_append_own _ rfl _ _ 23 rfl X.heap.size 3 i3 (.int .i64 0) 1 8 Try.underlying23 HI.out HZ0.out HZ1.out HZ2.out rfl (by decide) _ _ _ rfl (HO.out.row.alloc _) ⟨wr.heap.size, 0, none⟩ 1 1 [.int .i64 z] rfl rfl ?c1 ?c2 ?c3 ?c4 ?c5 ?_)
                  case c1 => exact cell_one_new _ _ _
                  case c2 => intro u hu; simp at hu; subst hu; rfl
                  case c3 => unfold maxLen; omega
                  case c4 => omega
                  case c5 => simp; omega
                  intro v1 w5 ho hg _
                  have HO1 : Hid (Own w5 X.heap.size v1 (A ++ [z])) := by
                    refine ⟨?_, ?_⟩
                    · rw [List.length_append, List.map_append, HAJ.out]
                      exact ho
                    · rw [List.length_append, HAJ.out]
                      unfold big
                      simp
                      omega
                  have HB1 : Hid (Below X.heap.size X w5) := (HBA.out.alloc hsz _).grown hg (by simp; omega) (fun q hq => (HO.out.row.lt q hq).1)
                  clear ho hg
                  go_wp2
                  go_roundw
                  case rel => exact ⟨A ++ [z], j + 1, by rw [List.length_append, HAJ.out]; rfl, by omega, by go_num, HO1.out, HB1.out⟩
                  case measure => simp [intOf]; omega
                · have gj : ¬ (j : Int) < t := by omega
                  have HA : Hid (Ints wr u12 A) := HO.out.ints
                  have hA2 : A.length ≤ 2 := by omega
                  have HAL : Hid (A.length ≤ 100000000) := by show _ ≤ _; omega
                  obtain ⟨aa, an, ac, rfl⟩ := HO.out.ints.shape3
                  have HBT : Hid (Below w4.heap.size w4 wr) := Below.after HBX.out HBA.out
                  have HNW : Hid (NodesL wr (.slice la L.length lc) L) := HN4.out.later HBT.out
                  have HXW : Hid (Ints wr (.slice xa xn xc) dd) := HXD.out.later HBA.out
                  obtain ⟨E, hE⟩ : ∃ E, inE (kd : Int) y dd L A = E := ⟨_, rfl⟩
                  have HE : Hid (inE (kd : Int) y dd L A = E) := hE
                  obtain ⟨R, hR⟩ : ∃ R, inR (kd : Int) y dd L A = R := ⟨_, rfl⟩
                  have HR : Hid (inR (kd : Int) y dd L A = R) := hR
                  clear hE hR
                  cases q with
                  | false =>
                    go_wp2_with fail
                    refine (infer8_any (kd : Int) y HNW.out HSM.out HXW.out HA.out HAL.out false HQ.out E R HE.out HR.out).mono ?_
                    rintro e w5 ⟨x5, rfl, ho5, hb5⟩
                    have HX5 : Hid (Ints w5 x5 []) := ho5.ints
                    have HB5 : Hid (Below w4.heap.size w4 w5) := Below.after HBT.out hb5
                    obtain ⟨s5, n5, c5, rfl⟩ := ho5.ints.shape3
                    clear ho5 hb5
                    go_wp2_with (first
                      | (go_at_call 10; refine (num8 _ _).mono ?_; rintro e w6 ⟨rfl, rfl⟩)
                      | (go_at_call 11; refine (eqn_to true HX5.out (Ints.nil _) (by simp)).mono ?_; rintro e w6 ⟨rfl, m6, rfl⟩))
                    go_roundw
                    case rel => exact ⟨k + 1, by omega, by go_num, Below.drewN HB5.out _⟩
                    case measure => simp [intOf]; omega
                  | true =>
                    go_wp2_with fail
                    refine (infer8_any (kd : Int) y HNW.out HSM.out HXW.out HA.out HAL.out true HQ.out E R HE.out HR.out).mono ?_
                    rintro e w5 ⟨x5, rfl, ho5, hb5⟩
                    have HX5 : Hid (Ints w5 x5 R) := ho5.ints
                    have HB5 : Hid (Below w4.heap.size w4 w5) := Below.after HBT.out hb5
                    have HNW5 : Hid (NodesL w5 (.slice la L.length lc) L) := HNW.out.later hb5
                    have HXW5 : Hid (Ints w5 (.slice xa xn xc) dd) := HXW.out.later hb5
                    have HA5 : Hid (Ints w5 (.slice aa an ac) A) := HA.out.later hb5
                    obtain ⟨s5, n5, c5, rfl⟩ := ho5.ints.shape3
                    clear ho5 hb5
                    go_wp2_with fail
                    refine (rinfer_any (kd : Int) y HNW5.out HXW5.out HA5.out HAL.out).mono ?_
                    rw [(in_rin (kd : Int) y dd L A).1, (in_rin (kd : Int) y dd L A).2, HE.out, HR.out]
                    rintro e w6 ⟨x6, rfl, ho6, hb6⟩
                    have HX6 : Hid (Ints w6 x6 R) := ho6.ints
                    have HX56 : Hid (Ints w6 (.slice s5 n5 c5) R) := HX5.out.later hb6
                    have HB6 : Hid (Below w4.heap.size w4 w6) := Below.after HB5.out hb6
                    obtain ⟨s6, n6, c6, rfl⟩ := ho6.ints.shape3
                    clear ho6 hb6
                    by_cases hE0 : E = 0
                    · subst hE0
                      go_wp2_with (first
                        | (go_at_call 10; refine (num8 _ _).mono ?_; rintro e w7 ⟨rfl, rfl⟩)
                        | (go_at_call 11; refine (eqn_to true HX56.out HX6.out (by simp)).mono ?_; rintro e w7 ⟨rfl, m7, rfl⟩))
                      go_roundw
                      case rel => exact ⟨k + 1, by omega, by go_num, Below.drewN HB6.out _⟩
                      case measure => simp [intOf]; omega
                    · have hb : (E != 0) = true := by rw [bne_iff_ne]; exact hE0
                      have HRN : Hid (R = []) := by show _ = _; rw [← HR.out]; exact inR_err (by rw [HE.out]; exact hE0)
                      have HXN : Hid (Ints w6 (.slice s5 n5 c5) []) := by show Ints _ _ _; rw [← HRN.out]; exact HX56.out
                      clear hE0
                      go_wp2_with (first
                        | (go_at_call 10; refine (num8 _ _).mono ?_; rintro e w7 ⟨rfl, rfl⟩)
                        | (go_at_call 11; refine (eqn_to true HXN.out (Ints.nil _) (by simp)).mono ?_; rintro e w7 ⟨rfl, m7, rfl⟩))
                      go_roundw
                      case rel => exact ⟨k + 1, by omega, by go_num, Below.drewN HB6.out _⟩
                      case measure => simp [intOf]; omega
            · have g8 : ¬ (k : Int) < 8 := by omega
              go_wp2
              go_roundw
              case rel => exact ⟨kd + 1, by omega, by go_num, HBL.out⟩
              case measure => simp [intOf]; omega
        · have gk : ¬ (kd : Int) ≤ 18 := by omega
          go_wp2
          go_roundw
          case rel => exact ⟨i + 1, by omega, by omega, by go_num, Below.after HB4.out HBK.out⟩
          case measure => simp [intOf]; omega
end Go.Proofs.Ytjfkhfahpjdidaa
