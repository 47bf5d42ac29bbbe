/- Contract: the page's Turn. -/
import Derived.Test.YtgedknmjenbacaaQ1
namespace Go.Proofs.Ytgedknmjenbacaa
set_option linter.unusedVariables false
set_option linter.unusedSimpArgs false
open Go.RowKit

set_option maxRecDepth 100000 in
theorem lit56 (g : Nat → Value) : (g 0 :: g 1 :: g 2 :: g 3 :: g 4 :: g 5 :: g 6 :: g 7 :: g 8 :: g 9 :: g 10 :: g 11 :: g 12 :: g 13 :: g 14 :: g 15 :: g 16 :: g 17 :: g 18 :: g 19 :: g 20 :: g 21 :: g 22 :: g 23 :: g 24 :: g 25 :: g 26 :: g 27 :: g 28 :: g 29 :: g 30 :: g 31 :: g 32 :: g 33 :: g 34 :: g 35 :: g 36 :: g 37 :: g 38 :: g 39 :: g 40 :: g 41 :: g 42 :: g 43 :: g 44 :: g 45 :: g 46 :: g 47 :: g 48 :: g 49 :: g 50 :: g 51 :: g 52 :: g 53 :: g 54 :: g 55 :: []).toArray = ((List.range 56).map g).toArray := by rfl
set_option maxRecDepth 100000 in
theorem act56 (a : Act) (hd : a.defers = []) (hs : a.tmps.size = 56) : ∃ g : Nat → Value, (∀ i, a.tmps.getD i undef = g i) ∧ a = { tmps := (g 0 :: g 1 :: g 2 :: g 3 :: g 4 :: g 5 :: g 6 :: g 7 :: g 8 :: g 9 :: g 10 :: g 11 :: g 12 :: g 13 :: g 14 :: g 15 :: g 16 :: g 17 :: g 18 :: g 19 :: g 20 :: g 21 :: g 22 :: g 23 :: g 24 :: g 25 :: g 26 :: g 27 :: g 28 :: g 29 :: g 30 :: g 31 :: g 32 :: g 33 :: g 34 :: g 35 :: g 36 :: g 37 :: g 38 :: g 39 :: g 40 :: g 41 :: g 42 :: g 43 :: g 44 :: g 45 :: g 46 :: g 47 :: g 48 :: g 49 :: g 50 :: g 51 :: g 52 :: g 53 :: g 54 :: g 55 :: []).toArray, defers := [] } := by
  refine ⟨fun i => a.tmps.getD i undef, fun _ => rfl, ?_⟩
  have h := lit56 (fun i => a.tmps.getD i undef)
  have e : a.tmps = ((List.range 56).map (fun i => a.tmps.getD i undef)).toArray := by
    apply Array.ext
    · simp [hs]
    · intro i h1 h2
      simp [h1]
  exact (show a = Act.mk a.tmps a.defers from rfl).trans (by rw [hd]; exact congrArg (fun t => Act.mk t []) (e.trans h.symm))

theorem tinv_ik {p q i k : Nat} (hk : k < q) : tinv q p (i * q + k) = k * p + i := by
  unfold tinv
  rw [Nat.add_comm (i * q) k, Nat.add_mul_mod_self_right, Nat.mod_eq_of_lt hk, Nat.add_mul_div_right _ _ (by omega), Nat.div_eq_of_lt hk, Nat.zero_add]

structure FrQ (B : Nat) (Bt : Nat) (a : Act) : Prop where
  d : a.defers = []
  s : a.tmps.size = 56
  f1 : a.tmps.getD 1 undef = .pointer (some ⟨B, 0, none⟩)
  f2 : a.tmps.getD 2 undef = .pointer (some ⟨B + 1, 0, none⟩)
  f3 : a.tmps.getD 3 undef = .pointer (some ⟨Bt, 0, none⟩)

set_option maxRecDepth 100000 in
set_option maxHeartbeats 4000000 in
theorem rturn_ok {a0 a1 : Value} {p q : Nat} {l : List Int} {w : World} (ha : Tens w a0 a1 ([(p : Int), (q : Int)], l)) (hx : tok ([(p : Int), (q : Int)], l) = true) :
    Calls Try.prog 10 #[.agg #[a0, a1]] w fun e w' => ∃ x0 x1, e = .returned (.agg #[x0, x1]) ∧ OwnT w' w.heap.size x0 x1 ([(q : Int), (p : Int)], tns p q l) ∧ Below w.heap.size w w' := by
  have hok : okd [(p : Int), (q : Int)] = true := tok_okd hx
  obtain ⟨hp1, hp8, hq1, hq8⟩ := okd2 hok
  have hok2 : okd [(q : Int), (p : Int)] = true := okd2_mk ⟨hq1, hq8, hp1, hp8⟩
  obtain ⟨N, hN⟩ : ∃ N, p * q = N := ⟨_, rfl⟩
  have hl : l.length = N := by
    have h := tok_len hx
    have : prd [(p : Int), (q : Int)] = ((p * q : Nat) : Int) := by simp [prd]
    rw [this, hN] at h
    exact Int.ofNat.inj h
  have hpq : (prd [(q : Int), (p : Int)]).toNat = N := by
    have : prd [(q : Int), (p : Int)] = ((q * p : Nat) : Int) := by simp [prd]
    rw [this, Int.toNat_natCast, Nat.mul_comm, hN]
  obtain ⟨hn1, hn64⟩ := tok_pos hx
  simp only at hn1 hn64
  rw [hl] at hn1 hn64
  have HN : Hid (p * q = N) := hN
  have HPQ : Hid ((prd [(q : Int), (p : Int)]).toNat = N) := hpq
  have HOK2 : Hid (okd [(q : Int), (p : Int)] = true) := hok2
  have hb : Below w.heap.size w ((w.alloc (.cells #[a0, a1] 31)).alloc (.cells #[.slice none 0 0, .slice none 0 0] 31)) := ((Below.refl _ _).alloc (Nat.le_refl _) _).alloc (by simp) _
  have HB : Hid (Below w.heap.size w ((w.alloc (.cells #[a0, a1] 31)).alloc (.cells #[.slice none 0 0, .slice none 0 0] 31))) := hb
  have HBA : Hid (Box ((w.alloc (.cells #[a0, a1] 31)).alloc (.cells #[.slice none 0 0, .slice none 0 0] 31)) w.heap.size a0 a1) := (Box.new w a0 a1).alloc _
  have HBX : Hid (Box ((w.alloc (.cells #[a0, a1] 31)).alloc (.cells #[.slice none 0 0, .slice none 0 0] 31)) (w.heap.size + 1) (.slice none 0 0) (.slice none 0 0)) := by
    have := Box.new (w.alloc (.cells #[a0, a1] 31)) (.slice none 0 0) (.slice none 0 0)
    simp only [World.size_alloc] at this
    exact this
  have HL : Hid (l.length = N) := hl
  rcases ha.2.cases with ⟨e, _⟩ | ⟨ab, ao, ac, ea, hab0, ha1, _, HCA⟩
  · simp only at e; rw [e] at hl; simp at hl; omega
  simp only at HCA hab0 ha1 ea
  have hab : ab < w.heap.size := World.block_lt_of_cell? _ _ (HCA.out 0 hab0)
  have HCD : Hid (∀ i, i < N → w.cell? ⟨ab, ao + i, none⟩ = some (.int .i64 (l.getD i 0))) := fun i hi => Ints.cellD (n := 0) (c := 0) HCA i (by rw [hl]; exact hi)
  rw [hl] at ea ha1
  subst ea
  obtain ⟨db, dof, dc, ed, hdc, hd0, hd1⟩ : ∃ b off c, a0 = .slice (some ⟨b, off, none⟩) 2 c ∧ 2 ≤ c ∧ w.cell? ⟨b, off + 0, none⟩ = some (.int .i64 p) ∧ w.cell? ⟨b, off + 1, none⟩ = some (.int .i64 q) := by
    rcases ha.1.cases with ⟨e, _⟩ | ⟨b, off, c, e, h0, h1, h2, HC⟩
    · cases e
    · exact ⟨b, off, c, e, h1, HC.out 0 (by simp), HC.out 1 (by simp)⟩
  subst ed
  have hdb : db < w.heap.size := World.block_lt_of_cell? _ _ hd0
  have HE0 : Hid (w.cell? ⟨db, dof, none⟩ = some (.int .i64 p)) := hd0
  have HE1 : Hid (w.cell? ⟨db, dof + 1, none⟩ = some (.int .i64 q)) := hd1
  have hs0 : ((w.alloc (.cells #[.slice (some ⟨db, dof, none⟩) 2 dc, .slice (some ⟨ab, ao, none⟩) N ac] 31)).alloc (.cells #[.slice none 0 0, .slice none 0 0] 31)).heap.size = w.heap.size + 1 + 1 := by simp
  clear ha hb hx hok hok2 hN hl hpq hab0 HCA hd0 hd1
  go_enter Try.func10, Try.ntmps10
  go_wp2_with fail
  generalize ((w.alloc (.cells #[.slice (some ⟨db, dof, none⟩) 2 dc, .slice (some ⟨ab, ao, none⟩) N ac] 31)).alloc (.cells #[.slice none 0 0, .slice none 0 0] 31)) = U at HB HBA HBX hs0 ⊢
  refine wp_cut (fun a' w' => ∃ Bt x0 x1, FrQ w.heap.size Bt a' ∧ Box w' Bt x0 x1 ∧ OwnT w' (w.heap.size + 1 + 1) x0 x1 ([(q : Int), (p : Int)], List.replicate N 0) ∧ (w.heap.size + 1 + 1 ≤ Bt ∧ ∀ k, x1.ownBlock = some k → k ≠ Bt) ∧ Below U.heap.size U w') ?_ ?_
  · intro a5 w5 ⟨Bt, x0, x1, hf5, hbt, hot, ⟨hB1, hB2⟩, hb5⟩
    obtain ⟨G, hg, e⟩ := act56 a5 hf5.d hf5.s
    obtain ⟨hz1, hz2, g1, g2, g3⟩ := hf5
    rw [hg] at g1 g2 g3
    clear hz1 hz2
    subst e
    clear hg
    rw [g1, g2, g3]
    clear g1 g2 g3
    obtain ⟨xa, xn, xc, rfl⟩ := hot.dims.ints.shape3
    obtain ⟨g, cap, ex, hcap, hg1, hg2⟩ := hot.data.form (by simp; omega)
    simp only [List.length_replicate] at ex hcap
    subst ex
    have hgB : g ≠ Bt := hB2 g rfl
    have HBA5 : Hid (Box w5 w.heap.size _ _) := HBA.out.later hb5
    have HBX5 : Hid (Box w5 (w.heap.size + 1) _ _) := HBX.out.later hb5
    have HBT5 : Hid (Box w5 Bt _ _) := hbt
    have HB5 : Hid (Below w.heap.size w w5) := Below.after HB.out hb5
    have HO5 : Hid (Own w5 (w.heap.size + 1 + 1) (.slice xa xn xc) [(q : Int), (p : Int)]) := hot.dims
    have HK5 : Hid (Own w5 (w.heap.size + 1 + 1) (.slice (some ⟨g, 0, none⟩) N cap) (trn p q l 0)) := by
      show Own _ _ _ _
      rw [trn_zero, HN.out]
      exact hot.data
    have HAP : Hid (∀ k, (Value.slice xa xn xc).ownBlock = some k → k ≠ g) := fun k hk e => hot.apart k hk (by rw [e]; rfl)
    clear hot hbt hb5 hB2
    go_wp2
    go_loopw [4] (fun x w' => ∃ i : Nat, i ≤ p ∧ x = .int .i64 i ∧ Own w' (w.heap.size + 1 + 1) (.slice (some ⟨g, 0, none⟩) N cap) (trn p q l (i * q)) ∧ But g w5 w') (fun x _ => p - (intOf x).toNat)
    case atStart => exact ⟨0, by omega, rfl, by rw [Nat.zero_mul]; exact HK5.out, But.refl _ _⟩
    case round =>
      obtain ⟨wo, rfl⟩ : ∃ x, x = wr := ⟨_, rfl⟩
      obtain ⟨i, hi, rfl, hO, hbu⟩ := hrel
      have HOI : Hid (Own wo (w.heap.size + 1 + 1) (.slice (some ⟨g, 0, none⟩) N cap) (trn p q l (i * q))) := hO
      have HBU : Hid (But g w5 wo) := hbu
      have c0 := (hbu.box HBA5.out (by omega)).c0
      have d0 : wo.cell? ⟨db, dof, none⟩ = some (.int .i64 p) := (hbu.cell (by simp; omega)).trans (cell_later HB5.out HE0.out)
      clear hO hbu
      by_cases hlt : i < p
      · go_wp2
        go_loopw [5] (fun x w' => ∃ k : Nat, k ≤ q ∧ x = .int .i64 k ∧ Own w' (w.heap.size + 1 + 1) (.slice (some ⟨g, 0, none⟩) N cap) (trn p q l (i * q + k)) ∧ But g w5 w') (fun x _ => q - (intOf x).toNat)
        case atStart => exact ⟨0, by omega, rfl, HOI.out, HBU.out⟩
        case round =>
          obtain ⟨k, hk, rfl, hO, hbu⟩ := hrel
          have HOK' : Hid (Own wr (w.heap.size + 1 + 1) (.slice (some ⟨g, 0, none⟩) N cap) (trn p q l (i * q + k))) := hO
          have HBK : Hid (But g w5 wr) := hbu
          have v0 := (hbu.box HBA5.out (by omega)).c0
          have v1 := (hbu.box HBA5.out (by omega)).c1
          have v2 := (hbu.box HBT5.out (by omega)).c1
          have v3 : wr.cell? ⟨db, dof, none⟩ = some (.int .i64 p) := (hbu.cell (by simp; omega)).trans (cell_later HB5.out HE0.out)
          have v4 : wr.cell? ⟨db, dof + 1, none⟩ = some (.int .i64 q) := (hbu.cell (by simp; omega)).trans (cell_later HB5.out HE1.out)
          clear hO hbu c0 d0
          by_cases hlk : k < q
          · have hiq : i * q + k < p * q := by
              have h3 : (i + 1) * q ≤ p * q := Nat.mul_le_mul_right q hlt
              rw [Nat.add_mul, Nat.one_mul] at h3
              omega
            have hkp : k * p + i < p * q := by
              have h3 : (k + 1) * p ≤ q * p := Nat.mul_le_mul_right p hlk
              rw [Nat.add_mul, Nat.one_mul, Nat.mul_comm q p] at h3
              omega
            have HTS := trn_set p q l (i * q + k) hiq
            rw [tinv_ik hlk] at HTS
            rw [HN.out] at hiq hkp
            have y0 : (k : Int) * p = ((k * p : Nat) : Int) := by simp
            have y1 : (i : Int) * q = ((i * q : Nat) : Int) := by simp
            obtain ⟨kp, hkp'⟩ : ∃ x, k * p = x := ⟨_, rfl⟩
            obtain ⟨iq, hiq'⟩ : ∃ x, i * q = x := ⟨_, rfl⟩
            rw [hkp'] at HTS hkp y0
            rw [hiq'] at HTS hiq y1
            have z0 : IntKind.i64.wrap ((k : Int) * p) = (kp : Int) := by rw [y0]; exact wrap_small _ (by omega) (by omega)
            have z1 : IntKind.i64.wrap ((i : Int) * q) = (iq : Int) := by rw [y1]; exact wrap_small _ (by omega) (by omega)
            have z2 : IntKind.i64.wrap ((kp : Int) + i) = ((kp + i : Nat) : Int) := by rw [wrap_small _ (by omega) (by omega)]; simp
            have z3 : IntKind.i64.wrap ((iq : Int) + k) = ((iq + k : Nat) : Int) := by rw [wrap_small _ (by omega) (by omega)]; simp
            obtain ⟨T, hT⟩ : ∃ x, kp + i = x := ⟨_, rfl⟩
            obtain ⟨R, hR⟩ : ∃ x, iq + k = x := ⟨_, rfl⟩
            rw [hT] at z2 hkp HTS
            rw [hR] at z3 hiq HTS
            have v5 : wr.cell? ⟨ab, ao + R, none⟩ = some (.int .i64 (l.getD R 0)) := (HBK.out.cell (by simp; omega)).trans (cell_later HB5.out (HCD.out R hiq))
            have z4 : (0 : Int) ≤ (T : Int) := by omega
            have z5 : (T : Int) < N := by omega
            have z6 : (0 : Int) ≤ (R : Int) := by omega
            have z7 : (R : Int) < N := by omega
            have HOT : Hid (Own wr (w.heap.size + 1 + 1) (.slice (some ⟨g, 0, none⟩) N cap) (trn p q l R)) := by
              have h := HOK'.out
              rw [hiq', hR] at h
              exact h
            obtain ⟨f1, f2, f3⟩ := HOT.out.put (by rw [trn_length, HN.out]) T hkp (l.getD R 0)
            rw [HTS] at f3
            have HS : Hid (Own (wr.setCell ⟨g, T, none⟩ (.int .i64 (l.getD R 0))) (w.heap.size + 1 + 1) (.slice (some ⟨g, 0, none⟩) N cap) (trn p q l (i * q + (k + 1)))) := by
              show Own _ _ _ _
              rw [hiq', ← Nat.add_assoc, hR]
              exact f3
            have HBS : Hid (But g w5 (wr.setCell ⟨g, T, none⟩ (.int .i64 (l.getD R 0)))) := HBK.out.setCell _
            clear f3 HTS hiq' hkp' hT hR y0 y1
            have n1 : g ≠ w.heap.size := by omega
            have n2 : w.heap.size ≠ g := by omega
            have n3 : Bt ≠ g := Ne.symm hgB
            have n4 : g ≠ db := by omega
            have n5 : db ≠ g := by omega
            have n6 : g ≠ ab := by omega
            have n7 : ab ≠ g := by omega
            go_wp2_with fail
            go_region_held3 (fun w' => w'.cell? ⟨w.heap.size, 0, none⟩ = some (.slice (some ⟨db, dof, none⟩) 2 dc) ∧ w'.cell? ⟨w.heap.size, 1, none⟩ = some (.slice (some ⟨ab, ao, none⟩) N ac) ∧ w'.cell? ⟨Bt, 1, none⟩ = some (.slice (some ⟨g, 0, none⟩) N cap) ∧ w'.cell? ⟨db, dof, none⟩ = some (.int .i64 p) ∧ w'.cell? ⟨db, dof + 1, none⟩ = some (.int .i64 q) ∧ w'.cell? ⟨ab, ao + R, none⟩ = some (.int .i64 (l.getD R 0))) (go_keep) (fail)
            clear v0 v1 v2 v3 v4 v5 f1 f2
            go_wp2
            go_roundw
            case rel => exact ⟨k + 1, by omega, by go_num, HS.out.drew, HBS.out.drew⟩
            case measure => simp [intOf]; omega
          · have hk' : k = q := by omega
            subst hk'
            go_wp2
            go_roundw
            case rel =>
              refine ⟨i + 1, by omega, by go_num, ?_, HBK.out⟩
              rw [Nat.add_mul, Nat.one_mul]
              exact HOK'.out
            case measure => simp [intOf]; omega
      · have hi' : i = p := by omega
        subst hi'
        have hbt := HBU.out.box HBT5.out (by omega)
        have t0 := hbt.c0
        have t1 := hbt.c1
        have hbx := HBU.out.box HBX5.out (by omega)
        have l0 := hbx.c0
        have l1 := hbx.c1
        have m0 := hbx.f 0
        have m1 := hbx.f 1
        have HBS : Hid (Box _ _ _ _) := hbx.set (.slice xa xn xc) (.slice (some ⟨g, 0, none⟩) N cap)
        have HO6 : Hid (Own wo (w.heap.size + 1 + 1) (.slice xa xn xc) [(q : Int), (i : Int)]) := HO5.out.at fun k hk => HBU.out.block k (HAP.out k hk)
        have HK6 : Hid (Own wo (w.heap.size + 1 + 1) (.slice (some ⟨g, 0, none⟩) N cap) (tns i q l)) := by
          have h := HOI.out
          rw [trn_all] at h
          exact h
        have HBE : Hid (Below w.heap.size w wo) := HBU.out.below HB5.out (by omega)
        clear hbx hbt
        go_wp2
        have hr0 := HBS.out.c0
        have hr1 := HBS.out.c1
        refine bodyPost_ret (v := .agg #[.slice xa xn xc, .slice (some ⟨g, 0, none⟩) N cap]) (by simp [results, Try.results10, go_sem, hr0, hr1]) rfl ⟨_, _, rfl, ?_, ?_⟩
        · have h1 : OwnT wo (w.heap.size + 1 + 1) (.slice xa xn xc) (.slice (some ⟨g, 0, none⟩) N cap) ([(q : Int), (i : Int)], tns i q l) := ⟨HO6.out, HK6.out, fun k hk e => HAP.out k hk (by simp [Value.ownBlock] at e; exact e.symm)⟩
          exact ((h1.setCell _ _ (by simp)).setCell _ _ (by simp)).mono (by omega)
        · exact (HBE.out.setCell (by simp) _).setCell (by simp) _
  · intro J K' hJ hK'
    have HJ : Hid _ := hJ
    have HK' : Hid _ := hK'
    clear hJ hK'
    have l0 := HBA.out.c0
    have l1 := cell_later HB.out HE0.out
    have l2 := cell_later HB.out HE1.out
    have n1 := World.new_ne U _ l0
    have n2 := World.new_ne U _ l1
    have HTI : Hid (Ints (U.alloc (.cells #[.int .i64 q, .int .i64 p] 3)) (.slice (some ⟨w.heap.size + 1 + 1, 0, none⟩) 2 2) [(q : Int), (p : Int)]) := by
      have := two_ints U q p
      rw [hs0] at this
      exact this
    have HTB : Hid (Ints ((U.alloc (.cells #[.slice none 0 0, .slice none 0 0] 31)).alloc (.cells #[.int .i64 q, .int .i64 p] 3)) (.slice (some ⟨w.heap.size + 1 + 1 + 1, 0, none⟩) 2 2) [(q : Int), (p : Int)]) := by
      have := two_ints (U.alloc (.cells #[.slice none 0 0, .slice none 0 0] 31)) q p
      rw [World.size_alloc, hs0] at this
      exact this
    have HZ1 : Hid (Box (U.alloc (.cells #[.slice none 0 0, .slice none 0 0] 31)) (w.heap.size + 1 + 1) (.slice none 0 0) (.slice none 0 0)) := by
      have := Box.new U (.slice none 0 0) (.slice none 0 0)
      rw [hs0] at this
      exact this
    have HZ2 : Hid (Box ((U.alloc (.cells #[.int .i64 q, .int .i64 p] 3)).alloc (.cells #[.slice none 0 0, .slice none 0 0] 31)) (w.heap.size + 1 + 1 + 1) (.slice none 0 0) (.slice none 0 0)) := by
      have := Box.new (U.alloc (.cells #[.int .i64 q, .int .i64 p] 3)) (.slice none 0 0) (.slice none 0 0)
      rw [World.size_alloc, hs0] at this
      exact this
    have m1 : w.heap.size + 1 + 1 + 1 ≠ w.heap.size := by omega
    have m2 : w.heap.size + 1 + 1 + 1 ≠ db := by omega
    have m3 : w.heap.size + 1 + 1 ≠ w.heap.size := by omega
    have m4 : w.heap.size + 1 + 1 ≠ db := by omega
    have m5 : w.heap.size ≠ w.heap.size + 1 + 1 + 1 := by omega
    have m6 : db ≠ w.heap.size + 1 + 1 + 1 := by omega
    have m7 : w.heap.size ≠ w.heap.size + 1 + 1 := by omega
    have m8 : db ≠ w.heap.size + 1 + 1 := by omega
    go_region_held3 (fun w' => w'.cell? ⟨w.heap.size, 0, none⟩ = some (.slice (some ⟨db, dof, none⟩) 2 dc) ∧ w'.cell? ⟨db, dof, none⟩ = some (.int .i64 p) ∧ w'.cell? ⟨db, dof + 1, none⟩ = some (.int .i64 q)) (go_keep)
      (first | (go_at_call 35; refine (rfill_own (d := [(q : Int), (p : Int)]) 0 ?_ HOK2.out).mono ?_; exact Ints.later (Below.refl _ _).drew HTI.out; rw [HPQ.out]; rintro e w6 ⟨x0, x1, rfl, ho, hb6⟩; obtain ⟨xa, xn, xc, rfl⟩ := ho.dims.ints.shape3; obtain ⟨ya, yn, yc, rfl⟩ := ho.data.ints.shape3; have HQ6 : Hid (Below U.heap.size U w6) := Below.after (Below.push (Below.refl _ _) _).drew hb6; have HO6 : Hid (OwnT w6 (w.heap.size + 1 + 1) (.slice xa xn xc) (.slice ya yn yc) ([(q : Int), (p : Int)], List.replicate N 0)) := ho.mono (by simp; omega); have a_0 := cell_later HQ6.out l0; have a_1 := cell_later HQ6.out l1; have a_2 := cell_later HQ6.out l2; have hs6 := hb6.size; clear ho hb6) | (go_at_call 35; refine (rfill_own (d := [(q : Int), (p : Int)]) 0 ?_ HOK2.out).mono ?_; exact Ints.later (Below.refl _ _).drew HTB.out; rw [HPQ.out]; rintro e w6 ⟨x0, x1, rfl, ho, hb6⟩; obtain ⟨xa, xn, xc, rfl⟩ := ho.dims.ints.shape3; obtain ⟨ya, yn, yc, rfl⟩ := ho.data.ints.shape3; have HQ6 : Hid (Below U.heap.size U w6) := Below.after (Below.push (Below.push (Below.refl _ _) _) _).drew hb6; have HO6 : Hid (OwnT w6 (w.heap.size + 1 + 1 + 1) (.slice xa xn xc) (.slice ya yn yc) ([(q : Int), (p : Int)], List.replicate N 0)) := ho.mono (by simp; omega); have a_0 := cell_later HQ6.out l0; have a_1 := cell_later HQ6.out l1; have a_2 := cell_later HQ6.out l2; have hs6 := hb6.size; have hz : Box w6 (w.heap.size + 1 + 1) (.slice none 0 0) (.slice none 0 0) := Box.later hb6 (HZ1.out.alloc _); have z0 := hz.c0; have z1 := hz.c1; have z2 := hz.f 0; have z3 := hz.f 1; have HZ : Hid (Box w6 (w.heap.size + 1 + 1) (.slice none 0 0) (.slice none 0 0)) := hz; clear hz; clear ho hb6) | (go_at_call 35; refine (rfill_own (d := [(q : Int), (p : Int)]) 0 ?_ HOK2.out).mono ?_; exact Ints.later (Below.refl _ _).drew (HTI.out.later (Below.push (Below.refl _ _) _)); rw [HPQ.out]; rintro e w6 ⟨x0, x1, rfl, ho, hb6⟩; obtain ⟨xa, xn, xc, rfl⟩ := ho.dims.ints.shape3; obtain ⟨ya, yn, yc, rfl⟩ := ho.data.ints.shape3; have HQ6 : Hid (Below U.heap.size U w6) := Below.after (Below.push (Below.push (Below.refl _ _) _) _).drew hb6; have HO6 : Hid (OwnT w6 (w.heap.size + 1 + 1 + 1 + 1) (.slice xa xn xc) (.slice ya yn yc) ([(q : Int), (p : Int)], List.replicate N 0)) := ho.mono (by simp; omega); have a_0 := cell_later HQ6.out l0; have a_1 := cell_later HQ6.out l1; have a_2 := cell_later HQ6.out l2; have hs6 := hb6.size; have hz : Box w6 (w.heap.size + 1 + 1 + 1) (.slice none 0 0) (.slice none 0 0) := Box.later hb6 HZ2.out; have z0 := hz.c0; have z1 := hz.c1; have z2 := hz.f 0; have z3 := hz.f 1; have HZ : Hid (Box w6 (w.heap.size + 1 + 1 + 1) (.slice none 0 0) (.slice none 0 0)) := hz; clear hz; clear ho hb6))
    · have hsz := HQ6.out.size
      exact HK'.out _ _ (Met.intro (HJ.out _ _ ⟨_, _, _, ⟨rfl, rfl, rfl, rfl, rfl⟩, Box.new _ _ _, HO6.out.later (Below.push (Below.refl _ _) _), ⟨by omega, fun k hk => by have := HO6.out.data.lt k hk; omega⟩, Below.push HQ6.out _⟩))
    · exact HK'.out _ _ (Met.intro (HJ.out _ _ ⟨_, _, _, ⟨rfl, rfl, rfl, rfl, rfl⟩, HZ.out.set _ _, (HO6.out.set2 _ _ (by omega)).mono (by omega), ⟨by omega, fun k hk => by have := HO6.out.data.frm k hk; omega⟩, (HQ6.out.setCell (by simp; omega) _).setCell (by simp; omega) _⟩))
    · exact HK'.out _ _ (Met.intro (HJ.out _ _ ⟨_, _, _, ⟨rfl, rfl, rfl, rfl, rfl⟩, HZ.out.set _ _, (HO6.out.set2 _ _ (by omega)).mono (by omega), ⟨by omega, fun k hk => by have := HO6.out.data.frm k hk; omega⟩, (HQ6.out.setCell (by simp; omega) _).setCell (by simp; omega) _⟩))
end Go.Proofs.Ytgedknmjenbacaa
