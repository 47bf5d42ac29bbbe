/- Carried: G4, H1, K4, K7, N0, N1, Q2, Q3. -/
import Derived.Test.YtheddpjaihhbdaaC27
namespace Go.Proofs.Ytheddpjaihhbdaa
set_option linter.unusedVariables false
set_option linter.unusedSimpArgs false
set_option maxRecDepth 100000
open Go.RowKit

theorem sumd_to {a0 a1 v : Value} {s : Ten} {d : List Int} {w : World} (x : Int) (u : Ten) (ha : Tens w a0 a1 s) (hd : Ints w v d) (hx : suE s d = x) (hu : suR s d = u) :
    Calls Try.prog 33 #[.agg #[a0, a1], v] w fun e w' => ∃ x0 x1, e = .returned (.tuple #[.agg #[x0, x1], .int .i64 x]) ∧ OwnT w' w.heap.size x0 x1 u ∧ Below w.heap.size w w' := by
  subst hx hu
  exact sumd_any ha hd
theorem IntsL.vals {w : World} {ad : Addr} {D : List (List Int)} {n c : Nat} (h : IntsL w (.slice (some ad) n c) D) :
    n = D.length ∧ ∃ news : List Value, news.length = D.length ∧ (∀ j u, news[j]? = some u → w.cell? (ad.add j) = some u) ∧ (∀ i (h : i < D.length), ∃ y, news[i]? = some y ∧ Ints w y D[i]) ∧ ∀ u ∈ news, u.oneCell' = true := by
  obtain ⟨_, a, c', e, _, hrow⟩ := h
  simp only [Value.slice.injEq] at e
  obtain ⟨rfl, rfl, rfl⟩ := e
  refine ⟨rfl, ?_⟩
  have key : ∀ i : Nat, ∃ x, ∀ h : i < D.length, w.cell? (ad.add i) = some x ∧ Ints w x D[i] := by
    intro i
    by_cases hi : i < D.length
    · obtain ⟨b, off, x, ea, hc, hx⟩ := hrow i hi
      simp only [Option.some.injEq] at ea
      subst ea
      refine ⟨x, fun _ => ⟨?_, hx⟩⟩
      by_cases h0 : i = 0
      · subst h0; simpa [Addr.add] using hc
      · simpa [Addr.add, h0] using hc
    · exact ⟨undef, fun h => absurd h hi⟩
  refine ⟨(List.range D.length).map fun i => Classical.choose (key i), by simp, ?_, ?_, ?_⟩
  · intro j u hj
    simp only [List.getElem?_map, Option.map_eq_some_iff] at hj
    obtain ⟨k, hk, rfl⟩ := hj
    obtain ⟨hlt, rfl⟩ := List.getElem?_eq_some_iff.1 hk
    simp only [List.getElem_range]
    have hj : j < D.length := by simpa using hlt
    exact (Classical.choose_spec (key j) hj).1
  · intro i hi
    exact ⟨Classical.choose (key i), by simp [hi], (Classical.choose_spec (key i) hi).2⟩
  · intro u hu
    simp only [List.mem_map, List.mem_range] at hu
    obtain ⟨i, hi, rfl⟩ := hu
    obtain ⟨a, c, e⟩ := (Classical.choose_spec (key i) hi).2.shape
    rw [e]; rfl
theorem tr_zero {t : Ten} (h : trE t = 0) : tok t = true ∧ ∃ p q : Nat, t.1 = [(p : Int), (q : Int)] ∧ p ≤ 8 ∧ q ≤ 8 ∧ 1 ≤ p ∧ 1 ≤ q ∧ t.2.length = p * q := by
  cases ht : tok t with
  | false => rw [trE, ht] at h; simp at h
  | true =>
    refine ⟨rfl, ?_⟩
    by_cases h2 : t.1.length = 2
    · obtain ⟨x, y, hxy⟩ := two_of h2
      have hok := tok_okd ht
      rw [hxy] at hok
      obtain ⟨a, b, c, d⟩ := okd2 hok
      refine ⟨x.toNat, y.toNat, by rw [hxy, Int.toNat_of_nonneg (by omega), Int.toNat_of_nonneg (by omega)], by omega, by omega, by omega, by omega, ?_⟩
      have hl := tok_len ht
      rw [hxy] at hl
      obtain ⟨p, rfl⟩ : ∃ p : Nat, x = p := ⟨x.toNat, by omega⟩
      obtain ⟨q, rfl⟩ : ∃ q : Nat, y = q := ⟨y.toNat, by omega⟩
      have : prd [(p : Int), (q : Int)] = ((p * q : Nat) : Int) := by simp [prd]
      rw [this] at hl
      simpa using Int.ofNat.inj hl
    · rw [trE, ht, if_neg h2] at h
      simp at h
theorem trR_ok {t : Ten} {p q : Nat} (h : trE t = 0) (hd : t.1 = [(p : Int), (q : Int)]) : trR t = ([(q : Int), (p : Int)], tns p q t.2) := by
  rw [trR, if_pos h, hd]
  simp
set_option maxRecDepth 100000 in
theorem lit56 (g : Nat → Value) : (g 0 :: g 1 :: g 2 :: g 3 :: g 4 :: g 5 :: g 6 :: g 7 :: g 8 :: g 9 :: g 10 :: g 11 :: g 12 :: g 13 :: g 14 :: g 15 :: g 16 :: g 17 :: g 18 :: g 19 :: g 20 :: g 21 :: g 22 :: g 23 :: g 24 :: g 25 :: g 26 :: g 27 :: g 28 :: g 29 :: g 30 :: g 31 :: g 32 :: g 33 :: g 34 :: g 35 :: g 36 :: g 37 :: g 38 :: g 39 :: g 40 :: g 41 :: g 42 :: g 43 :: g 44 :: g 45 :: g 46 :: g 47 :: g 48 :: g 49 :: g 50 :: g 51 :: g 52 :: g 53 :: g 54 :: g 55 :: []).toArray = ((List.range 56).map g).toArray := by rfl
set_option maxRecDepth 100000 in
theorem act56 (a : Act) (hd : a.defers = []) (hs : a.tmps.size = 56) : ∃ g : Nat → Value, (∀ i, a.tmps.getD i undef = g i) ∧ a = { tmps := (g 0 :: g 1 :: g 2 :: g 3 :: g 4 :: g 5 :: g 6 :: g 7 :: g 8 :: g 9 :: g 10 :: g 11 :: g 12 :: g 13 :: g 14 :: g 15 :: g 16 :: g 17 :: g 18 :: g 19 :: g 20 :: g 21 :: g 22 :: g 23 :: g 24 :: g 25 :: g 26 :: g 27 :: g 28 :: g 29 :: g 30 :: g 31 :: g 32 :: g 33 :: g 34 :: g 35 :: g 36 :: g 37 :: g 38 :: g 39 :: g 40 :: g 41 :: g 42 :: g 43 :: g 44 :: g 45 :: g 46 :: g 47 :: g 48 :: g 49 :: g 50 :: g 51 :: g 52 :: g 53 :: g 54 :: g 55 :: []).toArray, defers := [] } := by
  refine ⟨fun i => a.tmps.getD i undef, fun _ => rfl, ?_⟩
  have h := lit56 (fun i => a.tmps.getD i undef)
  have e : a.tmps = ((List.range 56).map (fun i => a.tmps.getD i undef)).toArray := by
    apply Array.ext
    · simp [hs]
    · intro i h1 h2
      simp [h1]
  exact (show a = Act.mk a.tmps a.defers from rfl).trans (by rw [hd]; exact congrArg (fun t => Act.mk t []) (e.trans h.symm))
theorem tinv_ik {p q i k : Nat} (hk : k < q) : tinv q p (i * q + k) = k * p + i := by
  unfold tinv
  rw [Nat.add_comm (i * q) k, Nat.add_mul_mod_self_right, Nat.mod_eq_of_lt hk, Nat.add_mul_div_right _ _ (by omega), Nat.div_eq_of_lt hk, Nat.zero_add]
structure FrQ (B : Nat) (Bt : Nat) (a : Act) : Prop where
  d : a.defers = []
  s : a.tmps.size = 56
  f1 : a.tmps.getD 1 undef = .pointer (some ⟨B, 0, none⟩)
  f2 : a.tmps.getD 2 undef = .pointer (some ⟨B + 1, 0, none⟩)
  f3 : a.tmps.getD 3 undef = .pointer (some ⟨Bt, 0, none⟩)
structure EnvA (B : Nat) (f0 f1 f2 : Value) (T : List Ten) (D : List (List Int)) (w : World) : Prop where
  b0 : w.cell? ⟨B, 0, none⟩ = some f0
  b1 : w.cell? ⟨B, 1, none⟩ = some f1
  b2 : w.cell? ⟨B, 2, none⟩ = some f2
  hT : TensL w f0 T
  hD : IntsL w f2 D
theorem EnvA.later {B : Nat} {f0 f1 f2 : Value} {T : List Ten} {D : List (List Int)} {w w' : World} (h : EnvA B f0 f1 f2 T D w) (hb : Below w.heap.size w w') : EnvA B f0 f1 f2 T D w' :=
  ⟨cell_later hb h.b0, cell_later hb h.b1, cell_later hb h.b2, h.hT.later hb, h.hD.later hb⟩
theorem IntsL.row {w : World} {a : Option Addr} {n c : Nat} {L : List (List Int)} (h : IntsL w (.slice a n c) L) (i : Nat) (hi : i < L.length) :
    ∃ b off xa xn xc, a = some ⟨b, off, none⟩ ∧ w.cell? ⟨b, off + i, none⟩ = some (.slice xa xn xc) ∧ Hid (Ints w (.slice xa xn xc) L[i]) := by
  obtain ⟨_, a', c', e, _, hrow⟩ := h
  simp only [Value.slice.injEq] at e
  obtain ⟨rfl, rfl, rfl⟩ := e
  obtain ⟨b, off, x, ha, hc, hx⟩ := hrow i hi
  obtain ⟨xa, xn, xc, rfl⟩ := hx.shape3
  exact ⟨b, off, xa, xn, xc, ha, hc, hx⟩
theorem IntsL.shape {w : World} {v : Value} {L : List (List Int)} (h : IntsL w v L) : ∃ a n c, v = .slice a n c := by
  obtain ⟨_, a', c', e, hc, _⟩ := h
  exact ⟨_, _, _, e⟩
theorem wide_to {a0 a1 v : Value} {s : Ten} {d : List Int} {w : World} (x : Int) (u : Ten) (ha : Tens w a0 a1 s) (hd : Ints w v d) (hx : wiE s d = x) (hu : wiR s d = u) :
    Calls Try.prog 32 #[.agg #[a0, a1], v] w fun e w' => ∃ x0 x1, e = .returned (.tuple #[.agg #[x0, x1], .int .i64 x]) ∧ OwnT w' w.heap.size x0 x1 u ∧ Below w.heap.size w w' := by
  subst hx hu
  exact wide_any ha hd
theorem shape_to {a0 a1 v : Value} {s : Ten} {d : List Int} {w : World} (x : Int) (u : Ten) (ha : Tens w a0 a1 s) (hd : Ints w v d) (hx : shE s d = x) (hu : shR s d = u) :
    Calls Try.prog 31 #[.agg #[a0, a1], v] w fun e w' => ∃ x0 x1, e = .returned (.tuple #[.agg #[x0, x1], .int .i64 x]) ∧ OwnT w' w.heap.size x0 x1 u ∧ Below w.heap.size w w' := by
  subst hx hu
  exact shape_any ha hd
set_option maxHeartbeats 1000000 in
theorem sub_any {a0 a1 b0 b1 : Value} {s t : Ten} {w : World} (ha : Tens w a0 a1 s) (hb' : Tens w b0 b1 t) :
    Calls Try.prog 25 #[.agg #[a0, a1], .agg #[b0, b1]] w fun e w' => ∃ x0 x1, e = .returned (.tuple #[.agg #[x0, x1], .int .i64 (fitE s t)]) ∧ OwnT w' w.heap.size x0 x1 (eachR opS s t) ∧ Below w.heap.size w w' := by
  have hb : Below w.heap.size w (((w.alloc (.cells #[a0, a1] 31)).alloc (.cells #[b0, b1] 31)).alloc (.cells #[.slice none 0 0, .slice none 0 0] 31)) := (((Below.refl _ _).alloc (Nat.le_refl _) _).alloc (by simp) _).alloc (by simp; omega) _
  have HA : Hid (Tens (((w.alloc (.cells #[a0, a1] 31)).alloc (.cells #[b0, b1] 31)).alloc (.cells #[.slice none 0 0, .slice none 0 0] 31)) a0 a1 s) := ha.later hb
  have HT : Hid (Tens (((w.alloc (.cells #[a0, a1] 31)).alloc (.cells #[b0, b1] 31)).alloc (.cells #[.slice none 0 0, .slice none 0 0] 31)) b0 b1 t) := hb'.later hb
  have HB : Hid (Below w.heap.size w (((w.alloc (.cells #[a0, a1] 31)).alloc (.cells #[b0, b1] 31)).alloc (.cells #[.slice none 0 0, .slice none 0 0] 31))) := hb
  have HBX : Hid (Box (((w.alloc (.cells #[a0, a1] 31)).alloc (.cells #[b0, b1] 31)).alloc (.cells #[.slice none 0 0, .slice none 0 0] 31)) (w.heap.size + 1 + 1) (.slice none 0 0) (.slice none 0 0)) := by
    have := Box.new ((w.alloc (.cells #[a0, a1] 31)).alloc (.cells #[b0, b1] 31)) (.slice none 0 0) (.slice none 0 0)
    simp only [World.size_alloc] at this
    exact this
  clear ha hb' hb
  go_enter Try.func25, Try.ntmps25
  go_wp2_with fail
  refine (each_any (op := opS) deed_sub HA.out HT.out).mono ?_
  rintro e w1 ⟨x0, x1, rfl, ho, hb1⟩
  simp only [World.size_alloc] at ho
  have HO : Hid (OwnT w1 (w.heap.size + 1 + 1 + 1) x0 x1 (eachR opS s t)) := ho
  have HB1 : Hid (Below w.heap.size w w1) := Below.after HB.out hb1
  have hbx := HBX.out.later hb1
  have hx0' := hbx.c0
  have hx1 := hbx.c1
  have hf0 := hbx.f 0
  have hf1 := hbx.f 1
  obtain ⟨xa, xc, rfl⟩ := ho.dims.ints.shape
  obtain ⟨ya, yc, rfl⟩ := ho.data.ints.shape
  have HBS : Hid (Box _ _ _ _) := hbx.set (.slice xa (eachR opS s t).1.length xc) (.slice ya (eachR opS s t).2.length yc)
  clear hb1 hbx ho
  go_wp2
  have hr0 := HBS.out.c0
  have hr1 := HBS.out.c1
  refine bodyPost_ret (v := .tuple #[.agg #[.slice xa (eachR opS s t).1.length xc, .slice ya (eachR opS s t).2.length yc], .int .i64 (fitE s t)]) (by simp [results, Try.results25, go_sem, hr0, hr1]) rfl ⟨_, _, rfl, ?_, ?_⟩
  · exact ((HO.out.setCell _ _ (by simp)).setCell _ _ (by simp)).mono (by omega)
  · exact (HB1.out.setCell (by simp; omega) _).setCell (by simp; omega) _
set_option maxHeartbeats 1000000 in
theorem neg_any {a0 a1 : Value} {s : Ten} {w : World} (ha : Tens w a0 a1 s) :
    Calls Try.prog 27 #[.agg #[a0, a1]] w fun e w' => ∃ x0 x1, e = .returned (.tuple #[.agg #[x0, x1], .int .i64 (fitE s s)]) ∧ OwnT w' w.heap.size x0 x1 (eachR opN s s) ∧ Below w.heap.size w w' := by
  have hb : Below w.heap.size w ((w.alloc (.cells #[a0, a1] 31)).alloc (.cells #[.slice none 0 0, .slice none 0 0] 31)) := ((Below.refl _ _).alloc (Nat.le_refl _) _).alloc (by simp) _
  have HA : Hid (Tens ((w.alloc (.cells #[a0, a1] 31)).alloc (.cells #[.slice none 0 0, .slice none 0 0] 31)) a0 a1 s) := ha.later hb
  have HB : Hid (Below w.heap.size w ((w.alloc (.cells #[a0, a1] 31)).alloc (.cells #[.slice none 0 0, .slice none 0 0] 31))) := hb
  have HBX : Hid (Box ((w.alloc (.cells #[a0, a1] 31)).alloc (.cells #[.slice none 0 0, .slice none 0 0] 31)) (w.heap.size + 1) (.slice none 0 0) (.slice none 0 0)) := by
    have := Box.new (w.alloc (.cells #[a0, a1] 31)) (.slice none 0 0) (.slice none 0 0)
    simp only [World.size_alloc] at this
    exact this
  clear ha hb
  go_enter Try.func27, Try.ntmps27
  go_wp2_with fail
  refine (each_any (op := opN) deed_neg HA.out HA.out).mono ?_
  rintro e w1 ⟨x0, x1, rfl, ho, hb1⟩
  simp only [World.size_alloc] at ho
  have HO : Hid (OwnT w1 (w.heap.size + 1 + 1) x0 x1 (eachR opN s s)) := ho
  have HB1 : Hid (Below w.heap.size w w1) := Below.after HB.out hb1
  have hbx := HBX.out.later hb1
  have hx0' := hbx.c0
  have hx1 := hbx.c1
  have hf0 := hbx.f 0
  have hf1 := hbx.f 1
  obtain ⟨xa, xc, rfl⟩ := ho.dims.ints.shape
  obtain ⟨ya, yc, rfl⟩ := ho.data.ints.shape
  have HBS : Hid (Box _ _ _ _) := hbx.set (.slice xa (eachR opN s s).1.length xc) (.slice ya (eachR opN s s).2.length yc)
  clear hb1 hbx ho
  go_wp2
  have hr0 := HBS.out.c0
  have hr1 := HBS.out.c1
  refine bodyPost_ret (v := .tuple #[.agg #[.slice xa (eachR opN s s).1.length xc, .slice ya (eachR opN s s).2.length yc], .int .i64 (fitE s s)]) (by simp [results, Try.results27, go_sem, hr0, hr1]) rfl ⟨_, _, rfl, ?_, ?_⟩
  · exact ((HO.out.setCell _ _ (by simp)).setCell _ _ (by simp)).mono (by omega)
  · exact (HB1.out.setCell (by simp) _).setCell (by simp) _
set_option maxHeartbeats 1000000 in
theorem scale_any {a0 a1 : Value} {s : Ten} {w : World} (n : Int) (ha : Tens w a0 a1 s) :
    Calls Try.prog 28 #[.agg #[a0, a1], .int .i64 n] w fun e w' => ∃ x0 x1, e = .returned (.tuple #[.agg #[x0, x1], .int .i64 (tkE s)]) ∧ OwnT w' w.heap.size x0 x1 (sclR n s) ∧ Below w.heap.size w w' := by
  have hb : Below w.heap.size w ((w.alloc (.cells #[a0, a1] 31)).alloc (.cells #[.slice none 0 0, .slice none 0 0] 31)) := ((Below.refl _ _).alloc (Nat.le_refl _) _).alloc (by simp) _
  have HA : Hid (Tens ((w.alloc (.cells #[a0, a1] 31)).alloc (.cells #[.slice none 0 0, .slice none 0 0] 31)) a0 a1 s) := ha.later hb
  have HB : Hid (Below w.heap.size w ((w.alloc (.cells #[a0, a1] 31)).alloc (.cells #[.slice none 0 0, .slice none 0 0] 31))) := hb
  have HBA : Hid (Box ((w.alloc (.cells #[a0, a1] 31)).alloc (.cells #[.slice none 0 0, .slice none 0 0] 31)) w.heap.size a0 a1) := (Box.new w a0 a1).alloc _
  have HBX : Hid (Box ((w.alloc (.cells #[a0, a1] 31)).alloc (.cells #[.slice none 0 0, .slice none 0 0] 31)) (w.heap.size + 1) (.slice none 0 0) (.slice none 0 0)) := by
    have := Box.new (w.alloc (.cells #[a0, a1] 31)) (.slice none 0 0) (.slice none 0 0)
    simp only [World.size_alloc] at this
    exact this
  clear ha hb
  obtain ⟨u, hu, hu2, hF⟩ : ∃ u : Ten, fitE u s = tkE s ∧ eachR opM u s = sclR n s ∧ ∀ w1 : World, Ints w1 a0 s.1 → Calls Try.prog 18 #[a0, .int .i64 n] w1 fun e w' => ∃ y0 y1 x, e = .returned (.tuple #[.agg #[y0, y1], .int .i64 x]) ∧ Tens w' y0 y1 u ∧ Below w1.heap.size w1 w' := by
    cases ho : okd s.1 with
    | true =>
      refine ⟨(s.1, List.replicate (prd s.1).toNat n), fit_fill n ho, each_fill n ho, fun w1 h1 => (fill_ok n h1 ho).mono ?_⟩
      rintro e w' ⟨a0, c0, b1, rfl, hi, hk, hb⟩
      have hp := okd_parts ho
      have hp1 := prd_lo hp.2.2.1
      exact ⟨_, _, _, rfl, ⟨hi, hk.ints _ _ (by simp) (Nat.le_refl _) (by unfold big; omega)⟩, hb⟩
    | false =>
      have ht : tkE s = 1 := by simp [tkE, tok, ho]
      refine ⟨([], []), by rw [fit_none, ht], by rw [each_none, sclR]; simp [tok, ho], fun w1 h1 => (fill_bad n h1 ho).mono ?_⟩
      rintro e w' ⟨rfl, hb⟩
      exact ⟨_, _, _, rfl, ⟨Ints.nil _, Ints.nil _⟩, hb⟩
  have HU : Hid (fitE u s = tkE s) := hu
  have HU2 : Hid (eachR opM u s = sclR n s) := hu2
  have HF : Hid (∀ w1 : World, Ints w1 a0 s.1 → Calls Try.prog 18 #[a0, .int .i64 n] w1 fun e w' => ∃ y0 y1 x, e = .returned (.tuple #[.agg #[y0, y1], .int .i64 x]) ∧ Tens w' y0 y1 u ∧ Below w1.heap.size w1 w') := hF
  clear hu hu2 hF
  go_enter Try.func28, Try.ntmps28
  go_wp2_with fail
  refine (HF.out _ HA.out.1).mono ?_
  rintro e w1 ⟨y0, y1, ey, rfl, hty, hb1⟩
  have HB1 : Hid (Below w.heap.size w w1) := Below.after HB.out hb1
  have hs1 := hb1.size
  simp at hs1
  have hbn : Below w1.heap.size w1 (w1.alloc (.cells #[y0, y1] 31)) := (Below.refl _ _).alloc (Nat.le_refl _) _
  have hca := ((HBA.out.later hb1).later hbn).c0
  have hca1 := ((HBA.out.later hb1).later hbn).c1
  have HBX2 : Hid (Box _ (w.heap.size + 1) (.slice none 0 0) (.slice none 0 0)) := (HBX.out.later hb1).later hbn
  have HY : Hid (Tens _ y0 y1 u) := hty.later hbn
  have HA2 : Hid (Tens _ a0 a1 s) := (HA.out.later hb1).later hbn
  have HB2 : Hid (Below w.heap.size w _) := Below.after HB1.out hbn
  obtain ⟨_, _, rfl⟩ := hty.1.shape
  obtain ⟨_, _, rfl⟩ := hty.2.shape
  clear hty hb1 hbn
  go_wp2_with fail
  refine (each_any (op := opM) deed_mul HY.out HA2.out).mono ?_
  rw [HU.out, HU2.out]
  rintro e w2 ⟨x0, x1, rfl, ho, hb2⟩
  simp only [World.size_alloc] at ho
  have HO : Hid (OwnT w2 (w1.heap.size + 1) x0 x1 (sclR n s)) := ho
  have HB3 : Hid (Below w.heap.size w w2) := Below.after HB2.out hb2
  have hbx := HBX2.out.later hb2
  have hx0' := hbx.c0
  have hx1 := hbx.c1
  have hf0 := hbx.f 0
  have hf1 := hbx.f 1
  obtain ⟨xa, xc, rfl⟩ := ho.dims.ints.shape
  obtain ⟨ya, yc, rfl⟩ := ho.data.ints.shape
  have HBS : Hid (Box _ _ _ _) := hbx.set (.slice xa (sclR n s).1.length xc) (.slice ya (sclR n s).2.length yc)
  clear hb2 hbx ho
  go_wp2
  have hr0 := HBS.out.c0
  have hr1 := HBS.out.c1
  refine bodyPost_ret (v := .tuple #[.agg #[.slice xa (sclR n s).1.length xc, .slice ya (sclR n s).2.length yc], .int .i64 (tkE s)]) (by simp [results, Try.results28, go_sem, hr0, hr1]) rfl ⟨_, _, rfl, ?_, ?_⟩
  · exact ((HO.out.setCell _ _ (by simp; omega)).setCell _ _ (by simp; omega)).mono (by omega)
  · exact (HB3.out.setCell (by simp) _).setCell (by simp) _
end Go.Proofs.Ytheddpjaihhbdaa
