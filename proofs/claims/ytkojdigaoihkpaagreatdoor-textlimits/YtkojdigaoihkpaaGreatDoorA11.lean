/- Part 11 of the texts that the theorem leans on. -/
import Derived.Test.YtkojdigaoihkpaaGreatDoorA10
section
namespace Go.Proofs.YtkojdigaoihkpaaGreatDoor
set_option linter.unusedVariables false
set_option linter.unusedSimpArgs false
set_option maxRecDepth 100000
open Go.RowKit

set_option maxHeartbeats 32000000 in
theorem rline_15 {TB : World → Prop} (RN : RName TB) {v u : Value} {L : List Nod} {t0 t1 t2 : ByteArray} {r : List ByteArray} {w : World} (h : NodesL w v L) (hu : HoldsW w u (t0 :: t1 :: t2 :: r)) (hT : TB w) (hts : ∀ t ∈ t0 :: t1 :: t2 :: r, t.size ≤ 3000) (k : Nat) (hk : kindF t2 = k) (hk1 : 1 ≤ k ∧ k ≤ 15) (hkk : k = 15) (hn0 : nameB t0 = true) (hx0 : nmdN L t0 0 < 0) (h1 : t1 = ⟨#[61]⟩) (E : Int) (N : Nod) (hE : lineA L t0 k [] (many k) r = (E, N)) :
    Calls Tryz.prog 31 #[v, u] w (LineP w E N) := by
  obtain ⟨va, vc, rfl, _, _⟩ := h.shape
  obtain ⟨ua, uc, rfl, _⟩ := hu.shape
  have HT : Hid (TB w) := hT
  have HNL : Hid (NodesL w (.slice va L.length vc) L) := h
  obtain ⟨b, off, rfl, -, hlc, hc0, hc1, hc2⟩ := hu.three
  have HU3 : Hid (HoldsW w (.slice (if uc = 3 then some ⟨b, off, none⟩ else (some (⟨b, off, none⟩ : Addr)).map (·.add (3 * 2))) ((t0 :: t1 :: t2 :: r).length - 3) (uc - 3)) r) := hu.drop 3 (by simp)
  have HTS0 : Hid (∀ t ∈ r, t.size ≤ 3000) := fun t ht => hts t (by simp [ht])
  have ht0 : t0.size ≤ 3000 := hts t0 (by simp)
  obtain ⟨m, hm⟩ : ∃ m, (t0 :: t1 :: t2 :: r).length = m := ⟨_, rfl⟩
  have hm3 : 3 ≤ m := by rw [← hm]; simp
  rw [hm] at hlc HU3 ⊢
  have HAI : Hid (askI k = false) := by show _ = _; rw [hkk]; rfl
  have HNB : Hid (numbI k = true) := by show _ = _; rw [hkk]; rfl
  have HHE : Hid (lineA L t0 k [] (many k) r = (E, N)) := hE
  obtain ⟨M, hM⟩ : ∃ M, many k = M := ⟨_, rfl⟩
  have HM : Hid (manyI k = M) := by
    show _ = _
    rw [manyI, if_pos (by omega), ← hM]
    rfl
  rw [hM] at HHE
  have hM2 : M ≤ 2 := by rw [← hM]; exact many_le k
  have e3 : ((k : Int) == 3) = false := by rw [hkk]; rfl
  have e8 : ((k : Int) == 8) = false := by rw [hkk]; rfl
  have e15 : ((k : Int) == 15) = true := by rw [hkk]; rfl
  have gk0 : ((k : Int) == 0) = false := by rw [beq_eq_false_iff_ne]; omega
  obtain ⟨U, hU⟩ : ∃ U, U = w.alloc (.cells #[.string ⟨#[]⟩, .int .i64 0, .slice none 0 0, .slice none 0 0, .int .i64 0] 55) := ⟨_, rfl⟩
  have HUU : Hid (U = w.alloc (.cells #[.string ⟨#[]⟩, .int .i64 0, .slice none 0 0, .slice none 0 0, .int .i64 0] 55)) := hU
  have HB : Hid (Below w.heap.size w U) := by show Below _ _ _; rw [hU]; exact Below.push (Below.refl _ _) _
  have HZ : Hid (BoxN U w.heap.size #[.string ⟨#[]⟩, .int .i64 0, .slice none 0 0, .slice none 0 0, .int .i64 0]) := by show BoxN _ _ _; rw [hU]; exact BoxN.new w _
  have HC0 : Hid (∀ w', Below w.heap.size w w' → w'.cell? ⟨b, off, none⟩ = some (.string t0) ∧ w'.cell? ⟨b, off + 2, none⟩ = some (.string t1) ∧ w'.cell? ⟨b, off + 4, none⟩ = some (.string t2)) := fun w' hb => ⟨cell_later hb hc0, cell_later hb hc1, cell_later hb hc2⟩
  have g1 : ¬ (m : Int) < 3 := by omega
  have g2 : (0 : Int) < m := by omega
  have g3 : (1 : Int) < m := by omega
  have g4 : (2 : Int) < m := by omega
  have g5 : (3 : Int) ≤ m := by omega
  have c0 := (HC0.out U HB.out).1
  obtain ⟨x0, hx⟩ : ∃ x, nmdN L t0 0 = x := ⟨_, rfl⟩
  have HX0 : Hid (nmdN L t0 0 = x0) := hx
  rw [hx] at hx0
  have HQ0 : Hid (nameB t0 = true) := hn0
  have HK0 : Hid (kindF t2 = k) := hk
  have q1 : (t1.toList == [61]) = true := by rw [h1, Lib.toList_data]; rfl
  clear hU h hu hT hc0 hc1 hc2 hm hx hn0 hk hE hM hts hkk
  go_enter Tryz.func31, Tryz.ntmps31
  go_upto_region 1 with fail
  rw [← HUU.out]
  go_upto_region 7 with (first
    | (go_at_call 41; refine (RN.name (by omega) (RN.later HB.out HT.out) true HQ0.out).mono ?_; rintro e w2 ⟨rfl, hb2⟩; have HZ2 : Hid (BoxN w2 w.heap.size #[.string ⟨#[]⟩, .int .i64 0, .slice none 0 0, .slice none 0 0, .int .i64 0]) := HZ.out.later hb2; have HB2 : Hid (Below w.heap.size w w2) := Below.after HB.out hb2; obtain ⟨d0, d1, d2⟩ := HC0.out _ HB2.out; clear hb2)
    | (go_at_call 42; refine (rnamed_any (HNL.out.later HB2.out) t0 x0 HX0.out).mono ?_; rintro e w3 ⟨rfl, rfl⟩)
    | (go_at_call 59; refine (rkind_to t2 _ k HK0.out).mono ?_; rintro e w4 ⟨rfl, hb4⟩; have HZ4 : Hid (BoxN w4 w.heap.size #[.string ⟨#[]⟩, .int .i64 0, .slice none 0 0, .slice none 0 0, .int .i64 0]) := HZ2.out.later hb4; have HB4 : Hid (Below w.heap.size w w4) := Below.after HB2.out hb4; obtain ⟨d3, d4, d5⟩ := HC0.out _ HB4.out; clear hb4))
  obtain ⟨bx, hbx⟩ : ∃ bx, w4.heap.size = bx := ⟨_, rfl⟩
  obtain ⟨V, hV⟩ : ∃ V, V = w4.alloc (.cells #[.string t0, .int .i64 k, .slice none 0 0, .slice none 0 0, .int .i64 0] 55) := ⟨_, rfl⟩
  have HZV : Hid (BoxN V w.heap.size #[.string ⟨#[]⟩, .int .i64 0, .slice none 0 0, .slice none 0 0, .int .i64 0]) := by show BoxN _ _ _; rw [hV]; exact HZ4.out.alloc _
  have HXV : Hid (BoxN V bx #[.string t0, .int .i64 k, .slice none 0 0, .slice none 0 0, .int .i64 0]) := by show BoxN _ _ _; rw [hV, ← hbx]; exact BoxN.new w4 _
  have HBV : Hid (Below w.heap.size w V) := by show Below _ _ _; rw [hV]; exact Below.push HB4.out _
  have hsV : bx + 1 ≤ V.heap.size := by rw [hV, ← hbx]; simp
  have hwb : w.heap.size < bx := by have := HZ4.out.lt; omega
  rw [← hV]
  rw [hbx]
  clear hV hbx d0 d1 d2 d3 d4 d5 c0
  go_cut [1] (fun v wx => Hid (HoldsW w v r) ∧ wx = V)
  case first =>
    go_upto_region 8 with fail
    all_goals (
      go_meet
      case rel => exact ⟨by first | exact HU3.out | (have h := HU3.out; simp_all; done) | (have h := HU3.out; simp_all [Addr.add]; done), rfl⟩)
  case rest =>
  obtain ⟨HU4, rfl⟩ := hcut
  go_wp2_with (go_at_call 60; refine (many_to (k : Int) _ (M : Int) HM.out).mono ?_; rintro e w5 ⟨rfl, rfl⟩)
  go_loopw [1, 9] (fun lv iv w' => ∃ (j : Nat) (A : List Int) (T : List ByteArray) (y : Value), j ≤ M ∧ iv = .int .i64 j ∧ Hid (A.length = j) ∧ Hid (HoldsW w lv T) ∧ Hid (∀ t ∈ T, t.size ≤ 3000) ∧ Hid (BoxN w' w.heap.size #[.string ⟨#[]⟩, .int .i64 0, .slice none 0 0, .slice none 0 0, .int .i64 0]) ∧ Hid (BoxN w' bx #[.string t0, .int .i64 k, y, .slice none 0 0, .int .i64 0]) ∧ Hid (Own w' (bx + 1) y A) ∧ Hid (Below w.heap.size w w') ∧ bx + 1 ≤ w'.heap.size ∧ Hid (lineA L t0 k A (M - j) T = (E, N))) (fun _ iv _ => M - (intOf iv).toNat)
  case atStart => exact ⟨0, [], r, _, Nat.zero_le _, rfl, rfl, HU4.out, HTS0.out, HZV.out, HXV.out, Own.nil _ _, HBV.out, hsV, HHE.out⟩
  case round =>
    obtain ⟨j, A, T, y, hj, rfl, hAj, HTW, HTS, HZZ, HXX, HOA, HBB, hsz, HF⟩ := hrel
    obtain ⟨a, c, e1, hac⟩ := HTW.out.shape
    subst e1
    obtain ⟨ya, yn, yc, e1⟩ := HOA.out.ints.shape3
    subst e1
    by_cases hlt : j < M
    · have gj : (j : Int) < (M : Int) := by omega
      cases T with
      | nil =>
        have HE : Hid (E = 5) := by
          have h := HF.out
          rw [show M - j = (M - j - 1) + 1 by omega, lineA_nil] at h
          simp only [Prod.mk.injEq] at h
          exact h.1.symm
        line_z HZZ.out
        go_wp2
        line_out 5
      | cons t T =>
        obtain ⟨b, off, rfl, -, hlc, hc0⟩ := HTW.out.first
        have HC1 : Hid (∀ w', Below w.heap.size w w' → w'.cell? ⟨b, off, none⟩ = some (.string t)) := fun w' hb => cell_later hb hc0
        have d0 := HC1.out _ HBB.out
        obtain ⟨nn, hnn⟩ : ∃ nn, (t :: T).length = nn := ⟨_, rfl⟩
        have HTW2 : Hid (HoldsW w (.slice (some ⟨b, off, none⟩) nn c) (t :: T)) := by rw [← hnn]; exact HTW.out
        have hn1 : 1 ≤ nn := by rw [← hnn]; simp
        rw [hnn]
        have gz : ¬ (nn : Int) = 0 := by omega
        have bz : ((nn : Int) == 0) = false := by rw [beq_eq_false_iff_ne]; exact gz
        have g0 : (0 : Int) < (nn : Int) := by omega
        have gl : (1 : Int) ≤ (nn : Int) := by omega
        have HST : Hid (t.size ≤ 3000) := HTS.out t (by simp)
        have hst := HST.out
        have HTS2 : Hid (∀ t ∈ T, t.size ≤ 3000) := fun u hu => HTS.out u (by simp [hu])
        obtain ⟨q, hq⟩ : ∃ q, nameB t = q := ⟨_, rfl⟩
        have HQ : Hid (nameB t = q) := hq
        obtain ⟨x, hx⟩ : ∃ x, nmdN L t 0 = x := ⟨_, rfl⟩
        have HX : Hid (nmdN L t 0 = x) := hx
        have HF2 : Hid ((if q && decide (0 ≤ x) then lineA L t0 k (A ++ [x]) (M - (j + 1)) T else (5, nod0)) = (E, N)) := by
          have h := HF.out
          rw [show M - j = (M - (j + 1)) + 1 by omega, lineA_cons, HQ.out, HX.out] at h
          exact h
        clear hq hx HF HTW HTS hnn hc0
        cases q with
        | false =>
          have HE : Hid (E = 5) := by
            have h := HF2.out
            rw [if_neg (by simp)] at h
            simp only [Prod.mk.injEq] at h
            exact h.1.symm
          have HZ6 := HZZ
          have HB6 := HBB
          clear HZZ HBB
          go_wp2_with (go_at_call 41; refine (RN.name (by omega) (RN.later HB6.out HT.out) false HQ.out).mono ?_; rintro e w2 ⟨rfl, hb2⟩; have HZZ : Hid (BoxN w2 w.heap.size #[.string ⟨#[]⟩, .int .i64 0, .slice none 0 0, .slice none 0 0, .int .i64 0]) := HZ6.out.later hb2; have HBB : Hid (Below w.heap.size w w2) := Below.after HB6.out hb2; line_z HZZ.out; clear hb2)
          line_out 5
        | true =>
          by_cases hx0' : 0 ≤ x
          · have HF3 : Hid (lineA L t0 k (A ++ [x]) (M - (j + 1)) T = (E, N)) := by
              have h := HF2.out
              rw [if_pos (by simpa using hx0')] at h
              exact h
            have HTD : Hid (HoldsW w (.slice (if c = 1 then some ⟨b, off, none⟩ else (some (⟨b, off, none⟩ : Addr)).map (·.add (1 * 2))) (nn - 1) (c - 1)) T) := HTW2.out.drop 1 (by simp)
            have HTD1 : Hid (c = 1 → HoldsW w (.slice (some ⟨b, off, none⟩) (nn - 1) 0) T) := fun hc => by have h := HTD.out; rw [if_pos hc, show c - 1 = 0 by omega] at h; exact h
            have HTD2 : Hid (¬ c = 1 → HoldsW w (.slice (some ⟨b, off + 2, none⟩) (nn - 1) (c - 1)) T) := fun hc => by have h := HTD.out; rw [if_neg hc] at h; simpa [Addr.add] using h
            have gx : ¬ x < 0 := by omega
            obtain ⟨iI, hi, hi0, hi1, hi2⟩ := info3
            have HI : Hid (Tryz.prog.info? 3 = some iI) := hi
            have HI0 : Hid (iI.zero = some (.int .i64 0)) := hi0
            have HI1 : Hid (iI.size = 1) := hi1
            have HI2 : Hid (iI.bytes = 8) := hi2
            clear hi hi0 hi1 hi2 HF2 HTW2
            go_upto_region 14 with (first
              | (go_at_call 41; refine (RN.name (by omega) (RN.later HBB.out HT.out) true HQ.out).mono ?_; rintro e w2 ⟨rfl, hb2⟩; have HZ2 : Hid (BoxN w2 w.heap.size #[.string ⟨#[]⟩, .int .i64 0, .slice none 0 0, .slice none 0 0, .int .i64 0]) := HZZ.out.later hb2; have HX2 : Hid (BoxN w2 bx #[.string t0, .int .i64 k, .slice ya yn yc, .slice none 0 0, .int .i64 0]) := HXX.out.later hb2; have HA2 : Hid (Own w2 (bx + 1) (.slice ya yn yc) A) := HOA.out.later hb2; have HB2 : Hid (Below w.heap.size w w2) := Below.after HBB.out hb2; have hs2 : bx + 1 ≤ w2.heap.size := Nat.le_trans hsz hb2.size; have d1 := HC1.out _ HB2.out; clear hb2)
              | (go_at_call 42; refine (rnamed_any (HNL.out.later HB2.out) t x HX.out).mono ?_; rintro e w3 ⟨rfl, rfl⟩))
            have e2 : w2.cell? ⟨bx, 2, none⟩ = some (.slice ya yn yc) := HX2.out.c 2
            have ef : w2.frozen? ⟨bx, 2, none⟩ = false := HX2.out.f 2
            clear d0 HZZ HXX HOA HBB
            have e2a : (w2.alloc (.cells #[.int .i64 x] 3)).cell? ⟨bx, 2, none⟩ = some (.slice ya yn yc) := (HX2.out.alloc _).c 2
            have gN : 0 < nn := by omega
            have HN1 : Hid (∀ w', Below w.heap.size w w' → ∀ j u, [Value.int .i64 x][j]? = some u → (w2.alloc (.cells #[.int .i64 x] 3)).drew.cell? ((⟨w2.heap.size, 0, none⟩ : Addr).add j) = some u) := fun _ _ => cell_one_new w2 _ _
            have HA3 : Hid ((w2.alloc (.cells #[.int .i64 x] 3)).drew.ownsRow (bx + 1) 3 1 (.slice ya yn yc) A.length (A.map (Value.int .i64))) := HA2.out.row.alloc _
            have HP : Hid (∀ v1 w1, w1.ownsRow (bx + 1) 3 1 v1 (A.length + 1) (A.map (Value.int .i64) ++ [.int .i64 x]) → (w2.alloc (.cells #[.int .i64 x] 3)).drew.grownBy w1 (Value.slice ya yn yc).ownBlock → Own w1 (bx + 1) v1 (A ++ [x]) ∧ Below (bx + 1) w2 w1 ∧ BoxN w1 bx #[.string t0, .int .i64 k, .slice ya yn yc, .slice none 0 0, .int .i64 0] ∧ BoxN w1 w.heap.size #[.string ⟨#[]⟩, .int .i64 0, .slice none 0 0, .slice none 0 0, .int .i64 0]) := fun v1 w1 ho hg => by
              have h1 : Below (bx + 1) w2 w1 := (((Below.refl (bx + 1) w2).alloc hs2 _).drew).grown hg (by simp; omega) (fun q hq => (HA2.out.row.lt q hq).1)
              refine ⟨⟨?_, ?_⟩, h1, (h1.block bx (by omega)).trans HX2.out, (h1.block _ (by omega)).trans HZ2.out⟩
              · simp only [List.length_append, List.map_append, List.length_cons, List.length_nil, List.map_cons, List.map_nil] at ho ⊢
                exact ho
              · have := hAj.out
                simp only [List.length_append, List.length_cons, List.length_nil]
                unfold big
                omega
            go_region_law (first
              | (rw [if_pos (by simp [Region.wanted])]; go_simp; go_at_call 42; refine (rnamed_any (HNL.out.later HB2.out.drew) t x HX.out).mono ?_; rintro e w3 ⟨rfl, rfl⟩)
              | (refine step_append_lies _ rfl (.tmp 90) (.tmp 97) 23 rfl (bx + 1) 3 iI (.int .i64 0) 1 8 Tryz.underlying23 HI.out HI0.out HI1.out HI2.out rfl (by decide) (.slice ya yn yc) A.length (A.map (Value.int .i64)) (by simp [Act.eval, Act.put]) HA3.out ⟨w2.heap.size, 0, none⟩ 1 1 [.int .i64 x] (by simp [Act.eval, Act.put]) rfl (HN1.out w (Below.refl _ _)) (by intro u hu; simp at hu; subst hu; rfl) (by decide) (by have := hAj.out; unfold maxLen; omega) (by have := hAj.out; omega) (by simp; omega) (w2.heap.size + 1) (by simp) ?_; intro g1 cap1 w1 ho hg _ _; obtain ⟨ho1, hb1, hx1, hz1⟩ := HP.out _ _ ho hg; have HO1 : Hid (Own w1 (bx + 1) _ (A ++ [x])) := ho1; have HB1 : Hid (Below (bx + 1) w2 w1) := hb1; have HX1 : Hid (BoxN w1 bx _) := hx1; have HZ1 : Hid (BoxN w1 w.heap.size _) := hz1; have ef1 : w1.frozen? ⟨bx, 2, none⟩ = false := hx1.f 2; have ec1 : w1.cell? ⟨bx, 2, none⟩ = some (.slice ya yn yc) := hx1.c 2; clear ho hg ho1 hb1 hx1 hz1))
            all_goals (
              go_wp2
              go_roundw
              case rel => exact ⟨j + 1, A ++ [x], T, .slice (some ⟨g1, 0, none⟩) (A.length + 1) cap1, by omega, by go_num, (by show _ = _; have := hAj.out; simp; omega), (by first | exact HTD.out | exact HTD1.out (by assumption) | exact HTD2.out (by assumption)), HTS2.out, HZ1.out.other _ _ (show w.heap.size ≠ bx by omega), HX1.out.set 2 (.slice (some ⟨g1, 0, none⟩) (A.length + 1) cap1), HO1.out.below ⟨bx, 2, none⟩ _ (show bx < bx + 1 by omega), (HB2.out.trans (HB1.out.mono (by omega))).setCell (show w.heap.size ≤ (⟨bx, 2, none⟩ : Addr).block by show _ ≤ bx; omega) _, (by have := HB1.out.size; simp; omega), HF3.out⟩
              case measure => (simp [intOf]; omega))
          · have HE : Hid (E = 5) := by
              have h := HF2.out
              rw [if_neg (by simpa using hx0')] at h
              simp only [Prod.mk.injEq] at h
              exact h.1.symm
            have gx : x < 0 := by omega
            have HZ6 := HZZ
            have HB6 := HBB
            clear HZZ HBB hx0'
            go_wp2_with (first
              | (go_at_call 41; refine (RN.name (by omega) (RN.later HB6.out HT.out) true HQ.out).mono ?_; rintro e w2 ⟨rfl, hb2⟩; have HZZ : Hid (BoxN w2 w.heap.size #[.string ⟨#[]⟩, .int .i64 0, .slice none 0 0, .slice none 0 0, .int .i64 0]) := HZ6.out.later hb2; have HBB : Hid (Below w.heap.size w w2) := Below.after HB6.out hb2; line_z HZZ.out; have d1 := HC1.out _ HBB.out; clear hb2)
              | (go_at_call 42; refine (rnamed_any (HNL.out.later HBB.out) t x HX.out).mono ?_; rintro e w3 ⟨rfl, rfl⟩))
            line_out 5
    · have gj : ¬ (j : Int) < (M : Int) := by omega
      have hjM : j = M := by omega
      subst hjM
      have HF2 : Hid (lineB L t0 k A T = (E, N)) := by
        have h := HF.out
        rw [show j - j = 0 by omega, lineA_zero] at h
        exact h
      have HLA : Hid (A.length ≤ 100000000) := by show _ ≤ _; have := hAj.out; omega
      have HSZ : Hid (bx + 1 ≤ wr.heap.size) := hsz
      clear HF
      cases T with
      | nil =>
        have HE : Hid (E = 5) := by
          have h := HF2.out
          rw [lineB_nil _ _ _ _ HNB.out] at h
          simp only [Prod.mk.injEq] at h
          exact h.1.symm
        line_z HZZ.out
        go_wp2
        line_out 5
      | cons t T =>
        obtain ⟨b, off, rfl, -, hlc, hc0⟩ := HTW.out.first
        have d0 : wr.cell? ⟨b, off, none⟩ = some (.string t) := cell_later HBB.out hc0
        obtain ⟨nn, hnn⟩ : ∃ nn, (t :: T).length = nn := ⟨_, rfl⟩
        have HTW2 : Hid (HoldsW w (.slice (some ⟨b, off, none⟩) nn c) (t :: T)) := by rw [← hnn]; exact HTW.out
        have hn1 : 1 ≤ nn := by rw [← hnn]; simp
        have hlc2 : nn ≤ c := by rw [← hnn]; exact hlc
        rw [hnn]
        have gz : ¬ (nn : Int) = 0 := by omega
        have bz : ((nn : Int) == 0) = false := by rw [beq_eq_false_iff_ne]; exact gz
        have g0 : (0 : Int) < (nn : Int) := by omega
        have gl : (1 : Int) ≤ (nn : Int) := by omega
        have HST : Hid (t.size ≤ 3000) := HTS.out t (by simp)
        have HTS2 : Hid (∀ t ∈ T, t.size ≤ 3000) := fun u hu => HTS.out u (by simp [hu])
        obtain ⟨q, hq⟩ : ∃ q, numK t.data.toList = q := ⟨_, rfl⟩
        have HQ : Hid (numK t.data.toList = q) := hq
        obtain ⟨n, hx⟩ : ∃ x, numV t.data.toList = x := ⟨_, rfl⟩
        have HX : Hid (numV t.data.toList = n) := hx
        have HF3 : Hid ((if q then lineC L t0 k A n T else (5, nod0)) = (E, N)) := by
          have h := HF2.out
          rw [lineB_cons _ _ _ _ _ _ HNB.out, HQ.out, HX.out] at h
          exact h
        have HNC : Hid (∀ (w : World), Calls Tryz.prog 61 #[.string t] w fun e w' => e = .returned (.tuple #[.int .i64 n, .bool q]) ∧ w = w') := fun w => by
          have h := rnumber_to t w (by have := HST.out; omega)
          rw [HX.out, HQ.out] at h
          exact h
        clear hq hx HF2 HTW HTS hnn hc0
        cases q with
        | false =>
          have HE : Hid (E = 5) := by
            have h := HF3.out
            rw [if_neg (by simp)] at h
            simp only [Prod.mk.injEq] at h
            exact h.1.symm
          line_z HZZ.out
          go_wp2_with (go_at_call 61; refine (HNC.out _).mono ?_; rintro e w8 ⟨rfl, rfl⟩)
          line_out 5
        | true =>
          have HF : Hid (lineC L t0 k A n T = (E, N)) := by
            have h := HF3.out
            rw [if_pos rfl] at h
            exact h
          have HTW : Hid (HoldsW w (.slice (if c = 1 then some ⟨b, off, none⟩ else (some (⟨b, off, none⟩ : Addr)).map (·.add (1 * 2))) (nn - 1) (c - 1)) T) := HTW2.out.drop 1 (by simp)
          have HTS := HTS2
          have k4 : wr.cell? ⟨bx, 4, none⟩ = some (.int .i64 0) := HXX.out.c 4
          have kf : wr.frozen? ⟨bx, 4, none⟩ = false := HXX.out.f 4
          clear HF3 HTW2 HTS2
          go_upto_region 23 with (go_at_call 61; refine (HNC.out _).mono ?_; rintro e w8 ⟨rfl, rfl⟩)
          obtain ⟨W, hW⟩ : ∃ W, W = wr.setCell ⟨bx, 4, none⟩ (.int .i64 n) := ⟨_, rfl⟩
          rw [← hW]
          have HXX' : Hid (BoxN W bx #[.string t0, .int .i64 k, .slice ya yn yc, .slice none 0 0, .int .i64 n]) := by show BoxN _ _ _; rw [hW]; exact HXX.out.set 4 _
          have HZZ' : Hid (BoxN W w.heap.size #[.string ⟨#[]⟩, .int .i64 0, .slice none 0 0, .slice none 0 0, .int .i64 0]) := by show BoxN _ _ _; rw [hW]; exact HZZ.out.other _ _ (show w.heap.size ≠ bx by omega)
          have HOA' : Hid (Own W (bx + 1) (.slice ya yn yc) A) := by show Own _ _ _ _; rw [hW]; exact HOA.out.below _ _ (show bx < bx + 1 by omega)
          have HBB' : Hid (Below w.heap.size w W) := by show Below _ _ _; rw [hW]; exact HBB.out.setCell (show w.heap.size ≤ bx by omega) _
          have HSZ' : Hid (bx + 1 ≤ W.heap.size) := by show _ ≤ _; rw [hW]; simpa using HSZ.out
          clear hW HXX HZZ HOA HBB HSZ hsz k4 kf d0
          have HXX := HXX'
          have HZZ := HZZ'
          have HOA := HOA'
          have HBB := HBB'
          have HSZ := HSZ'
          clear HXX' HZZ' HOA' HBB' HSZ'
          go_cut [1] (fun v wx => Hid (HoldsW w v T) ∧ wx = W)
          case first =>
            by_cases hc1 : c = 1
            · have HTX : Hid (HoldsW w (.slice (some ⟨b, off, none⟩) 0 0) T) := by have h := HTW.out; rw [if_pos hc1, show c - 1 = 0 by omega, show nn - 1 = 0 by omega] at h; exact h
              subst hc1
              go_upto_region 24 with fail
              all_goals (
                go_meet
                case rel => exact ⟨HTX.out, rfl⟩)
            · have hc2 : ¬ 1 = c := fun e => hc1 e.symm
              have HTX : Hid (HoldsW w (.slice (some ⟨b, off + 2, none⟩) (nn - 1) (c - 1)) T) := by have h := HTW.out; rw [if_neg hc1] at h; show HoldsW _ _ _; simpa [Addr.add] using h
              go_upto_region 24 with fail
              all_goals (
                go_meet
                case rel => exact ⟨HTX.out, rfl⟩)
          case rest =>
          obtain ⟨HTW, hwx⟩ := hcut
          have hwy := hwx.symm
          subst hwy
          clear hwx
          obtain ⟨a, c', e1, hac⟩ := HTW.out.shape
          subst e1
          have HAS : Hid (askI k = false) := HAI.out
          have HF2 : Hid (lineD L t0 k A n [] T = (E, N)) := by
            have h := HF.out
            rw [lineC, if_neg (by rw [HAI.out]; simp)] at h
            exact h
          clear HF
          have HF := HF2
          clear HF2
          have HDV : Hid (Ints W (.slice none 0 0) []) := Ints.nil _
          obtain ⟨D, hDD⟩ : ∃ D : List Int, D = [] := ⟨_, rfl⟩
          rw [← hDD] at HF HDV
          go_upto_region 34 with (go_at_call 45; refine (asked_to (k : Int) _ false HAS.out).mono ?_; rintro e w6 ⟨rfl, rfl⟩)
          clear hDD

          by_cases hT0 : T = []
          · subst hT0
            have HFF : Hid ((if 24 ≤ L.length then (2, nod0) else (inE k n D L A, ⟨t0, k, A, inR k n D L A, n⟩)) = (E, N)) := by
              have h := HF.out
              rw [lineD, if_pos rfl] at h
              exact h
            clear HF
            by_cases h24 : 24 ≤ L.length
            · have HE : Hid (E = 2) := by
                have h := HFF.out
                rw [if_pos h24] at h
                simp only [Prod.mk.injEq] at h
                exact h.1.symm
              have g24 : (24 : Int) ≤ (L.length : Int) := by omega
              line_z HZZ.out
              clear h24
              go_wp2
              line_out 2
            · have HE : Hid (rinE k n D L A = E ∧ N = ⟨t0, k, A, inR k n D L A, n⟩) := by
                have h := HFF.out
                rw [if_neg h24] at h
                simp only [Prod.mk.injEq] at h
                exact ⟨(in_rin _ _ _ _ _).1.trans h.1, h.2.symm⟩
              have g24 : ¬ (24 : Int) ≤ (L.length : Int) := by omega
              have e2 : W.cell? ⟨bx, 2, none⟩ = some (.slice ya yn yc) := HXX.out.c 2
              have e4 : W.cell? ⟨bx, 4, none⟩ = some (.int .i64 n) := HXX.out.c 4
              clear h24 HFF
              go_wp2_with (go_at_call 62; refine (rinfer_any (L := L) (d := D) (A := A) (k : Int) n (HNL.out.later HBB.out) HDV.out HOA.out.ints HLA.out).mono ?_; rintro e w9 ⟨x9, rfl, ho9, hb9⟩; rw [HE.out.1]; obtain ⟨p9, n9, c9, rfl⟩ := ho9.ints.shape3; have HO9 : Hid (Own w9 W.heap.size (.slice p9 n9 c9) (rinR k n D L A)) := ho9; have HX9 : Hid (BoxN w9 bx #[.string t0, .int .i64 k, .slice ya yn yc, .slice none 0 0, .int .i64 n]) := HXX.out.later hb9; have HZ9 : Hid (BoxN w9 w.heap.size #[.string ⟨#[]⟩, .int .i64 0, .slice none 0 0, .slice none 0 0, .int .i64 0]) := HZZ.out.later hb9; have HB9 : Hid (Below w.heap.size w w9) := Below.after HBB.out hb9; have HA9 : Hid (Own w9 (bx + 1) (.slice ya yn yc) A) := HOA.out.later hb9; have HS9 : Hid (bx + 1 ≤ W.heap.size) := HSZ.out; clear ho9 hb9; line_z HZ9.out; have k0 : w9.cell? ⟨bx, 0, none⟩ = some (.string t0) := HX9.out.c 0; have k1 : w9.cell? ⟨bx, 1, none⟩ = some (.int .i64 k) := HX9.out.c 1; have k2 : w9.cell? ⟨bx, 2, none⟩ = some (.slice ya yn yc) := HX9.out.c 2; have k3 : w9.cell? ⟨bx, 3, none⟩ = some (.slice none 0 0) := HX9.out.c 3; have k4 : w9.cell? ⟨bx, 4, none⟩ = some (.int .i64 n) := HX9.out.c 4; have kf := HX9.out.f 3)
              have BX : Hid (BoxN (w9.setCell ⟨bx, 3, none⟩ (.slice p9 n9 c9)) w.heap.size #[.string ⟨#[]⟩, .int .i64 0, .slice none 0 0, .slice none 0 0, .int .i64 0]) := HZ9.out.other _ _ (show w.heap.size ≠ bx by omega)
              have BR : Hid (BoxN _ w.heap.size #[.string t0, .int .i64 k, .slice ya yn yc, .slice p9 n9 c9, .int .i64 n]) := ((((BX.out.set 0 (.string t0)).set 1 (.int .i64 k)).set 2 (.slice ya yn yc)).set 3 (.slice p9 n9 c9)).set 4 (.int .i64 n)
              have r0 := (BR.out.c 0).trans (show _ = some (.string t0) from rfl)
              have r1 := (BR.out.c 1).trans (show _ = some (.int .i64 k) from rfl)
              have r2 := (BR.out.c 2).trans (show _ = some (.slice ya yn yc) from rfl)
              have r3 := (BR.out.c 3).trans (show _ = some (.slice p9 n9 c9) from rfl)
              have r4 := (BR.out.c 4).trans (show _ = some (.int .i64 n) from rfl)
              have hs9 := HS9.out
              refine bodyPost_ret (v := .tuple #[.agg #[.string t0, .int .i64 k, .slice ya yn yc, .slice p9 n9 c9, .int .i64 n], .int .i64 E]) (by simp [results, Tryz.results31, go_sem, r0, r1, r2, r3, r4]) rfl ⟨_, _, _, _, _, rfl, ⟨_, _, _, rfl⟩, ⟨_, _, _, rfl⟩, (fun _ => ?_), ?_⟩
              · rw [HE.out.2]
                refine ⟨rfl, rfl, rfl, ?_, ?_⟩
                · exact (((((((HA9.out.below ⟨bx, 3, none⟩ _ (by show bx < bx + 1; omega)).below ⟨w.heap.size, 0, none⟩ _ (by show w.heap.size < _; omega)).below ⟨w.heap.size, 1, none⟩ _ (by show w.heap.size < _; omega)).below ⟨w.heap.size, 2, none⟩ _ (by show w.heap.size < _; omega)).below ⟨w.heap.size, 3, none⟩ _ (by show w.heap.size < _; omega)).below ⟨w.heap.size, 4, none⟩ _ (by show w.heap.size < _; omega))).mono (by omega)
                · have h9 := HO9.out
                  rw [(in_rin _ _ _ _ _).2] at h9
                  exact (((((((h9.below ⟨bx, 3, none⟩ _ (by show bx < _; omega)).below ⟨w.heap.size, 0, none⟩ _ (by show w.heap.size < _; omega)).below ⟨w.heap.size, 1, none⟩ _ (by show w.heap.size < _; omega)).below ⟨w.heap.size, 2, none⟩ _ (by show w.heap.size < _; omega)).below ⟨w.heap.size, 3, none⟩ _ (by show w.heap.size < _; omega)).below ⟨w.heap.size, 4, none⟩ _ (by show w.heap.size < _; omega))).mono (by omega)
              · exact ((((((HB9.out.setCell (show w.heap.size ≤ bx by omega) _).setCell (Nat.le_refl _) _).setCell (Nat.le_refl _) _).setCell (Nat.le_refl _) _).setCell (Nat.le_refl _) _).setCell (Nat.le_refl _) _)
          · have HE : Hid (E = 5) := by
              have h := HF.out
              rw [lineD, if_neg hT0] at h
              simp only [Prod.mk.injEq] at h
              exact h.1.symm
            have gT : (0 : Int) < (T.length : Int) := by have : 0 < T.length := List.length_pos_iff.2 hT0; omega
            line_z HZZ.out
            clear hT0
            first
              | (exfalso; omega)
              | (go_wp2
                 line_out 5)
end Go.Proofs.YtkojdigaoihkpaaGreatDoor

end
section
namespace Go.Proofs.YtkojdigaoihkpaaGreatDoor
set_option linter.unusedVariables false
set_option linter.unusedSimpArgs false
set_option maxRecDepth 100000
open Go.RowKit

theorem rline_words {v u : Value} {L : List Nod} {w : World} (h : NodesL w v L) (hT : Lib.Utf8Tabs 0 1 w) : ∀ (X : List ByteArray) (hu : HoldsW w u X) (hts : ∀ t ∈ X, t.size ≤ 3000) (E : Int) (N : Nod) (hE : lineF L X = (E, N)), Calls Tryz.prog 31 #[v, u] w (LineP w E N)
  | [], hu, hts, E, N, hE => by
    have e : E = 5 := by simp [lineF] at hE; exact hE.1.symm
    subst e
    exact rline_short h hu (by simp) N
  | [_], hu, hts, E, N, hE => by
    have e : E = 5 := by simp [lineF] at hE; exact hE.1.symm
    subst e
    exact rline_short h hu (by simp) N
  | [_, _], hu, hts, E, N, hE => by
    have e : E = 5 := by simp [lineF] at hE; exact hE.1.symm
    subst e
    exact rline_short h hu (by simp) N
  | t0 :: t1 :: t2 :: r, hu, hts, E, N, hE => by
    rw [lineF_head] at hE
    cases hh : headB L t0 t1 t2 with
    | false =>
      rw [hh] at hE
      have e : E = 5 := by simp at hE; exact hE.1.symm
      subst e
      exact rline_head rname8 h hu hT (hts t0 (by simp)) N hh
    | true =>
      rw [hh] at hE
      simp only [if_true] at hE
      simp only [headB, Bool.and_eq_true, decide_eq_true_eq] at hh
      obtain ⟨⟨⟨hn0, hx0⟩, h1⟩, hk0⟩ := hh
      have hk15 := kindF_le t2
      obtain ⟨k, hk⟩ : ∃ k, kindF t2 = k := ⟨_, rfl⟩
      rw [hk] at hE hk0 hk15
      have hkk : 1 ≤ k ∧ k ≤ 15 := ⟨by omega, hk15⟩
      by_cases h3 : k = 3
      · exact rline_3 rname8 h hu hT hts k hk hkk h3 hn0 hx0 h1 E N hE
      by_cases h8 : k = 8
      · exact rline_8 rname8 h hu hT hts k hk hkk h8 hn0 hx0 h1 E N hE
      by_cases h15 : k = 15
      · exact rline_15 rname8 h hu hT hts k hk hkk h15 hn0 hx0 h1 E N hE
      have hnb : numbI k = false := by simp [numbI, h3, h8, h15]
      cases hai : askI (k : Int) with
      | true => exact rline_A rname8 h hu hT hts k hk hkk hnb hai hn0 hx0 h1 E N hE
      | false => exact rline_N rname8 h hu hT hts k hk hkk hnb hai hn0 hx0 h1 E N hE
theorem lineC9 : LineC (Lib.Utf8Tabs 0 1) where
  line := by
    intro v u L T w h hs hu hT hl hts hL E N hE
    exact rline_words h hT (T.map Prod.fst) hu.words (fun t ht => by
      obtain ⟨p, hp, rfl⟩ := List.mem_map.1 ht
      exact hts p hp) E N hE
/-- The page's Read. -/
theorem rread9 (s : ByteArray) (w : World) (hT : Lib.Utf8Tabs 0 1 w) (G : List Nod) (ln er : Int) (hr : readF s = (G, ln, er)) :
    Calls Tryz.prog 11 #[.string s] w fun e w' => ∃ v xs, e = .returned (.tuple #[v, .int .i64 ln, .int .i64 er]) ∧ RowN w' w.heap.size v G xs ∧ Small G ∧ Below w.heap.size w w' := rread_any lineC9 s w hT G ln er hr
end Go.Proofs.YtkojdigaoihkpaaGreatDoor

end
section
namespace Go.Proofs.YtkojdigaoihkpaaGreatDoor
set_option linter.unusedVariables false
set_option linter.unusedSimpArgs false
set_option maxRecDepth 100000
open Go.RowKit

theorem byte9_run (w : World) (b : Nat) (hb : b < 256) : (convert 28 9 (.slice (some ⟨w.heap.size, 0, none⟩) 1 1)).run Tryz.prog (w.alloc (.cells #[.int .u8 b] 5)) = .ok (.string ⟨#[UInt8.ofNat b]⟩) (w.alloc (.cells #[.int .u8 b] 5)) := by
  have h := run_convert_bytes_back (P := Tryz.prog) (w.alloc (.cells #[.int .u8 b] 5)) 28 9 5 ⟨w.heap.size, 0, none⟩ 1 [UInt8.ofNat b] Tryz.underlying28 Tryz.underlying5 Tryz.underlying9 (fun j hj => by
    have : j = 0 := by simp at hj; omega
    subst this
    have e : ((UInt8.ofNat b).toNat : Int) = (b : Int) := by rw [UInt8.toNat_ofNat']; omega
    have := cell_one_new w (.int .u8 b) 5 0 _ rfl
    rw [this]
    simp only [List.getElem_cons_zero]
    rw [e])
  exact h
/-- What both readings lean on. -/
structure Tab9 (w : World) : Prop where
  u : Lib.Utf8Tabs 0 1 w
  m : ∃ m, w.cell? ⟨2, 0, none⟩ = some (.int .i64 m)
theorem Tab9.later {w w' : World} (h : Tab9 w) (hb : Below w.heap.size w w') : Tab9 w' :=
  ⟨Utf8Tabs_below h.u hb, let ⟨m, hm⟩ := h.m; ⟨m, cell_later hb hm⟩⟩
/-- Where the texts are gone through. -/
def LimI (W : World) (n : Nat) (iv : Value) (w' : World) : Prop := ∃ k : Nat, k ≤ n ∧ iv = .int .i64 k ∧ Below W.heap.size W w'
set_option maxRecDepth 1000000 in
set_option maxHeartbeats 32000000 in
theorem textLimits9 {f0 f1 : Value} {S : List ByteArray} {w : World} (h0 : Strs w f0 S) (h1 : ∃ a n c, f1 = .slice a n c) (hT : Tab9 w) :
    Calls Tryz.prog 6 #[.agg #[f0, f1]] w fun e w' => e = .returned (.bool true) ∧ Below w.heap.size w w' := by
  obtain ⟨a1, n1, c1, rfl⟩ := h1
  obtain ⟨a0, c0, rfl, _⟩ := h0.row
  obtain ⟨U, hU⟩ : ∃ U, U = w.alloc (.cells #[.slice a0 S.length c0, .slice a1 n1 c1] 25) := ⟨_, rfl⟩
  have HUU : Hid (U = w.alloc (.cells #[.slice a0 S.length c0, .slice a1 n1 c1] 25)) := hU
  have hb : Below w.heap.size w U := by rw [hU]; exact Below.push (Below.refl _ _) _
  have HB : Hid (Below w.heap.size w U) := hb
  have HU0 : Hid (U.cell? ⟨w.heap.size, 0, none⟩ = some (.slice a0 S.length c0)) := by show _ = _; rw [hU]; simp
  have HTU : Hid (Tab9 U) := hT.later hb
  clear hb hU h0 hT
  go_enter Tryz.func6, Tryz.ntmps6
  go_upto_region 1 with fail
  rw [← HUU.out]
  go_wp2_with fail
  go_loopw [3, 4] (fun v i w' => ∃ (k : Nat) (s : ByteArray), k ≤ 24 ∧ i = .int .i64 k ∧ v = .string s ∧ s.size ≤ 100 * k ∧ Hid (Below U.heap.size U w')) (fun _ i _ => 24 - (intOf i).toNat)
  case atStart => exact ⟨0, _, Nat.zero_le _, rfl, rfl, by decide, Below.refl _ _⟩
  case round =>
    obtain ⟨k, s, hk, rfl, rfl, hs, HBR⟩ := hrel
    by_cases hlt : k < 24
    · have g1 : (k : Int) < 24 := by omega
      have gu : IntKind.u8.wrap (97 + (k : Int)) = 97 + (k : Int) := by simp [IntKind.wrap, IntKind.signed, IntKind.bits]; omega
      have hcv : (convert 28 9 (.slice (some ⟨wr.heap.size, 0, none⟩) 1 1)).run Tryz.prog (wr.alloc (.cells #[.int .u8 (97 + (k : Int))] 5)) = _ := byte9_run wr (97 + k) (by omega)
      obtain ⟨t, ht⟩ : ∃ t, (⟨#[UInt8.ofNat (97 + k)]⟩ : ByteArray) = t := ⟨_, rfl⟩
      have hts : t.size = 1 := by rw [← ht]; rfl
      rw [ht] at hcv
      have hz1 : ¬ 9223372036854775807 < s.size + 1 := by omega
      have hz2 : ¬ 9223372036854775807 < s.size + 1 + t.size := by omega
      have hz3 : ¬ 9223372036854775807 < s.size + 1 + t.size + 12 := by omega
      have HBX : Hid (Below U.heap.size U (wr.alloc (.cells #[.int .u8 (97 + (k : Int))] 5))) := Below.push HBR.out _
      have HSX : Hid ((s ++ ⟨#[110]⟩ ++ t ++ ⟨#[32, 61, 32, 102, 105, 108, 108, 32, 49, 32, 49, 10]⟩).size ≤ 100 * (k + 1)) := by
        show _ ≤ _
        rw [app_size, app_size, app_size]
        have e1 : (⟨#[110]⟩ : ByteArray).size = 1 := rfl
        have e2 : (⟨#[32, 61, 32, 102, 105, 108, 108, 32, 49, 32, 49, 10]⟩ : ByteArray).size = 12 := rfl
        omega
      clear ht
      go_wp2
      exact ⟨⟨k + 1, _, by omega, by go_num, rfl, HSX.out, HBX.out⟩, by simp [intOf]; omega⟩
    · obtain rfl : k = 24 := by omega
      have hz1 : ¬ 9223372036854775807 < s.size + 13 := by omega
      obtain ⟨B, hBB⟩ : ∃ B, wr.heap.size = B := ⟨_, rfl⟩
      obtain ⟨V, hV⟩ : ∃ V, V = wr.alloc (.cells #[.string s, .string (s ++ ⟨#[122, 122, 32, 61, 32, 102, 105, 108, 108, 32, 49, 32, 49]⟩), .string ⟨#[]⟩, .string ⟨#[35, 32, 110, 111, 116, 104, 105, 110, 103]⟩, .string ⟨#[97, 32, 61, 32, 102, 105, 108, 108, 32, 49, 32, 50]⟩, .string ⟨#[97, 32, 61, 32, 105, 110, 32, 57]⟩, .string ⟨#[97, 32, 61, 32, 105, 110, 32, 48, 32, 49]⟩, .string ⟨#[97, 32, 61, 32, 105, 110, 32, 50, 32, 50, 32, 50, 32, 50]⟩, .string ⟨#[97, 32, 61, 32, 105, 110, 32, 56, 32, 56, 32, 56]⟩, .string ⟨#[97, 32, 61, 32, 105, 110, 32, 49, 10, 97, 32, 61, 32, 105, 110, 32, 49]⟩, .string ⟨#[98, 32, 61, 32, 110, 101, 103, 32, 97]⟩, .string ⟨#[97, 32, 61, 32, 105, 110, 32, 49, 10, 98, 32, 61, 32, 109, 97, 120, 32, 97, 32, 48]⟩, .string ⟨#[97, 32, 61, 32, 105, 110, 32, 49, 10, 98, 32, 61, 32, 109, 97, 120, 32, 97, 32, 50]⟩, .string ⟨#[97, 32, 61, 32, 105, 110, 32, 50, 32, 50, 10, 98, 32, 61, 32, 105, 110, 32, 51, 32, 50, 10, 99, 32, 61, 32, 109, 97, 116, 32, 97, 32, 98]⟩, .string ⟨#[97, 32, 61, 32, 105, 110, 32, 49, 10, 98, 32, 61, 32, 115, 99, 97, 108, 101, 32, 97]⟩, .string ⟨#[97, 32, 61, 32, 105, 110, 32, 49, 10, 98, 32, 61, 32, 115, 99, 97, 108, 101, 32, 97, 32, 48, 48, 55]⟩, .string ⟨#[97, 32, 61, 32, 105, 110, 32, 49, 10, 98, 32, 61, 32, 115, 104, 97, 112, 101, 32, 97]⟩, .string ⟨#[97, 32, 61, 32, 115, 116, 101, 112, 32, 49]⟩, .string ⟨#[49, 97, 32, 61, 32, 105, 110, 32, 49]⟩, .string ⟨#[97, 32, 61, 32, 105, 110, 32, 49, 32, 120]⟩, .string ⟨#[97, 32, 105, 110, 32, 49]⟩, .string ⟨#[61, 32, 105, 110, 32, 49]⟩, .string ⟨#[206, 177, 32, 61, 32, 112, 97, 114, 97, 109, 32, 49, 10, 206, 178, 32, 61, 32, 109, 117, 108, 32, 206, 177, 32, 206, 177]⟩] 9) := ⟨_, rfl⟩
      have HVV : Hid (V = wr.alloc (.cells #[.string s, .string (s ++ ⟨#[122, 122, 32, 61, 32, 102, 105, 108, 108, 32, 49, 32, 49]⟩), .string ⟨#[]⟩, .string ⟨#[35, 32, 110, 111, 116, 104, 105, 110, 103]⟩, .string ⟨#[97, 32, 61, 32, 102, 105, 108, 108, 32, 49, 32, 50]⟩, .string ⟨#[97, 32, 61, 32, 105, 110, 32, 57]⟩, .string ⟨#[97, 32, 61, 32, 105, 110, 32, 48, 32, 49]⟩, .string ⟨#[97, 32, 61, 32, 105, 110, 32, 50, 32, 50, 32, 50, 32, 50]⟩, .string ⟨#[97, 32, 61, 32, 105, 110, 32, 56, 32, 56, 32, 56]⟩, .string ⟨#[97, 32, 61, 32, 105, 110, 32, 49, 10, 97, 32, 61, 32, 105, 110, 32, 49]⟩, .string ⟨#[98, 32, 61, 32, 110, 101, 103, 32, 97]⟩, .string ⟨#[97, 32, 61, 32, 105, 110, 32, 49, 10, 98, 32, 61, 32, 109, 97, 120, 32, 97, 32, 48]⟩, .string ⟨#[97, 32, 61, 32, 105, 110, 32, 49, 10, 98, 32, 61, 32, 109, 97, 120, 32, 97, 32, 50]⟩, .string ⟨#[97, 32, 61, 32, 105, 110, 32, 50, 32, 50, 10, 98, 32, 61, 32, 105, 110, 32, 51, 32, 50, 10, 99, 32, 61, 32, 109, 97, 116, 32, 97, 32, 98]⟩, .string ⟨#[97, 32, 61, 32, 105, 110, 32, 49, 10, 98, 32, 61, 32, 115, 99, 97, 108, 101, 32, 97]⟩, .string ⟨#[97, 32, 61, 32, 105, 110, 32, 49, 10, 98, 32, 61, 32, 115, 99, 97, 108, 101, 32, 97, 32, 48, 48, 55]⟩, .string ⟨#[97, 32, 61, 32, 105, 110, 32, 49, 10, 98, 32, 61, 32, 115, 104, 97, 112, 101, 32, 97]⟩, .string ⟨#[97, 32, 61, 32, 115, 116, 101, 112, 32, 49]⟩, .string ⟨#[49, 97, 32, 61, 32, 105, 110, 32, 49]⟩, .string ⟨#[97, 32, 61, 32, 105, 110, 32, 49, 32, 120]⟩, .string ⟨#[97, 32, 105, 110, 32, 49]⟩, .string ⟨#[61, 32, 105, 110, 32, 49]⟩, .string ⟨#[206, 177, 32, 61, 32, 112, 97, 114, 97, 109, 32, 49, 10, 206, 178, 32, 61, 32, 109, 117, 108, 32, 206, 177, 32, 206, 177]⟩] 9)) := hV
      have HCE : Hid (∀ k, k < 23 → ∃ x, V.cell? ⟨B, k, none⟩ = some (.string x)) := fun k hk => by
        rw [hV, ← hBB, cell_of_row _ wr.heap.size k _ _ _ (heap_alloc_new wr _)]
        exact ⟨([s, (s ++ ⟨#[122, 122, 32, 61, 32, 102, 105, 108, 108, 32, 49, 32, 49]⟩), ⟨#[]⟩, ⟨#[35, 32, 110, 111, 116, 104, 105, 110, 103]⟩, ⟨#[97, 32, 61, 32, 102, 105, 108, 108, 32, 49, 32, 50]⟩, ⟨#[97, 32, 61, 32, 105, 110, 32, 57]⟩, ⟨#[97, 32, 61, 32, 105, 110, 32, 48, 32, 49]⟩, ⟨#[97, 32, 61, 32, 105, 110, 32, 50, 32, 50, 32, 50, 32, 50]⟩, ⟨#[97, 32, 61, 32, 105, 110, 32, 56, 32, 56, 32, 56]⟩, ⟨#[97, 32, 61, 32, 105, 110, 32, 49, 10, 97, 32, 61, 32, 105, 110, 32, 49]⟩, ⟨#[98, 32, 61, 32, 110, 101, 103, 32, 97]⟩, ⟨#[97, 32, 61, 32, 105, 110, 32, 49, 10, 98, 32, 61, 32, 109, 97, 120, 32, 97, 32, 48]⟩, ⟨#[97, 32, 61, 32, 105, 110, 32, 49, 10, 98, 32, 61, 32, 109, 97, 120, 32, 97, 32, 50]⟩, ⟨#[97, 32, 61, 32, 105, 110, 32, 50, 32, 50, 10, 98, 32, 61, 32, 105, 110, 32, 51, 32, 50, 10, 99, 32, 61, 32, 109, 97, 116, 32, 97, 32, 98]⟩, ⟨#[97, 32, 61, 32, 105, 110, 32, 49, 10, 98, 32, 61, 32, 115, 99, 97, 108, 101, 32, 97]⟩, ⟨#[97, 32, 61, 32, 105, 110, 32, 49, 10, 98, 32, 61, 32, 115, 99, 97, 108, 101, 32, 97, 32, 48, 48, 55]⟩, ⟨#[97, 32, 61, 32, 105, 110, 32, 49, 10, 98, 32, 61, 32, 115, 104, 97, 112, 101, 32, 97]⟩, ⟨#[97, 32, 61, 32, 115, 116, 101, 112, 32, 49]⟩, ⟨#[49, 97, 32, 61, 32, 105, 110, 32, 49]⟩, ⟨#[97, 32, 61, 32, 105, 110, 32, 49, 32, 120]⟩, ⟨#[97, 32, 105, 110, 32, 49]⟩, ⟨#[61, 32, 105, 110, 32, 49]⟩, ⟨#[206, 177, 32, 61, 32, 112, 97, 114, 97, 109, 32, 49, 10, 206, 178, 32, 61, 32, 109, 117, 108, 32, 206, 177, 32, 206, 177]⟩] : List ByteArray).getD k ⟨#[]⟩, by
          have key : ∀ (T : List ByteArray) k, k < T.length → (T.map Value.string).toArray[k]? = some (.string (T.getD k ⟨#[]⟩)) := fun T k hk => by
            simp [hk, List.getD_eq_getElem?_getD]
          exact key [s, (s ++ ⟨#[122, 122, 32, 61, 32, 102, 105, 108, 108, 32, 49, 32, 49]⟩), ⟨#[]⟩, ⟨#[35, 32, 110, 111, 116, 104, 105, 110, 103]⟩, ⟨#[97, 32, 61, 32, 102, 105, 108, 108, 32, 49, 32, 50]⟩, ⟨#[97, 32, 61, 32, 105, 110, 32, 57]⟩, ⟨#[97, 32, 61, 32, 105, 110, 32, 48, 32, 49]⟩, ⟨#[97, 32, 61, 32, 105, 110, 32, 50, 32, 50, 32, 50, 32, 50]⟩, ⟨#[97, 32, 61, 32, 105, 110, 32, 56, 32, 56, 32, 56]⟩, ⟨#[97, 32, 61, 32, 105, 110, 32, 49, 10, 97, 32, 61, 32, 105, 110, 32, 49]⟩, ⟨#[98, 32, 61, 32, 110, 101, 103, 32, 97]⟩, ⟨#[97, 32, 61, 32, 105, 110, 32, 49, 10, 98, 32, 61, 32, 109, 97, 120, 32, 97, 32, 48]⟩, ⟨#[97, 32, 61, 32, 105, 110, 32, 49, 10, 98, 32, 61, 32, 109, 97, 120, 32, 97, 32, 50]⟩, ⟨#[97, 32, 61, 32, 105, 110, 32, 50, 32, 50, 10, 98, 32, 61, 32, 105, 110, 32, 51, 32, 50, 10, 99, 32, 61, 32, 109, 97, 116, 32, 97, 32, 98]⟩, ⟨#[97, 32, 61, 32, 105, 110, 32, 49, 10, 98, 32, 61, 32, 115, 99, 97, 108, 101, 32, 97]⟩, ⟨#[97, 32, 61, 32, 105, 110, 32, 49, 10, 98, 32, 61, 32, 115, 99, 97, 108, 101, 32, 97, 32, 48, 48, 55]⟩, ⟨#[97, 32, 61, 32, 105, 110, 32, 49, 10, 98, 32, 61, 32, 115, 104, 97, 112, 101, 32, 97]⟩, ⟨#[97, 32, 61, 32, 115, 116, 101, 112, 32, 49]⟩, ⟨#[49, 97, 32, 61, 32, 105, 110, 32, 49]⟩, ⟨#[97, 32, 61, 32, 105, 110, 32, 49, 32, 120]⟩, ⟨#[97, 32, 105, 110, 32, 49]⟩, ⟨#[61, 32, 105, 110, 32, 49]⟩, ⟨#[206, 177, 32, 61, 32, 112, 97, 114, 97, 109, 32, 49, 10, 206, 178, 32, 61, 32, 109, 117, 108, 32, 206, 177, 32, 206, 177]⟩] k hk⟩
      have hbv : Below U.heap.size U V := by rw [hV]; exact Below.push HBR.out _
      have HBV : Hid (Below U.heap.size U V) := hbv
      have HTV : Hid (Tab9 V) := HTU.out.later hbv
      have HBE : Hid (wr.heap.size = B) := hBB
      clear hV hbv hBB
      go_upto_region 7 with fail
      rw [← HVV.out, HBE.out]
      go_wp2_with fail
      go_loopw [6] (fun iv w' => LimI V 23 iv w') (fun iv _ => 23 - (intOf iv).toNat)
      case atStart => exact ⟨0, by decide, rfl, Below.refl _ _⟩
      case round =>
        obtain ⟨k, hk, rfl, hb9⟩ := hrel
        have HB9 : Hid (Below V.heap.size V wr) := hb9
        have HTR : Hid (Tab9 wr) := HTV.out.later hb9
        by_cases hlt : k < 23
        · obtain ⟨x, hx⟩ := HCE.out k hlt
          have d0 := cell_later hb9 hx
          obtain ⟨⟨G, ln, er⟩, hr⟩ : ∃ p, readF x = p := ⟨_, rfl⟩
          have HRD : Hid (readF x = (G, ln, er)) := hr
          obtain ⟨m, hm⟩ := HTR.out.m
          have HR1 : Hid (Calls Tryz.prog 10 #[.string x] wr fun e w' => ∃ v xs, e = .returned (.tuple #[v, .int .i64 ln, .int .i64 er]) ∧ RowN w' wr.heap.size v G xs ∧ Small G ∧ Below wr.heap.size wr w') := tread_any x wr m hm G ln er hr
          have g1 : (k : Int) < 23 := by omega
          clear hb9 hx hr hm
          go_wp2_with fail
          refine HR1.out.mono ?_
          rintro e w3 ⟨v3, xs3, rfl, hr3, hs3, hb3⟩
          have HN3 : Hid (NodesL w3 v3 G) := hr3.nodesL (by have := hs3.n; unfold big; omega)
          have HS3 : Hid (Small G) := hs3
          obtain ⟨a3, c3, e3, _⟩ := HN3.out.shape
          subst e3
          have HB3 : Hid (Below V.heap.size V w3) := Below.after HB9.out hb3
          have d1 := cell_later hb3 d0
          have HT3 : Hid (Tab9 w3) := HTR.out.later hb3
          clear hr3 hs3 hb3
          go_wp2_with fail
          refine (rread9 x w3 HT3.out.u G ln er HRD.out).mono ?_
          rintro e w4 ⟨v4, xs4, rfl, hr4, hs4, hb4⟩
          have HN4 : Hid (NodesL w4 v4 G) := hr4.nodesL (by have := hs4.n; unfold big; omega)
          obtain ⟨a4, c4, e4, _⟩ := HN4.out.shape
          subst e4
          have HB4 : Hid (Below V.heap.size V w4) := Below.after HB3.out hb4
          have HN34 : Hid (NodesL w4 (.slice a3 G.length c3) G) := HN3.out.later hb4
          clear hr4 hs4 hb4
          go_wp2_with (first
            | (go_at_call 12; refine (num9 _ _).mono ?_; rintro e w' ⟨rfl, rfl⟩)
            | (go_at_call 13; refine (eqNs_same HN34.out HN4.out).mono ?_; rintro e w5 ⟨rfl, hb5⟩; have HB5 : Hid (Below V.heap.size V w5) := Below.after HB4.out hb5; clear hb5))
          first
            | (go_roundw
               case rel => exact ⟨k + 1, by omega, by go_num, HB5.out⟩
               case measure => (simp [intOf]; omega))
            | exact ⟨⟨k + 1, by omega, by go_num, HB5.out⟩, by simp [intOf]; omega⟩
        · have g1 : ¬ (k : Int) < 23 := by omega
          have u0 := cell_later (Below.after HBV.out HB9.out) HU0.out
          obtain ⟨m, hm⟩ := HTR.out.m
          have HW9 : Hid (Calls Tryz.prog 15 #[] wr fun e w' => e = .returned (.bool true) ∧ Below wr.heap.size wr w') := wakes9 wr m hm
          clear hm hb9
          go_wp2_with (go_at_call 15; refine HW9.out.mono ?_; rintro e w5 ⟨rfl, hb5⟩; have HB5 : Hid (Below w.heap.size w w5) := Below.after HB.out (Below.after HBV.out (Below.after HB9.out hb5)); clear hb5)
          go_ret
          exact ⟨rfl, HB5.out⟩
end Go.Proofs.YtkojdigaoihkpaaGreatDoor

end
section
namespace Go.Proofs.YtkojdigaoihkpaaGreatDoor
set_option linter.unusedVariables false
set_option maxRecDepth 100000
open Go.ChangeShapes Go.WideShapes Go.ChangeAt Go.RowKit Go.Lib

theorem maxlen2_met {W : World} (hs : W.ShapedOpen Tryz.prog) : ∃ m, W.cell? ⟨2, 0, none⟩ = some (.int .i64 m) :=
  Go.Proofs.cell_of_shapedOpen_int (zero := #[.int .i64 0]) (t := 3) hs (of_decide_eq_true (by kernel_rfl)) (by kernel_rfl) rfl (by kernel_rfl) (by kernel_rfl) Tryz.underlying3
theorem limits9_met {W : World} (h : laidMetH Tryz.prog Rows.textLimitsRow.laid W) (hs : W.ShapedOpen Tryz.prog) : Tab9 W :=
  ⟨utf_met (Lib.laidMet.reads h (.tail _ (.head _))) (Lib.laidMet.reads h (.head _)), maxlen2_met hs⟩
theorem limitsW9_met (os : Os) : laidMet Tryz.prog Rows.textLimitsRow.laid ((laidWorld os).forCall (fun _ _ => 0) ⟨#[], #[.agg #[.slice none 0 0, .slice none 0 0]], []⟩).memory :=
  laidMet_of_run' 8 (by kernel_rfl) (by kernel_rfl)
theorem nums_shape {w : World} {v : Value} {L : List Int} (h : Nums w v L) : ∃ a n c, v = .slice a n c := by
  obtain ⟨a, c, e, _⟩ := h.row
  exact ⟨a, _, c, e⟩
end Go.Proofs.YtkojdigaoihkpaaGreatDoor

end
