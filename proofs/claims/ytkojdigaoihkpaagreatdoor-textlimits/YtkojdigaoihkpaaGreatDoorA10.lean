/- Part 10 of the texts that the theorem leans on. -/
import Derived.Test.YtkojdigaoihkpaaGreatDoorA09
section
namespace Go.Proofs.YtkojdigaoihkpaaGreatDoor
set_option linter.unusedVariables false
set_option linter.unusedSimpArgs false
set_option maxRecDepth 100000
open Go.RowKit

set_option maxHeartbeats 32000000 in
theorem rline_N {TB : World → Prop} (RN : RName TB) {v u : Value} {L : List Nod} {t0 t1 t2 : ByteArray} {r : List ByteArray} {w : World} (h : NodesL w v L) (hu : HoldsW w u (t0 :: t1 :: t2 :: r)) (hT : TB w) (hts : ∀ t ∈ t0 :: t1 :: t2 :: r, t.size ≤ 3000) (k : Nat) (hk : kindF t2 = k) (hk1 : 1 ≤ k ∧ k ≤ 15) (hnb : numbI k = false) (hai : askI k = false) (hn0 : nameB t0 = true) (hx0 : nmdN L t0 0 < 0) (h1 : t1 = ⟨#[61]⟩) (E : Int) (N : Nod) (hE : lineA L t0 k [] (many k) r = (E, N)) :
    Calls Tryz.prog 31 #[v, u] w (LineP w E N) := by
  obtain ⟨va, vc, rfl, _, _⟩ := h.shape
  obtain ⟨ua, uc, rfl, _⟩ := hu.shape
  have HT : Hid (TB w) := hT
  have HNL : Hid (NodesL w (.slice va L.length vc) L) := h
  obtain ⟨b, off, rfl, -, hlc, hc0, hc1, hc2⟩ := hu.three
  have HU3 : Hid (HoldsW w (.slice (if uc = 3 then some ⟨b, off, none⟩ else (some (⟨b, off, none⟩ : Addr)).map (·.add (3 * 2))) ((t0 :: t1 :: t2 :: r).length - 3) (uc - 3)) r) := hu.drop 3 (by simp)
  have HTS0 : Hid (∀ t ∈ r, t.size ≤ 3000) := fun t ht => hts t (by simp [ht])
  have ht0 : t0.size ≤ 3000 := hts t0 (by simp)
  obtain ⟨m, hm⟩ : ∃ m, (t0 :: t1 :: t2 :: r).length = m := ⟨_, rfl⟩
  have hm3 : 3 ≤ m := by rw [← hm]; simp
  rw [hm] at hlc HU3 ⊢
  have HAI : Hid (askI k = false) := by exact hai
  have HNB : Hid (numbI k = false) := by exact hnb
  have HHE : Hid (lineA L t0 k [] (many k) r = (E, N)) := hE
  obtain ⟨M, hM⟩ : ∃ M, many k = M := ⟨_, rfl⟩
  have HM : Hid (manyI k = M) := by
    show _ = _
    rw [manyI, if_pos (by omega), ← hM]
    rfl
  rw [hM] at HHE
  have hM2 : M ≤ 2 := by rw [← hM]; exact many_le k
  have hnb3 : k ≠ 3 ∧ k ≠ 8 ∧ k ≠ 15 := by
    have h := HNB.out
    simp only [numbI, Bool.or_eq_false_iff, decide_eq_false_iff_not] at h
    exact ⟨h.1.1, h.1.2, h.2⟩
  have e3 : ((k : Int) == 3) = false := by rw [beq_eq_false_iff_ne]; omega
  have e8 : ((k : Int) == 8) = false := by rw [beq_eq_false_iff_ne]; omega
  have e15 : ((k : Int) == 15) = false := by rw [beq_eq_false_iff_ne]; omega
  have gk0 : ((k : Int) == 0) = false := by rw [beq_eq_false_iff_ne]; omega
  obtain ⟨U, hU⟩ : ∃ U, U = w.alloc (.cells #[.string ⟨#[]⟩, .int .i64 0, .slice none 0 0, .slice none 0 0, .int .i64 0] 55) := ⟨_, rfl⟩
  have HUU : Hid (U = w.alloc (.cells #[.string ⟨#[]⟩, .int .i64 0, .slice none 0 0, .slice none 0 0, .int .i64 0] 55)) := hU
  have HB : Hid (Below w.heap.size w U) := by show Below _ _ _; rw [hU]; exact Below.push (Below.refl _ _) _
  have HZ : Hid (BoxN U w.heap.size #[.string ⟨#[]⟩, .int .i64 0, .slice none 0 0, .slice none 0 0, .int .i64 0]) := by show BoxN _ _ _; rw [hU]; exact BoxN.new w _
  have HC0 : Hid (∀ w', Below w.heap.size w w' → w'.cell? ⟨b, off, none⟩ = some (.string t0) ∧ w'.cell? ⟨b, off + 2, none⟩ = some (.string t1) ∧ w'.cell? ⟨b, off + 4, none⟩ = some (.string t2)) := fun w' hb => ⟨cell_later hb hc0, cell_later hb hc1, cell_later hb hc2⟩
  have g1 : ¬ (m : Int) < 3 := by omega
  have g2 : (0 : Int) < m := by omega
  have g3 : (1 : Int) < m := by omega
  have g4 : (2 : Int) < m := by omega
  have g5 : (3 : Int) ≤ m := by omega
  have c0 := (HC0.out U HB.out).1
  obtain ⟨x0, hx⟩ : ∃ x, nmdN L t0 0 = x := ⟨_, rfl⟩
  have HX0 : Hid (nmdN L t0 0 = x0) := hx
  rw [hx] at hx0
  have HQ0 : Hid (nameB t0 = true) := hn0
  have HK0 : Hid (kindF t2 = k) := hk
  have q1 : (t1.toList == [61]) = true := by rw [h1, Lib.toList_data]; rfl
  clear hU h hu hT hc0 hc1 hc2 hm hx hn0 hk hE hM hts hnb hai hnb3
  go_enter Tryz.func31, Tryz.ntmps31
  go_upto_region 1 with fail
  rw [← HUU.out]
  go_upto_region 7 with (first
    | (go_at_call 41; refine (RN.name (by omega) (RN.later HB.out HT.out) true HQ0.out).mono ?_; rintro e w2 ⟨rfl, hb2⟩; have HZ2 : Hid (BoxN w2 w.heap.size #[.string ⟨#[]⟩, .int .i64 0, .slice none 0 0, .slice none 0 0, .int .i64 0]) := HZ.out.later hb2; have HB2 : Hid (Below w.heap.size w w2) := Below.after HB.out hb2; obtain ⟨d0, d1, d2⟩ := HC0.out _ HB2.out; clear hb2)
    | (go_at_call 42; refine (rnamed_any (HNL.out.later HB2.out) t0 x0 HX0.out).mono ?_; rintro e w3 ⟨rfl, rfl⟩)
    | (go_at_call 59; refine (rkind_to t2 _ k HK0.out).mono ?_; rintro e w4 ⟨rfl, hb4⟩; have HZ4 : Hid (BoxN w4 w.heap.size #[.string ⟨#[]⟩, .int .i64 0, .slice none 0 0, .slice none 0 0, .int .i64 0]) := HZ2.out.later hb4; have HB4 : Hid (Below w.heap.size w w4) := Below.after HB2.out hb4; obtain ⟨d3, d4, d5⟩ := HC0.out _ HB4.out; clear hb4))
  obtain ⟨bx, hbx⟩ : ∃ bx, w4.heap.size = bx := ⟨_, rfl⟩
  obtain ⟨V, hV⟩ : ∃ V, V = w4.alloc (.cells #[.string t0, .int .i64 k, .slice none 0 0, .slice none 0 0, .int .i64 0] 55) := ⟨_, rfl⟩
  have HZV : Hid (BoxN V w.heap.size #[.string ⟨#[]⟩, .int .i64 0, .slice none 0 0, .slice none 0 0, .int .i64 0]) := by show BoxN _ _ _; rw [hV]; exact HZ4.out.alloc _
  have HXV : Hid (BoxN V bx #[.string t0, .int .i64 k, .slice none 0 0, .slice none 0 0, .int .i64 0]) := by show BoxN _ _ _; rw [hV, ← hbx]; exact BoxN.new w4 _
  have HBV : Hid (Below w.heap.size w V) := by show Below _ _ _; rw [hV]; exact Below.push HB4.out _
  have hsV : bx + 1 ≤ V.heap.size := by rw [hV, ← hbx]; simp
  have hwb : w.heap.size < bx := by have := HZ4.out.lt; omega
  rw [← hV]
  rw [hbx]
  clear hV hbx d0 d1 d2 d3 d4 d5 c0
  go_cut [1] (fun v wx => Hid (HoldsW w v r) ∧ wx = V)
  case first =>
    go_upto_region 8 with fail
    all_goals (
      go_meet
      case rel => exact ⟨by first | exact HU3.out | (have h := HU3.out; simp_all; done) | (have h := HU3.out; simp_all [Addr.add]; done), rfl⟩)
  case rest =>
  obtain ⟨HU4, rfl⟩ := hcut
  go_wp2_with (go_at_call 60; refine (many_to (k : Int) _ (M : Int) HM.out).mono ?_; rintro e w5 ⟨rfl, rfl⟩)
  go_loopw [1, 9] (fun lv iv w' => ∃ (j : Nat) (A : List Int) (T : List ByteArray) (y : Value), j ≤ M ∧ iv = .int .i64 j ∧ Hid (A.length = j) ∧ Hid (HoldsW w lv T) ∧ Hid (∀ t ∈ T, t.size ≤ 3000) ∧ Hid (BoxN w' w.heap.size #[.string ⟨#[]⟩, .int .i64 0, .slice none 0 0, .slice none 0 0, .int .i64 0]) ∧ Hid (BoxN w' bx #[.string t0, .int .i64 k, y, .slice none 0 0, .int .i64 0]) ∧ Hid (Own w' (bx + 1) y A) ∧ Hid (Below w.heap.size w w') ∧ bx + 1 ≤ w'.heap.size ∧ Hid (lineA L t0 k A (M - j) T = (E, N))) (fun _ iv _ => M - (intOf iv).toNat)
  case atStart => exact ⟨0, [], r, _, Nat.zero_le _, rfl, rfl, HU4.out, HTS0.out, HZV.out, HXV.out, Own.nil _ _, HBV.out, hsV, HHE.out⟩
  case round =>
    obtain ⟨j, A, T, y, hj, rfl, hAj, HTW, HTS, HZZ, HXX, HOA, HBB, hsz, HF⟩ := hrel
    obtain ⟨a, c, e1, hac⟩ := HTW.out.shape
    subst e1
    obtain ⟨ya, yn, yc, e1⟩ := HOA.out.ints.shape3
    subst e1
    by_cases hlt : j < M
    · have gj : (j : Int) < (M : Int) := by omega
      cases T with
      | nil =>
        have HE : Hid (E = 5) := by
          have h := HF.out
          rw [show M - j = (M - j - 1) + 1 by omega, lineA_nil] at h
          simp only [Prod.mk.injEq] at h
          exact h.1.symm
        line_z HZZ.out
        go_wp2
        line_out 5
      | cons t T =>
        obtain ⟨b, off, rfl, -, hlc, hc0⟩ := HTW.out.first
        have HC1 : Hid (∀ w', Below w.heap.size w w' → w'.cell? ⟨b, off, none⟩ = some (.string t)) := fun w' hb => cell_later hb hc0
        have d0 := HC1.out _ HBB.out
        obtain ⟨nn, hnn⟩ : ∃ nn, (t :: T).length = nn := ⟨_, rfl⟩
        have HTW2 : Hid (HoldsW w (.slice (some ⟨b, off, none⟩) nn c) (t :: T)) := by rw [← hnn]; exact HTW.out
        have hn1 : 1 ≤ nn := by rw [← hnn]; simp
        rw [hnn]
        have gz : ¬ (nn : Int) = 0 := by omega
        have bz : ((nn : Int) == 0) = false := by rw [beq_eq_false_iff_ne]; exact gz
        have g0 : (0 : Int) < (nn : Int) := by omega
        have gl : (1 : Int) ≤ (nn : Int) := by omega
        have HST : Hid (t.size ≤ 3000) := HTS.out t (by simp)
        have hst := HST.out
        have HTS2 : Hid (∀ t ∈ T, t.size ≤ 3000) := fun u hu => HTS.out u (by simp [hu])
        obtain ⟨q, hq⟩ : ∃ q, nameB t = q := ⟨_, rfl⟩
        have HQ : Hid (nameB t = q) := hq
        obtain ⟨x, hx⟩ : ∃ x, nmdN L t 0 = x := ⟨_, rfl⟩
        have HX : Hid (nmdN L t 0 = x) := hx
        have HF2 : Hid ((if q && decide (0 ≤ x) then lineA L t0 k (A ++ [x]) (M - (j + 1)) T else (5, nod0)) = (E, N)) := by
          have h := HF.out
          rw [show M - j = (M - (j + 1)) + 1 by omega, lineA_cons, HQ.out, HX.out] at h
          exact h
        clear hq hx HF HTW HTS hnn hc0
        cases q with
        | false =>
          have HE : Hid (E = 5) := by
            have h := HF2.out
            rw [if_neg (by simp)] at h
            simp only [Prod.mk.injEq] at h
            exact h.1.symm
          have HZ6 := HZZ
          have HB6 := HBB
          clear HZZ HBB
          go_wp2_with (go_at_call 41; refine (RN.name (by omega) (RN.later HB6.out HT.out) false HQ.out).mono ?_; rintro e w2 ⟨rfl, hb2⟩; have HZZ : Hid (BoxN w2 w.heap.size #[.string ⟨#[]⟩, .int .i64 0, .slice none 0 0, .slice none 0 0, .int .i64 0]) := HZ6.out.later hb2; have HBB : Hid (Below w.heap.size w w2) := Below.after HB6.out hb2; line_z HZZ.out; clear hb2)
          line_out 5
        | true =>
          by_cases hx0' : 0 ≤ x
          · have HF3 : Hid (lineA L t0 k (A ++ [x]) (M - (j + 1)) T = (E, N)) := by
              have h := HF2.out
              rw [if_pos (by simpa using hx0')] at h
              exact h
            have HTD : Hid (HoldsW w (.slice (if c = 1 then some ⟨b, off, none⟩ else (some (⟨b, off, none⟩ : Addr)).map (·.add (1 * 2))) (nn - 1) (c - 1)) T) := HTW2.out.drop 1 (by simp)
            have HTD1 : Hid (c = 1 → HoldsW w (.slice (some ⟨b, off, none⟩) (nn - 1) 0) T) := fun hc => by have h := HTD.out; rw [if_pos hc, show c - 1 = 0 by omega] at h; exact h
            have HTD2 : Hid (¬ c = 1 → HoldsW w (.slice (some ⟨b, off + 2, none⟩) (nn - 1) (c - 1)) T) := fun hc => by have h := HTD.out; rw [if_neg hc] at h; simpa [Addr.add] using h
            have gx : ¬ x < 0 := by omega
            obtain ⟨iI, hi, hi0, hi1, hi2⟩ := info3
            have HI : Hid (Tryz.prog.info? 3 = some iI) := hi
            have HI0 : Hid (iI.zero = some (.int .i64 0)) := hi0
            have HI1 : Hid (iI.size = 1) := hi1
            have HI2 : Hid (iI.bytes = 8) := hi2
            clear hi hi0 hi1 hi2 HF2 HTW2
            go_upto_region 14 with (first
              | (go_at_call 41; refine (RN.name (by omega) (RN.later HBB.out HT.out) true HQ.out).mono ?_; rintro e w2 ⟨rfl, hb2⟩; have HZ2 : Hid (BoxN w2 w.heap.size #[.string ⟨#[]⟩, .int .i64 0, .slice none 0 0, .slice none 0 0, .int .i64 0]) := HZZ.out.later hb2; have HX2 : Hid (BoxN w2 bx #[.string t0, .int .i64 k, .slice ya yn yc, .slice none 0 0, .int .i64 0]) := HXX.out.later hb2; have HA2 : Hid (Own w2 (bx + 1) (.slice ya yn yc) A) := HOA.out.later hb2; have HB2 : Hid (Below w.heap.size w w2) := Below.after HBB.out hb2; have hs2 : bx + 1 ≤ w2.heap.size := Nat.le_trans hsz hb2.size; have d1 := HC1.out _ HB2.out; clear hb2)
              | (go_at_call 42; refine (rnamed_any (HNL.out.later HB2.out) t x HX.out).mono ?_; rintro e w3 ⟨rfl, rfl⟩))
            have e2 : w2.cell? ⟨bx, 2, none⟩ = some (.slice ya yn yc) := HX2.out.c 2
            have ef : w2.frozen? ⟨bx, 2, none⟩ = false := HX2.out.f 2
            clear d0 HZZ HXX HOA HBB
            have e2a : (w2.alloc (.cells #[.int .i64 x] 3)).cell? ⟨bx, 2, none⟩ = some (.slice ya yn yc) := (HX2.out.alloc _).c 2
            have gN : 0 < nn := by omega
            have HN1 : Hid (∀ w', Below w.heap.size w w' → ∀ j u, [Value.int .i64 x][j]? = some u → (w2.alloc (.cells #[.int .i64 x] 3)).drew.cell? ((⟨w2.heap.size, 0, none⟩ : Addr).add j) = some u) := fun _ _ => cell_one_new w2 _ _
            have HA3 : Hid ((w2.alloc (.cells #[.int .i64 x] 3)).drew.ownsRow (bx + 1) 3 1 (.slice ya yn yc) A.length (A.map (Value.int .i64))) := HA2.out.row.alloc _
            have HP : Hid (∀ v1 w1, w1.ownsRow (bx + 1) 3 1 v1 (A.length + 1) (A.map (Value.int .i64) ++ [.int .i64 x]) → (w2.alloc (.cells #[.int .i64 x] 3)).drew.grownBy w1 (Value.slice ya yn yc).ownBlock → Own w1 (bx + 1) v1 (A ++ [x]) ∧ Below (bx + 1) w2 w1 ∧ BoxN w1 bx #[.string t0, .int .i64 k, .slice ya yn yc, .slice none 0 0, .int .i64 0] ∧ BoxN w1 w.heap.size #[.string ⟨#[]⟩, .int .i64 0, .slice none 0 0, .slice none 0 0, .int .i64 0]) := fun v1 w1 ho hg => by
              have h1 : Below (bx + 1) w2 w1 := (((Below.refl (bx + 1) w2).alloc hs2 _).drew).grown hg (by simp; omega) (fun q hq => (HA2.out.row.lt q hq).1)
              refine ⟨⟨?_, ?_⟩, h1, (h1.block bx (by omega)).trans HX2.out, (h1.block _ (by omega)).trans HZ2.out⟩
              · simp only [List.length_append, List.map_append, List.length_cons, List.length_nil, List.map_cons, List.map_nil] at ho ⊢
                exact ho
              · have := hAj.out
                simp only [List.length_append, List.length_cons, List.length_nil]
                unfold big
                omega
            go_region_law (first
              | (rw [if_pos (by simp [Region.wanted])]; go_simp; go_at_call 42; refine (rnamed_any (HNL.out.later HB2.out.drew) t x HX.out).mono ?_; rintro e w3 ⟨rfl, rfl⟩)
              | (refine step_append_lies _ rfl (.tmp 90) (.tmp 97) 23 rfl (bx + 1) 3 iI (.int .i64 0) 1 8 Tryz.underlying23 HI.out HI0.out HI1.out HI2.out rfl (by decide) (.slice ya yn yc) A.length (A.map (Value.int .i64)) (by simp [Act.eval, Act.put]) HA3.out ⟨w2.heap.size, 0, none⟩ 1 1 [.int .i64 x] (by simp [Act.eval, Act.put]) rfl (HN1.out w (Below.refl _ _)) (by intro u hu; simp at hu; subst hu; rfl) (by decide) (by have := hAj.out; unfold maxLen; omega) (by have := hAj.out; omega) (by simp; omega) (w2.heap.size + 1) (by simp) ?_; intro g1 cap1 w1 ho hg _ _; obtain ⟨ho1, hb1, hx1, hz1⟩ := HP.out _ _ ho hg; have HO1 : Hid (Own w1 (bx + 1) _ (A ++ [x])) := ho1; have HB1 : Hid (Below (bx + 1) w2 w1) := hb1; have HX1 : Hid (BoxN w1 bx _) := hx1; have HZ1 : Hid (BoxN w1 w.heap.size _) := hz1; have ef1 : w1.frozen? ⟨bx, 2, none⟩ = false := hx1.f 2; have ec1 : w1.cell? ⟨bx, 2, none⟩ = some (.slice ya yn yc) := hx1.c 2; clear ho hg ho1 hb1 hx1 hz1))
            all_goals (
              go_wp2
              go_roundw
              case rel => exact ⟨j + 1, A ++ [x], T, .slice (some ⟨g1, 0, none⟩) (A.length + 1) cap1, by omega, by go_num, (by show _ = _; have := hAj.out; simp; omega), (by first | exact HTD.out | exact HTD1.out (by assumption) | exact HTD2.out (by assumption)), HTS2.out, HZ1.out.other _ _ (show w.heap.size ≠ bx by omega), HX1.out.set 2 (.slice (some ⟨g1, 0, none⟩) (A.length + 1) cap1), HO1.out.below ⟨bx, 2, none⟩ _ (show bx < bx + 1 by omega), (HB2.out.trans (HB1.out.mono (by omega))).setCell (show w.heap.size ≤ (⟨bx, 2, none⟩ : Addr).block by show _ ≤ bx; omega) _, (by have := HB1.out.size; simp; omega), HF3.out⟩
              case measure => (simp [intOf]; omega))
          · have HE : Hid (E = 5) := by
              have h := HF2.out
              rw [if_neg (by simpa using hx0')] at h
              simp only [Prod.mk.injEq] at h
              exact h.1.symm
            have gx : x < 0 := by omega
            have HZ6 := HZZ
            have HB6 := HBB
            clear HZZ HBB hx0'
            go_wp2_with (first
              | (go_at_call 41; refine (RN.name (by omega) (RN.later HB6.out HT.out) true HQ.out).mono ?_; rintro e w2 ⟨rfl, hb2⟩; have HZZ : Hid (BoxN w2 w.heap.size #[.string ⟨#[]⟩, .int .i64 0, .slice none 0 0, .slice none 0 0, .int .i64 0]) := HZ6.out.later hb2; have HBB : Hid (Below w.heap.size w w2) := Below.after HB6.out hb2; line_z HZZ.out; have d1 := HC1.out _ HBB.out; clear hb2)
              | (go_at_call 42; refine (rnamed_any (HNL.out.later HBB.out) t x HX.out).mono ?_; rintro e w3 ⟨rfl, rfl⟩))
            line_out 5
    · have gj : ¬ (j : Int) < (M : Int) := by omega
      have hjM : j = M := by omega
      subst hjM
      have HF2 : Hid (lineB L t0 k A T = (E, N)) := by
        have h := HF.out
        rw [show j - j = 0 by omega, lineA_zero] at h
        exact h
      have HLA : Hid (A.length ≤ 100000000) := by show _ ≤ _; have := hAj.out; omega
      have HSZ : Hid (bx + 1 ≤ wr.heap.size) := hsz
      clear HF
      have HF : Hid (lineC L t0 k A 0 T = (E, N)) := by
        have h := HF2.out
        rw [lineB_no _ _ _ _ _ HNB.out] at h
        exact h
      clear HF2

      have HAS : Hid (askI k = false) := HAI.out
      have HF2 : Hid (lineD L t0 k A 0 [] T = (E, N)) := by
        have h := HF.out
        rw [lineC, if_neg (by rw [HAI.out]; simp)] at h
        exact h
      clear HF
      have HF := HF2
      clear HF2
      have HDV : Hid (Ints wr (.slice none 0 0) []) := Ints.nil _
      obtain ⟨D, hDD⟩ : ∃ D : List Int, D = [] := ⟨_, rfl⟩
      rw [← hDD] at HF HDV
      go_upto_region 34 with (go_at_call 45; refine (asked_to (k : Int) _ false HAS.out).mono ?_; rintro e w6 ⟨rfl, rfl⟩)
      clear hDD

      by_cases hT0 : T = []
      · subst hT0
        have HFF : Hid ((if 24 ≤ L.length then (2, nod0) else (inE k 0 D L A, ⟨t0, k, A, inR k 0 D L A, 0⟩)) = (E, N)) := by
          have h := HF.out
          rw [lineD, if_pos rfl] at h
          exact h
        clear HF
        by_cases h24 : 24 ≤ L.length
        · have HE : Hid (E = 2) := by
            have h := HFF.out
            rw [if_pos h24] at h
            simp only [Prod.mk.injEq] at h
            exact h.1.symm
          have g24 : (24 : Int) ≤ (L.length : Int) := by omega
          line_z HZZ.out
          clear h24
          go_wp2
          line_out 2
        · have HE : Hid (rinE k 0 D L A = E ∧ N = ⟨t0, k, A, inR k 0 D L A, 0⟩) := by
            have h := HFF.out
            rw [if_neg h24] at h
            simp only [Prod.mk.injEq] at h
            exact ⟨(in_rin _ _ _ _ _).1.trans h.1, h.2.symm⟩
          have g24 : ¬ (24 : Int) ≤ (L.length : Int) := by omega
          have e2 : wr.cell? ⟨bx, 2, none⟩ = some (.slice ya yn yc) := HXX.out.c 2
          have e4 : wr.cell? ⟨bx, 4, none⟩ = some (.int .i64 0) := HXX.out.c 4
          clear h24 HFF
          go_wp2_with (go_at_call 62; refine (rinfer_any (L := L) (d := D) (A := A) (k : Int) 0 (HNL.out.later HBB.out) HDV.out HOA.out.ints HLA.out).mono ?_; rintro e w9 ⟨x9, rfl, ho9, hb9⟩; rw [HE.out.1]; obtain ⟨p9, n9, c9, rfl⟩ := ho9.ints.shape3; have HO9 : Hid (Own w9 wr.heap.size (.slice p9 n9 c9) (rinR k 0 D L A)) := ho9; have HX9 : Hid (BoxN w9 bx #[.string t0, .int .i64 k, .slice ya yn yc, .slice none 0 0, .int .i64 0]) := HXX.out.later hb9; have HZ9 : Hid (BoxN w9 w.heap.size #[.string ⟨#[]⟩, .int .i64 0, .slice none 0 0, .slice none 0 0, .int .i64 0]) := HZZ.out.later hb9; have HB9 : Hid (Below w.heap.size w w9) := Below.after HBB.out hb9; have HA9 : Hid (Own w9 (bx + 1) (.slice ya yn yc) A) := HOA.out.later hb9; have HS9 : Hid (bx + 1 ≤ wr.heap.size) := HSZ.out; clear ho9 hb9; line_z HZ9.out; have k0 : w9.cell? ⟨bx, 0, none⟩ = some (.string t0) := HX9.out.c 0; have k1 : w9.cell? ⟨bx, 1, none⟩ = some (.int .i64 k) := HX9.out.c 1; have k2 : w9.cell? ⟨bx, 2, none⟩ = some (.slice ya yn yc) := HX9.out.c 2; have k3 : w9.cell? ⟨bx, 3, none⟩ = some (.slice none 0 0) := HX9.out.c 3; have k4 : w9.cell? ⟨bx, 4, none⟩ = some (.int .i64 0) := HX9.out.c 4; have kf := HX9.out.f 3)
          have BX : Hid (BoxN (w9.setCell ⟨bx, 3, none⟩ (.slice p9 n9 c9)) w.heap.size #[.string ⟨#[]⟩, .int .i64 0, .slice none 0 0, .slice none 0 0, .int .i64 0]) := HZ9.out.other _ _ (show w.heap.size ≠ bx by omega)
          have BR : Hid (BoxN _ w.heap.size #[.string t0, .int .i64 k, .slice ya yn yc, .slice p9 n9 c9, .int .i64 0]) := ((((BX.out.set 0 (.string t0)).set 1 (.int .i64 k)).set 2 (.slice ya yn yc)).set 3 (.slice p9 n9 c9)).set 4 (.int .i64 0)
          have r0 := (BR.out.c 0).trans (show _ = some (.string t0) from rfl)
          have r1 := (BR.out.c 1).trans (show _ = some (.int .i64 k) from rfl)
          have r2 := (BR.out.c 2).trans (show _ = some (.slice ya yn yc) from rfl)
          have r3 := (BR.out.c 3).trans (show _ = some (.slice p9 n9 c9) from rfl)
          have r4 := (BR.out.c 4).trans (show _ = some (.int .i64 0) from rfl)
          have hs9 := HS9.out
          refine bodyPost_ret (v := .tuple #[.agg #[.string t0, .int .i64 k, .slice ya yn yc, .slice p9 n9 c9, .int .i64 0], .int .i64 E]) (by simp [results, Tryz.results31, go_sem, r0, r1, r2, r3, r4]) rfl ⟨_, _, _, _, _, rfl, ⟨_, _, _, rfl⟩, ⟨_, _, _, rfl⟩, (fun _ => ?_), ?_⟩
          · rw [HE.out.2]
            refine ⟨rfl, rfl, rfl, ?_, ?_⟩
            · exact (((((((HA9.out.below ⟨bx, 3, none⟩ _ (by show bx < bx + 1; omega)).below ⟨w.heap.size, 0, none⟩ _ (by show w.heap.size < _; omega)).below ⟨w.heap.size, 1, none⟩ _ (by show w.heap.size < _; omega)).below ⟨w.heap.size, 2, none⟩ _ (by show w.heap.size < _; omega)).below ⟨w.heap.size, 3, none⟩ _ (by show w.heap.size < _; omega)).below ⟨w.heap.size, 4, none⟩ _ (by show w.heap.size < _; omega))).mono (by omega)
            · have h9 := HO9.out
              rw [(in_rin _ _ _ _ _).2] at h9
              exact (((((((h9.below ⟨bx, 3, none⟩ _ (by show bx < _; omega)).below ⟨w.heap.size, 0, none⟩ _ (by show w.heap.size < _; omega)).below ⟨w.heap.size, 1, none⟩ _ (by show w.heap.size < _; omega)).below ⟨w.heap.size, 2, none⟩ _ (by show w.heap.size < _; omega)).below ⟨w.heap.size, 3, none⟩ _ (by show w.heap.size < _; omega)).below ⟨w.heap.size, 4, none⟩ _ (by show w.heap.size < _; omega))).mono (by omega)
          · exact ((((((HB9.out.setCell (show w.heap.size ≤ bx by omega) _).setCell (Nat.le_refl _) _).setCell (Nat.le_refl _) _).setCell (Nat.le_refl _) _).setCell (Nat.le_refl _) _).setCell (Nat.le_refl _) _)
      · have HE : Hid (E = 5) := by
          have h := HF.out
          rw [lineD, if_neg hT0] at h
          simp only [Prod.mk.injEq] at h
          exact h.1.symm
        have gT : (0 : Int) < (T.length : Int) := by have : 0 < T.length := List.length_pos_iff.2 hT0; omega
        line_z HZZ.out
        clear hT0
        go_wp2
        line_out 5
end Go.Proofs.YtkojdigaoihkpaaGreatDoor

end
section
namespace Go.Proofs.YtkojdigaoihkpaaGreatDoor
set_option linter.unusedVariables false
set_option linter.unusedSimpArgs false
set_option maxRecDepth 100000
open Go.RowKit

set_option maxHeartbeats 32000000 in
theorem rline_A {TB : World → Prop} (RN : RName TB) {v u : Value} {L : List Nod} {t0 t1 t2 : ByteArray} {r : List ByteArray} {w : World} (h : NodesL w v L) (hu : HoldsW w u (t0 :: t1 :: t2 :: r)) (hT : TB w) (hts : ∀ t ∈ t0 :: t1 :: t2 :: r, t.size ≤ 3000) (k : Nat) (hk : kindF t2 = k) (hk1 : 1 ≤ k ∧ k ≤ 15) (hnb : numbI k = false) (hai : askI k = true) (hn0 : nameB t0 = true) (hx0 : nmdN L t0 0 < 0) (h1 : t1 = ⟨#[61]⟩) (E : Int) (N : Nod) (hE : lineA L t0 k [] (many k) r = (E, N)) :
    Calls Tryz.prog 31 #[v, u] w (LineP w E N) := by
  obtain ⟨va, vc, rfl, _, _⟩ := h.shape
  obtain ⟨ua, uc, rfl, _⟩ := hu.shape
  have HT : Hid (TB w) := hT
  have HNL : Hid (NodesL w (.slice va L.length vc) L) := h
  obtain ⟨b, off, rfl, -, hlc, hc0, hc1, hc2⟩ := hu.three
  have HU3 : Hid (HoldsW w (.slice (if uc = 3 then some ⟨b, off, none⟩ else (some (⟨b, off, none⟩ : Addr)).map (·.add (3 * 2))) ((t0 :: t1 :: t2 :: r).length - 3) (uc - 3)) r) := hu.drop 3 (by simp)
  have HTS0 : Hid (∀ t ∈ r, t.size ≤ 3000) := fun t ht => hts t (by simp [ht])
  have ht0 : t0.size ≤ 3000 := hts t0 (by simp)
  obtain ⟨m, hm⟩ : ∃ m, (t0 :: t1 :: t2 :: r).length = m := ⟨_, rfl⟩
  have hm3 : 3 ≤ m := by rw [← hm]; simp
  rw [hm] at hlc HU3 ⊢
  have HAI : Hid (askI k = true) := by exact hai
  have HNB : Hid (numbI k = false) := by exact hnb
  have HHE : Hid (lineA L t0 k [] (many k) r = (E, N)) := hE
  obtain ⟨M, hM⟩ : ∃ M, many k = M := ⟨_, rfl⟩
  have HM : Hid (manyI k = M) := by
    show _ = _
    rw [manyI, if_pos (by omega), ← hM]
    rfl
  rw [hM] at HHE
  have hM2 : M ≤ 2 := by rw [← hM]; exact many_le k
  have hnb3 : k ≠ 3 ∧ k ≠ 8 ∧ k ≠ 15 := by
    have h := HNB.out
    simp only [numbI, Bool.or_eq_false_iff, decide_eq_false_iff_not] at h
    exact ⟨h.1.1, h.1.2, h.2⟩
  have e3 : ((k : Int) == 3) = false := by rw [beq_eq_false_iff_ne]; omega
  have e8 : ((k : Int) == 8) = false := by rw [beq_eq_false_iff_ne]; omega
  have e15 : ((k : Int) == 15) = false := by rw [beq_eq_false_iff_ne]; omega
  have gk0 : ((k : Int) == 0) = false := by rw [beq_eq_false_iff_ne]; omega
  obtain ⟨U, hU⟩ : ∃ U, U = w.alloc (.cells #[.string ⟨#[]⟩, .int .i64 0, .slice none 0 0, .slice none 0 0, .int .i64 0] 55) := ⟨_, rfl⟩
  have HUU : Hid (U = w.alloc (.cells #[.string ⟨#[]⟩, .int .i64 0, .slice none 0 0, .slice none 0 0, .int .i64 0] 55)) := hU
  have HB : Hid (Below w.heap.size w U) := by show Below _ _ _; rw [hU]; exact Below.push (Below.refl _ _) _
  have HZ : Hid (BoxN U w.heap.size #[.string ⟨#[]⟩, .int .i64 0, .slice none 0 0, .slice none 0 0, .int .i64 0]) := by show BoxN _ _ _; rw [hU]; exact BoxN.new w _
  have HC0 : Hid (∀ w', Below w.heap.size w w' → w'.cell? ⟨b, off, none⟩ = some (.string t0) ∧ w'.cell? ⟨b, off + 2, none⟩ = some (.string t1) ∧ w'.cell? ⟨b, off + 4, none⟩ = some (.string t2)) := fun w' hb => ⟨cell_later hb hc0, cell_later hb hc1, cell_later hb hc2⟩
  have g1 : ¬ (m : Int) < 3 := by omega
  have g2 : (0 : Int) < m := by omega
  have g3 : (1 : Int) < m := by omega
  have g4 : (2 : Int) < m := by omega
  have g5 : (3 : Int) ≤ m := by omega
  have c0 := (HC0.out U HB.out).1
  obtain ⟨x0, hx⟩ : ∃ x, nmdN L t0 0 = x := ⟨_, rfl⟩
  have HX0 : Hid (nmdN L t0 0 = x0) := hx
  rw [hx] at hx0
  have HQ0 : Hid (nameB t0 = true) := hn0
  have HK0 : Hid (kindF t2 = k) := hk
  have q1 : (t1.toList == [61]) = true := by rw [h1, Lib.toList_data]; rfl
  clear hU h hu hT hc0 hc1 hc2 hm hx hn0 hk hE hM hts hnb hai hnb3
  go_enter Tryz.func31, Tryz.ntmps31
  go_upto_region 1 with fail
  rw [← HUU.out]
  go_upto_region 7 with (first
    | (go_at_call 41; refine (RN.name (by omega) (RN.later HB.out HT.out) true HQ0.out).mono ?_; rintro e w2 ⟨rfl, hb2⟩; have HZ2 : Hid (BoxN w2 w.heap.size #[.string ⟨#[]⟩, .int .i64 0, .slice none 0 0, .slice none 0 0, .int .i64 0]) := HZ.out.later hb2; have HB2 : Hid (Below w.heap.size w w2) := Below.after HB.out hb2; obtain ⟨d0, d1, d2⟩ := HC0.out _ HB2.out; clear hb2)
    | (go_at_call 42; refine (rnamed_any (HNL.out.later HB2.out) t0 x0 HX0.out).mono ?_; rintro e w3 ⟨rfl, rfl⟩)
    | (go_at_call 59; refine (rkind_to t2 _ k HK0.out).mono ?_; rintro e w4 ⟨rfl, hb4⟩; have HZ4 : Hid (BoxN w4 w.heap.size #[.string ⟨#[]⟩, .int .i64 0, .slice none 0 0, .slice none 0 0, .int .i64 0]) := HZ2.out.later hb4; have HB4 : Hid (Below w.heap.size w w4) := Below.after HB2.out hb4; obtain ⟨d3, d4, d5⟩ := HC0.out _ HB4.out; clear hb4))
  obtain ⟨bx, hbx⟩ : ∃ bx, w4.heap.size = bx := ⟨_, rfl⟩
  obtain ⟨V, hV⟩ : ∃ V, V = w4.alloc (.cells #[.string t0, .int .i64 k, .slice none 0 0, .slice none 0 0, .int .i64 0] 55) := ⟨_, rfl⟩
  have HZV : Hid (BoxN V w.heap.size #[.string ⟨#[]⟩, .int .i64 0, .slice none 0 0, .slice none 0 0, .int .i64 0]) := by show BoxN _ _ _; rw [hV]; exact HZ4.out.alloc _
  have HXV : Hid (BoxN V bx #[.string t0, .int .i64 k, .slice none 0 0, .slice none 0 0, .int .i64 0]) := by show BoxN _ _ _; rw [hV, ← hbx]; exact BoxN.new w4 _
  have HBV : Hid (Below w.heap.size w V) := by show Below _ _ _; rw [hV]; exact Below.push HB4.out _
  have hsV : bx + 1 ≤ V.heap.size := by rw [hV, ← hbx]; simp
  have hwb : w.heap.size < bx := by have := HZ4.out.lt; omega
  rw [← hV]
  rw [hbx]
  clear hV hbx d0 d1 d2 d3 d4 d5 c0
  go_cut [1] (fun v wx => Hid (HoldsW w v r) ∧ wx = V)
  case first =>
    go_upto_region 8 with fail
    all_goals (
      go_meet
      case rel => exact ⟨by first | exact HU3.out | (have h := HU3.out; simp_all; done) | (have h := HU3.out; simp_all [Addr.add]; done), rfl⟩)
  case rest =>
  obtain ⟨HU4, rfl⟩ := hcut
  go_wp2_with (go_at_call 60; refine (many_to (k : Int) _ (M : Int) HM.out).mono ?_; rintro e w5 ⟨rfl, rfl⟩)
  go_loopw [1, 9] (fun lv iv w' => ∃ (j : Nat) (A : List Int) (T : List ByteArray) (y : Value), j ≤ M ∧ iv = .int .i64 j ∧ Hid (A.length = j) ∧ Hid (HoldsW w lv T) ∧ Hid (∀ t ∈ T, t.size ≤ 3000) ∧ Hid (BoxN w' w.heap.size #[.string ⟨#[]⟩, .int .i64 0, .slice none 0 0, .slice none 0 0, .int .i64 0]) ∧ Hid (BoxN w' bx #[.string t0, .int .i64 k, y, .slice none 0 0, .int .i64 0]) ∧ Hid (Own w' (bx + 1) y A) ∧ Hid (Below w.heap.size w w') ∧ bx + 1 ≤ w'.heap.size ∧ Hid (lineA L t0 k A (M - j) T = (E, N))) (fun _ iv _ => M - (intOf iv).toNat)
  case atStart => exact ⟨0, [], r, _, Nat.zero_le _, rfl, rfl, HU4.out, HTS0.out, HZV.out, HXV.out, Own.nil _ _, HBV.out, hsV, HHE.out⟩
  case round =>
    obtain ⟨j, A, T, y, hj, rfl, hAj, HTW, HTS, HZZ, HXX, HOA, HBB, hsz, HF⟩ := hrel
    obtain ⟨a, c, e1, hac⟩ := HTW.out.shape
    subst e1
    obtain ⟨ya, yn, yc, e1⟩ := HOA.out.ints.shape3
    subst e1
    by_cases hlt : j < M
    · have gj : (j : Int) < (M : Int) := by omega
      cases T with
      | nil =>
        have HE : Hid (E = 5) := by
          have h := HF.out
          rw [show M - j = (M - j - 1) + 1 by omega, lineA_nil] at h
          simp only [Prod.mk.injEq] at h
          exact h.1.symm
        line_z HZZ.out
        go_wp2
        line_out 5
      | cons t T =>
        obtain ⟨b, off, rfl, -, hlc, hc0⟩ := HTW.out.first
        have HC1 : Hid (∀ w', Below w.heap.size w w' → w'.cell? ⟨b, off, none⟩ = some (.string t)) := fun w' hb => cell_later hb hc0
        have d0 := HC1.out _ HBB.out
        obtain ⟨nn, hnn⟩ : ∃ nn, (t :: T).length = nn := ⟨_, rfl⟩
        have HTW2 : Hid (HoldsW w (.slice (some ⟨b, off, none⟩) nn c) (t :: T)) := by rw [← hnn]; exact HTW.out
        have hn1 : 1 ≤ nn := by rw [← hnn]; simp
        rw [hnn]
        have gz : ¬ (nn : Int) = 0 := by omega
        have bz : ((nn : Int) == 0) = false := by rw [beq_eq_false_iff_ne]; exact gz
        have g0 : (0 : Int) < (nn : Int) := by omega
        have gl : (1 : Int) ≤ (nn : Int) := by omega
        have HST : Hid (t.size ≤ 3000) := HTS.out t (by simp)
        have hst := HST.out
        have HTS2 : Hid (∀ t ∈ T, t.size ≤ 3000) := fun u hu => HTS.out u (by simp [hu])
        obtain ⟨q, hq⟩ : ∃ q, nameB t = q := ⟨_, rfl⟩
        have HQ : Hid (nameB t = q) := hq
        obtain ⟨x, hx⟩ : ∃ x, nmdN L t 0 = x := ⟨_, rfl⟩
        have HX : Hid (nmdN L t 0 = x) := hx
        have HF2 : Hid ((if q && decide (0 ≤ x) then lineA L t0 k (A ++ [x]) (M - (j + 1)) T else (5, nod0)) = (E, N)) := by
          have h := HF.out
          rw [show M - j = (M - (j + 1)) + 1 by omega, lineA_cons, HQ.out, HX.out] at h
          exact h
        clear hq hx HF HTW HTS hnn hc0
        cases q with
        | false =>
          have HE : Hid (E = 5) := by
            have h := HF2.out
            rw [if_neg (by simp)] at h
            simp only [Prod.mk.injEq] at h
            exact h.1.symm
          have HZ6 := HZZ
          have HB6 := HBB
          clear HZZ HBB
          go_wp2_with (go_at_call 41; refine (RN.name (by omega) (RN.later HB6.out HT.out) false HQ.out).mono ?_; rintro e w2 ⟨rfl, hb2⟩; have HZZ : Hid (BoxN w2 w.heap.size #[.string ⟨#[]⟩, .int .i64 0, .slice none 0 0, .slice none 0 0, .int .i64 0]) := HZ6.out.later hb2; have HBB : Hid (Below w.heap.size w w2) := Below.after HB6.out hb2; line_z HZZ.out; clear hb2)
          line_out 5
        | true =>
          by_cases hx0' : 0 ≤ x
          · have HF3 : Hid (lineA L t0 k (A ++ [x]) (M - (j + 1)) T = (E, N)) := by
              have h := HF2.out
              rw [if_pos (by simpa using hx0')] at h
              exact h
            have HTD : Hid (HoldsW w (.slice (if c = 1 then some ⟨b, off, none⟩ else (some (⟨b, off, none⟩ : Addr)).map (·.add (1 * 2))) (nn - 1) (c - 1)) T) := HTW2.out.drop 1 (by simp)
            have HTD1 : Hid (c = 1 → HoldsW w (.slice (some ⟨b, off, none⟩) (nn - 1) 0) T) := fun hc => by have h := HTD.out; rw [if_pos hc, show c - 1 = 0 by omega] at h; exact h
            have HTD2 : Hid (¬ c = 1 → HoldsW w (.slice (some ⟨b, off + 2, none⟩) (nn - 1) (c - 1)) T) := fun hc => by have h := HTD.out; rw [if_neg hc] at h; simpa [Addr.add] using h
            have gx : ¬ x < 0 := by omega
            obtain ⟨iI, hi, hi0, hi1, hi2⟩ := info3
            have HI : Hid (Tryz.prog.info? 3 = some iI) := hi
            have HI0 : Hid (iI.zero = some (.int .i64 0)) := hi0
            have HI1 : Hid (iI.size = 1) := hi1
            have HI2 : Hid (iI.bytes = 8) := hi2
            clear hi hi0 hi1 hi2 HF2 HTW2
            go_upto_region 14 with (first
              | (go_at_call 41; refine (RN.name (by omega) (RN.later HBB.out HT.out) true HQ.out).mono ?_; rintro e w2 ⟨rfl, hb2⟩; have HZ2 : Hid (BoxN w2 w.heap.size #[.string ⟨#[]⟩, .int .i64 0, .slice none 0 0, .slice none 0 0, .int .i64 0]) := HZZ.out.later hb2; have HX2 : Hid (BoxN w2 bx #[.string t0, .int .i64 k, .slice ya yn yc, .slice none 0 0, .int .i64 0]) := HXX.out.later hb2; have HA2 : Hid (Own w2 (bx + 1) (.slice ya yn yc) A) := HOA.out.later hb2; have HB2 : Hid (Below w.heap.size w w2) := Below.after HBB.out hb2; have hs2 : bx + 1 ≤ w2.heap.size := Nat.le_trans hsz hb2.size; have d1 := HC1.out _ HB2.out; clear hb2)
              | (go_at_call 42; refine (rnamed_any (HNL.out.later HB2.out) t x HX.out).mono ?_; rintro e w3 ⟨rfl, rfl⟩))
            have e2 : w2.cell? ⟨bx, 2, none⟩ = some (.slice ya yn yc) := HX2.out.c 2
            have ef : w2.frozen? ⟨bx, 2, none⟩ = false := HX2.out.f 2
            clear d0 HZZ HXX HOA HBB
            have e2a : (w2.alloc (.cells #[.int .i64 x] 3)).cell? ⟨bx, 2, none⟩ = some (.slice ya yn yc) := (HX2.out.alloc _).c 2
            have gN : 0 < nn := by omega
            have HN1 : Hid (∀ w', Below w.heap.size w w' → ∀ j u, [Value.int .i64 x][j]? = some u → (w2.alloc (.cells #[.int .i64 x] 3)).drew.cell? ((⟨w2.heap.size, 0, none⟩ : Addr).add j) = some u) := fun _ _ => cell_one_new w2 _ _
            have HA3 : Hid ((w2.alloc (.cells #[.int .i64 x] 3)).drew.ownsRow (bx + 1) 3 1 (.slice ya yn yc) A.length (A.map (Value.int .i64))) := HA2.out.row.alloc _
            have HP : Hid (∀ v1 w1, w1.ownsRow (bx + 1) 3 1 v1 (A.length + 1) (A.map (Value.int .i64) ++ [.int .i64 x]) → (w2.alloc (.cells #[.int .i64 x] 3)).drew.grownBy w1 (Value.slice ya yn yc).ownBlock → Own w1 (bx + 1) v1 (A ++ [x]) ∧ Below (bx + 1) w2 w1 ∧ BoxN w1 bx #[.string t0, .int .i64 k, .slice ya yn yc, .slice none 0 0, .int .i64 0] ∧ BoxN w1 w.heap.size #[.string ⟨#[]⟩, .int .i64 0, .slice none 0 0, .slice none 0 0, .int .i64 0]) := fun v1 w1 ho hg => by
              have h1 : Below (bx + 1) w2 w1 := (((Below.refl (bx + 1) w2).alloc hs2 _).drew).grown hg (by simp; omega) (fun q hq => (HA2.out.row.lt q hq).1)
              refine ⟨⟨?_, ?_⟩, h1, (h1.block bx (by omega)).trans HX2.out, (h1.block _ (by omega)).trans HZ2.out⟩
              · simp only [List.length_append, List.map_append, List.length_cons, List.length_nil, List.map_cons, List.map_nil] at ho ⊢
                exact ho
              · have := hAj.out
                simp only [List.length_append, List.length_cons, List.length_nil]
                unfold big
                omega
            go_region_law (first
              | (rw [if_pos (by simp [Region.wanted])]; go_simp; go_at_call 42; refine (rnamed_any (HNL.out.later HB2.out.drew) t x HX.out).mono ?_; rintro e w3 ⟨rfl, rfl⟩)
              | (refine step_append_lies _ rfl (.tmp 90) (.tmp 97) 23 rfl (bx + 1) 3 iI (.int .i64 0) 1 8 Tryz.underlying23 HI.out HI0.out HI1.out HI2.out rfl (by decide) (.slice ya yn yc) A.length (A.map (Value.int .i64)) (by simp [Act.eval, Act.put]) HA3.out ⟨w2.heap.size, 0, none⟩ 1 1 [.int .i64 x] (by simp [Act.eval, Act.put]) rfl (HN1.out w (Below.refl _ _)) (by intro u hu; simp at hu; subst hu; rfl) (by decide) (by have := hAj.out; unfold maxLen; omega) (by have := hAj.out; omega) (by simp; omega) (w2.heap.size + 1) (by simp) ?_; intro g1 cap1 w1 ho hg _ _; obtain ⟨ho1, hb1, hx1, hz1⟩ := HP.out _ _ ho hg; have HO1 : Hid (Own w1 (bx + 1) _ (A ++ [x])) := ho1; have HB1 : Hid (Below (bx + 1) w2 w1) := hb1; have HX1 : Hid (BoxN w1 bx _) := hx1; have HZ1 : Hid (BoxN w1 w.heap.size _) := hz1; have ef1 : w1.frozen? ⟨bx, 2, none⟩ = false := hx1.f 2; have ec1 : w1.cell? ⟨bx, 2, none⟩ = some (.slice ya yn yc) := hx1.c 2; clear ho hg ho1 hb1 hx1 hz1))
            all_goals (
              go_wp2
              go_roundw
              case rel => exact ⟨j + 1, A ++ [x], T, .slice (some ⟨g1, 0, none⟩) (A.length + 1) cap1, by omega, by go_num, (by show _ = _; have := hAj.out; simp; omega), (by first | exact HTD.out | exact HTD1.out (by assumption) | exact HTD2.out (by assumption)), HTS2.out, HZ1.out.other _ _ (show w.heap.size ≠ bx by omega), HX1.out.set 2 (.slice (some ⟨g1, 0, none⟩) (A.length + 1) cap1), HO1.out.below ⟨bx, 2, none⟩ _ (show bx < bx + 1 by omega), (HB2.out.trans (HB1.out.mono (by omega))).setCell (show w.heap.size ≤ (⟨bx, 2, none⟩ : Addr).block by show _ ≤ bx; omega) _, (by have := HB1.out.size; simp; omega), HF3.out⟩
              case measure => (simp [intOf]; omega))
          · have HE : Hid (E = 5) := by
              have h := HF2.out
              rw [if_neg (by simpa using hx0')] at h
              simp only [Prod.mk.injEq] at h
              exact h.1.symm
            have gx : x < 0 := by omega
            have HZ6 := HZZ
            have HB6 := HBB
            clear HZZ HBB hx0'
            go_wp2_with (first
              | (go_at_call 41; refine (RN.name (by omega) (RN.later HB6.out HT.out) true HQ.out).mono ?_; rintro e w2 ⟨rfl, hb2⟩; have HZZ : Hid (BoxN w2 w.heap.size #[.string ⟨#[]⟩, .int .i64 0, .slice none 0 0, .slice none 0 0, .int .i64 0]) := HZ6.out.later hb2; have HBB : Hid (Below w.heap.size w w2) := Below.after HB6.out hb2; line_z HZZ.out; have d1 := HC1.out _ HBB.out; clear hb2)
              | (go_at_call 42; refine (rnamed_any (HNL.out.later HBB.out) t x HX.out).mono ?_; rintro e w3 ⟨rfl, rfl⟩))
            line_out 5
    · have gj : ¬ (j : Int) < (M : Int) := by omega
      have hjM : j = M := by omega
      subst hjM
      have HF2 : Hid (lineB L t0 k A T = (E, N)) := by
        have h := HF.out
        rw [show j - j = 0 by omega, lineA_zero] at h
        exact h
      have HLA : Hid (A.length ≤ 100000000) := by show _ ≤ _; have := hAj.out; omega
      have HSZ : Hid (bx + 1 ≤ wr.heap.size) := hsz
      clear HF
      have HF : Hid (lineC L t0 k A 0 T = (E, N)) := by
        have h := HF2.out
        rw [lineB_no _ _ _ _ _ HNB.out] at h
        exact h
      clear HF2
      obtain ⟨W, hW9⟩ : ∃ W, W = wr := ⟨_, rfl⟩
      subst hW9

      have HAS : Hid (askI k = true) := HAI.out
      have HG : Hid (lineG L t0 k A 0 [] 3 T = (E, N)) := by
        have h := HF.out
        rw [lineC, if_pos HAI.out] at h
        exact h
      clear HF
      obtain ⟨iI, hi, hi0, hi1, hi2⟩ := info3
      have HI : Hid (Tryz.prog.info? 3 = some iI) := hi
      have HI0 : Hid (iI.zero = some (.int .i64 0)) := hi0
      have HI1 : Hid (iI.size = 1) := hi1
      have HI2 : Hid (iI.bytes = 8) := hi2
      clear hi hi0 hi1 hi2
      go_wp2_with (go_at_call 45; refine (asked_to (k : Int) _ true HAS.out).mono ?_; rintro e w6 ⟨rfl, rfl⟩)
      go_loopw [1, 12] (fun lv dv w' => ∃ (D : List Int) (T : List ByteArray), D.length ≤ 3 ∧ Hid (HoldsW w lv T) ∧ Hid (∀ t ∈ T, t.size ≤ 3000) ∧ Hid (Own w' W.heap.size dv D) ∧ Hid (Below W.heap.size W w') ∧ Hid (lineG L t0 k A 0 D (3 - D.length) T = (E, N))) (fun _ dv _ => 3 - lenZ dv)
      case atStart => exact ⟨[], T, Nat.zero_le _, HTW.out, HTS.out, Own.nil _ _, Below.refl _ _, HG.out⟩
      case round =>
        clear HG HTW HTS
        obtain ⟨D, T, hD3, HTW, HTS, HOD, HBD, HG⟩ := hrel
        obtain ⟨a, c, e1, hac⟩ := HTW.out.shape
        subst e1
        obtain ⟨da, dc, e1⟩ := HOD.out.ints.shape
        subst e1
        have HZ7 : Hid (BoxN wr w.heap.size #[.string ⟨#[]⟩, .int .i64 0, .slice none 0 0, .slice none 0 0, .int .i64 0]) := HZZ.out.later HBD.out
        have HX7 : Hid (BoxN wr bx #[.string t0, .int .i64 k, .slice ya yn yc, .slice none 0 0, .int .i64 0]) := HXX.out.later HBD.out
        have HA7 : Hid (Own wr (bx + 1) (.slice ya yn yc) A) := HOA.out.later HBD.out
        have HB7 : Hid (Below w.heap.size w wr) := Below.after HBB.out HBD.out
        have HS7 : Hid (bx + 1 ≤ wr.heap.size) := Nat.le_trans HSZ.out HBD.out.size
        by_cases hgo : T ≠ [] ∧ D.length < 3
        · obtain ⟨hne, hd3⟩ := hgo
          obtain ⟨t, T', rfl⟩ : ∃ t T', T = t :: T' := by
            cases T with
            | nil => exact absurd rfl hne
            | cons t T' => exact ⟨t, T', rfl⟩
          clear hne
          obtain ⟨b, off, rfl, -, hlc, hc0⟩ := HTW.out.first
          have d0 : wr.cell? ⟨b, off, none⟩ = some (.string t) := cell_later HB7.out hc0
          obtain ⟨nn, hnn⟩ : ∃ nn, (t :: T').length = nn := ⟨_, rfl⟩
          have HTW2 : Hid (HoldsW w (.slice (some ⟨b, off, none⟩) nn c) (t :: T')) := by rw [← hnn]; exact HTW.out
          have hn1 : 1 ≤ nn := by rw [← hnn]; simp
          have hlc2 : nn ≤ c := by rw [← hnn]; exact hlc
          rw [hnn]
          have g0 : (0 : Int) < (nn : Int) := by omega
          have gd : (D.length : Int) < 3 := by omega
          have gl : (1 : Int) ≤ (nn : Int) := by omega
          have HST : Hid (t.size ≤ 3000) := HTS.out t (by simp)
          have hst := HST.out
          have HTS2 : Hid (∀ t ∈ T', t.size ≤ 3000) := fun u hu => HTS.out u (by simp [hu])
          obtain ⟨q, hq⟩ : ∃ q, numK t.data.toList = q := ⟨_, rfl⟩
          have HQ : Hid (numK t.data.toList = q) := hq
          obtain ⟨x, hx⟩ : ∃ x, numV t.data.toList = x := ⟨_, rfl⟩
          have HX : Hid (numV t.data.toList = x) := hx
          have HG2 : Hid ((if q then lineG L t0 k A 0 (D ++ [x]) (3 - (D ++ [x]).length) T' else (5, nod0)) = (E, N)) := by
            have h := HG.out
            rw [show 3 - D.length = (2 - D.length) + 1 by omega, lineG_cons, HQ.out, HX.out] at h
            rw [show 3 - (D ++ [x]).length = 2 - D.length by rw [List.length_append]; simp only [List.length_cons, List.length_nil]; omega]
            exact h
          clear hq hx HG HTW HTS hnn hc0
          have HNC : Hid (∀ (w : World), Calls Tryz.prog 61 #[.string t] w fun e w' => e = .returned (.tuple #[.int .i64 x, .bool q]) ∧ w = w') := fun w => by
            have h := rnumber_to t w (by have := HST.out; omega)
            rw [HX.out, HQ.out] at h
            exact h
          cases q with
          | false =>
            have HE : Hid (E = 5) := by
              have h := HG2.out
              rw [if_neg (by simp)] at h
              simp only [Prod.mk.injEq] at h
              exact h.1.symm
            have HBB : Hid (Below w.heap.size w wr) := HB7.out
            have HZZ : Hid (BoxN wr w.heap.size #[.string ⟨#[]⟩, .int .i64 0, .slice none 0 0, .slice none 0 0, .int .i64 0]) := HZ7.out
            line_z HZZ.out
            go_wp2_with (go_at_call 61; refine (HNC.out _).mono ?_; rintro e w8 ⟨rfl, rfl⟩)
            line_out 5
          | true =>
            have HG3 : Hid (lineG L t0 k A 0 (D ++ [x]) (3 - (D ++ [x]).length) T' = (E, N)) := by
              have h := HG2.out
              rw [if_pos rfl] at h
              exact h
            have HTD0 : Hid (HoldsW w (.slice (if c = 1 then some ⟨b, off, none⟩ else (some (⟨b, off, none⟩ : Addr)).map (·.add (1 * 2))) (nn - 1) (c - 1)) T') := HTW2.out.drop 1 (by simp)
            have hsz7 := HBD.out.size
            have HI3 : Hid (Ints (wr.alloc (.cells #[.int .i64 x] 3)) (.slice (some ⟨wr.heap.size, 0, none⟩) 1 1) [x]) := (Blk.new wr [x]).ints 1 1 rfl (Nat.le_refl _) (by decide)
            have HR3 : Hid ((wr.alloc (.cells #[.int .i64 x] 3)).ownsRow W.heap.size 3 1 (.slice da D.length dc) D.length (D.map (Value.int .i64))) := HOD.out.row.alloc _
            have HB4 : Hid (Below W.heap.size W (wr.alloc (.cells #[.int .i64 x] 3))) := HBD.out.alloc hsz7 _
            clear HG2 HTW2
            by_cases hc1 : c = 1
            · have hn0 : nn - 1 = 0 := by omega
              have HTD : Hid (HoldsW w (.slice (some ⟨b, off, none⟩) 0 0) T') := by have h := HTD0.out; rw [if_pos hc1, show c - 1 = 0 by omega, hn0] at h; exact h
              clear hn0
              subst hc1
              go_wp2_with (first
                | (go_at_call 61; refine (HNC.out _).mono ?_; rintro e w8 ⟨rfl, rfl⟩)
                | (at_builtin; refine wpList_app_ints _ rfl _ _ rfl W.heap.size D [x] _ _ D.length rfl rfl HR3.out rfl HI3.out ?q1 ?q2 ?_))
              all_goals first | (simp; omega) | omega | skip
              intro ea en ec w1 ho hb
              have HO1 : Hid (Own w1 W.heap.size (.slice ea en ec) (D ++ [x])) := ho
              have HB1 : Hid (Below W.heap.size W w1) := HB4.out.trans hb
              have hlen9 : en = D.length + 1 := by obtain ⟨a9, c9, e9⟩ := ho.ints.shape; simp only [Value.slice.injEq] at e9; rw [e9.2.1]; simp
              clear ho hb
              go_wp2
              refine ⟨?_, ?_⟩
              · first
                  | exact ⟨D ++ [x], T', by simp; omega, HTD.out, HTS2.out, HO1.out, HB1.out, HG3.out⟩
                  | ((repeat apply Exists.intro)
                     refine ⟨⟨D ++ [x], T', by simp; omega, HTD.out, HTS2.out, HO1.out, HB1.out, HG3.out⟩, rfl, rfl⟩)
              · (simp only [lenZ]; omega)
            · have hc2 : ¬ 1 = c := fun e => hc1 e.symm
              have HTD : Hid (HoldsW w (.slice (some ⟨b, off + 2, none⟩) (nn - 1) (c - 1)) T') := by have h := HTD0.out; rw [if_neg hc1] at h; show HoldsW _ _ _; simpa [Addr.add] using h
              go_wp2_with (first
                | (go_at_call 61; refine (HNC.out _).mono ?_; rintro e w8 ⟨rfl, rfl⟩)
                | (at_builtin; refine wpList_app_ints _ rfl _ _ rfl W.heap.size D [x] _ _ D.length rfl rfl HR3.out rfl HI3.out ?q3 ?q4 ?_))
              all_goals first | (simp; omega) | omega | skip
              intro ea en ec w1 ho hb
              have HO1 : Hid (Own w1 W.heap.size (.slice ea en ec) (D ++ [x])) := ho
              have HB1 : Hid (Below W.heap.size W w1) := HB4.out.trans hb
              have hlen9 : en = D.length + 1 := by obtain ⟨a9, c9, e9⟩ := ho.ints.shape; simp only [Value.slice.injEq] at e9; rw [e9.2.1]; simp
              clear ho hb
              go_wp2
              refine ⟨?_, ?_⟩
              · first
                  | exact ⟨D ++ [x], T', by simp; omega, HTD.out, HTS2.out, HO1.out, HB1.out, HG3.out⟩
                  | ((repeat apply Exists.intro)
                     refine ⟨⟨D ++ [x], T', by simp; omega, HTD.out, HTS2.out, HO1.out, HB1.out, HG3.out⟩, rfl, rfl⟩)
              · (simp only [lenZ]; omega)
        · have HDL : Hid (if D = [] then E = 5 else lineD L t0 k A 0 D T = (E, N)) := by
            have h := HG.out
            by_cases hT0 : T = []
            · subst hT0
              rw [lineG_nil] at h
              show if D = [] then E = 5 else _
              split
              · rename_i h0
                rw [if_pos h0] at h
                simp only [Prod.mk.injEq] at h
                exact h.1.symm
              · rename_i h0
                rw [if_neg h0] at h
                exact h
            · have hl : D.length = 3 := by
                have : ¬ D.length < 3 := fun hh => hgo ⟨hT0, hh⟩
                omega
              have h0 : D ≠ [] := by intro e; subst e; simp at hl
              show if D = [] then E = 5 else _
              rw [if_neg h0]
              rw [show 3 - D.length = 0 by omega, lineG_zero _ _ _ _ _ _ _ h0] at h
              exact h
          have hstop : ¬ ((0 : Int) < (T.length : Int) ∧ (D.length : Int) < 3) := fun hh => hgo ⟨List.length_pos_iff.1 (by omega), by omega⟩
          have HBB' : Hid (Below w.heap.size w wr) := HB7.out
          have HZZ' : Hid (BoxN wr w.heap.size #[.string ⟨#[]⟩, .int .i64 0, .slice none 0 0, .slice none 0 0, .int .i64 0]) := HZ7.out
          clear hgo HG HBB HZZ
          have HBB := HBB'
          have HZZ := HZZ'
          clear HBB' HZZ'
          by_cases hD0 : D = []
          · subst hD0
            have HE : Hid (E = 5) := by have h := HDL.out; rw [if_pos rfl] at h; exact h
            have gz : ¬ (0 : Int) < (T.length : Int) := fun hh => hstop ⟨hh, by simp⟩
            line_z HZZ.out
            clear hstop
            go_wp2
            line_out 5
          · have HF : Hid (lineD L t0 k A 0 D T = (E, N)) := by have h := HDL.out; rw [if_neg hD0] at h; exact h
            have gD : ¬ (D.length : Int) = 0 := by have : 0 < D.length := List.length_pos_iff.2 hD0; omega
            have bD : ((D.length : Int) == 0) = false := by rw [beq_eq_false_iff_ne]; exact gD
            have HDV : Hid (Ints wr (.slice da D.length dc) D) := HOD.out.ints
            clear HDL hD0 HXX HOA HSZ
            have HXX := HX7
            have HOA := HA7
            have HSZ := HS7
            by_cases g0 : (0 : Int) < (T.length : Int)
            · have gd : ¬ (D.length : Int) < 3 := fun hh => hstop ⟨g0, hh⟩
              clear hstop
              go_upto_region 34 with fail
              by_cases hT0 : T = []
              · subst hT0
                have HFF : Hid ((if 24 ≤ L.length then (2, nod0) else (inE k 0 D L A, ⟨t0, k, A, inR k 0 D L A, 0⟩)) = (E, N)) := by
                  have h := HF.out
                  rw [lineD, if_pos rfl] at h
                  exact h
                clear HF
                by_cases h24 : 24 ≤ L.length
                · have HE : Hid (E = 2) := by
                    have h := HFF.out
                    rw [if_pos h24] at h
                    simp only [Prod.mk.injEq] at h
                    exact h.1.symm
                  have g24 : (24 : Int) ≤ (L.length : Int) := by omega
                  line_z HZZ.out
                  clear h24
                  go_wp2
                  line_out 2
                · have HE : Hid (rinE k 0 D L A = E ∧ N = ⟨t0, k, A, inR k 0 D L A, 0⟩) := by
                    have h := HFF.out
                    rw [if_neg h24] at h
                    simp only [Prod.mk.injEq] at h
                    exact ⟨(in_rin _ _ _ _ _).1.trans h.1, h.2.symm⟩
                  have g24 : ¬ (24 : Int) ≤ (L.length : Int) := by omega
                  have e2 : wr.cell? ⟨bx, 2, none⟩ = some (.slice ya yn yc) := HXX.out.c 2
                  have e4 : wr.cell? ⟨bx, 4, none⟩ = some (.int .i64 0) := HXX.out.c 4
                  clear h24 HFF
                  go_wp2_with (go_at_call 62; refine (rinfer_any (L := L) (d := D) (A := A) (k : Int) 0 (HNL.out.later HBB.out) HDV.out HOA.out.ints HLA.out).mono ?_; rintro e w9 ⟨x9, rfl, ho9, hb9⟩; rw [HE.out.1]; obtain ⟨p9, n9, c9, rfl⟩ := ho9.ints.shape3; have HO9 : Hid (Own w9 wr.heap.size (.slice p9 n9 c9) (rinR k 0 D L A)) := ho9; have HX9 : Hid (BoxN w9 bx #[.string t0, .int .i64 k, .slice ya yn yc, .slice none 0 0, .int .i64 0]) := HXX.out.later hb9; have HZ9 : Hid (BoxN w9 w.heap.size #[.string ⟨#[]⟩, .int .i64 0, .slice none 0 0, .slice none 0 0, .int .i64 0]) := HZZ.out.later hb9; have HB9 : Hid (Below w.heap.size w w9) := Below.after HBB.out hb9; have HA9 : Hid (Own w9 (bx + 1) (.slice ya yn yc) A) := HOA.out.later hb9; have HS9 : Hid (bx + 1 ≤ wr.heap.size) := HSZ.out; clear ho9 hb9; line_z HZ9.out; have k0 : w9.cell? ⟨bx, 0, none⟩ = some (.string t0) := HX9.out.c 0; have k1 : w9.cell? ⟨bx, 1, none⟩ = some (.int .i64 k) := HX9.out.c 1; have k2 : w9.cell? ⟨bx, 2, none⟩ = some (.slice ya yn yc) := HX9.out.c 2; have k3 : w9.cell? ⟨bx, 3, none⟩ = some (.slice none 0 0) := HX9.out.c 3; have k4 : w9.cell? ⟨bx, 4, none⟩ = some (.int .i64 0) := HX9.out.c 4; have kf := HX9.out.f 3)
                  have BX : Hid (BoxN (w9.setCell ⟨bx, 3, none⟩ (.slice p9 n9 c9)) w.heap.size #[.string ⟨#[]⟩, .int .i64 0, .slice none 0 0, .slice none 0 0, .int .i64 0]) := HZ9.out.other _ _ (show w.heap.size ≠ bx by omega)
                  have BR : Hid (BoxN _ w.heap.size #[.string t0, .int .i64 k, .slice ya yn yc, .slice p9 n9 c9, .int .i64 0]) := ((((BX.out.set 0 (.string t0)).set 1 (.int .i64 k)).set 2 (.slice ya yn yc)).set 3 (.slice p9 n9 c9)).set 4 (.int .i64 0)
                  have r0 := (BR.out.c 0).trans (show _ = some (.string t0) from rfl)
                  have r1 := (BR.out.c 1).trans (show _ = some (.int .i64 k) from rfl)
                  have r2 := (BR.out.c 2).trans (show _ = some (.slice ya yn yc) from rfl)
                  have r3 := (BR.out.c 3).trans (show _ = some (.slice p9 n9 c9) from rfl)
                  have r4 := (BR.out.c 4).trans (show _ = some (.int .i64 0) from rfl)
                  have hs9 := HS9.out
                  refine bodyPost_ret (v := .tuple #[.agg #[.string t0, .int .i64 k, .slice ya yn yc, .slice p9 n9 c9, .int .i64 0], .int .i64 E]) (by simp [results, Tryz.results31, go_sem, r0, r1, r2, r3, r4]) rfl ⟨_, _, _, _, _, rfl, ⟨_, _, _, rfl⟩, ⟨_, _, _, rfl⟩, (fun _ => ?_), ?_⟩
                  · rw [HE.out.2]
                    refine ⟨rfl, rfl, rfl, ?_, ?_⟩
                    · exact (((((((HA9.out.below ⟨bx, 3, none⟩ _ (by show bx < bx + 1; omega)).below ⟨w.heap.size, 0, none⟩ _ (by show w.heap.size < _; omega)).below ⟨w.heap.size, 1, none⟩ _ (by show w.heap.size < _; omega)).below ⟨w.heap.size, 2, none⟩ _ (by show w.heap.size < _; omega)).below ⟨w.heap.size, 3, none⟩ _ (by show w.heap.size < _; omega)).below ⟨w.heap.size, 4, none⟩ _ (by show w.heap.size < _; omega))).mono (by omega)
                    · have h9 := HO9.out
                      rw [(in_rin _ _ _ _ _).2] at h9
                      exact (((((((h9.below ⟨bx, 3, none⟩ _ (by show bx < _; omega)).below ⟨w.heap.size, 0, none⟩ _ (by show w.heap.size < _; omega)).below ⟨w.heap.size, 1, none⟩ _ (by show w.heap.size < _; omega)).below ⟨w.heap.size, 2, none⟩ _ (by show w.heap.size < _; omega)).below ⟨w.heap.size, 3, none⟩ _ (by show w.heap.size < _; omega)).below ⟨w.heap.size, 4, none⟩ _ (by show w.heap.size < _; omega))).mono (by omega)
                  · exact ((((((HB9.out.setCell (show w.heap.size ≤ bx by omega) _).setCell (Nat.le_refl _) _).setCell (Nat.le_refl _) _).setCell (Nat.le_refl _) _).setCell (Nat.le_refl _) _).setCell (Nat.le_refl _) _)
              · have HE : Hid (E = 5) := by
                  have h := HF.out
                  rw [lineD, if_neg hT0] at h
                  simp only [Prod.mk.injEq] at h
                  exact h.1.symm
                have gT : (0 : Int) < (T.length : Int) := by have : 0 < T.length := List.length_pos_iff.2 hT0; omega
                line_z HZZ.out
                clear hT0
                first
                  | (exfalso; omega)
                  | (go_wp2
                     line_out 5)

            · clear hstop
              go_upto_region 34 with fail
              by_cases hT0 : T = []
              · subst hT0
                have HFF : Hid ((if 24 ≤ L.length then (2, nod0) else (inE k 0 D L A, ⟨t0, k, A, inR k 0 D L A, 0⟩)) = (E, N)) := by
                  have h := HF.out
                  rw [lineD, if_pos rfl] at h
                  exact h
                clear HF
                by_cases h24 : 24 ≤ L.length
                · have HE : Hid (E = 2) := by
                    have h := HFF.out
                    rw [if_pos h24] at h
                    simp only [Prod.mk.injEq] at h
                    exact h.1.symm
                  have g24 : (24 : Int) ≤ (L.length : Int) := by omega
                  line_z HZZ.out
                  clear h24
                  go_wp2
                  line_out 2
                · have HE : Hid (rinE k 0 D L A = E ∧ N = ⟨t0, k, A, inR k 0 D L A, 0⟩) := by
                    have h := HFF.out
                    rw [if_neg h24] at h
                    simp only [Prod.mk.injEq] at h
                    exact ⟨(in_rin _ _ _ _ _).1.trans h.1, h.2.symm⟩
                  have g24 : ¬ (24 : Int) ≤ (L.length : Int) := by omega
                  have e2 : wr.cell? ⟨bx, 2, none⟩ = some (.slice ya yn yc) := HXX.out.c 2
                  have e4 : wr.cell? ⟨bx, 4, none⟩ = some (.int .i64 0) := HXX.out.c 4
                  clear h24 HFF
                  go_wp2_with (go_at_call 62; refine (rinfer_any (L := L) (d := D) (A := A) (k : Int) 0 (HNL.out.later HBB.out) HDV.out HOA.out.ints HLA.out).mono ?_; rintro e w9 ⟨x9, rfl, ho9, hb9⟩; rw [HE.out.1]; obtain ⟨p9, n9, c9, rfl⟩ := ho9.ints.shape3; have HO9 : Hid (Own w9 wr.heap.size (.slice p9 n9 c9) (rinR k 0 D L A)) := ho9; have HX9 : Hid (BoxN w9 bx #[.string t0, .int .i64 k, .slice ya yn yc, .slice none 0 0, .int .i64 0]) := HXX.out.later hb9; have HZ9 : Hid (BoxN w9 w.heap.size #[.string ⟨#[]⟩, .int .i64 0, .slice none 0 0, .slice none 0 0, .int .i64 0]) := HZZ.out.later hb9; have HB9 : Hid (Below w.heap.size w w9) := Below.after HBB.out hb9; have HA9 : Hid (Own w9 (bx + 1) (.slice ya yn yc) A) := HOA.out.later hb9; have HS9 : Hid (bx + 1 ≤ wr.heap.size) := HSZ.out; clear ho9 hb9; line_z HZ9.out; have k0 : w9.cell? ⟨bx, 0, none⟩ = some (.string t0) := HX9.out.c 0; have k1 : w9.cell? ⟨bx, 1, none⟩ = some (.int .i64 k) := HX9.out.c 1; have k2 : w9.cell? ⟨bx, 2, none⟩ = some (.slice ya yn yc) := HX9.out.c 2; have k3 : w9.cell? ⟨bx, 3, none⟩ = some (.slice none 0 0) := HX9.out.c 3; have k4 : w9.cell? ⟨bx, 4, none⟩ = some (.int .i64 0) := HX9.out.c 4; have kf := HX9.out.f 3)
                  have BX : Hid (BoxN (w9.setCell ⟨bx, 3, none⟩ (.slice p9 n9 c9)) w.heap.size #[.string ⟨#[]⟩, .int .i64 0, .slice none 0 0, .slice none 0 0, .int .i64 0]) := HZ9.out.other _ _ (show w.heap.size ≠ bx by omega)
                  have BR : Hid (BoxN _ w.heap.size #[.string t0, .int .i64 k, .slice ya yn yc, .slice p9 n9 c9, .int .i64 0]) := ((((BX.out.set 0 (.string t0)).set 1 (.int .i64 k)).set 2 (.slice ya yn yc)).set 3 (.slice p9 n9 c9)).set 4 (.int .i64 0)
                  have r0 := (BR.out.c 0).trans (show _ = some (.string t0) from rfl)
                  have r1 := (BR.out.c 1).trans (show _ = some (.int .i64 k) from rfl)
                  have r2 := (BR.out.c 2).trans (show _ = some (.slice ya yn yc) from rfl)
                  have r3 := (BR.out.c 3).trans (show _ = some (.slice p9 n9 c9) from rfl)
                  have r4 := (BR.out.c 4).trans (show _ = some (.int .i64 0) from rfl)
                  have hs9 := HS9.out
                  refine bodyPost_ret (v := .tuple #[.agg #[.string t0, .int .i64 k, .slice ya yn yc, .slice p9 n9 c9, .int .i64 0], .int .i64 E]) (by simp [results, Tryz.results31, go_sem, r0, r1, r2, r3, r4]) rfl ⟨_, _, _, _, _, rfl, ⟨_, _, _, rfl⟩, ⟨_, _, _, rfl⟩, (fun _ => ?_), ?_⟩
                  · rw [HE.out.2]
                    refine ⟨rfl, rfl, rfl, ?_, ?_⟩
                    · exact (((((((HA9.out.below ⟨bx, 3, none⟩ _ (by show bx < bx + 1; omega)).below ⟨w.heap.size, 0, none⟩ _ (by show w.heap.size < _; omega)).below ⟨w.heap.size, 1, none⟩ _ (by show w.heap.size < _; omega)).below ⟨w.heap.size, 2, none⟩ _ (by show w.heap.size < _; omega)).below ⟨w.heap.size, 3, none⟩ _ (by show w.heap.size < _; omega)).below ⟨w.heap.size, 4, none⟩ _ (by show w.heap.size < _; omega))).mono (by omega)
                    · have h9 := HO9.out
                      rw [(in_rin _ _ _ _ _).2] at h9
                      exact (((((((h9.below ⟨bx, 3, none⟩ _ (by show bx < _; omega)).below ⟨w.heap.size, 0, none⟩ _ (by show w.heap.size < _; omega)).below ⟨w.heap.size, 1, none⟩ _ (by show w.heap.size < _; omega)).below ⟨w.heap.size, 2, none⟩ _ (by show w.heap.size < _; omega)).below ⟨w.heap.size, 3, none⟩ _ (by show w.heap.size < _; omega)).below ⟨w.heap.size, 4, none⟩ _ (by show w.heap.size < _; omega))).mono (by omega)
                  · exact ((((((HB9.out.setCell (show w.heap.size ≤ bx by omega) _).setCell (Nat.le_refl _) _).setCell (Nat.le_refl _) _).setCell (Nat.le_refl _) _).setCell (Nat.le_refl _) _).setCell (Nat.le_refl _) _)
              · have HE : Hid (E = 5) := by
                  have h := HF.out
                  rw [lineD, if_neg hT0] at h
                  simp only [Prod.mk.injEq] at h
                  exact h.1.symm
                have gT : (0 : Int) < (T.length : Int) := by have : 0 < T.length := List.length_pos_iff.2 hT0; omega
                line_z HZZ.out
                clear hT0
                first
                  | (exfalso; omega)
                  | (go_wp2
                     line_out 5)
end Go.Proofs.YtkojdigaoihkpaaGreatDoor

end
section
namespace Go.Proofs.YtkojdigaoihkpaaGreatDoor
set_option linter.unusedVariables false
set_option linter.unusedSimpArgs false
set_option maxRecDepth 100000
open Go.RowKit

set_option maxHeartbeats 32000000 in
theorem rline_3 {TB : World → Prop} (RN : RName TB) {v u : Value} {L : List Nod} {t0 t1 t2 : ByteArray} {r : List ByteArray} {w : World} (h : NodesL w v L) (hu : HoldsW w u (t0 :: t1 :: t2 :: r)) (hT : TB w) (hts : ∀ t ∈ t0 :: t1 :: t2 :: r, t.size ≤ 3000) (k : Nat) (hk : kindF t2 = k) (hk1 : 1 ≤ k ∧ k ≤ 15) (hkk : k = 3) (hn0 : nameB t0 = true) (hx0 : nmdN L t0 0 < 0) (h1 : t1 = ⟨#[61]⟩) (E : Int) (N : Nod) (hE : lineA L t0 k [] (many k) r = (E, N)) :
    Calls Tryz.prog 31 #[v, u] w (LineP w E N) := by
  obtain ⟨va, vc, rfl, _, _⟩ := h.shape
  obtain ⟨ua, uc, rfl, _⟩ := hu.shape
  have HT : Hid (TB w) := hT
  have HNL : Hid (NodesL w (.slice va L.length vc) L) := h
  obtain ⟨b, off, rfl, -, hlc, hc0, hc1, hc2⟩ := hu.three
  have HU3 : Hid (HoldsW w (.slice (if uc = 3 then some ⟨b, off, none⟩ else (some (⟨b, off, none⟩ : Addr)).map (·.add (3 * 2))) ((t0 :: t1 :: t2 :: r).length - 3) (uc - 3)) r) := hu.drop 3 (by simp)
  have HTS0 : Hid (∀ t ∈ r, t.size ≤ 3000) := fun t ht => hts t (by simp [ht])
  have ht0 : t0.size ≤ 3000 := hts t0 (by simp)
  obtain ⟨m, hm⟩ : ∃ m, (t0 :: t1 :: t2 :: r).length = m := ⟨_, rfl⟩
  have hm3 : 3 ≤ m := by rw [← hm]; simp
  rw [hm] at hlc HU3 ⊢
  have HAI : Hid (askI k = true) := by show _ = _; rw [hkk]; rfl
  have HNB : Hid (numbI k = true) := by show _ = _; rw [hkk]; rfl
  have HHE : Hid (lineA L t0 k [] (many k) r = (E, N)) := hE
  obtain ⟨M, hM⟩ : ∃ M, many k = M := ⟨_, rfl⟩
  have HM : Hid (manyI k = M) := by
    show _ = _
    rw [manyI, if_pos (by omega), ← hM]
    rfl
  rw [hM] at HHE
  have hM2 : M ≤ 2 := by rw [← hM]; exact many_le k
  have e3 : ((k : Int) == 3) = true := by rw [hkk]; rfl
  have gk0 : ((k : Int) == 0) = false := by rw [beq_eq_false_iff_ne]; omega
  obtain ⟨U, hU⟩ : ∃ U, U = w.alloc (.cells #[.string ⟨#[]⟩, .int .i64 0, .slice none 0 0, .slice none 0 0, .int .i64 0] 55) := ⟨_, rfl⟩
  have HUU : Hid (U = w.alloc (.cells #[.string ⟨#[]⟩, .int .i64 0, .slice none 0 0, .slice none 0 0, .int .i64 0] 55)) := hU
  have HB : Hid (Below w.heap.size w U) := by show Below _ _ _; rw [hU]; exact Below.push (Below.refl _ _) _
  have HZ : Hid (BoxN U w.heap.size #[.string ⟨#[]⟩, .int .i64 0, .slice none 0 0, .slice none 0 0, .int .i64 0]) := by show BoxN _ _ _; rw [hU]; exact BoxN.new w _
  have HC0 : Hid (∀ w', Below w.heap.size w w' → w'.cell? ⟨b, off, none⟩ = some (.string t0) ∧ w'.cell? ⟨b, off + 2, none⟩ = some (.string t1) ∧ w'.cell? ⟨b, off + 4, none⟩ = some (.string t2)) := fun w' hb => ⟨cell_later hb hc0, cell_later hb hc1, cell_later hb hc2⟩
  have g1 : ¬ (m : Int) < 3 := by omega
  have g2 : (0 : Int) < m := by omega
  have g3 : (1 : Int) < m := by omega
  have g4 : (2 : Int) < m := by omega
  have g5 : (3 : Int) ≤ m := by omega
  have c0 := (HC0.out U HB.out).1
  obtain ⟨x0, hx⟩ : ∃ x, nmdN L t0 0 = x := ⟨_, rfl⟩
  have HX0 : Hid (nmdN L t0 0 = x0) := hx
  rw [hx] at hx0
  have HQ0 : Hid (nameB t0 = true) := hn0
  have HK0 : Hid (kindF t2 = k) := hk
  have q1 : (t1.toList == [61]) = true := by rw [h1, Lib.toList_data]; rfl
  clear hU h hu hT hc0 hc1 hc2 hm hx hn0 hk hE hM hts hkk
  go_enter Tryz.func31, Tryz.ntmps31
  go_upto_region 1 with fail
  rw [← HUU.out]
  go_upto_region 7 with (first
    | (go_at_call 41; refine (RN.name (by omega) (RN.later HB.out HT.out) true HQ0.out).mono ?_; rintro e w2 ⟨rfl, hb2⟩; have HZ2 : Hid (BoxN w2 w.heap.size #[.string ⟨#[]⟩, .int .i64 0, .slice none 0 0, .slice none 0 0, .int .i64 0]) := HZ.out.later hb2; have HB2 : Hid (Below w.heap.size w w2) := Below.after HB.out hb2; obtain ⟨d0, d1, d2⟩ := HC0.out _ HB2.out; clear hb2)
    | (go_at_call 42; refine (rnamed_any (HNL.out.later HB2.out) t0 x0 HX0.out).mono ?_; rintro e w3 ⟨rfl, rfl⟩)
    | (go_at_call 59; refine (rkind_to t2 _ k HK0.out).mono ?_; rintro e w4 ⟨rfl, hb4⟩; have HZ4 : Hid (BoxN w4 w.heap.size #[.string ⟨#[]⟩, .int .i64 0, .slice none 0 0, .slice none 0 0, .int .i64 0]) := HZ2.out.later hb4; have HB4 : Hid (Below w.heap.size w w4) := Below.after HB2.out hb4; obtain ⟨d3, d4, d5⟩ := HC0.out _ HB4.out; clear hb4))
  obtain ⟨bx, hbx⟩ : ∃ bx, w4.heap.size = bx := ⟨_, rfl⟩
  obtain ⟨V, hV⟩ : ∃ V, V = w4.alloc (.cells #[.string t0, .int .i64 k, .slice none 0 0, .slice none 0 0, .int .i64 0] 55) := ⟨_, rfl⟩
  have HZV : Hid (BoxN V w.heap.size #[.string ⟨#[]⟩, .int .i64 0, .slice none 0 0, .slice none 0 0, .int .i64 0]) := by show BoxN _ _ _; rw [hV]; exact HZ4.out.alloc _
  have HXV : Hid (BoxN V bx #[.string t0, .int .i64 k, .slice none 0 0, .slice none 0 0, .int .i64 0]) := by show BoxN _ _ _; rw [hV, ← hbx]; exact BoxN.new w4 _
  have HBV : Hid (Below w.heap.size w V) := by show Below _ _ _; rw [hV]; exact Below.push HB4.out _
  have hsV : bx + 1 ≤ V.heap.size := by rw [hV, ← hbx]; simp
  have hwb : w.heap.size < bx := by have := HZ4.out.lt; omega
  rw [← hV]
  rw [hbx]
  clear hV hbx d0 d1 d2 d3 d4 d5 c0
  go_cut [1] (fun v wx => Hid (HoldsW w v r) ∧ wx = V)
  case first =>
    go_upto_region 8 with fail
    all_goals (
      go_meet
      case rel => exact ⟨by first | exact HU3.out | (have h := HU3.out; simp_all; done) | (have h := HU3.out; simp_all [Addr.add]; done), rfl⟩)
  case rest =>
  obtain ⟨HU4, rfl⟩ := hcut
  go_wp2_with (go_at_call 60; refine (many_to (k : Int) _ (M : Int) HM.out).mono ?_; rintro e w5 ⟨rfl, rfl⟩)
  go_loopw [1, 9] (fun lv iv w' => ∃ (j : Nat) (A : List Int) (T : List ByteArray) (y : Value), j ≤ M ∧ iv = .int .i64 j ∧ Hid (A.length = j) ∧ Hid (HoldsW w lv T) ∧ Hid (∀ t ∈ T, t.size ≤ 3000) ∧ Hid (BoxN w' w.heap.size #[.string ⟨#[]⟩, .int .i64 0, .slice none 0 0, .slice none 0 0, .int .i64 0]) ∧ Hid (BoxN w' bx #[.string t0, .int .i64 k, y, .slice none 0 0, .int .i64 0]) ∧ Hid (Own w' (bx + 1) y A) ∧ Hid (Below w.heap.size w w') ∧ bx + 1 ≤ w'.heap.size ∧ Hid (lineA L t0 k A (M - j) T = (E, N))) (fun _ iv _ => M - (intOf iv).toNat)
  case atStart => exact ⟨0, [], r, _, Nat.zero_le _, rfl, rfl, HU4.out, HTS0.out, HZV.out, HXV.out, Own.nil _ _, HBV.out, hsV, HHE.out⟩
  case round =>
    obtain ⟨j, A, T, y, hj, rfl, hAj, HTW, HTS, HZZ, HXX, HOA, HBB, hsz, HF⟩ := hrel
    obtain ⟨a, c, e1, hac⟩ := HTW.out.shape
    subst e1
    obtain ⟨ya, yn, yc, e1⟩ := HOA.out.ints.shape3
    subst e1
    by_cases hlt : j < M
    · have gj : (j : Int) < (M : Int) := by omega
      cases T with
      | nil =>
        have HE : Hid (E = 5) := by
          have h := HF.out
          rw [show M - j = (M - j - 1) + 1 by omega, lineA_nil] at h
          simp only [Prod.mk.injEq] at h
          exact h.1.symm
        line_z HZZ.out
        go_wp2
        line_out 5
      | cons t T =>
        obtain ⟨b, off, rfl, -, hlc, hc0⟩ := HTW.out.first
        have HC1 : Hid (∀ w', Below w.heap.size w w' → w'.cell? ⟨b, off, none⟩ = some (.string t)) := fun w' hb => cell_later hb hc0
        have d0 := HC1.out _ HBB.out
        obtain ⟨nn, hnn⟩ : ∃ nn, (t :: T).length = nn := ⟨_, rfl⟩
        have HTW2 : Hid (HoldsW w (.slice (some ⟨b, off, none⟩) nn c) (t :: T)) := by rw [← hnn]; exact HTW.out
        have hn1 : 1 ≤ nn := by rw [← hnn]; simp
        rw [hnn]
        have gz : ¬ (nn : Int) = 0 := by omega
        have bz : ((nn : Int) == 0) = false := by rw [beq_eq_false_iff_ne]; exact gz
        have g0 : (0 : Int) < (nn : Int) := by omega
        have gl : (1 : Int) ≤ (nn : Int) := by omega
        have HST : Hid (t.size ≤ 3000) := HTS.out t (by simp)
        have hst := HST.out
        have HTS2 : Hid (∀ t ∈ T, t.size ≤ 3000) := fun u hu => HTS.out u (by simp [hu])
        obtain ⟨q, hq⟩ : ∃ q, nameB t = q := ⟨_, rfl⟩
        have HQ : Hid (nameB t = q) := hq
        obtain ⟨x, hx⟩ : ∃ x, nmdN L t 0 = x := ⟨_, rfl⟩
        have HX : Hid (nmdN L t 0 = x) := hx
        have HF2 : Hid ((if q && decide (0 ≤ x) then lineA L t0 k (A ++ [x]) (M - (j + 1)) T else (5, nod0)) = (E, N)) := by
          have h := HF.out
          rw [show M - j = (M - (j + 1)) + 1 by omega, lineA_cons, HQ.out, HX.out] at h
          exact h
        clear hq hx HF HTW HTS hnn hc0
        cases q with
        | false =>
          have HE : Hid (E = 5) := by
            have h := HF2.out
            rw [if_neg (by simp)] at h
            simp only [Prod.mk.injEq] at h
            exact h.1.symm
          have HZ6 := HZZ
          have HB6 := HBB
          clear HZZ HBB
          go_wp2_with (go_at_call 41; refine (RN.name (by omega) (RN.later HB6.out HT.out) false HQ.out).mono ?_; rintro e w2 ⟨rfl, hb2⟩; have HZZ : Hid (BoxN w2 w.heap.size #[.string ⟨#[]⟩, .int .i64 0, .slice none 0 0, .slice none 0 0, .int .i64 0]) := HZ6.out.later hb2; have HBB : Hid (Below w.heap.size w w2) := Below.after HB6.out hb2; line_z HZZ.out; clear hb2)
          line_out 5
        | true =>
          by_cases hx0' : 0 ≤ x
          · have HF3 : Hid (lineA L t0 k (A ++ [x]) (M - (j + 1)) T = (E, N)) := by
              have h := HF2.out
              rw [if_pos (by simpa using hx0')] at h
              exact h
            have HTD : Hid (HoldsW w (.slice (if c = 1 then some ⟨b, off, none⟩ else (some (⟨b, off, none⟩ : Addr)).map (·.add (1 * 2))) (nn - 1) (c - 1)) T) := HTW2.out.drop 1 (by simp)
            have HTD1 : Hid (c = 1 → HoldsW w (.slice (some ⟨b, off, none⟩) (nn - 1) 0) T) := fun hc => by have h := HTD.out; rw [if_pos hc, show c - 1 = 0 by omega] at h; exact h
            have HTD2 : Hid (¬ c = 1 → HoldsW w (.slice (some ⟨b, off + 2, none⟩) (nn - 1) (c - 1)) T) := fun hc => by have h := HTD.out; rw [if_neg hc] at h; simpa [Addr.add] using h
            have gx : ¬ x < 0 := by omega
            obtain ⟨iI, hi, hi0, hi1, hi2⟩ := info3
            have HI : Hid (Tryz.prog.info? 3 = some iI) := hi
            have HI0 : Hid (iI.zero = some (.int .i64 0)) := hi0
            have HI1 : Hid (iI.size = 1) := hi1
            have HI2 : Hid (iI.bytes = 8) := hi2
            clear hi hi0 hi1 hi2 HF2 HTW2
            go_upto_region 14 with (first
              | (go_at_call 41; refine (RN.name (by omega) (RN.later HBB.out HT.out) true HQ.out).mono ?_; rintro e w2 ⟨rfl, hb2⟩; have HZ2 : Hid (BoxN w2 w.heap.size #[.string ⟨#[]⟩, .int .i64 0, .slice none 0 0, .slice none 0 0, .int .i64 0]) := HZZ.out.later hb2; have HX2 : Hid (BoxN w2 bx #[.string t0, .int .i64 k, .slice ya yn yc, .slice none 0 0, .int .i64 0]) := HXX.out.later hb2; have HA2 : Hid (Own w2 (bx + 1) (.slice ya yn yc) A) := HOA.out.later hb2; have HB2 : Hid (Below w.heap.size w w2) := Below.after HBB.out hb2; have hs2 : bx + 1 ≤ w2.heap.size := Nat.le_trans hsz hb2.size; have d1 := HC1.out _ HB2.out; clear hb2)
              | (go_at_call 42; refine (rnamed_any (HNL.out.later HB2.out) t x HX.out).mono ?_; rintro e w3 ⟨rfl, rfl⟩))
            have e2 : w2.cell? ⟨bx, 2, none⟩ = some (.slice ya yn yc) := HX2.out.c 2
            have ef : w2.frozen? ⟨bx, 2, none⟩ = false := HX2.out.f 2
            clear d0 HZZ HXX HOA HBB
            have e2a : (w2.alloc (.cells #[.int .i64 x] 3)).cell? ⟨bx, 2, none⟩ = some (.slice ya yn yc) := (HX2.out.alloc _).c 2
            have gN : 0 < nn := by omega
            have HN1 : Hid (∀ w', Below w.heap.size w w' → ∀ j u, [Value.int .i64 x][j]? = some u → (w2.alloc (.cells #[.int .i64 x] 3)).drew.cell? ((⟨w2.heap.size, 0, none⟩ : Addr).add j) = some u) := fun _ _ => cell_one_new w2 _ _
            have HA3 : Hid ((w2.alloc (.cells #[.int .i64 x] 3)).drew.ownsRow (bx + 1) 3 1 (.slice ya yn yc) A.length (A.map (Value.int .i64))) := HA2.out.row.alloc _
            have HP : Hid (∀ v1 w1, w1.ownsRow (bx + 1) 3 1 v1 (A.length + 1) (A.map (Value.int .i64) ++ [.int .i64 x]) → (w2.alloc (.cells #[.int .i64 x] 3)).drew.grownBy w1 (Value.slice ya yn yc).ownBlock → Own w1 (bx + 1) v1 (A ++ [x]) ∧ Below (bx + 1) w2 w1 ∧ BoxN w1 bx #[.string t0, .int .i64 k, .slice ya yn yc, .slice none 0 0, .int .i64 0] ∧ BoxN w1 w.heap.size #[.string ⟨#[]⟩, .int .i64 0, .slice none 0 0, .slice none 0 0, .int .i64 0]) := fun v1 w1 ho hg => by
              have h1 : Below (bx + 1) w2 w1 := (((Below.refl (bx + 1) w2).alloc hs2 _).drew).grown hg (by simp; omega) (fun q hq => (HA2.out.row.lt q hq).1)
              refine ⟨⟨?_, ?_⟩, h1, (h1.block bx (by omega)).trans HX2.out, (h1.block _ (by omega)).trans HZ2.out⟩
              · simp only [List.length_append, List.map_append, List.length_cons, List.length_nil, List.map_cons, List.map_nil] at ho ⊢
                exact ho
              · have := hAj.out
                simp only [List.length_append, List.length_cons, List.length_nil]
                unfold big
                omega
            go_region_law (first
              | (rw [if_pos (by simp [Region.wanted])]; go_simp; go_at_call 42; refine (rnamed_any (HNL.out.later HB2.out.drew) t x HX.out).mono ?_; rintro e w3 ⟨rfl, rfl⟩)
              | (refine step_append_lies _ rfl (.tmp 90) (.tmp 97) 23 rfl (bx + 1) 3 iI (.int .i64 0) 1 8 Tryz.underlying23 HI.out HI0.out HI1.out HI2.out rfl (by decide) (.slice ya yn yc) A.length (A.map (Value.int .i64)) (by simp [Act.eval, Act.put]) HA3.out ⟨w2.heap.size, 0, none⟩ 1 1 [.int .i64 x] (by simp [Act.eval, Act.put]) rfl (HN1.out w (Below.refl _ _)) (by intro u hu; simp at hu; subst hu; rfl) (by decide) (by have := hAj.out; unfold maxLen; omega) (by have := hAj.out; omega) (by simp; omega) (w2.heap.size + 1) (by simp) ?_; intro g1 cap1 w1 ho hg _ _; obtain ⟨ho1, hb1, hx1, hz1⟩ := HP.out _ _ ho hg; have HO1 : Hid (Own w1 (bx + 1) _ (A ++ [x])) := ho1; have HB1 : Hid (Below (bx + 1) w2 w1) := hb1; have HX1 : Hid (BoxN w1 bx _) := hx1; have HZ1 : Hid (BoxN w1 w.heap.size _) := hz1; have ef1 : w1.frozen? ⟨bx, 2, none⟩ = false := hx1.f 2; have ec1 : w1.cell? ⟨bx, 2, none⟩ = some (.slice ya yn yc) := hx1.c 2; clear ho hg ho1 hb1 hx1 hz1))
            all_goals (
              go_wp2
              go_roundw
              case rel => exact ⟨j + 1, A ++ [x], T, .slice (some ⟨g1, 0, none⟩) (A.length + 1) cap1, by omega, by go_num, (by show _ = _; have := hAj.out; simp; omega), (by first | exact HTD.out | exact HTD1.out (by assumption) | exact HTD2.out (by assumption)), HTS2.out, HZ1.out.other _ _ (show w.heap.size ≠ bx by omega), HX1.out.set 2 (.slice (some ⟨g1, 0, none⟩) (A.length + 1) cap1), HO1.out.below ⟨bx, 2, none⟩ _ (show bx < bx + 1 by omega), (HB2.out.trans (HB1.out.mono (by omega))).setCell (show w.heap.size ≤ (⟨bx, 2, none⟩ : Addr).block by show _ ≤ bx; omega) _, (by have := HB1.out.size; simp; omega), HF3.out⟩
              case measure => (simp [intOf]; omega))
          · have HE : Hid (E = 5) := by
              have h := HF2.out
              rw [if_neg (by simpa using hx0')] at h
              simp only [Prod.mk.injEq] at h
              exact h.1.symm
            have gx : x < 0 := by omega
            have HZ6 := HZZ
            have HB6 := HBB
            clear HZZ HBB hx0'
            go_wp2_with (first
              | (go_at_call 41; refine (RN.name (by omega) (RN.later HB6.out HT.out) true HQ.out).mono ?_; rintro e w2 ⟨rfl, hb2⟩; have HZZ : Hid (BoxN w2 w.heap.size #[.string ⟨#[]⟩, .int .i64 0, .slice none 0 0, .slice none 0 0, .int .i64 0]) := HZ6.out.later hb2; have HBB : Hid (Below w.heap.size w w2) := Below.after HB6.out hb2; line_z HZZ.out; have d1 := HC1.out _ HBB.out; clear hb2)
              | (go_at_call 42; refine (rnamed_any (HNL.out.later HBB.out) t x HX.out).mono ?_; rintro e w3 ⟨rfl, rfl⟩))
            line_out 5
    · have gj : ¬ (j : Int) < (M : Int) := by omega
      have hjM : j = M := by omega
      subst hjM
      have HF2 : Hid (lineB L t0 k A T = (E, N)) := by
        have h := HF.out
        rw [show j - j = 0 by omega, lineA_zero] at h
        exact h
      have HLA : Hid (A.length ≤ 100000000) := by show _ ≤ _; have := hAj.out; omega
      have HSZ : Hid (bx + 1 ≤ wr.heap.size) := hsz
      clear HF
      cases T with
      | nil =>
        have HE : Hid (E = 5) := by
          have h := HF2.out
          rw [lineB_nil _ _ _ _ HNB.out] at h
          simp only [Prod.mk.injEq] at h
          exact h.1.symm
        line_z HZZ.out
        go_wp2
        line_out 5
      | cons t T =>
        obtain ⟨b, off, rfl, -, hlc, hc0⟩ := HTW.out.first
        have d0 : wr.cell? ⟨b, off, none⟩ = some (.string t) := cell_later HBB.out hc0
        obtain ⟨nn, hnn⟩ : ∃ nn, (t :: T).length = nn := ⟨_, rfl⟩
        have HTW2 : Hid (HoldsW w (.slice (some ⟨b, off, none⟩) nn c) (t :: T)) := by rw [← hnn]; exact HTW.out
        have hn1 : 1 ≤ nn := by rw [← hnn]; simp
        have hlc2 : nn ≤ c := by rw [← hnn]; exact hlc
        rw [hnn]
        have gz : ¬ (nn : Int) = 0 := by omega
        have bz : ((nn : Int) == 0) = false := by rw [beq_eq_false_iff_ne]; exact gz
        have g0 : (0 : Int) < (nn : Int) := by omega
        have gl : (1 : Int) ≤ (nn : Int) := by omega
        have HST : Hid (t.size ≤ 3000) := HTS.out t (by simp)
        have HTS2 : Hid (∀ t ∈ T, t.size ≤ 3000) := fun u hu => HTS.out u (by simp [hu])
        obtain ⟨q, hq⟩ : ∃ q, numK t.data.toList = q := ⟨_, rfl⟩
        have HQ : Hid (numK t.data.toList = q) := hq
        obtain ⟨n, hx⟩ : ∃ x, numV t.data.toList = x := ⟨_, rfl⟩
        have HX : Hid (numV t.data.toList = n) := hx
        have HF3 : Hid ((if q then lineC L t0 k A n T else (5, nod0)) = (E, N)) := by
          have h := HF2.out
          rw [lineB_cons _ _ _ _ _ _ HNB.out, HQ.out, HX.out] at h
          exact h
        have HNC : Hid (∀ (w : World), Calls Tryz.prog 61 #[.string t] w fun e w' => e = .returned (.tuple #[.int .i64 n, .bool q]) ∧ w = w') := fun w => by
          have h := rnumber_to t w (by have := HST.out; omega)
          rw [HX.out, HQ.out] at h
          exact h
        clear hq hx HF2 HTW HTS hnn hc0
        cases q with
        | false =>
          have HE : Hid (E = 5) := by
            have h := HF3.out
            rw [if_neg (by simp)] at h
            simp only [Prod.mk.injEq] at h
            exact h.1.symm
          line_z HZZ.out
          go_wp2_with (go_at_call 61; refine (HNC.out _).mono ?_; rintro e w8 ⟨rfl, rfl⟩)
          line_out 5
        | true =>
          have HF : Hid (lineC L t0 k A n T = (E, N)) := by
            have h := HF3.out
            rw [if_pos rfl] at h
            exact h
          have HTW : Hid (HoldsW w (.slice (if c = 1 then some ⟨b, off, none⟩ else (some (⟨b, off, none⟩ : Addr)).map (·.add (1 * 2))) (nn - 1) (c - 1)) T) := HTW2.out.drop 1 (by simp)
          have HTS := HTS2
          have k4 : wr.cell? ⟨bx, 4, none⟩ = some (.int .i64 0) := HXX.out.c 4
          have kf : wr.frozen? ⟨bx, 4, none⟩ = false := HXX.out.f 4
          clear HF3 HTW2 HTS2
          go_upto_region 23 with (go_at_call 61; refine (HNC.out _).mono ?_; rintro e w8 ⟨rfl, rfl⟩)
          obtain ⟨W, hW⟩ : ∃ W, W = wr.setCell ⟨bx, 4, none⟩ (.int .i64 n) := ⟨_, rfl⟩
          rw [← hW]
          have HXX' : Hid (BoxN W bx #[.string t0, .int .i64 k, .slice ya yn yc, .slice none 0 0, .int .i64 n]) := by show BoxN _ _ _; rw [hW]; exact HXX.out.set 4 _
          have HZZ' : Hid (BoxN W w.heap.size #[.string ⟨#[]⟩, .int .i64 0, .slice none 0 0, .slice none 0 0, .int .i64 0]) := by show BoxN _ _ _; rw [hW]; exact HZZ.out.other _ _ (show w.heap.size ≠ bx by omega)
          have HOA' : Hid (Own W (bx + 1) (.slice ya yn yc) A) := by show Own _ _ _ _; rw [hW]; exact HOA.out.below _ _ (show bx < bx + 1 by omega)
          have HBB' : Hid (Below w.heap.size w W) := by show Below _ _ _; rw [hW]; exact HBB.out.setCell (show w.heap.size ≤ bx by omega) _
          have HSZ' : Hid (bx + 1 ≤ W.heap.size) := by show _ ≤ _; rw [hW]; simpa using HSZ.out
          clear hW HXX HZZ HOA HBB HSZ hsz k4 kf d0
          have HXX := HXX'
          have HZZ := HZZ'
          have HOA := HOA'
          have HBB := HBB'
          have HSZ := HSZ'
          clear HXX' HZZ' HOA' HBB' HSZ'
          go_cut [1] (fun v wx => Hid (HoldsW w v T) ∧ wx = W)
          case first =>
            by_cases hc1 : c = 1
            · have HTX : Hid (HoldsW w (.slice (some ⟨b, off, none⟩) 0 0) T) := by have h := HTW.out; rw [if_pos hc1, show c - 1 = 0 by omega, show nn - 1 = 0 by omega] at h; exact h
              subst hc1
              go_upto_region 24 with fail
              all_goals (
                go_meet
                case rel => exact ⟨HTX.out, rfl⟩)
            · have hc2 : ¬ 1 = c := fun e => hc1 e.symm
              have HTX : Hid (HoldsW w (.slice (some ⟨b, off + 2, none⟩) (nn - 1) (c - 1)) T) := by have h := HTW.out; rw [if_neg hc1] at h; show HoldsW _ _ _; simpa [Addr.add] using h
              go_upto_region 24 with fail
              all_goals (
                go_meet
                case rel => exact ⟨HTX.out, rfl⟩)
          case rest =>
          obtain ⟨HTW, hwx⟩ := hcut
          have hwy := hwx.symm
          subst hwy
          clear hwx
          obtain ⟨a, c', e1, hac⟩ := HTW.out.shape
          subst e1
          have HAS : Hid (askI k = true) := HAI.out
          have HG : Hid (lineG L t0 k A n [] 3 T = (E, N)) := by
            have h := HF.out
            rw [lineC, if_pos HAI.out] at h
            exact h
          clear HF
          obtain ⟨iI, hi, hi0, hi1, hi2⟩ := info3
          have HI : Hid (Tryz.prog.info? 3 = some iI) := hi
          have HI0 : Hid (iI.zero = some (.int .i64 0)) := hi0
          have HI1 : Hid (iI.size = 1) := hi1
          have HI2 : Hid (iI.bytes = 8) := hi2
          clear hi hi0 hi1 hi2
          go_wp2_with (go_at_call 45; refine (asked_to (k : Int) _ true HAS.out).mono ?_; rintro e w6 ⟨rfl, rfl⟩)
          go_loopw [1, 12] (fun lv dv w' => ∃ (D : List Int) (T : List ByteArray), D.length ≤ 3 ∧ Hid (HoldsW w lv T) ∧ Hid (∀ t ∈ T, t.size ≤ 3000) ∧ Hid (Own w' W.heap.size dv D) ∧ Hid (Below W.heap.size W w') ∧ Hid (lineG L t0 k A n D (3 - D.length) T = (E, N))) (fun _ dv _ => 3 - lenZ dv)
          case atStart => exact ⟨[], T, Nat.zero_le _, HTW.out, HTS.out, Own.nil _ _, Below.refl _ _, HG.out⟩
          case round =>
            clear HG HTW HTS
            obtain ⟨D, T, hD3, HTW, HTS, HOD, HBD, HG⟩ := hrel
            obtain ⟨a, c, e1, hac⟩ := HTW.out.shape
            subst e1
            obtain ⟨da, dc, e1⟩ := HOD.out.ints.shape
            subst e1
            have HZ7 : Hid (BoxN wr w.heap.size #[.string ⟨#[]⟩, .int .i64 0, .slice none 0 0, .slice none 0 0, .int .i64 0]) := HZZ.out.later HBD.out
            have HX7 : Hid (BoxN wr bx #[.string t0, .int .i64 k, .slice ya yn yc, .slice none 0 0, .int .i64 n]) := HXX.out.later HBD.out
            have HA7 : Hid (Own wr (bx + 1) (.slice ya yn yc) A) := HOA.out.later HBD.out
            have HB7 : Hid (Below w.heap.size w wr) := Below.after HBB.out HBD.out
            have HS7 : Hid (bx + 1 ≤ wr.heap.size) := Nat.le_trans HSZ.out HBD.out.size
            by_cases hgo : T ≠ [] ∧ D.length < 3
            · obtain ⟨hne, hd3⟩ := hgo
              obtain ⟨t, T', rfl⟩ : ∃ t T', T = t :: T' := by
                cases T with
                | nil => exact absurd rfl hne
                | cons t T' => exact ⟨t, T', rfl⟩
              clear hne
              obtain ⟨b, off, rfl, -, hlc, hc0⟩ := HTW.out.first
              have d0 : wr.cell? ⟨b, off, none⟩ = some (.string t) := cell_later HB7.out hc0
              obtain ⟨nn, hnn⟩ : ∃ nn, (t :: T').length = nn := ⟨_, rfl⟩
              have HTW2 : Hid (HoldsW w (.slice (some ⟨b, off, none⟩) nn c) (t :: T')) := by rw [← hnn]; exact HTW.out
              have hn1 : 1 ≤ nn := by rw [← hnn]; simp
              have hlc2 : nn ≤ c := by rw [← hnn]; exact hlc
              rw [hnn]
              have g0 : (0 : Int) < (nn : Int) := by omega
              have gd : (D.length : Int) < 3 := by omega
              have gl : (1 : Int) ≤ (nn : Int) := by omega
              have HST : Hid (t.size ≤ 3000) := HTS.out t (by simp)
              have hst := HST.out
              have HTS2 : Hid (∀ t ∈ T', t.size ≤ 3000) := fun u hu => HTS.out u (by simp [hu])
              obtain ⟨q, hq⟩ : ∃ q, numK t.data.toList = q := ⟨_, rfl⟩
              have HQ : Hid (numK t.data.toList = q) := hq
              obtain ⟨x, hx⟩ : ∃ x, numV t.data.toList = x := ⟨_, rfl⟩
              have HX : Hid (numV t.data.toList = x) := hx
              have HG2 : Hid ((if q then lineG L t0 k A n (D ++ [x]) (3 - (D ++ [x]).length) T' else (5, nod0)) = (E, N)) := by
                have h := HG.out
                rw [show 3 - D.length = (2 - D.length) + 1 by omega, lineG_cons, HQ.out, HX.out] at h
                rw [show 3 - (D ++ [x]).length = 2 - D.length by rw [List.length_append]; simp only [List.length_cons, List.length_nil]; omega]
                exact h
              clear hq hx HG HTW HTS hnn hc0
              have HNC : Hid (∀ (w : World), Calls Tryz.prog 61 #[.string t] w fun e w' => e = .returned (.tuple #[.int .i64 x, .bool q]) ∧ w = w') := fun w => by
                have h := rnumber_to t w (by have := HST.out; omega)
                rw [HX.out, HQ.out] at h
                exact h
              cases q with
              | false =>
                have HE : Hid (E = 5) := by
                  have h := HG2.out
                  rw [if_neg (by simp)] at h
                  simp only [Prod.mk.injEq] at h
                  exact h.1.symm
                have HBB : Hid (Below w.heap.size w wr) := HB7.out
                have HZZ : Hid (BoxN wr w.heap.size #[.string ⟨#[]⟩, .int .i64 0, .slice none 0 0, .slice none 0 0, .int .i64 0]) := HZ7.out
                line_z HZZ.out
                go_wp2_with (go_at_call 61; refine (HNC.out _).mono ?_; rintro e w8 ⟨rfl, rfl⟩)
                line_out 5
              | true =>
                have HG3 : Hid (lineG L t0 k A n (D ++ [x]) (3 - (D ++ [x]).length) T' = (E, N)) := by
                  have h := HG2.out
                  rw [if_pos rfl] at h
                  exact h
                have HTD0 : Hid (HoldsW w (.slice (if c = 1 then some ⟨b, off, none⟩ else (some (⟨b, off, none⟩ : Addr)).map (·.add (1 * 2))) (nn - 1) (c - 1)) T') := HTW2.out.drop 1 (by simp)
                have hsz7 := HBD.out.size
                have HI3 : Hid (Ints (wr.alloc (.cells #[.int .i64 x] 3)) (.slice (some ⟨wr.heap.size, 0, none⟩) 1 1) [x]) := (Blk.new wr [x]).ints 1 1 rfl (Nat.le_refl _) (by decide)
                have HR3 : Hid ((wr.alloc (.cells #[.int .i64 x] 3)).ownsRow W.heap.size 3 1 (.slice da D.length dc) D.length (D.map (Value.int .i64))) := HOD.out.row.alloc _
                have HB4 : Hid (Below W.heap.size W (wr.alloc (.cells #[.int .i64 x] 3))) := HBD.out.alloc hsz7 _
                clear HG2 HTW2
                by_cases hc1 : c = 1
                · have hn0 : nn - 1 = 0 := by omega
                  have HTD : Hid (HoldsW w (.slice (some ⟨b, off, none⟩) 0 0) T') := by have h := HTD0.out; rw [if_pos hc1, show c - 1 = 0 by omega, hn0] at h; exact h
                  clear hn0
                  subst hc1
                  go_wp2_with (first
                    | (go_at_call 61; refine (HNC.out _).mono ?_; rintro e w8 ⟨rfl, rfl⟩)
                    | (at_builtin; refine wpList_app_ints _ rfl _ _ rfl W.heap.size D [x] _ _ D.length rfl rfl HR3.out rfl HI3.out ?q1 ?q2 ?_))
                  all_goals first | (simp; omega) | omega | skip
                  intro ea en ec w1 ho hb
                  have HO1 : Hid (Own w1 W.heap.size (.slice ea en ec) (D ++ [x])) := ho
                  have HB1 : Hid (Below W.heap.size W w1) := HB4.out.trans hb
                  have hlen9 : en = D.length + 1 := by obtain ⟨a9, c9, e9⟩ := ho.ints.shape; simp only [Value.slice.injEq] at e9; rw [e9.2.1]; simp
                  clear ho hb
                  go_wp2
                  refine ⟨?_, ?_⟩
                  · first
                      | exact ⟨D ++ [x], T', by simp; omega, HTD.out, HTS2.out, HO1.out, HB1.out, HG3.out⟩
                      | ((repeat apply Exists.intro)
                         refine ⟨⟨D ++ [x], T', by simp; omega, HTD.out, HTS2.out, HO1.out, HB1.out, HG3.out⟩, rfl, rfl⟩)
                  · (simp only [lenZ]; omega)
                · have hc2 : ¬ 1 = c := fun e => hc1 e.symm
                  have HTD : Hid (HoldsW w (.slice (some ⟨b, off + 2, none⟩) (nn - 1) (c - 1)) T') := by have h := HTD0.out; rw [if_neg hc1] at h; show HoldsW _ _ _; simpa [Addr.add] using h
                  go_wp2_with (first
                    | (go_at_call 61; refine (HNC.out _).mono ?_; rintro e w8 ⟨rfl, rfl⟩)
                    | (at_builtin; refine wpList_app_ints _ rfl _ _ rfl W.heap.size D [x] _ _ D.length rfl rfl HR3.out rfl HI3.out ?q3 ?q4 ?_))
                  all_goals first | (simp; omega) | omega | skip
                  intro ea en ec w1 ho hb
                  have HO1 : Hid (Own w1 W.heap.size (.slice ea en ec) (D ++ [x])) := ho
                  have HB1 : Hid (Below W.heap.size W w1) := HB4.out.trans hb
                  have hlen9 : en = D.length + 1 := by obtain ⟨a9, c9, e9⟩ := ho.ints.shape; simp only [Value.slice.injEq] at e9; rw [e9.2.1]; simp
                  clear ho hb
                  go_wp2
                  refine ⟨?_, ?_⟩
                  · first
                      | exact ⟨D ++ [x], T', by simp; omega, HTD.out, HTS2.out, HO1.out, HB1.out, HG3.out⟩
                      | ((repeat apply Exists.intro)
                         refine ⟨⟨D ++ [x], T', by simp; omega, HTD.out, HTS2.out, HO1.out, HB1.out, HG3.out⟩, rfl, rfl⟩)
                  · (simp only [lenZ]; omega)
            · have HDL : Hid (if D = [] then E = 5 else lineD L t0 k A n D T = (E, N)) := by
                have h := HG.out
                by_cases hT0 : T = []
                · subst hT0
                  rw [lineG_nil] at h
                  show if D = [] then E = 5 else _
                  split
                  · rename_i h0
                    rw [if_pos h0] at h
                    simp only [Prod.mk.injEq] at h
                    exact h.1.symm
                  · rename_i h0
                    rw [if_neg h0] at h
                    exact h
                · have hl : D.length = 3 := by
                    have : ¬ D.length < 3 := fun hh => hgo ⟨hT0, hh⟩
                    omega
                  have h0 : D ≠ [] := by intro e; subst e; simp at hl
                  show if D = [] then E = 5 else _
                  rw [if_neg h0]
                  rw [show 3 - D.length = 0 by omega, lineG_zero _ _ _ _ _ _ _ h0] at h
                  exact h
              have hstop : ¬ ((0 : Int) < (T.length : Int) ∧ (D.length : Int) < 3) := fun hh => hgo ⟨List.length_pos_iff.1 (by omega), by omega⟩
              have HBB' : Hid (Below w.heap.size w wr) := HB7.out
              have HZZ' : Hid (BoxN wr w.heap.size #[.string ⟨#[]⟩, .int .i64 0, .slice none 0 0, .slice none 0 0, .int .i64 0]) := HZ7.out
              clear hgo HG HBB HZZ
              have HBB := HBB'
              have HZZ := HZZ'
              clear HBB' HZZ'
              by_cases hD0 : D = []
              · subst hD0
                have HE : Hid (E = 5) := by have h := HDL.out; rw [if_pos rfl] at h; exact h
                have gz : ¬ (0 : Int) < (T.length : Int) := fun hh => hstop ⟨hh, by simp⟩
                line_z HZZ.out
                clear hstop
                go_wp2
                line_out 5
              · have HF : Hid (lineD L t0 k A n D T = (E, N)) := by have h := HDL.out; rw [if_neg hD0] at h; exact h
                have gD : ¬ (D.length : Int) = 0 := by have : 0 < D.length := List.length_pos_iff.2 hD0; omega
                have bD : ((D.length : Int) == 0) = false := by rw [beq_eq_false_iff_ne]; exact gD
                have HDV : Hid (Ints wr (.slice da D.length dc) D) := HOD.out.ints
                clear HDL hD0 HXX HOA HSZ
                have HXX := HX7
                have HOA := HA7
                have HSZ := HS7
                by_cases g0 : (0 : Int) < (T.length : Int)
                · have gd : ¬ (D.length : Int) < 3 := fun hh => hstop ⟨g0, hh⟩
                  clear hstop
                  go_upto_region 34 with fail
                  by_cases hT0 : T = []
                  · subst hT0
                    have HFF : Hid ((if 24 ≤ L.length then (2, nod0) else (inE k n D L A, ⟨t0, k, A, inR k n D L A, n⟩)) = (E, N)) := by
                      have h := HF.out
                      rw [lineD, if_pos rfl] at h
                      exact h
                    clear HF
                    by_cases h24 : 24 ≤ L.length
                    · have HE : Hid (E = 2) := by
                        have h := HFF.out
                        rw [if_pos h24] at h
                        simp only [Prod.mk.injEq] at h
                        exact h.1.symm
                      have g24 : (24 : Int) ≤ (L.length : Int) := by omega
                      line_z HZZ.out
                      clear h24
                      go_wp2
                      line_out 2
                    · have HE : Hid (rinE k n D L A = E ∧ N = ⟨t0, k, A, inR k n D L A, n⟩) := by
                        have h := HFF.out
                        rw [if_neg h24] at h
                        simp only [Prod.mk.injEq] at h
                        exact ⟨(in_rin _ _ _ _ _).1.trans h.1, h.2.symm⟩
                      have g24 : ¬ (24 : Int) ≤ (L.length : Int) := by omega
                      have e2 : wr.cell? ⟨bx, 2, none⟩ = some (.slice ya yn yc) := HXX.out.c 2
                      have e4 : wr.cell? ⟨bx, 4, none⟩ = some (.int .i64 n) := HXX.out.c 4
                      clear h24 HFF
                      go_wp2_with (go_at_call 62; refine (rinfer_any (L := L) (d := D) (A := A) (k : Int) n (HNL.out.later HBB.out) HDV.out HOA.out.ints HLA.out).mono ?_; rintro e w9 ⟨x9, rfl, ho9, hb9⟩; rw [HE.out.1]; obtain ⟨p9, n9, c9, rfl⟩ := ho9.ints.shape3; have HO9 : Hid (Own w9 wr.heap.size (.slice p9 n9 c9) (rinR k n D L A)) := ho9; have HX9 : Hid (BoxN w9 bx #[.string t0, .int .i64 k, .slice ya yn yc, .slice none 0 0, .int .i64 n]) := HXX.out.later hb9; have HZ9 : Hid (BoxN w9 w.heap.size #[.string ⟨#[]⟩, .int .i64 0, .slice none 0 0, .slice none 0 0, .int .i64 0]) := HZZ.out.later hb9; have HB9 : Hid (Below w.heap.size w w9) := Below.after HBB.out hb9; have HA9 : Hid (Own w9 (bx + 1) (.slice ya yn yc) A) := HOA.out.later hb9; have HS9 : Hid (bx + 1 ≤ wr.heap.size) := HSZ.out; clear ho9 hb9; line_z HZ9.out; have k0 : w9.cell? ⟨bx, 0, none⟩ = some (.string t0) := HX9.out.c 0; have k1 : w9.cell? ⟨bx, 1, none⟩ = some (.int .i64 k) := HX9.out.c 1; have k2 : w9.cell? ⟨bx, 2, none⟩ = some (.slice ya yn yc) := HX9.out.c 2; have k3 : w9.cell? ⟨bx, 3, none⟩ = some (.slice none 0 0) := HX9.out.c 3; have k4 : w9.cell? ⟨bx, 4, none⟩ = some (.int .i64 n) := HX9.out.c 4; have kf := HX9.out.f 3)
                      have BX : Hid (BoxN (w9.setCell ⟨bx, 3, none⟩ (.slice p9 n9 c9)) w.heap.size #[.string ⟨#[]⟩, .int .i64 0, .slice none 0 0, .slice none 0 0, .int .i64 0]) := HZ9.out.other _ _ (show w.heap.size ≠ bx by omega)
                      have BR : Hid (BoxN _ w.heap.size #[.string t0, .int .i64 k, .slice ya yn yc, .slice p9 n9 c9, .int .i64 n]) := ((((BX.out.set 0 (.string t0)).set 1 (.int .i64 k)).set 2 (.slice ya yn yc)).set 3 (.slice p9 n9 c9)).set 4 (.int .i64 n)
                      have r0 := (BR.out.c 0).trans (show _ = some (.string t0) from rfl)
                      have r1 := (BR.out.c 1).trans (show _ = some (.int .i64 k) from rfl)
                      have r2 := (BR.out.c 2).trans (show _ = some (.slice ya yn yc) from rfl)
                      have r3 := (BR.out.c 3).trans (show _ = some (.slice p9 n9 c9) from rfl)
                      have r4 := (BR.out.c 4).trans (show _ = some (.int .i64 n) from rfl)
                      have hs9 := HS9.out
                      refine bodyPost_ret (v := .tuple #[.agg #[.string t0, .int .i64 k, .slice ya yn yc, .slice p9 n9 c9, .int .i64 n], .int .i64 E]) (by simp [results, Tryz.results31, go_sem, r0, r1, r2, r3, r4]) rfl ⟨_, _, _, _, _, rfl, ⟨_, _, _, rfl⟩, ⟨_, _, _, rfl⟩, (fun _ => ?_), ?_⟩
                      · rw [HE.out.2]
                        refine ⟨rfl, rfl, rfl, ?_, ?_⟩
                        · exact (((((((HA9.out.below ⟨bx, 3, none⟩ _ (by show bx < bx + 1; omega)).below ⟨w.heap.size, 0, none⟩ _ (by show w.heap.size < _; omega)).below ⟨w.heap.size, 1, none⟩ _ (by show w.heap.size < _; omega)).below ⟨w.heap.size, 2, none⟩ _ (by show w.heap.size < _; omega)).below ⟨w.heap.size, 3, none⟩ _ (by show w.heap.size < _; omega)).below ⟨w.heap.size, 4, none⟩ _ (by show w.heap.size < _; omega))).mono (by omega)
                        · have h9 := HO9.out
                          rw [(in_rin _ _ _ _ _).2] at h9
                          exact (((((((h9.below ⟨bx, 3, none⟩ _ (by show bx < _; omega)).below ⟨w.heap.size, 0, none⟩ _ (by show w.heap.size < _; omega)).below ⟨w.heap.size, 1, none⟩ _ (by show w.heap.size < _; omega)).below ⟨w.heap.size, 2, none⟩ _ (by show w.heap.size < _; omega)).below ⟨w.heap.size, 3, none⟩ _ (by show w.heap.size < _; omega)).below ⟨w.heap.size, 4, none⟩ _ (by show w.heap.size < _; omega))).mono (by omega)
                      · exact ((((((HB9.out.setCell (show w.heap.size ≤ bx by omega) _).setCell (Nat.le_refl _) _).setCell (Nat.le_refl _) _).setCell (Nat.le_refl _) _).setCell (Nat.le_refl _) _).setCell (Nat.le_refl _) _)
                  · have HE : Hid (E = 5) := by
                      have h := HF.out
                      rw [lineD, if_neg hT0] at h
                      simp only [Prod.mk.injEq] at h
                      exact h.1.symm
                    have gT : (0 : Int) < (T.length : Int) := by have : 0 < T.length := List.length_pos_iff.2 hT0; omega
                    line_z HZZ.out
                    clear hT0
                    first
                      | (exfalso; omega)
                      | (go_wp2
                         line_out 5)

                · clear hstop
                  go_upto_region 34 with fail
                  by_cases hT0 : T = []
                  · subst hT0
                    have HFF : Hid ((if 24 ≤ L.length then (2, nod0) else (inE k n D L A, ⟨t0, k, A, inR k n D L A, n⟩)) = (E, N)) := by
                      have h := HF.out
                      rw [lineD, if_pos rfl] at h
                      exact h
                    clear HF
                    by_cases h24 : 24 ≤ L.length
                    · have HE : Hid (E = 2) := by
                        have h := HFF.out
                        rw [if_pos h24] at h
                        simp only [Prod.mk.injEq] at h
                        exact h.1.symm
                      have g24 : (24 : Int) ≤ (L.length : Int) := by omega
                      line_z HZZ.out
                      clear h24
                      go_wp2
                      line_out 2
                    · have HE : Hid (rinE k n D L A = E ∧ N = ⟨t0, k, A, inR k n D L A, n⟩) := by
                        have h := HFF.out
                        rw [if_neg h24] at h
                        simp only [Prod.mk.injEq] at h
                        exact ⟨(in_rin _ _ _ _ _).1.trans h.1, h.2.symm⟩
                      have g24 : ¬ (24 : Int) ≤ (L.length : Int) := by omega
                      have e2 : wr.cell? ⟨bx, 2, none⟩ = some (.slice ya yn yc) := HXX.out.c 2
                      have e4 : wr.cell? ⟨bx, 4, none⟩ = some (.int .i64 n) := HXX.out.c 4
                      clear h24 HFF
                      go_wp2_with (go_at_call 62; refine (rinfer_any (L := L) (d := D) (A := A) (k : Int) n (HNL.out.later HBB.out) HDV.out HOA.out.ints HLA.out).mono ?_; rintro e w9 ⟨x9, rfl, ho9, hb9⟩; rw [HE.out.1]; obtain ⟨p9, n9, c9, rfl⟩ := ho9.ints.shape3; have HO9 : Hid (Own w9 wr.heap.size (.slice p9 n9 c9) (rinR k n D L A)) := ho9; have HX9 : Hid (BoxN w9 bx #[.string t0, .int .i64 k, .slice ya yn yc, .slice none 0 0, .int .i64 n]) := HXX.out.later hb9; have HZ9 : Hid (BoxN w9 w.heap.size #[.string ⟨#[]⟩, .int .i64 0, .slice none 0 0, .slice none 0 0, .int .i64 0]) := HZZ.out.later hb9; have HB9 : Hid (Below w.heap.size w w9) := Below.after HBB.out hb9; have HA9 : Hid (Own w9 (bx + 1) (.slice ya yn yc) A) := HOA.out.later hb9; have HS9 : Hid (bx + 1 ≤ wr.heap.size) := HSZ.out; clear ho9 hb9; line_z HZ9.out; have k0 : w9.cell? ⟨bx, 0, none⟩ = some (.string t0) := HX9.out.c 0; have k1 : w9.cell? ⟨bx, 1, none⟩ = some (.int .i64 k) := HX9.out.c 1; have k2 : w9.cell? ⟨bx, 2, none⟩ = some (.slice ya yn yc) := HX9.out.c 2; have k3 : w9.cell? ⟨bx, 3, none⟩ = some (.slice none 0 0) := HX9.out.c 3; have k4 : w9.cell? ⟨bx, 4, none⟩ = some (.int .i64 n) := HX9.out.c 4; have kf := HX9.out.f 3)
                      have BX : Hid (BoxN (w9.setCell ⟨bx, 3, none⟩ (.slice p9 n9 c9)) w.heap.size #[.string ⟨#[]⟩, .int .i64 0, .slice none 0 0, .slice none 0 0, .int .i64 0]) := HZ9.out.other _ _ (show w.heap.size ≠ bx by omega)
                      have BR : Hid (BoxN _ w.heap.size #[.string t0, .int .i64 k, .slice ya yn yc, .slice p9 n9 c9, .int .i64 n]) := ((((BX.out.set 0 (.string t0)).set 1 (.int .i64 k)).set 2 (.slice ya yn yc)).set 3 (.slice p9 n9 c9)).set 4 (.int .i64 n)
                      have r0 := (BR.out.c 0).trans (show _ = some (.string t0) from rfl)
                      have r1 := (BR.out.c 1).trans (show _ = some (.int .i64 k) from rfl)
                      have r2 := (BR.out.c 2).trans (show _ = some (.slice ya yn yc) from rfl)
                      have r3 := (BR.out.c 3).trans (show _ = some (.slice p9 n9 c9) from rfl)
                      have r4 := (BR.out.c 4).trans (show _ = some (.int .i64 n) from rfl)
                      have hs9 := HS9.out
                      refine bodyPost_ret (v := .tuple #[.agg #[.string t0, .int .i64 k, .slice ya yn yc, .slice p9 n9 c9, .int .i64 n], .int .i64 E]) (by simp [results, Tryz.results31, go_sem, r0, r1, r2, r3, r4]) rfl ⟨_, _, _, _, _, rfl, ⟨_, _, _, rfl⟩, ⟨_, _, _, rfl⟩, (fun _ => ?_), ?_⟩
                      · rw [HE.out.2]
                        refine ⟨rfl, rfl, rfl, ?_, ?_⟩
                        · exact (((((((HA9.out.below ⟨bx, 3, none⟩ _ (by show bx < bx + 1; omega)).below ⟨w.heap.size, 0, none⟩ _ (by show w.heap.size < _; omega)).below ⟨w.heap.size, 1, none⟩ _ (by show w.heap.size < _; omega)).below ⟨w.heap.size, 2, none⟩ _ (by show w.heap.size < _; omega)).below ⟨w.heap.size, 3, none⟩ _ (by show w.heap.size < _; omega)).below ⟨w.heap.size, 4, none⟩ _ (by show w.heap.size < _; omega))).mono (by omega)
                        · have h9 := HO9.out
                          rw [(in_rin _ _ _ _ _).2] at h9
                          exact (((((((h9.below ⟨bx, 3, none⟩ _ (by show bx < _; omega)).below ⟨w.heap.size, 0, none⟩ _ (by show w.heap.size < _; omega)).below ⟨w.heap.size, 1, none⟩ _ (by show w.heap.size < _; omega)).below ⟨w.heap.size, 2, none⟩ _ (by show w.heap.size < _; omega)).below ⟨w.heap.size, 3, none⟩ _ (by show w.heap.size < _; omega)).below ⟨w.heap.size, 4, none⟩ _ (by show w.heap.size < _; omega))).mono (by omega)
                      · exact ((((((HB9.out.setCell (show w.heap.size ≤ bx by omega) _).setCell (Nat.le_refl _) _).setCell (Nat.le_refl _) _).setCell (Nat.le_refl _) _).setCell (Nat.le_refl _) _).setCell (Nat.le_refl _) _)
                  · have HE : Hid (E = 5) := by
                      have h := HF.out
                      rw [lineD, if_neg hT0] at h
                      simp only [Prod.mk.injEq] at h
                      exact h.1.symm
                    have gT : (0 : Int) < (T.length : Int) := by have : 0 < T.length := List.length_pos_iff.2 hT0; omega
                    line_z HZZ.out
                    clear hT0
                    first
                      | (exfalso; omega)
                      | (go_wp2
                         line_out 5)
end Go.Proofs.YtkojdigaoihkpaaGreatDoor

end
section
namespace Go.Proofs.YtkojdigaoihkpaaGreatDoor
set_option linter.unusedVariables false
set_option linter.unusedSimpArgs false
set_option maxRecDepth 100000
open Go.RowKit

set_option maxHeartbeats 32000000 in
theorem rline_8 {TB : World → Prop} (RN : RName TB) {v u : Value} {L : List Nod} {t0 t1 t2 : ByteArray} {r : List ByteArray} {w : World} (h : NodesL w v L) (hu : HoldsW w u (t0 :: t1 :: t2 :: r)) (hT : TB w) (hts : ∀ t ∈ t0 :: t1 :: t2 :: r, t.size ≤ 3000) (k : Nat) (hk : kindF t2 = k) (hk1 : 1 ≤ k ∧ k ≤ 15) (hkk : k = 8) (hn0 : nameB t0 = true) (hx0 : nmdN L t0 0 < 0) (h1 : t1 = ⟨#[61]⟩) (E : Int) (N : Nod) (hE : lineA L t0 k [] (many k) r = (E, N)) :
    Calls Tryz.prog 31 #[v, u] w (LineP w E N) := by
  obtain ⟨va, vc, rfl, _, _⟩ := h.shape
  obtain ⟨ua, uc, rfl, _⟩ := hu.shape
  have HT : Hid (TB w) := hT
  have HNL : Hid (NodesL w (.slice va L.length vc) L) := h
  obtain ⟨b, off, rfl, -, hlc, hc0, hc1, hc2⟩ := hu.three
  have HU3 : Hid (HoldsW w (.slice (if uc = 3 then some ⟨b, off, none⟩ else (some (⟨b, off, none⟩ : Addr)).map (·.add (3 * 2))) ((t0 :: t1 :: t2 :: r).length - 3) (uc - 3)) r) := hu.drop 3 (by simp)
  have HTS0 : Hid (∀ t ∈ r, t.size ≤ 3000) := fun t ht => hts t (by simp [ht])
  have ht0 : t0.size ≤ 3000 := hts t0 (by simp)
  obtain ⟨m, hm⟩ : ∃ m, (t0 :: t1 :: t2 :: r).length = m := ⟨_, rfl⟩
  have hm3 : 3 ≤ m := by rw [← hm]; simp
  rw [hm] at hlc HU3 ⊢
  have HAI : Hid (askI k = false) := by show _ = _; rw [hkk]; rfl
  have HNB : Hid (numbI k = true) := by show _ = _; rw [hkk]; rfl
  have HHE : Hid (lineA L t0 k [] (many k) r = (E, N)) := hE
  obtain ⟨M, hM⟩ : ∃ M, many k = M := ⟨_, rfl⟩
  have HM : Hid (manyI k = M) := by
    show _ = _
    rw [manyI, if_pos (by omega), ← hM]
    rfl
  rw [hM] at HHE
  have hM2 : M ≤ 2 := by rw [← hM]; exact many_le k
  have e3 : ((k : Int) == 3) = false := by rw [hkk]; rfl
  have e8 : ((k : Int) == 8) = true := by rw [hkk]; rfl
  have gk0 : ((k : Int) == 0) = false := by rw [beq_eq_false_iff_ne]; omega
  obtain ⟨U, hU⟩ : ∃ U, U = w.alloc (.cells #[.string ⟨#[]⟩, .int .i64 0, .slice none 0 0, .slice none 0 0, .int .i64 0] 55) := ⟨_, rfl⟩
  have HUU : Hid (U = w.alloc (.cells #[.string ⟨#[]⟩, .int .i64 0, .slice none 0 0, .slice none 0 0, .int .i64 0] 55)) := hU
  have HB : Hid (Below w.heap.size w U) := by show Below _ _ _; rw [hU]; exact Below.push (Below.refl _ _) _
  have HZ : Hid (BoxN U w.heap.size #[.string ⟨#[]⟩, .int .i64 0, .slice none 0 0, .slice none 0 0, .int .i64 0]) := by show BoxN _ _ _; rw [hU]; exact BoxN.new w _
  have HC0 : Hid (∀ w', Below w.heap.size w w' → w'.cell? ⟨b, off, none⟩ = some (.string t0) ∧ w'.cell? ⟨b, off + 2, none⟩ = some (.string t1) ∧ w'.cell? ⟨b, off + 4, none⟩ = some (.string t2)) := fun w' hb => ⟨cell_later hb hc0, cell_later hb hc1, cell_later hb hc2⟩
  have g1 : ¬ (m : Int) < 3 := by omega
  have g2 : (0 : Int) < m := by omega
  have g3 : (1 : Int) < m := by omega
  have g4 : (2 : Int) < m := by omega
  have g5 : (3 : Int) ≤ m := by omega
  have c0 := (HC0.out U HB.out).1
  obtain ⟨x0, hx⟩ : ∃ x, nmdN L t0 0 = x := ⟨_, rfl⟩
  have HX0 : Hid (nmdN L t0 0 = x0) := hx
  rw [hx] at hx0
  have HQ0 : Hid (nameB t0 = true) := hn0
  have HK0 : Hid (kindF t2 = k) := hk
  have q1 : (t1.toList == [61]) = true := by rw [h1, Lib.toList_data]; rfl
  clear hU h hu hT hc0 hc1 hc2 hm hx hn0 hk hE hM hts hkk
  go_enter Tryz.func31, Tryz.ntmps31
  go_upto_region 1 with fail
  rw [← HUU.out]
  go_upto_region 7 with (first
    | (go_at_call 41; refine (RN.name (by omega) (RN.later HB.out HT.out) true HQ0.out).mono ?_; rintro e w2 ⟨rfl, hb2⟩; have HZ2 : Hid (BoxN w2 w.heap.size #[.string ⟨#[]⟩, .int .i64 0, .slice none 0 0, .slice none 0 0, .int .i64 0]) := HZ.out.later hb2; have HB2 : Hid (Below w.heap.size w w2) := Below.after HB.out hb2; obtain ⟨d0, d1, d2⟩ := HC0.out _ HB2.out; clear hb2)
    | (go_at_call 42; refine (rnamed_any (HNL.out.later HB2.out) t0 x0 HX0.out).mono ?_; rintro e w3 ⟨rfl, rfl⟩)
    | (go_at_call 59; refine (rkind_to t2 _ k HK0.out).mono ?_; rintro e w4 ⟨rfl, hb4⟩; have HZ4 : Hid (BoxN w4 w.heap.size #[.string ⟨#[]⟩, .int .i64 0, .slice none 0 0, .slice none 0 0, .int .i64 0]) := HZ2.out.later hb4; have HB4 : Hid (Below w.heap.size w w4) := Below.after HB2.out hb4; obtain ⟨d3, d4, d5⟩ := HC0.out _ HB4.out; clear hb4))
  obtain ⟨bx, hbx⟩ : ∃ bx, w4.heap.size = bx := ⟨_, rfl⟩
  obtain ⟨V, hV⟩ : ∃ V, V = w4.alloc (.cells #[.string t0, .int .i64 k, .slice none 0 0, .slice none 0 0, .int .i64 0] 55) := ⟨_, rfl⟩
  have HZV : Hid (BoxN V w.heap.size #[.string ⟨#[]⟩, .int .i64 0, .slice none 0 0, .slice none 0 0, .int .i64 0]) := by show BoxN _ _ _; rw [hV]; exact HZ4.out.alloc _
  have HXV : Hid (BoxN V bx #[.string t0, .int .i64 k, .slice none 0 0, .slice none 0 0, .int .i64 0]) := by show BoxN _ _ _; rw [hV, ← hbx]; exact BoxN.new w4 _
  have HBV : Hid (Below w.heap.size w V) := by show Below _ _ _; rw [hV]; exact Below.push HB4.out _
  have hsV : bx + 1 ≤ V.heap.size := by rw [hV, ← hbx]; simp
  have hwb : w.heap.size < bx := by have := HZ4.out.lt; omega
  rw [← hV]
  rw [hbx]
  clear hV hbx d0 d1 d2 d3 d4 d5 c0
  go_cut [1] (fun v wx => Hid (HoldsW w v r) ∧ wx = V)
  case first =>
    go_upto_region 8 with fail
    all_goals (
      go_meet
      case rel => exact ⟨by first | exact HU3.out | (have h := HU3.out; simp_all; done) | (have h := HU3.out; simp_all [Addr.add]; done), rfl⟩)
  case rest =>
  obtain ⟨HU4, rfl⟩ := hcut
  go_wp2_with (go_at_call 60; refine (many_to (k : Int) _ (M : Int) HM.out).mono ?_; rintro e w5 ⟨rfl, rfl⟩)
  go_loopw [1, 9] (fun lv iv w' => ∃ (j : Nat) (A : List Int) (T : List ByteArray) (y : Value), j ≤ M ∧ iv = .int .i64 j ∧ Hid (A.length = j) ∧ Hid (HoldsW w lv T) ∧ Hid (∀ t ∈ T, t.size ≤ 3000) ∧ Hid (BoxN w' w.heap.size #[.string ⟨#[]⟩, .int .i64 0, .slice none 0 0, .slice none 0 0, .int .i64 0]) ∧ Hid (BoxN w' bx #[.string t0, .int .i64 k, y, .slice none 0 0, .int .i64 0]) ∧ Hid (Own w' (bx + 1) y A) ∧ Hid (Below w.heap.size w w') ∧ bx + 1 ≤ w'.heap.size ∧ Hid (lineA L t0 k A (M - j) T = (E, N))) (fun _ iv _ => M - (intOf iv).toNat)
  case atStart => exact ⟨0, [], r, _, Nat.zero_le _, rfl, rfl, HU4.out, HTS0.out, HZV.out, HXV.out, Own.nil _ _, HBV.out, hsV, HHE.out⟩
  case round =>
    obtain ⟨j, A, T, y, hj, rfl, hAj, HTW, HTS, HZZ, HXX, HOA, HBB, hsz, HF⟩ := hrel
    obtain ⟨a, c, e1, hac⟩ := HTW.out.shape
    subst e1
    obtain ⟨ya, yn, yc, e1⟩ := HOA.out.ints.shape3
    subst e1
    by_cases hlt : j < M
    · have gj : (j : Int) < (M : Int) := by omega
      cases T with
      | nil =>
        have HE : Hid (E = 5) := by
          have h := HF.out
          rw [show M - j = (M - j - 1) + 1 by omega, lineA_nil] at h
          simp only [Prod.mk.injEq] at h
          exact h.1.symm
        line_z HZZ.out
        go_wp2
        line_out 5
      | cons t T =>
        obtain ⟨b, off, rfl, -, hlc, hc0⟩ := HTW.out.first
        have HC1 : Hid (∀ w', Below w.heap.size w w' → w'.cell? ⟨b, off, none⟩ = some (.string t)) := fun w' hb => cell_later hb hc0
        have d0 := HC1.out _ HBB.out
        obtain ⟨nn, hnn⟩ : ∃ nn, (t :: T).length = nn := ⟨_, rfl⟩
        have HTW2 : Hid (HoldsW w (.slice (some ⟨b, off, none⟩) nn c) (t :: T)) := by rw [← hnn]; exact HTW.out
        have hn1 : 1 ≤ nn := by rw [← hnn]; simp
        rw [hnn]
        have gz : ¬ (nn : Int) = 0 := by omega
        have bz : ((nn : Int) == 0) = false := by rw [beq_eq_false_iff_ne]; exact gz
        have g0 : (0 : Int) < (nn : Int) := by omega
        have gl : (1 : Int) ≤ (nn : Int) := by omega
        have HST : Hid (t.size ≤ 3000) := HTS.out t (by simp)
        have hst := HST.out
        have HTS2 : Hid (∀ t ∈ T, t.size ≤ 3000) := fun u hu => HTS.out u (by simp [hu])
        obtain ⟨q, hq⟩ : ∃ q, nameB t = q := ⟨_, rfl⟩
        have HQ : Hid (nameB t = q) := hq
        obtain ⟨x, hx⟩ : ∃ x, nmdN L t 0 = x := ⟨_, rfl⟩
        have HX : Hid (nmdN L t 0 = x) := hx
        have HF2 : Hid ((if q && decide (0 ≤ x) then lineA L t0 k (A ++ [x]) (M - (j + 1)) T else (5, nod0)) = (E, N)) := by
          have h := HF.out
          rw [show M - j = (M - (j + 1)) + 1 by omega, lineA_cons, HQ.out, HX.out] at h
          exact h
        clear hq hx HF HTW HTS hnn hc0
        cases q with
        | false =>
          have HE : Hid (E = 5) := by
            have h := HF2.out
            rw [if_neg (by simp)] at h
            simp only [Prod.mk.injEq] at h
            exact h.1.symm
          have HZ6 := HZZ
          have HB6 := HBB
          clear HZZ HBB
          go_wp2_with (go_at_call 41; refine (RN.name (by omega) (RN.later HB6.out HT.out) false HQ.out).mono ?_; rintro e w2 ⟨rfl, hb2⟩; have HZZ : Hid (BoxN w2 w.heap.size #[.string ⟨#[]⟩, .int .i64 0, .slice none 0 0, .slice none 0 0, .int .i64 0]) := HZ6.out.later hb2; have HBB : Hid (Below w.heap.size w w2) := Below.after HB6.out hb2; line_z HZZ.out; clear hb2)
          line_out 5
        | true =>
          by_cases hx0' : 0 ≤ x
          · have HF3 : Hid (lineA L t0 k (A ++ [x]) (M - (j + 1)) T = (E, N)) := by
              have h := HF2.out
              rw [if_pos (by simpa using hx0')] at h
              exact h
            have HTD : Hid (HoldsW w (.slice (if c = 1 then some ⟨b, off, none⟩ else (some (⟨b, off, none⟩ : Addr)).map (·.add (1 * 2))) (nn - 1) (c - 1)) T) := HTW2.out.drop 1 (by simp)
            have HTD1 : Hid (c = 1 → HoldsW w (.slice (some ⟨b, off, none⟩) (nn - 1) 0) T) := fun hc => by have h := HTD.out; rw [if_pos hc, show c - 1 = 0 by omega] at h; exact h
            have HTD2 : Hid (¬ c = 1 → HoldsW w (.slice (some ⟨b, off + 2, none⟩) (nn - 1) (c - 1)) T) := fun hc => by have h := HTD.out; rw [if_neg hc] at h; simpa [Addr.add] using h
            have gx : ¬ x < 0 := by omega
            obtain ⟨iI, hi, hi0, hi1, hi2⟩ := info3
            have HI : Hid (Tryz.prog.info? 3 = some iI) := hi
            have HI0 : Hid (iI.zero = some (.int .i64 0)) := hi0
            have HI1 : Hid (iI.size = 1) := hi1
            have HI2 : Hid (iI.bytes = 8) := hi2
            clear hi hi0 hi1 hi2 HF2 HTW2
            go_upto_region 14 with (first
              | (go_at_call 41; refine (RN.name (by omega) (RN.later HBB.out HT.out) true HQ.out).mono ?_; rintro e w2 ⟨rfl, hb2⟩; have HZ2 : Hid (BoxN w2 w.heap.size #[.string ⟨#[]⟩, .int .i64 0, .slice none 0 0, .slice none 0 0, .int .i64 0]) := HZZ.out.later hb2; have HX2 : Hid (BoxN w2 bx #[.string t0, .int .i64 k, .slice ya yn yc, .slice none 0 0, .int .i64 0]) := HXX.out.later hb2; have HA2 : Hid (Own w2 (bx + 1) (.slice ya yn yc) A) := HOA.out.later hb2; have HB2 : Hid (Below w.heap.size w w2) := Below.after HBB.out hb2; have hs2 : bx + 1 ≤ w2.heap.size := Nat.le_trans hsz hb2.size; have d1 := HC1.out _ HB2.out; clear hb2)
              | (go_at_call 42; refine (rnamed_any (HNL.out.later HB2.out) t x HX.out).mono ?_; rintro e w3 ⟨rfl, rfl⟩))
            have e2 : w2.cell? ⟨bx, 2, none⟩ = some (.slice ya yn yc) := HX2.out.c 2
            have ef : w2.frozen? ⟨bx, 2, none⟩ = false := HX2.out.f 2
            clear d0 HZZ HXX HOA HBB
            have e2a : (w2.alloc (.cells #[.int .i64 x] 3)).cell? ⟨bx, 2, none⟩ = some (.slice ya yn yc) := (HX2.out.alloc _).c 2
            have gN : 0 < nn := by omega
            have HN1 : Hid (∀ w', Below w.heap.size w w' → ∀ j u, [Value.int .i64 x][j]? = some u → (w2.alloc (.cells #[.int .i64 x] 3)).drew.cell? ((⟨w2.heap.size, 0, none⟩ : Addr).add j) = some u) := fun _ _ => cell_one_new w2 _ _
            have HA3 : Hid ((w2.alloc (.cells #[.int .i64 x] 3)).drew.ownsRow (bx + 1) 3 1 (.slice ya yn yc) A.length (A.map (Value.int .i64))) := HA2.out.row.alloc _
            have HP : Hid (∀ v1 w1, w1.ownsRow (bx + 1) 3 1 v1 (A.length + 1) (A.map (Value.int .i64) ++ [.int .i64 x]) → (w2.alloc (.cells #[.int .i64 x] 3)).drew.grownBy w1 (Value.slice ya yn yc).ownBlock → Own w1 (bx + 1) v1 (A ++ [x]) ∧ Below (bx + 1) w2 w1 ∧ BoxN w1 bx #[.string t0, .int .i64 k, .slice ya yn yc, .slice none 0 0, .int .i64 0] ∧ BoxN w1 w.heap.size #[.string ⟨#[]⟩, .int .i64 0, .slice none 0 0, .slice none 0 0, .int .i64 0]) := fun v1 w1 ho hg => by
              have h1 : Below (bx + 1) w2 w1 := (((Below.refl (bx + 1) w2).alloc hs2 _).drew).grown hg (by simp; omega) (fun q hq => (HA2.out.row.lt q hq).1)
              refine ⟨⟨?_, ?_⟩, h1, (h1.block bx (by omega)).trans HX2.out, (h1.block _ (by omega)).trans HZ2.out⟩
              · simp only [List.length_append, List.map_append, List.length_cons, List.length_nil, List.map_cons, List.map_nil] at ho ⊢
                exact ho
              · have := hAj.out
                simp only [List.length_append, List.length_cons, List.length_nil]
                unfold big
                omega
            go_region_law (first
              | (rw [if_pos (by simp [Region.wanted])]; go_simp; go_at_call 42; refine (rnamed_any (HNL.out.later HB2.out.drew) t x HX.out).mono ?_; rintro e w3 ⟨rfl, rfl⟩)
              | (refine step_append_lies _ rfl (.tmp 90) (.tmp 97) 23 rfl (bx + 1) 3 iI (.int .i64 0) 1 8 Tryz.underlying23 HI.out HI0.out HI1.out HI2.out rfl (by decide) (.slice ya yn yc) A.length (A.map (Value.int .i64)) (by simp [Act.eval, Act.put]) HA3.out ⟨w2.heap.size, 0, none⟩ 1 1 [.int .i64 x] (by simp [Act.eval, Act.put]) rfl (HN1.out w (Below.refl _ _)) (by intro u hu; simp at hu; subst hu; rfl) (by decide) (by have := hAj.out; unfold maxLen; omega) (by have := hAj.out; omega) (by simp; omega) (w2.heap.size + 1) (by simp) ?_; intro g1 cap1 w1 ho hg _ _; obtain ⟨ho1, hb1, hx1, hz1⟩ := HP.out _ _ ho hg; have HO1 : Hid (Own w1 (bx + 1) _ (A ++ [x])) := ho1; have HB1 : Hid (Below (bx + 1) w2 w1) := hb1; have HX1 : Hid (BoxN w1 bx _) := hx1; have HZ1 : Hid (BoxN w1 w.heap.size _) := hz1; have ef1 : w1.frozen? ⟨bx, 2, none⟩ = false := hx1.f 2; have ec1 : w1.cell? ⟨bx, 2, none⟩ = some (.slice ya yn yc) := hx1.c 2; clear ho hg ho1 hb1 hx1 hz1))
            all_goals (
              go_wp2
              go_roundw
              case rel => exact ⟨j + 1, A ++ [x], T, .slice (some ⟨g1, 0, none⟩) (A.length + 1) cap1, by omega, by go_num, (by show _ = _; have := hAj.out; simp; omega), (by first | exact HTD.out | exact HTD1.out (by assumption) | exact HTD2.out (by assumption)), HTS2.out, HZ1.out.other _ _ (show w.heap.size ≠ bx by omega), HX1.out.set 2 (.slice (some ⟨g1, 0, none⟩) (A.length + 1) cap1), HO1.out.below ⟨bx, 2, none⟩ _ (show bx < bx + 1 by omega), (HB2.out.trans (HB1.out.mono (by omega))).setCell (show w.heap.size ≤ (⟨bx, 2, none⟩ : Addr).block by show _ ≤ bx; omega) _, (by have := HB1.out.size; simp; omega), HF3.out⟩
              case measure => (simp [intOf]; omega))
          · have HE : Hid (E = 5) := by
              have h := HF2.out
              rw [if_neg (by simpa using hx0')] at h
              simp only [Prod.mk.injEq] at h
              exact h.1.symm
            have gx : x < 0 := by omega
            have HZ6 := HZZ
            have HB6 := HBB
            clear HZZ HBB hx0'
            go_wp2_with (first
              | (go_at_call 41; refine (RN.name (by omega) (RN.later HB6.out HT.out) true HQ.out).mono ?_; rintro e w2 ⟨rfl, hb2⟩; have HZZ : Hid (BoxN w2 w.heap.size #[.string ⟨#[]⟩, .int .i64 0, .slice none 0 0, .slice none 0 0, .int .i64 0]) := HZ6.out.later hb2; have HBB : Hid (Below w.heap.size w w2) := Below.after HB6.out hb2; line_z HZZ.out; have d1 := HC1.out _ HBB.out; clear hb2)
              | (go_at_call 42; refine (rnamed_any (HNL.out.later HBB.out) t x HX.out).mono ?_; rintro e w3 ⟨rfl, rfl⟩))
            line_out 5
    · have gj : ¬ (j : Int) < (M : Int) := by omega
      have hjM : j = M := by omega
      subst hjM
      have HF2 : Hid (lineB L t0 k A T = (E, N)) := by
        have h := HF.out
        rw [show j - j = 0 by omega, lineA_zero] at h
        exact h
      have HLA : Hid (A.length ≤ 100000000) := by show _ ≤ _; have := hAj.out; omega
      have HSZ : Hid (bx + 1 ≤ wr.heap.size) := hsz
      clear HF
      cases T with
      | nil =>
        have HE : Hid (E = 5) := by
          have h := HF2.out
          rw [lineB_nil _ _ _ _ HNB.out] at h
          simp only [Prod.mk.injEq] at h
          exact h.1.symm
        line_z HZZ.out
        go_wp2
        line_out 5
      | cons t T =>
        obtain ⟨b, off, rfl, -, hlc, hc0⟩ := HTW.out.first
        have d0 : wr.cell? ⟨b, off, none⟩ = some (.string t) := cell_later HBB.out hc0
        obtain ⟨nn, hnn⟩ : ∃ nn, (t :: T).length = nn := ⟨_, rfl⟩
        have HTW2 : Hid (HoldsW w (.slice (some ⟨b, off, none⟩) nn c) (t :: T)) := by rw [← hnn]; exact HTW.out
        have hn1 : 1 ≤ nn := by rw [← hnn]; simp
        have hlc2 : nn ≤ c := by rw [← hnn]; exact hlc
        rw [hnn]
        have gz : ¬ (nn : Int) = 0 := by omega
        have bz : ((nn : Int) == 0) = false := by rw [beq_eq_false_iff_ne]; exact gz
        have g0 : (0 : Int) < (nn : Int) := by omega
        have gl : (1 : Int) ≤ (nn : Int) := by omega
        have HST : Hid (t.size ≤ 3000) := HTS.out t (by simp)
        have HTS2 : Hid (∀ t ∈ T, t.size ≤ 3000) := fun u hu => HTS.out u (by simp [hu])
        obtain ⟨q, hq⟩ : ∃ q, numK t.data.toList = q := ⟨_, rfl⟩
        have HQ : Hid (numK t.data.toList = q) := hq
        obtain ⟨n, hx⟩ : ∃ x, numV t.data.toList = x := ⟨_, rfl⟩
        have HX : Hid (numV t.data.toList = n) := hx
        have HF3 : Hid ((if q then lineC L t0 k A n T else (5, nod0)) = (E, N)) := by
          have h := HF2.out
          rw [lineB_cons _ _ _ _ _ _ HNB.out, HQ.out, HX.out] at h
          exact h
        have HNC : Hid (∀ (w : World), Calls Tryz.prog 61 #[.string t] w fun e w' => e = .returned (.tuple #[.int .i64 n, .bool q]) ∧ w = w') := fun w => by
          have h := rnumber_to t w (by have := HST.out; omega)
          rw [HX.out, HQ.out] at h
          exact h
        clear hq hx HF2 HTW HTS hnn hc0
        cases q with
        | false =>
          have HE : Hid (E = 5) := by
            have h := HF3.out
            rw [if_neg (by simp)] at h
            simp only [Prod.mk.injEq] at h
            exact h.1.symm
          line_z HZZ.out
          go_wp2_with (go_at_call 61; refine (HNC.out _).mono ?_; rintro e w8 ⟨rfl, rfl⟩)
          line_out 5
        | true =>
          have HF : Hid (lineC L t0 k A n T = (E, N)) := by
            have h := HF3.out
            rw [if_pos rfl] at h
            exact h
          have HTW : Hid (HoldsW w (.slice (if c = 1 then some ⟨b, off, none⟩ else (some (⟨b, off, none⟩ : Addr)).map (·.add (1 * 2))) (nn - 1) (c - 1)) T) := HTW2.out.drop 1 (by simp)
          have HTS := HTS2
          have k4 : wr.cell? ⟨bx, 4, none⟩ = some (.int .i64 0) := HXX.out.c 4
          have kf : wr.frozen? ⟨bx, 4, none⟩ = false := HXX.out.f 4
          clear HF3 HTW2 HTS2
          go_upto_region 23 with (go_at_call 61; refine (HNC.out _).mono ?_; rintro e w8 ⟨rfl, rfl⟩)
          obtain ⟨W, hW⟩ : ∃ W, W = wr.setCell ⟨bx, 4, none⟩ (.int .i64 n) := ⟨_, rfl⟩
          rw [← hW]
          have HXX' : Hid (BoxN W bx #[.string t0, .int .i64 k, .slice ya yn yc, .slice none 0 0, .int .i64 n]) := by show BoxN _ _ _; rw [hW]; exact HXX.out.set 4 _
          have HZZ' : Hid (BoxN W w.heap.size #[.string ⟨#[]⟩, .int .i64 0, .slice none 0 0, .slice none 0 0, .int .i64 0]) := by show BoxN _ _ _; rw [hW]; exact HZZ.out.other _ _ (show w.heap.size ≠ bx by omega)
          have HOA' : Hid (Own W (bx + 1) (.slice ya yn yc) A) := by show Own _ _ _ _; rw [hW]; exact HOA.out.below _ _ (show bx < bx + 1 by omega)
          have HBB' : Hid (Below w.heap.size w W) := by show Below _ _ _; rw [hW]; exact HBB.out.setCell (show w.heap.size ≤ bx by omega) _
          have HSZ' : Hid (bx + 1 ≤ W.heap.size) := by show _ ≤ _; rw [hW]; simpa using HSZ.out
          clear hW HXX HZZ HOA HBB HSZ hsz k4 kf d0
          have HXX := HXX'
          have HZZ := HZZ'
          have HOA := HOA'
          have HBB := HBB'
          have HSZ := HSZ'
          clear HXX' HZZ' HOA' HBB' HSZ'
          go_cut [1] (fun v wx => Hid (HoldsW w v T) ∧ wx = W)
          case first =>
            by_cases hc1 : c = 1
            · have HTX : Hid (HoldsW w (.slice (some ⟨b, off, none⟩) 0 0) T) := by have h := HTW.out; rw [if_pos hc1, show c - 1 = 0 by omega, show nn - 1 = 0 by omega] at h; exact h
              subst hc1
              go_upto_region 24 with fail
              all_goals (
                go_meet
                case rel => exact ⟨HTX.out, rfl⟩)
            · have hc2 : ¬ 1 = c := fun e => hc1 e.symm
              have HTX : Hid (HoldsW w (.slice (some ⟨b, off + 2, none⟩) (nn - 1) (c - 1)) T) := by have h := HTW.out; rw [if_neg hc1] at h; show HoldsW _ _ _; simpa [Addr.add] using h
              go_upto_region 24 with fail
              all_goals (
                go_meet
                case rel => exact ⟨HTX.out, rfl⟩)
          case rest =>
          obtain ⟨HTW, hwx⟩ := hcut
          have hwy := hwx.symm
          subst hwy
          clear hwx
          obtain ⟨a, c', e1, hac⟩ := HTW.out.shape
          subst e1
          have HAS : Hid (askI k = false) := HAI.out
          have HF2 : Hid (lineD L t0 k A n [] T = (E, N)) := by
            have h := HF.out
            rw [lineC, if_neg (by rw [HAI.out]; simp)] at h
            exact h
          clear HF
          have HF := HF2
          clear HF2
          have HDV : Hid (Ints W (.slice none 0 0) []) := Ints.nil _
          obtain ⟨D, hDD⟩ : ∃ D : List Int, D = [] := ⟨_, rfl⟩
          rw [← hDD] at HF HDV
          go_upto_region 34 with (go_at_call 45; refine (asked_to (k : Int) _ false HAS.out).mono ?_; rintro e w6 ⟨rfl, rfl⟩)
          clear hDD

          by_cases hT0 : T = []
          · subst hT0
            have HFF : Hid ((if 24 ≤ L.length then (2, nod0) else (inE k n D L A, ⟨t0, k, A, inR k n D L A, n⟩)) = (E, N)) := by
              have h := HF.out
              rw [lineD, if_pos rfl] at h
              exact h
            clear HF
            by_cases h24 : 24 ≤ L.length
            · have HE : Hid (E = 2) := by
                have h := HFF.out
                rw [if_pos h24] at h
                simp only [Prod.mk.injEq] at h
                exact h.1.symm
              have g24 : (24 : Int) ≤ (L.length : Int) := by omega
              line_z HZZ.out
              clear h24
              go_wp2
              line_out 2
            · have HE : Hid (rinE k n D L A = E ∧ N = ⟨t0, k, A, inR k n D L A, n⟩) := by
                have h := HFF.out
                rw [if_neg h24] at h
                simp only [Prod.mk.injEq] at h
                exact ⟨(in_rin _ _ _ _ _).1.trans h.1, h.2.symm⟩
              have g24 : ¬ (24 : Int) ≤ (L.length : Int) := by omega
              have e2 : W.cell? ⟨bx, 2, none⟩ = some (.slice ya yn yc) := HXX.out.c 2
              have e4 : W.cell? ⟨bx, 4, none⟩ = some (.int .i64 n) := HXX.out.c 4
              clear h24 HFF
              go_wp2_with (go_at_call 62; refine (rinfer_any (L := L) (d := D) (A := A) (k : Int) n (HNL.out.later HBB.out) HDV.out HOA.out.ints HLA.out).mono ?_; rintro e w9 ⟨x9, rfl, ho9, hb9⟩; rw [HE.out.1]; obtain ⟨p9, n9, c9, rfl⟩ := ho9.ints.shape3; have HO9 : Hid (Own w9 W.heap.size (.slice p9 n9 c9) (rinR k n D L A)) := ho9; have HX9 : Hid (BoxN w9 bx #[.string t0, .int .i64 k, .slice ya yn yc, .slice none 0 0, .int .i64 n]) := HXX.out.later hb9; have HZ9 : Hid (BoxN w9 w.heap.size #[.string ⟨#[]⟩, .int .i64 0, .slice none 0 0, .slice none 0 0, .int .i64 0]) := HZZ.out.later hb9; have HB9 : Hid (Below w.heap.size w w9) := Below.after HBB.out hb9; have HA9 : Hid (Own w9 (bx + 1) (.slice ya yn yc) A) := HOA.out.later hb9; have HS9 : Hid (bx + 1 ≤ W.heap.size) := HSZ.out; clear ho9 hb9; line_z HZ9.out; have k0 : w9.cell? ⟨bx, 0, none⟩ = some (.string t0) := HX9.out.c 0; have k1 : w9.cell? ⟨bx, 1, none⟩ = some (.int .i64 k) := HX9.out.c 1; have k2 : w9.cell? ⟨bx, 2, none⟩ = some (.slice ya yn yc) := HX9.out.c 2; have k3 : w9.cell? ⟨bx, 3, none⟩ = some (.slice none 0 0) := HX9.out.c 3; have k4 : w9.cell? ⟨bx, 4, none⟩ = some (.int .i64 n) := HX9.out.c 4; have kf := HX9.out.f 3)
              have BX : Hid (BoxN (w9.setCell ⟨bx, 3, none⟩ (.slice p9 n9 c9)) w.heap.size #[.string ⟨#[]⟩, .int .i64 0, .slice none 0 0, .slice none 0 0, .int .i64 0]) := HZ9.out.other _ _ (show w.heap.size ≠ bx by omega)
              have BR : Hid (BoxN _ w.heap.size #[.string t0, .int .i64 k, .slice ya yn yc, .slice p9 n9 c9, .int .i64 n]) := ((((BX.out.set 0 (.string t0)).set 1 (.int .i64 k)).set 2 (.slice ya yn yc)).set 3 (.slice p9 n9 c9)).set 4 (.int .i64 n)
              have r0 := (BR.out.c 0).trans (show _ = some (.string t0) from rfl)
              have r1 := (BR.out.c 1).trans (show _ = some (.int .i64 k) from rfl)
              have r2 := (BR.out.c 2).trans (show _ = some (.slice ya yn yc) from rfl)
              have r3 := (BR.out.c 3).trans (show _ = some (.slice p9 n9 c9) from rfl)
              have r4 := (BR.out.c 4).trans (show _ = some (.int .i64 n) from rfl)
              have hs9 := HS9.out
              refine bodyPost_ret (v := .tuple #[.agg #[.string t0, .int .i64 k, .slice ya yn yc, .slice p9 n9 c9, .int .i64 n], .int .i64 E]) (by simp [results, Tryz.results31, go_sem, r0, r1, r2, r3, r4]) rfl ⟨_, _, _, _, _, rfl, ⟨_, _, _, rfl⟩, ⟨_, _, _, rfl⟩, (fun _ => ?_), ?_⟩
              · rw [HE.out.2]
                refine ⟨rfl, rfl, rfl, ?_, ?_⟩
                · exact (((((((HA9.out.below ⟨bx, 3, none⟩ _ (by show bx < bx + 1; omega)).below ⟨w.heap.size, 0, none⟩ _ (by show w.heap.size < _; omega)).below ⟨w.heap.size, 1, none⟩ _ (by show w.heap.size < _; omega)).below ⟨w.heap.size, 2, none⟩ _ (by show w.heap.size < _; omega)).below ⟨w.heap.size, 3, none⟩ _ (by show w.heap.size < _; omega)).below ⟨w.heap.size, 4, none⟩ _ (by show w.heap.size < _; omega))).mono (by omega)
                · have h9 := HO9.out
                  rw [(in_rin _ _ _ _ _).2] at h9
                  exact (((((((h9.below ⟨bx, 3, none⟩ _ (by show bx < _; omega)).below ⟨w.heap.size, 0, none⟩ _ (by show w.heap.size < _; omega)).below ⟨w.heap.size, 1, none⟩ _ (by show w.heap.size < _; omega)).below ⟨w.heap.size, 2, none⟩ _ (by show w.heap.size < _; omega)).below ⟨w.heap.size, 3, none⟩ _ (by show w.heap.size < _; omega)).below ⟨w.heap.size, 4, none⟩ _ (by show w.heap.size < _; omega))).mono (by omega)
              · exact ((((((HB9.out.setCell (show w.heap.size ≤ bx by omega) _).setCell (Nat.le_refl _) _).setCell (Nat.le_refl _) _).setCell (Nat.le_refl _) _).setCell (Nat.le_refl _) _).setCell (Nat.le_refl _) _)
          · have HE : Hid (E = 5) := by
              have h := HF.out
              rw [lineD, if_neg hT0] at h
              simp only [Prod.mk.injEq] at h
              exact h.1.symm
            have gT : (0 : Int) < (T.length : Int) := by have : 0 < T.length := List.length_pos_iff.2 hT0; omega
            line_z HZZ.out
            clear hT0
            first
              | (exfalso; omega)
              | (go_wp2
                 line_out 5)
end Go.Proofs.YtkojdigaoihkpaaGreatDoor

end
