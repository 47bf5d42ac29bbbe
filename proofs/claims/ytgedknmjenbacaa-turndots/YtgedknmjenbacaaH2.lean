/- Contract: graduslaw3's dims. -/
import Derived.Test.YtgedknmjenbacaaH1
import Derived.Deep.RegionHeldLaw
import Derived.Deep.AppendLies
namespace Go.Proofs.Ytgedknmjenbacaa
set_option linter.unusedVariables false
set_option linter.unusedSimpArgs false
open Go.RowKit

set_option maxRecDepth 100000 in
theorem lit64 (g : Nat → Value) : (g 0 :: g 1 :: g 2 :: g 3 :: g 4 :: g 5 :: g 6 :: g 7 :: g 8 :: g 9 :: g 10 :: g 11 :: g 12 :: g 13 :: g 14 :: g 15 :: g 16 :: g 17 :: g 18 :: g 19 :: g 20 :: g 21 :: g 22 :: g 23 :: g 24 :: g 25 :: g 26 :: g 27 :: g 28 :: g 29 :: g 30 :: g 31 :: g 32 :: g 33 :: g 34 :: g 35 :: g 36 :: g 37 :: g 38 :: g 39 :: g 40 :: g 41 :: g 42 :: g 43 :: g 44 :: g 45 :: g 46 :: g 47 :: g 48 :: g 49 :: g 50 :: g 51 :: g 52 :: g 53 :: g 54 :: g 55 :: g 56 :: g 57 :: g 58 :: g 59 :: g 60 :: g 61 :: g 62 :: g 63 :: []).toArray = ((List.range 64).map g).toArray := by rfl
set_option maxRecDepth 100000 in
theorem act64 (a : Act) (hd : a.defers = []) (hs : a.tmps.size = 64) : ∃ g : Nat → Value, (∀ i, a.tmps.getD i undef = g i) ∧ a = { tmps := (g 0 :: g 1 :: g 2 :: g 3 :: g 4 :: g 5 :: g 6 :: g 7 :: g 8 :: g 9 :: g 10 :: g 11 :: g 12 :: g 13 :: g 14 :: g 15 :: g 16 :: g 17 :: g 18 :: g 19 :: g 20 :: g 21 :: g 22 :: g 23 :: g 24 :: g 25 :: g 26 :: g 27 :: g 28 :: g 29 :: g 30 :: g 31 :: g 32 :: g 33 :: g 34 :: g 35 :: g 36 :: g 37 :: g 38 :: g 39 :: g 40 :: g 41 :: g 42 :: g 43 :: g 44 :: g 45 :: g 46 :: g 47 :: g 48 :: g 49 :: g 50 :: g 51 :: g 52 :: g 53 :: g 54 :: g 55 :: g 56 :: g 57 :: g 58 :: g 59 :: g 60 :: g 61 :: g 62 :: g 63 :: []).toArray, defers := [] } := by
  refine ⟨fun i => a.tmps.getD i undef, fun _ => rfl, ?_⟩
  have h := lit64 (fun i => a.tmps.getD i undef)
  have e : a.tmps = ((List.range 64).map (fun i => a.tmps.getD i undef)).toArray := by
    apply Array.ext
    · simp [hs]
    · intro i h1 h2
      simp [h1]
  exact (show a = Act.mk a.tmps a.defers from rfl).trans (by rw [hd]; exact congrArg (fun t => Act.mk t []) (e.trans h.symm))

structure FrD (B : Nat) (v : Value) (a : Act) : Prop where
  d : a.defers = []
  s : a.tmps.size = 64
  f2 : a.tmps.getD 2 undef = .pointer (some ⟨B, 0, none⟩)
  f3 : a.tmps.getD 3 undef = .pointer (some ⟨B + 1, 0, none⟩)
  f4 : a.tmps.getD 4 undef = .slice none 0 0
  f5 : a.tmps.getD 5 undef = v
theorem Elt.old {w w' : World} {x : Value} {d : List Int} {r : Option Nat} (h : Ints w x d) (hb : Below w.heap.size w w') (hr : ∀ k, r = some k → w.heap.size ≤ k) : Elt w' r x d := by
  refine ⟨h.later hb, fun h0 e => ?_⟩
  rcases h.cases with ⟨q, _⟩ | ⟨b, off, c, rfl, _, _, _, HC⟩
  · rw [q] at h0; simp at h0
  · have h1 := World.block_lt_of_cell? _ _ (HC.out 0 h0)
    have h2 := hr b e.symm
    simp only at h1
    omega
theorem Row.appH {w w' : World} {B m : Nat} {v v' : Value} {L E : List (List Int)} {xs news : List Value} (h : Row w B v L xs) (hm : m = E.length) (he : ∀ i (h : i < E.length), ∃ y, news[i]? = some y ∧ Elt w v.ownBlock y E[i])
    (hown : w'.ownsRow B 23 1 v' (L.length + m) (xs ++ news)) (hg : w.grownBy w' v.ownBlock) (H : Nat) (hH : w.heap.size = H) (hat : v'.ownBlock = v.ownBlock ∨ v'.ownBlock = some H) : Row w' B v' (L ++ E) (xs ++ news) := by
  subst hH
  exact h.app hm he hown hg hat
theorem two_news (w : World) (y x : Value) (n : Nat) (hn : w.heap.size = n) : ∀ j u, [y, x][j]? = some u → (w.alloc (.cells #[y, x] 23)).cell? ((⟨n, 0, none⟩ : Addr).add j) = some u := by
  subst hn
  exact World.news_of_block (heap_alloc_new w (.cells #[y, x] 23))
theorem two_one {a b : Option Addr} {n m c d : Nat} : ∀ u ∈ [Value.slice a n c, Value.slice b m d], u.oneCell' = true := by
  intro u hu
  simp only [List.mem_cons, List.not_mem_nil, or_false] at hu
  rcases hu with rfl | rfl <;> rfl
/-- Two lists more. -/
theorem Row.app2 {U W w9 : World} {B g n cap g' cap' H : Nat} {L : List (List Int)} {xs : List Value} {y x : Value} {d1 d2 : List Int} (hR : Row W B (.slice (some ⟨g, 0, none⟩) n cap) L xs) (hn : L.length = n) (h1 : Elt W (some g) y d1) (h2 : Elt W (some g) x d2)
    (hown : w9.ownsRow B 23 1 (.slice (some ⟨g', 0, none⟩) (n + 2) cap') (n + 2) (xs ++ [y, x])) (hg : W.grownBy w9 (Value.slice (some ⟨g, 0, none⟩) n cap).ownBlock) (hH : W.heap.size = H) (hat : (Value.slice (some ⟨g, 0, none⟩) n cap).ownBlock = some g' ∨ g' = H)
    (hU : Below U.heap.size U W) (hB : U.heap.size ≤ B) :
    (∃ L' xs', L'.length = n + 2 ∧ Row w9 B (.slice (some ⟨g', 0, none⟩) L'.length cap') L' xs' ∧ L'.length ≤ cap') ∧ Below U.heap.size U w9 := by
  have hgB := (hR.own.lt g rfl).1
  have hr := hR.appH (E := [d1, d2]) (m := 2) (news := [y, x]) rfl (fun i hi => by
    have h3 : i = 0 ∨ i = 1 := by simp at hi; omega
    rcases h3 with rfl | rfl
    · exact ⟨y, rfl, h1⟩
    · exact ⟨x, rfl, h2⟩) (by rw [hn]; exact hown) hg H hH (by
      rcases hat with h | h
      · exact Or.inl h.symm
      · exact Or.inr (by rw [h]; rfl))
  have hl : (L ++ [d1, d2]).length = n + 2 := by simp [hn]
  refine ⟨⟨L ++ [d1, d2], xs ++ [y, x], hl, by rw [hl]; exact hr, ?_⟩, hU.grown hg hU.size (fun k hk => ?_)⟩
  · rcases hr.own.2 with ⟨h0, _⟩ | ⟨g0, cap0, cur, e, _, _, h3, _⟩
    · simp at h0
    · simp only [Value.slice.injEq, true_and] at e
      rw [e.2.2]
      exact h3
  · simp only [Value.ownBlock, Option.some.injEq] at hk
    omega
theorem lit3_row (U : World) (B : Nat) (hB : B ≤ U.heap.size) (n : Nat) (hn : n = U.heap.size) :
    Row ((((U.alloc (.cells #[.int .i64 1] 3)).alloc (.cells #[.int .i64 1, .int .i64 1] 3)).alloc (.cells #[] 3)).alloc (.cells #[.slice (some ⟨n, 0, none⟩) 1 1, .slice (some ⟨n + 1, 0, none⟩) 2 2, .slice (some ⟨n + 1 + 1, 0, none⟩) 0 0] 23)) B
      (.slice (some ⟨n + 1 + 1 + 1, 0, none⟩) 3 3) [[1], [1, 1], []] [.slice (some ⟨n, 0, none⟩) 1 1, .slice (some ⟨n + 1, 0, none⟩) 2 2, .slice (some ⟨n + 1 + 1, 0, none⟩) 0 0] := by
  subst hn
  refine ⟨?_, ?_⟩
  · have := World.ownsRow_lit (base := B) (e := 23) (size := 1) (((U.alloc (.cells #[.int .i64 1] 3)).alloc (.cells #[.int .i64 1, .int .i64 1] 3)).alloc (.cells #[] 3)) #[.slice (some ⟨U.heap.size, 0, none⟩) 1 1, .slice (some ⟨U.heap.size + 1, 0, none⟩) 2 2, .slice (some ⟨U.heap.size + 1 + 1, 0, none⟩) 0 0] 3 (by simp; omega) (by decide) rfl
    simpa using this
  · intro i hi
    have k0 : Ints ((((U.alloc (.cells #[.int .i64 1] 3)).alloc (.cells #[.int .i64 1, .int .i64 1] 3)).alloc (.cells #[] 3)).alloc (.cells #[.slice (some ⟨U.heap.size, 0, none⟩) 1 1, .slice (some ⟨U.heap.size + 1, 0, none⟩) 2 2, .slice (some ⟨U.heap.size + 1 + 1, 0, none⟩) 0 0] 23)) (.slice (some ⟨U.heap.size, 0, none⟩) 1 1) [1] :=
      ((((Blk.newer U [1] _ rfl).alloc _).alloc _).alloc _).ints 1 1 rfl (Nat.le_refl _) (by decide)
    have k1 : Ints ((((U.alloc (.cells #[.int .i64 1] 3)).alloc (.cells #[.int .i64 1, .int .i64 1] 3)).alloc (.cells #[] 3)).alloc (.cells #[.slice (some ⟨U.heap.size, 0, none⟩) 1 1, .slice (some ⟨U.heap.size + 1, 0, none⟩) 2 2, .slice (some ⟨U.heap.size + 1 + 1, 0, none⟩) 0 0] 23)) (.slice (some ⟨U.heap.size + 1, 0, none⟩) 2 2) [1, 1] :=
      (((Blk.newer (U.alloc (.cells #[.int .i64 1] 3)) [1, 1] (U.heap.size + 1) (by simp)).alloc _).alloc _).ints 2 2 rfl (Nat.le_refl _) (by decide)
    have h3 : i = 0 ∨ i = 1 ∨ i = 2 := by simp at hi; omega
    rcases h3 with rfl | rfl | rfl
    · exact ⟨_, rfl, k0, fun _ => by simp [Value.ownBlock]; omega⟩
    · exact ⟨_, rfl, k1, fun _ => by simp [Value.ownBlock]⟩
    · exact ⟨_, rfl, Or.inr ⟨_, 0, rfl, Nat.le_refl _, Nat.zero_le _, fun i hi => by simp at hi⟩, fun h => by simp at h⟩

set_option maxRecDepth 100000 in
set_option maxHeartbeats 4000000 in
theorem dims_any {f0 f1 f2 a0 a1 : Value} {D : List (List Int)} {s : Ten} {w : World} (h2 : IntsL w f2 D) (hN : Nil0 f2) (hD : D.length ≤ 300) (ha : Tens w a0 a1 s) :
    Calls Try.prog 14 #[.agg #[f0, f1, f2], .agg #[a0, a1]] w fun e w' => ∃ v L, e = .returned v ∧ IntsL w' v L ∧ L.length ≤ 20 ∧ Below w.heap.size w w' := by
  have hb : Below w.heap.size w ((w.alloc (.cells #[f0, f1, f2] 28)).alloc (.cells #[a0, a1] 31)) := Below.push (Below.push (Below.refl _ _) _) _
  have HB : Hid (Below w.heap.size w ((w.alloc (.cells #[f0, f1, f2] 28)).alloc (.cells #[a0, a1] 31))) := hb
  have HA : Hid (Tens ((w.alloc (.cells #[f0, f1, f2] 28)).alloc (.cells #[a0, a1] 31)) a0 a1 s) := ha.later hb
  have HD : Hid (IntsL ((w.alloc (.cells #[f0, f1, f2] 28)).alloc (.cells #[a0, a1] 31)) f2 D) := h2.later hb
  have HBA : Hid (Box ((w.alloc (.cells #[f0, f1, f2] 28)).alloc (.cells #[a0, a1] 31)) (w.heap.size + 1) a0 a1) := by
    have := Box.new (w.alloc (.cells #[f0, f1, f2] 28)) a0 a1
    simp only [World.size_alloc] at this
    exact this
  have hcf : ((w.alloc (.cells #[f0, f1, f2] 28)).alloc (.cells #[a0, a1] 31)).cell? ⟨w.heap.size, 2, none⟩ = some f2 := by simp
  have hsU : ((w.alloc (.cells #[f0, f1, f2] 28)).alloc (.cells #[a0, a1] 31)).heap.size = w.heap.size + 1 + 1 := by simp
  have HN : Hid (Nil0 f2) := hN
  have HDL : Hid (D.length ≤ 300) := hD
  obtain ⟨i23, hi, hz0, hz1, hz2⟩ := info23
  have HI : Hid (Try.prog.info? 23 = some i23) := hi
  have HZ0 : Hid (i23.zero = some (.slice none 0 0)) := hz0
  have HZ1 : Hid (i23.size = 1) := hz1
  have HZ2 : Hid (i23.bytes = 24) := hz2
  clear hb ha h2 hN hi hz0 hz1 hz2
  go_enter Try.func14, Try.ntmps14
  go_upto_region 1 with fail
  generalize ((w.alloc (.cells #[f0, f1, f2] 28)).alloc (.cells #[a0, a1] 31)) = U at HB HA HD HBA hcf hsU ⊢
  refine wp_cut (fun a' w' => ∃ g cap L xs, FrD w.heap.size (.slice (some ⟨g, 0, none⟩) L.length cap) a' ∧ Row w' (w.heap.size + 1 + 1) (.slice (some ⟨g, 0, none⟩) L.length cap) L xs ∧ (L.length ≤ cap ∧ L.length ≤ 303) ∧ Below U.heap.size U w') ?_ ?_
  · intro a5 w5 ⟨g, cap, L, xs, hf5, hrow, ⟨hcap, hL⟩, hb5⟩
    obtain ⟨G, hg, e⟩ := act64 a5 hf5.d hf5.s
    obtain ⟨hz1, hz2, g2, g3, g4, g5⟩ := hf5
    rw [hg] at g2 g3 g4 g5
    clear hz1 hz2
    subst e
    clear hg
    rw [g2, g3, g4, g5]
    clear g2 g3 g4 g5 hcf
    have HR5 : Hid (Row w5 (w.heap.size + 1 + 1) (.slice (some ⟨g, 0, none⟩) L.length cap) L xs) := hrow
    have HB5 : Hid (Below U.heap.size U w5) := hb5
    clear hrow hb5
    rename_i K1 hK1
    apply hK1
    clear hK1
    refine wp_seq ?_
    refine wp_cut (fun a' w' => ∃ g cap L xs, FrD w.heap.size (.slice (some ⟨g, 0, none⟩) L.length cap) a' ∧ Row w' (w.heap.size + 1 + 1) (.slice (some ⟨g, 0, none⟩) L.length cap) L xs ∧ (L.length ≤ cap ∧ L.length ≤ 8) ∧ Below U.heap.size U w') ?_ ?_
    · clear HR5 HB5 hcap hL L xs cap g w5
      intro a5 w5 ⟨g, cap, L, xs, hf5, hrow, ⟨hcap, hL⟩, hb5⟩
      obtain ⟨G, hg, e⟩ := act64 a5 hf5.d hf5.s
      obtain ⟨hz1, hz2, g2, g3, g4, g5⟩ := hf5
      rw [hg] at g2 g3 g4 g5
      clear hz1 hz2
      subst e
      clear hg
      rw [g2, g3, g4, g5]
      clear g2 g3 g4 g5
      have HR5 : Hid (Row w5 (w.heap.size + 1 + 1) (.slice (some ⟨g, 0, none⟩) L.length cap) L xs) := hrow
      have HB5 : Hid (Below U.heap.size U w5) := hb5
      have hba := HBA.out.later hb5
      have c0 := hba.c0
      have c1 := hba.c1
      clear hrow hb5 hba
      cases ht : tok s with
      | false =>
        have HT : Hid (tok s = false) := ht
        clear ht
        go_wp2_with fail
        refine (rtensor_to false (HA.out.later HB5.out) HT.out).mono ?_
        rintro e w6 ⟨rfl, hb6⟩
        have HR6 : Hid (Row w6 (w.heap.size + 1 + 1) (.slice (some ⟨g, 0, none⟩) L.length cap) L xs) := HR5.out.later hb6
        have HB6 : Hid (Below U.heap.size U w6) := Below.after HB5.out hb6
        clear hb6
        go_wp2
        go_ret
        exact ⟨_, L, rfl, HR6.out.intsL (by unfold big; omega), by omega, Below.after HB.out HB6.out⟩
      | true =>
        have HT : Hid (tok s = true) := ht
        obtain ⟨hs1, hs2, _, _⟩ := okd_parts (tok_okd ht)
        obtain ⟨hp1, hp2⟩ := tok_pos ht
        clear ht
        obtain ⟨aa, ac, ea⟩ := HA.out.1.shape
        obtain ⟨ba, bc, eb⟩ := HA.out.2.shape
        subst ea eb
        obtain ⟨m, hm⟩ : ∃ m, s.2.length = m := ⟨_, rfl⟩
        obtain ⟨k, hk⟩ : ∃ k, s.1.length = k := ⟨_, rfl⟩
        rw [hm] at c1 HA HBA hp1 hp2
        rw [hk] at c0 HA HBA hs1 hs2
        have HM : Hid (s.2.length = m) := hm
        have HK : Hid (s.1.length = k) := hk
        clear hm hk
        go_wp2_with fail
        refine (rtensor_to true (HA.out.later HB5.out) HT.out).mono ?_
        rintro e w6 ⟨rfl, hb6⟩
        have HR6 : Hid (Row w6 (w.heap.size + 1 + 1) (.slice (some ⟨g, 0, none⟩) L.length cap) L xs) := HR5.out.later hb6
        have HB6 : Hid (Below U.heap.size U w6) := Below.after HB5.out hb6
        have hs6 := HB6.out.size
        have hba := HBA.out.later HB6.out
        have v0 := hba.c0
        have v1 := hba.c1
        have HA6 : Hid (Tens w6 (.slice aa k ac) (.slice ba m bc) s) := HA.out.later HB6.out
        clear hb6 hba c0 c1 HR5 HB5
        go_upto_region 5 with fail
        refine wp_cut (fun a' w' => ∃ g cap L xs, FrD w.heap.size (.slice (some ⟨g, 0, none⟩) L.length cap) a' ∧ Row w' (w.heap.size + 1 + 1) (.slice (some ⟨g, 0, none⟩) L.length cap) L xs ∧ (L.length ≤ cap ∧ L.length ≤ 10) ∧ Below U.heap.size U w') ?_ ?_
        · clear HR6 HB6 HA6 hs6 v0 v1 hcap hL L xs cap g w5 w6
          intro a5 w5 ⟨g, cap, L, xs, hf5, hrow, ⟨hcap, hL⟩, hb5⟩
          obtain ⟨G, hg, e⟩ := act64 a5 hf5.d hf5.s
          obtain ⟨hz1, hz2, g2, g3, g4, g5⟩ := hf5
          rw [hg] at g2 g3 g4 g5
          clear hz1 hz2
          subst e
          clear hg
          rw [g2, g3, g4, g5]
          clear g2 g3 g4 g5
          rename_i K2 hK2
          apply hK2
          clear hK2
          have HR5 : Hid (Row w5 (w.heap.size + 1 + 1) (.slice (some ⟨g, 0, none⟩) L.length cap) L xs) := hrow
          have HB5 : Hid (Below U.heap.size U w5) := hb5
          clear hrow hb5
          go_wp2
          go_loopw [5, 6] (fun l x w' => ∃ (i g cap : Nat) (L : List (List Int)) (xs : List Value), i ≤ k ∧ x = .int .i64 i ∧ l = .slice (some ⟨g, 0, none⟩) L.length cap ∧ Row w' (w.heap.size + 1 + 1) (.slice (some ⟨g, 0, none⟩) L.length cap) L xs ∧ (L.length ≤ cap ∧ L.length ≤ 10 + 2 * i) ∧ Below U.heap.size U w') (fun _ x _ => k - (intOf x).toNat)
          case atStart => exact ⟨0, g, cap, L, xs, by omega, rfl, rfl, HR5.out, ⟨hcap, by omega⟩, HB5.out⟩
          case round =>
            clear HR5 HB5 hcap hL L xs cap g w5
            obtain ⟨i, g, cap, L, xs, hi, rfl, rfl, hrow, ⟨hcap, hL⟩, hb⟩ := hrel
            have HRR : Hid (Row wr (w.heap.size + 1 + 1) (.slice (some ⟨g, 0, none⟩) L.length cap) L xs) := hrow
            have HBR : Hid (Below U.heap.size U wr) := hb
            have hbR := HBA.out.later hb
            have HBRR : Hid (Box wr (w.heap.size + 1) _ _) := hbR
            have c0 := hbR.c0
            have hsr := hb.size
            clear hrow hb
            by_cases hlt : i < k
            · obtain ⟨n, hn⟩ : ∃ n, L.length = n := ⟨_, rfl⟩
              have HLN : Hid (L.length = n) := hn
              rw [hn] at HRR hcap hL
              have HGR : Hid (g < wr.heap.size ∧ w.heap.size + 1 + 1 ≤ g) := ⟨(HRR.out.lt g rfl).2, (HRR.out.lt g rfl).1⟩
              have HWR : Hid (∀ W, Below wr.heap.size wr W → W.ownsRow (w.heap.size + 1 + 1) 23 1 (.slice (some ⟨g, 0, none⟩) n cap) n xs) := fun W hW => by
                have h := (HRR.out.later hW).own
                rw [HLN.out] at h
                exact h
              have hgr1 := HGR.out.1
              have hgr2 := HGR.out.2
              rw [hn]
              clear hn
              have hik : i < s.1.length := by rw [HK.out]; exact hlt
              go_wp2_with fail
              refine (copy_Own (HA.out.1.later HBR.out)).mono ?_
              rintro e w8 ⟨x, rfl, ho8, hb8⟩
              obtain ⟨gx, cx, ex, hcx, hgx1, hgx2⟩ := ho8.form (by omega)
              rw [HK.out] at ex hcx
              subst ex
              obtain ⟨x1, x2, x3⟩ := ho8.put HK.out i hlt 1
              have hb8' : Below wr.heap.size wr (w8.setCell ⟨gx, i, none⟩ (.int .i64 1)) := hb8.setCell hgx1 _
              have HB8 : Hid (Below wr.heap.size wr (w8.setCell ⟨gx, i, none⟩ (.int .i64 1))) := hb8'
              have HX8 : Hid (Own (w8.setCell ⟨gx, i, none⟩ (.int .i64 1)) wr.heap.size (.slice (some ⟨gx, 0, none⟩) k cx) (s.1.set i 1)) := x3
              have c0' := (hbR.later hb8').c0
              have hs8 := hb8'.size
              have hgx3 : gx < (w8.setCell ⟨gx, i, none⟩ (.int .i64 1)).heap.size := by simpa using hgx2
              clear ho8 hb8 x3 hb8' c0 hbR
              go_wp2_with fail
              generalize (w8.setCell ⟨gx, i, none⟩ (.int .i64 1)) = V at HB8 HX8 c0' hs8 hgx3 ⊢
              refine (copy_Own (HA.out.1.later (Below.after HBR.out HB8.out))).mono ?_
              rintro e w10 ⟨y, rfl, ho10, hb10⟩
              obtain ⟨gy, cy, ey, hcy, hgy1, hgy2⟩ := ho10.form (by omega)
              rw [HK.out] at ey hcy
              subst ey
              have HB10 : Hid (Below wr.heap.size wr w10) := Below.after HB8.out hb10
              have HX10 : Hid (Ints w10 (.slice (some ⟨gx, 0, none⟩) k cx) (s.1.set i 1)) := HX8.out.ints.later hb10
              have HY10 : Hid (Own w10 V.heap.size (.slice (some ⟨gy, 0, none⟩) k cy) s.1) := ho10
              obtain ⟨y1, y2, _⟩ := ho10.put HK.out i hlt 3
              obtain ⟨z, hz⟩ : ∃ z, s.1.getD i 0 = z := ⟨_, rfl⟩
              rw [hz] at y1
              clear ho10 hb10 x1 x2 c0' hz
              by_cases hz1 : z = 1
              · have hq : (z == 1) = true := by simp [hz1]
                have HBW : Hid (Below wr.heap.size wr (w10.setCell ⟨gy, i, none⟩ (.int .i64 3))) := HB10.out.setCell (by simp; omega) _
                have HXW : Hid (Ints (w10.setCell ⟨gy, i, none⟩ (.int .i64 3)) (.slice (some ⟨gx, 0, none⟩) k cx) (s.1.set i 1)) := HX10.out.setCell _ _ (fun q hq => by simp [Value.ownBlock] at hq; simp; omega)
                have HYW : Hid (Ints (w10.setCell ⟨gy, i, none⟩ (.int .i64 3)) (.slice (some ⟨gy, 0, none⟩) k cy) (s.1.set i 3)) := (HY10.out.put HK.out i hlt 3).2.2.ints
                have hs10 := HB10.out.size
                clear hz1
                go_wp2_with (at_builtin; refine wpList_append_lies _ rfl _ _ 26 rfl (w.heap.size + 1 + 1) 23 i23 (.slice none 0 0) 1 24 Try.underlying26 HI.out HZ0.out HZ1.out HZ2.out rfl (by decide) _ n xs rfl ?own ⟨w10.heap.size, 0, none⟩ 2 2 [.slice (some ⟨gx, 0, none⟩) k cx, .slice (some ⟨gy, 0, none⟩) k cy] rfl rfl ?news two_one (by decide) ?c3 ?c4 ?c5 _ rfl ?_)
                case own => exact HWR.out _ (Below.push HBW.out _)
                case news => exact two_news _ _ _ _ (by simp)
                case c3 => unfold maxLen; omega
                case c4 => omega
                case c5 => simp; omega
                intro g' cap' w9 hown hgrow hat hlt'
                have hrr := (HRR.out.later (Below.push HBW.out _)).app2 (U := U) HLN.out (Elt.later (Below.push (Below.refl _ _) _) ⟨HXW.out, fun _ => by simp [Value.ownBlock]; omega⟩) (Elt.later (Below.push (Below.refl _ _) _) ⟨HYW.out, fun _ => by simp [Value.ownBlock]; omega⟩) hown hgrow (by simp) hat (Below.after HBR.out (Below.push HBW.out _)) (by omega)
                obtain ⟨⟨L', xs', hl', hr', hc'⟩, hb'⟩ := hrr
                have HR9 : Hid (Row w9 (w.heap.size + 1 + 1) (.slice (some ⟨g', 0, none⟩) L'.length cap') L' xs') := hr'
                have HB9 : Hid (Below U.heap.size U w9) := hb'
                have HL9 : Hid (L'.length = n + 2 ∧ L'.length ≤ cap') := ⟨hl', hc'⟩
                clear hown hgrow hat hlt' hr' hb' hl' hc' y1 y2
                go_wp2
                go_roundw
                case rel => exact ⟨i + 1, g', cap', L', xs', by omega, by go_num, by rw [HL9.out.1], HR9.out, ⟨HL9.out.2, by have := HL9.out.1; omega⟩, HB9.out⟩
                case measure => simp [intOf]; omega
              · have hq : (z == 1) = false := by simp [hz1]
                have HBW : Hid (Below wr.heap.size wr w10) := HB10.out
                have HXW : Hid (Ints w10 (.slice (some ⟨gx, 0, none⟩) k cx) (s.1.set i 1)) := HX10.out
                have HYW : Hid (Ints w10 (.slice (some ⟨gy, 0, none⟩) k cy) s.1) := HY10.out.ints
                have hs10 := HB10.out.size
                clear hz1
                go_wp2_with (at_builtin; refine wpList_append_lies _ rfl _ _ 26 rfl (w.heap.size + 1 + 1) 23 i23 (.slice none 0 0) 1 24 Try.underlying26 HI.out HZ0.out HZ1.out HZ2.out rfl (by decide) _ n xs rfl ?own ⟨w10.heap.size, 0, none⟩ 2 2 [.slice (some ⟨gx, 0, none⟩) k cx, .slice (some ⟨gy, 0, none⟩) k cy] rfl rfl ?news two_one (by decide) ?c3 ?c4 ?c5 _ rfl ?_)
                case own => exact HWR.out _ (Below.push HBW.out _)
                case news => exact two_news _ _ _ _ (by simp)
                case c3 => unfold maxLen; omega
                case c4 => omega
                case c5 => simp; omega
                intro g' cap' w9 hown hgrow hat hlt'
                have hrr := (HRR.out.later (Below.push HBW.out _)).app2 (U := U) HLN.out (Elt.later (Below.push (Below.refl _ _) _) ⟨HXW.out, fun _ => by simp [Value.ownBlock]; omega⟩) (Elt.later (Below.push (Below.refl _ _) _) ⟨HYW.out, fun _ => by simp [Value.ownBlock]; omega⟩) hown hgrow (by simp) hat (Below.after HBR.out (Below.push HBW.out _)) (by omega)
                obtain ⟨⟨L', xs', hl', hr', hc'⟩, hb'⟩ := hrr
                have HR9 : Hid (Row w9 (w.heap.size + 1 + 1) (.slice (some ⟨g', 0, none⟩) L'.length cap') L' xs') := hr'
                have HB9 : Hid (Below U.heap.size U w9) := hb'
                have HL9 : Hid (L'.length = n + 2 ∧ L'.length ≤ cap') := ⟨hl', hc'⟩
                clear hown hgrow hat hlt' hr' hb' hl' hc' y1 y2
                go_wp2
                go_roundw
                case rel => exact ⟨i + 1, g', cap', L', xs', by omega, by go_num, by rw [HL9.out.1], HR9.out, ⟨HL9.out.2, by have := HL9.out.1; omega⟩, HB9.out⟩
                case measure => simp [intOf]; omega
            · have hi' : i = k := by omega
              go_wp2
              go_ret
              exact ⟨_, L, rfl, HRR.out.intsL (by unfold big; omega), by omega, Below.after HB.out HBR.out⟩
        · intro J K' hJ hK'
          have HJ : Hid _ := hJ
          have HK' : Hid _ := hK'
          clear hJ hK'
          obtain ⟨n, hn⟩ : ∃ n, L.length = n := ⟨_, rfl⟩
          have HLN : Hid (L.length = n) := hn
          rw [hn] at HR6 hcap hL ⊢
          clear hn
          have n1 := World.new_ne w6 _ v0
          have HG6 : Hid (g < w6.heap.size ∧ w.heap.size + 1 + 1 ≤ g) := ⟨(HR6.out.lt g rfl).2, (HR6.out.lt g rfl).1⟩
          have hg6 := HG6.out.1
          have hg7 := HG6.out.2
          have HW6 : Hid (∀ W, Below w6.heap.size w6 W → W.ownsRow (w.heap.size + 1 + 1) 23 1 (.slice (some ⟨g, 0, none⟩) n cap) n xs) := fun W hW => by
            have h := (HR6.out.later hW).own
            rw [HLN.out] at h
            exact h
          go_region_held_law (fun w' => w'.cell? ⟨w.heap.size + 1, 0, none⟩ = some (.slice aa k ac) ∧ w'.cell? ⟨w.heap.size + 1, 1, none⟩ = some (.slice ba m bc)) (go_keep)
            (first
              | (go_at_call 15; refine (copy_Own (d := s.1) ?_).mono ?_; exact Ints.later (Below.refl _ _).drew HA6.out.1; rintro e w7 ⟨x, rfl, ho7, hb7⟩; obtain ⟨xa, xn, xc, rfl⟩ := ho7.ints.shape3; have HO7 : Hid (Own w7 w6.heap.size (.slice xa xn xc) s.1) := ho7; have HQ7 : Hid (Below w6.heap.size w6 w7) := Below.after (Below.refl _ _).drew hb7; have a_0 := cell_later HQ7.out v0; have a_1 := cell_later HQ7.out v1; have hs7 := HQ7.out.size; clear ho7 hb7)
              | (go_at_call 15; refine (copy_Own (d := s.1) ?_).mono ?_; exact Ints.later (Below.push (Below.refl _ _) _).drew HA6.out.1; rintro e w7 ⟨x, rfl, ho7, hb7⟩; obtain ⟨xa, xn, xc, rfl⟩ := ho7.ints.shape3; have HO7 : Hid (Own w7 w6.heap.size (.slice xa xn xc) s.1) := ho7.mono (by simp); have HP7 : Hid (Blk w7 w6.heap.size [1, ((m : Int).tmod 9)]) := Blk.later (Blk.newer w6 [1, ((m : Int).tmod 9)] w6.heap.size rfl).drew hb7 (by simp); have HQ7 : Hid (Below w6.heap.size w6 w7) := Below.after (Below.push (Below.refl _ _) _).drew hb7; have a_0 := cell_later HQ7.out v0; have a_1 := cell_later HQ7.out v1; have hs7 := HQ7.out.size; clear ho7 hb7)
              | (refine step_append_lies _ rfl (.tmp 23) (.tmp 32) 26 rfl (w.heap.size + 1 + 1) 23 i23 (.slice none 0 0) 1 24 Try.underlying26 HI.out HZ0.out HZ1.out HZ2.out rfl (by decide) (.slice (some ⟨g, 0, none⟩) n cap) n xs rfl ?_ ⟨w7.heap.size, 0, none⟩ 2 2 [.slice (some ⟨w6.heap.size, 0, none⟩) 2 2, .slice xa xn xc] rfl rfl ?_ two_one (by decide) (by unfold maxLen; omega) (by omega) ?_ _ rfl ?_; exact HW6.out _ (Below.push HQ7.out _); exact two_news _ _ _ _ rfl; (simp only [World.size_alloc]; omega); intro g' cap' w9 hown hgrow hat hlt; have hrr := (HR6.out.later (Below.push HQ7.out _)).app2 (U := U) HLN.out (Elt.later (Below.push (Below.refl _ _) _) ⟨HP7.out.ints 2 2 rfl (Nat.le_refl _) (by decide), fun _ => by simp [Value.ownBlock]; omega⟩) (Elt.later (Below.push (Below.refl _ _) _) ⟨HO7.out.ints, fun _ e => absurd (HO7.out.frm g e) (by omega)⟩) hown hgrow rfl hat (Below.after HB6.out (Below.push HQ7.out _)) (by omega); have HR9 : Hid (∃ L' xs', L'.length = n + 2 ∧ Row w9 (w.heap.size + 1 + 1) (.slice (some ⟨g', 0, none⟩) L'.length cap') L' xs' ∧ L'.length ≤ cap') := hrr.1; have HB9 : Hid (Below U.heap.size U w9) := hrr.2; have b_0 := hgrow.cell (cell_later (Below.push (Below.refl _ _) _) a_0) (by simp [Value.ownBlock]; omega); have b_1 := hgrow.cell (cell_later (Below.push (Below.refl _ _) _) a_1) (by simp [Value.ownBlock]; omega); clear hrr hown hgrow hat)
              | (refine step_append_lies _ rfl (.tmp 23) (.tmp 32) 26 rfl (w.heap.size + 1 + 1) 23 i23 (.slice none 0 0) 1 24 Try.underlying26 HI.out HZ0.out HZ1.out HZ2.out rfl (by decide) (.slice (some ⟨g, 0, none⟩) n cap) n xs rfl ?_ ⟨w7.heap.size + 1, 0, none⟩ 2 2 [.slice (some ⟨w7.heap.size, 0, none⟩) 2 2, .slice xa xn xc] rfl rfl ?_ two_one (by decide) (by unfold maxLen; omega) (by omega) ?_ _ rfl ?_; exact HW6.out _ (Below.push (Below.push HQ7.out _) _); exact two_news _ _ _ _ (by simp); (simp only [World.size_alloc]; omega); intro g' cap' w9 hown hgrow hat hlt; have hrr := (HR6.out.later (Below.push (Below.push HQ7.out _) _)).app2 (U := U) HLN.out (Elt.later (Below.push (Below.refl _ _) _) ⟨(Blk.newer w7 [1, ((m : Int).tmod 9)] w7.heap.size rfl).ints 2 2 rfl (Nat.le_refl _) (by decide), fun _ => by simp [Value.ownBlock]; omega⟩) (Elt.later (Below.push (Below.push (Below.refl _ _) _) _) ⟨HO7.out.ints, fun _ e => absurd (HO7.out.frm g e) (by omega)⟩) hown hgrow rfl hat (Below.after HB6.out (Below.push (Below.push HQ7.out _) _)) (by omega); have HR9 : Hid (∃ L' xs', L'.length = n + 2 ∧ Row w9 (w.heap.size + 1 + 1) (.slice (some ⟨g', 0, none⟩) L'.length cap') L' xs' ∧ L'.length ≤ cap') := hrr.1; have HB9 : Hid (Below U.heap.size U w9) := hrr.2; have b_0 := hgrow.cell (cell_later (Below.push (Below.push (Below.refl _ _) _) _) a_0) (by simp [Value.ownBlock]; omega); have b_1 := hgrow.cell (cell_later (Below.push (Below.push (Below.refl _ _) _) _) a_1) (by simp [Value.ownBlock]; omega); clear hrr hown hgrow hat))
          · obtain ⟨L', xs', hl', hr', hc'⟩ := HR9.out
            refine HK'.out _ _ (Met.intro (HJ.out _ _ ⟨g', cap', L', xs', ?_, hr', ⟨hc', by omega⟩, HB9.out⟩))
            rw [hl']
            exact ⟨rfl, rfl, rfl, rfl, rfl, rfl⟩
          · obtain ⟨L', xs', hl', hr', hc'⟩ := HR9.out
            refine HK'.out _ _ (Met.intro (HJ.out _ _ ⟨g', cap', L', xs', ?_, hr', ⟨hc', by omega⟩, HB9.out⟩))
            rw [hl']
            exact ⟨rfl, rfl, rfl, rfl, rfl, rfl⟩
    · intro J K' hJ hK'
      have HJ : Hid _ := hJ
      have HK' : Hid _ := hK'
      clear hJ hK'
      obtain ⟨n, hn⟩ : ∃ n, L.length = n := ⟨_, rfl⟩
      have HLN : Hid (L.length = n) := hn
      rw [hn] at HR5 hcap hL ⊢
      clear hn
      by_cases h8 : 8 < n
      · have HR8 : Hid (Row w5 (w.heap.size + 1 + 1) (.slice (some ⟨g, 0, none⟩) 8 cap) (L.take 8) (xs.take 8)) := HR5.out.take 8 (by have := HLN.out; omega)
        have HL8 : Hid ((L.take 8).length = 8) := by show _ = _; rw [List.length_take, HLN.out]; omega
        go_wp2
        refine HK'.out _ _ (Met.intro (HJ.out _ _ ⟨g, cap, L.take 8, xs.take 8, ?_, ?_, ?_, HB5.out⟩))
        · rw [HL8.out]; exact ⟨rfl, rfl, rfl, rfl, rfl, rfl⟩
        · rw [HL8.out]; exact HR8.out
        · rw [HL8.out]; exact ⟨by omega, by omega⟩
      · go_wp2
        refine HK'.out _ _ (Met.intro (HJ.out _ _ ⟨g, cap, L, xs, ?_, ?_, ?_, HB5.out⟩))
        · rw [HLN.out]; exact ⟨rfl, rfl, rfl, rfl, rfl, rfl⟩
        · rw [HLN.out]; exact HR5.out
        · rw [HLN.out]; exact ⟨by omega, by omega⟩
  · intro J K' hJ hK'
    have HJ : Hid _ := hJ
    have HK' : Hid _ := hK'
    clear hJ hK'
    have HR : Hid (Row _ (w.heap.size + 1 + 1) _ _ _) := lit3_row U (w.heap.size + 1 + 1) (by omega) (w.heap.size + 1 + 1) hsU.symm
    have hvb : Below U.heap.size U ((((U.alloc (.cells #[.int .i64 1] 3)).alloc (.cells #[.int .i64 1, .int .i64 1] 3)).alloc (.cells #[] 3)).alloc (.cells #[.slice (some ⟨w.heap.size + 1 + 1, 0, none⟩) 1 1, .slice (some ⟨w.heap.size + 1 + 1 + 1, 0, none⟩) 2 2, .slice (some ⟨w.heap.size + 1 + 1 + 1 + 1, 0, none⟩) 0 0] 23)) := Below.push (Below.push (Below.push (Below.push (Below.refl _ _) _) _) _) _
    have HVB : Hid (Below U.heap.size U _) := hvb
    have hcf2 := cell_later hvb hcf
    clear hvb hcf
    have hgt3 : ∀ k, (Value.slice (some ⟨w.heap.size + 1 + 1 + 1 + 1 + 1, 0, none⟩) 3 3).ownBlock = some k → U.heap.size ≤ k := fun k hk => by
      simp only [Value.ownBlock, Option.some.injEq] at hk
      omega
    have HG3 : Hid (∀ k, (Value.slice (some ⟨w.heap.size + 1 + 1 + 1 + 1 + 1, 0, none⟩) 3 3).ownBlock = some k → U.heap.size ≤ k) := hgt3
    clear hgt3
    rcases HN.out with rfl | ⟨ad, n, c, rfl⟩
    · go_wp2_with (at_builtin; refine wpList_append_own_none rfl _ _ 26 rfl (w.heap.size + 1 + 1) 23 i23 1 Try.underlying26 HI.out _ 3 _ rfl HR.out.own rfl ?_)
      exact HK'.out _ _ (Met.intro (HJ.out _ _ ⟨_, 3, [[1], [1, 1], []], _, ⟨rfl, rfl, rfl, rfl, rfl, rfl⟩, HR.out, ⟨by simp, by simp⟩, HVB.out⟩))
    · obtain ⟨hnD, news, hnl, hn1, hn2, hn3⟩ := HD.out.vals
      have HND : Hid (n = D.length) := hnD
      have hn300 : n ≤ 300 := by omega
      have HE : Hid (∀ i (h : i < D.length), ∃ y, news[i]? = some y ∧ Elt _ (Value.slice (some ⟨w.heap.size + 1 + 1 + 1 + 1 + 1, 0, none⟩) 3 3).ownBlock y D[i]) := fun i hi => by
        obtain ⟨y, hy, hy2⟩ := hn2 i hi
        exact ⟨y, hy, Elt.old hy2 HVB.out HG3.out⟩
      have HN1 : Hid (∀ j u, news[j]? = some u → U.cell? (ad.add j) = some u) := hn1
      have HN3 : Hid (∀ u ∈ news, u.oneCell' = true) := hn3
      have HNL : Hid (news.length = n * 1) := by show _ = _; omega
      clear hn1 hn2 hn3 hnD hnl
      go_wp2_with (at_builtin; refine wpList_append_own_at _ rfl _ _ 26 rfl (w.heap.size + 1 + 1) 23 i23 (.slice none 0 0) 1 24 Try.underlying26 HI.out HZ0.out HZ1.out HZ2.out rfl (by decide) _ 3 _ rfl HR.out.own ad n c news rfl HNL.out ?c1 HN3.out ?c3 ?c4 ?c5 ?_)
      case c1 => exact fun j u hj => cell_later HVB.out (HN1.out j u hj)
      case c3 => unfold maxLen; omega
      case c4 => omega
      case c5 => have := HVB.out.size; rw [hsU] at this; exact this
      intro v' w5 ho hg _ hat
      have hr5 := HR.out.appH (E := D) HND.out HE.out ho hg _ (by simp [hsU]) hat
      have HB5 : Hid (Below U.heap.size U w5) := HVB.out.grown hg HVB.out.size HG3.out
      obtain ⟨g, cap, ex, hcap, _, _⟩ := hr5.form (by simp)
      have HR5 : Hid (Row w5 (w.heap.size + 1 + 1) v' ([[1], [1, 1], []] ++ D) _) := hr5
      have HL5 : Hid (([[1], [1, 1], []] ++ D).length ≤ 303) := by show _ ≤ _; simp; omega
      have HC5 : Hid (([[1], [1, 1], []] ++ D).length ≤ cap) := hcap
      clear hr5 ho hg hat hcap
      generalize [[1], [1, 1], []] ++ D = L5 at ex HR5 HL5 HC5
      subst ex
      go_wp2
      exact HK'.out _ _ (Met.intro (HJ.out _ _ ⟨g, cap, L5, _, ⟨rfl, rfl, rfl, rfl, rfl, rfl⟩, HR5.out, ⟨HC5.out, HL5.out⟩, HB5.out⟩))
end Go.Proofs.Ytgedknmjenbacaa
