/- Contract: gate's Step, where it errs. -/
import Derived.Test.YtnphfepkjhlalaaG3
import Derived.Test.YtnphfepkjhlalaaD3
namespace Go.Proofs.Ytnphfepkjhlalaa
set_option linter.unusedVariables false
set_option linter.unusedSimpArgs false
open Go.RowKit
set_option maxRecDepth 100000 in
theorem lit57 (g : Nat → Value) : (g 0 :: g 1 :: g 2 :: g 3 :: g 4 :: g 5 :: g 6 :: g 7 :: g 8 :: g 9 :: g 10 :: g 11 :: g 12 :: g 13 :: g 14 :: g 15 :: g 16 :: g 17 :: g 18 :: g 19 :: g 20 :: g 21 :: g 22 :: g 23 :: g 24 :: g 25 :: g 26 :: g 27 :: g 28 :: g 29 :: g 30 :: g 31 :: g 32 :: g 33 :: g 34 :: g 35 :: g 36 :: g 37 :: g 38 :: g 39 :: g 40 :: g 41 :: g 42 :: g 43 :: g 44 :: g 45 :: g 46 :: g 47 :: g 48 :: g 49 :: g 50 :: g 51 :: g 52 :: g 53 :: g 54 :: g 55 :: g 56 :: []).toArray = ((List.range 57).map g).toArray := by rfl
set_option maxRecDepth 100000 in
theorem act57 (a : Act) (hd : a.defers = []) (hs : a.tmps.size = 57) : ∃ g : Nat → Value, (∀ i, a.tmps.getD i undef = g i) ∧ a = { tmps := (g 0 :: g 1 :: g 2 :: g 3 :: g 4 :: g 5 :: g 6 :: g 7 :: g 8 :: g 9 :: g 10 :: g 11 :: g 12 :: g 13 :: g 14 :: g 15 :: g 16 :: g 17 :: g 18 :: g 19 :: g 20 :: g 21 :: g 22 :: g 23 :: g 24 :: g 25 :: g 26 :: g 27 :: g 28 :: g 29 :: g 30 :: g 31 :: g 32 :: g 33 :: g 34 :: g 35 :: g 36 :: g 37 :: g 38 :: g 39 :: g 40 :: g 41 :: g 42 :: g 43 :: g 44 :: g 45 :: g 46 :: g 47 :: g 48 :: g 49 :: g 50 :: g 51 :: g 52 :: g 53 :: g 54 :: g 55 :: g 56 :: []).toArray, defers := [] } := by
  refine ⟨fun i => a.tmps.getD i undef, fun _ => rfl, ?_⟩
  have h := lit57 (fun i => a.tmps.getD i undef)
  have e : a.tmps = ((List.range 57).map (fun i => a.tmps.getD i undef)).toArray := by
    apply Array.ext
    · simp [hs]
    · intro i h1 h2
      simp [h1]
  exact (show a = Act.mk a.tmps a.defers from rfl).trans (by rw [hd]; exact congrArg (fun t => Act.mk t []) (e.trans h.symm))

set_option maxRecDepth 100000 in
theorem lit69 (g : Nat → Value) : (g 0 :: g 1 :: g 2 :: g 3 :: g 4 :: g 5 :: g 6 :: g 7 :: g 8 :: g 9 :: g 10 :: g 11 :: g 12 :: g 13 :: g 14 :: g 15 :: g 16 :: g 17 :: g 18 :: g 19 :: g 20 :: g 21 :: g 22 :: g 23 :: g 24 :: g 25 :: g 26 :: g 27 :: g 28 :: g 29 :: g 30 :: g 31 :: g 32 :: g 33 :: g 34 :: g 35 :: g 36 :: g 37 :: g 38 :: g 39 :: g 40 :: g 41 :: g 42 :: g 43 :: g 44 :: g 45 :: g 46 :: g 47 :: g 48 :: g 49 :: g 50 :: g 51 :: g 52 :: g 53 :: g 54 :: g 55 :: g 56 :: g 57 :: g 58 :: g 59 :: g 60 :: g 61 :: g 62 :: g 63 :: g 64 :: g 65 :: g 66 :: g 67 :: g 68 :: []).toArray = ((List.range 69).map g).toArray := by rfl
set_option maxRecDepth 100000 in
theorem act69 (a : Act) (hd : a.defers = []) (hs : a.tmps.size = 69) : ∃ g : Nat → Value, (∀ i, a.tmps.getD i undef = g i) ∧ a = { tmps := (g 0 :: g 1 :: g 2 :: g 3 :: g 4 :: g 5 :: g 6 :: g 7 :: g 8 :: g 9 :: g 10 :: g 11 :: g 12 :: g 13 :: g 14 :: g 15 :: g 16 :: g 17 :: g 18 :: g 19 :: g 20 :: g 21 :: g 22 :: g 23 :: g 24 :: g 25 :: g 26 :: g 27 :: g 28 :: g 29 :: g 30 :: g 31 :: g 32 :: g 33 :: g 34 :: g 35 :: g 36 :: g 37 :: g 38 :: g 39 :: g 40 :: g 41 :: g 42 :: g 43 :: g 44 :: g 45 :: g 46 :: g 47 :: g 48 :: g 49 :: g 50 :: g 51 :: g 52 :: g 53 :: g 54 :: g 55 :: g 56 :: g 57 :: g 58 :: g 59 :: g 60 :: g 61 :: g 62 :: g 63 :: g 64 :: g 65 :: g 66 :: g 67 :: g 68 :: []).toArray, defers := [] } := by
  refine ⟨fun i => a.tmps.getD i undef, fun _ => rfl, ?_⟩
  have h := lit69 (fun i => a.tmps.getD i undef)
  have e : a.tmps = ((List.range 69).map (fun i => a.tmps.getD i undef)).toArray := by
    apply Array.ext
    · simp [hs]
    · intro i h1 h2
      simp [h1]
  exact (show a = Act.mk a.tmps a.defers from rfl).trans (by rw [hd]; exact congrArg (fun t => Act.mk t []) (e.trans h.symm))

set_option maxRecDepth 100000 in
theorem lit44 (g : Nat → Value) : (g 0 :: g 1 :: g 2 :: g 3 :: g 4 :: g 5 :: g 6 :: g 7 :: g 8 :: g 9 :: g 10 :: g 11 :: g 12 :: g 13 :: g 14 :: g 15 :: g 16 :: g 17 :: g 18 :: g 19 :: g 20 :: g 21 :: g 22 :: g 23 :: g 24 :: g 25 :: g 26 :: g 27 :: g 28 :: g 29 :: g 30 :: g 31 :: g 32 :: g 33 :: g 34 :: g 35 :: g 36 :: g 37 :: g 38 :: g 39 :: g 40 :: g 41 :: g 42 :: g 43 :: []).toArray = ((List.range 44).map g).toArray := by rfl
set_option maxRecDepth 100000 in
theorem act44 (a : Act) (hd : a.defers = []) (hs : a.tmps.size = 44) : ∃ g : Nat → Value, (∀ i, a.tmps.getD i undef = g i) ∧ a = { tmps := (g 0 :: g 1 :: g 2 :: g 3 :: g 4 :: g 5 :: g 6 :: g 7 :: g 8 :: g 9 :: g 10 :: g 11 :: g 12 :: g 13 :: g 14 :: g 15 :: g 16 :: g 17 :: g 18 :: g 19 :: g 20 :: g 21 :: g 22 :: g 23 :: g 24 :: g 25 :: g 26 :: g 27 :: g 28 :: g 29 :: g 30 :: g 31 :: g 32 :: g 33 :: g 34 :: g 35 :: g 36 :: g 37 :: g 38 :: g 39 :: g 40 :: g 41 :: g 42 :: g 43 :: []).toArray, defers := [] } := by
  refine ⟨fun i => a.tmps.getD i undef, fun _ => rfl, ?_⟩
  have h := lit44 (fun i => a.tmps.getD i undef)
  have e : a.tmps = ((List.range 44).map (fun i => a.tmps.getD i undef)).toArray := by
    apply Array.ext
    · simp [hs]
    · intro i h1 h2
      simp [h1]
  exact (show a = Act.mk a.tmps a.defers from rfl).trans (by rw [hd]; exact congrArg (fun t => Act.mk t []) (e.trans h.symm))

set_option maxRecDepth 100000 in
theorem lit42 (g : Nat → Value) : (g 0 :: g 1 :: g 2 :: g 3 :: g 4 :: g 5 :: g 6 :: g 7 :: g 8 :: g 9 :: g 10 :: g 11 :: g 12 :: g 13 :: g 14 :: g 15 :: g 16 :: g 17 :: g 18 :: g 19 :: g 20 :: g 21 :: g 22 :: g 23 :: g 24 :: g 25 :: g 26 :: g 27 :: g 28 :: g 29 :: g 30 :: g 31 :: g 32 :: g 33 :: g 34 :: g 35 :: g 36 :: g 37 :: g 38 :: g 39 :: g 40 :: g 41 :: []).toArray = ((List.range 42).map g).toArray := by rfl
set_option maxRecDepth 100000 in
theorem act42 (a : Act) (hd : a.defers = []) (hs : a.tmps.size = 42) : ∃ g : Nat → Value, (∀ i, a.tmps.getD i undef = g i) ∧ a = { tmps := (g 0 :: g 1 :: g 2 :: g 3 :: g 4 :: g 5 :: g 6 :: g 7 :: g 8 :: g 9 :: g 10 :: g 11 :: g 12 :: g 13 :: g 14 :: g 15 :: g 16 :: g 17 :: g 18 :: g 19 :: g 20 :: g 21 :: g 22 :: g 23 :: g 24 :: g 25 :: g 26 :: g 27 :: g 28 :: g 29 :: g 30 :: g 31 :: g 32 :: g 33 :: g 34 :: g 35 :: g 36 :: g 37 :: g 38 :: g 39 :: g 40 :: g 41 :: []).toArray, defers := [] } := by
  refine ⟨fun i => a.tmps.getD i undef, fun _ => rfl, ?_⟩
  have h := lit42 (fun i => a.tmps.getD i undef)
  have e : a.tmps = ((List.range 42).map (fun i => a.tmps.getD i undef)).toArray := by
    apply Array.ext
    · simp [hs]
    · intro i h1 h2
      simp [h1]
  exact (show a = Act.mk a.tmps a.defers from rfl).trans (by rw [hd]; exact congrArg (fun t => Act.mk t []) (e.trans h.symm))


set_option maxRecDepth 100000 in
set_option maxHeartbeats 2000000 in
theorem step_bad1 {a0 a1 b0 b1 : Value} {s t : Ten} {w : World} (ha : Tens w a0 a1 s) (ht : Tens w b0 b1 t) (hx : tok s = false) :
    Calls Try.prog 16 #[.agg #[a0, a1], .agg #[b0, b1]] w fun e w' => e = .returned (.tuple #[.agg #[.slice none 0 0, .slice none 0 0], .int .i64 1]) ∧ Below w.heap.size w w' := by
  obtain ⟨aa, an, ac, rfl⟩ := ha.1.shape3
  obtain ⟨ba, bn, bc, rfl⟩ := ha.2.shape3
  obtain ⟨ea, en, ec, rfl⟩ := ht.1.shape3
  obtain ⟨fa, fn, fc, rfl⟩ := ht.2.shape3
  obtain ⟨U, hU⟩ : ∃ U, U = ((((w.alloc (.cells #[(.slice aa an ac), (.slice ba bn bc)] 28)).alloc (.cells #[(.slice ea en ec), (.slice fa fn fc)] 28)).alloc (.cells #[.slice none 0 0, .slice none 0 0] 28)).alloc (.cells #[.slice none 0 0, .slice none 0 0] 28)) := ⟨_, rfl⟩
  have hb : Below w.heap.size w U := by rw [hU]; exact ((((Below.refl _ _).alloc (Nat.le_refl _) _).alloc (by simp) _).alloc (by simp; omega) _).alloc (by simp; omega) _
  have HA : Hid (Tens U (.slice aa an ac) (.slice ba bn bc) s) := ha.later hb
  have HT : Hid (Tens U (.slice ea en ec) (.slice fa fn fc) t) := ht.later hb
  have HB : Hid (Below w.heap.size w U) := hb
  have HBA : Hid (Box U w.heap.size (.slice aa an ac) (.slice ba bn bc)) := by show Box _ _ _ _; rw [hU]; exact (((Box.new w (.slice aa an ac) (.slice ba bn bc)).alloc _).alloc _).alloc _
  have HBB : Hid (Box U (w.heap.size + 1) (.slice ea en ec) (.slice fa fn fc)) := by
    show Box _ _ _ _
    have := ((Box.new (w.alloc (.cells #[(.slice aa an ac), (.slice ba bn bc)] 28)) (.slice ea en ec) (.slice fa fn fc)).alloc (.cells #[.slice none 0 0, .slice none 0 0] 28)).alloc (.cells #[.slice none 0 0, .slice none 0 0] 28)
    simp only [World.size_alloc] at this
    rw [hU]
    exact this
  have HBX : Hid (Box U (w.heap.size + 1 + 1) (.slice none 0 0) (.slice none 0 0)) := by
    show Box _ _ _ _
    have := (Box.new ((w.alloc (.cells #[(.slice aa an ac), (.slice ba bn bc)] 28)).alloc (.cells #[(.slice ea en ec), (.slice fa fn fc)] 28)) (.slice none 0 0) (.slice none 0 0)).alloc (.cells #[.slice none 0 0, .slice none 0 0] 28)
    simp only [World.size_alloc] at this
    rw [hU]
    exact this
  have HBT : Hid (Box U (w.heap.size + 1 + 1 + 1) (.slice none 0 0) (.slice none 0 0)) := by
    show Box _ _ _ _
    have := Box.new (((w.alloc (.cells #[(.slice aa an ac), (.slice ba bn bc)] 28)).alloc (.cells #[(.slice ea en ec), (.slice fa fn fc)] 28)).alloc (.cells #[.slice none 0 0, .slice none 0 0] 28)) (.slice none 0 0) (.slice none 0 0)
    simp only [World.size_alloc] at this
    rw [hU]
    exact this
  have hs0 : U.heap.size = w.heap.size + 1 + 1 + 1 + 1 := by rw [hU]; simp
  have k0 := HBA.out.c0
  have k1 := HBA.out.c1
  have HK : Hid (tkE s = 1) := by show _ = _; simp [tkE, hx]
  clear ha ht hb hx
  go_enter Try.func16, Try.ntmps16
  go_wp2_with fail
  refine wp_scope_jumps 0 (Jg 57 4 (w.heap.size + 1 + 1) w) (fun _ _ => 0) rfl ?_ ?_
  · go_wp2_with fail
    rw [← hU]
    clear hU
    refine (tensor_to 1 HA.out HK.out).mono ?_
    rintro e w2 ⟨rfl, hb2⟩
    have HB2 : Hid (Below w.heap.size w w2) := Below.after HB.out hb2
    have HBX2 : Hid (Box w2 (w.heap.size + 1 + 1) (.slice none 0 0) (.slice none 0 0)) := HBX.out.later hb2
    clear hb2
    go_wp2
    go_step3
    exact ⟨rfl, rfl, rfl, rfl, HBX2.out, HB2.out⟩
  · rintro a w' ⟨hd, hs, h4, hbx, hbe⟩
    obtain ⟨G, hg, e⟩ := act57 a hd hs
    rw [hg] at h4
    subst e
    rw [h4]
    have l0 := hbx.c0
    have l1 := hbx.c1
    have m0 := hbx.f 0
    have m1 := hbx.f 1
    have HBS : Hid (Box _ _ _ _) := hbx.set (.slice none 0 0) (.slice none 0 0)
    have HBE : Hid (Below w.heap.size w w') := hbe
    clear hg hd hs hbx h4 hbe
    go_wp2
    rw [jump_ret]
    have hr0 := HBS.out.c0
    have hr1 := HBS.out.c1
    exact bodyPost_ret (v := .tuple #[.agg #[.slice none 0 0, .slice none 0 0], .int .i64 1]) (by simp [results, Try.results16, go_sem, hr0, hr1]) rfl ⟨rfl, (HBE.out.setCell (by simp; omega) _).setCell (by simp; omega) _⟩

set_option maxRecDepth 100000 in
set_option maxHeartbeats 2000000 in
theorem step_bad2 {a0 a1 b0 b1 : Value} {s t : Ten} {w : World} (ha : Tens w a0 a1 s) (ht : Tens w b0 b1 t) (hx : tok s = true) (hy : tok t = false) :
    Calls Try.prog 16 #[.agg #[a0, a1], .agg #[b0, b1]] w fun e w' => e = .returned (.tuple #[.agg #[.slice none 0 0, .slice none 0 0], .int .i64 1]) ∧ Below w.heap.size w w' := by
  obtain ⟨aa, an, ac, rfl⟩ := ha.1.shape3
  obtain ⟨ba, bn, bc, rfl⟩ := ha.2.shape3
  obtain ⟨ea, en, ec, rfl⟩ := ht.1.shape3
  obtain ⟨fa, fn, fc, rfl⟩ := ht.2.shape3
  obtain ⟨U, hU⟩ : ∃ U, U = ((((w.alloc (.cells #[(.slice aa an ac), (.slice ba bn bc)] 28)).alloc (.cells #[(.slice ea en ec), (.slice fa fn fc)] 28)).alloc (.cells #[.slice none 0 0, .slice none 0 0] 28)).alloc (.cells #[.slice none 0 0, .slice none 0 0] 28)) := ⟨_, rfl⟩
  have hb : Below w.heap.size w U := by rw [hU]; exact ((((Below.refl _ _).alloc (Nat.le_refl _) _).alloc (by simp) _).alloc (by simp; omega) _).alloc (by simp; omega) _
  have HA : Hid (Tens U (.slice aa an ac) (.slice ba bn bc) s) := ha.later hb
  have HT : Hid (Tens U (.slice ea en ec) (.slice fa fn fc) t) := ht.later hb
  have HB : Hid (Below w.heap.size w U) := hb
  have HBA : Hid (Box U w.heap.size (.slice aa an ac) (.slice ba bn bc)) := by show Box _ _ _ _; rw [hU]; exact (((Box.new w (.slice aa an ac) (.slice ba bn bc)).alloc _).alloc _).alloc _
  have HBB : Hid (Box U (w.heap.size + 1) (.slice ea en ec) (.slice fa fn fc)) := by
    show Box _ _ _ _
    have := ((Box.new (w.alloc (.cells #[(.slice aa an ac), (.slice ba bn bc)] 28)) (.slice ea en ec) (.slice fa fn fc)).alloc (.cells #[.slice none 0 0, .slice none 0 0] 28)).alloc (.cells #[.slice none 0 0, .slice none 0 0] 28)
    simp only [World.size_alloc] at this
    rw [hU]
    exact this
  have HBX : Hid (Box U (w.heap.size + 1 + 1) (.slice none 0 0) (.slice none 0 0)) := by
    show Box _ _ _ _
    have := (Box.new ((w.alloc (.cells #[(.slice aa an ac), (.slice ba bn bc)] 28)).alloc (.cells #[(.slice ea en ec), (.slice fa fn fc)] 28)) (.slice none 0 0) (.slice none 0 0)).alloc (.cells #[.slice none 0 0, .slice none 0 0] 28)
    simp only [World.size_alloc] at this
    rw [hU]
    exact this
  have HBT : Hid (Box U (w.heap.size + 1 + 1 + 1) (.slice none 0 0) (.slice none 0 0)) := by
    show Box _ _ _ _
    have := Box.new (((w.alloc (.cells #[(.slice aa an ac), (.slice ba bn bc)] 28)).alloc (.cells #[(.slice ea en ec), (.slice fa fn fc)] 28)).alloc (.cells #[.slice none 0 0, .slice none 0 0] 28)) (.slice none 0 0) (.slice none 0 0)
    simp only [World.size_alloc] at this
    rw [hU]
    exact this
  have hs0 : U.heap.size = w.heap.size + 1 + 1 + 1 + 1 := by rw [hU]; simp
  have k0 := HBA.out.c0
  have k1 := HBA.out.c1
  have HK : Hid (tkE s = 0) := by show _ = _; simp [tkE, hx]
  have HK2 : Hid (tkE t = 1) := by show _ = _; simp [tkE, hy]
  clear ha ht hb hx hy
  go_enter Try.func16, Try.ntmps16
  go_wp2_with fail
  refine wp_scope_jumps 0 (Jg 57 4 (w.heap.size + 1 + 1) w) (fun _ _ => 0) rfl ?_ ?_
  · go_wp2_with fail
    rw [← hU]
    clear hU
    refine (tensor_to 0 HA.out HK.out).mono ?_
    rintro e w2 ⟨rfl, hb2⟩
    have HA2 : Hid (Tens w2 _ _ t) := HT.out.later hb2
    have HU2 : Hid (Below U.heap.size U w2) := hb2
    have q0 := (HBB.out.later hb2).c0
    have q1 := (HBB.out.later hb2).c1
    clear hb2 k0 k1
    go_wp2_with fail
    refine (tensor_to 1 HA2.out HK2.out).mono ?_
    rintro e w3 ⟨rfl, hb3⟩
    have HU3 : Hid (Below U.heap.size U w3) := Below.after HU2.out hb3
    have HB3 : Hid (Below w.heap.size w w3) := Below.after HB.out HU3.out
    have HBX3 : Hid (Box w3 (w.heap.size + 1 + 1) (.slice none 0 0) (.slice none 0 0)) := HBX.out.later HU3.out
    clear hb3 q0 q1
    go_wp2
    go_step3
    exact ⟨rfl, rfl, rfl, rfl, HBX3.out, HB3.out⟩
  · rintro a w' ⟨hd, hs, h4, hbx, hbe⟩
    obtain ⟨G, hg, e⟩ := act57 a hd hs
    rw [hg] at h4
    subst e
    rw [h4]
    have l0 := hbx.c0
    have l1 := hbx.c1
    have m0 := hbx.f 0
    have m1 := hbx.f 1
    have HBS : Hid (Box _ _ _ _) := hbx.set (.slice none 0 0) (.slice none 0 0)
    have HBE : Hid (Below w.heap.size w w') := hbe
    clear hg hd hs hbx h4 hbe
    go_wp2
    rw [jump_ret]
    have hr0 := HBS.out.c0
    have hr1 := HBS.out.c1
    exact bodyPost_ret (v := .tuple #[.agg #[.slice none 0 0, .slice none 0 0], .int .i64 1]) (by simp [results, Try.results16, go_sem, hr0, hr1]) rfl ⟨rfl, (HBE.out.setCell (by simp; omega) _).setCell (by simp; omega) _⟩

set_option maxRecDepth 100000 in
set_option maxHeartbeats 2000000 in
theorem step_four {a0 a1 b0 b1 : Value} {s t : Ten} {w : World} (ha : Tens w a0 a1 s) (ht : Tens w b0 b1 t) (hx : tok s = true) (hy : tok t = true) (h4 : s.1 ≠ t.1) :
    Calls Try.prog 16 #[.agg #[a0, a1], .agg #[b0, b1]] w fun e w' => e = .returned (.tuple #[.agg #[.slice none 0 0, .slice none 0 0], .int .i64 4]) ∧ Below w.heap.size w w' := by
  obtain ⟨aa, an, ac, rfl⟩ := ha.1.shape3
  obtain ⟨ba, bn, bc, rfl⟩ := ha.2.shape3
  obtain ⟨ea, en, ec, rfl⟩ := ht.1.shape3
  obtain ⟨fa, fn, fc, rfl⟩ := ht.2.shape3
  obtain ⟨U, hU⟩ : ∃ U, U = ((((w.alloc (.cells #[(.slice aa an ac), (.slice ba bn bc)] 28)).alloc (.cells #[(.slice ea en ec), (.slice fa fn fc)] 28)).alloc (.cells #[.slice none 0 0, .slice none 0 0] 28)).alloc (.cells #[.slice none 0 0, .slice none 0 0] 28)) := ⟨_, rfl⟩
  have hb : Below w.heap.size w U := by rw [hU]; exact ((((Below.refl _ _).alloc (Nat.le_refl _) _).alloc (by simp) _).alloc (by simp; omega) _).alloc (by simp; omega) _
  have HA : Hid (Tens U (.slice aa an ac) (.slice ba bn bc) s) := ha.later hb
  have HT : Hid (Tens U (.slice ea en ec) (.slice fa fn fc) t) := ht.later hb
  have HB : Hid (Below w.heap.size w U) := hb
  have HBA : Hid (Box U w.heap.size (.slice aa an ac) (.slice ba bn bc)) := by show Box _ _ _ _; rw [hU]; exact (((Box.new w (.slice aa an ac) (.slice ba bn bc)).alloc _).alloc _).alloc _
  have HBB : Hid (Box U (w.heap.size + 1) (.slice ea en ec) (.slice fa fn fc)) := by
    show Box _ _ _ _
    have := ((Box.new (w.alloc (.cells #[(.slice aa an ac), (.slice ba bn bc)] 28)) (.slice ea en ec) (.slice fa fn fc)).alloc (.cells #[.slice none 0 0, .slice none 0 0] 28)).alloc (.cells #[.slice none 0 0, .slice none 0 0] 28)
    simp only [World.size_alloc] at this
    rw [hU]
    exact this
  have HBX : Hid (Box U (w.heap.size + 1 + 1) (.slice none 0 0) (.slice none 0 0)) := by
    show Box _ _ _ _
    have := (Box.new ((w.alloc (.cells #[(.slice aa an ac), (.slice ba bn bc)] 28)).alloc (.cells #[(.slice ea en ec), (.slice fa fn fc)] 28)) (.slice none 0 0) (.slice none 0 0)).alloc (.cells #[.slice none 0 0, .slice none 0 0] 28)
    simp only [World.size_alloc] at this
    rw [hU]
    exact this
  have HBT : Hid (Box U (w.heap.size + 1 + 1 + 1) (.slice none 0 0) (.slice none 0 0)) := by
    show Box _ _ _ _
    have := Box.new (((w.alloc (.cells #[(.slice aa an ac), (.slice ba bn bc)] 28)).alloc (.cells #[(.slice ea en ec), (.slice fa fn fc)] 28)).alloc (.cells #[.slice none 0 0, .slice none 0 0] 28)) (.slice none 0 0) (.slice none 0 0)
    simp only [World.size_alloc] at this
    rw [hU]
    exact this
  have hs0 : U.heap.size = w.heap.size + 1 + 1 + 1 + 1 := by rw [hU]; simp
  have k0 := HBA.out.c0
  have k1 := HBA.out.c1
  have HK : Hid (tkE s = 0) := by show _ = _; simp [tkE, hx]
  have HK2 : Hid (tkE t = 0) := by show _ = _; simp [tkE, hy]
  have HSB : Hid (smB s.1 t.1 = false) := by show _ = _; simp [smB, h4]
  have HSE : Hid (smE s.1 t.1 = 0) := by show _ = _; simp [smE, tok_okd hx, tok_okd hy]
  clear ha ht hb hx hy h4
  go_enter Try.func16, Try.ntmps16
  go_wp2_with fail
  refine wp_scope_jumps 1 (Jg 57 4 (w.heap.size + 1 + 1) w) (fun _ _ => 0) rfl ?_ ?_
  · go_wp2_with fail
    rw [← hU]
    clear hU
    refine (tensor_to 0 HA.out HK.out).mono ?_
    rintro e w2 ⟨rfl, hb2⟩
    have HA2 : Hid (Tens w2 _ _ t) := HT.out.later hb2
    have HU2 : Hid (Below U.heap.size U w2) := hb2
    have q0 := (HBB.out.later hb2).c0
    have q1 := (HBB.out.later hb2).c1
    clear hb2 k0 k1
    go_wp2_with fail
    refine (tensor_to 0 HA2.out HK2.out).mono ?_
    rintro e w3 ⟨rfl, hb3⟩
    have HU3 : Hid (Below U.heap.size U w3) := Below.after HU2.out hb3
    have HB3 : Hid (Below w.heap.size w w3) := Below.after HB.out HU3.out
    have HBX3 : Hid (Box w3 (w.heap.size + 1 + 1) (.slice none 0 0) (.slice none 0 0)) := HBX.out.later HU3.out
    clear hb3 q0 q1
    have a0 := (HBA.out.later HU3.out).c0
    have a1 := (HBB.out.later HU3.out).c0
    go_wp2_with fail
    refine (same_to false 0 (HA.out.later HU3.out).1 (HT.out.later HU3.out).1 HSB.out HSE.out).mono ?_
    rintro e w4 ⟨rfl, hw4⟩
    subst w4
    go_wp2
    go_step3
    exact ⟨rfl, rfl, rfl, rfl, HBX3.out, HB3.out⟩
  · rintro a w' ⟨hd, hs, h4, hbx, hbe⟩
    obtain ⟨G, hg, e⟩ := act57 a hd hs
    rw [hg] at h4
    subst e
    rw [h4]
    have l0 := hbx.c0
    have l1 := hbx.c1
    have m0 := hbx.f 0
    have m1 := hbx.f 1
    have HBS : Hid (Box _ _ _ _) := hbx.set (.slice none 0 0) (.slice none 0 0)
    have HBE : Hid (Below w.heap.size w w') := hbe
    clear hg hd hs hbx h4 hbe
    go_wp2
    rw [jump_ret]
    have hr0 := HBS.out.c0
    have hr1 := HBS.out.c1
    exact bodyPost_ret (v := .tuple #[.agg #[.slice none 0 0, .slice none 0 0], .int .i64 4]) (by simp [results, Try.results16, go_sem, hr0, hr1]) rfl ⟨rfl, (HBE.out.setCell (by simp; omega) _).setCell (by simp; omega) _⟩

end Go.Proofs.Ytnphfepkjhlalaa
