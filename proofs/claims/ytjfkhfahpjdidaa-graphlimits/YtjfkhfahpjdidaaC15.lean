/- Carried: C16. -/
import Derived.Test.YtjfkhfahpjdidaaC14
namespace Go.Proofs.Ytjfkhfahpjdidaa
set_option linter.unusedVariables false
set_option linter.unusedSimpArgs false
set_option maxRecDepth 100000
open Go.RowKit

set_option maxRecDepth 100000 in
theorem lit57 (g : Nat → Value) : (g 0 :: g 1 :: g 2 :: g 3 :: g 4 :: g 5 :: g 6 :: g 7 :: g 8 :: g 9 :: g 10 :: g 11 :: g 12 :: g 13 :: g 14 :: g 15 :: g 16 :: g 17 :: g 18 :: g 19 :: g 20 :: g 21 :: g 22 :: g 23 :: g 24 :: g 25 :: g 26 :: g 27 :: g 28 :: g 29 :: g 30 :: g 31 :: g 32 :: g 33 :: g 34 :: g 35 :: g 36 :: g 37 :: g 38 :: g 39 :: g 40 :: g 41 :: g 42 :: g 43 :: g 44 :: g 45 :: g 46 :: g 47 :: g 48 :: g 49 :: g 50 :: g 51 :: g 52 :: g 53 :: g 54 :: g 55 :: g 56 :: []).toArray = ((List.range 57).map g).toArray := by rfl
set_option maxRecDepth 100000 in
theorem act57 (a : Act) (hd : a.defers = []) (hs : a.tmps.size = 57) : ∃ g : Nat → Value, (∀ i, a.tmps.getD i undef = g i) ∧ a = { tmps := (g 0 :: g 1 :: g 2 :: g 3 :: g 4 :: g 5 :: g 6 :: g 7 :: g 8 :: g 9 :: g 10 :: g 11 :: g 12 :: g 13 :: g 14 :: g 15 :: g 16 :: g 17 :: g 18 :: g 19 :: g 20 :: g 21 :: g 22 :: g 23 :: g 24 :: g 25 :: g 26 :: g 27 :: g 28 :: g 29 :: g 30 :: g 31 :: g 32 :: g 33 :: g 34 :: g 35 :: g 36 :: g 37 :: g 38 :: g 39 :: g 40 :: g 41 :: g 42 :: g 43 :: g 44 :: g 45 :: g 46 :: g 47 :: g 48 :: g 49 :: g 50 :: g 51 :: g 52 :: g 53 :: g 54 :: g 55 :: g 56 :: []).toArray, defers := [] } := by
  refine ⟨fun i => a.tmps.getD i undef, fun _ => rfl, ?_⟩
  have h := lit57 (fun i => a.tmps.getD i undef)
  have e : a.tmps = ((List.range 57).map (fun i => a.tmps.getD i undef)).toArray := by
    apply Array.ext
    · simp [hs]
    · intro i h1 h2
      simp [h1]
  exact (show a = Act.mk a.tmps a.defers from rfl).trans (by rw [hd]; exact congrArg (fun t => Act.mk t []) (e.trans h.symm))
set_option maxRecDepth 100000 in
theorem lit69 (g : Nat → Value) : (g 0 :: g 1 :: g 2 :: g 3 :: g 4 :: g 5 :: g 6 :: g 7 :: g 8 :: g 9 :: g 10 :: g 11 :: g 12 :: g 13 :: g 14 :: g 15 :: g 16 :: g 17 :: g 18 :: g 19 :: g 20 :: g 21 :: g 22 :: g 23 :: g 24 :: g 25 :: g 26 :: g 27 :: g 28 :: g 29 :: g 30 :: g 31 :: g 32 :: g 33 :: g 34 :: g 35 :: g 36 :: g 37 :: g 38 :: g 39 :: g 40 :: g 41 :: g 42 :: g 43 :: g 44 :: g 45 :: g 46 :: g 47 :: g 48 :: g 49 :: g 50 :: g 51 :: g 52 :: g 53 :: g 54 :: g 55 :: g 56 :: g 57 :: g 58 :: g 59 :: g 60 :: g 61 :: g 62 :: g 63 :: g 64 :: g 65 :: g 66 :: g 67 :: g 68 :: []).toArray = ((List.range 69).map g).toArray := by rfl
set_option maxRecDepth 100000 in
theorem act69 (a : Act) (hd : a.defers = []) (hs : a.tmps.size = 69) : ∃ g : Nat → Value, (∀ i, a.tmps.getD i undef = g i) ∧ a = { tmps := (g 0 :: g 1 :: g 2 :: g 3 :: g 4 :: g 5 :: g 6 :: g 7 :: g 8 :: g 9 :: g 10 :: g 11 :: g 12 :: g 13 :: g 14 :: g 15 :: g 16 :: g 17 :: g 18 :: g 19 :: g 20 :: g 21 :: g 22 :: g 23 :: g 24 :: g 25 :: g 26 :: g 27 :: g 28 :: g 29 :: g 30 :: g 31 :: g 32 :: g 33 :: g 34 :: g 35 :: g 36 :: g 37 :: g 38 :: g 39 :: g 40 :: g 41 :: g 42 :: g 43 :: g 44 :: g 45 :: g 46 :: g 47 :: g 48 :: g 49 :: g 50 :: g 51 :: g 52 :: g 53 :: g 54 :: g 55 :: g 56 :: g 57 :: g 58 :: g 59 :: g 60 :: g 61 :: g 62 :: g 63 :: g 64 :: g 65 :: g 66 :: g 67 :: g 68 :: []).toArray, defers := [] } := by
  refine ⟨fun i => a.tmps.getD i undef, fun _ => rfl, ?_⟩
  have h := lit69 (fun i => a.tmps.getD i undef)
  have e : a.tmps = ((List.range 69).map (fun i => a.tmps.getD i undef)).toArray := by
    apply Array.ext
    · simp [hs]
    · intro i h1 h2
      simp [h1]
  exact (show a = Act.mk a.tmps a.defers from rfl).trans (by rw [hd]; exact congrArg (fun t => Act.mk t []) (e.trans h.symm))
set_option maxRecDepth 100000 in
theorem lit42 (g : Nat → Value) : (g 0 :: g 1 :: g 2 :: g 3 :: g 4 :: g 5 :: g 6 :: g 7 :: g 8 :: g 9 :: g 10 :: g 11 :: g 12 :: g 13 :: g 14 :: g 15 :: g 16 :: g 17 :: g 18 :: g 19 :: g 20 :: g 21 :: g 22 :: g 23 :: g 24 :: g 25 :: g 26 :: g 27 :: g 28 :: g 29 :: g 30 :: g 31 :: g 32 :: g 33 :: g 34 :: g 35 :: g 36 :: g 37 :: g 38 :: g 39 :: g 40 :: g 41 :: []).toArray = ((List.range 42).map g).toArray := by rfl
set_option maxRecDepth 100000 in
theorem act42 (a : Act) (hd : a.defers = []) (hs : a.tmps.size = 42) : ∃ g : Nat → Value, (∀ i, a.tmps.getD i undef = g i) ∧ a = { tmps := (g 0 :: g 1 :: g 2 :: g 3 :: g 4 :: g 5 :: g 6 :: g 7 :: g 8 :: g 9 :: g 10 :: g 11 :: g 12 :: g 13 :: g 14 :: g 15 :: g 16 :: g 17 :: g 18 :: g 19 :: g 20 :: g 21 :: g 22 :: g 23 :: g 24 :: g 25 :: g 26 :: g 27 :: g 28 :: g 29 :: g 30 :: g 31 :: g 32 :: g 33 :: g 34 :: g 35 :: g 36 :: g 37 :: g 38 :: g 39 :: g 40 :: g 41 :: []).toArray, defers := [] } := by
  refine ⟨fun i => a.tmps.getD i undef, fun _ => rfl, ?_⟩
  have h := lit42 (fun i => a.tmps.getD i undef)
  have e : a.tmps = ((List.range 42).map (fun i => a.tmps.getD i undef)).toArray := by
    apply Array.ext
    · simp [hs]
    · intro i h1 h2
      simp [h1]
  exact (show a = Act.mk a.tmps a.defers from rfl).trans (by rw [hd]; exact congrArg (fun t => Act.mk t []) (e.trans h.symm))
set_option maxRecDepth 100000 in
set_option maxHeartbeats 2000000 in
theorem step_bad1 {a0 a1 b0 b1 : Value} {s t : Ten} {w : World} (ha : Tens w a0 a1 s) (ht : Tens w b0 b1 t) (hx : tok s = false) :
    Calls Try.prog 64 #[.agg #[a0, a1], .agg #[b0, b1]] w fun e w' => e = .returned (.tuple #[.agg #[.slice none 0 0, .slice none 0 0], .int .i64 1]) ∧ Below w.heap.size w w' := by
  obtain ⟨aa, an, ac, rfl⟩ := ha.1.shape3
  obtain ⟨ba, bn, bc, rfl⟩ := ha.2.shape3
  obtain ⟨ea, en, ec, rfl⟩ := ht.1.shape3
  obtain ⟨fa, fn, fc, rfl⟩ := ht.2.shape3
  obtain ⟨U, hU⟩ : ∃ U, U = ((((w.alloc (.cells #[(.slice aa an ac), (.slice ba bn bc)] 70)).alloc (.cells #[(.slice ea en ec), (.slice fa fn fc)] 70)).alloc (.cells #[.slice none 0 0, .slice none 0 0] 70)).alloc (.cells #[.slice none 0 0, .slice none 0 0] 70)) := ⟨_, rfl⟩
  have hb : Below w.heap.size w U := by rw [hU]; exact ((((Below.refl _ _).alloc (Nat.le_refl _) _).alloc (by simp) _).alloc (by simp; omega) _).alloc (by simp; omega) _
  have HA : Hid (Tens U (.slice aa an ac) (.slice ba bn bc) s) := ha.later hb
  have HT : Hid (Tens U (.slice ea en ec) (.slice fa fn fc) t) := ht.later hb
  have HB : Hid (Below w.heap.size w U) := hb
  have HBA : Hid (Box U w.heap.size (.slice aa an ac) (.slice ba bn bc)) := by show Box _ _ _ _; rw [hU]; exact (((Box.new w (.slice aa an ac) (.slice ba bn bc)).alloc _).alloc _).alloc _
  have HBB : Hid (Box U (w.heap.size + 1) (.slice ea en ec) (.slice fa fn fc)) := by
    show Box _ _ _ _
    have := ((Box.new (w.alloc (.cells #[(.slice aa an ac), (.slice ba bn bc)] 70)) (.slice ea en ec) (.slice fa fn fc)).alloc (.cells #[.slice none 0 0, .slice none 0 0] 70)).alloc (.cells #[.slice none 0 0, .slice none 0 0] 70)
    simp only [World.size_alloc] at this
    rw [hU]
    exact this
  have HBX : Hid (Box U (w.heap.size + 1 + 1) (.slice none 0 0) (.slice none 0 0)) := by
    show Box _ _ _ _
    have := (Box.new ((w.alloc (.cells #[(.slice aa an ac), (.slice ba bn bc)] 70)).alloc (.cells #[(.slice ea en ec), (.slice fa fn fc)] 70)) (.slice none 0 0) (.slice none 0 0)).alloc (.cells #[.slice none 0 0, .slice none 0 0] 70)
    simp only [World.size_alloc] at this
    rw [hU]
    exact this
  have HBT : Hid (Box U (w.heap.size + 1 + 1 + 1) (.slice none 0 0) (.slice none 0 0)) := by
    show Box _ _ _ _
    have := Box.new (((w.alloc (.cells #[(.slice aa an ac), (.slice ba bn bc)] 70)).alloc (.cells #[(.slice ea en ec), (.slice fa fn fc)] 70)).alloc (.cells #[.slice none 0 0, .slice none 0 0] 70)) (.slice none 0 0) (.slice none 0 0)
    simp only [World.size_alloc] at this
    rw [hU]
    exact this
  have hs0 : U.heap.size = w.heap.size + 1 + 1 + 1 + 1 := by rw [hU]; simp
  have k0 := HBA.out.c0
  have k1 := HBA.out.c1
  have HK : Hid (tkE s = 1) := by show _ = _; simp [tkE, hx]
  clear ha ht hb hx
  go_enter Try.func64, Try.ntmps64
  go_wp2_with fail
  refine wp_scope_jumps 0 (Jg 57 4 (w.heap.size + 1 + 1) w) (fun _ _ => 0) rfl ?_ ?_
  · go_wp2_with fail
    rw [← hU]
    clear hU
    refine (tensor_to 1 HA.out HK.out).mono ?_
    rintro e w2 ⟨rfl, hb2⟩
    have HB2 : Hid (Below w.heap.size w w2) := Below.after HB.out hb2
    have HBX2 : Hid (Box w2 (w.heap.size + 1 + 1) (.slice none 0 0) (.slice none 0 0)) := HBX.out.later hb2
    clear hb2
    go_wp2
    go_step3
    exact ⟨rfl, rfl, rfl, rfl, HBX2.out, HB2.out⟩
  · rintro a w' ⟨hd, hs, h4, hbx, hbe⟩
    obtain ⟨G, hg, e⟩ := act57 a hd hs
    rw [hg] at h4
    subst e
    rw [h4]
    have l0 := hbx.c0
    have l1 := hbx.c1
    have m0 := hbx.f 0
    have m1 := hbx.f 1
    have HBS : Hid (Box _ _ _ _) := hbx.set (.slice none 0 0) (.slice none 0 0)
    have HBE : Hid (Below w.heap.size w w') := hbe
    clear hg hd hs hbx h4 hbe
    go_wp2
    rw [jump_ret]
    have hr0 := HBS.out.c0
    have hr1 := HBS.out.c1
    exact bodyPost_ret (v := .tuple #[.agg #[.slice none 0 0, .slice none 0 0], .int .i64 1]) (by simp [results, Try.results64, go_sem, hr0, hr1]) rfl ⟨rfl, (HBE.out.setCell (by simp; omega) _).setCell (by simp; omega) _⟩
set_option maxRecDepth 100000 in
set_option maxHeartbeats 2000000 in
theorem step_bad2 {a0 a1 b0 b1 : Value} {s t : Ten} {w : World} (ha : Tens w a0 a1 s) (ht : Tens w b0 b1 t) (hx : tok s = true) (hy : tok t = false) :
    Calls Try.prog 64 #[.agg #[a0, a1], .agg #[b0, b1]] w fun e w' => e = .returned (.tuple #[.agg #[.slice none 0 0, .slice none 0 0], .int .i64 1]) ∧ Below w.heap.size w w' := by
  obtain ⟨aa, an, ac, rfl⟩ := ha.1.shape3
  obtain ⟨ba, bn, bc, rfl⟩ := ha.2.shape3
  obtain ⟨ea, en, ec, rfl⟩ := ht.1.shape3
  obtain ⟨fa, fn, fc, rfl⟩ := ht.2.shape3
  obtain ⟨U, hU⟩ : ∃ U, U = ((((w.alloc (.cells #[(.slice aa an ac), (.slice ba bn bc)] 70)).alloc (.cells #[(.slice ea en ec), (.slice fa fn fc)] 70)).alloc (.cells #[.slice none 0 0, .slice none 0 0] 70)).alloc (.cells #[.slice none 0 0, .slice none 0 0] 70)) := ⟨_, rfl⟩
  have hb : Below w.heap.size w U := by rw [hU]; exact ((((Below.refl _ _).alloc (Nat.le_refl _) _).alloc (by simp) _).alloc (by simp; omega) _).alloc (by simp; omega) _
  have HA : Hid (Tens U (.slice aa an ac) (.slice ba bn bc) s) := ha.later hb
  have HT : Hid (Tens U (.slice ea en ec) (.slice fa fn fc) t) := ht.later hb
  have HB : Hid (Below w.heap.size w U) := hb
  have HBA : Hid (Box U w.heap.size (.slice aa an ac) (.slice ba bn bc)) := by show Box _ _ _ _; rw [hU]; exact (((Box.new w (.slice aa an ac) (.slice ba bn bc)).alloc _).alloc _).alloc _
  have HBB : Hid (Box U (w.heap.size + 1) (.slice ea en ec) (.slice fa fn fc)) := by
    show Box _ _ _ _
    have := ((Box.new (w.alloc (.cells #[(.slice aa an ac), (.slice ba bn bc)] 70)) (.slice ea en ec) (.slice fa fn fc)).alloc (.cells #[.slice none 0 0, .slice none 0 0] 70)).alloc (.cells #[.slice none 0 0, .slice none 0 0] 70)
    simp only [World.size_alloc] at this
    rw [hU]
    exact this
  have HBX : Hid (Box U (w.heap.size + 1 + 1) (.slice none 0 0) (.slice none 0 0)) := by
    show Box _ _ _ _
    have := (Box.new ((w.alloc (.cells #[(.slice aa an ac), (.slice ba bn bc)] 70)).alloc (.cells #[(.slice ea en ec), (.slice fa fn fc)] 70)) (.slice none 0 0) (.slice none 0 0)).alloc (.cells #[.slice none 0 0, .slice none 0 0] 70)
    simp only [World.size_alloc] at this
    rw [hU]
    exact this
  have HBT : Hid (Box U (w.heap.size + 1 + 1 + 1) (.slice none 0 0) (.slice none 0 0)) := by
    show Box _ _ _ _
    have := Box.new (((w.alloc (.cells #[(.slice aa an ac), (.slice ba bn bc)] 70)).alloc (.cells #[(.slice ea en ec), (.slice fa fn fc)] 70)).alloc (.cells #[.slice none 0 0, .slice none 0 0] 70)) (.slice none 0 0) (.slice none 0 0)
    simp only [World.size_alloc] at this
    rw [hU]
    exact this
  have hs0 : U.heap.size = w.heap.size + 1 + 1 + 1 + 1 := by rw [hU]; simp
  have k0 := HBA.out.c0
  have k1 := HBA.out.c1
  have HK : Hid (tkE s = 0) := by show _ = _; simp [tkE, hx]
  have HK2 : Hid (tkE t = 1) := by show _ = _; simp [tkE, hy]
  clear ha ht hb hx hy
  go_enter Try.func64, Try.ntmps64
  go_wp2_with fail
  refine wp_scope_jumps 0 (Jg 57 4 (w.heap.size + 1 + 1) w) (fun _ _ => 0) rfl ?_ ?_
  · go_wp2_with fail
    rw [← hU]
    clear hU
    refine (tensor_to 0 HA.out HK.out).mono ?_
    rintro e w2 ⟨rfl, hb2⟩
    have HA2 : Hid (Tens w2 _ _ t) := HT.out.later hb2
    have HU2 : Hid (Below U.heap.size U w2) := hb2
    have q0 := (HBB.out.later hb2).c0
    have q1 := (HBB.out.later hb2).c1
    clear hb2 k0 k1
    go_wp2_with fail
    refine (tensor_to 1 HA2.out HK2.out).mono ?_
    rintro e w3 ⟨rfl, hb3⟩
    have HU3 : Hid (Below U.heap.size U w3) := Below.after HU2.out hb3
    have HB3 : Hid (Below w.heap.size w w3) := Below.after HB.out HU3.out
    have HBX3 : Hid (Box w3 (w.heap.size + 1 + 1) (.slice none 0 0) (.slice none 0 0)) := HBX.out.later HU3.out
    clear hb3 q0 q1
    go_wp2
    go_step3
    exact ⟨rfl, rfl, rfl, rfl, HBX3.out, HB3.out⟩
  · rintro a w' ⟨hd, hs, h4, hbx, hbe⟩
    obtain ⟨G, hg, e⟩ := act57 a hd hs
    rw [hg] at h4
    subst e
    rw [h4]
    have l0 := hbx.c0
    have l1 := hbx.c1
    have m0 := hbx.f 0
    have m1 := hbx.f 1
    have HBS : Hid (Box _ _ _ _) := hbx.set (.slice none 0 0) (.slice none 0 0)
    have HBE : Hid (Below w.heap.size w w') := hbe
    clear hg hd hs hbx h4 hbe
    go_wp2
    rw [jump_ret]
    have hr0 := HBS.out.c0
    have hr1 := HBS.out.c1
    exact bodyPost_ret (v := .tuple #[.agg #[.slice none 0 0, .slice none 0 0], .int .i64 1]) (by simp [results, Try.results64, go_sem, hr0, hr1]) rfl ⟨rfl, (HBE.out.setCell (by simp; omega) _).setCell (by simp; omega) _⟩
set_option maxRecDepth 100000 in
set_option maxHeartbeats 2000000 in
theorem step_four {a0 a1 b0 b1 : Value} {s t : Ten} {w : World} (ha : Tens w a0 a1 s) (ht : Tens w b0 b1 t) (hx : tok s = true) (hy : tok t = true) (h4 : s.1 ≠ t.1) :
    Calls Try.prog 64 #[.agg #[a0, a1], .agg #[b0, b1]] w fun e w' => e = .returned (.tuple #[.agg #[.slice none 0 0, .slice none 0 0], .int .i64 4]) ∧ Below w.heap.size w w' := by
  obtain ⟨aa, an, ac, rfl⟩ := ha.1.shape3
  obtain ⟨ba, bn, bc, rfl⟩ := ha.2.shape3
  obtain ⟨ea, en, ec, rfl⟩ := ht.1.shape3
  obtain ⟨fa, fn, fc, rfl⟩ := ht.2.shape3
  obtain ⟨U, hU⟩ : ∃ U, U = ((((w.alloc (.cells #[(.slice aa an ac), (.slice ba bn bc)] 70)).alloc (.cells #[(.slice ea en ec), (.slice fa fn fc)] 70)).alloc (.cells #[.slice none 0 0, .slice none 0 0] 70)).alloc (.cells #[.slice none 0 0, .slice none 0 0] 70)) := ⟨_, rfl⟩
  have hb : Below w.heap.size w U := by rw [hU]; exact ((((Below.refl _ _).alloc (Nat.le_refl _) _).alloc (by simp) _).alloc (by simp; omega) _).alloc (by simp; omega) _
  have HA : Hid (Tens U (.slice aa an ac) (.slice ba bn bc) s) := ha.later hb
  have HT : Hid (Tens U (.slice ea en ec) (.slice fa fn fc) t) := ht.later hb
  have HB : Hid (Below w.heap.size w U) := hb
  have HBA : Hid (Box U w.heap.size (.slice aa an ac) (.slice ba bn bc)) := by show Box _ _ _ _; rw [hU]; exact (((Box.new w (.slice aa an ac) (.slice ba bn bc)).alloc _).alloc _).alloc _
  have HBB : Hid (Box U (w.heap.size + 1) (.slice ea en ec) (.slice fa fn fc)) := by
    show Box _ _ _ _
    have := ((Box.new (w.alloc (.cells #[(.slice aa an ac), (.slice ba bn bc)] 70)) (.slice ea en ec) (.slice fa fn fc)).alloc (.cells #[.slice none 0 0, .slice none 0 0] 70)).alloc (.cells #[.slice none 0 0, .slice none 0 0] 70)
    simp only [World.size_alloc] at this
    rw [hU]
    exact this
  have HBX : Hid (Box U (w.heap.size + 1 + 1) (.slice none 0 0) (.slice none 0 0)) := by
    show Box _ _ _ _
    have := (Box.new ((w.alloc (.cells #[(.slice aa an ac), (.slice ba bn bc)] 70)).alloc (.cells #[(.slice ea en ec), (.slice fa fn fc)] 70)) (.slice none 0 0) (.slice none 0 0)).alloc (.cells #[.slice none 0 0, .slice none 0 0] 70)
    simp only [World.size_alloc] at this
    rw [hU]
    exact this
  have HBT : Hid (Box U (w.heap.size + 1 + 1 + 1) (.slice none 0 0) (.slice none 0 0)) := by
    show Box _ _ _ _
    have := Box.new (((w.alloc (.cells #[(.slice aa an ac), (.slice ba bn bc)] 70)).alloc (.cells #[(.slice ea en ec), (.slice fa fn fc)] 70)).alloc (.cells #[.slice none 0 0, .slice none 0 0] 70)) (.slice none 0 0) (.slice none 0 0)
    simp only [World.size_alloc] at this
    rw [hU]
    exact this
  have hs0 : U.heap.size = w.heap.size + 1 + 1 + 1 + 1 := by rw [hU]; simp
  have k0 := HBA.out.c0
  have k1 := HBA.out.c1
  have HK : Hid (tkE s = 0) := by show _ = _; simp [tkE, hx]
  have HK2 : Hid (tkE t = 0) := by show _ = _; simp [tkE, hy]
  have HSB : Hid (smB s.1 t.1 = false) := by show _ = _; simp [smB, h4]
  have HSE : Hid (smE s.1 t.1 = 0) := by show _ = _; simp [smE, tok_okd hx, tok_okd hy]
  clear ha ht hb hx hy h4
  go_enter Try.func64, Try.ntmps64
  go_wp2_with fail
  refine wp_scope_jumps 1 (Jg 57 4 (w.heap.size + 1 + 1) w) (fun _ _ => 0) rfl ?_ ?_
  · go_wp2_with fail
    rw [← hU]
    clear hU
    refine (tensor_to 0 HA.out HK.out).mono ?_
    rintro e w2 ⟨rfl, hb2⟩
    have HA2 : Hid (Tens w2 _ _ t) := HT.out.later hb2
    have HU2 : Hid (Below U.heap.size U w2) := hb2
    have q0 := (HBB.out.later hb2).c0
    have q1 := (HBB.out.later hb2).c1
    clear hb2 k0 k1
    go_wp2_with fail
    refine (tensor_to 0 HA2.out HK2.out).mono ?_
    rintro e w3 ⟨rfl, hb3⟩
    have HU3 : Hid (Below U.heap.size U w3) := Below.after HU2.out hb3
    have HB3 : Hid (Below w.heap.size w w3) := Below.after HB.out HU3.out
    have HBX3 : Hid (Box w3 (w.heap.size + 1 + 1) (.slice none 0 0) (.slice none 0 0)) := HBX.out.later HU3.out
    clear hb3 q0 q1
    have a0 := (HBA.out.later HU3.out).c0
    have a1 := (HBB.out.later HU3.out).c0
    go_wp2_with fail
    refine (same_to false 0 (HA.out.later HU3.out).1 (HT.out.later HU3.out).1 HSB.out HSE.out).mono ?_
    rintro e w4 ⟨rfl, hw4⟩
    subst w4
    go_wp2
    go_step3
    exact ⟨rfl, rfl, rfl, rfl, HBX3.out, HB3.out⟩
  · rintro a w' ⟨hd, hs, h4, hbx, hbe⟩
    obtain ⟨G, hg, e⟩ := act57 a hd hs
    rw [hg] at h4
    subst e
    rw [h4]
    have l0 := hbx.c0
    have l1 := hbx.c1
    have m0 := hbx.f 0
    have m1 := hbx.f 1
    have HBS : Hid (Box _ _ _ _) := hbx.set (.slice none 0 0) (.slice none 0 0)
    have HBE : Hid (Below w.heap.size w w') := hbe
    clear hg hd hs hbx h4 hbe
    go_wp2
    rw [jump_ret]
    have hr0 := HBS.out.c0
    have hr1 := HBS.out.c1
    exact bodyPost_ret (v := .tuple #[.agg #[.slice none 0 0, .slice none 0 0], .int .i64 4]) (by simp [results, Try.results64, go_sem, hr0, hr1]) rfl ⟨rfl, (HBE.out.setCell (by simp; omega) _).setCell (by simp; omega) _⟩
/-- All that was there is as it was, but for blocks g and h. -/
structure Bu2 (g h : Nat) (w w' : World) : Prop where
  os : w'.os = w.os
  tape : w'.tape = w.tape
  output : w'.output = w.output
  size : w.heap.size ≤ w'.heap.size
  block : ∀ k, k < w.heap.size → k ≠ g → k ≠ h → w'.heap[k]? = w.heap[k]?
theorem Bu2.refl (g h : Nat) (w : World) : Bu2 g h w w := ⟨rfl, rfl, rfl, Nat.le_refl _, fun _ _ _ _ => rfl⟩
theorem Bu2.setCell {g h j : Nat} {w w' : World} (x : Bu2 g h w w') (u : Value) : Bu2 g h w (w'.setCell ⟨g, j, none⟩ u) :=
  ⟨x.os, x.tape, x.output, by simpa using x.size, fun k hk h1 h2 => (heap_setCell_other w' ⟨g, j, none⟩ k u h1).trans (x.block k hk h1 h2)⟩
theorem Bu2.moved {g h : Nat} {w w' : World} (x : Bu2 g h w w') (s : ByteArray) (q : Nat) : Bu2 g h w (w'.iterAt h s q) :=
  ⟨x.os, x.tape, x.output, by simpa [World.iterAt] using x.size, fun k hk h1 h2 => by simp only [World.iterAt, Array.getElem?_setIfInBounds]; rw [if_neg (fun e => h2 e.symm)]; exact x.block k hk h1 h2⟩
theorem Bu2.drew {g h : Nat} {w w' : World} (x : Bu2 g h w w') : Bu2 g h w w'.drew := ⟨x.os, x.tape, x.output, x.size, x.block⟩
theorem Bu2.drewN {g h : Nat} {w w' : World} (x : Bu2 g h w w') (n : Nat) : Bu2 g h w (w'.drewN n) := ⟨x.os, x.tape, x.output, x.size, x.block⟩
theorem Bu2.after {g h : Nat} {w w1 w2 : World} (x : Bu2 g h w w1) (hb : Below w1.heap.size w1 w2) : Bu2 g h w w2 :=
  ⟨hb.os.trans x.os, hb.tape.trans x.tape, hb.output.trans x.output, Nat.le_trans x.size hb.size, fun k hk h1 h2 => (hb.block k (Nat.lt_of_lt_of_le hk x.size)).trans (x.block k hk h1 h2)⟩
theorem Bu2.box {g h : Nat} {w w' : World} (x : Bu2 g h w w') {B : Nat} {u v : Value} (hb : Box w B u v) (h1 : B ≠ g) (h2 : B ≠ h) : Box w' B u v := (x.block B hb.lt h1 h2).trans hb
theorem Bu2.cell {g h : Nat} {w w' : World} {p : Addr} (x : Bu2 g h w w') (hl : p.block < w.heap.size) (h1 : p.block ≠ g) (h2 : p.block ≠ h) : w'.cell? p = w.cell? p := World.cell?_of_block (x.block _ hl h1 h2)
theorem Bu2.below {g h N : Nat} {w0 w w' : World} (x : Bu2 g h w w') (hb : Below N w0 w) (h1 : N ≤ g) (h2 : N ≤ h) (hM : N ≤ w.heap.size) : Below N w0 w' :=
  ⟨x.os.trans hb.os, x.tape.trans hb.tape, x.output.trans hb.output, Nat.le_trans hb.size x.size, fun k hk => (x.block k (by omega) (by omega) (by omega)).trans (hb.block k hk)⟩
theorem Own.form {w : World} {B : Nat} {v : Value} {d : List Int} (h : Own w B v d) (h1 : 1 ≤ d.length) : ∃ g cap, v = .slice (some ⟨g, 0, none⟩) d.length cap ∧ d.length ≤ cap ∧ B ≤ g ∧ g < w.heap.size := by
  rcases h.row.2 with ⟨_, e⟩ | ⟨g, cap, cur, hv, hB, hg, hc, _⟩
  · omega
  · exact ⟨g, cap, hv, hc, hB, (Array.getElem?_eq_some_iff.1 hg).1⟩
theorem It.g {w : World} {I k n : Nat} {g : Nat → Bool} (h : It w I (gT g n) k) (hk : k < n) (ty : TypeId) :
    (Instr.next (.pointer (some ⟨I, 0, none⟩)) true ty).run Try.prog w = .ok (.tuple #[.bool true, .int .i64 k, .int .i32 (if g k then 111 else 120)]) (w.iterAt I (gT g n) (k + 1)) := by
  have hs : k < (gT g n).size := by rw [gT_size]; exact hk
  obtain ⟨h1, h2⟩ := gB_get g n k hk hs
  exact h.nx hs _ h1 h2 ty
set_option maxRecDepth 100000 in
set_option maxHeartbeats 4000000 in
theorem step_ok {a0 a1 b0 b1 : Value} {s t : Ten} {w : World} (ha : Tens w a0 a1 s) (ht : Tens w b0 b1 t) (hf : fitE s t = 0) :
    Calls Try.prog 64 #[.agg #[a0, a1], .agg #[b0, b1]] w fun e w' => ∃ x0 x1, e = .returned (.tuple #[.agg #[x0, x1], .int .i64 0]) ∧ OwnT w' w.heap.size x0 x1 (s.1, List.zipWith opG s.2 t.2) ∧ Below w.heap.size w w' := by
  obtain ⟨hx, hy, hst⟩ := fit_zero hf
  obtain ⟨hlt, hl1, hl64⟩ := fit_lens hf
  have hpr : (prd s.1).toNat = s.2.length := by have := tok_len hx; omega
  obtain ⟨aa, ac, eaa⟩ := ha.1.shape
  have hd1 : 1 ≤ s.1.length := (okd_parts (tok_okd hx)).1
  subst eaa
  obtain ⟨ea, en, ec, rfl⟩ := ht.1.shape3
  have hbold := ht.2.old (by omega)
  have haold := ha.2.old hl1
  rcases ha.2.cases with ⟨e, _⟩ | ⟨ab, ao, acp, eA, _, hacp, _, HCA⟩
  · rw [e] at hl1; simp at hl1
  rcases ht.2.cases with ⟨e, _⟩ | ⟨bb, bo, bcp, eB, _, hbcp, _, HCB⟩
  · rw [e] at hlt; simp at hlt; omega
  subst eA eB
  have hbb : bb < w.heap.size := hbold bb rfl
  have hab : ab < w.heap.size := haold ab rfl
  obtain ⟨N, hN⟩ : ∃ N, s.2.length = N := ⟨_, rfl⟩
  obtain ⟨D, hD⟩ : ∃ D, s.1.length = D := ⟨_, rfl⟩
  rw [hN] at hlt hl1 hl64 hpr hacp
  rw [hlt] at hbcp
  have HCD : Hid (∀ i, i < N → w.cell? ⟨bb, bo + i, none⟩ = some (.int .i64 (t.2.getD i 0))) := fun i hi => Ints.cellD (n := 0) (c := 0) HCB i (by omega)
  have HPR : Hid ((prd s.1).toNat = N) := hpr
  have HNN : Hid (s.2.length = N ∧ t.2.length = N) := ⟨hN, hlt⟩
  have HOK : Hid (okd s.1 = true) := tok_okd hx
  rw [hN, hD] at ha
  rw [hlt] at ht
  rw [hN, hD, hlt]
  obtain ⟨U, hU⟩ : ∃ U, U = ((((w.alloc (.cells #[(.slice aa D ac), (.slice (some ⟨ab, ao, none⟩) N acp)] 70)).alloc (.cells #[(.slice ea en ec), (.slice (some ⟨bb, bo, none⟩) N bcp)] 70)).alloc (.cells #[.slice none 0 0, .slice none 0 0] 70)).alloc (.cells #[.slice none 0 0, .slice none 0 0] 70)) := ⟨_, rfl⟩
  have hb : Below w.heap.size w U := by rw [hU]; exact ((((Below.refl _ _).alloc (Nat.le_refl _) _).alloc (by simp) _).alloc (by simp; omega) _).alloc (by simp; omega) _
  have HA : Hid (Tens U (.slice aa D ac) (.slice (some ⟨ab, ao, none⟩) N acp) s) := ha.later hb
  have HT : Hid (Tens U (.slice ea en ec) (.slice (some ⟨bb, bo, none⟩) N bcp) t) := ht.later hb
  have HB : Hid (Below w.heap.size w U) := hb
  have HBA : Hid (Box U w.heap.size (.slice aa D ac) (.slice (some ⟨ab, ao, none⟩) N acp)) := by show Box _ _ _ _; rw [hU]; exact (((Box.new w (.slice aa D ac) (.slice (some ⟨ab, ao, none⟩) N acp)).alloc _).alloc _).alloc _
  have HBB : Hid (Box U (w.heap.size + 1) (.slice ea en ec) (.slice (some ⟨bb, bo, none⟩) N bcp)) := by
    show Box _ _ _ _
    have := ((Box.new (w.alloc (.cells #[(.slice aa D ac), (.slice (some ⟨ab, ao, none⟩) N acp)] 70)) (.slice ea en ec) (.slice (some ⟨bb, bo, none⟩) N bcp)).alloc (.cells #[.slice none 0 0, .slice none 0 0] 70)).alloc (.cells #[.slice none 0 0, .slice none 0 0] 70)
    simp only [World.size_alloc] at this
    rw [hU]
    exact this
  have HBX : Hid (Box U (w.heap.size + 1 + 1) (.slice none 0 0) (.slice none 0 0)) := by
    show Box _ _ _ _
    have := (Box.new ((w.alloc (.cells #[(.slice aa D ac), (.slice (some ⟨ab, ao, none⟩) N acp)] 70)).alloc (.cells #[(.slice ea en ec), (.slice (some ⟨bb, bo, none⟩) N bcp)] 70)) (.slice none 0 0) (.slice none 0 0)).alloc (.cells #[.slice none 0 0, .slice none 0 0] 70)
    simp only [World.size_alloc] at this
    rw [hU]
    exact this
  have HBT : Hid (Box U (w.heap.size + 1 + 1 + 1) (.slice none 0 0) (.slice none 0 0)) := by
    show Box _ _ _ _
    have := Box.new (((w.alloc (.cells #[(.slice aa D ac), (.slice (some ⟨ab, ao, none⟩) N acp)] 70)).alloc (.cells #[(.slice ea en ec), (.slice (some ⟨bb, bo, none⟩) N bcp)] 70)).alloc (.cells #[.slice none 0 0, .slice none 0 0] 70)) (.slice none 0 0) (.slice none 0 0)
    simp only [World.size_alloc] at this
    rw [hU]
    exact this
  have hs0 : U.heap.size = w.heap.size + 1 + 1 + 1 + 1 := by rw [hU]; simp
  have k0 := HBA.out.c0
  have k1 := HBA.out.c1
  have HK : Hid (tkE s = 0) := by show _ = _; simp [tkE, hx]
  have HK2 : Hid (tkE t = 0) := by show _ = _; simp [tkE, hy]
  have HSB : Hid (smB s.1 t.1 = true) := by show _ = _; simp [smB, tok_okd hx, tok_okd hy, hst]
  have HSE : Hid (smE s.1 t.1 = 0) := by show _ = _; simp [smE, tok_okd hx, tok_okd hy]
  have HLG : Hid (lyG (abG s.2) (fun i => t.2.getD i 0) N N = List.zipWith opG s.2 t.2) := by
    show _ = _
    have := lyG_step s.2 t.2 (by omega)
    rw [hN] at this
    exact this
  have HD1 : Hid (s.1.length = D ∧ 1 ≤ D) := ⟨hD, by omega⟩
  clear ha ht hb hx hy hst hf hlt hpr hN hD HCA HCB hbold haold
  go_enter Try.func64, Try.ntmps64
  go_wp2_with fail
  refine wp_scope_jumps 0 (fun _ _ => False) (fun _ _ => 0) rfl ?_ ?_
  · go_wp2_with fail
    rw [← hU]
    clear hU
    refine (tensor_to 0 HA.out HK.out).mono ?_
    rintro e w2 ⟨rfl, hb2⟩
    have HA2 : Hid (Tens w2 _ _ t) := HT.out.later hb2
    have HU2 : Hid (Below U.heap.size U w2) := hb2
    have q0 := (HBB.out.later hb2).c0
    have q1 := (HBB.out.later hb2).c1
    clear hb2 k0 k1
    go_wp2_with fail
    refine (tensor_to 0 HA2.out HK2.out).mono ?_
    rintro e w3 ⟨rfl, hb3⟩
    have HU3 : Hid (Below U.heap.size U w3) := Below.after HU2.out hb3
    have HB3 : Hid (Below w.heap.size w w3) := Below.after HB.out HU3.out
    clear hb3 q0 q1
    have q2 := (HBA.out.later HU3.out).c0
    have q3 := (HBB.out.later HU3.out).c0
    go_wp2_with fail
    refine (same_to true 0 (HA.out.later HU3.out).1 (HT.out.later HU3.out).1 HSB.out HSE.out).mono ?_
    rintro e w4 ⟨rfl, hw4⟩
    subst w4
    go_wp2_with fail
    refine (fill_own 0 (HA.out.later HU3.out).1 HOK.out).mono ?_
    rw [HPR.out]
    rintro e w6 ⟨x0, b1, rfl, ho, hbk, ⟨hb1l, hap⟩, hb6⟩
    clear q2 q3
    have hs3 := HU3.out.size
    have hs6 := hb6.size
    obtain ⟨xg, xc, ex, hxc, hxg1, hxg2⟩ := ho.form (by rw [HD1.out.1]; exact HD1.out.2)
    rw [HD1.out.1] at ex
    subst ex
    have hxb : xg ≠ b1 := hap xg rfl
    have hb1w := hbk.lt
    have HU6 : Hid (Below U.heap.size U w6) := Below.after HU3.out hb6
    obtain ⟨V, hV⟩ : ∃ V, V = (w6.setCell ⟨w.heap.size + 1 + 1 + 1, 0, none⟩ (.slice (some ⟨xg, 0, none⟩) D xc)).setCell ⟨w.heap.size + 1 + 1 + 1, 1, none⟩ (.slice (some ⟨b1, 0, none⟩) N N) := ⟨_, rfl⟩
    have hsV : w6.heap.size ≤ V.heap.size ∧ V.heap.size ≤ w6.heap.size := by rw [hV]; simp
    obtain ⟨hsV1, hsV2⟩ := hsV
    have HBAV : Hid (Box V w.heap.size (.slice aa D ac) (.slice (some ⟨ab, ao, none⟩) N acp)) := by show Box _ _ _ _; rw [hV]; exact (HBA.out.later HU6.out).other2 _ _ (by omega)
    have HBBV : Hid (Box V (w.heap.size + 1) (.slice ea en ec) (.slice (some ⟨bb, bo, none⟩) N bcp)) := by show Box _ _ _ _; rw [hV]; exact (HBB.out.later HU6.out).other2 _ _ (by omega)
    have HBXV : Hid (Box V (w.heap.size + 1 + 1) (.slice none 0 0) (.slice none 0 0)) := by show Box _ _ _ _; rw [hV]; exact (HBX.out.later HU6.out).other2 _ _ (by omega)
    have HBTV : Hid (Box V (w.heap.size + 1 + 1 + 1) (.slice (some ⟨xg, 0, none⟩) D xc) (.slice (some ⟨b1, 0, none⟩) N N)) := by show Box _ _ _ _; rw [hV]; exact (HBT.out.later HU6.out).set _ _
    have HBV : Hid (Below w.heap.size w V) := by show Below _ _ _; rw [hV]; exact ((Below.after HB.out HU6.out).setCell (by simp; omega) _).setCell (by simp; omega) _
    have HOV : Hid (Own V (w.heap.size + 1 + 1 + 1 + 1) (.slice (some ⟨xg, 0, none⟩) D xc) s.1) := by
      show Own _ _ _ _
      rw [hV]
      exact ((ho.mono (by omega)).setCell _ _ (fun k hk => by have := ho.frm k hk; simp; omega)).setCell _ _ (fun k hk => by have := ho.frm k hk; simp; omega)
    have HKV : Hid (Blk V b1 (lyG (abG s.2) (fun i => t.2.getD i 0) N 0)) := by
      show Blk _ _ _
      rw [hV, lyG_zero]
      exact (hbk.setOther _ _ (by simp; omega)).setOther _ _ (by simp; omega)
    have HAV : Hid (Ints V (.slice (some ⟨ab, ao, none⟩) N acp) s.2) := by
      show Ints _ _ _
      rw [hV]
      exact ((HA.out.later HU6.out).2.setCell _ _ (fun k hk => by simp [Value.ownBlock] at hk; simp; omega)).setCell _ _ (fun k hk => by simp [Value.ownBlock] at hk; simp; omega)
    have z0 := (HBT.out.later HU6.out).c0
    have z1 := (HBT.out.later HU6.out).c1
    have z2 := (HBT.out.later HU6.out).f 0
    have z3 := (HBT.out.later HU6.out).f 1
    have z4 := HBAV.out.c1
    rw [hV] at z4
    clear ho hbk hap hb6
    go_wp2_with fail
    rw [← hV]
    clear hV z0 z1 z2 z3 z4
    refine (above_any HAV.out (by rw [HNN.out.1]; exact hl1) (by rw [HNN.out.1]; exact hl64)).mono ?_
    rw [HNN.out.1]
    rintro e w7 ⟨rfl, hw7⟩
    subst w7
    go_wp2
    have hsB := HBV.out.size
    go_loopw [] (fun w' => ∃ j : Nat, j ≤ N ∧ Blk w' b1 (lyG (abG s.2) (fun i => t.2.getD i 0) N j) ∧ It w' V.heap.size (abT s.2 N) j ∧ Bu2 b1 V.heap.size (V.iter (abT s.2 N) 0) w') (fun w' => N - w'.iterPos V.heap.size)
    case atStart => exact ⟨0, by omega, HKV.out.alloc _, It.new _ _ _, Bu2.refl _ _ _⟩
    case round =>
      obtain ⟨j, hj, hB, hI, hbu⟩ := hrel
      have HP : Hid (wr.iterPos V.heap.size = j) := hI.pos
      have hsr := hbu.size
      rw [iter_alloc, World.size_alloc] at hsr
      have HBU : Hid (Bu2 b1 V.heap.size (V.iter (abT s.2 N) 0) wr) := hbu
      have HKR : Hid (Blk wr b1 (lyG (abG s.2) (fun i => t.2.getD i 0) N j)) := hB
      have HIR : Hid (It wr V.heap.size (abT s.2 N) j) := hI
      clear hB hI hbu
      by_cases hlt : j < N
      · have hnx := fun ty => It.g (g := abG s.2) HIR.out hlt ty
        have HK1 : Hid (Blk (wr.iterAt V.heap.size (abT s.2 N) (j + 1)) b1 (lyG (abG s.2) (fun i => t.2.getD i 0) N j)) := HKR.out.moved (by omega) _ _
        have HI1 : Hid (It (wr.iterAt V.heap.size (abT s.2 N) (j + 1)) V.heap.size (abT s.2 N) (j + 1)) := HIR.out.moved _
        have HU1 : Hid (Bu2 b1 V.heap.size (V.iter (abT s.2 N) 0) (wr.iterAt V.heap.size (abT s.2 N) (j + 1))) := HBU.out.moved _ _
        obtain ⟨W1, hW1⟩ : ∃ W1, wr.iterAt V.heap.size (abT s.2 N) (j + 1) = W1 := ⟨_, rfl⟩
        rw [show gT (abG s.2) N = abT s.2 N from rfl, hW1] at hnx
        rw [hW1] at HK1 HI1 HU1
        obtain ⟨g, hg⟩ : ∃ g, abG s.2 j = g := ⟨_, rfl⟩
        rw [hg] at hnx
        cases g with
        | false =>
          have HS : Hid (lyG (abG s.2) (fun i => t.2.getD i 0) N j = lyG (abG s.2) (fun i => t.2.getD i 0) N (j + 1)) := lyG_off _ _ _ _ hg
          clear hW1 hg
          go_wp2_with (go_at_call 78; refine (opened_any false _).mono ?_; rintro e w' ⟨rfl, hw⟩; subst w')
          go_roundw
          case rel => exact ⟨j + 1, by omega, by rw [← HS.out]; exact HK1.out, HI1.out, HU1.out⟩
          case measure => rw [HI1.out.pos, HP.out]; omega
        | true =>
          have HS : Hid ((lyG (abG s.2) (fun i => t.2.getD i 0) N j).set j (t.2.getD j 0) = lyG (abG s.2) (fun i => t.2.getD i 0) N (j + 1)) := lyG_on _ _ _ _ hg
          have HBT1 : Hid (Box W1 (w.heap.size + 1 + 1 + 1) (.slice (some ⟨xg, 0, none⟩) D xc) (.slice (some ⟨b1, 0, none⟩) N N)) := HU1.out.box (HBTV.out.alloc _) (by omega) (by omega)
          have HBB1 : Hid (Box W1 (w.heap.size + 1) (.slice ea en ec) (.slice (some ⟨bb, bo, none⟩) N bcp)) := HU1.out.box (HBBV.out.alloc _) (by omega) (by omega)
          have v0 := HBT1.out.c1
          have v1 := HBB1.out.c1
          have v2 : W1.cell? ⟨bb, bo + j, none⟩ = some (.int .i64 (t.2.getD j 0)) := by
            refine (HU1.out.cell (p := ⟨bb, bo + j, none⟩) (by rw [iter_alloc, World.size_alloc]; simp; omega) (by simp; omega) (by simp; omega)).trans ?_
            exact (Below.cell (p := ⟨bb, bo + j, none⟩) (Below.push HBV.out _) hbb).trans (HCD.out j hlt)
          obtain ⟨y, hy⟩ : ∃ y, t.2.getD j 0 = y := ⟨_, rfl⟩
          rw [hy] at v2 HS
          have hf := HK1.out.frozen j
          obtain ⟨xx, hc⟩ : ∃ x, W1.cell? ⟨b1, j, none⟩ = some x := ⟨_, HK1.out.cell j (by rw [lyG_length]; exact hlt)⟩
          have z4 : (0 : Int) ≤ (j : Int) := by omega
          have z5 : (j : Int) < N := by omega
          have y0 : b1 ≠ w.heap.size + 1 + 1 + 1 := by omega
          have y1 : w.heap.size + 1 + 1 + 1 ≠ b1 := by omega
          have y2 : b1 ≠ w.heap.size + 1 := by omega
          have y3 : w.heap.size + 1 ≠ b1 := by omega
          have y4 : b1 ≠ bb := by omega
          have y5 : bb ≠ b1 := by omega
          clear hW1 hg hy
          go_wp2_with (go_at_call 78; refine (opened_any true _).mono ?_; rintro e w' ⟨rfl, hw⟩; subst w')
          go_region_held3 (fun w' => w'.cell? ⟨w.heap.size + 1 + 1 + 1, 1, none⟩ = some (.slice (some ⟨b1, 0, none⟩) N N) ∧ w'.cell? ⟨w.heap.size + 1, 1, none⟩ = some (.slice (some ⟨bb, bo, none⟩) N bcp) ∧ w'.cell? ⟨bb, bo + j, none⟩ = some (.int .i64 y)) (go_keep) (fail)
          go_wp2
          go_roundw
          case rel =>
            refine ⟨j + 1, by omega, ?_, ?_, ?_⟩
            · rw [← HS.out]
              exact HK1.out.set j y
            · exact HI1.out.set _ _ (by simp; omega)
            · exact (HU1.out.setCell (.int .i64 y)).drew
          case measure =>
            have hp := (HI1.out.set ⟨b1, j, none⟩ (.int .i64 y) (by simp; omega)).pos
            have hp2 : ((W1.setCell ⟨b1, j, none⟩ (.int .i64 y)).drew).iterPos V.heap.size = j + 1 := hp
            rw [hp2, HP.out]
            omega
      · have hj' : j = N := by omega
        subst hj'
        have hnd := fun ty => HIR.out.nd (abT_size _ _).symm ty
        have hbt := HBU.out.box (HBTV.out.alloc _) (by omega) (by omega)
        have t0 := hbt.c0
        have t1 := hbt.c1
        have hbx := HBU.out.box (HBXV.out.alloc _) (by omega) (by omega)
        have l0 := hbx.c0
        have l1 := hbx.c1
        have m0 := hbx.f 0
        have m1 := hbx.f 1
        have HBS : Hid (Box _ _ _ _) := hbx.set (.slice (some ⟨xg, 0, none⟩) D xc) (.slice (some ⟨b1, 0, none⟩) j j)
        have HO5 : Hid (Own wr (w.heap.size + 1 + 1 + 1 + 1) (.slice (some ⟨xg, 0, none⟩) D xc) s.1) := (HOV.out.later (Below.push (Below.refl _ _) _)).at fun k hk => by
          simp [Value.ownBlock] at hk
          exact HBU.out.block k (by rw [iter_alloc, World.size_alloc]; omega) (by omega) (by omega)
        have HK5 : Hid (Own wr (w.heap.size + 1 + 1 + 1 + 1) (.slice (some ⟨b1, 0, none⟩) j j) (List.zipWith opG s.2 t.2)) := by
          have h := HKR.out
          rw [HLG.out] at h
          have hz : (List.zipWith opG s.2 t.2).length = j := by rw [List.length_zipWith, HNN.out.1, HNN.out.2]; simp
          exact Blk.own h (by omega) hz.symm (by rw [hz]; unfold big; omega)
        have HBW : Hid (Below w.heap.size w wr) := HBU.out.below (Below.push HBV.out _) (by omega) (by omega) (by rw [iter_alloc, World.size_alloc]; omega)
        clear hbx hbt
        go_wp2
        rw [jump_ret]
        have hr0 := HBS.out.c0
        have hr1 := HBS.out.c1
        refine bodyPost_ret (v := .tuple #[.agg #[.slice (some ⟨xg, 0, none⟩) D xc, .slice (some ⟨b1, 0, none⟩) j j], .int .i64 0]) (by simp [results, Try.results64, go_sem, hr0, hr1]) rfl ⟨_, _, rfl, ?_, ?_⟩
        · have h1 : OwnT wr (w.heap.size + 1 + 1 + 1 + 1) (.slice (some ⟨xg, 0, none⟩) D xc) (.slice (some ⟨b1, 0, none⟩) j j) (s.1, List.zipWith opG s.2 t.2) := ⟨HO5.out, HK5.out, fun k hk e => by simp [Value.ownBlock] at hk e; omega⟩
          exact ((h1.setCell _ _ (by simp <;> omega)).setCell _ _ (by simp <;> omega)).mono (by omega)
        · exact (HBW.out.setCell (by simp <;> omega) _).setCell (by simp <;> omega) _
  · intro a w' h
    exact h.elim
theorem step_any {a0 a1 b0 b1 : Value} {s t : Ten} {w : World} (ha : Tens w a0 a1 s) (hb' : Tens w b0 b1 t) :
    Calls Try.prog 64 #[.agg #[a0, a1], .agg #[b0, b1]] w fun e w' => ∃ x0 x1, e = .returned (.tuple #[.agg #[x0, x1], .int .i64 (fitE s t)]) ∧ OwnT w' w.heap.size x0 x1 (eachR opG s t) ∧ Below w.heap.size w w' := by
  have bad : ∀ c : Int, c ≠ 0 → fitE s t = c → (Calls Try.prog 64 #[.agg #[a0, a1], .agg #[b0, b1]] w fun e w' => e = .returned (.tuple #[.agg #[.slice none 0 0, .slice none 0 0], .int .i64 c]) ∧ Below w.heap.size w w') →
      Calls Try.prog 64 #[.agg #[a0, a1], .agg #[b0, b1]] w fun e w' => ∃ x0 x1, e = .returned (.tuple #[.agg #[x0, x1], .int .i64 (fitE s t)]) ∧ OwnT w' w.heap.size x0 x1 (eachR opG s t) ∧ Below w.heap.size w w' := by
    intro c hc he h
    refine h.mono ?_
    rintro e w' ⟨rfl, hb⟩
    refine ⟨.slice none 0 0, .slice none 0 0, by rw [he], ?_, hb⟩
    rw [each_bad_eq he hc]
    exact OwnT.nil _ _
  cases hx : tok s with
  | false => exact bad 1 (by decide) (by simp [fitE, hx]) (step_bad1 ha hb' hx)
  | true =>
    cases hy : tok t with
    | false => exact bad 1 (by decide) (by simp [fitE, hy]) (step_bad2 ha hb' hx hy)
    | true =>
      by_cases h4 : s.1 = t.1
      · have hf : fitE s t = 0 := by simp [fitE, hx, hy, h4]
        rw [hf, each_ok_eq hf]
        exact step_ok ha hb' hf
      · exact bad 4 (by decide) (by simp [fitE, hx, hy, h4]) (step_four ha hb' hx hy h4)
theorem step_to {a0 a1 b0 b1 : Value} {s t : Ten} {w : World} (x : Int) (u : Ten) (ha : Tens w a0 a1 s) (hb' : Tens w b0 b1 t) (hx : fitE s t = x) (hu : eachR opG s t = u) :
    Calls Try.prog 64 #[.agg #[a0, a1], .agg #[b0, b1]] w fun e w' => ∃ x0 x1, e = .returned (.tuple #[.agg #[x0, x1], .int .i64 x]) ∧ OwnT w' w.heap.size x0 x1 u ∧ Below w.heap.size w w' := by
  subst hx hu
  exact step_any ha hb'
set_option maxRecDepth 100000 in
set_option maxHeartbeats 1000000 in
theorem relu_any {a0 a1 : Value} {s : Ten} {w : World} (ha : Tens w a0 a1 s) :
    Calls Try.prog 62 #[.agg #[a0, a1]] w fun e w' => ∃ x0 x1, e = .returned (.tuple #[.agg #[x0, x1], .int .i64 (tkE s)]) ∧ OwnT w' w.heap.size x0 x1 (eachR opG s s) ∧ Below w.heap.size w w' := by
  obtain ⟨aa, an, ac, rfl⟩ := ha.1.shape3
  obtain ⟨ba, bn, bc, rfl⟩ := ha.2.shape3
  have HS : Hid (fitE s s = tkE s) := fit_self
  obtain ⟨U, hU⟩ : ∃ U, U = ((w.alloc (.cells #[.slice aa an ac, .slice ba bn bc] 70)).alloc (.cells #[.slice none 0 0, .slice none 0 0] 70)) := ⟨_, rfl⟩
  have hb : Below w.heap.size w U := by rw [hU]; exact ((Below.refl _ _).alloc (Nat.le_refl _) _).alloc (by simp) _
  have HA : Hid (Tens U (.slice aa an ac) (.slice ba bn bc) s) := ha.later hb
  have HB : Hid (Below w.heap.size w U) := hb
  have HBA : Hid (Box U w.heap.size (.slice aa an ac) (.slice ba bn bc)) := by show Box _ _ _ _; rw [hU]; exact (Box.new w _ _).alloc _
  have HBX : Hid (Box U (w.heap.size + 1) (.slice none 0 0) (.slice none 0 0)) := by
    show Box _ _ _ _
    have := Box.new (w.alloc (.cells #[.slice aa an ac, .slice ba bn bc] 70)) (.slice none 0 0) (.slice none 0 0)
    simp only [World.size_alloc] at this
    rw [hU]
    exact this
  have hs0 : w.heap.size + 1 + 1 ≤ U.heap.size := by rw [hU]; simp
  clear ha hb
  go_enter Try.func62, Try.ntmps62
  go_wp2_with fail
  rw [← hU]
  clear hU
  refine (step_to (tkE s) (eachR opG s s) HA.out HA.out HS.out rfl).mono ?_
  rintro e w2 ⟨x0, x1, rfl, ho, hb2⟩
  obtain ⟨xa, xn, xc, rfl⟩ := ho.dims.ints.shape3
  obtain ⟨ya, yn, yc, rfl⟩ := ho.data.ints.shape3
  have hbx := HBX.out.later hb2
  have l0 := hbx.c0
  have l1 := hbx.c1
  have m0 := hbx.f 0
  have m1 := hbx.f 1
  have HBS : Hid (Box _ _ _ _) := hbx.set (.slice xa xn xc) (.slice ya yn yc)
  have HO : Hid (OwnT w2 (w.heap.size + 1 + 1) (.slice xa xn xc) (.slice ya yn yc) (eachR opG s s)) := ho.mono hs0
  have HBW : Hid (Below w.heap.size w w2) := Below.after HB.out hb2
  clear hbx ho hb2
  go_wp2
  have hr0 := HBS.out.c0
  have hr1 := HBS.out.c1
  refine bodyPost_ret (v := .tuple #[.agg #[.slice xa xn xc, .slice ya yn yc], .int .i64 (tkE s)]) (by simp [results, Try.results62, go_sem, hr0, hr1]) rfl ⟨_, _, rfl, ?_, ?_⟩
  · exact (HO.out.set2 _ _ (by omega)).mono (by omega)
  · exact (HBW.out.setCell (by simp <;> omega) _).setCell (by simp <;> omega) _
theorem relu_to {a0 a1 : Value} {s : Ten} {w : World} (x : Int) (u : Ten) (ha : Tens w a0 a1 s) (hx : tkE s = x) (hu : eachR opG s s = u) :
    Calls Try.prog 62 #[.agg #[a0, a1]] w fun e w' => ∃ x0 x1, e = .returned (.tuple #[.agg #[x0, x1], .int .i64 x]) ∧ OwnT w' w.heap.size x0 x1 u ∧ Below w.heap.size w w' := by
  subst hx hu
  exact relu_any ha
def lastD (d : List Int) : Int := d.getD (d.length - 1) 0
def lesD (d : List Int) (n : Int) : List Int := d.set (d.length - 1) (lastD d / n)
def fwE (t : Ten) (n : Int) : Int := if tok t = true ∧ 1 ≤ n ∧ n ≤ 8 then (if lastD t.1 % n = 0 then 0 else 4) else 1
def fwD (t : Ten) (n : Int) : List Int := if fwE t n = 0 then lesD t.1 n else []
theorem lastD_bd {d : List Int} (h : okd d = true) : 1 ≤ lastD d ∧ lastD d ≤ 8 := by
  obtain ⟨h1, _, h3, _⟩ := okd_parts h
  have hl : d.length - 1 < d.length := by omega
  have : lastD d = d[d.length - 1] := by simp [lastD, hl]
  rw [this]
  exact inr_mem h3 (List.getElem_mem hl)
/-- A jump with nothing but what was there. -/
def Jn (n : Nat) (w : World) (a : Act) (w' : World) : Prop := a.defers = [] ∧ a.tmps.size = n ∧ Below w.heap.size w w'
set_option maxRecDepth 100000 in
set_option maxHeartbeats 2000000 in
theorem few_bad1 {a0 a1 : Value} {t : Ten} {w : World} (n : Int) (ha : Tens w a0 a1 t) (hx : tok t = false) :
    Calls Try.prog 76 #[.agg #[a0, a1], .int .i64 n] w fun e w' => e = .returned (.tuple #[.slice none 0 0, .int .i64 1]) ∧ Below w.heap.size w w' := by
  obtain ⟨aa, an, ac, rfl⟩ := ha.1.shape3
  obtain ⟨ba, bn, bc, rfl⟩ := ha.2.shape3
  obtain ⟨U, hU⟩ : ∃ U, U = w.alloc (.cells #[.slice aa an ac, .slice ba bn bc] 70) := ⟨_, rfl⟩
  have hb : Below w.heap.size w U := by rw [hU]; exact (Below.refl _ _).alloc (Nat.le_refl _) _
  have HA : Hid (Tens U (.slice aa an ac) (.slice ba bn bc) t) := ha.later hb
  have HB : Hid (Below w.heap.size w U) := hb
  have HK : Hid (tkE t = 1) := by show _ = _; simp [tkE, hx]
  clear ha hb hx
  go_enter Try.func76, Try.ntmps76
  go_wp2_with fail
  refine wp_scope_jumps 0 (Jn 42 w) (fun _ _ => 0) rfl ?_ ?_
  · go_wp2_with fail
    rw [← hU]
    refine (tensor_to 1 HA.out HK.out).mono ?_
    rintro e w2 ⟨rfl, hb2⟩
    have HB2 : Hid (Below w.heap.size w w2) := Below.after HB.out hb2
    clear hb2
    go_wp2
    go_step3
    exact ⟨rfl, rfl, rfl, HB2.out⟩
  · rintro a w' ⟨hd, hs, hbe⟩
    obtain ⟨G, hg, e⟩ := act42 a hd hs
    subst e
    have HBE : Hid (Below w.heap.size w w') := hbe
    clear hg hd hs hbe
    go_wp2
    rw [jump_ret]
    exact bodyPost_ret (v := .tuple #[.slice none 0 0, .int .i64 1]) (by simp [results, Try.results76, go_sem]) rfl ⟨rfl, HBE.out⟩
set_option maxRecDepth 100000 in
set_option maxHeartbeats 2000000 in
theorem few_bad2 {a0 a1 : Value} {t : Ten} {w : World} (n : Int) (ha : Tens w a0 a1 t) (hx : tok t = true) (hn : ¬ (1 ≤ n ∧ n ≤ 8)) :
    Calls Try.prog 76 #[.agg #[a0, a1], .int .i64 n] w fun e w' => e = .returned (.tuple #[.slice none 0 0, .int .i64 1]) ∧ Below w.heap.size w w' := by
  obtain ⟨aa, an, ac, rfl⟩ := ha.1.shape3
  obtain ⟨ba, bn, bc, rfl⟩ := ha.2.shape3
  obtain ⟨U, hU⟩ : ∃ U, U = w.alloc (.cells #[.slice aa an ac, .slice ba bn bc] 70) := ⟨_, rfl⟩
  have hb : Below w.heap.size w U := by rw [hU]; exact (Below.refl _ _).alloc (Nat.le_refl _) _
  have HA : Hid (Tens U (.slice aa an ac) (.slice ba bn bc) t) := ha.later hb
  have HB : Hid (Below w.heap.size w U) := hb
  have HK : Hid (tkE t = 0) := by show _ = _; simp [tkE, hx]
  clear ha hb hx
  by_cases h1 : n < 1
  · clear hn
    go_enter Try.func76, Try.ntmps76
    go_wp2_with fail
    refine wp_scope_jumps 0 (Jn 42 w) (fun _ _ => 0) rfl ?_ ?_
    · go_wp2_with fail
      rw [← hU]
      refine (tensor_to 0 HA.out HK.out).mono ?_
      rintro e w2 ⟨rfl, hb2⟩
      have HB2 : Hid (Below w.heap.size w w2) := Below.after HB.out hb2
      clear hb2
      go_wp2
      go_step3
      exact ⟨rfl, rfl, rfl, HB2.out⟩
    · rintro a w' ⟨hd, hs, hbe⟩
      obtain ⟨G, hg, e⟩ := act42 a hd hs
      subst e
      have HBE : Hid (Below w.heap.size w w') := hbe
      clear hg hd hs hbe
      go_wp2
      rw [jump_ret]
      exact bodyPost_ret (v := .tuple #[.slice none 0 0, .int .i64 1]) (by simp [results, Try.results76, go_sem]) rfl ⟨rfl, HBE.out⟩
  · have h8 : 8 < n := by omega
    clear hn
    go_enter Try.func76, Try.ntmps76
    go_wp2_with fail
    refine wp_scope_jumps 0 (Jn 42 w) (fun _ _ => 0) rfl ?_ ?_
    · go_wp2_with fail
      rw [← hU]
      refine (tensor_to 0 HA.out HK.out).mono ?_
      rintro e w2 ⟨rfl, hb2⟩
      have HB2 : Hid (Below w.heap.size w w2) := Below.after HB.out hb2
      clear hb2
      go_wp2
      go_step3
      exact ⟨rfl, rfl, rfl, HB2.out⟩
    · rintro a w' ⟨hd, hs, hbe⟩
      obtain ⟨G, hg, e⟩ := act42 a hd hs
      subst e
      have HBE : Hid (Below w.heap.size w w') := hbe
      clear hg hd hs hbe
      go_wp2
      rw [jump_ret]
      exact bodyPost_ret (v := .tuple #[.slice none 0 0, .int .i64 1]) (by simp [results, Try.results76, go_sem]) rfl ⟨rfl, HBE.out⟩
/-- A tensor that may be: its last dim in memory. -/
theorem last_of {w : World} {a0 a1 : Value} {t : Ten} (ha : Tens w a0 a1 t) (hx : tok t = true) :
    ∃ b off c E L : Nat, a0 = .slice (some ⟨b, off, none⟩) (E + 1) c ∧ t.1.length = E + 1 ∧ lastD t.1 = (L : Int) ∧ 1 ≤ L ∧ L ≤ 8 ∧ E + 1 ≤ c ∧ E ≤ 2 ∧ b < w.heap.size ∧ w.cell? ⟨b, off + E, none⟩ = some (.int .i64 L) := by
  have ho := tok_okd hx
  obtain ⟨h1, h3, _, _⟩ := okd_parts ho
  obtain ⟨l1, l8⟩ := lastD_bd ho
  have hold := ha.1.old h1
  rcases ha.1.cases with ⟨e, _⟩ | ⟨b, off, c, rfl, h0, hc, hb, HC⟩
  · rw [e] at h1; simp at h1
  obtain ⟨E, hE⟩ : ∃ E, t.1.length = E + 1 := ⟨t.1.length - 1, by omega⟩
  refine ⟨b, off, c, E, (lastD t.1).toNat, by rw [hE], hE, by omega, by omega, by omega, by omega, by omega, hold b rfl, ?_⟩
  have := Ints.cellD (n := 0) (c := 0) HC E (by omega)
  rw [this]
  congr 2
  have : lastD t.1 = t.1.getD E 0 := by rw [lastD, hE]; rfl
  omega
set_option maxRecDepth 100000 in
set_option maxHeartbeats 2000000 in
theorem few_four {a0 a1 : Value} {t : Ten} {w : World} (n : Nat) (ha : Tens w a0 a1 t) (hx : tok t = true) (h1 : 1 ≤ n) (h8 : n ≤ 8) (hd : ¬ lastD t.1 % n = 0) :
    Calls Try.prog 76 #[.agg #[a0, a1], .int .i64 n] w fun e w' => e = .returned (.tuple #[.slice none 0 0, .int .i64 4]) ∧ Below w.heap.size w w' := by
  obtain ⟨b, off, c, E, L, rfl, hE, hL, l1, l8, hc, hE2, hbw, hcell⟩ := last_of ha hx
  obtain ⟨ba, bn, bc, rfl⟩ := ha.2.shape3
  rw [hL] at hd
  have hd2 : ((L : Int) % (n : Int) != 0) = true := by simpa using hd
  have n0 : ¬ n = 0 := by omega
  obtain ⟨U, hU⟩ : ∃ U, U = w.alloc (.cells #[.slice (some ⟨b, off, none⟩) (E + 1) c, .slice ba bn bc] 70) := ⟨_, rfl⟩
  have hb : Below w.heap.size w U := by rw [hU]; exact (Below.refl _ _).alloc (Nat.le_refl _) _
  have HA : Hid (Tens U (.slice (some ⟨b, off, none⟩) (E + 1) c) (.slice ba bn bc) t) := ha.later hb
  have HB : Hid (Below w.heap.size w U) := hb
  have HBA : Hid (Box U w.heap.size (.slice (some ⟨b, off, none⟩) (E + 1) c) (.slice ba bn bc)) := by show Box _ _ _ _; rw [hU]; exact Box.new w _ _
  have HK : Hid (tkE t = 0) := by show _ = _; simp [tkE, hx]
  have HC : Hid (w.cell? ⟨b, off + E, none⟩ = some (.int .i64 L)) := hcell
  clear ha hb hx hcell hd
  go_enter Try.func76, Try.ntmps76
  go_wp2_with fail
  refine wp_scope_jumps 1 (Jn 42 w) (fun _ _ => 0) rfl ?_ ?_
  · go_wp2_with fail
    rw [← hU]
    clear hU
    refine (tensor_to 0 HA.out HK.out).mono ?_
    rintro e w2 ⟨rfl, hb2⟩
    have HB2 : Hid (Below w.heap.size w w2) := Below.after HB.out hb2
    have q0 := (HBA.out.later hb2).c0
    have q1 := cell_later HB2.out HC.out
    clear hb2
    go_wp2
    go_step3
    exact ⟨rfl, rfl, rfl, HB2.out⟩
  · rintro a w' ⟨hd, hs, hbe⟩
    obtain ⟨G, hg, e⟩ := act42 a hd hs
    subst e
    have HBE : Hid (Below w.heap.size w w') := hbe
    clear hg hd hs hbe
    go_wp2
    rw [jump_ret]
    exact bodyPost_ret (v := .tuple #[.slice none 0 0, .int .i64 4]) (by simp [results, Try.results76, go_sem]) rfl ⟨rfl, HBE.out⟩
set_option maxRecDepth 100000 in
set_option maxHeartbeats 2000000 in
theorem few_ok {a0 a1 : Value} {t : Ten} {w : World} (n : Nat) (ha : Tens w a0 a1 t) (hx : tok t = true) (h1 : 1 ≤ n) (h8 : n ≤ 8) (hd : lastD t.1 % n = 0) :
    Calls Try.prog 76 #[.agg #[a0, a1], .int .i64 n] w fun e w' => ∃ v, e = .returned (.tuple #[v, .int .i64 0]) ∧ Own w' w.heap.size v (lesD t.1 n) ∧ Below w.heap.size w w' := by
  obtain ⟨b, off, c, E, L, rfl, hE, hL, l1, l8, hc, hE2, hbw, hcell⟩ := last_of ha hx
  obtain ⟨ba, bn, bc, rfl⟩ := ha.2.shape3
  rw [hL] at hd
  have hd2 : ((L : Int) % (n : Int) != 0) = false := by simpa using hd
  have n0 : ¬ n = 0 := by omega
  obtain ⟨Q, hQ⟩ : ∃ Q, L / n = Q := ⟨_, rfl⟩
  have hQL : Q ≤ 8 := by rw [← hQ]; exact Nat.le_trans (Nat.div_le_self _ _) l8
  have f0 : (L : Int).tdiv (n : Int) = (Q : Int) := by rw [Int.tdiv_eq_ediv_of_nonneg (by omega), ← hQ]; simp
  have f2 : IntKind.i64.wrap (Q : Int) = (Q : Int) := wrap_small _ (by omega) (by omega)
  have f4 : IntKind.i64.wrap ((L : Int).tdiv (n : Int)) = (Q : Int) := by rw [f0, f2]
  have f5 : (L : Int) / (n : Int) = (Q : Int) := by rw [← hQ]; simp
  have f6 : wrap64 ((L : Int) / (n : Int)) = (Q : Int) := by rw [f5]; exact wrap_in (by omega)
  have HLE : Hid (lesD t.1 n = t.1.set E (Q : Int)) := by
    show _ = _
    rw [lesD, hL, hE, ← hQ]
    simp
  obtain ⟨U, hU⟩ : ∃ U, U = w.alloc (.cells #[.slice (some ⟨b, off, none⟩) (E + 1) c, .slice ba bn bc] 70) := ⟨_, rfl⟩
  have hb : Below w.heap.size w U := by rw [hU]; exact (Below.refl _ _).alloc (Nat.le_refl _) _
  have HA : Hid (Tens U (.slice (some ⟨b, off, none⟩) (E + 1) c) (.slice ba bn bc) t) := ha.later hb
  have HB : Hid (Below w.heap.size w U) := hb
  have HBA : Hid (Box U w.heap.size (.slice (some ⟨b, off, none⟩) (E + 1) c) (.slice ba bn bc)) := by show Box _ _ _ _; rw [hU]; exact Box.new w _ _
  have HK : Hid (tkE t = 0) := by show _ = _; simp [tkE, hx]
  have HC : Hid (w.cell? ⟨b, off + E, none⟩ = some (.int .i64 L)) := hcell
  have HE : Hid (t.1.length = E + 1 ∧ t.1.getD E 0 = L) := ⟨hE, by rw [← hL, lastD, hE]; rfl⟩
  clear ha hb hx hcell hd hE hL hQ
  go_enter Try.func76, Try.ntmps76
  go_wp2_with fail
  refine wp_scope_jumps 0 (fun _ _ => False) (fun _ _ => 0) rfl ?_ ?_
  · go_wp2_with fail
    rw [← hU]
    clear hU
    refine (tensor_to 0 HA.out HK.out).mono ?_
    rintro e w2 ⟨rfl, hb2⟩
    have HB2 : Hid (Below w.heap.size w w2) := Below.after HB.out hb2
    have HA2 : Hid (Tens w2 (.slice (some ⟨b, off, none⟩) (E + 1) c) (.slice ba bn bc) t) := HA.out.later hb2
    have q0 := (HBA.out.later hb2).c0
    have q1 := cell_later HB2.out HC.out
    clear hb2
    go_wp2_with fail
    refine (clone_own HA2.out.1 (by rw [HE.out.1]; omega)).mono ?_
    rintro e w3 ⟨v', rfl, ho, hb3⟩
    obtain ⟨g, cap, ev', hcap, hg1, hg2⟩ := ho.form (by rw [HE.out.1]; omega)
    rw [HE.out.1] at ev' hcap
    subst ev'
    obtain ⟨p1, p2, p3⟩ := ho.put HE.out.1 E (by omega) (Q : Int)
    rw [HE.out.2] at p1
    rw [← HLE.out] at p3
    have HP : Hid (Own (w3.setCell ⟨g, E, none⟩ (.int .i64 Q)) w2.heap.size (.slice (some ⟨g, 0, none⟩) (E + 1) cap) (lesD t.1 n)) := p3
    have HB3 : Hid (Below w.heap.size w w3) := Below.after HB2.out hb3
    have hs2 := HB2.out.size
    clear ho hb3 p3 q0 q1
    go_wp2
    rw [jump_ret]
    exact bodyPost_ret (v := .tuple #[.slice (some ⟨g, 0, none⟩) (E + 1) cap, .int .i64 0]) (by simp [results, Try.results76, go_sem]) rfl ⟨_, rfl, HP.out.mono (by omega), HB3.out.setCell (by simp; omega) _⟩
  · intro a w' h
    exact h.elim
theorem few_any {a0 a1 : Value} {t : Ten} {w : World} (n : Int) (ha : Tens w a0 a1 t) :
    Calls Try.prog 76 #[.agg #[a0, a1], .int .i64 n] w fun e w' => ∃ v, e = .returned (.tuple #[v, .int .i64 (fwE t n)]) ∧ Own w' w.heap.size v (fwD t n) ∧ Below w.heap.size w w' := by
  have bad : ∀ c : Int, c ≠ 0 → fwE t n = c → (Calls Try.prog 76 #[.agg #[a0, a1], .int .i64 n] w fun e w' => e = .returned (.tuple #[.slice none 0 0, .int .i64 c]) ∧ Below w.heap.size w w') →
      Calls Try.prog 76 #[.agg #[a0, a1], .int .i64 n] w fun e w' => ∃ v, e = .returned (.tuple #[v, .int .i64 (fwE t n)]) ∧ Own w' w.heap.size v (fwD t n) ∧ Below w.heap.size w w' := by
    intro c hc he h
    refine h.mono ?_
    rintro e w' ⟨rfl, hb⟩
    refine ⟨.slice none 0 0, by rw [he], ?_, hb⟩
    rw [fwD, he, if_neg hc]
    exact Own.nil _ _
  cases hx : tok t with
  | false => exact bad 1 (by decide) (by simp [fwE, hx]) (few_bad1 n ha hx)
  | true =>
    by_cases hn : 1 ≤ n ∧ n ≤ 8
    · obtain ⟨k, rfl⟩ : ∃ k : Nat, n = k := ⟨n.toNat, by omega⟩
      by_cases hd : lastD t.1 % (k : Int) = 0
      · have he : fwE t k = 0 := by rw [fwE, if_pos ⟨hx, hn⟩, if_pos hd]
        rw [fwD, he, if_pos rfl]
        exact few_ok k ha hx (by omega) (by omega) hd
      · exact bad 4 (by decide) (by rw [fwE, if_pos ⟨hx, hn⟩, if_neg hd]) (few_four k ha hx (by omega) (by omega) hd)
    · exact bad 1 (by decide) (by rw [fwE, if_neg (fun h => hn h.2)]) (few_bad2 n ha hx hn)
theorem last_split {d : List Int} (h : 1 ≤ d.length) : d = d.take (d.length - 1) ++ [lastD d] := by
  have h1 : d.length - 1 < d.length := by omega
  have := take_snoc d (d.length - 1) h1
  rw [show d.length - 1 + 1 = d.length by omega, List.take_length] at this
  rw [show lastD d = d[d.length - 1] by simp [lastD, h1]]
  exact this
theorem les_split {d : List Int} (h : 1 ≤ d.length) (n : Int) : lesD d n = d.take (d.length - 1) ++ [lastD d / n] := by
  have h1 : d.length - 1 < d.length := by omega
  rw [lesD, List.set_eq_take_append_cons_drop, if_pos h1, List.drop_of_length_le (by omega)]
/-- n goes into all cells; what is left. -/
theorem few_mul {t : Ten} {n : Nat} (hx : tok t = true) (h1 : 1 ≤ n) (hd : lastD t.1 % n = 0) :
    ∃ m : Nat, 1 ≤ m ∧ t.2.length = m * n ∧ okd (lesD t.1 n) = true ∧ (prd (lesD t.1 n)).toNat = m := by
  have ho := tok_okd hx
  obtain ⟨k1, k3, kin, k64⟩ := okd_parts ho
  obtain ⟨l1, l8⟩ := lastD_bd ho
  have hs := last_split k1
  have hl := les_split k1 (n : Int)
  have hlen := tok_len hx
  obtain ⟨P, hP⟩ : ∃ P, t.1.take (t.1.length - 1) = P := ⟨_, rfl⟩
  rw [hP] at hs hl
  have hPin : inr P = true := by rw [← hP]; exact inr_take kin _
  have hp1 := prd_lo hPin
  obtain ⟨q, hq⟩ : ∃ q : Nat, lastD t.1 / n = q := ⟨(lastD t.1 / n).toNat, by have := Int.ediv_nonneg (show (0:Int) ≤ lastD t.1 by omega) (show (0:Int) ≤ n by omega); omega⟩
  have hqn : lastD t.1 = q * n := by rw [← hq]; exact (Int.ediv_mul_cancel (Int.dvd_of_emod_eq_zero hd)).symm
  have q1 : 1 ≤ q := by
    rcases Nat.eq_zero_or_pos q with h | h
    · rw [h] at hqn; simp at hqn; omega
    · exact h
  have q8 : (q : Int) ≤ lastD t.1 := by
    rw [hqn]
    have := Int.mul_le_mul_of_nonneg_left (show (1:Int) ≤ n by omega) (show (0:Int) ≤ q by omega)
    omega
  have e1 : prd t.1 = prd P * lastD t.1 := by rw [hs, prd_snoc]; congr 1; rw [← hs]
  have e2 : prd (lesD t.1 n) = prd P * q := by rw [hl, prd_snoc, hq]
  have hin : inr (lesD t.1 n) = true := by
    rw [hl, inr_snoc, hPin, hq]
    simp
    omega
  obtain ⟨p, hp⟩ : ∃ p : Nat, prd P = p := ⟨(prd P).toNat, by omega⟩
  have e3 : prd P * (q : Int) ≤ prd P * lastD t.1 := Int.mul_le_mul_of_nonneg_left q8 (by omega)
  refine ⟨p * q, Nat.mul_pos (by omega) q1, ?_, okd_mk ?_ ?_ hin ?_, ?_⟩
  · have : (t.2.length : Int) = ((p * q * n : Nat) : Int) := by rw [hlen, e1, hqn, hp]; simp [Int.mul_assoc]
    omega
  · rw [lesD, List.length_set]; exact k1
  · rw [lesD, List.length_set]; exact k3
  · rw [e2]; omega
  · rw [e2, hp, ← Int.natCast_mul, Int.toNat_natCast]
def mxM (t : Ten) (n : Int) : List Int := maxs n.toNat (t.2.length / n.toNat) t.2
def mxR (t : Ten) (n : Int) : Ten := if fwE t n = 0 then (lesD t.1 n, mxM t n) else ([], [])
theorem fwE_zero {t : Ten} {n : Int} (h : fwE t n = 0) : tok t = true ∧ 1 ≤ n ∧ n ≤ 8 ∧ lastD t.1 % n = 0 := by
  unfold fwE at h
  split at h
  · rename_i h1
    split at h
    · rename_i h2
      exact ⟨h1.1, h1.2.1, h1.2.2, h2⟩
    · simp at h
  · simp at h
set_option maxRecDepth 100000 in
set_option maxHeartbeats 2000000 in
theorem max_bad {a0 a1 : Value} {t : Ten} {w : World} (n c : Int) (ha : Tens w a0 a1 t) (hc : fwE t n = c) (hc0 : c ≠ 0) :
    Calls Try.prog 63 #[.agg #[a0, a1], .int .i64 n] w fun e w' => e = .returned (.tuple #[.agg #[.slice none 0 0, .slice none 0 0], .int .i64 c]) ∧ Below w.heap.size w w' := by
  obtain ⟨aa, an, ac, rfl⟩ := ha.1.shape3
  obtain ⟨ba, bn, bc, rfl⟩ := ha.2.shape3
  have hne : (c != 0) = true := by simpa using hc0
  obtain ⟨U, hU⟩ : ∃ U, U = ((w.alloc (.cells #[.slice aa an ac, .slice ba bn bc] 70)).alloc (.cells #[.slice none 0 0, .slice none 0 0] 70)) := ⟨_, rfl⟩
  have hb : Below w.heap.size w U := by rw [hU]; exact ((Below.refl _ _).alloc (Nat.le_refl _) _).alloc (by simp) _
  have HA : Hid (Tens U (.slice aa an ac) (.slice ba bn bc) t) := ha.later hb
  have HB : Hid (Below w.heap.size w U) := hb
  have HBX : Hid (Box U (w.heap.size + 1) (.slice none 0 0) (.slice none 0 0)) := by
    show Box _ _ _ _
    have := Box.new (w.alloc (.cells #[.slice aa an ac, .slice ba bn bc] 70)) (.slice none 0 0) (.slice none 0 0)
    simp only [World.size_alloc] at this
    rw [hU]
    exact this
  have HC : Hid (fwE t n = c) := hc
  clear ha hb hc hc0
  go_enter Try.func63, Try.ntmps63
  go_wp2_with fail
  rw [← hU]
  clear hU
  refine (few_any n HA.out).mono ?_
  rw [HC.out]
  rintro e w2 ⟨v, rfl, ho, hb2⟩
  have hbx := HBX.out.later hb2
  have l0 := hbx.c0
  have l1 := hbx.c1
  have m0 := hbx.f 0
  have m1 := hbx.f 1
  have HBS : Hid (Box _ _ _ _) := hbx.set (.slice none 0 0) (.slice none 0 0)
  have HBW : Hid (Below w.heap.size w w2) := Below.after HB.out hb2
  clear hbx ho hb2
  go_wp2
  have hr0 := HBS.out.c0
  have hr1 := HBS.out.c1
  exact bodyPost_ret (v := .tuple #[.agg #[.slice none 0 0, .slice none 0 0], .int .i64 c]) (by simp [results, Try.results63, go_sem, hr0, hr1]) rfl ⟨rfl, (HBW.out.setCell (by simp <;> omega) _).setCell (by simp <;> omega) _⟩
theorem It.own {w : World} {B I p : Nat} {s : ByteArray} {v : Value} {d : List Int} (h : Own w B v d) (hi : It w I s p) : ∀ k, v.ownBlock = some k → k ≠ I := by
  intro k hk e
  subst e
  rcases h.row.2 with ⟨e, _⟩ | ⟨g, cap, cur, hv, _, hg, _⟩
  · rw [e] at hk; simp [Value.ownBlock] at hk
  · rw [hv] at hk
    simp [Value.ownBlock] at hk
    subst hk
    have hi' : w.heap[g]? = some (.stringIter s p) := hi
    rw [hg] at hi'
    simp at hi'
theorem Own.moved {w : World} {B I q : Nat} {s s' : ByteArray} {p : Nat} {v : Value} {d : List Int} (h : Own w B v d) (hi : It w I s p) : Own (w.iterAt I s' q) B v d :=
  h.at fun k hk => by
    have := It.own h hi k hk
    simp only [World.iterAt, Array.getElem?_setIfInBounds]
    rw [if_neg (fun e => this e.symm)]
end Go.Proofs.Ytjfkhfahpjdidaa
