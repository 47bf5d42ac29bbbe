/- Contract: mat's Mul, where it errs. -/
import Derived.Test.YtgnicnaiaijdcaaDoorX2
namespace Go.Proofs.YtgnicnaiaijdcaaDoor
set_option linter.unusedVariables false
set_option linter.unusedSimpArgs false
open Go.RowKit

set_option maxRecDepth 100000 in
set_option maxHeartbeats 2000000 in
theorem mul_bad1 {a0 a1 b0 b1 : Value} {s t : Ten} {w : World} (ha : Tens w a0 a1 s) (ht : Tens w b0 b1 t) (hx : tok s = false) :
    Calls Tryd.prog 8 #[.agg #[a0, a1], .agg #[b0, b1]] w fun e w' => e = .returned (.tuple #[.agg #[.slice none 0 0, .slice none 0 0], .int .i64 1]) ∧ Below w.heap.size w w' := by
  obtain ⟨aa, an, ac, rfl⟩ := ha.1.shape3
  obtain ⟨ba, bn, bc, rfl⟩ := ha.2.shape3
  obtain ⟨ea, en, ec, rfl⟩ := ht.1.shape3
  obtain ⟨fa, fn, fc, rfl⟩ := ht.2.shape3
  obtain ⟨U, hU⟩ : ∃ U, U = ((((w.alloc (.cells #[(.slice aa an ac), (.slice ba bn bc)] 28)).alloc (.cells #[(.slice ea en ec), (.slice fa fn fc)] 28)).alloc (.cells #[.slice none 0 0, .slice none 0 0] 28)).alloc (.cells #[.slice none 0 0, .slice none 0 0] 28)) := ⟨_, rfl⟩
  have hb : Below w.heap.size w U := by rw [hU]; exact ((((Below.refl _ _).alloc (Nat.le_refl _) _).alloc (by simp) _).alloc (by simp; omega) _).alloc (by simp; omega) _
  have HA : Hid (Tens U (.slice aa an ac) (.slice ba bn bc) s) := ha.later hb
  have HT : Hid (Tens U (.slice ea en ec) (.slice fa fn fc) t) := ht.later hb
  have HB : Hid (Below w.heap.size w U) := hb
  have HBA : Hid (Box U w.heap.size (.slice aa an ac) (.slice ba bn bc)) := by show Box _ _ _ _; rw [hU]; exact (((Box.new w (.slice aa an ac) (.slice ba bn bc)).alloc _).alloc _).alloc _
  have HBB : Hid (Box U (w.heap.size + 1) (.slice ea en ec) (.slice fa fn fc)) := by
    show Box _ _ _ _
    have := ((Box.new (w.alloc (.cells #[(.slice aa an ac), (.slice ba bn bc)] 28)) (.slice ea en ec) (.slice fa fn fc)).alloc (.cells #[.slice none 0 0, .slice none 0 0] 28)).alloc (.cells #[.slice none 0 0, .slice none 0 0] 28)
    simp only [World.size_alloc] at this
    rw [hU]
    exact this
  have HBX : Hid (Box U (w.heap.size + 1 + 1) (.slice none 0 0) (.slice none 0 0)) := by
    show Box _ _ _ _
    have := (Box.new ((w.alloc (.cells #[(.slice aa an ac), (.slice ba bn bc)] 28)).alloc (.cells #[(.slice ea en ec), (.slice fa fn fc)] 28)) (.slice none 0 0) (.slice none 0 0)).alloc (.cells #[.slice none 0 0, .slice none 0 0] 28)
    simp only [World.size_alloc] at this
    rw [hU]
    exact this
  have HK : Hid (tkE s = 1) := by show _ = _; simp [tkE, hx]
  have k0 := HBA.out.c0
  have k1 := HBA.out.c1
  clear ha ht hb hx
  go_enter Tryd.func8, Tryd.ntmps8
  go_wp2_with fail
  refine wp_scope_jumps 0 (Jg 83 4 (w.heap.size + 1 + 1) w) (fun _ _ => 0) rfl ?_ ?_
  · go_wp2_with fail
    rw [← hU]
    clear hU
    refine (tensor_to 1 HA.out HK.out).mono ?_
    rintro e w2 ⟨rfl, hb2⟩
    have HB2 : Hid (Below w.heap.size w w2) := Below.after HB.out hb2
    have HBX2 : Hid (Box w2 (w.heap.size + 1 + 1) (.slice none 0 0) (.slice none 0 0)) := HBX.out.later hb2
    clear hb2
    go_wp2
    go_step3
    exact ⟨rfl, rfl, rfl, rfl, HBX2.out, HB2.out⟩
  · rintro a w' ⟨hd, hs, h4, hbx, hbe⟩
    obtain ⟨G, hg, e⟩ := act83 a hd hs
    rw [hg] at h4
    subst e
    rw [h4]
    have l0 := hbx.c0
    have l1 := hbx.c1
    have m0 := hbx.f 0
    have m1 := hbx.f 1
    have HBS : Hid (Box _ _ _ _) := hbx.set (.slice none 0 0) (.slice none 0 0)
    have HBE : Hid (Below w.heap.size w w') := hbe
    clear hg hd hs hbx h4 hbe
    go_wp2
    rw [jump_ret]
    have hr0 := HBS.out.c0
    have hr1 := HBS.out.c1
    exact bodyPost_ret (v := .tuple #[.agg #[.slice none 0 0, .slice none 0 0], .int .i64 1]) (by simp [results, Tryd.results8, go_sem, hr0, hr1]) rfl ⟨rfl, (HBE.out.setCell (by simp; omega) _).setCell (by simp; omega) _⟩

set_option maxRecDepth 100000 in
set_option maxHeartbeats 2000000 in
theorem mul_bad2 {a0 a1 b0 b1 : Value} {s t : Ten} {w : World} (ha : Tens w a0 a1 s) (ht : Tens w b0 b1 t) (hx : tok s = true) (hy : tok t = false) :
    Calls Tryd.prog 8 #[.agg #[a0, a1], .agg #[b0, b1]] w fun e w' => e = .returned (.tuple #[.agg #[.slice none 0 0, .slice none 0 0], .int .i64 1]) ∧ Below w.heap.size w w' := by
  obtain ⟨aa, an, ac, rfl⟩ := ha.1.shape3
  obtain ⟨ba, bn, bc, rfl⟩ := ha.2.shape3
  obtain ⟨ea, en, ec, rfl⟩ := ht.1.shape3
  obtain ⟨fa, fn, fc, rfl⟩ := ht.2.shape3
  obtain ⟨U, hU⟩ : ∃ U, U = ((((w.alloc (.cells #[(.slice aa an ac), (.slice ba bn bc)] 28)).alloc (.cells #[(.slice ea en ec), (.slice fa fn fc)] 28)).alloc (.cells #[.slice none 0 0, .slice none 0 0] 28)).alloc (.cells #[.slice none 0 0, .slice none 0 0] 28)) := ⟨_, rfl⟩
  have hb : Below w.heap.size w U := by rw [hU]; exact ((((Below.refl _ _).alloc (Nat.le_refl _) _).alloc (by simp) _).alloc (by simp; omega) _).alloc (by simp; omega) _
  have HA : Hid (Tens U (.slice aa an ac) (.slice ba bn bc) s) := ha.later hb
  have HT : Hid (Tens U (.slice ea en ec) (.slice fa fn fc) t) := ht.later hb
  have HB : Hid (Below w.heap.size w U) := hb
  have HBA : Hid (Box U w.heap.size (.slice aa an ac) (.slice ba bn bc)) := by show Box _ _ _ _; rw [hU]; exact (((Box.new w (.slice aa an ac) (.slice ba bn bc)).alloc _).alloc _).alloc _
  have HBB : Hid (Box U (w.heap.size + 1) (.slice ea en ec) (.slice fa fn fc)) := by
    show Box _ _ _ _
    have := ((Box.new (w.alloc (.cells #[(.slice aa an ac), (.slice ba bn bc)] 28)) (.slice ea en ec) (.slice fa fn fc)).alloc (.cells #[.slice none 0 0, .slice none 0 0] 28)).alloc (.cells #[.slice none 0 0, .slice none 0 0] 28)
    simp only [World.size_alloc] at this
    rw [hU]
    exact this
  have HBX : Hid (Box U (w.heap.size + 1 + 1) (.slice none 0 0) (.slice none 0 0)) := by
    show Box _ _ _ _
    have := (Box.new ((w.alloc (.cells #[(.slice aa an ac), (.slice ba bn bc)] 28)).alloc (.cells #[(.slice ea en ec), (.slice fa fn fc)] 28)) (.slice none 0 0) (.slice none 0 0)).alloc (.cells #[.slice none 0 0, .slice none 0 0] 28)
    simp only [World.size_alloc] at this
    rw [hU]
    exact this
  have HK : Hid (tkE s = 0) := by show _ = _; simp [tkE, hx]
  have HK2 : Hid (tkE t = 1) := by show _ = _; simp [tkE, hy]
  have k0 := HBA.out.c0
  have k1 := HBA.out.c1
  clear ha ht hb hx hy
  go_enter Tryd.func8, Tryd.ntmps8
  go_wp2_with fail
  refine wp_scope_jumps 0 (Jg 83 4 (w.heap.size + 1 + 1) w) (fun _ _ => 0) rfl ?_ ?_
  · go_wp2_with fail
    rw [← hU]
    clear hU
    refine (tensor_to 0 HA.out HK.out).mono ?_
    rintro e w2 ⟨rfl, hb2⟩
    have HA2 : Hid (Tens w2 _ _ t) := HT.out.later hb2
    have HU2 : Hid (Below U.heap.size U w2) := hb2
    have q0 := (HBB.out.later hb2).c0
    have q1 := (HBB.out.later hb2).c1
    clear hb2 k0 k1
    go_wp2_with fail
    refine (tensor_to 1 HA2.out HK2.out).mono ?_
    rintro e w3 ⟨rfl, hb3⟩
    have HU3 : Hid (Below U.heap.size U w3) := Below.after HU2.out hb3
    have HB3 : Hid (Below w.heap.size w w3) := Below.after HB.out HU3.out
    have HBX3 : Hid (Box w3 (w.heap.size + 1 + 1) (.slice none 0 0) (.slice none 0 0)) := HBX.out.later HU3.out
    clear hb3 q0 q1
    go_wp2
    go_step3
    exact ⟨rfl, rfl, rfl, rfl, HBX3.out, HB3.out⟩
  · rintro a w' ⟨hd, hs, h4, hbx, hbe⟩
    obtain ⟨G, hg, e⟩ := act83 a hd hs
    rw [hg] at h4
    subst e
    rw [h4]
    have l0 := hbx.c0
    have l1 := hbx.c1
    have m0 := hbx.f 0
    have m1 := hbx.f 1
    have HBS : Hid (Box _ _ _ _) := hbx.set (.slice none 0 0) (.slice none 0 0)
    have HBE : Hid (Below w.heap.size w w') := hbe
    clear hg hd hs hbx h4 hbe
    go_wp2
    rw [jump_ret]
    have hr0 := HBS.out.c0
    have hr1 := HBS.out.c1
    exact bodyPost_ret (v := .tuple #[.agg #[.slice none 0 0, .slice none 0 0], .int .i64 1]) (by simp [results, Tryd.results8, go_sem, hr0, hr1]) rfl ⟨rfl, (HBE.out.setCell (by simp; omega) _).setCell (by simp; omega) _⟩

set_option maxRecDepth 100000 in
set_option maxHeartbeats 2000000 in
theorem mul_four1 {a0 a1 b0 b1 : Value} {s t : Ten} {w : World} (ha : Tens w a0 a1 s) (ht : Tens w b0 b1 t) (hx : tok s = true) (hy : tok t = true) (h2 : s.1.length ≠ 2) :
    Calls Tryd.prog 8 #[.agg #[a0, a1], .agg #[b0, b1]] w fun e w' => e = .returned (.tuple #[.agg #[.slice none 0 0, .slice none 0 0], .int .i64 4]) ∧ Below w.heap.size w w' := by
  obtain ⟨N, hn⟩ : ∃ n, s.1.length = n := ⟨_, rfl⟩
  have hne : ((N : Int) != 2) = true := by simp; omega
  obtain ⟨aa, ac, ea⟩ := ha.1.shape
  rw [hn] at ea
  subst ea
  obtain ⟨ba, bn, bc, rfl⟩ := ha.2.shape3
  obtain ⟨ea, en, ec, rfl⟩ := ht.1.shape3
  obtain ⟨fa, fn, fc, rfl⟩ := ht.2.shape3
  clear hn h2
  obtain ⟨U, hU⟩ : ∃ U, U = ((((w.alloc (.cells #[(.slice aa N ac), (.slice ba bn bc)] 28)).alloc (.cells #[(.slice ea en ec), (.slice fa fn fc)] 28)).alloc (.cells #[.slice none 0 0, .slice none 0 0] 28)).alloc (.cells #[.slice none 0 0, .slice none 0 0] 28)) := ⟨_, rfl⟩
  have hb : Below w.heap.size w U := by rw [hU]; exact ((((Below.refl _ _).alloc (Nat.le_refl _) _).alloc (by simp) _).alloc (by simp; omega) _).alloc (by simp; omega) _
  have HA : Hid (Tens U (.slice aa N ac) (.slice ba bn bc) s) := ha.later hb
  have HT : Hid (Tens U (.slice ea en ec) (.slice fa fn fc) t) := ht.later hb
  have HB : Hid (Below w.heap.size w U) := hb
  have HBA : Hid (Box U w.heap.size (.slice aa N ac) (.slice ba bn bc)) := by show Box _ _ _ _; rw [hU]; exact (((Box.new w (.slice aa N ac) (.slice ba bn bc)).alloc _).alloc _).alloc _
  have HBB : Hid (Box U (w.heap.size + 1) (.slice ea en ec) (.slice fa fn fc)) := by
    show Box _ _ _ _
    have := ((Box.new (w.alloc (.cells #[(.slice aa N ac), (.slice ba bn bc)] 28)) (.slice ea en ec) (.slice fa fn fc)).alloc (.cells #[.slice none 0 0, .slice none 0 0] 28)).alloc (.cells #[.slice none 0 0, .slice none 0 0] 28)
    simp only [World.size_alloc] at this
    rw [hU]
    exact this
  have HBX : Hid (Box U (w.heap.size + 1 + 1) (.slice none 0 0) (.slice none 0 0)) := by
    show Box _ _ _ _
    have := (Box.new ((w.alloc (.cells #[(.slice aa N ac), (.slice ba bn bc)] 28)).alloc (.cells #[(.slice ea en ec), (.slice fa fn fc)] 28)) (.slice none 0 0) (.slice none 0 0)).alloc (.cells #[.slice none 0 0, .slice none 0 0] 28)
    simp only [World.size_alloc] at this
    rw [hU]
    exact this
  have HK : Hid (tkE s = 0) := by show _ = _; simp [tkE, hx]
  have HK2 : Hid (tkE t = 0) := by show _ = _; simp [tkE, hy]
  have k0 := HBA.out.c0
  have k1 := HBA.out.c1
  clear ha ht hb hx hy
  go_enter Tryd.func8, Tryd.ntmps8
  go_wp2_with fail
  refine wp_scope_jumps 1 (Jg 83 4 (w.heap.size + 1 + 1) w) (fun _ _ => 0) rfl ?_ ?_
  · go_wp2_with fail
    rw [← hU]
    clear hU
    refine (tensor_to 0 HA.out HK.out).mono ?_
    rintro e w2 ⟨rfl, hb2⟩
    have HA2 : Hid (Tens w2 _ _ t) := HT.out.later hb2
    have HU2 : Hid (Below U.heap.size U w2) := hb2
    have q0 := (HBB.out.later hb2).c0
    have q1 := (HBB.out.later hb2).c1
    clear hb2 k0 k1
    go_wp2_with fail
    refine (tensor_to 0 HA2.out HK2.out).mono ?_
    rintro e w3 ⟨rfl, hb3⟩
    have HU3 : Hid (Below U.heap.size U w3) := Below.after HU2.out hb3
    have HB3 : Hid (Below w.heap.size w w3) := Below.after HB.out HU3.out
    have HBX3 : Hid (Box w3 (w.heap.size + 1 + 1) (.slice none 0 0) (.slice none 0 0)) := HBX.out.later HU3.out
    clear hb3 q0 q1
    have a0 := (HBA.out.later HU3.out).c0
    have a1 := (HBB.out.later HU3.out).c0
    go_wp2_with fail
    go_quiet (fail)
    go_wp2
    go_step3
    exact ⟨rfl, rfl, rfl, rfl, HBX3.out, Below.drewN HB3.out _⟩
  · rintro a w' ⟨hd, hs, h4, hbx, hbe⟩
    obtain ⟨G, hg, e⟩ := act83 a hd hs
    rw [hg] at h4
    subst e
    rw [h4]
    have l0 := hbx.c0
    have l1 := hbx.c1
    have m0 := hbx.f 0
    have m1 := hbx.f 1
    have HBS : Hid (Box _ _ _ _) := hbx.set (.slice none 0 0) (.slice none 0 0)
    have HBE : Hid (Below w.heap.size w w') := hbe
    clear hg hd hs hbx h4 hbe
    go_wp2
    rw [jump_ret]
    have hr0 := HBS.out.c0
    have hr1 := HBS.out.c1
    exact bodyPost_ret (v := .tuple #[.agg #[.slice none 0 0, .slice none 0 0], .int .i64 4]) (by simp [results, Tryd.results8, go_sem, hr0, hr1]) rfl ⟨rfl, (HBE.out.setCell (by simp; omega) _).setCell (by simp; omega) _⟩

set_option maxRecDepth 100000 in
set_option maxHeartbeats 2000000 in
theorem mul_four2 {a0 a1 b0 b1 : Value} {s t : Ten} {w : World} (ha : Tens w a0 a1 s) (ht : Tens w b0 b1 t) (hx : tok s = true) (hy : tok t = true) (h2 : s.1.length = 2) (h3 : t.1.length ≠ 2) :
    Calls Tryd.prog 8 #[.agg #[a0, a1], .agg #[b0, b1]] w fun e w' => e = .returned (.tuple #[.agg #[.slice none 0 0, .slice none 0 0], .int .i64 4]) ∧ Below w.heap.size w w' := by
  obtain ⟨N, hn⟩ : ∃ n, t.1.length = n := ⟨_, rfl⟩
  have hne : ((N : Int) != 2) = true := by simp; omega
  obtain ⟨aa, ac, ea⟩ := ha.1.shape
  rw [h2] at ea
  subst ea
  obtain ⟨ba, bn, bc, rfl⟩ := ha.2.shape3
  obtain ⟨ca, cc, ed⟩ := ht.1.shape
  rw [hn] at ed
  subst ed
  obtain ⟨fa, fn, fc, rfl⟩ := ht.2.shape3
  clear hn h2 h3
  obtain ⟨U, hU⟩ : ∃ U, U = ((((w.alloc (.cells #[(.slice aa 2 ac), (.slice ba bn bc)] 28)).alloc (.cells #[(.slice ca N cc), (.slice fa fn fc)] 28)).alloc (.cells #[.slice none 0 0, .slice none 0 0] 28)).alloc (.cells #[.slice none 0 0, .slice none 0 0] 28)) := ⟨_, rfl⟩
  have hb : Below w.heap.size w U := by rw [hU]; exact ((((Below.refl _ _).alloc (Nat.le_refl _) _).alloc (by simp) _).alloc (by simp; omega) _).alloc (by simp; omega) _
  have HA : Hid (Tens U (.slice aa 2 ac) (.slice ba bn bc) s) := ha.later hb
  have HT : Hid (Tens U (.slice ca N cc) (.slice fa fn fc) t) := ht.later hb
  have HB : Hid (Below w.heap.size w U) := hb
  have HBA : Hid (Box U w.heap.size (.slice aa 2 ac) (.slice ba bn bc)) := by show Box _ _ _ _; rw [hU]; exact (((Box.new w (.slice aa 2 ac) (.slice ba bn bc)).alloc _).alloc _).alloc _
  have HBB : Hid (Box U (w.heap.size + 1) (.slice ca N cc) (.slice fa fn fc)) := by
    show Box _ _ _ _
    have := ((Box.new (w.alloc (.cells #[(.slice aa 2 ac), (.slice ba bn bc)] 28)) (.slice ca N cc) (.slice fa fn fc)).alloc (.cells #[.slice none 0 0, .slice none 0 0] 28)).alloc (.cells #[.slice none 0 0, .slice none 0 0] 28)
    simp only [World.size_alloc] at this
    rw [hU]
    exact this
  have HBX : Hid (Box U (w.heap.size + 1 + 1) (.slice none 0 0) (.slice none 0 0)) := by
    show Box _ _ _ _
    have := (Box.new ((w.alloc (.cells #[(.slice aa 2 ac), (.slice ba bn bc)] 28)).alloc (.cells #[(.slice ca N cc), (.slice fa fn fc)] 28)) (.slice none 0 0) (.slice none 0 0)).alloc (.cells #[.slice none 0 0, .slice none 0 0] 28)
    simp only [World.size_alloc] at this
    rw [hU]
    exact this
  have HK : Hid (tkE s = 0) := by show _ = _; simp [tkE, hx]
  have HK2 : Hid (tkE t = 0) := by show _ = _; simp [tkE, hy]
  have k0 := HBA.out.c0
  have k1 := HBA.out.c1
  clear ha ht hb hx hy
  go_enter Tryd.func8, Tryd.ntmps8
  go_wp2_with fail
  refine wp_scope_jumps 1 (Jg 83 4 (w.heap.size + 1 + 1) w) (fun _ _ => 0) rfl ?_ ?_
  · go_wp2_with fail
    rw [← hU]
    clear hU
    refine (tensor_to 0 HA.out HK.out).mono ?_
    rintro e w2 ⟨rfl, hb2⟩
    have HA2 : Hid (Tens w2 _ _ t) := HT.out.later hb2
    have HU2 : Hid (Below U.heap.size U w2) := hb2
    have q0 := (HBB.out.later hb2).c0
    have q1 := (HBB.out.later hb2).c1
    clear hb2 k0 k1
    go_wp2_with fail
    refine (tensor_to 0 HA2.out HK2.out).mono ?_
    rintro e w3 ⟨rfl, hb3⟩
    have HU3 : Hid (Below U.heap.size U w3) := Below.after HU2.out hb3
    have HB3 : Hid (Below w.heap.size w w3) := Below.after HB.out HU3.out
    have HBX3 : Hid (Box w3 (w.heap.size + 1 + 1) (.slice none 0 0) (.slice none 0 0)) := HBX.out.later HU3.out
    clear hb3 q0 q1
    have a0 := (HBA.out.later HU3.out).c0
    have a1 := (HBB.out.later HU3.out).c0
    go_wp2_with fail
    go_quiet (fail)
    go_wp2
    go_step3
    exact ⟨rfl, rfl, rfl, rfl, HBX3.out, Below.drewN HB3.out _⟩
  · rintro a w' ⟨hd, hs, h4, hbx, hbe⟩
    obtain ⟨G, hg, e⟩ := act83 a hd hs
    rw [hg] at h4
    subst e
    rw [h4]
    have l0 := hbx.c0
    have l1 := hbx.c1
    have m0 := hbx.f 0
    have m1 := hbx.f 1
    have HBS : Hid (Box _ _ _ _) := hbx.set (.slice none 0 0) (.slice none 0 0)
    have HBE : Hid (Below w.heap.size w w') := hbe
    clear hg hd hs hbx h4 hbe
    go_wp2
    rw [jump_ret]
    have hr0 := HBS.out.c0
    have hr1 := HBS.out.c1
    exact bodyPost_ret (v := .tuple #[.agg #[.slice none 0 0, .slice none 0 0], .int .i64 4]) (by simp [results, Tryd.results8, go_sem, hr0, hr1]) rfl ⟨rfl, (HBE.out.setCell (by simp; omega) _).setCell (by simp; omega) _⟩

set_option maxRecDepth 100000 in
set_option maxHeartbeats 2000000 in
theorem mul_four3 {a0 a1 b0 b1 : Value} {p q q' r : Nat} {l m : List Int} {w : World} (ha : Tens w a0 a1 ([(p : Int), (q : Int)], l)) (ht : Tens w b0 b1 ([(q' : Int), (r : Int)], m)) (hx : tok ([(p : Int), (q : Int)], l) = true) (hy : tok ([(q' : Int), (r : Int)], m) = true) (hne0 : q ≠ q') :
    Calls Tryd.prog 8 #[.agg #[a0, a1], .agg #[b0, b1]] w fun e w' => e = .returned (.tuple #[.agg #[.slice none 0 0, .slice none 0 0], .int .i64 4]) ∧ Below w.heap.size w w' := by
  have hne : ((q : Int) != (q' : Int)) = true := by simp; omega
  have hl := (tok2 hx).2.2.2.2
  have hm := (tok2 hy).2.2.2.2
  obtain ⟨db, dof, dc, ab, ao, ac, A⟩ := ha.mat hl (Nat.mul_pos (tok2 hx).1 (tok2 hx).2.2.1)
  obtain ⟨eb, eof, ec, bb, bo, bc, B⟩ := ht.mat hm (Nat.mul_pos (tok2 hy).1 (tok2 hy).2.2.1)
  obtain rfl := A.e0
  obtain rfl := A.e1
  obtain rfl := B.e0
  obtain rfl := B.e1
  have hdc := A.hdc
  have hec := B.hdc
  have HC1 : Hid (w.cell? ⟨db, dof + 1, none⟩ = some (.int .i64 q)) := A.c1
  have HC2 : Hid (w.cell? ⟨eb, eof, none⟩ = some (.int .i64 q')) := B.c0
  clear A B hl hm
  obtain ⟨s, hs⟩ : ∃ s : Ten, s = ([(p : Int), (q : Int)], l) := ⟨_, rfl⟩
  obtain ⟨t, ht'⟩ : ∃ t : Ten, t = ([(q' : Int), (r : Int)], m) := ⟨_, rfl⟩
  rw [← hs] at ha hx
  rw [← ht'] at ht hy
  clear hs ht'
  obtain ⟨a0, ha0⟩ : ∃ v, v = Value.slice (some ⟨db, dof, none⟩) 2 dc := ⟨_, rfl⟩
  obtain ⟨Nq, hNq⟩ : ∃ N, p * q = N := ⟨_, rfl⟩
  obtain ⟨Mq, hMq⟩ : ∃ N, q' * r = N := ⟨_, rfl⟩
  rw [hNq] at ha ⊢
  rw [hMq] at ht ⊢
  clear hNq hMq ha0 a0
  obtain ⟨U, hU⟩ : ∃ U, U = ((((w.alloc (.cells #[(.slice (some ⟨db, dof, none⟩) 2 dc), (.slice (some ⟨ab, ao, none⟩) Nq ac)] 28)).alloc (.cells #[(.slice (some ⟨eb, eof, none⟩) 2 ec), (.slice (some ⟨bb, bo, none⟩) Mq bc)] 28)).alloc (.cells #[.slice none 0 0, .slice none 0 0] 28)).alloc (.cells #[.slice none 0 0, .slice none 0 0] 28)) := ⟨_, rfl⟩
  have hb : Below w.heap.size w U := by rw [hU]; exact ((((Below.refl _ _).alloc (Nat.le_refl _) _).alloc (by simp) _).alloc (by simp; omega) _).alloc (by simp; omega) _
  have HA : Hid (Tens U (.slice (some ⟨db, dof, none⟩) 2 dc) (.slice (some ⟨ab, ao, none⟩) Nq ac) s) := ha.later hb
  have HT : Hid (Tens U (.slice (some ⟨eb, eof, none⟩) 2 ec) (.slice (some ⟨bb, bo, none⟩) Mq bc) t) := ht.later hb
  have HB : Hid (Below w.heap.size w U) := hb
  have HBA : Hid (Box U w.heap.size (.slice (some ⟨db, dof, none⟩) 2 dc) (.slice (some ⟨ab, ao, none⟩) Nq ac)) := by show Box _ _ _ _; rw [hU]; exact (((Box.new w (.slice (some ⟨db, dof, none⟩) 2 dc) (.slice (some ⟨ab, ao, none⟩) Nq ac)).alloc _).alloc _).alloc _
  have HBB : Hid (Box U (w.heap.size + 1) (.slice (some ⟨eb, eof, none⟩) 2 ec) (.slice (some ⟨bb, bo, none⟩) Mq bc)) := by
    show Box _ _ _ _
    have := ((Box.new (w.alloc (.cells #[(.slice (some ⟨db, dof, none⟩) 2 dc), (.slice (some ⟨ab, ao, none⟩) Nq ac)] 28)) (.slice (some ⟨eb, eof, none⟩) 2 ec) (.slice (some ⟨bb, bo, none⟩) Mq bc)).alloc (.cells #[.slice none 0 0, .slice none 0 0] 28)).alloc (.cells #[.slice none 0 0, .slice none 0 0] 28)
    simp only [World.size_alloc] at this
    rw [hU]
    exact this
  have HBX : Hid (Box U (w.heap.size + 1 + 1) (.slice none 0 0) (.slice none 0 0)) := by
    show Box _ _ _ _
    have := (Box.new ((w.alloc (.cells #[(.slice (some ⟨db, dof, none⟩) 2 dc), (.slice (some ⟨ab, ao, none⟩) Nq ac)] 28)).alloc (.cells #[(.slice (some ⟨eb, eof, none⟩) 2 ec), (.slice (some ⟨bb, bo, none⟩) Mq bc)] 28)) (.slice none 0 0) (.slice none 0 0)).alloc (.cells #[.slice none 0 0, .slice none 0 0] 28)
    simp only [World.size_alloc] at this
    rw [hU]
    exact this
  have HK : Hid (tkE s = 0) := by show _ = _; simp [tkE, hx]
  have HK2 : Hid (tkE t = 0) := by show _ = _; simp [tkE, hy]
  have k0 := HBA.out.c0
  have k1 := HBA.out.c1
  clear ha ht hb hx hy
  go_enter Tryd.func8, Tryd.ntmps8
  go_wp2_with fail
  refine wp_scope_jumps 1 (Jg 83 4 (w.heap.size + 1 + 1) w) (fun _ _ => 0) rfl ?_ ?_
  · go_wp2_with fail
    rw [← hU]
    clear hU
    refine (tensor_to 0 HA.out HK.out).mono ?_
    rintro e w2 ⟨rfl, hb2⟩
    have HA2 : Hid (Tens w2 _ _ t) := HT.out.later hb2
    have HU2 : Hid (Below U.heap.size U w2) := hb2
    have q0 := (HBB.out.later hb2).c0
    have q1 := (HBB.out.later hb2).c1
    clear hb2 k0 k1
    go_wp2_with fail
    refine (tensor_to 0 HA2.out HK2.out).mono ?_
    rintro e w3 ⟨rfl, hb3⟩
    have HU3 : Hid (Below U.heap.size U w3) := Below.after HU2.out hb3
    have HB3 : Hid (Below w.heap.size w w3) := Below.after HB.out HU3.out
    have HBX3 : Hid (Box w3 (w.heap.size + 1 + 1) (.slice none 0 0) (.slice none 0 0)) := HBX.out.later HU3.out
    clear hb3 q0 q1
    have a0 := (HBA.out.later HU3.out).c0
    have a1 := (HBB.out.later HU3.out).c0
    have a2 := cell_later HB3.out HC1.out
    have a3 := cell_later HB3.out HC2.out
    go_wp2_with fail
    go_quiet (fail)
    go_wp2
    go_step3
    exact ⟨rfl, rfl, rfl, rfl, HBX3.out, Below.drewN HB3.out _⟩
  · rintro a w' ⟨hd, hs, h4, hbx, hbe⟩
    obtain ⟨G, hg, e⟩ := act83 a hd hs
    rw [hg] at h4
    subst e
    rw [h4]
    have l0 := hbx.c0
    have l1 := hbx.c1
    have m0 := hbx.f 0
    have m1 := hbx.f 1
    have HBS : Hid (Box _ _ _ _) := hbx.set (.slice none 0 0) (.slice none 0 0)
    have HBE : Hid (Below w.heap.size w w') := hbe
    clear hg hd hs hbx h4 hbe
    go_wp2
    rw [jump_ret]
    have hr0 := HBS.out.c0
    have hr1 := HBS.out.c1
    exact bodyPost_ret (v := .tuple #[.agg #[.slice none 0 0, .slice none 0 0], .int .i64 4]) (by simp [results, Tryd.results8, go_sem, hr0, hr1]) rfl ⟨rfl, (HBE.out.setCell (by simp; omega) _).setCell (by simp; omega) _⟩

end Go.Proofs.YtgnicnaiaijdcaaDoor
