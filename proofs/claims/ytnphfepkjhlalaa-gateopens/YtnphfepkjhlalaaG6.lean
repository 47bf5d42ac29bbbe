/- Contract: gate's fewer. -/
import Derived.Test.YtnphfepkjhlalaaG5
namespace Go.Proofs.Ytnphfepkjhlalaa
set_option linter.unusedVariables false
set_option linter.unusedSimpArgs false
open Go.RowKit

def lastD (d : List Int) : Int := d.getD (d.length - 1) 0
def lesD (d : List Int) (n : Int) : List Int := d.set (d.length - 1) (lastD d / n)
def fwE (t : Ten) (n : Int) : Int := if tok t = true ∧ 1 ≤ n ∧ n ≤ 8 then (if lastD t.1 % n = 0 then 0 else 4) else 1
def fwD (t : Ten) (n : Int) : List Int := if fwE t n = 0 then lesD t.1 n else []
theorem lastD_bd {d : List Int} (h : okd d = true) : 1 ≤ lastD d ∧ lastD d ≤ 8 := by
  obtain ⟨h1, _, h3, _⟩ := okd_parts h
  have hl : d.length - 1 < d.length := by omega
  have : lastD d = d[d.length - 1] := by simp [lastD, hl]
  rw [this]
  exact inr_mem h3 (List.getElem_mem hl)
/-- A jump with nothing but what was there. -/
def Jn (n : Nat) (w : World) (a : Act) (w' : World) : Prop := a.defers = [] ∧ a.tmps.size = n ∧ Below w.heap.size w w'

set_option maxRecDepth 100000 in
set_option maxHeartbeats 2000000 in
theorem few_bad1 {a0 a1 : Value} {t : Ten} {w : World} (n : Int) (ha : Tens w a0 a1 t) (hx : tok t = false) :
    Calls Try.prog 29 #[.agg #[a0, a1], .int .i64 n] w fun e w' => e = .returned (.tuple #[.slice none 0 0, .int .i64 1]) ∧ Below w.heap.size w w' := by
  obtain ⟨aa, an, ac, rfl⟩ := ha.1.shape3
  obtain ⟨ba, bn, bc, rfl⟩ := ha.2.shape3
  obtain ⟨U, hU⟩ : ∃ U, U = w.alloc (.cells #[.slice aa an ac, .slice ba bn bc] 28) := ⟨_, rfl⟩
  have hb : Below w.heap.size w U := by rw [hU]; exact (Below.refl _ _).alloc (Nat.le_refl _) _
  have HA : Hid (Tens U (.slice aa an ac) (.slice ba bn bc) t) := ha.later hb
  have HB : Hid (Below w.heap.size w U) := hb
  have HK : Hid (tkE t = 1) := by show _ = _; simp [tkE, hx]
  clear ha hb hx
  go_enter Try.func29, Try.ntmps29
  go_wp2_with fail
  refine wp_scope_jumps 0 (Jn 42 w) (fun _ _ => 0) rfl ?_ ?_
  · go_wp2_with fail
    rw [← hU]
    refine (tensor_to 1 HA.out HK.out).mono ?_
    rintro e w2 ⟨rfl, hb2⟩
    have HB2 : Hid (Below w.heap.size w w2) := Below.after HB.out hb2
    clear hb2
    go_wp2
    go_step3
    exact ⟨rfl, rfl, rfl, HB2.out⟩
  · rintro a w' ⟨hd, hs, hbe⟩
    obtain ⟨G, hg, e⟩ := act42 a hd hs
    subst e
    have HBE : Hid (Below w.heap.size w w') := hbe
    clear hg hd hs hbe
    go_wp2
    rw [jump_ret]
    exact bodyPost_ret (v := .tuple #[.slice none 0 0, .int .i64 1]) (by simp [results, Try.results29, go_sem]) rfl ⟨rfl, HBE.out⟩

set_option maxRecDepth 100000 in
set_option maxHeartbeats 2000000 in
theorem few_bad2 {a0 a1 : Value} {t : Ten} {w : World} (n : Int) (ha : Tens w a0 a1 t) (hx : tok t = true) (hn : ¬ (1 ≤ n ∧ n ≤ 8)) :
    Calls Try.prog 29 #[.agg #[a0, a1], .int .i64 n] w fun e w' => e = .returned (.tuple #[.slice none 0 0, .int .i64 1]) ∧ Below w.heap.size w w' := by
  obtain ⟨aa, an, ac, rfl⟩ := ha.1.shape3
  obtain ⟨ba, bn, bc, rfl⟩ := ha.2.shape3
  obtain ⟨U, hU⟩ : ∃ U, U = w.alloc (.cells #[.slice aa an ac, .slice ba bn bc] 28) := ⟨_, rfl⟩
  have hb : Below w.heap.size w U := by rw [hU]; exact (Below.refl _ _).alloc (Nat.le_refl _) _
  have HA : Hid (Tens U (.slice aa an ac) (.slice ba bn bc) t) := ha.later hb
  have HB : Hid (Below w.heap.size w U) := hb
  have HK : Hid (tkE t = 0) := by show _ = _; simp [tkE, hx]
  clear ha hb hx
  by_cases h1 : n < 1
  · clear hn
    go_enter Try.func29, Try.ntmps29
    go_wp2_with fail
    refine wp_scope_jumps 0 (Jn 42 w) (fun _ _ => 0) rfl ?_ ?_
    · go_wp2_with fail
      rw [← hU]
      refine (tensor_to 0 HA.out HK.out).mono ?_
      rintro e w2 ⟨rfl, hb2⟩
      have HB2 : Hid (Below w.heap.size w w2) := Below.after HB.out hb2
      clear hb2
      go_wp2
      go_step3
      exact ⟨rfl, rfl, rfl, HB2.out⟩
    · rintro a w' ⟨hd, hs, hbe⟩
      obtain ⟨G, hg, e⟩ := act42 a hd hs
      subst e
      have HBE : Hid (Below w.heap.size w w') := hbe
      clear hg hd hs hbe
      go_wp2
      rw [jump_ret]
      exact bodyPost_ret (v := .tuple #[.slice none 0 0, .int .i64 1]) (by simp [results, Try.results29, go_sem]) rfl ⟨rfl, HBE.out⟩
  · have h8 : 8 < n := by omega
    clear hn
    go_enter Try.func29, Try.ntmps29
    go_wp2_with fail
    refine wp_scope_jumps 0 (Jn 42 w) (fun _ _ => 0) rfl ?_ ?_
    · go_wp2_with fail
      rw [← hU]
      refine (tensor_to 0 HA.out HK.out).mono ?_
      rintro e w2 ⟨rfl, hb2⟩
      have HB2 : Hid (Below w.heap.size w w2) := Below.after HB.out hb2
      clear hb2
      go_wp2
      go_step3
      exact ⟨rfl, rfl, rfl, HB2.out⟩
    · rintro a w' ⟨hd, hs, hbe⟩
      obtain ⟨G, hg, e⟩ := act42 a hd hs
      subst e
      have HBE : Hid (Below w.heap.size w w') := hbe
      clear hg hd hs hbe
      go_wp2
      rw [jump_ret]
      exact bodyPost_ret (v := .tuple #[.slice none 0 0, .int .i64 1]) (by simp [results, Try.results29, go_sem]) rfl ⟨rfl, HBE.out⟩

/-- A tensor that may be: its last dim in memory. -/
theorem last_of {w : World} {a0 a1 : Value} {t : Ten} (ha : Tens w a0 a1 t) (hx : tok t = true) :
    ∃ b off c E L : Nat, a0 = .slice (some ⟨b, off, none⟩) (E + 1) c ∧ t.1.length = E + 1 ∧ lastD t.1 = (L : Int) ∧ 1 ≤ L ∧ L ≤ 8 ∧ E + 1 ≤ c ∧ E ≤ 2 ∧ b < w.heap.size ∧ w.cell? ⟨b, off + E, none⟩ = some (.int .i64 L) := by
  have ho := tok_okd hx
  obtain ⟨h1, h3, _, _⟩ := okd_parts ho
  obtain ⟨l1, l8⟩ := lastD_bd ho
  have hold := ha.1.old h1
  rcases ha.1.cases with ⟨e, _⟩ | ⟨b, off, c, rfl, h0, hc, hb, HC⟩
  · rw [e] at h1; simp at h1
  obtain ⟨E, hE⟩ : ∃ E, t.1.length = E + 1 := ⟨t.1.length - 1, by omega⟩
  refine ⟨b, off, c, E, (lastD t.1).toNat, by rw [hE], hE, by omega, by omega, by omega, by omega, by omega, hold b rfl, ?_⟩
  have := Ints.cellD (n := 0) (c := 0) HC E (by omega)
  rw [this]
  congr 2
  have : lastD t.1 = t.1.getD E 0 := by rw [lastD, hE]; rfl
  omega

set_option maxRecDepth 100000 in
set_option maxHeartbeats 2000000 in
theorem few_four {a0 a1 : Value} {t : Ten} {w : World} (n : Nat) (ha : Tens w a0 a1 t) (hx : tok t = true) (h1 : 1 ≤ n) (h8 : n ≤ 8) (hd : ¬ lastD t.1 % n = 0) :
    Calls Try.prog 29 #[.agg #[a0, a1], .int .i64 n] w fun e w' => e = .returned (.tuple #[.slice none 0 0, .int .i64 4]) ∧ Below w.heap.size w w' := by
  obtain ⟨b, off, c, E, L, rfl, hE, hL, l1, l8, hc, hE2, hbw, hcell⟩ := last_of ha hx
  obtain ⟨ba, bn, bc, rfl⟩ := ha.2.shape3
  rw [hL] at hd
  have hd2 : ((L : Int) % (n : Int) != 0) = true := by simpa using hd
  have n0 : ¬ n = 0 := by omega
  obtain ⟨U, hU⟩ : ∃ U, U = w.alloc (.cells #[.slice (some ⟨b, off, none⟩) (E + 1) c, .slice ba bn bc] 28) := ⟨_, rfl⟩
  have hb : Below w.heap.size w U := by rw [hU]; exact (Below.refl _ _).alloc (Nat.le_refl _) _
  have HA : Hid (Tens U (.slice (some ⟨b, off, none⟩) (E + 1) c) (.slice ba bn bc) t) := ha.later hb
  have HB : Hid (Below w.heap.size w U) := hb
  have HBA : Hid (Box U w.heap.size (.slice (some ⟨b, off, none⟩) (E + 1) c) (.slice ba bn bc)) := by show Box _ _ _ _; rw [hU]; exact Box.new w _ _
  have HK : Hid (tkE t = 0) := by show _ = _; simp [tkE, hx]
  have HC : Hid (w.cell? ⟨b, off + E, none⟩ = some (.int .i64 L)) := hcell
  clear ha hb hx hcell hd
  go_enter Try.func29, Try.ntmps29
  go_wp2_with fail
  refine wp_scope_jumps 1 (Jn 42 w) (fun _ _ => 0) rfl ?_ ?_
  · go_wp2_with fail
    rw [← hU]
    clear hU
    refine (tensor_to 0 HA.out HK.out).mono ?_
    rintro e w2 ⟨rfl, hb2⟩
    have HB2 : Hid (Below w.heap.size w w2) := Below.after HB.out hb2
    have q0 := (HBA.out.later hb2).c0
    have q1 := cell_later HB2.out HC.out
    clear hb2
    go_wp2
    go_step3
    exact ⟨rfl, rfl, rfl, HB2.out⟩
  · rintro a w' ⟨hd, hs, hbe⟩
    obtain ⟨G, hg, e⟩ := act42 a hd hs
    subst e
    have HBE : Hid (Below w.heap.size w w') := hbe
    clear hg hd hs hbe
    go_wp2
    rw [jump_ret]
    exact bodyPost_ret (v := .tuple #[.slice none 0 0, .int .i64 4]) (by simp [results, Try.results29, go_sem]) rfl ⟨rfl, HBE.out⟩

set_option maxRecDepth 100000 in
set_option maxHeartbeats 2000000 in
theorem few_ok {a0 a1 : Value} {t : Ten} {w : World} (n : Nat) (ha : Tens w a0 a1 t) (hx : tok t = true) (h1 : 1 ≤ n) (h8 : n ≤ 8) (hd : lastD t.1 % n = 0) :
    Calls Try.prog 29 #[.agg #[a0, a1], .int .i64 n] w fun e w' => ∃ v, e = .returned (.tuple #[v, .int .i64 0]) ∧ Own w' w.heap.size v (lesD t.1 n) ∧ Below w.heap.size w w' := by
  obtain ⟨b, off, c, E, L, rfl, hE, hL, l1, l8, hc, hE2, hbw, hcell⟩ := last_of ha hx
  obtain ⟨ba, bn, bc, rfl⟩ := ha.2.shape3
  rw [hL] at hd
  have hd2 : ((L : Int) % (n : Int) != 0) = false := by simpa using hd
  have n0 : ¬ n = 0 := by omega
  obtain ⟨Q, hQ⟩ : ∃ Q, L / n = Q := ⟨_, rfl⟩
  have hQL : Q ≤ 8 := by rw [← hQ]; exact Nat.le_trans (Nat.div_le_self _ _) l8
  have f0 : (L : Int).tdiv (n : Int) = (Q : Int) := by rw [Int.tdiv_eq_ediv_of_nonneg (by omega), ← hQ]; simp
  have f2 : IntKind.i64.wrap (Q : Int) = (Q : Int) := wrap_small _ (by omega) (by omega)
  have f4 : IntKind.i64.wrap ((L : Int).tdiv (n : Int)) = (Q : Int) := by rw [f0, f2]
  have f5 : (L : Int) / (n : Int) = (Q : Int) := by rw [← hQ]; simp
  have f6 : wrap64 ((L : Int) / (n : Int)) = (Q : Int) := by rw [f5]; exact wrap_in (by omega)
  have HLE : Hid (lesD t.1 n = t.1.set E (Q : Int)) := by
    show _ = _
    rw [lesD, hL, hE, ← hQ]
    simp
  obtain ⟨U, hU⟩ : ∃ U, U = w.alloc (.cells #[.slice (some ⟨b, off, none⟩) (E + 1) c, .slice ba bn bc] 28) := ⟨_, rfl⟩
  have hb : Below w.heap.size w U := by rw [hU]; exact (Below.refl _ _).alloc (Nat.le_refl _) _
  have HA : Hid (Tens U (.slice (some ⟨b, off, none⟩) (E + 1) c) (.slice ba bn bc) t) := ha.later hb
  have HB : Hid (Below w.heap.size w U) := hb
  have HBA : Hid (Box U w.heap.size (.slice (some ⟨b, off, none⟩) (E + 1) c) (.slice ba bn bc)) := by show Box _ _ _ _; rw [hU]; exact Box.new w _ _
  have HK : Hid (tkE t = 0) := by show _ = _; simp [tkE, hx]
  have HC : Hid (w.cell? ⟨b, off + E, none⟩ = some (.int .i64 L)) := hcell
  have HE : Hid (t.1.length = E + 1 ∧ t.1.getD E 0 = L) := ⟨hE, by rw [← hL, lastD, hE]; rfl⟩
  clear ha hb hx hcell hd hE hL hQ
  go_enter Try.func29, Try.ntmps29
  go_wp2_with fail
  refine wp_scope_jumps 0 (fun _ _ => False) (fun _ _ => 0) rfl ?_ ?_
  · go_wp2_with fail
    rw [← hU]
    clear hU
    refine (tensor_to 0 HA.out HK.out).mono ?_
    rintro e w2 ⟨rfl, hb2⟩
    have HB2 : Hid (Below w.heap.size w w2) := Below.after HB.out hb2
    have HA2 : Hid (Tens w2 (.slice (some ⟨b, off, none⟩) (E + 1) c) (.slice ba bn bc) t) := HA.out.later hb2
    have q0 := (HBA.out.later hb2).c0
    have q1 := cell_later HB2.out HC.out
    clear hb2
    go_wp2_with fail
    refine (clone_own HA2.out.1 (by rw [HE.out.1]; omega)).mono ?_
    rintro e w3 ⟨v', rfl, ho, hb3⟩
    obtain ⟨g, cap, ev', hcap, hg1, hg2⟩ := ho.form (by rw [HE.out.1]; omega)
    rw [HE.out.1] at ev' hcap
    subst ev'
    obtain ⟨p1, p2, p3⟩ := ho.put HE.out.1 E (by omega) (Q : Int)
    rw [HE.out.2] at p1
    rw [← HLE.out] at p3
    have HP : Hid (Own (w3.setCell ⟨g, E, none⟩ (.int .i64 Q)) w2.heap.size (.slice (some ⟨g, 0, none⟩) (E + 1) cap) (lesD t.1 n)) := p3
    have HB3 : Hid (Below w.heap.size w w3) := Below.after HB2.out hb3
    have hs2 := HB2.out.size
    clear ho hb3 p3 q0 q1
    go_wp2
    rw [jump_ret]
    exact bodyPost_ret (v := .tuple #[.slice (some ⟨g, 0, none⟩) (E + 1) cap, .int .i64 0]) (by simp [results, Try.results29, go_sem]) rfl ⟨_, rfl, HP.out.mono (by omega), HB3.out.setCell (by simp; omega) _⟩
  · intro a w' h
    exact h.elim
theorem few_any {a0 a1 : Value} {t : Ten} {w : World} (n : Int) (ha : Tens w a0 a1 t) :
    Calls Try.prog 29 #[.agg #[a0, a1], .int .i64 n] w fun e w' => ∃ v, e = .returned (.tuple #[v, .int .i64 (fwE t n)]) ∧ Own w' w.heap.size v (fwD t n) ∧ Below w.heap.size w w' := by
  have bad : ∀ c : Int, c ≠ 0 → fwE t n = c → (Calls Try.prog 29 #[.agg #[a0, a1], .int .i64 n] w fun e w' => e = .returned (.tuple #[.slice none 0 0, .int .i64 c]) ∧ Below w.heap.size w w') →
      Calls Try.prog 29 #[.agg #[a0, a1], .int .i64 n] w fun e w' => ∃ v, e = .returned (.tuple #[v, .int .i64 (fwE t n)]) ∧ Own w' w.heap.size v (fwD t n) ∧ Below w.heap.size w w' := by
    intro c hc he h
    refine h.mono ?_
    rintro e w' ⟨rfl, hb⟩
    refine ⟨.slice none 0 0, by rw [he], ?_, hb⟩
    rw [fwD, he, if_neg hc]
    exact Own.nil _ _
  cases hx : tok t with
  | false => exact bad 1 (by decide) (by simp [fwE, hx]) (few_bad1 n ha hx)
  | true =>
    by_cases hn : 1 ≤ n ∧ n ≤ 8
    · obtain ⟨k, rfl⟩ : ∃ k : Nat, n = k := ⟨n.toNat, by omega⟩
      by_cases hd : lastD t.1 % (k : Int) = 0
      · have he : fwE t k = 0 := by rw [fwE, if_pos ⟨hx, hn⟩, if_pos hd]
        rw [fwD, he, if_pos rfl]
        exact few_ok k ha hx (by omega) (by omega) hd
      · exact bad 4 (by decide) (by rw [fwE, if_pos ⟨hx, hn⟩, if_neg hd]) (few_four k ha hx (by omega) (by omega) hd)
    · exact bad 1 (by decide) (by rw [fwE, if_neg (fun h => hn h.2)]) (few_bad2 n ha hx hn)
end Go.Proofs.Ytnphfepkjhlalaa
