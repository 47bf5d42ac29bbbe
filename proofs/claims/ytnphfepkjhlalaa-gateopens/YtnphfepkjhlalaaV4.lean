/- Contract: the page's Infer, of the kind pick. -/
import Derived.Test.YtnphfepkjhlalaaV1
namespace Go.Proofs.Ytnphfepkjhlalaa
set_option linter.unusedVariables false
set_option linter.unusedSimpArgs false
open Go.RowKit

set_option maxRecDepth 100000 in
set_option maxHeartbeats 4000000 in
theorem infer_four {a0 a1 b0 b1 : Value} {s t : Ten} {w : World} {P : Nat} (n : Nat) (ha : Tens w a0 a1 s) (ht : Tens w b0 b1 t) (hx : tok s = true) (h1 : 1 ≤ n) (h8 : n ≤ 8) (hd : ¬ lastD s.1 % n = 0)
    (p0 : w.cell? ⟨P, 0, none⟩ = some a0) (p1 : w.cell? ⟨P, 1, none⟩ = some b0) :
    Calls Try.prog 19 #[.int .i64 17, .int .i64 n, .slice none 0 0, .slice (some ⟨P, 0, none⟩) 2 2] w fun e w' => e = .returned (.tuple #[.slice none 0 0, .bool false]) ∧ Below w.heap.size w w' := by
  obtain ⟨b, off, c, E, L, rfl, hE, hL, l1, l8, hc, hE2, hbw, hcell⟩ := last_of ha hx
  obtain ⟨ba, bn, bc, rfl⟩ := ht.1.shape3
  rw [hL] at hd
  have n0 : ¬ n = 0 := by omega
  have n00 : ¬ (n : Int) = 0 := by omega
  have hwE : IntKind.i64.wrap (((E + 1 : Nat) : Int) - 1) = (E : Int) := by rw [wrap_small _ (by omega) (by omega)]; omega
  have hwE2 : IntKind.i64.wrap ((E : Int) + 1 - 1) = (E : Int) := by rw [wrap_small _ (by omega) (by omega)]; omega
  obtain ⟨r, hr⟩ : ∃ r, L % n = r := ⟨_, rfl⟩
  have hrn : r < n := by rw [← hr]; exact Nat.mod_lt _ (by omega)
  have f0 : (L : Int).tmod (n : Int) = (r : Int) := by rw [Int.tmod_eq_emod_of_nonneg (by omega), ← hr]; simp
  have f1 : (L : Int) % (n : Int) = (r : Int) := by rw [← hr]; simp
  have f2 : IntKind.i64.wrap (r : Int) = (r : Int) := wrap_small _ (by omega) (by omega)
  have f4 : IntKind.i64.wrap ((L : Int).tmod (n : Int)) = (r : Int) := by rw [f0, f2]
  rw [f1] at hd
  have z0 : (0 : Int) ≤ (E : Int) := by omega
  have z1 : (E : Int) < ((E + 1 : Nat) : Int) := by omega
  have z2 : (E : Int) < (E : Int) + 1 := by omega
  obtain rfl | hr0 := Nat.eq_zero_or_pos r
  · exact absurd rfl hd
  have g1 : ((r : Int) == 0) = false := by simp; omega
  have g2 : ((r : Int) != 0) = true := by simp; omega
  have g3 : decide ((r : Int) = 0) = false := by simp; omega
  have g4 : ¬ (r : Int) = 0 := by omega
  clear ha ht hx hE hL hr hd
  go_enter Try.func19, Try.ntmps19
  go_wp2_with fail
  go_quiet (fail)
  go_wp2
  go_ret2
  exact ⟨rfl, Below.drewN (Below.refl _ _) _⟩

set_option maxRecDepth 100000 in
set_option maxHeartbeats 4000000 in
theorem infer_ok {a0 a1 b0 b1 : Value} {s t : Ten} {w : World} {P : Nat} (n : Nat) (q : Bool) (ha : Tens w a0 a1 s) (ht : Tens w b0 b1 t) (hx : tok s = true) (h1 : 1 ≤ n) (h8 : n ≤ 8) (hd : lastD s.1 % n = 0) (hq : (lesD s.1 n == t.1) = q)
    (p0 : w.cell? ⟨P, 0, none⟩ = some a0) (p1 : w.cell? ⟨P, 1, none⟩ = some b0) :
    Calls Try.prog 19 #[.int .i64 17, .int .i64 n, .slice none 0 0, .slice (some ⟨P, 0, none⟩) 2 2] w fun e w' => ∃ xa xn xc, e = .returned (.tuple #[.slice xa (xn + 1) xc, .bool q]) ∧ xn ≤ 2 ∧ Below w.heap.size w w' := by
  obtain ⟨b, off, c, E, L, rfl, hE, hL, l1, l8, hc, hE2, hbw, hcell⟩ := last_of ha hx
  obtain ⟨ba, bn, bc, rfl⟩ := ht.1.shape3
  rw [hL] at hd
  have n0 : ¬ n = 0 := by omega
  have n00 : ¬ (n : Int) = 0 := by omega
  have hwE : IntKind.i64.wrap (((E + 1 : Nat) : Int) - 1) = (E : Int) := by rw [wrap_small _ (by omega) (by omega)]; omega
  have hwE2 : IntKind.i64.wrap ((E : Int) + 1 - 1) = (E : Int) := by rw [wrap_small _ (by omega) (by omega)]; omega
  obtain ⟨r, hr⟩ : ∃ r, L % n = r := ⟨_, rfl⟩
  have hrn : r < n := by rw [← hr]; exact Nat.mod_lt _ (by omega)
  have f0 : (L : Int).tmod (n : Int) = (r : Int) := by rw [Int.tmod_eq_emod_of_nonneg (by omega), ← hr]; simp
  have f1 : (L : Int) % (n : Int) = (r : Int) := by rw [← hr]; simp
  have f2 : IntKind.i64.wrap (r : Int) = (r : Int) := wrap_small _ (by omega) (by omega)
  have f4 : IntKind.i64.wrap ((L : Int).tmod (n : Int)) = (r : Int) := by rw [f0, f2]
  rw [f1] at hd
  have z0 : (0 : Int) ≤ (E : Int) := by omega
  have z1 : (E : Int) < ((E + 1 : Nat) : Int) := by omega
  have z2 : (E : Int) < (E : Int) + 1 := by omega
  have hr0 : r = 0 := by omega
  subst hr0
  have HA : Hid (Ints w (.slice (some ⟨b, off, none⟩) (E + 1) c) s.1) := ha.1
  have HT : Hid (Ints w (.slice ba bn bc) t.1) := ht.1
  have HOK : Hid (okd s.1 = true ∧ s.1.length = E + 1) := ⟨tok_okd hx, hE⟩
  have HQ : Hid ((lesD s.1 n == t.1) = q) := hq
  have HP : Hid (w.cell? ⟨P, 0, none⟩ = some (.slice (some ⟨b, off, none⟩) (E + 1) c) ∧ w.cell? ⟨P, 1, none⟩ = some (.slice ba bn bc)) := ⟨p0, p1⟩
  clear ha ht hx hE hL hr hd hq
  go_enter Try.func19, Try.ntmps19
  go_wp2_with fail
  go_quiet (fail)
  have hB : Below w.heap.size w (w.drewN nq) := Below.drewN (Below.refl _ _) _
  generalize w.drewN nq = W at hB ⊢
  have HB : Hid (Below w.heap.size w W) := hB
  have q0 := cell_later hB HP.out.1
  clear hB p0 p1 hcell
  go_wp2_with fail
  refine (less_ok n (HA.out.later HB.out) HOK.out.1 h1 h8).mono ?_
  rintro e w2 ⟨x, rfl, ho, hb2⟩
  obtain ⟨la, ln, lc, rfl⟩ := ho.ints.shape3
  have HL : Hid (Ints w2 (.slice la ln lc) (lesD s.1 n)) := ho.ints
  have HB2 : Hid (Below w.heap.size w w2) := Below.after HB.out hb2
  clear ho hb2 q0
  have q0 := cell_later HB2.out HP.out.1
  have q1 := cell_later HB2.out HP.out.2
  go_wp2_with fail
  go_region_held3 (fun w' => w'.cell? ⟨P, 0, none⟩ = some (.slice (some ⟨b, off, none⟩) (E + 1) c) ∧ w'.cell? ⟨P, 1, none⟩ = some (.slice ba bn bc)) (go_keep)
    (first
      | (go_at_call 26; refine (copy_Own (d := s.1) ?_).mono ?_; exact HA.out.later (Below.after HB2.out (Below.refl _ _).drew); rintro r w4 ⟨y, rfl, ho4, hb4⟩; obtain ⟨ya, yc, hy⟩ := ho4.ints.shape; rw [HOK.out.2] at hy; subst hy; have HB4 : Hid (Below w2.heap.size w2 w4) := Below.after (Below.refl _ _).drew hb4; have a_0 := cell_later HB4.out q0; have a_1 := cell_later HB4.out q1; clear ho4 hb4)
      | (go_at_call 17; refine (eqn_to q (a := lesD s.1 n) (b := t.1) ?_ ?_ HQ.out).mono ?_; exact HL.out.later HB4.out; exact HT.out.later (Below.after HB2.out HB4.out); rintro r w5 ⟨rfl, m5, e5⟩; have HB5 : Hid (Below w2.heap.size w2 w5) := (by show Below _ _ _; rw [e5]; exact Below.drewN HB4.out _); have b_0 := cell_later HB5.out q0; have b_1 := cell_later HB5.out q1; clear e5))
  have HB6 : Hid (Below w.heap.size w w5) := Below.after HB2.out HB5.out
  clear a_0 a_1 b_0 b_1 q0 q1
  go_wp2
  go_ret2
  exact ⟨_, _, _, rfl, hE2, HB6.out⟩
end Go.Proofs.Ytnphfepkjhlalaa
