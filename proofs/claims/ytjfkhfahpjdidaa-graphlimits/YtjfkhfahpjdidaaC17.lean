/- Carried: C18, C19. -/
import Derived.Test.YtjfkhfahpjdidaaC16
namespace Go.Proofs.Ytjfkhfahpjdidaa
set_option linter.unusedVariables false
set_option linter.unusedSimpArgs false
set_option maxRecDepth 100000
open Go.RowKit

set_option maxRecDepth 100000 in
set_option maxHeartbeats 4000000 in
theorem infer_k6 {vd a0 b0 : Value} {d0 d1 : List Int} {w : World} {P c : Nat} (n : Int) (hc : 2 ≤ c) (ha : Ints w a0 d0) (hb : Ints w b0 d1) (p0 : w.cell? ⟨P, 0, none⟩ = some a0) (p1 : w.cell? ⟨P, 1, none⟩ = some b0) (q : Bool) (hq : (d0 == d1) = q) :
    Calls Try.prog 27 #[.int .i64 6, .int .i64 n, vd, .slice (some ⟨P, 0, none⟩) 2 c] w fun e w' => ∃ x, e = .returned (.tuple #[x, .bool q]) ∧ Own w' w.heap.size x (d0) ∧ Below w.heap.size w w' := by
  obtain ⟨aa, an, ac, rfl⟩ := ha.shape3
  obtain ⟨ba, bn, bc, rfl⟩ := hb.shape3
  have HA : Hid (Ints w (.slice aa an ac) d0) := ha
  have HT : Hid (Ints w (.slice ba bn bc) d1) := hb
  have HQ : Hid ((d0 == d1) = q) := hq
  clear ha hb hq
  go_enter Try.func27, Try.ntmps27
  go_wp2_with fail
  go_region_held3 (fun w' => w'.cell? ⟨P, 0, none⟩ = some (.slice aa an ac) ∧ w'.cell? ⟨P, 1, none⟩ = some (.slice ba bn bc)) (go_keep)
    (first
      | (go_at_call 38; refine (copy_Own (d := d0) ?_).mono ?_; exact HA.out.later (Below.refl _ _).drew; rintro r w4 ⟨y, rfl, ho4, hb4⟩; have HB4 : Hid (Below w.heap.size w w4) := Below.after (Below.refl _ _).drew hb4; have HO4 : Hid (Own w4 w.heap.size y d0) := ho4; have a_0 := cell_later HB4.out p0; have a_1 := cell_later HB4.out p1; clear ho4 hb4)
      | (go_at_call 11; refine (eqn_to q (a := d0) (b := d1) ?_ ?_ HQ.out).mono ?_; exact HA.out.later HB4.out; exact HT.out.later HB4.out; rintro r w5 ⟨rfl, m5, e5⟩; have HB5 : Hid (Below w4.heap.size w4 w5) := (by show Below _ _ _; rw [e5]; exact Below.drewN (Below.refl _ _) _); have b_0 := cell_later (Below.after HB4.out HB5.out) p0; have b_1 := cell_later (Below.after HB4.out HB5.out) p1; clear e5))
  clear a_0 a_1 b_0 b_1 p0 p1
  go_wp2
  go_ret2
  exact ⟨_, rfl, HO4.out.later HB5.out, Below.after HB4.out HB5.out⟩
set_option maxRecDepth 100000 in
set_option maxHeartbeats 4000000 in
theorem infer_k16 {vd a0 b0 : Value} {d0 d1 : List Int} {w : World} {P c : Nat} (n : Int) (hc : 2 ≤ c) (ha : Ints w a0 d0) (hb : Ints w b0 d1) (p0 : w.cell? ⟨P, 0, none⟩ = some a0) (p1 : w.cell? ⟨P, 1, none⟩ = some b0) (q : Bool) (hq : (d0 == d1) = q) :
    Calls Try.prog 27 #[.int .i64 16, .int .i64 n, vd, .slice (some ⟨P, 0, none⟩) 2 c] w fun e w' => ∃ x, e = .returned (.tuple #[x, .bool q]) ∧ Own w' w.heap.size x (d0) ∧ Below w.heap.size w w' := by
  obtain ⟨aa, an, ac, rfl⟩ := ha.shape3
  obtain ⟨ba, bn, bc, rfl⟩ := hb.shape3
  have HA : Hid (Ints w (.slice aa an ac) d0) := ha
  have HT : Hid (Ints w (.slice ba bn bc) d1) := hb
  have HQ : Hid ((d0 == d1) = q) := hq
  clear ha hb hq
  go_enter Try.func27, Try.ntmps27
  go_wp2_with fail
  go_region_held3 (fun w' => w'.cell? ⟨P, 0, none⟩ = some (.slice aa an ac) ∧ w'.cell? ⟨P, 1, none⟩ = some (.slice ba bn bc)) (go_keep)
    (first
      | (go_at_call 38; refine (copy_Own (d := d0) ?_).mono ?_; exact HA.out.later (Below.refl _ _).drew; rintro r w4 ⟨y, rfl, ho4, hb4⟩; have HB4 : Hid (Below w.heap.size w w4) := Below.after (Below.refl _ _).drew hb4; have HO4 : Hid (Own w4 w.heap.size y d0) := ho4; have a_0 := cell_later HB4.out p0; have a_1 := cell_later HB4.out p1; clear ho4 hb4)
      | (go_at_call 11; refine (eqn_to q (a := d0) (b := d1) ?_ ?_ HQ.out).mono ?_; exact HA.out.later HB4.out; exact HT.out.later HB4.out; rintro r w5 ⟨rfl, m5, e5⟩; have HB5 : Hid (Below w4.heap.size w4 w5) := (by show Below _ _ _; rw [e5]; exact Below.drewN (Below.refl _ _) _); have b_0 := cell_later (Below.after HB4.out HB5.out) p0; have b_1 := cell_later (Below.after HB4.out HB5.out) p1; clear e5))
  clear a_0 a_1 b_0 b_1 p0 p1
  go_wp2
  go_ret2
  exact ⟨_, rfl, HO4.out.later HB5.out, Below.after HB4.out HB5.out⟩
set_option maxRecDepth 100000 in
set_option maxHeartbeats 4000000 in
theorem infer_k7 {vd a0 : Value} {d0 : List Int} {w : World} {P c : Nat} (n : Int) (hc : 1 ≤ c) (ha : Ints w a0 d0) (p0 : w.cell? ⟨P, 0, none⟩ = some a0) :
    Calls Try.prog 27 #[.int .i64 7, .int .i64 n, vd, .slice (some ⟨P, 0, none⟩) 1 c] w fun e w' => ∃ x, e = .returned (.tuple #[x, .bool true]) ∧ Own w' w.heap.size x (d0) ∧ Below w.heap.size w w' := by
  obtain ⟨aa, an, ac, rfl⟩ := ha.shape3
  have HA : Hid (Ints w (.slice aa an ac) d0) := ha
  clear ha
  go_enter Try.func27, Try.ntmps27
  go_wp2_with fail
  refine (copy_Own HA.out).mono ?_
  rintro e w1 ⟨x, rfl, ho, hb⟩
  have HO : Hid (Own w1 w.heap.size x d0) := ho
  have HB : Hid (Below w.heap.size w w1) := hb
  clear ho hb
  go_wp2
  go_ret2
  exact ⟨_, rfl, HO.out, HB.out⟩
set_option maxRecDepth 100000 in
set_option maxHeartbeats 4000000 in
theorem infer_k8 {vd a0 : Value} {d0 : List Int} {w : World} {P c : Nat} (n : Int) (hc : 1 ≤ c) (ha : Ints w a0 d0) (p0 : w.cell? ⟨P, 0, none⟩ = some a0) :
    Calls Try.prog 27 #[.int .i64 8, .int .i64 n, vd, .slice (some ⟨P, 0, none⟩) 1 c] w fun e w' => ∃ x, e = .returned (.tuple #[x, .bool true]) ∧ Own w' w.heap.size x (d0) ∧ Below w.heap.size w w' := by
  obtain ⟨aa, an, ac, rfl⟩ := ha.shape3
  have HA : Hid (Ints w (.slice aa an ac) d0) := ha
  clear ha
  go_enter Try.func27, Try.ntmps27
  go_wp2_with fail
  refine (copy_Own HA.out).mono ?_
  rintro e w1 ⟨x, rfl, ho, hb⟩
  have HO : Hid (Own w1 w.heap.size x d0) := ho
  have HB : Hid (Below w.heap.size w w1) := hb
  clear ho hb
  go_wp2
  go_ret2
  exact ⟨_, rfl, HO.out, HB.out⟩
set_option maxRecDepth 100000 in
set_option maxHeartbeats 4000000 in
theorem infer_k14 {vd a0 : Value} {d0 : List Int} {w : World} {P c : Nat} (n : Int) (hc : 1 ≤ c) (ha : Ints w a0 d0) (p0 : w.cell? ⟨P, 0, none⟩ = some a0) :
    Calls Try.prog 27 #[.int .i64 14, .int .i64 n, vd, .slice (some ⟨P, 0, none⟩) 1 c] w fun e w' => ∃ x, e = .returned (.tuple #[x, .bool true]) ∧ Own w' w.heap.size x (d0) ∧ Below w.heap.size w w' := by
  obtain ⟨aa, an, ac, rfl⟩ := ha.shape3
  have HA : Hid (Ints w (.slice aa an ac) d0) := ha
  clear ha
  go_enter Try.func27, Try.ntmps27
  go_wp2_with fail
  refine (copy_Own HA.out).mono ?_
  rintro e w1 ⟨x, rfl, ho, hb⟩
  have HO : Hid (Own w1 w.heap.size x d0) := ho
  have HB : Hid (Below w.heap.size w w1) := hb
  clear ho hb
  go_wp2
  go_ret2
  exact ⟨_, rfl, HO.out, HB.out⟩
theorem rcells_to {v : Value} {d : List Int} {w : World} (x : Int) (h : Ints w v d) (hok : okd d = true) (hx : prd d = x) :
    Calls Try.prog 39 #[v] w fun e w' => e = .returned (.int .i64 x) ∧ w = w' := by
  subst hx
  exact rcells_ok h hok
set_option maxRecDepth 100000 in
set_option maxHeartbeats 4000000 in
theorem infer_k11 {vd a0 : Value} {d d0 : List Int} {w : World} {P c : Nat} (n : Int) (q : Bool) (hc : 1 ≤ c) (hd : Ints w vd d) (ha : Ints w a0 d0) (p0 : w.cell? ⟨P, 0, none⟩ = some a0) (h0 : okd d0 = true) (h1 : okd d = true) (hq : (prd d == prd d0) = q) :
    Calls Try.prog 27 #[.int .i64 11, .int .i64 n, vd, .slice (some ⟨P, 0, none⟩) 1 c] w fun e w' => ∃ x, e = .returned (.tuple #[x, .bool q]) ∧ Own w' w.heap.size x (d) ∧ Below w.heap.size w w' := by
  obtain ⟨aa, an, ac, rfl⟩ := ha.shape3
  obtain ⟨da, dn, dc, rfl⟩ := hd.shape3
  have HA : Hid (Ints w (.slice aa an ac) d0) := ha
  have HD : Hid (Ints w (.slice da dn dc) d) := hd
  have H0 : Hid (okd d0 = true) := h0
  have H1 : Hid (okd d = true) := h1
  obtain ⟨x0, hx0⟩ : ∃ x, prd d0 = x := ⟨_, rfl⟩
  obtain ⟨x1, hx1⟩ : ∃ x, prd d = x := ⟨_, rfl⟩
  rw [hx0, hx1] at hq
  have HX : Hid (prd d0 = x0 ∧ prd d = x1) := ⟨hx0, hx1⟩
  clear ha hd h0 h1 hx0 hx1
  go_enter Try.func27, Try.ntmps27
  go_wp2_with fail
  go_region_held3 (fun w' => w'.cell? ⟨P, 0, none⟩ = some (.slice aa an ac)) (assumption)
    (first
      | (go_at_call 38; refine (copy_Own (d := d) ?_).mono ?_; exact HD.out.later (Below.refl _ _).drew; rintro r w4 ⟨y, rfl, ho4, hb4⟩; have HB4 : Hid (Below w.heap.size w w4) := Below.after (Below.refl _ _).drew hb4; have HO4 : Hid (Own w4 w.heap.size y d) := ho4; have a_0 := cell_later HB4.out p0; clear ho4 hb4)
      | (go_at_call_of 39 (Value.slice da dn dc); refine (rcells_to x1 (d := d) ?_ H1.out HX.out.2).mono ?_; exact HD.out.later HB4.out; rintro r w5 ⟨rfl, rfl⟩)
      | (go_at_call_of 39 (Value.slice aa an ac); refine (rcells_to x0 (d := d0) ?_ H0.out HX.out.1).mono ?_; exact HA.out.later HB4.out; rintro r w5 ⟨rfl, rfl⟩))
  clear a_0 p0
  go_wp2
  go_ret2
  exact ⟨_, by rw [← hq]; rfl, HO4.out, HB4.out⟩
set_option maxRecDepth 100000 in
set_option maxHeartbeats 4000000 in
theorem infer_k12 {vd a0 : Value} {d d0 : List Int} {w : World} {P c : Nat} (n : Int) (q : Bool) (hc : 1 ≤ c) (hd : Ints w vd d) (ha : Ints w a0 d0) (p0 : w.cell? ⟨P, 0, none⟩ = some a0) (hq : wid d0 d = q) :
    Calls Try.prog 27 #[.int .i64 12, .int .i64 n, vd, .slice (some ⟨P, 0, none⟩) 1 c] w fun e w' => ∃ x, e = .returned (.tuple #[x, .bool q]) ∧ Own w' w.heap.size x (d) ∧ Below w.heap.size w w' := by
  obtain ⟨aa, an, ac, rfl⟩ := ha.shape3
  obtain ⟨da, dn, dc, rfl⟩ := hd.shape3
  have HA : Hid (Ints w (.slice aa an ac) d0) := ha
  have HD : Hid (Ints w (.slice da dn dc) d) := hd
  have HQ : Hid (wid d0 d = q) := hq
  clear ha hd hq
  go_enter Try.func27, Try.ntmps27
  go_wp2_with fail
  go_region_held3 (fun w' => w'.cell? ⟨P, 0, none⟩ = some (.slice aa an ac)) (assumption)
    (first
      | (go_at_call 38; refine (copy_Own (d := d) ?_).mono ?_; exact HD.out.later (Below.refl _ _).drew; rintro r w4 ⟨y, rfl, ho4, hb4⟩; have HB4 : Hid (Below w.heap.size w w4) := Below.after (Below.refl _ _).drew hb4; have HO4 : Hid (Own w4 w.heap.size y d) := ho4; have a_0 := cell_later HB4.out p0; clear ho4 hb4)
      | (go_at_call 40; refine (rwider_bl q (a := d0) (b := d) ?_ ?_ HQ.out).mono ?_; exact HA.out.later HB4.out; exact HD.out.later HB4.out; rintro r w5 ⟨rfl, hb5⟩; have HB5 : Hid (Below w4.heap.size w4 w5) := hb5; have b_0 := cell_later (Below.after HB4.out HB5.out) p0; clear hb5))
  clear a_0 b_0 p0
  go_wp2
  go_ret2
  exact ⟨_, rfl, HO4.out.later HB5.out, Below.after HB4.out HB5.out⟩
set_option maxRecDepth 100000 in
set_option maxHeartbeats 4000000 in
theorem infer_k13 {vd a0 : Value} {d d0 : List Int} {w : World} {P c : Nat} (n : Int) (q : Bool) (hc : 1 ≤ c) (hd : Ints w vd d) (ha : Ints w a0 d0) (p0 : w.cell? ⟨P, 0, none⟩ = some a0) (hq : wid d d0 = q) :
    Calls Try.prog 27 #[.int .i64 13, .int .i64 n, vd, .slice (some ⟨P, 0, none⟩) 1 c] w fun e w' => ∃ x, e = .returned (.tuple #[x, .bool q]) ∧ Own w' w.heap.size x (d) ∧ Below w.heap.size w w' := by
  obtain ⟨aa, an, ac, rfl⟩ := ha.shape3
  obtain ⟨da, dn, dc, rfl⟩ := hd.shape3
  have HA : Hid (Ints w (.slice aa an ac) d0) := ha
  have HD : Hid (Ints w (.slice da dn dc) d) := hd
  have HQ : Hid (wid d d0 = q) := hq
  clear ha hd hq
  go_enter Try.func27, Try.ntmps27
  go_wp2_with fail
  go_region_held3 (fun w' => w'.cell? ⟨P, 0, none⟩ = some (.slice aa an ac)) (assumption)
    (first
      | (go_at_call 38; refine (copy_Own (d := d) ?_).mono ?_; exact HD.out.later (Below.refl _ _).drew; rintro r w4 ⟨y, rfl, ho4, hb4⟩; have HB4 : Hid (Below w.heap.size w w4) := Below.after (Below.refl _ _).drew hb4; have HO4 : Hid (Own w4 w.heap.size y d) := ho4; have a_0 := cell_later HB4.out p0; clear ho4 hb4)
      | (go_at_call 40; refine (rwider_bl q (a := d) (b := d0) ?_ ?_ HQ.out).mono ?_; exact HD.out.later HB4.out; exact HA.out.later HB4.out; rintro r w5 ⟨rfl, hb5⟩; have HB5 : Hid (Below w4.heap.size w4 w5) := hb5; have b_0 := cell_later (Below.after HB4.out HB5.out) p0; clear hb5))
  clear a_0 b_0 p0
  go_wp2
  go_ret2
  exact ⟨_, rfl, HO4.out.later HB5.out, Below.after HB4.out HB5.out⟩
theorem Own.getD {w : World} {v : Value} {d : List Int} {n : Nat} (h : Ints w v d) (hn : d.length = n) (h1 : 1 ≤ n) :
    ∃ b o c, v = .slice (some ⟨b, o, none⟩) n c ∧ n ≤ c ∧ ∀ k, k < n → w.cell? ⟨b, o + k, none⟩ = some (.int .i64 (d.getD k 0)) := by
  subst hn
  rcases h.cases with ⟨e, _⟩ | ⟨b, o, c, e, _, hc, _, HC⟩
  · rw [e] at h1; simp at h1
  · exact ⟨b, o, c, e, hc, fun k hk => Ints.cellD (n := 0) (c := 0) HC k hk⟩
/-- Dims that may be: the last one in memory. -/
theorem last_ofD {w : World} {a0 : Value} {d : List Int} (ha : Ints w a0 d) (ho : okd d = true) :
    ∃ b off c E L : Nat, a0 = .slice (some ⟨b, off, none⟩) (E + 1) c ∧ d.length = E + 1 ∧ lastD d = (L : Int) ∧ 1 ≤ L ∧ L ≤ 8 ∧ E + 1 ≤ c ∧ E ≤ 2 ∧ b < w.heap.size ∧ w.cell? ⟨b, off + E, none⟩ = some (.int .i64 L) := by
  obtain ⟨h1, h3, _, _⟩ := okd_parts ho
  obtain ⟨l1, l8⟩ := lastD_bd ho
  have hold := ha.old h1
  rcases ha.cases with ⟨e, _⟩ | ⟨b, off, c, rfl, h0, hc, hb, HC⟩
  · rw [e] at h1; simp at h1
  obtain ⟨E, hE⟩ : ∃ E, d.length = E + 1 := ⟨d.length - 1, by omega⟩
  refine ⟨b, off, c, E, (lastD d).toNat, by rw [hE], hE, by omega, by omega, by omega, by omega, by omega, hold b rfl, ?_⟩
  have := Ints.cellD (n := 0) (c := 0) HC E (by omega)
  rw [this]
  congr 2
  have : lastD d = d.getD E 0 := by rw [lastD, hE]; rfl
  omega
set_option maxRecDepth 100000 in
set_option maxHeartbeats 4000000 in
theorem infer_k15_four {vd a0 b0 : Value} {d0 d1 : List Int} {w : World} {P c : Nat} (n : Nat) (hc : 1 ≤ c) (ha : Ints w a0 d0) (hx : okd d0 = true) (h1 : 1 ≤ n) (h8 : n ≤ 8) (p0 : w.cell? ⟨P, 0, none⟩ = some a0) (hd : ¬ lastD d0 % n = 0) :
    Calls Try.prog 27 #[.int .i64 15, .int .i64 n, vd, .slice (some ⟨P, 0, none⟩) 1 c] w fun e w' => ∃ u, e = .returned (.tuple #[u, .bool false]) ∧ Own w' w.heap.size u ([]) ∧ Below w.heap.size w w' := by
  obtain ⟨b, off, cc, E, L, rfl, hE, hL, l1, l8, hcc, hE2, hbw, hcell⟩ := last_ofD ha hx
  rw [hL] at hd
  have n0 : ¬ n = 0 := by omega
  have n00 : ¬ (n : Int) = 0 := by omega
  have hwE : IntKind.i64.wrap (((E + 1 : Nat) : Int) - 1) = (E : Int) := by rw [wrap_small _ (by omega) (by omega)]; omega
  have hwE2 : IntKind.i64.wrap ((E : Int) + 1 - 1) = (E : Int) := by rw [wrap_small _ (by omega) (by omega)]; omega
  obtain ⟨r, hr⟩ : ∃ r, L % n = r := ⟨_, rfl⟩
  have hrn : r < n := by rw [← hr]; exact Nat.mod_lt _ (by omega)
  have f0 : (L : Int).tmod (n : Int) = (r : Int) := by rw [Int.tmod_eq_emod_of_nonneg (by omega), ← hr]; simp
  have f1 : (L : Int) % (n : Int) = (r : Int) := by rw [← hr]; simp
  have f2 : IntKind.i64.wrap (r : Int) = (r : Int) := wrap_small _ (by omega) (by omega)
  have f4 : IntKind.i64.wrap ((L : Int).tmod (n : Int)) = (r : Int) := by rw [f0, f2]
  rw [f1] at hd
  have z0 : (0 : Int) ≤ (E : Int) := by omega
  have z1 : (E : Int) < ((E + 1 : Nat) : Int) := by omega
  have z2 : (E : Int) < (E : Int) + 1 := by omega
  obtain rfl | hr0 := Nat.eq_zero_or_pos r
  · exact absurd rfl hd
  have g1 : ((r : Int) == 0) = false := by simp; omega
  have g2 : ((r : Int) != 0) = true := by simp; omega
  have g3 : decide ((r : Int) = 0) = false := by simp; omega
  have g4 : ¬ (r : Int) = 0 := by omega
  clear ha hx hE hL hr hd
  go_enter Try.func27, Try.ntmps27
  go_wp2_with fail
  go_quiet (fail)
  go_wp2
  go_ret2
  exact ⟨_, rfl, Own.nil _ _, Below.drewN (Below.refl _ _) _⟩
set_option maxRecDepth 100000 in
set_option maxHeartbeats 4000000 in
theorem infer_k15_ok {vd a0 b0 : Value} {d0 d1 : List Int} {w : World} {P c : Nat} (n : Nat) (hc : 1 ≤ c) (ha : Ints w a0 d0) (hx : okd d0 = true) (h1 : 1 ≤ n) (h8 : n ≤ 8) (p0 : w.cell? ⟨P, 0, none⟩ = some a0) (hd : lastD d0 % n = 0) :
    Calls Try.prog 27 #[.int .i64 15, .int .i64 n, vd, .slice (some ⟨P, 0, none⟩) 1 c] w fun e w' => ∃ u, e = .returned (.tuple #[u, .bool true]) ∧ Own w' w.heap.size u (lesD d0 n) ∧ Below w.heap.size w w' := by
  obtain ⟨b, off, cc, E, L, rfl, hE, hL, l1, l8, hcc, hE2, hbw, hcell⟩ := last_ofD ha hx
  rw [hL] at hd
  have n0 : ¬ n = 0 := by omega
  have n00 : ¬ (n : Int) = 0 := by omega
  have hwE : IntKind.i64.wrap (((E + 1 : Nat) : Int) - 1) = (E : Int) := by rw [wrap_small _ (by omega) (by omega)]; omega
  have hwE2 : IntKind.i64.wrap ((E : Int) + 1 - 1) = (E : Int) := by rw [wrap_small _ (by omega) (by omega)]; omega
  obtain ⟨r, hr⟩ : ∃ r, L % n = r := ⟨_, rfl⟩
  have hrn : r < n := by rw [← hr]; exact Nat.mod_lt _ (by omega)
  have f0 : (L : Int).tmod (n : Int) = (r : Int) := by rw [Int.tmod_eq_emod_of_nonneg (by omega), ← hr]; simp
  have f1 : (L : Int) % (n : Int) = (r : Int) := by rw [← hr]; simp
  have f2 : IntKind.i64.wrap (r : Int) = (r : Int) := wrap_small _ (by omega) (by omega)
  have f4 : IntKind.i64.wrap ((L : Int).tmod (n : Int)) = (r : Int) := by rw [f0, f2]
  rw [f1] at hd
  have z0 : (0 : Int) ≤ (E : Int) := by omega
  have z1 : (E : Int) < ((E + 1 : Nat) : Int) := by omega
  have z2 : (E : Int) < (E : Int) + 1 := by omega
  have hr0 : r = 0 := by omega
  subst hr0
  have HA : Hid (Ints w (.slice (some ⟨b, off, none⟩) (E + 1) cc) d0) := ha
  have HOK : Hid (okd d0 = true) := hx
  have HP : Hid (w.cell? ⟨P, 0, none⟩ = some (.slice (some ⟨b, off, none⟩) (E + 1) cc)) := p0
  clear ha hx hE hL hr hd
  go_enter Try.func27, Try.ntmps27
  go_wp2_with fail
  go_quiet (fail)
  have hB : Below w.heap.size w (w.drewN nq) := Below.drewN (Below.refl _ _) _
  generalize w.drewN nq = W at hB ⊢
  have HB : Hid (Below w.heap.size w W) := hB
  have q0 := cell_later hB HP.out
  clear hB p0 hcell
  go_wp2_with fail
  refine (less_ok n (HA.out.later HB.out) HOK.out h1 h8).mono ?_
  rintro e w2 ⟨x, rfl, ho, hb2⟩
  obtain ⟨la, ln, lc, rfl⟩ := ho.ints.shape3
  have HL : Hid (Own w2 W.heap.size (.slice la ln lc) (lesD d0 n)) := ho
  have HB2 : Hid (Below w.heap.size w w2) := Below.after HB.out hb2
  have hsW := HB.out.size
  clear ho hb2 q0
  go_wp2
  go_ret2
  exact ⟨_, rfl, HL.out.mono hsW, HB2.out⟩
set_option maxRecDepth 100000 in
set_option maxHeartbeats 4000000 in
theorem infer_k17_four {vd a0 b0 : Value} {d0 d1 : List Int} {w : World} {P c : Nat} (n : Nat) (hc : 2 ≤ c) (ha : Ints w a0 d0) (hx : okd d0 = true) (h1 : 1 ≤ n) (h8 : n ≤ 8) (p0 : w.cell? ⟨P, 0, none⟩ = some a0) (ht : Ints w b0 d1) (p1 : w.cell? ⟨P, 1, none⟩ = some b0) (hd : ¬ lastD d0 % n = 0) :
    Calls Try.prog 27 #[.int .i64 17, .int .i64 n, vd, .slice (some ⟨P, 0, none⟩) 2 c] w fun e w' => ∃ u, e = .returned (.tuple #[u, .bool false]) ∧ Own w' w.heap.size u ([]) ∧ Below w.heap.size w w' := by
  obtain ⟨b, off, cc, E, L, rfl, hE, hL, l1, l8, hcc, hE2, hbw, hcell⟩ := last_ofD ha hx
  obtain ⟨ba, bn, bc, rfl⟩ := ht.shape3
  rw [hL] at hd
  have n0 : ¬ n = 0 := by omega
  have n00 : ¬ (n : Int) = 0 := by omega
  have hwE : IntKind.i64.wrap (((E + 1 : Nat) : Int) - 1) = (E : Int) := by rw [wrap_small _ (by omega) (by omega)]; omega
  have hwE2 : IntKind.i64.wrap ((E : Int) + 1 - 1) = (E : Int) := by rw [wrap_small _ (by omega) (by omega)]; omega
  obtain ⟨r, hr⟩ : ∃ r, L % n = r := ⟨_, rfl⟩
  have hrn : r < n := by rw [← hr]; exact Nat.mod_lt _ (by omega)
  have f0 : (L : Int).tmod (n : Int) = (r : Int) := by rw [Int.tmod_eq_emod_of_nonneg (by omega), ← hr]; simp
  have f1 : (L : Int) % (n : Int) = (r : Int) := by rw [← hr]; simp
  have f2 : IntKind.i64.wrap (r : Int) = (r : Int) := wrap_small _ (by omega) (by omega)
  have f4 : IntKind.i64.wrap ((L : Int).tmod (n : Int)) = (r : Int) := by rw [f0, f2]
  rw [f1] at hd
  have z0 : (0 : Int) ≤ (E : Int) := by omega
  have z1 : (E : Int) < ((E + 1 : Nat) : Int) := by omega
  have z2 : (E : Int) < (E : Int) + 1 := by omega
  obtain rfl | hr0 := Nat.eq_zero_or_pos r
  · exact absurd rfl hd
  have g1 : ((r : Int) == 0) = false := by simp; omega
  have g2 : ((r : Int) != 0) = true := by simp; omega
  have g3 : decide ((r : Int) = 0) = false := by simp; omega
  have g4 : ¬ (r : Int) = 0 := by omega
  clear ha hx hE hL hr hd ht
  go_enter Try.func27, Try.ntmps27
  go_wp2_with fail
  go_quiet (fail)
  go_wp2
  go_ret2
  exact ⟨_, rfl, Own.nil _ _, Below.drewN (Below.refl _ _) _⟩
set_option maxRecDepth 100000 in
set_option maxHeartbeats 4000000 in
theorem infer_k17_ok {vd a0 b0 : Value} {d0 d1 : List Int} {w : World} {P c : Nat} (n : Nat) (hc : 2 ≤ c) (ha : Ints w a0 d0) (hx : okd d0 = true) (h1 : 1 ≤ n) (h8 : n ≤ 8) (p0 : w.cell? ⟨P, 0, none⟩ = some a0) (ht : Ints w b0 d1) (p1 : w.cell? ⟨P, 1, none⟩ = some b0) (q : Bool) (hq : (lesD d0 n == d1) = q) (hd : lastD d0 % n = 0) :
    Calls Try.prog 27 #[.int .i64 17, .int .i64 n, vd, .slice (some ⟨P, 0, none⟩) 2 c] w fun e w' => ∃ u, e = .returned (.tuple #[u, .bool q]) ∧ Own w' w.heap.size u (d0) ∧ Below w.heap.size w w' := by
  obtain ⟨b, off, cc, E, L, rfl, hE, hL, l1, l8, hcc, hE2, hbw, hcell⟩ := last_ofD ha hx
  obtain ⟨ba, bn, bc, rfl⟩ := ht.shape3
  rw [hL] at hd
  have n0 : ¬ n = 0 := by omega
  have n00 : ¬ (n : Int) = 0 := by omega
  have hwE : IntKind.i64.wrap (((E + 1 : Nat) : Int) - 1) = (E : Int) := by rw [wrap_small _ (by omega) (by omega)]; omega
  have hwE2 : IntKind.i64.wrap ((E : Int) + 1 - 1) = (E : Int) := by rw [wrap_small _ (by omega) (by omega)]; omega
  obtain ⟨r, hr⟩ : ∃ r, L % n = r := ⟨_, rfl⟩
  have hrn : r < n := by rw [← hr]; exact Nat.mod_lt _ (by omega)
  have f0 : (L : Int).tmod (n : Int) = (r : Int) := by rw [Int.tmod_eq_emod_of_nonneg (by omega), ← hr]; simp
  have f1 : (L : Int) % (n : Int) = (r : Int) := by rw [← hr]; simp
  have f2 : IntKind.i64.wrap (r : Int) = (r : Int) := wrap_small _ (by omega) (by omega)
  have f4 : IntKind.i64.wrap ((L : Int).tmod (n : Int)) = (r : Int) := by rw [f0, f2]
  rw [f1] at hd
  have z0 : (0 : Int) ≤ (E : Int) := by omega
  have z1 : (E : Int) < ((E + 1 : Nat) : Int) := by omega
  have z2 : (E : Int) < (E : Int) + 1 := by omega
  have hr0 : r = 0 := by omega
  subst hr0
  have HA : Hid (Ints w (.slice (some ⟨b, off, none⟩) (E + 1) cc) d0) := ha
  have HOK : Hid (okd d0 = true) := hx
  have HP : Hid (w.cell? ⟨P, 0, none⟩ = some (.slice (some ⟨b, off, none⟩) (E + 1) cc)) := p0
  have HT : Hid (Ints w (.slice ba bn bc) d1) := ht
  have HQ : Hid ((lesD d0 n == d1) = q) := hq
  have HP1 : Hid (w.cell? ⟨P, 1, none⟩ = some (.slice ba bn bc)) := p1
  clear ht hq
  clear ha hx hE hL hr hd
  go_enter Try.func27, Try.ntmps27
  go_wp2_with fail
  go_quiet (fail)
  have hB : Below w.heap.size w (w.drewN nq) := Below.drewN (Below.refl _ _) _
  generalize w.drewN nq = W at hB ⊢
  have HB : Hid (Below w.heap.size w W) := hB
  have q0 := cell_later hB HP.out
  clear hB p0 hcell p1
  go_wp2_with fail
  refine (less_ok n (HA.out.later HB.out) HOK.out h1 h8).mono ?_
  rintro e w2 ⟨x, rfl, ho, hb2⟩
  obtain ⟨la, ln, lc, rfl⟩ := ho.ints.shape3
  have HL : Hid (Own w2 W.heap.size (.slice la ln lc) (lesD d0 n)) := ho
  have HB2 : Hid (Below w.heap.size w w2) := Below.after HB.out hb2
  have hsW := HB.out.size
  clear ho hb2 q0
  have q0 := cell_later HB2.out HP.out
  have q1 := cell_later HB2.out HP1.out
  go_wp2_with fail
  go_region_held3 (fun w' => w'.cell? ⟨P, 0, none⟩ = some (.slice (some ⟨b, off, none⟩) (E + 1) cc) ∧ w'.cell? ⟨P, 1, none⟩ = some (.slice ba bn bc)) (go_keep)
    (first
      | (go_at_call 38; refine (copy_Own (d := d0) ?_).mono ?_; exact HA.out.later (Below.after HB2.out (Below.refl _ _).drew); rintro r w4 ⟨y, rfl, ho4, hb4⟩; have HB4 : Hid (Below w2.heap.size w2 w4) := Below.after (Below.refl _ _).drew hb4; have HO4 : Hid (Own w4 w2.heap.size y d0) := ho4; have a_0 := cell_later HB4.out q0; have a_1 := cell_later HB4.out q1; clear ho4 hb4)
      | (go_at_call 11; refine (eqn_to q (a := lesD d0 n) (b := d1) ?_ ?_ HQ.out).mono ?_; exact HL.out.ints.later HB4.out; exact HT.out.later (Below.after HB2.out HB4.out); rintro r w5 ⟨rfl, m5, e5⟩; have HB5 : Hid (Below w4.heap.size w4 w5) := (by show Below _ _ _; rw [e5]; exact Below.drewN (Below.refl _ _) _); have b_0 := cell_later (Below.after HB4.out HB5.out) q0; have b_1 := cell_later (Below.after HB4.out HB5.out) q1; clear e5))
  clear a_0 a_1 b_0 b_1 q0 q1
  go_wp2
  go_ret2
  exact ⟨_, rfl, (HO4.out.later HB5.out).mono HB2.out.size, Below.after HB2.out (Below.after HB4.out HB5.out)⟩
set_option maxRecDepth 100000 in
set_option maxHeartbeats 4000000 in
theorem infer_k10_four {vd a0 : Value} {d0 : List Int} {w : World} {P c : Nat} (n : Int) (hc : 1 ≤ c) (ha : Ints w a0 d0) (p0 : w.cell? ⟨P, 0, none⟩ = some a0) (hd : d0.length ≠ 2) :
    Calls Try.prog 27 #[.int .i64 10, .int .i64 n, vd, .slice (some ⟨P, 0, none⟩) 1 c] w fun e w' => ∃ u, e = .returned (.tuple #[u, .bool false]) ∧ Own w' w.heap.size u ([]) ∧ Below w.heap.size w w' := by
  obtain ⟨aa, ac, rfl⟩ := ha.shape
  obtain ⟨an, han⟩ : ∃ n, d0.length = n := ⟨_, rfl⟩
  rw [han] at p0 hd
  have g1 : ((an : Int) == 2) = false := by simp; omega
  have g2 : decide ((an : Int) = 2) = false := by simp; omega
  have g3 : ¬ (an : Int) = 2 := by omega
  clear ha han
  go_enter Try.func27, Try.ntmps27
  go_wp2
  go_ret2
  exact ⟨_, rfl, Own.nil _ _, Below.refl _ _⟩
theorem cells2 {w : World} {a0 : Value} {x y : Int} (ha : Ints w a0 [x, y]) : ∃ b off c : Nat, a0 = .slice (some ⟨b, off, none⟩) 2 c ∧ 2 ≤ c ∧ w.cell? ⟨b, off, none⟩ = some (.int .i64 x) ∧ w.cell? ⟨b, off + 1, none⟩ = some (.int .i64 y) := by
  obtain ⟨b, o, c, e, hc, h⟩ := Own.getD (n := 2) ha rfl (by decide)
  exact ⟨b, o, c, e, hc, h 0 (by decide), h 1 (by decide)⟩
set_option maxRecDepth 100000 in
set_option maxHeartbeats 4000000 in
theorem infer_k10_ok {vd a0 : Value} {x y : Int} {w : World} {P c : Nat} (n : Int) (hc : 1 ≤ c) (ha : Ints w a0 [x, y]) (p0 : w.cell? ⟨P, 0, none⟩ = some a0) :
    Calls Try.prog 27 #[.int .i64 10, .int .i64 n, vd, .slice (some ⟨P, 0, none⟩) 1 c] w fun e w' => ∃ u, e = .returned (.tuple #[u, .bool true]) ∧ Own w' w.heap.size u ([y, x]) ∧ Below w.heap.size w w' := by
  obtain ⟨b, off, cc, rfl, hcc, e0, e1⟩ := cells2 ha
  clear ha
  go_enter Try.func27, Try.ntmps27
  go_wp2_with fail
  have n1 := World.new_ne w _ p0
  have n2 := World.new_ne w _ e0
  have n3 := World.new_ne w _ e1
  go_region_held3 (fun w' => w'.cell? ⟨P, 0, none⟩ = some (.slice (some ⟨b, off, none⟩) 2 cc) ∧ w'.cell? ⟨b, off, none⟩ = some (.int .i64 x) ∧ w'.cell? ⟨b, off + 1, none⟩ = some (.int .i64 y)) (go_keep) (fail)
  go_wp2
  go_ret2
  exact ⟨_, rfl, ((Blk.new w.drew [y, x]).own (Nat.le_refl _) rfl (by simp [big])), Below.push (Below.refl _ _).drew _⟩
set_option maxRecDepth 100000 in
set_option maxHeartbeats 4000000 in
theorem infer_k9_ok {vd a0 b0 : Value} {x y v : Int} {w : World} {P c : Nat} (n : Int) (hc : 2 ≤ c) (ha : Ints w a0 [x, y]) (hb : Ints w b0 [y, v]) (p0 : w.cell? ⟨P, 0, none⟩ = some a0) (p1 : w.cell? ⟨P, 1, none⟩ = some b0) :
    Calls Try.prog 27 #[.int .i64 9, .int .i64 n, vd, .slice (some ⟨P, 0, none⟩) 2 c] w fun e w' => ∃ u, e = .returned (.tuple #[u, .bool true]) ∧ Own w' w.heap.size u ([x, v]) ∧ Below w.heap.size w w' := by
  obtain ⟨b, off, cc, rfl, hcc, e0, e1⟩ := cells2 ha
  obtain ⟨bb, boff, bcc, rfl, hbcc, f0, f1⟩ := cells2 hb
  have HP : Hid (w.cell? ⟨P, 0, none⟩ = some (.slice (some ⟨b, off, none⟩) 2 cc) ∧ w.cell? ⟨P, 1, none⟩ = some (.slice (some ⟨bb, boff, none⟩) 2 bcc) ∧ w.cell? ⟨b, off, none⟩ = some (.int .i64 x) ∧ w.cell? ⟨bb, boff + 1, none⟩ = some (.int .i64 v)) := ⟨p0, p1, e0, f1⟩
  clear ha hb
  go_enter Try.func27, Try.ntmps27
  go_wp2_with fail
  go_quiet (fail)
  have hB : Below w.heap.size w (w.drewN nq) := Below.drewN (Below.refl _ _) _
  generalize w.drewN nq = W at hB ⊢
  have HB : Hid (Below w.heap.size w W) := hB
  have q0 := cell_later hB HP.out.1
  have q1 := cell_later hB HP.out.2.1
  have q2 := cell_later hB HP.out.2.2.1
  have q3 := cell_later hB HP.out.2.2.2
  clear hB p0 p1 e0 e1 f0 f1
  go_wp2_with fail
  have n1 := World.new_ne W _ q0
  have n2 := World.new_ne W _ q1
  have n3 := World.new_ne W _ q2
  have n4 := World.new_ne W _ q3
  go_region_held3 (fun w' => w'.cell? ⟨P, 0, none⟩ = some (.slice (some ⟨b, off, none⟩) 2 cc) ∧ w'.cell? ⟨P, 1, none⟩ = some (.slice (some ⟨bb, boff, none⟩) 2 bcc) ∧ w'.cell? ⟨b, off, none⟩ = some (.int .i64 x) ∧ w'.cell? ⟨bb, boff + 1, none⟩ = some (.int .i64 v)) (go_keep) (fail)
  go_wp2
  go_ret2
  exact ⟨_, rfl, ((Blk.new W.drew [x, v]).own HB.out.size rfl (by simp [big])), Below.push (Below.after HB.out (Below.refl _ _).drew) _⟩
set_option maxRecDepth 100000 in
set_option maxHeartbeats 4000000 in
theorem infer_k9_four {vd a0 b0 : Value} {d0 d1 : List Int} {w : World} {P c : Nat} (n : Int) (hc : 2 ≤ c) (ha : Ints w a0 d0) (hb : Ints w b0 d1) (p0 : w.cell? ⟨P, 0, none⟩ = some a0) (p1 : w.cell? ⟨P, 1, none⟩ = some b0) (hd : ¬ (d0.length = 2 ∧ d1.length = 2 ∧ d0.getD 1 0 = d1.getD 0 0)) :
    Calls Try.prog 27 #[.int .i64 9, .int .i64 n, vd, .slice (some ⟨P, 0, none⟩) 2 c] w fun e w' => ∃ u, e = .returned (.tuple #[u, .bool false]) ∧ Own w' w.heap.size u ([]) ∧ Below w.heap.size w w' := by
  by_cases h0 : d0.length = 2
  · obtain ⟨x, y, rfl⟩ := two_of h0
    obtain ⟨b, off, cc, rfl, hcc, e0, e1⟩ := cells2 ha
    by_cases h1 : d1.length = 2
    · obtain ⟨z, v, rfl⟩ := two_of h1
      obtain ⟨bb, boff, bcc, rfl, hbcc, f0, f1⟩ := cells2 hb
      have hne : ¬ y = z := fun e => hd ⟨rfl, rfl, e⟩
      have g1 : (y != z) = true := by simp [hne]
      clear ha hb hd h0 h1
      go_enter Try.func27, Try.ntmps27
      go_wp2_with fail
      go_quiet (fail)
      go_wp2
      go_ret2
      exact ⟨_, rfl, Own.nil _ _, Below.drewN (Below.refl _ _) _⟩
    · obtain ⟨aa, ac, rfl⟩ := hb.shape
      obtain ⟨an, han⟩ : ∃ n, d1.length = n := ⟨_, rfl⟩
      rw [han] at p1 h1
      have g1 : ((an : Int) != 2) = true := by simp; omega
      clear ha hb hd h0 han
      go_enter Try.func27, Try.ntmps27
      go_wp2_with fail
      go_quiet (fail)
      go_wp2
      go_ret2
      exact ⟨_, rfl, Own.nil _ _, Below.drewN (Below.refl _ _) _⟩
  · obtain ⟨aa, ac, rfl⟩ := ha.shape
    obtain ⟨ba, bn, bc, rfl⟩ := hb.shape3
    obtain ⟨an, han⟩ : ∃ n, d0.length = n := ⟨_, rfl⟩
    rw [han] at p0 h0
    have g1 : ((an : Int) != 2) = true := by simp; omega
    clear ha hb hd han
    go_enter Try.func27, Try.ntmps27
    go_wp2_with fail
    go_quiet (fail)
    go_wp2
    go_ret2
    exact ⟨_, rfl, Own.nil _ _, Below.drewN (Below.refl _ _) _⟩
structure EnvG (B : Nat) (f0 : Value) (T : List Ten) (w : World) : Prop where
  b0 : w.cell? ⟨B, 0, none⟩ = some f0
  hT : TensL w f0 T
theorem EnvG.later {B : Nat} {f0 : Value} {T : List Ten} {w w' : World} (hb : Below w.heap.size w w') (h : EnvG B f0 T w) : EnvG B f0 T w' := ⟨cell_later hb h.b0, h.hT.later hb⟩
/-- A list whose numbers do not lie in block r. -/
def Elt (w : World) (r : Option Nat) (x : Value) (d : List Int) : Prop := Ints w x d ∧ (0 < d.length → x.ownBlock ≠ r)
theorem Elt.later {w w' : World} {r : Option Nat} {x : Value} {d : List Int} (hb : Below w.heap.size w w') (h : Elt w r x d) : Elt w' r x d := ⟨h.1.later hb, h.2⟩
theorem Elt.grown {w w' : World} {r r' : Option Nat} {x : Value} {d : List Int} (h : Elt w r x d) (hg : w.grownBy w' r) (hr : r' = r ∨ r' = some w.heap.size) : Elt w' r' x d := by
  obtain ⟨h0, hne⟩ := h
  rcases h0 with ⟨rfl, rfl⟩ | ⟨a, c, rfl, h1, h2, h3⟩
  · exact ⟨Ints.nil _, fun h => by simp at h⟩
  · refine ⟨Or.inr ⟨a, c, rfl, h1, h2, fun i hi => ?_⟩, fun h => ?_⟩
    · obtain ⟨b, off, rfl, hc⟩ := h3 i hi
      exact ⟨b, off, rfl, hg.cell hc (hne (by omega))⟩
    · rcases hr with rfl | rfl
      · exact hne h
      · obtain ⟨b, off, rfl, hc⟩ := h3 0 h
        have := World.block_lt_of_cell? _ _ hc
        simp only [Value.ownBlock, ne_eq, Option.some.injEq]
        simp only at this
        omega
/-- A list of tensors in a row of its own. -/
structure RowT (w : World) (B : Nat) (v : Value) (L : List Ten) (xs : List Value) : Prop where
  own : w.ownsRow B 70 2 v L.length xs
  elt : ∀ i (h : i < L.length), ∃ x y, xs[i * 2]? = some x ∧ xs[i * 2 + 1]? = some y ∧ Elt w v.ownBlock x L[i].1 ∧ Elt w v.ownBlock y L[i].2
theorem RowT.later {w w' : World} {B : Nat} {v : Value} {L : List Ten} {xs : List Value} (hb : Below w.heap.size w w') (h : RowT w B v L xs) : RowT w' B v L xs := by
  refine ⟨⟨h.own.1, ?_⟩, fun i hi => ?_⟩
  · rcases h.own.2 with h0 | ⟨g, cap, cur, rfl, h1, hh, h2⟩
    · exact Or.inl h0
    · exact Or.inr ⟨g, cap, cur, rfl, h1, (hb.block g (Array.getElem?_eq_some_iff.1 hh).1).trans hh, h2⟩
  · obtain ⟨x, y, hx, hy, he, hf⟩ := h.elt i hi
    exact ⟨x, y, hx, hy, he.later hb, hf.later hb⟩
theorem RowT.app {w w' : World} {B m : Nat} {v v' : Value} {L E : List Ten} {xs news : List Value} (h : RowT w B v L xs) (hm : m = E.length) (he : ∀ i (h : i < E.length), ∃ x y, news[i * 2]? = some x ∧ news[i * 2 + 1]? = some y ∧ Elt w v.ownBlock x E[i].1 ∧ Elt w v.ownBlock y E[i].2)
    (hown : w'.ownsRow B 70 2 v' (L.length + m) (xs ++ news)) (hg : w.grownBy w' v.ownBlock) (hat : v'.ownBlock = v.ownBlock ∨ v'.ownBlock = some w.heap.size) : RowT w' B v' (L ++ E) (xs ++ news) := by
  subst hm
  have hl := h.own.1
  refine ⟨by rw [List.length_append]; exact hown, fun i hi => ?_⟩
  by_cases hlt : i < L.length
  · obtain ⟨x, y, hx, hy, hx2, hy2⟩ := h.elt i hlt
    refine ⟨x, y, by rw [List.getElem?_append_left (by omega)]; exact hx, by rw [List.getElem?_append_left (by omega)]; exact hy, ?_, ?_⟩
    · rw [List.getElem_append_left hlt]
      exact hx2.grown hg hat
    · rw [List.getElem_append_left hlt]
      exact hy2.grown hg hat
  · rw [List.length_append] at hi
    obtain ⟨x, y, hx, hy, hx2, hy2⟩ := he (i - L.length) (by omega)
    refine ⟨x, y, by rw [List.getElem?_append_right (by omega), hl, ← Nat.sub_mul]; exact hx, ?_, ?_, ?_⟩
    · rw [List.getElem?_append_right (by omega), hl, show i * 2 + 1 - L.length * 2 = (i - L.length) * 2 + 1 from by omega]
      exact hy
    · rw [List.getElem_append_right (by omega)]
      exact hx2.grown hg hat
    · rw [List.getElem_append_right (by omega)]
      exact hy2.grown hg hat
theorem addr_add (b off j : Nat) : (⟨b, off, none⟩ : Addr).add j = ⟨b, off + j, none⟩ := by
  by_cases h0 : j = 0
  · subst h0; simp [Addr.add]
  · simp [Addr.add, h0]
theorem RowT.tensL {w : World} {B : Nat} {v : Value} {L : List Ten} {xs : List Value} (h : RowT w B v L xs) (hb : L.length ≤ big) : TensL w v L := by
  have hc := h.own
  rcases h.own.2 with ⟨rfl, h0⟩ | ⟨g, cap, cur, rfl, h1, hh, h2, h3, h4, h5⟩
  · refine ⟨hb, none, 0, by rw [h0], by omega, fun i hi => by omega⟩
  · refine ⟨hb, some ⟨g, 0, none⟩, cap, rfl, h2, fun i hi => ?_⟩
    obtain ⟨x, y, hx, hy, he, hf⟩ := h.elt i hi
    have k1 := hc.cells (g := g) rfl _ _ hx
    have k2 := hc.cells (g := g) rfl _ _ hy
    rw [addr_add] at k1 k2
    exact ⟨g, 0, x, y, rfl, k1, by rw [Nat.add_assoc]; exact k2, he.1, hf.1⟩
theorem RowT.lt {w : World} {B : Nat} {v : Value} {L : List Ten} {xs : List Value} (h : RowT w B v L xs) : ∀ k, v.ownBlock = some k → B ≤ k ∧ k < w.heap.size := h.own.lt
theorem lsF_ge : ∀ (l : List Nat) (x : Int), x ≤ lsF x l
  | [], x => Int.le_refl _
  | a :: r, x => by
    rw [lsF]
    split
    · have := lsF_ge r (x + a)
      omega
    · exact Int.le_refl _
theorem lsF_le (K : Nat) : ∀ (l : List Nat) (x : Int), (∀ a ∈ l, a ≤ K) → x ≤ 1048576 + K → lsF x l ≤ 1048576 + K
  | [], x, _, h => h
  | a :: r, x, hl, h => by
    rw [lsF]
    split
    · have := hl a (by simp)
      exact lsF_le K r (x + a) (fun y hy => hl y (by simp [hy])) (by omega)
    · exact h
theorem TB.grown {w w' : World} {N B : Nat} {row : Option Nat} {x y : Value} {t : Ten} (h : TB w B x y t) (hg : w.grownBy w' row) (hr : ∀ k, row = some k → k < N) (hB : N ≤ B) (hx : From N x) (hy : From N y) : TB w' B x y t := by
  have ne : ∀ {z : Value} {d : List Int}, Ints w z d → From N z → Ints w' z d := fun hz hf => (Elt.grown ⟨hz, fun h0 e => by
    cases hrow : row with
    | none =>
      rw [hrow] at e
      rcases hz.cases with ⟨q, _⟩ | ⟨b, off, c, rfl, _⟩
      · rw [q] at h0; simp at h0
      · simp [Value.ownBlock] at e
    | some k =>
      have h1 := hr k hrow
      have h2 := hf k (by rw [e, hrow])
      omega⟩ hg (Or.inl rfl)).1
  refine ⟨(hg.block B h.box.lt (fun e => ?_)).trans h.box, ne h.ten.1 hx, ne h.ten.2 hy⟩
  have := hr B e.symm
  omega
theorem RowT.form {w : World} {B : Nat} {v : Value} {L : List Ten} {xs : List Value} (h : RowT w B v L xs) (h0 : 0 < L.length) : ∃ g cap, v = .slice (some ⟨g, 0, none⟩) L.length cap ∧ L.length ≤ cap ∧ B ≤ g ∧ g < w.heap.size := by
  rcases h.own.2 with ⟨_, h1⟩ | ⟨g, cap, cur, rfl, hb, hh, h1, _⟩
  · omega
  · exact ⟨g, cap, rfl, h1, hb, (Array.getElem?_eq_some_iff.1 hh).1⟩
set_option maxHeartbeats 1000000 in
theorem steps_ok {v : Value} {d : List Int} {w : World} (h : Ints w v d) (hok : okd d = true) :
    Calls Try.prog 83 #[v] w fun e w' => e = .returned (.tuple #[.slice (some ⟨w.heap.size, 0, none⟩) d.length d.length, .int .i64 0]) ∧ Blk w' w.heap.size (stp d) ∧ Below w.heap.size w w' := by
  have H : Hid (Ints w v d) := h
  have HK : Hid (okd d = true) := hok
  obtain ⟨hl1, hl2, hin, hp⟩ := okd_parts hok
  have HI : Hid (inr d = true) := hin
  obtain ⟨av, c, hv⟩ : ∃ a c, v = .slice a d.length c := by
    rcases h.cases with ⟨rfl, a1, c1, rfl⟩ | ⟨b1, o1, c1, rfl, h0, h1, h2, h3⟩
    · exact ⟨_, _, rfl⟩
    · exact ⟨_, _, rfl⟩
  subst hv
  clear h hok hin hp
  have hmk := fun w => make_ints w d.length (by omega)
  go_enter Try.func83, Try.ntmps83
  go_wp2_with (go_at_call 66; refine (spell_any H.out).mono ?_; rw [spT_ok HK.out, erf_ok HK.out]; rintro e w' ⟨rfl, rfl⟩)
  go_loopw [] (fun w' => ∃ k : Nat, k ≤ d.length ∧ Blk w' w.heap.size (stA d k) ∧ It w' (w.heap.size + 1) (txt d) k ∧ Below w.heap.size w w') (fun w' => d.length - w'.iterPos (w.heap.size + 1))
  case atStart =>
    refine ⟨0, Nat.zero_le _, ?_, ?_, ?_⟩
    · rw [stA_zero]; exact (Blk.new w _).alloc _
    · have := It.new (w.alloc (.cells (ia (zer d.length)) 3)) (txt d) 0
      simpa using this
    · exact ((Below.refl _ _).alloc (Nat.le_refl _) _).alloc (by simp) _
  case round =>
    obtain ⟨k, hk, hB, hI, hbel⟩ := hrel
    by_cases hlt : k < d.length
    · have hnx := fun ty => hI.next HI.out hlt ty
      have HB1 : Hid (Blk (wr.iterAt (w.heap.size + 1) (txt d) (k + 1)) w.heap.size (stA d k)) := hB.moved (by omega) _ _
      have HI1 : Hid (It (wr.iterAt (w.heap.size + 1) (txt d) (k + 1)) (w.heap.size + 1) (txt d) (k + 1)) := hI.moved _
      have HL1 : Hid (Below w.heap.size w (wr.iterAt (w.heap.size + 1) (txt d) (k + 1))) := Below.moved hbel (by omega) _ _
      have HP : Hid (wr.iterPos (w.heap.size + 1) = k) := hI.pos
      obtain ⟨g1, g2⟩ := inr_mem HI.out (List.getElem_mem hlt)
      clear hB hI hbel
      go_wp2
      clear hnx
      go_loopw [28] (fun i w' => ∃ j : Nat, j ≤ k ∧ i = .int .i64 j ∧ Blk w' w.heap.size (stI d k j) ∧ It w' (w.heap.size + 1) (txt d) (k + 1) ∧ Below w.heap.size w w') (fun i _ => k - (intOf i).toNat)
      case atStart => exact ⟨0, Nat.zero_le _, rfl, by rw [stI_zero]; exact HB1.out, HI1.out, HL1.out⟩
      case round =>
        obtain ⟨j, hj, rfl, hB, hI, hbel⟩ := hrel
        by_cases hjk : j < k
        · have hc : wr.cell? ⟨w.heap.size, j, none⟩ = some (.int .i64 (stE d k j)) := by
            rw [hB.cell j (by rw [stI_length]; omega), stI_get d k j hjk hlt]
          have hf := hB.frozen j
          have hs := stE_bd HI.out k j hjk (by omega)
          have HB2 : Hid (Blk wr w.heap.size (stI d k j)) := hB
          have HI2 : Hid (It wr (w.heap.size + 1) (txt d) (k + 1)) := hI
          have HL2 : Hid (Below w.heap.size w wr) := hbel
          clear hB hI hbel
          obtain ⟨hs1, hs2⟩ := hs
          have hm1 : 1 ≤ stE d k j * d[k] := by
            have := Int.mul_le_mul hs1 g1 (by omega) (by omega)
            omega
          have hm2 : stE d k j * d[k] ≤ 512 := by
            have := Int.mul_le_mul hs2 g2 (by omega) (by omega)
            omega
          go_wp2
          go_region_with (go_at_call 67; refine (size_any _ _ g1 g2).mono ?_; rintro e w' ⟨rfl, rfl⟩)
          all_goals
            go_wp2
            go_roundw
            case rel =>
              refine ⟨j + 1, by omega, by go_num, ?_, ?_, ?_⟩
              · have := HB2.out.set j (stE d k j * d[k])
                rw [stI_set d k j hjk hlt] at this
                exact this
              · exact HI2.out.set _ _ (by simp)
              · exact (HL2.out.setCell (p := ⟨w.heap.size, j, none⟩) (Nat.le_refl w.heap.size) (.int .i64 (stE d k j * d[k]))).drew
            case measure => simp [intOf]; omega
        · have hj' : j = k := by omega
          subst hj'
          have hf := hB.frozen j
          have hc : ∃ x, wr.cell? ⟨w.heap.size, j, none⟩ = some x := ⟨_, hB.cell j (by rw [stI_length]; omega)⟩
          obtain ⟨x, hc⟩ := hc
          have HB2 : Hid (Blk wr w.heap.size (stI d j j)) := hB
          have HI2 : Hid (It wr (w.heap.size + 1) (txt d) (j + 1)) := hI
          have HL2 : Hid (Below w.heap.size w wr) := hbel
          clear hB hI hbel
          go_wp2
          go_roundw
          case rel =>
            refine ⟨j + 1, by omega, ?_, ?_, ?_⟩
            · have := HB2.out.set j 1
              rw [stI_last d j] at this
              exact this
            · exact HI2.out.set _ _ (by simp)
            · exact HL2.out.setCell (Nat.le_refl _) _
          case measure =>
            rw [(HI2.out.set ⟨w.heap.size, j, none⟩ (.int .i64 1) (by simp)).pos, HP.out]
            omega
    · have hk' : k = d.length := by omega
      subst hk'
      have hnx := fun ty => hI.done ty
      have HB1 : Hid (Blk wr w.heap.size (stp d)) := hB
      have HL1 : Hid (Below w.heap.size w wr) := hbel
      clear hB hI hbel
      go_wp2
      go_ret2
      exact ⟨rfl, HB1.out, HL1.out⟩
set_option maxHeartbeats 1000000 in
theorem at_ok {v v' : Value} {d p : List Int} {w : World} (hd : Ints w v d) (hp : Ints w v' p) (hok : okd d = true) :
    Calls Try.prog 73 #[v, v'] w fun e w' => e = .returned (.tuple #[.int .i64 (atR d p), .int .i64 (atE d p)]) ∧ Below w.heap.size w w' := by
  have HA : Hid (Ints w v d) := hd
  have HP : Hid (Ints w v' p) := hp
  have HK : Hid (okd d = true) := hok
  obtain ⟨hl1, hl2, hin, hpr⟩ := okd_parts hok
  have HI : Hid (inr d = true) := hin
  obtain ⟨da, dc, rfl⟩ := hd.shape
  obtain ⟨pa, pc, rfl⟩ := hp.shape
  have hpl := hp.len
  unfold big at hpl
  clear hd hok hin hpr
  go_enter Try.func73, Try.ntmps73
  go_wp2
  refine wp_scope_jumps 0 (fun a' w' => (Below w.heap.size w w' ∧ Hid (aok d p = false)) ∧ ∃ (u0 u1 u2 u3 u4 u5 u6 u7 u8 u9 u10 u11 u12 u13 u14 u15 u16 u17 u18 u19 u20 u21 u22 u23 u24 u25 u26 u27 u28 u29 u30 u31 u32 u33 u34 u35 u36 u37 u38 u39 u40 u41 u42 u43 u44 u45 u46 u47 u48 u49 u50 u51 u52 u53 u54 : Value), a' = { tmps := #[u0, u1, u2, u3, u4, u5, u6, u7, u8, u9, u10, u11, u12, u13, u14, u15, u16, u17, u18, u19, u20, u21, u22, u23, u24, u25, u26, u27, u28, u29, u30, u31, u32, u33, u34, u35, u36, u37, u38, u39, u40, u41, u42, u43, u44, u45, u46, u47, u48, u49, u50, u51, u52, u53, u54], defers := [] }) (fun _ _ => 0) rfl ?_ ?_
  · go_wp2_with fail
    refine (spell_any HA.out).mono ?_
    rw [spT_ok HK.out, erf_ok HK.out]
    rintro e w' ⟨rfl, rfl⟩
    by_cases hl : p.length = d.length
    · have hne : ((p.length : Int) != (d.length : Int)) = false := by simp [hl]
      have HL : Hid (p.length = d.length) := hl
      obtain ⟨b, off, rfl, hcell⟩ : ∃ b off, pa = some ⟨b, off, none⟩ ∧ Hid (∀ i (h : i < p.length), w.cell? ⟨b, off + i, none⟩ = some (.int .i64 p[i])) := by
        rcases hp.cases with ⟨rfl, a1, c1, e⟩ | ⟨b1, o1, c1, e, h0, h1, h2, h3⟩
        · simp only [List.length_nil] at hl; omega
        · simp only [Value.slice.injEq, true_and] at e
          obtain ⟨rfl, rfl⟩ := e
          exact ⟨b1, o1, rfl, h3⟩
      clear hl hp
      go_wp2
      go_loopw [6] (fun t w' => ∃ k : Nat, k ≤ d.length ∧ t = .int .i64 (atN d p k) ∧ It w' w.heap.size (txt d) k ∧ Below w.heap.size w w' ∧ Hid (∀ j, j < k → 0 ≤ p.getD j 0 ∧ p.getD j 0 < d.getD j 0)) (fun _ w' => d.length - w'.iterPos w.heap.size)
      case atStart => exact ⟨0, Nat.zero_le _, rfl, It.new w (txt d) 0, (Below.refl _ _).alloc (Nat.le_refl _) _, fun j hj => by omega⟩
      case round =>
        obtain ⟨k, hk, rfl, hI, hbel, hpre⟩ := hrel
        by_cases hlt : k < d.length
        · have hnx := fun ty => hI.next HI.out hlt ty
          have hltp : k < p.length := by have := HL.out; omega
          obtain ⟨g1, g2⟩ := inr_mem HI.out (List.getElem_mem hlt)
          have hx := cell_later hbel (hcell.out k hltp)
          have HB1 : Hid (Below w.heap.size w (wr.iterAt w.heap.size (txt d) (k + 1))) := Below.moved hbel (Nat.le_refl _) _ _
          have HI1 : Hid (It (wr.iterAt w.heap.size (txt d) (k + 1)) w.heap.size (txt d) (k + 1)) := hI.moved _
          have HPP : Hid (wr.iterPos w.heap.size = k) := hI.pos
          have hx1 : (wr.iterAt w.heap.size (txt d) (k + 1)).cell? ⟨b, off + k, none⟩ = some (.int .i64 p[k]) := cell_later HB1.out (hcell.out k hltp)
          have ep : p.getD k 0 = p[k] := by simp [hltp]
          have ed : d.getD k 0 = d[k] := by simp [hlt]
          have hbd := atN_bd HI.out k hk hpre.out
          have hp2 := prd_hi (inr_take HI.out k) 2 (by simp; omega)
          have ea : atN d p (k + 1) = atN d p k * d[k] + p[k] := by rw [atN, ep, ed]
          have EA : Hid (atN d p (k + 1) = atN d p k * d[k] + p[k]) := ea
          obtain ⟨hb1, hb2⟩ := hbd
          have hb3 : atN d p k ≤ 64 := by omega
          have hm1 : 0 ≤ atN d p k * d[k] := Int.mul_nonneg hb1 (by omega)
          have hm2 : atN d p k * d[k] ≤ 512 := by
            have := Int.mul_le_mul hb3 g2 (by omega) (by omega)
            omega
          clear hI hbel hx hp2 hb2 ea
          by_cases hr : 0 ≤ p[k] ∧ p[k] < d[k]
          · obtain ⟨r1, r2⟩ := hr
            have HR : Hid (∀ j, j < k + 1 → 0 ≤ p.getD j 0 ∧ p.getD j 0 < d.getD j 0) := by
              intro j hj
              by_cases e : j = k
              · subst e; rw [ep, ed]; exact ⟨r1, r2⟩
              · exact hpre.out j (by omega)
            clear ep ed
            go_wp2
            clear hnx
            generalize wr.iterAt w.heap.size (txt d) (k + 1) = W1 at *
            go_quiet ((go_at_call 67; exact quiet_eq (size_any _ _ g1 g2)))
            go_wp2
            replace HB1 : Hid (Below w.heap.size w (W1.drewN nq)) := Below.drewN HB1.out _
            replace HI1 : Hid (It (W1.drewN nq) w.heap.size (txt d) (k + 1)) := HI1.out
            replace hx1 : (W1.drewN nq).cell? ⟨b, off + k, none⟩ = some (.int .i64 p[k]) := hx1
            generalize W1.drewN nq = W2 at *
            go_quiet ((go_at_call 67; exact quiet_eq (size_any _ _ g1 g2)))
            go_wp2
            go_roundw
            case rel => exact ⟨k + 1, by omega, by rw [EA.out], HI1.out, Below.drewN HB1.out _, HR.out⟩
            case measure =>
              have : (W2.drewN nq).iterPos w.heap.size = k + 1 := It.pos (s := txt d) HI1.out
              rw [this, HPP.out]
              omega
          · have HBD : Hid (aok d p = false) := aok_bad k hlt (by rw [ep, ed]; exact hr)
            clear ep ed
            by_cases r1 : p[k] < 0
            · go_wp2
              clear hnx
              generalize wr.iterAt w.heap.size (txt d) (k + 1) = W1 at *
              have r2 : decide (p[k] < 0) = true := by simp [r1]
              go_quiet ((go_at_call 67; exact quiet_eq (size_any _ _ g1 g2)))
              go_wp2
              go_step3
              exact ⟨rfl, ⟨Below.drewN HB1.out _, HBD⟩, _, _, _, _, _, _, _, _, _, _, _, _, _, _, _, _, _, _, _, _, _, _, _, _, _, _, _, _, _, _, _, _, _, _, _, _, _, _, _, _, _, _, _, _, _, _, _, _, _, _, _, _, _, _, _, rfl⟩
            · have r2 : d[k] ≤ p[k] := by omega
              have r3 : decide (p[k] < 0) = false := by simpa using r1
              go_wp2
              clear hnx
              generalize wr.iterAt w.heap.size (txt d) (k + 1) = W1 at *
              go_quiet ((go_at_call 67; exact quiet_eq (size_any _ _ g1 g2)))
              go_wp2
              go_step3
              exact ⟨rfl, ⟨Below.drewN HB1.out _, HBD⟩, _, _, _, _, _, _, _, _, _, _, _, _, _, _, _, _, _, _, _, _, _, _, _, _, _, _, _, _, _, _, _, _, _, _, _, _, _, _, _, _, _, _, _, _, _, _, _, _, _, _, _, _, _, _, _, rfl⟩
        · have hk' : k = d.length := by omega
          subst hk'
          have hnx := fun ty => hI.done ty
          have HB1 : Hid (Below w.heap.size w wr) := hbel
          have HO : Hid (aok d p = true) := by
            show _ = _
            simp [aok, HK.out, pok_mk HL.out hpre.out]
          clear hI hbel
          go_wp2
          rw [jump_ret]
          go_ret2
          exact ⟨by rw [atR, atE, HO.out]; rfl, HB1.out⟩
    · have hne : ((p.length : Int) != (d.length : Int)) = true := by simp; omega
      have HBD : Hid (aok d p = false) := aok_len hl
      clear hl hp
      go_wp2
      go_step3
      exact ⟨rfl, ⟨Below.refl _ _, HBD⟩, _, _, _, _, _, _, _, _, _, _, _, _, _, _, _, _, _, _, _, _, _, _, _, _, _, _, _, _, _, _, _, _, _, _, _, _, _, _, _, _, _, _, _, _, _, _, _, _, _, _, _, _, _, _, _, rfl⟩
  · rintro a w' ⟨⟨hb, hbad⟩, u0, u1, u2, u3, u4, u5, u6, u7, u8, u9, u10, u11, u12, u13, u14, u15, u16, u17, u18, u19, u20, u21, u22, u23, u24, u25, u26, u27, u28, u29, u30, u31, u32, u33, u34, u35, u36, u37, u38, u39, u40, u41, u42, u43, u44, u45, u46, u47, u48, u49, u50, u51, u52, u53, u54, rfl⟩
    go_wp2
    rw [jump_ret]
    go_ret2
    exact ⟨by rw [atR, atE, hbad.out]; rfl, hb⟩
set_option maxHeartbeats 1000000 in
theorem where_ok {v : Value} {d : List Int} {w : World} (n : Int) (hd : Ints w v d) (hok : okd d = true) (h0 : 0 ≤ n) (h1 : n < prd d) :
    Calls Try.prog 72 #[v, .int .i64 n] w fun e w' => ∃ B, w.heap.size ≤ B ∧ e = .returned (.tuple #[.slice (some ⟨B, 0, none⟩) d.length d.length, .int .i64 0]) ∧ Blk w' B (whr d n) ∧ Below w.heap.size w w' := by
  have HA : Hid (Ints w v d) := hd
  have HK : Hid (okd d = true) := hok
  obtain ⟨hl1, hl2, hin, hpr⟩ := okd_parts hok
  have HI : Hid (inr d = true) := hin
  obtain ⟨da, dc, rfl⟩ := hd.shape
  have hmk := fun w => make_ints w d.length (by omega)
  have h64 : n < 64 := by omega
  clear hd hok hin
  go_enter Try.func72, Try.ntmps72
  go_wp2_with fail
  refine (cells_ok HA.out HK.out).mono ?_
  rintro e w1 ⟨rfl, hb1⟩
  have HB1 : Hid (Below w.heap.size w w1) := hb1
  have HA1 : Hid (Ints w1 (.slice da d.length dc) d) := HA.out.later hb1
  have hz1 := hb1.size
  clear hb1
  go_wp2_with fail
  refine (steps_ok HA1.out HK.out).mono ?_
  rintro e w2 ⟨rfl, hk2, hb2⟩
  have HK2 : Hid (Blk w2 w1.heap.size (stp d)) := hk2
  have HB2 : Hid (Below w.heap.size w w2) := Below.after HB1.out hb2
  have hz2 := hb2.size
  have hz3 := hk2.lt
  clear hb2 hk2
  go_wp2
  clear hmk
  have HST : Hid (Blk (w2.alloc (.cells (ia (zer d.length)) 3)) w2.heap.size (whA d n 0)) := by
    show Blk _ _ _
    rw [whA_zero]
    exact Blk.new w2 _
  go_loopw [1, 39] (fun r i w' => ∃ k : Nat, k ≤ d.length ∧ i = .int .i64 k ∧ r = .int .i64 (whR d n k) ∧ Blk w' w2.heap.size (whA d n k) ∧ Below w2.heap.size w2 w') (fun _ i _ => d.length - (intOf i).toNat)
  case atStart => exact ⟨0, by omega, rfl, rfl, HST.out, (Below.refl _ _).alloc (Nat.le_refl _) _⟩
  case round =>
    obtain ⟨k, hk, rfl, rfl, hB, hbel⟩ := hrel
    have HB3 : Hid (Blk wr w2.heap.size (whA d n k)) := hB
    have HBL3 : Hid (Below w2.heap.size w2 wr) := hbel
    clear hB hbel
    by_cases hlt : k < d.length
    · have hf := HB3.out.frozen k
      obtain ⟨x, hc⟩ : ∃ x, wr.cell? ⟨w2.heap.size, k, none⟩ = some x := ⟨_, HB3.out.cell k (by rw [whA_length]; exact hlt)⟩
      have hs : wr.cell? ⟨w1.heap.size, k, none⟩ = some (.int .i64 (stE d d.length k)) := by
        rw [(HK2.out.later HBL3.out (by omega)).cell k (by rw [stp_length]; exact hlt), stp_get]
      obtain ⟨s1, s2⟩ := stE_bd2 HI.out hl2 k hlt
      obtain ⟨r1, r2⟩ := whR_bd HI.out hl2 h0 h64 k hk
      have hne : ¬ (stE d d.length k = 0) := by omega
      have hnb : (stE d d.length k == 0) = false := by simp; omega
      go_wp2
      refine ⟨⟨k + 1, by omega, by go_num, rfl, ?_, HBL3.out.setCell (Nat.le_refl _) _⟩, by simp [intOf]; omega⟩
      have := HB3.out.set k (whE d n k)
      rw [whA_set] at this
      exact this
    · have hk' : k = d.length := by omega
      subst hk'
      go_wp2
      go_ret2
      refine ⟨w2.heap.size, by omega, rfl, ?_, Below.after HB2.out HBL3.out⟩
      have := HB3.out
      rw [whA_all] at this
      exact this
set_option maxHeartbeats 1000000 in
theorem crossed_any {v : Value} {x y : Int} {w : World} (h : Ints w v [x, y]) :
    Calls Try.prog 71 #[v] w fun e w' => e = .returned (.slice (some ⟨w.heap.size, 0, none⟩) 2 2) ∧ Blk w' w.heap.size [y, x] ∧ Below w.heap.size w w' := by
  obtain ⟨b, off, c, rfl, hc, hcell⟩ : ∃ b off c, v = .slice (some ⟨b, off, none⟩) 2 c ∧ 2 ≤ c ∧ (w.cell? ⟨b, off + 0, none⟩ = some (.int .i64 x) ∧ w.cell? ⟨b, off + 1, none⟩ = some (.int .i64 y)) := by
    rcases h.cases with ⟨e, _⟩ | ⟨b, off, c, rfl, h0, h1, h2, HC⟩
    · cases e
    · exact ⟨b, off, c, rfl, h1, HC.out 0 (by simp), HC.out 1 (by simp)⟩
  have hmk : (Instr.makeSlice 23 (.int .i64 2) (.int .i64 2)).run Try.prog w = .ok (.slice (some ⟨w.heap.size, 0, none⟩) 2 2) (w.alloc (.cells (ia (zer 2)) 3)) := make_ints w 2 (by omega)
  obtain ⟨g0, g1⟩ := hcell
  have hb0 : Below w.heap.size w ((w.alloc (.cells (ia (zer 2)) 3)).iter ⟨#[49, 48]⟩ 0) := by
    rw [iter_alloc]
    exact ((Below.refl _ _).alloc (Nat.le_refl _) _).alloc (by simp) _
  have hI0 : It ((w.alloc (.cells (ia (zer 2)) 3)).iter ⟨#[49, 48]⟩ 0) (w.heap.size + 1) ⟨#[49, 48]⟩ 0 := by
    have := It.new (w.alloc (.cells (ia (zer 2)) 3)) ⟨#[49, 48]⟩ 0
    simpa using this
  have hB0 : Blk ((w.alloc (.cells (ia (zer 2)) 3)).iter ⟨#[49, 48]⟩ 0) w.heap.size [0, 0] := by
    rw [iter_alloc]
    exact (Blk.new w _).alloc _
  have hn0 := fun ty => hI0.nx (by decide) 49 (by decide) (by decide) ty
  clear h
  go_enter Try.func71, Try.ntmps71
  go_wp2
  have hI1 := hI0.moved 1
  have hB1 := hB0.moved (I := w.heap.size + 1) (by omega) ⟨#[49, 48]⟩ 1
  have hb1 := Below.moved hb0 (I := w.heap.size + 1) (by omega) ⟨#[49, 48]⟩ 1
  clear hI0 hB0 hb0 hmk
  refine wp_loop_rounds 3 ?_
  rw [rounds_succ]
  generalize hW1 : ((w.alloc (.cells (ia (zer 2)) 3)).iter ⟨#[49, 48]⟩ 0).iterAt (w.heap.size + 1) ⟨#[49, 48]⟩ 1 = W1 at *
  have c1 : W1.cell? ⟨b, off + 1, none⟩ = some (.int .i64 y) := cell_later hb1 g1
  have d0 : W1.cell? ⟨w.heap.size, 0, none⟩ = some (.int .i64 0) := hB1.cell 0 (by simp)
  have f0 := hB1.frozen 0
  go_wp2
  have hI2 := hI1.set ⟨w.heap.size, 0, none⟩ (.int .i64 y) (by simp)
  have hB2 : Blk (W1.setCell ⟨w.heap.size, 0, none⟩ (.int .i64 y)) w.heap.size [y, 0] := hB1.set 0 y
  have hb2 : Below w.heap.size w (W1.setCell ⟨w.heap.size, 0, none⟩ (.int .i64 y)) := hb1.setCell (Nat.le_refl _) _
  have hn1 := fun ty => hI2.nx (by decide) 48 (by decide) (by decide) ty
  have hI3 := hI2.moved 2
  have hB3 := hB2.moved (I := w.heap.size + 1) (by omega) ⟨#[49, 48]⟩ 2
  have hb3 := Below.moved hb2 (I := w.heap.size + 1) (by omega) ⟨#[49, 48]⟩ 2
  clear hI1 hB1 hb1 hI2 hB2 hb2 c1 d0 f0 hn0 hW1
  generalize (W1.setCell ⟨w.heap.size, 0, none⟩ (.int .i64 y)) = V1 at *
  rw [rounds_succ]
  generalize V1.iterAt (w.heap.size + 1) ⟨#[49, 48]⟩ 2 = W2 at *
  have c0 : W2.cell? ⟨b, off, none⟩ = some (.int .i64 x) := cell_later hb3 g0
  have d1 : W2.cell? ⟨w.heap.size, 1, none⟩ = some (.int .i64 0) := hB3.cell 1 (by simp)
  have f1 := hB3.frozen 1
  go_wp2
  have hI4 := hI3.set ⟨w.heap.size, 1, none⟩ (.int .i64 x) (by simp)
  have hB4 : Blk (W2.setCell ⟨w.heap.size, 1, none⟩ (.int .i64 x)) w.heap.size [y, x] := hB3.set 1 x
  have hb4 : Below w.heap.size w (W2.setCell ⟨w.heap.size, 1, none⟩ (.int .i64 x)) := hb3.setCell (Nat.le_refl _) _
  have hn2 := fun ty => hI4.nd (by decide) ty
  clear hI3 hB3 hb3 c0 d1 f1 hn1
  generalize (W2.setCell ⟨w.heap.size, 1, none⟩ (.int .i64 x)) = V2 at *
  rw [rounds_succ]
  go_wp2
  go_ret
  exact ⟨rfl, hB4, hb4⟩
theorem at_to {v v' : Value} {d p : List Int} {w : World} (x : Int) (hd : Ints w v d) (hp : Ints w v' p) (ha : aok d p = true) (hx : atV d p = x) :
    Calls Try.prog 73 #[v, v'] w fun e w' => e = .returned (.tuple #[.int .i64 x, .int .i64 0]) ∧ Below w.heap.size w w' := by
  have hok : okd d = true := by
    simp only [aok, Bool.and_eq_true] at ha
    exact ha.1
  have := at_ok hd hp hok
  rw [atR, atE, ha, if_pos rfl, if_pos rfl, hx] at this
  exact this
set_option maxRecDepth 100000 in
set_option maxHeartbeats 2000000 in
theorem turn_bad {a0 a1 : Value} {s : Ten} {w : World} (ha : Tens w a0 a1 s) (hx : tok s = false) :
    Calls Try.prog 58 #[.agg #[a0, a1]] w fun e w' => e = .returned (.tuple #[.agg #[.slice none 0 0, .slice none 0 0], .int .i64 1]) ∧ Below w.heap.size w w' := by
  have hb : Below w.heap.size w (((w.alloc (.cells #[a0, a1] 70)).alloc (.cells #[.slice none 0 0, .slice none 0 0] 70)).alloc (.cells #[.slice none 0 0, .slice none 0 0] 70)) := (((Below.refl _ _).alloc (Nat.le_refl _) _).alloc (by simp) _).alloc (by simp; omega) _
  have HA : Hid (Tens (((w.alloc (.cells #[a0, a1] 70)).alloc (.cells #[.slice none 0 0, .slice none 0 0] 70)).alloc (.cells #[.slice none 0 0, .slice none 0 0] 70)) a0 a1 s) := ha.later hb
  have HB : Hid (Below w.heap.size w (((w.alloc (.cells #[a0, a1] 70)).alloc (.cells #[.slice none 0 0, .slice none 0 0] 70)).alloc (.cells #[.slice none 0 0, .slice none 0 0] 70))) := hb
  have HBX : Hid (Box (((w.alloc (.cells #[a0, a1] 70)).alloc (.cells #[.slice none 0 0, .slice none 0 0] 70)).alloc (.cells #[.slice none 0 0, .slice none 0 0] 70)) (w.heap.size + 1) (.slice none 0 0) (.slice none 0 0)) := by
    have := (Box.new (w.alloc (.cells #[a0, a1] 70)) (.slice none 0 0) (.slice none 0 0)).alloc (.cells #[.slice none 0 0, .slice none 0 0] 70)
    simp only [World.size_alloc] at this
    exact this
  obtain ⟨aa, an, ac, rfl⟩ := ha.1.shape3
  obtain ⟨ba, bn, bc, rfl⟩ := ha.2.shape3
  have HT : Hid (tkE s = 1) := by show _ = _; simp [tkE, hx]
  clear ha hb hx
  go_enter Try.func58, Try.ntmps58
  go_wp2_with fail
  refine wp_scope_jumps 0 (Jg 58 2 (w.heap.size + 1) w) (fun _ _ => 0) rfl ?_ ?_
  · go_wp2_with fail
    refine (tensor_to 1 HA.out HT.out).mono ?_
    rintro e w2 ⟨rfl, hb2⟩
    have HB2 : Hid (Below w.heap.size w w2) := Below.after HB.out hb2
    have HBX2 : Hid (Box w2 (w.heap.size + 1) (.slice none 0 0) (.slice none 0 0)) := HBX.out.later hb2
    clear hb2
    go_wp2
    go_step3
    exact ⟨rfl, rfl, rfl, rfl, HBX2.out, HB2.out⟩
  · rintro a w' ⟨hd, hs, h4, hbx, hbe⟩
    obtain ⟨G, hg, e⟩ := act58 a hd hs
    rw [hg] at h4
    subst e
    rw [h4]
    have l0 := hbx.c0
    have l1 := hbx.c1
    have m0 := hbx.f 0
    have m1 := hbx.f 1
    have HBS : Hid (Box _ _ _ _) := hbx.set (.slice none 0 0) (.slice none 0 0)
    have HBE : Hid (Below w.heap.size w w') := hbe
    clear hg hd hs hbx h4 hbe
    go_wp2
    rw [jump_ret]
    have hr0 := HBS.out.c0
    have hr1 := HBS.out.c1
    exact bodyPost_ret (v := .tuple #[.agg #[.slice none 0 0, .slice none 0 0], .int .i64 1]) (by simp [results, Try.results58, go_sem, hr0, hr1]) rfl ⟨rfl, (HBE.out.setCell (by simp) _).setCell (by simp) _⟩
end Go.Proofs.Ytjfkhfahpjdidaa
