/- Carried: I1, I2, I3, U2, U3, V2, V5. -/
import Derived.Test.YtheddpjaihhbdacGreatC17
namespace Go.Proofs.YtheddpjaihhbdacGreat
set_option linter.unusedVariables false
set_option linter.unusedSimpArgs false
set_option maxRecDepth 100000
open Go.RowKit

set_option maxHeartbeats 400000 in
theorem rwider_any {v v' : Value} {a b : List Int} {w : World} (ha : Ints w v a) (hb : Ints w v' b) :
    Calls Tryz.prog 42 #[v, v'] w fun e w' => e = .returned (.bool (wid a b)) ∧ ∃ n, w' = w.drewN n := by
  by_cases hl : a.length = b.length
  · have HL : Hid (a.length = b.length) := hl
    rcases ha.cases with ⟨rfl, a1, c1, rfl⟩ | ⟨b1, o1, c1, rfl, h0, h1, h2, h3⟩
    · rcases hb.cases with ⟨rfl, a2, c2, rfl⟩ | ⟨b2, o2, c2, rfl, h0, h1, h2, h3⟩
      · clear ha hb hl HL
        go_enter Tryz.func42, Tryz.ntmps42
        go_wp2
        refine wp_loop_rounds 1 ?_
        rw [rounds_succ]
        go_wp2
        go_ret
        exact ⟨rfl, 0, rfl⟩
      · simp only [List.length_nil] at hl; omega
    · rcases hb.cases with ⟨rfl, a2, c2, rfl⟩ | ⟨b2, o2, c2, rfl, h0', h1', h2', h3'⟩
      · simp only [List.length_nil] at hl; omega
      · clear ha hb
        have hne : ((a.length : Int) != (b.length : Int)) = false := by simp [hl]
        unfold big at h2 h2'
        clear hl
        go_enter Tryz.func42, Tryz.ntmps42
        go_wp2
        go_loopw [5] (fun i w' => ∃ k m : Nat, k ≤ a.length ∧ i = .int .i64 k ∧ w' = w.drewN m ∧ Hid (∀ j (h1 : j < a.length) (h2 : j < b.length), j < k → widAt a[j] b[j] = true)) (fun i _ => a.length - (intOf i).toNat)
        case atStart => exact ⟨0, 0, Nat.zero_le _, rfl, rfl, fun j h1 h2 h3 => by omega⟩
        case round =>
          obtain ⟨k, m, hk, rfl, rfl, hpre⟩ := hrel
          by_cases hlt : k < a.length
          · have hlt' : k < b.length := by have := HL.out; omega
            have hx := h3.out k hlt
            have hy := h3'.out k hlt'
            by_cases he : a[k] = b[k]
            · have he' : (a[k] != b[k]) = false := by simp [he]
              have HE : Hid (widAt a[k] b[k] = true) := by show _ = _; simp [widAt, he]
              clear he
              go_wp2
              go_quiet (fail)
              go_wp2
              go_roundw
              case rel =>
                refine ⟨k + 1, m + nq, by omega, by go_num, rfl, fun j h1 h2 h3 => ?_⟩
                by_cases hj : j = k
                · subst hj; exact HE.out
                · exact hpre.out j h1 h2 (by omega)
              case measure => simp [intOf]; omega
            · have he' : (a[k] != b[k]) = true := by simp [he]
              by_cases h1 : a[k] = 1
              · have h1' : (a[k] != 1) = false := by simp [h1]
                have HE : Hid (widAt a[k] b[k] = true) := by show _ = _; simp [widAt, h1]
                clear he h1
                go_wp2
                go_quiet (fail)
                go_wp2
                go_roundw
                case rel =>
                  refine ⟨k + 1, m + nq, by omega, by go_num, rfl, fun j h1 h2 h3 => ?_⟩
                  by_cases hj : j = k
                  · subst hj; exact HE.out
                  · exact hpre.out j h1 h2 (by omega)
                case measure => simp [intOf]; omega
              · have h1' : (a[k] != 1) = true := by simp [h1]
                have HE : Hid (wid a b = false) := wid_bad k hlt hlt' (by simp [widAt, h1, he])
                clear he h1
                go_wp2
                go_quiet (fail)
                go_wp2
                go_ret
                exact ⟨by rw [HE.out]; rfl, m + nq, by rw [World.drewN_drewN]⟩
          · have hk' : k = a.length := by omega
            have HE : Hid (wid a b = true) := wid_ok HL.out fun j h1 h2 => hpre.out j h1 h2 (by omega)
            clear hk'
            go_wp2
            go_ret
            exact ⟨by rw [HE.out]; rfl, _, rfl⟩
  · have HE : Hid (wid a b = false) := wid_len hl
    have hne : ((a.length : Int) != (b.length : Int)) = true := by simp; omega
    rcases ha.cases with ⟨rfl, a1, c1, rfl⟩ | ⟨b1, o1, c1, rfl, h0, h1, h2, h3⟩
    · rcases hb.cases with ⟨rfl, a2, c2, rfl⟩ | ⟨b2, o2, c2, rfl, h0', h1', h2', h3'⟩
      · exact absurd rfl hl
      · clear ha hb hl
        go_enter Tryz.func42, Tryz.ntmps42
        go_wp2
        go_ret
        exact ⟨by rw [HE.out]; rfl, 0, rfl⟩
    · rcases hb.cases with ⟨rfl, a2, c2, rfl⟩ | ⟨b2, o2, c2, rfl, h0', h1', h2', h3'⟩
      · clear ha hb hl
        go_enter Tryz.func42, Tryz.ntmps42
        go_wp2
        go_ret
        exact ⟨by rw [HE.out]; rfl, 0, rfl⟩
      · clear ha hb hl
        go_enter Tryz.func42, Tryz.ntmps42
        go_wp2
        go_ret
        exact ⟨by rw [HE.out]; rfl, 0, rfl⟩
theorem rwider_bl {v v' : Value} {a b : List Int} {w : World} (x : Bool) (ha : Ints w v a) (hb : Ints w v' b) (hx : wid a b = x) :
    Calls Tryz.prog 42 #[v, v'] w fun e w' => e = .returned (.bool x) ∧ Below w.heap.size w w' := by
  subst hx
  refine (rwider_any ha hb).mono ?_
  rintro e w' ⟨rfl, n, rfl⟩
  exact ⟨rfl, Below.drewN (Below.refl _ _) _⟩
set_option maxRecDepth 100000 in
set_option maxHeartbeats 4000000 in
theorem infer_k1 {vd vl : Value} {d : List Int} {w : World} (n : Int) (hd : Ints w vd d) :
    Calls Tryz.prog 22 #[.int .i64 1, .int .i64 n, vd, vl] w fun e w' => ∃ x, e = .returned (.tuple #[x, .bool true]) ∧ Own w' w.heap.size x (d) ∧ Below w.heap.size w w' := by
  obtain ⟨da, dn, dc, rfl⟩ := hd.shape3
  have HD : Hid (Ints w (.slice da dn dc) d) := hd
  clear hd
  go_enter Tryz.func22, Tryz.ntmps22
  go_wp2_with fail
  refine (copy_Own HD.out).mono ?_
  rintro e w1 ⟨x, rfl, ho, hb⟩
  have HO : Hid (Own w1 w.heap.size x d) := ho
  have HB : Hid (Below w.heap.size w w1) := hb
  clear ho hb
  go_wp2
  go_ret2
  exact ⟨_, rfl, HO.out, HB.out⟩
set_option maxRecDepth 100000 in
set_option maxHeartbeats 4000000 in
theorem infer_k2 {vd vl : Value} {d : List Int} {w : World} (n : Int) (hd : Ints w vd d) :
    Calls Tryz.prog 22 #[.int .i64 2, .int .i64 n, vd, vl] w fun e w' => ∃ x, e = .returned (.tuple #[x, .bool true]) ∧ Own w' w.heap.size x (d) ∧ Below w.heap.size w w' := by
  obtain ⟨da, dn, dc, rfl⟩ := hd.shape3
  have HD : Hid (Ints w (.slice da dn dc) d) := hd
  clear hd
  go_enter Tryz.func22, Tryz.ntmps22
  go_wp2_with fail
  refine (copy_Own HD.out).mono ?_
  rintro e w1 ⟨x, rfl, ho, hb⟩
  have HO : Hid (Own w1 w.heap.size x d) := ho
  have HB : Hid (Below w.heap.size w w1) := hb
  clear ho hb
  go_wp2
  go_ret2
  exact ⟨_, rfl, HO.out, HB.out⟩
set_option maxRecDepth 100000 in
set_option maxHeartbeats 4000000 in
theorem infer_k3 {vd vl : Value} {d : List Int} {w : World} (n : Int) (hd : Ints w vd d) :
    Calls Tryz.prog 22 #[.int .i64 3, .int .i64 n, vd, vl] w fun e w' => ∃ x, e = .returned (.tuple #[x, .bool true]) ∧ Own w' w.heap.size x (d) ∧ Below w.heap.size w w' := by
  obtain ⟨da, dn, dc, rfl⟩ := hd.shape3
  have HD : Hid (Ints w (.slice da dn dc) d) := hd
  clear hd
  go_enter Tryz.func22, Tryz.ntmps22
  go_wp2_with fail
  refine (copy_Own HD.out).mono ?_
  rintro e w1 ⟨x, rfl, ho, hb⟩
  have HO : Hid (Own w1 w.heap.size x d) := ho
  have HB : Hid (Below w.heap.size w w1) := hb
  clear ho hb
  go_wp2
  go_ret2
  exact ⟨_, rfl, HO.out, HB.out⟩
set_option maxRecDepth 100000 in
set_option maxHeartbeats 4000000 in
theorem infer_k4 {vd a0 b0 : Value} {d0 d1 : List Int} {w : World} {P c : Nat} (n : Int) (hc : 2 ≤ c) (ha : Ints w a0 d0) (hb : Ints w b0 d1) (p0 : w.cell? ⟨P, 0, none⟩ = some a0) (p1 : w.cell? ⟨P, 1, none⟩ = some b0) (q : Bool) (hq : (d0 == d1) = q) :
    Calls Tryz.prog 22 #[.int .i64 4, .int .i64 n, vd, .slice (some ⟨P, 0, none⟩) 2 c] w fun e w' => ∃ x, e = .returned (.tuple #[x, .bool q]) ∧ Own w' w.heap.size x (d0) ∧ Below w.heap.size w w' := by
  obtain ⟨aa, an, ac, rfl⟩ := ha.shape3
  obtain ⟨ba, bn, bc, rfl⟩ := hb.shape3
  have HA : Hid (Ints w (.slice aa an ac) d0) := ha
  have HT : Hid (Ints w (.slice ba bn bc) d1) := hb
  have HQ : Hid ((d0 == d1) = q) := hq
  clear ha hb hq
  go_enter Tryz.func22, Tryz.ntmps22
  go_wp2_with fail
  go_region_held3 (fun w' => w'.cell? ⟨P, 0, none⟩ = some (.slice aa an ac) ∧ w'.cell? ⟨P, 1, none⟩ = some (.slice ba bn bc)) (go_keep)
    (first
      | (go_at_call 17; refine (copy_Own (d := d0) ?_).mono ?_; exact HA.out.later (Below.refl _ _).drew; rintro r w4 ⟨y, rfl, ho4, hb4⟩; have HB4 : Hid (Below w.heap.size w w4) := Below.after (Below.refl _ _).drew hb4; have HO4 : Hid (Own w4 w.heap.size y d0) := ho4; have a_0 := cell_later HB4.out p0; have a_1 := cell_later HB4.out p1; clear ho4 hb4)
      | (go_at_call 26; refine (eqn_to q (a := d0) (b := d1) ?_ ?_ HQ.out).mono ?_; exact HA.out.later HB4.out; exact HT.out.later HB4.out; rintro r w5 ⟨rfl, m5, e5⟩; have HB5 : Hid (Below w4.heap.size w4 w5) := (by show Below _ _ _; rw [e5]; exact Below.drewN (Below.refl _ _) _); have b_0 := cell_later (Below.after HB4.out HB5.out) p0; have b_1 := cell_later (Below.after HB4.out HB5.out) p1; clear e5))
  clear a_0 a_1 b_0 b_1 p0 p1
  go_wp2
  go_ret2
  exact ⟨_, rfl, HO4.out.later HB5.out, Below.after HB4.out HB5.out⟩
set_option maxRecDepth 100000 in
set_option maxHeartbeats 4000000 in
theorem infer_k5 {vd a0 b0 : Value} {d0 d1 : List Int} {w : World} {P c : Nat} (n : Int) (hc : 2 ≤ c) (ha : Ints w a0 d0) (hb : Ints w b0 d1) (p0 : w.cell? ⟨P, 0, none⟩ = some a0) (p1 : w.cell? ⟨P, 1, none⟩ = some b0) (q : Bool) (hq : (d0 == d1) = q) :
    Calls Tryz.prog 22 #[.int .i64 5, .int .i64 n, vd, .slice (some ⟨P, 0, none⟩) 2 c] w fun e w' => ∃ x, e = .returned (.tuple #[x, .bool q]) ∧ Own w' w.heap.size x (d0) ∧ Below w.heap.size w w' := by
  obtain ⟨aa, an, ac, rfl⟩ := ha.shape3
  obtain ⟨ba, bn, bc, rfl⟩ := hb.shape3
  have HA : Hid (Ints w (.slice aa an ac) d0) := ha
  have HT : Hid (Ints w (.slice ba bn bc) d1) := hb
  have HQ : Hid ((d0 == d1) = q) := hq
  clear ha hb hq
  go_enter Tryz.func22, Tryz.ntmps22
  go_wp2_with fail
  go_region_held3 (fun w' => w'.cell? ⟨P, 0, none⟩ = some (.slice aa an ac) ∧ w'.cell? ⟨P, 1, none⟩ = some (.slice ba bn bc)) (go_keep)
    (first
      | (go_at_call 17; refine (copy_Own (d := d0) ?_).mono ?_; exact HA.out.later (Below.refl _ _).drew; rintro r w4 ⟨y, rfl, ho4, hb4⟩; have HB4 : Hid (Below w.heap.size w w4) := Below.after (Below.refl _ _).drew hb4; have HO4 : Hid (Own w4 w.heap.size y d0) := ho4; have a_0 := cell_later HB4.out p0; have a_1 := cell_later HB4.out p1; clear ho4 hb4)
      | (go_at_call 26; refine (eqn_to q (a := d0) (b := d1) ?_ ?_ HQ.out).mono ?_; exact HA.out.later HB4.out; exact HT.out.later HB4.out; rintro r w5 ⟨rfl, m5, e5⟩; have HB5 : Hid (Below w4.heap.size w4 w5) := (by show Below _ _ _; rw [e5]; exact Below.drewN (Below.refl _ _) _); have b_0 := cell_later (Below.after HB4.out HB5.out) p0; have b_1 := cell_later (Below.after HB4.out HB5.out) p1; clear e5))
  clear a_0 a_1 b_0 b_1 p0 p1
  go_wp2
  go_ret2
  exact ⟨_, rfl, HO4.out.later HB5.out, Below.after HB4.out HB5.out⟩
set_option maxRecDepth 100000 in
set_option maxHeartbeats 4000000 in
theorem infer_k6 {vd a0 b0 : Value} {d0 d1 : List Int} {w : World} {P c : Nat} (n : Int) (hc : 2 ≤ c) (ha : Ints w a0 d0) (hb : Ints w b0 d1) (p0 : w.cell? ⟨P, 0, none⟩ = some a0) (p1 : w.cell? ⟨P, 1, none⟩ = some b0) (q : Bool) (hq : (d0 == d1) = q) :
    Calls Tryz.prog 22 #[.int .i64 6, .int .i64 n, vd, .slice (some ⟨P, 0, none⟩) 2 c] w fun e w' => ∃ x, e = .returned (.tuple #[x, .bool q]) ∧ Own w' w.heap.size x (d0) ∧ Below w.heap.size w w' := by
  obtain ⟨aa, an, ac, rfl⟩ := ha.shape3
  obtain ⟨ba, bn, bc, rfl⟩ := hb.shape3
  have HA : Hid (Ints w (.slice aa an ac) d0) := ha
  have HT : Hid (Ints w (.slice ba bn bc) d1) := hb
  have HQ : Hid ((d0 == d1) = q) := hq
  clear ha hb hq
  go_enter Tryz.func22, Tryz.ntmps22
  go_wp2_with fail
  go_region_held3 (fun w' => w'.cell? ⟨P, 0, none⟩ = some (.slice aa an ac) ∧ w'.cell? ⟨P, 1, none⟩ = some (.slice ba bn bc)) (go_keep)
    (first
      | (go_at_call 17; refine (copy_Own (d := d0) ?_).mono ?_; exact HA.out.later (Below.refl _ _).drew; rintro r w4 ⟨y, rfl, ho4, hb4⟩; have HB4 : Hid (Below w.heap.size w w4) := Below.after (Below.refl _ _).drew hb4; have HO4 : Hid (Own w4 w.heap.size y d0) := ho4; have a_0 := cell_later HB4.out p0; have a_1 := cell_later HB4.out p1; clear ho4 hb4)
      | (go_at_call 26; refine (eqn_to q (a := d0) (b := d1) ?_ ?_ HQ.out).mono ?_; exact HA.out.later HB4.out; exact HT.out.later HB4.out; rintro r w5 ⟨rfl, m5, e5⟩; have HB5 : Hid (Below w4.heap.size w4 w5) := (by show Below _ _ _; rw [e5]; exact Below.drewN (Below.refl _ _) _); have b_0 := cell_later (Below.after HB4.out HB5.out) p0; have b_1 := cell_later (Below.after HB4.out HB5.out) p1; clear e5))
  clear a_0 a_1 b_0 b_1 p0 p1
  go_wp2
  go_ret2
  exact ⟨_, rfl, HO4.out.later HB5.out, Below.after HB4.out HB5.out⟩
set_option maxRecDepth 100000 in
set_option maxHeartbeats 4000000 in
theorem infer_k16 {vd a0 b0 : Value} {d0 d1 : List Int} {w : World} {P c : Nat} (n : Int) (hc : 2 ≤ c) (ha : Ints w a0 d0) (hb : Ints w b0 d1) (p0 : w.cell? ⟨P, 0, none⟩ = some a0) (p1 : w.cell? ⟨P, 1, none⟩ = some b0) (q : Bool) (hq : (d0 == d1) = q) :
    Calls Tryz.prog 22 #[.int .i64 16, .int .i64 n, vd, .slice (some ⟨P, 0, none⟩) 2 c] w fun e w' => ∃ x, e = .returned (.tuple #[x, .bool q]) ∧ Own w' w.heap.size x (d0) ∧ Below w.heap.size w w' := by
  obtain ⟨aa, an, ac, rfl⟩ := ha.shape3
  obtain ⟨ba, bn, bc, rfl⟩ := hb.shape3
  have HA : Hid (Ints w (.slice aa an ac) d0) := ha
  have HT : Hid (Ints w (.slice ba bn bc) d1) := hb
  have HQ : Hid ((d0 == d1) = q) := hq
  clear ha hb hq
  go_enter Tryz.func22, Tryz.ntmps22
  go_wp2_with fail
  go_region_held3 (fun w' => w'.cell? ⟨P, 0, none⟩ = some (.slice aa an ac) ∧ w'.cell? ⟨P, 1, none⟩ = some (.slice ba bn bc)) (go_keep)
    (first
      | (go_at_call 17; refine (copy_Own (d := d0) ?_).mono ?_; exact HA.out.later (Below.refl _ _).drew; rintro r w4 ⟨y, rfl, ho4, hb4⟩; have HB4 : Hid (Below w.heap.size w w4) := Below.after (Below.refl _ _).drew hb4; have HO4 : Hid (Own w4 w.heap.size y d0) := ho4; have a_0 := cell_later HB4.out p0; have a_1 := cell_later HB4.out p1; clear ho4 hb4)
      | (go_at_call 26; refine (eqn_to q (a := d0) (b := d1) ?_ ?_ HQ.out).mono ?_; exact HA.out.later HB4.out; exact HT.out.later HB4.out; rintro r w5 ⟨rfl, m5, e5⟩; have HB5 : Hid (Below w4.heap.size w4 w5) := (by show Below _ _ _; rw [e5]; exact Below.drewN (Below.refl _ _) _); have b_0 := cell_later (Below.after HB4.out HB5.out) p0; have b_1 := cell_later (Below.after HB4.out HB5.out) p1; clear e5))
  clear a_0 a_1 b_0 b_1 p0 p1
  go_wp2
  go_ret2
  exact ⟨_, rfl, HO4.out.later HB5.out, Below.after HB4.out HB5.out⟩
set_option maxRecDepth 100000 in
set_option maxHeartbeats 4000000 in
theorem infer_k7 {vd a0 : Value} {d0 : List Int} {w : World} {P c : Nat} (n : Int) (hc : 1 ≤ c) (ha : Ints w a0 d0) (p0 : w.cell? ⟨P, 0, none⟩ = some a0) :
    Calls Tryz.prog 22 #[.int .i64 7, .int .i64 n, vd, .slice (some ⟨P, 0, none⟩) 1 c] w fun e w' => ∃ x, e = .returned (.tuple #[x, .bool true]) ∧ Own w' w.heap.size x (d0) ∧ Below w.heap.size w w' := by
  obtain ⟨aa, an, ac, rfl⟩ := ha.shape3
  have HA : Hid (Ints w (.slice aa an ac) d0) := ha
  clear ha
  go_enter Tryz.func22, Tryz.ntmps22
  go_wp2_with fail
  refine (copy_Own HA.out).mono ?_
  rintro e w1 ⟨x, rfl, ho, hb⟩
  have HO : Hid (Own w1 w.heap.size x d0) := ho
  have HB : Hid (Below w.heap.size w w1) := hb
  clear ho hb
  go_wp2
  go_ret2
  exact ⟨_, rfl, HO.out, HB.out⟩
set_option maxRecDepth 100000 in
set_option maxHeartbeats 4000000 in
theorem infer_k8 {vd a0 : Value} {d0 : List Int} {w : World} {P c : Nat} (n : Int) (hc : 1 ≤ c) (ha : Ints w a0 d0) (p0 : w.cell? ⟨P, 0, none⟩ = some a0) :
    Calls Tryz.prog 22 #[.int .i64 8, .int .i64 n, vd, .slice (some ⟨P, 0, none⟩) 1 c] w fun e w' => ∃ x, e = .returned (.tuple #[x, .bool true]) ∧ Own w' w.heap.size x (d0) ∧ Below w.heap.size w w' := by
  obtain ⟨aa, an, ac, rfl⟩ := ha.shape3
  have HA : Hid (Ints w (.slice aa an ac) d0) := ha
  clear ha
  go_enter Tryz.func22, Tryz.ntmps22
  go_wp2_with fail
  refine (copy_Own HA.out).mono ?_
  rintro e w1 ⟨x, rfl, ho, hb⟩
  have HO : Hid (Own w1 w.heap.size x d0) := ho
  have HB : Hid (Below w.heap.size w w1) := hb
  clear ho hb
  go_wp2
  go_ret2
  exact ⟨_, rfl, HO.out, HB.out⟩
set_option maxRecDepth 100000 in
set_option maxHeartbeats 4000000 in
theorem infer_k14 {vd a0 : Value} {d0 : List Int} {w : World} {P c : Nat} (n : Int) (hc : 1 ≤ c) (ha : Ints w a0 d0) (p0 : w.cell? ⟨P, 0, none⟩ = some a0) :
    Calls Tryz.prog 22 #[.int .i64 14, .int .i64 n, vd, .slice (some ⟨P, 0, none⟩) 1 c] w fun e w' => ∃ x, e = .returned (.tuple #[x, .bool true]) ∧ Own w' w.heap.size x (d0) ∧ Below w.heap.size w w' := by
  obtain ⟨aa, an, ac, rfl⟩ := ha.shape3
  have HA : Hid (Ints w (.slice aa an ac) d0) := ha
  clear ha
  go_enter Tryz.func22, Tryz.ntmps22
  go_wp2_with fail
  refine (copy_Own HA.out).mono ?_
  rintro e w1 ⟨x, rfl, ho, hb⟩
  have HO : Hid (Own w1 w.heap.size x d0) := ho
  have HB : Hid (Below w.heap.size w w1) := hb
  clear ho hb
  go_wp2
  go_ret2
  exact ⟨_, rfl, HO.out, HB.out⟩
theorem rcells_to {v : Value} {d : List Int} {w : World} (x : Int) (h : Ints w v d) (hok : okd d = true) (hx : prd d = x) :
    Calls Tryz.prog 32 #[v] w fun e w' => e = .returned (.int .i64 x) ∧ w = w' := by
  subst hx
  exact rcells_ok h hok
set_option maxRecDepth 100000 in
set_option maxHeartbeats 4000000 in
theorem infer_k11 {vd a0 : Value} {d d0 : List Int} {w : World} {P c : Nat} (n : Int) (q : Bool) (hc : 1 ≤ c) (hd : Ints w vd d) (ha : Ints w a0 d0) (p0 : w.cell? ⟨P, 0, none⟩ = some a0) (h0 : okd d0 = true) (h1 : okd d = true) (hq : (prd d == prd d0) = q) :
    Calls Tryz.prog 22 #[.int .i64 11, .int .i64 n, vd, .slice (some ⟨P, 0, none⟩) 1 c] w fun e w' => ∃ x, e = .returned (.tuple #[x, .bool q]) ∧ Own w' w.heap.size x (d) ∧ Below w.heap.size w w' := by
  obtain ⟨aa, an, ac, rfl⟩ := ha.shape3
  obtain ⟨da, dn, dc, rfl⟩ := hd.shape3
  have HA : Hid (Ints w (.slice aa an ac) d0) := ha
  have HD : Hid (Ints w (.slice da dn dc) d) := hd
  have H0 : Hid (okd d0 = true) := h0
  have H1 : Hid (okd d = true) := h1
  obtain ⟨x0, hx0⟩ : ∃ x, prd d0 = x := ⟨_, rfl⟩
  obtain ⟨x1, hx1⟩ : ∃ x, prd d = x := ⟨_, rfl⟩
  rw [hx0, hx1] at hq
  have HX : Hid (prd d0 = x0 ∧ prd d = x1) := ⟨hx0, hx1⟩
  clear ha hd h0 h1 hx0 hx1
  go_enter Tryz.func22, Tryz.ntmps22
  go_wp2_with fail
  go_region_held3 (fun w' => w'.cell? ⟨P, 0, none⟩ = some (.slice aa an ac)) (assumption)
    (first
      | (go_at_call 17; refine (copy_Own (d := d) ?_).mono ?_; exact HD.out.later (Below.refl _ _).drew; rintro r w4 ⟨y, rfl, ho4, hb4⟩; have HB4 : Hid (Below w.heap.size w w4) := Below.after (Below.refl _ _).drew hb4; have HO4 : Hid (Own w4 w.heap.size y d) := ho4; have a_0 := cell_later HB4.out p0; clear ho4 hb4)
      | (go_at_call_of 32 (Value.slice da dn dc); refine (rcells_to x1 (d := d) ?_ H1.out HX.out.2).mono ?_; exact HD.out.later HB4.out; rintro r w5 ⟨rfl, rfl⟩)
      | (go_at_call_of 32 (Value.slice aa an ac); refine (rcells_to x0 (d := d0) ?_ H0.out HX.out.1).mono ?_; exact HA.out.later HB4.out; rintro r w5 ⟨rfl, rfl⟩))
  clear a_0 p0
  go_wp2
  go_ret2
  exact ⟨_, by rw [← hq]; rfl, HO4.out, HB4.out⟩
set_option maxRecDepth 100000 in
set_option maxHeartbeats 4000000 in
theorem infer_k12 {vd a0 : Value} {d d0 : List Int} {w : World} {P c : Nat} (n : Int) (q : Bool) (hc : 1 ≤ c) (hd : Ints w vd d) (ha : Ints w a0 d0) (p0 : w.cell? ⟨P, 0, none⟩ = some a0) (hq : wid d0 d = q) :
    Calls Tryz.prog 22 #[.int .i64 12, .int .i64 n, vd, .slice (some ⟨P, 0, none⟩) 1 c] w fun e w' => ∃ x, e = .returned (.tuple #[x, .bool q]) ∧ Own w' w.heap.size x (d) ∧ Below w.heap.size w w' := by
  obtain ⟨aa, an, ac, rfl⟩ := ha.shape3
  obtain ⟨da, dn, dc, rfl⟩ := hd.shape3
  have HA : Hid (Ints w (.slice aa an ac) d0) := ha
  have HD : Hid (Ints w (.slice da dn dc) d) := hd
  have HQ : Hid (wid d0 d = q) := hq
  clear ha hd hq
  go_enter Tryz.func22, Tryz.ntmps22
  go_wp2_with fail
  go_region_held3 (fun w' => w'.cell? ⟨P, 0, none⟩ = some (.slice aa an ac)) (assumption)
    (first
      | (go_at_call 17; refine (copy_Own (d := d) ?_).mono ?_; exact HD.out.later (Below.refl _ _).drew; rintro r w4 ⟨y, rfl, ho4, hb4⟩; have HB4 : Hid (Below w.heap.size w w4) := Below.after (Below.refl _ _).drew hb4; have HO4 : Hid (Own w4 w.heap.size y d) := ho4; have a_0 := cell_later HB4.out p0; clear ho4 hb4)
      | (go_at_call 42; refine (rwider_bl q (a := d0) (b := d) ?_ ?_ HQ.out).mono ?_; exact HA.out.later HB4.out; exact HD.out.later HB4.out; rintro r w5 ⟨rfl, hb5⟩; have HB5 : Hid (Below w4.heap.size w4 w5) := hb5; have b_0 := cell_later (Below.after HB4.out HB5.out) p0; clear hb5))
  clear a_0 b_0 p0
  go_wp2
  go_ret2
  exact ⟨_, rfl, HO4.out.later HB5.out, Below.after HB4.out HB5.out⟩
set_option maxRecDepth 100000 in
set_option maxHeartbeats 4000000 in
theorem infer_k13 {vd a0 : Value} {d d0 : List Int} {w : World} {P c : Nat} (n : Int) (q : Bool) (hc : 1 ≤ c) (hd : Ints w vd d) (ha : Ints w a0 d0) (p0 : w.cell? ⟨P, 0, none⟩ = some a0) (hq : wid d d0 = q) :
    Calls Tryz.prog 22 #[.int .i64 13, .int .i64 n, vd, .slice (some ⟨P, 0, none⟩) 1 c] w fun e w' => ∃ x, e = .returned (.tuple #[x, .bool q]) ∧ Own w' w.heap.size x (d) ∧ Below w.heap.size w w' := by
  obtain ⟨aa, an, ac, rfl⟩ := ha.shape3
  obtain ⟨da, dn, dc, rfl⟩ := hd.shape3
  have HA : Hid (Ints w (.slice aa an ac) d0) := ha
  have HD : Hid (Ints w (.slice da dn dc) d) := hd
  have HQ : Hid (wid d d0 = q) := hq
  clear ha hd hq
  go_enter Tryz.func22, Tryz.ntmps22
  go_wp2_with fail
  go_region_held3 (fun w' => w'.cell? ⟨P, 0, none⟩ = some (.slice aa an ac)) (assumption)
    (first
      | (go_at_call 17; refine (copy_Own (d := d) ?_).mono ?_; exact HD.out.later (Below.refl _ _).drew; rintro r w4 ⟨y, rfl, ho4, hb4⟩; have HB4 : Hid (Below w.heap.size w w4) := Below.after (Below.refl _ _).drew hb4; have HO4 : Hid (Own w4 w.heap.size y d) := ho4; have a_0 := cell_later HB4.out p0; clear ho4 hb4)
      | (go_at_call 42; refine (rwider_bl q (a := d) (b := d0) ?_ ?_ HQ.out).mono ?_; exact HD.out.later HB4.out; exact HA.out.later HB4.out; rintro r w5 ⟨rfl, hb5⟩; have HB5 : Hid (Below w4.heap.size w4 w5) := hb5; have b_0 := cell_later (Below.after HB4.out HB5.out) p0; clear hb5))
  clear a_0 b_0 p0
  go_wp2
  go_ret2
  exact ⟨_, rfl, HO4.out.later HB5.out, Below.after HB4.out HB5.out⟩
theorem Own.getD {w : World} {v : Value} {d : List Int} {n : Nat} (h : Ints w v d) (hn : d.length = n) (h1 : 1 ≤ n) :
    ∃ b o c, v = .slice (some ⟨b, o, none⟩) n c ∧ n ≤ c ∧ ∀ k, k < n → w.cell? ⟨b, o + k, none⟩ = some (.int .i64 (d.getD k 0)) := by
  subst hn
  rcases h.cases with ⟨e, _⟩ | ⟨b, o, c, e, _, hc, _, HC⟩
  · rw [e] at h1; simp at h1
  · exact ⟨b, o, c, e, hc, fun k hk => Ints.cellD (n := 0) (c := 0) HC k hk⟩
/-- Dims that may be: the last one in memory. -/
theorem last_ofD {w : World} {a0 : Value} {d : List Int} (ha : Ints w a0 d) (ho : okd d = true) :
    ∃ b off c E L : Nat, a0 = .slice (some ⟨b, off, none⟩) (E + 1) c ∧ d.length = E + 1 ∧ lastD d = (L : Int) ∧ 1 ≤ L ∧ L ≤ 8 ∧ E + 1 ≤ c ∧ E ≤ 2 ∧ b < w.heap.size ∧ w.cell? ⟨b, off + E, none⟩ = some (.int .i64 L) := by
  obtain ⟨h1, h3, _, _⟩ := okd_parts ho
  obtain ⟨l1, l8⟩ := lastD_bd ho
  have hold := ha.old h1
  rcases ha.cases with ⟨e, _⟩ | ⟨b, off, c, rfl, h0, hc, hb, HC⟩
  · rw [e] at h1; simp at h1
  obtain ⟨E, hE⟩ : ∃ E, d.length = E + 1 := ⟨d.length - 1, by omega⟩
  refine ⟨b, off, c, E, (lastD d).toNat, by rw [hE], hE, by omega, by omega, by omega, by omega, by omega, hold b rfl, ?_⟩
  have := Ints.cellD (n := 0) (c := 0) HC E (by omega)
  rw [this]
  congr 2
  have : lastD d = d.getD E 0 := by rw [lastD, hE]; rfl
  omega
set_option maxRecDepth 100000 in
set_option maxHeartbeats 4000000 in
theorem infer_k15_four {vd a0 b0 : Value} {d0 d1 : List Int} {w : World} {P c : Nat} (n : Nat) (hc : 1 ≤ c) (ha : Ints w a0 d0) (hx : okd d0 = true) (h1 : 1 ≤ n) (h8 : n ≤ 8) (p0 : w.cell? ⟨P, 0, none⟩ = some a0) (hd : ¬ lastD d0 % n = 0) :
    Calls Tryz.prog 22 #[.int .i64 15, .int .i64 n, vd, .slice (some ⟨P, 0, none⟩) 1 c] w fun e w' => ∃ u, e = .returned (.tuple #[u, .bool false]) ∧ Own w' w.heap.size u ([]) ∧ Below w.heap.size w w' := by
  obtain ⟨b, off, cc, E, L, rfl, hE, hL, l1, l8, hcc, hE2, hbw, hcell⟩ := last_ofD ha hx
  rw [hL] at hd
  have n0 : ¬ n = 0 := by omega
  have n00 : ¬ (n : Int) = 0 := by omega
  have hwE : IntKind.i64.wrap (((E + 1 : Nat) : Int) - 1) = (E : Int) := by rw [wrap_small _ (by omega) (by omega)]; omega
  have hwE2 : IntKind.i64.wrap ((E : Int) + 1 - 1) = (E : Int) := by rw [wrap_small _ (by omega) (by omega)]; omega
  obtain ⟨r, hr⟩ : ∃ r, L % n = r := ⟨_, rfl⟩
  have hrn : r < n := by rw [← hr]; exact Nat.mod_lt _ (by omega)
  have f0 : (L : Int).tmod (n : Int) = (r : Int) := by rw [Int.tmod_eq_emod_of_nonneg (by omega), ← hr]; simp
  have f1 : (L : Int) % (n : Int) = (r : Int) := by rw [← hr]; simp
  have f2 : IntKind.i64.wrap (r : Int) = (r : Int) := wrap_small _ (by omega) (by omega)
  have f4 : IntKind.i64.wrap ((L : Int).tmod (n : Int)) = (r : Int) := by rw [f0, f2]
  rw [f1] at hd
  have z0 : (0 : Int) ≤ (E : Int) := by omega
  have z1 : (E : Int) < ((E + 1 : Nat) : Int) := by omega
  have z2 : (E : Int) < (E : Int) + 1 := by omega
  obtain rfl | hr0 := Nat.eq_zero_or_pos r
  · exact absurd rfl hd
  have g1 : ((r : Int) == 0) = false := by simp; omega
  have g2 : ((r : Int) != 0) = true := by simp; omega
  have g3 : decide ((r : Int) = 0) = false := by simp; omega
  have g4 : ¬ (r : Int) = 0 := by omega
  clear ha hx hE hL hr hd
  go_enter Tryz.func22, Tryz.ntmps22
  go_wp2_with fail
  go_quiet (fail)
  go_wp2
  go_ret2
  exact ⟨_, rfl, Own.nil _ _, Below.drewN (Below.refl _ _) _⟩
set_option maxRecDepth 100000 in
set_option maxHeartbeats 4000000 in
theorem infer_k15_ok {vd a0 b0 : Value} {d0 d1 : List Int} {w : World} {P c : Nat} (n : Nat) (hc : 1 ≤ c) (ha : Ints w a0 d0) (hx : okd d0 = true) (h1 : 1 ≤ n) (h8 : n ≤ 8) (p0 : w.cell? ⟨P, 0, none⟩ = some a0) (hd : lastD d0 % n = 0) :
    Calls Tryz.prog 22 #[.int .i64 15, .int .i64 n, vd, .slice (some ⟨P, 0, none⟩) 1 c] w fun e w' => ∃ u, e = .returned (.tuple #[u, .bool true]) ∧ Own w' w.heap.size u (lesD d0 n) ∧ Below w.heap.size w w' := by
  obtain ⟨b, off, cc, E, L, rfl, hE, hL, l1, l8, hcc, hE2, hbw, hcell⟩ := last_ofD ha hx
  rw [hL] at hd
  have n0 : ¬ n = 0 := by omega
  have n00 : ¬ (n : Int) = 0 := by omega
  have hwE : IntKind.i64.wrap (((E + 1 : Nat) : Int) - 1) = (E : Int) := by rw [wrap_small _ (by omega) (by omega)]; omega
  have hwE2 : IntKind.i64.wrap ((E : Int) + 1 - 1) = (E : Int) := by rw [wrap_small _ (by omega) (by omega)]; omega
  obtain ⟨r, hr⟩ : ∃ r, L % n = r := ⟨_, rfl⟩
  have hrn : r < n := by rw [← hr]; exact Nat.mod_lt _ (by omega)
  have f0 : (L : Int).tmod (n : Int) = (r : Int) := by rw [Int.tmod_eq_emod_of_nonneg (by omega), ← hr]; simp
  have f1 : (L : Int) % (n : Int) = (r : Int) := by rw [← hr]; simp
  have f2 : IntKind.i64.wrap (r : Int) = (r : Int) := wrap_small _ (by omega) (by omega)
  have f4 : IntKind.i64.wrap ((L : Int).tmod (n : Int)) = (r : Int) := by rw [f0, f2]
  rw [f1] at hd
  have z0 : (0 : Int) ≤ (E : Int) := by omega
  have z1 : (E : Int) < ((E + 1 : Nat) : Int) := by omega
  have z2 : (E : Int) < (E : Int) + 1 := by omega
  have hr0 : r = 0 := by omega
  subst hr0
  have HA : Hid (Ints w (.slice (some ⟨b, off, none⟩) (E + 1) cc) d0) := ha
  have HOK : Hid (okd d0 = true) := hx
  have HP : Hid (w.cell? ⟨P, 0, none⟩ = some (.slice (some ⟨b, off, none⟩) (E + 1) cc)) := p0
  clear ha hx hE hL hr hd
  go_enter Tryz.func22, Tryz.ntmps22
  go_wp2_with fail
  go_quiet (fail)
  have hB : Below w.heap.size w (w.drewN nq) := Below.drewN (Below.refl _ _) _
  generalize w.drewN nq = W at hB ⊢
  have HB : Hid (Below w.heap.size w W) := hB
  have q0 := cell_later hB HP.out
  clear hB p0 hcell
  go_wp2_with fail
  refine (less_ok n (HA.out.later HB.out) HOK.out h1 h8).mono ?_
  rintro e w2 ⟨x, rfl, ho, hb2⟩
  obtain ⟨la, ln, lc, rfl⟩ := ho.ints.shape3
  have HL : Hid (Own w2 W.heap.size (.slice la ln lc) (lesD d0 n)) := ho
  have HB2 : Hid (Below w.heap.size w w2) := Below.after HB.out hb2
  have hsW := HB.out.size
  clear ho hb2 q0
  go_wp2
  go_ret2
  exact ⟨_, rfl, HL.out.mono hsW, HB2.out⟩
set_option maxRecDepth 100000 in
set_option maxHeartbeats 4000000 in
theorem infer_k17_four {vd a0 b0 : Value} {d0 d1 : List Int} {w : World} {P c : Nat} (n : Nat) (hc : 2 ≤ c) (ha : Ints w a0 d0) (hx : okd d0 = true) (h1 : 1 ≤ n) (h8 : n ≤ 8) (p0 : w.cell? ⟨P, 0, none⟩ = some a0) (ht : Ints w b0 d1) (p1 : w.cell? ⟨P, 1, none⟩ = some b0) (hd : ¬ lastD d0 % n = 0) :
    Calls Tryz.prog 22 #[.int .i64 17, .int .i64 n, vd, .slice (some ⟨P, 0, none⟩) 2 c] w fun e w' => ∃ u, e = .returned (.tuple #[u, .bool false]) ∧ Own w' w.heap.size u ([]) ∧ Below w.heap.size w w' := by
  obtain ⟨b, off, cc, E, L, rfl, hE, hL, l1, l8, hcc, hE2, hbw, hcell⟩ := last_ofD ha hx
  obtain ⟨ba, bn, bc, rfl⟩ := ht.shape3
  rw [hL] at hd
  have n0 : ¬ n = 0 := by omega
  have n00 : ¬ (n : Int) = 0 := by omega
  have hwE : IntKind.i64.wrap (((E + 1 : Nat) : Int) - 1) = (E : Int) := by rw [wrap_small _ (by omega) (by omega)]; omega
  have hwE2 : IntKind.i64.wrap ((E : Int) + 1 - 1) = (E : Int) := by rw [wrap_small _ (by omega) (by omega)]; omega
  obtain ⟨r, hr⟩ : ∃ r, L % n = r := ⟨_, rfl⟩
  have hrn : r < n := by rw [← hr]; exact Nat.mod_lt _ (by omega)
  have f0 : (L : Int).tmod (n : Int) = (r : Int) := by rw [Int.tmod_eq_emod_of_nonneg (by omega), ← hr]; simp
  have f1 : (L : Int) % (n : Int) = (r : Int) := by rw [← hr]; simp
  have f2 : IntKind.i64.wrap (r : Int) = (r : Int) := wrap_small _ (by omega) (by omega)
  have f4 : IntKind.i64.wrap ((L : Int).tmod (n : Int)) = (r : Int) := by rw [f0, f2]
  rw [f1] at hd
  have z0 : (0 : Int) ≤ (E : Int) := by omega
  have z1 : (E : Int) < ((E + 1 : Nat) : Int) := by omega
  have z2 : (E : Int) < (E : Int) + 1 := by omega
  obtain rfl | hr0 := Nat.eq_zero_or_pos r
  · exact absurd rfl hd
  have g1 : ((r : Int) == 0) = false := by simp; omega
  have g2 : ((r : Int) != 0) = true := by simp; omega
  have g3 : decide ((r : Int) = 0) = false := by simp; omega
  have g4 : ¬ (r : Int) = 0 := by omega
  clear ha hx hE hL hr hd ht
  go_enter Tryz.func22, Tryz.ntmps22
  go_wp2_with fail
  go_quiet (fail)
  go_wp2
  go_ret2
  exact ⟨_, rfl, Own.nil _ _, Below.drewN (Below.refl _ _) _⟩
set_option maxRecDepth 100000 in
set_option maxHeartbeats 4000000 in
theorem infer_k17_ok {vd a0 b0 : Value} {d0 d1 : List Int} {w : World} {P c : Nat} (n : Nat) (hc : 2 ≤ c) (ha : Ints w a0 d0) (hx : okd d0 = true) (h1 : 1 ≤ n) (h8 : n ≤ 8) (p0 : w.cell? ⟨P, 0, none⟩ = some a0) (ht : Ints w b0 d1) (p1 : w.cell? ⟨P, 1, none⟩ = some b0) (q : Bool) (hq : (lesD d0 n == d1) = q) (hd : lastD d0 % n = 0) :
    Calls Tryz.prog 22 #[.int .i64 17, .int .i64 n, vd, .slice (some ⟨P, 0, none⟩) 2 c] w fun e w' => ∃ u, e = .returned (.tuple #[u, .bool q]) ∧ Own w' w.heap.size u (d0) ∧ Below w.heap.size w w' := by
  obtain ⟨b, off, cc, E, L, rfl, hE, hL, l1, l8, hcc, hE2, hbw, hcell⟩ := last_ofD ha hx
  obtain ⟨ba, bn, bc, rfl⟩ := ht.shape3
  rw [hL] at hd
  have n0 : ¬ n = 0 := by omega
  have n00 : ¬ (n : Int) = 0 := by omega
  have hwE : IntKind.i64.wrap (((E + 1 : Nat) : Int) - 1) = (E : Int) := by rw [wrap_small _ (by omega) (by omega)]; omega
  have hwE2 : IntKind.i64.wrap ((E : Int) + 1 - 1) = (E : Int) := by rw [wrap_small _ (by omega) (by omega)]; omega
  obtain ⟨r, hr⟩ : ∃ r, L % n = r := ⟨_, rfl⟩
  have hrn : r < n := by rw [← hr]; exact Nat.mod_lt _ (by omega)
  have f0 : (L : Int).tmod (n : Int) = (r : Int) := by rw [Int.tmod_eq_emod_of_nonneg (by omega), ← hr]; simp
  have f1 : (L : Int) % (n : Int) = (r : Int) := by rw [← hr]; simp
  have f2 : IntKind.i64.wrap (r : Int) = (r : Int) := wrap_small _ (by omega) (by omega)
  have f4 : IntKind.i64.wrap ((L : Int).tmod (n : Int)) = (r : Int) := by rw [f0, f2]
  rw [f1] at hd
  have z0 : (0 : Int) ≤ (E : Int) := by omega
  have z1 : (E : Int) < ((E + 1 : Nat) : Int) := by omega
  have z2 : (E : Int) < (E : Int) + 1 := by omega
  have hr0 : r = 0 := by omega
  subst hr0
  have HA : Hid (Ints w (.slice (some ⟨b, off, none⟩) (E + 1) cc) d0) := ha
  have HOK : Hid (okd d0 = true) := hx
  have HP : Hid (w.cell? ⟨P, 0, none⟩ = some (.slice (some ⟨b, off, none⟩) (E + 1) cc)) := p0
  have HT : Hid (Ints w (.slice ba bn bc) d1) := ht
  have HQ : Hid ((lesD d0 n == d1) = q) := hq
  have HP1 : Hid (w.cell? ⟨P, 1, none⟩ = some (.slice ba bn bc)) := p1
  clear ht hq
  clear ha hx hE hL hr hd
  go_enter Tryz.func22, Tryz.ntmps22
  go_wp2_with fail
  go_quiet (fail)
  have hB : Below w.heap.size w (w.drewN nq) := Below.drewN (Below.refl _ _) _
  generalize w.drewN nq = W at hB ⊢
  have HB : Hid (Below w.heap.size w W) := hB
  have q0 := cell_later hB HP.out
  clear hB p0 hcell p1
  go_wp2_with fail
  refine (less_ok n (HA.out.later HB.out) HOK.out h1 h8).mono ?_
  rintro e w2 ⟨x, rfl, ho, hb2⟩
  obtain ⟨la, ln, lc, rfl⟩ := ho.ints.shape3
  have HL : Hid (Own w2 W.heap.size (.slice la ln lc) (lesD d0 n)) := ho
  have HB2 : Hid (Below w.heap.size w w2) := Below.after HB.out hb2
  have hsW := HB.out.size
  clear ho hb2 q0
  have q0 := cell_later HB2.out HP.out
  have q1 := cell_later HB2.out HP1.out
  go_wp2_with fail
  go_region_held3 (fun w' => w'.cell? ⟨P, 0, none⟩ = some (.slice (some ⟨b, off, none⟩) (E + 1) cc) ∧ w'.cell? ⟨P, 1, none⟩ = some (.slice ba bn bc)) (go_keep)
    (first
      | (go_at_call 17; refine (copy_Own (d := d0) ?_).mono ?_; exact HA.out.later (Below.after HB2.out (Below.refl _ _).drew); rintro r w4 ⟨y, rfl, ho4, hb4⟩; have HB4 : Hid (Below w2.heap.size w2 w4) := Below.after (Below.refl _ _).drew hb4; have HO4 : Hid (Own w4 w2.heap.size y d0) := ho4; have a_0 := cell_later HB4.out q0; have a_1 := cell_later HB4.out q1; clear ho4 hb4)
      | (go_at_call 26; refine (eqn_to q (a := lesD d0 n) (b := d1) ?_ ?_ HQ.out).mono ?_; exact HL.out.ints.later HB4.out; exact HT.out.later (Below.after HB2.out HB4.out); rintro r w5 ⟨rfl, m5, e5⟩; have HB5 : Hid (Below w4.heap.size w4 w5) := (by show Below _ _ _; rw [e5]; exact Below.drewN (Below.refl _ _) _); have b_0 := cell_later (Below.after HB4.out HB5.out) q0; have b_1 := cell_later (Below.after HB4.out HB5.out) q1; clear e5))
  clear a_0 a_1 b_0 b_1 q0 q1
  go_wp2
  go_ret2
  exact ⟨_, rfl, (HO4.out.later HB5.out).mono HB2.out.size, Below.after HB2.out (Below.after HB4.out HB5.out)⟩
set_option maxRecDepth 100000 in
set_option maxHeartbeats 4000000 in
theorem infer_k10_four {vd a0 : Value} {d0 : List Int} {w : World} {P c : Nat} (n : Int) (hc : 1 ≤ c) (ha : Ints w a0 d0) (p0 : w.cell? ⟨P, 0, none⟩ = some a0) (hd : d0.length ≠ 2) :
    Calls Tryz.prog 22 #[.int .i64 10, .int .i64 n, vd, .slice (some ⟨P, 0, none⟩) 1 c] w fun e w' => ∃ u, e = .returned (.tuple #[u, .bool false]) ∧ Own w' w.heap.size u ([]) ∧ Below w.heap.size w w' := by
  obtain ⟨aa, ac, rfl⟩ := ha.shape
  obtain ⟨an, han⟩ : ∃ n, d0.length = n := ⟨_, rfl⟩
  rw [han] at p0 hd
  have g1 : ((an : Int) == 2) = false := by simp; omega
  have g2 : decide ((an : Int) = 2) = false := by simp; omega
  have g3 : ¬ (an : Int) = 2 := by omega
  clear ha han
  go_enter Tryz.func22, Tryz.ntmps22
  go_wp2
  go_ret2
  exact ⟨_, rfl, Own.nil _ _, Below.refl _ _⟩
theorem cells2 {w : World} {a0 : Value} {x y : Int} (ha : Ints w a0 [x, y]) : ∃ b off c : Nat, a0 = .slice (some ⟨b, off, none⟩) 2 c ∧ 2 ≤ c ∧ w.cell? ⟨b, off, none⟩ = some (.int .i64 x) ∧ w.cell? ⟨b, off + 1, none⟩ = some (.int .i64 y) := by
  obtain ⟨b, o, c, e, hc, h⟩ := Own.getD (n := 2) ha rfl (by decide)
  exact ⟨b, o, c, e, hc, h 0 (by decide), h 1 (by decide)⟩
set_option maxRecDepth 100000 in
set_option maxHeartbeats 4000000 in
theorem infer_k10_ok {vd a0 : Value} {x y : Int} {w : World} {P c : Nat} (n : Int) (hc : 1 ≤ c) (ha : Ints w a0 [x, y]) (p0 : w.cell? ⟨P, 0, none⟩ = some a0) :
    Calls Tryz.prog 22 #[.int .i64 10, .int .i64 n, vd, .slice (some ⟨P, 0, none⟩) 1 c] w fun e w' => ∃ u, e = .returned (.tuple #[u, .bool true]) ∧ Own w' w.heap.size u ([y, x]) ∧ Below w.heap.size w w' := by
  obtain ⟨b, off, cc, rfl, hcc, e0, e1⟩ := cells2 ha
  clear ha
  go_enter Tryz.func22, Tryz.ntmps22
  go_wp2_with fail
  have n1 := World.new_ne w _ p0
  have n2 := World.new_ne w _ e0
  have n3 := World.new_ne w _ e1
  go_region_held3 (fun w' => w'.cell? ⟨P, 0, none⟩ = some (.slice (some ⟨b, off, none⟩) 2 cc) ∧ w'.cell? ⟨b, off, none⟩ = some (.int .i64 x) ∧ w'.cell? ⟨b, off + 1, none⟩ = some (.int .i64 y)) (go_keep) (fail)
  go_wp2
  go_ret2
  exact ⟨_, rfl, ((Blk.new w.drew [y, x]).own (Nat.le_refl _) rfl (by simp [big])), Below.push (Below.refl _ _).drew _⟩
set_option maxRecDepth 100000 in
set_option maxHeartbeats 4000000 in
theorem infer_k9_ok {vd a0 b0 : Value} {x y v : Int} {w : World} {P c : Nat} (n : Int) (hc : 2 ≤ c) (ha : Ints w a0 [x, y]) (hb : Ints w b0 [y, v]) (p0 : w.cell? ⟨P, 0, none⟩ = some a0) (p1 : w.cell? ⟨P, 1, none⟩ = some b0) :
    Calls Tryz.prog 22 #[.int .i64 9, .int .i64 n, vd, .slice (some ⟨P, 0, none⟩) 2 c] w fun e w' => ∃ u, e = .returned (.tuple #[u, .bool true]) ∧ Own w' w.heap.size u ([x, v]) ∧ Below w.heap.size w w' := by
  obtain ⟨b, off, cc, rfl, hcc, e0, e1⟩ := cells2 ha
  obtain ⟨bb, boff, bcc, rfl, hbcc, f0, f1⟩ := cells2 hb
  have HP : Hid (w.cell? ⟨P, 0, none⟩ = some (.slice (some ⟨b, off, none⟩) 2 cc) ∧ w.cell? ⟨P, 1, none⟩ = some (.slice (some ⟨bb, boff, none⟩) 2 bcc) ∧ w.cell? ⟨b, off, none⟩ = some (.int .i64 x) ∧ w.cell? ⟨bb, boff + 1, none⟩ = some (.int .i64 v)) := ⟨p0, p1, e0, f1⟩
  clear ha hb
  go_enter Tryz.func22, Tryz.ntmps22
  go_wp2_with fail
  go_quiet (fail)
  have hB : Below w.heap.size w (w.drewN nq) := Below.drewN (Below.refl _ _) _
  generalize w.drewN nq = W at hB ⊢
  have HB : Hid (Below w.heap.size w W) := hB
  have q0 := cell_later hB HP.out.1
  have q1 := cell_later hB HP.out.2.1
  have q2 := cell_later hB HP.out.2.2.1
  have q3 := cell_later hB HP.out.2.2.2
  clear hB p0 p1 e0 e1 f0 f1
  go_wp2_with fail
  have n1 := World.new_ne W _ q0
  have n2 := World.new_ne W _ q1
  have n3 := World.new_ne W _ q2
  have n4 := World.new_ne W _ q3
  go_region_held3 (fun w' => w'.cell? ⟨P, 0, none⟩ = some (.slice (some ⟨b, off, none⟩) 2 cc) ∧ w'.cell? ⟨P, 1, none⟩ = some (.slice (some ⟨bb, boff, none⟩) 2 bcc) ∧ w'.cell? ⟨b, off, none⟩ = some (.int .i64 x) ∧ w'.cell? ⟨bb, boff + 1, none⟩ = some (.int .i64 v)) (go_keep) (fail)
  go_wp2
  go_ret2
  exact ⟨_, rfl, ((Blk.new W.drew [x, v]).own HB.out.size rfl (by simp [big])), Below.push (Below.after HB.out (Below.refl _ _).drew) _⟩
set_option maxRecDepth 100000 in
set_option maxHeartbeats 4000000 in
theorem infer_k9_four {vd a0 b0 : Value} {d0 d1 : List Int} {w : World} {P c : Nat} (n : Int) (hc : 2 ≤ c) (ha : Ints w a0 d0) (hb : Ints w b0 d1) (p0 : w.cell? ⟨P, 0, none⟩ = some a0) (p1 : w.cell? ⟨P, 1, none⟩ = some b0) (hd : ¬ (d0.length = 2 ∧ d1.length = 2 ∧ d0.getD 1 0 = d1.getD 0 0)) :
    Calls Tryz.prog 22 #[.int .i64 9, .int .i64 n, vd, .slice (some ⟨P, 0, none⟩) 2 c] w fun e w' => ∃ u, e = .returned (.tuple #[u, .bool false]) ∧ Own w' w.heap.size u ([]) ∧ Below w.heap.size w w' := by
  by_cases h0 : d0.length = 2
  · obtain ⟨x, y, rfl⟩ := two_of h0
    obtain ⟨b, off, cc, rfl, hcc, e0, e1⟩ := cells2 ha
    by_cases h1 : d1.length = 2
    · obtain ⟨z, v, rfl⟩ := two_of h1
      obtain ⟨bb, boff, bcc, rfl, hbcc, f0, f1⟩ := cells2 hb
      have hne : ¬ y = z := fun e => hd ⟨rfl, rfl, e⟩
      have g1 : (y != z) = true := by simp [hne]
      clear ha hb hd h0 h1
      go_enter Tryz.func22, Tryz.ntmps22
      go_wp2_with fail
      go_quiet (fail)
      go_wp2
      go_ret2
      exact ⟨_, rfl, Own.nil _ _, Below.drewN (Below.refl _ _) _⟩
    · obtain ⟨aa, ac, rfl⟩ := hb.shape
      obtain ⟨an, han⟩ : ∃ n, d1.length = n := ⟨_, rfl⟩
      rw [han] at p1 h1
      have g1 : ((an : Int) != 2) = true := by simp; omega
      clear ha hb hd h0 han
      go_enter Tryz.func22, Tryz.ntmps22
      go_wp2_with fail
      go_quiet (fail)
      go_wp2
      go_ret2
      exact ⟨_, rfl, Own.nil _ _, Below.drewN (Below.refl _ _) _⟩
  · obtain ⟨aa, ac, rfl⟩ := ha.shape
    obtain ⟨ba, bn, bc, rfl⟩ := hb.shape3
    obtain ⟨an, han⟩ : ∃ n, d0.length = n := ⟨_, rfl⟩
    rw [han] at p0 h0
    have g1 : ((an : Int) != 2) = true := by simp; omega
    clear ha hb hd han
    go_enter Tryz.func22, Tryz.ntmps22
    go_wp2_with fail
    go_quiet (fail)
    go_wp2
    go_ret2
    exact ⟨_, rfl, Own.nil _ _, Below.drewN (Below.refl _ _) _⟩
structure EnvG (B : Nat) (f0 : Value) (T : List Ten) (w : World) : Prop where
  b0 : w.cell? ⟨B, 0, none⟩ = some f0
  hT : TensL w f0 T
theorem EnvG.later {B : Nat} {f0 : Value} {T : List Ten} {w w' : World} (hb : Below w.heap.size w w') (h : EnvG B f0 T w) : EnvG B f0 T w' := ⟨cell_later hb h.b0, h.hT.later hb⟩
/-- A list whose numbers do not lie in block r. -/
def Elt (w : World) (r : Option Nat) (x : Value) (d : List Int) : Prop := Ints w x d ∧ (0 < d.length → x.ownBlock ≠ r)
theorem Elt.later {w w' : World} {r : Option Nat} {x : Value} {d : List Int} (hb : Below w.heap.size w w') (h : Elt w r x d) : Elt w' r x d := ⟨h.1.later hb, h.2⟩
theorem Elt.grown {w w' : World} {r r' : Option Nat} {x : Value} {d : List Int} (h : Elt w r x d) (hg : w.grownBy w' r) (hr : r' = r ∨ r' = some w.heap.size) : Elt w' r' x d := by
  obtain ⟨h0, hne⟩ := h
  rcases h0 with ⟨rfl, rfl⟩ | ⟨a, c, rfl, h1, h2, h3⟩
  · exact ⟨Ints.nil _, fun h => by simp at h⟩
  · refine ⟨Or.inr ⟨a, c, rfl, h1, h2, fun i hi => ?_⟩, fun h => ?_⟩
    · obtain ⟨b, off, rfl, hc⟩ := h3 i hi
      exact ⟨b, off, rfl, hg.cell hc (hne (by omega))⟩
    · rcases hr with rfl | rfl
      · exact hne h
      · obtain ⟨b, off, rfl, hc⟩ := h3 0 h
        have := World.block_lt_of_cell? _ _ hc
        simp only [Value.ownBlock, ne_eq, Option.some.injEq]
        simp only at this
        omega
/-- A list of tensors in a row of its own. -/
structure RowT (w : World) (B : Nat) (v : Value) (L : List Ten) (xs : List Value) : Prop where
  own : w.ownsRow B 34 2 v L.length xs
  elt : ∀ i (h : i < L.length), ∃ x y, xs[i * 2]? = some x ∧ xs[i * 2 + 1]? = some y ∧ Elt w v.ownBlock x L[i].1 ∧ Elt w v.ownBlock y L[i].2
theorem RowT.later {w w' : World} {B : Nat} {v : Value} {L : List Ten} {xs : List Value} (hb : Below w.heap.size w w') (h : RowT w B v L xs) : RowT w' B v L xs := by
  refine ⟨⟨h.own.1, ?_⟩, fun i hi => ?_⟩
  · rcases h.own.2 with h0 | ⟨g, cap, cur, rfl, h1, hh, h2⟩
    · exact Or.inl h0
    · exact Or.inr ⟨g, cap, cur, rfl, h1, (hb.block g (Array.getElem?_eq_some_iff.1 hh).1).trans hh, h2⟩
  · obtain ⟨x, y, hx, hy, he, hf⟩ := h.elt i hi
    exact ⟨x, y, hx, hy, he.later hb, hf.later hb⟩
theorem RowT.app {w w' : World} {B m : Nat} {v v' : Value} {L E : List Ten} {xs news : List Value} (h : RowT w B v L xs) (hm : m = E.length) (he : ∀ i (h : i < E.length), ∃ x y, news[i * 2]? = some x ∧ news[i * 2 + 1]? = some y ∧ Elt w v.ownBlock x E[i].1 ∧ Elt w v.ownBlock y E[i].2)
    (hown : w'.ownsRow B 34 2 v' (L.length + m) (xs ++ news)) (hg : w.grownBy w' v.ownBlock) (hat : v'.ownBlock = v.ownBlock ∨ v'.ownBlock = some w.heap.size) : RowT w' B v' (L ++ E) (xs ++ news) := by
  subst hm
  have hl := h.own.1
  refine ⟨by rw [List.length_append]; exact hown, fun i hi => ?_⟩
  by_cases hlt : i < L.length
  · obtain ⟨x, y, hx, hy, hx2, hy2⟩ := h.elt i hlt
    refine ⟨x, y, by rw [List.getElem?_append_left (by omega)]; exact hx, by rw [List.getElem?_append_left (by omega)]; exact hy, ?_, ?_⟩
    · rw [List.getElem_append_left hlt]
      exact hx2.grown hg hat
    · rw [List.getElem_append_left hlt]
      exact hy2.grown hg hat
  · rw [List.length_append] at hi
    obtain ⟨x, y, hx, hy, hx2, hy2⟩ := he (i - L.length) (by omega)
    refine ⟨x, y, by rw [List.getElem?_append_right (by omega), hl, ← Nat.sub_mul]; exact hx, ?_, ?_, ?_⟩
    · rw [List.getElem?_append_right (by omega), hl, show i * 2 + 1 - L.length * 2 = (i - L.length) * 2 + 1 from by omega]
      exact hy
    · rw [List.getElem_append_right (by omega)]
      exact hx2.grown hg hat
    · rw [List.getElem_append_right (by omega)]
      exact hy2.grown hg hat
theorem addr_add (b off j : Nat) : (⟨b, off, none⟩ : Addr).add j = ⟨b, off + j, none⟩ := by
  by_cases h0 : j = 0
  · subst h0; simp [Addr.add]
  · simp [Addr.add, h0]
theorem RowT.tensL {w : World} {B : Nat} {v : Value} {L : List Ten} {xs : List Value} (h : RowT w B v L xs) (hb : L.length ≤ big) : TensL w v L := by
  have hc := h.own
  rcases h.own.2 with ⟨rfl, h0⟩ | ⟨g, cap, cur, rfl, h1, hh, h2, h3, h4, h5⟩
  · refine ⟨hb, none, 0, by rw [h0], by omega, fun i hi => by omega⟩
  · refine ⟨hb, some ⟨g, 0, none⟩, cap, rfl, h2, fun i hi => ?_⟩
    obtain ⟨x, y, hx, hy, he, hf⟩ := h.elt i hi
    have k1 := hc.cells (g := g) rfl _ _ hx
    have k2 := hc.cells (g := g) rfl _ _ hy
    rw [addr_add] at k1 k2
    exact ⟨g, 0, x, y, rfl, k1, by rw [Nat.add_assoc]; exact k2, he.1, hf.1⟩
theorem RowT.lt {w : World} {B : Nat} {v : Value} {L : List Ten} {xs : List Value} (h : RowT w B v L xs) : ∀ k, v.ownBlock = some k → B ≤ k ∧ k < w.heap.size := h.own.lt
/-- What lies in a list of tensors, cell by cell. -/
theorem TensL.vals {w : World} {b off : Nat} {T : List Ten} {n c : Nat} (h : TensL w (.slice (some ⟨b, off, none⟩) n c) T) :
    n = T.length ∧ ∃ news : List Value, news.length = T.length * 2 ∧ (∀ j u, news[j]? = some u → w.cell? ((⟨b, off, none⟩ : Addr).add j) = some u) ∧ (∀ i (h : i < T.length), ∃ x y, news[i * 2]? = some x ∧ news[i * 2 + 1]? = some y ∧ Tens w x y T[i]) ∧ ∀ u ∈ news, u.oneCell' = true := by
  obtain ⟨_, a, c', e, _, hrow⟩ := h
  simp only [Value.slice.injEq] at e
  obtain ⟨rfl, rfl, rfl⟩ := e
  refine ⟨rfl, ?_⟩
  have key : ∀ j : Nat, ∃ u, j < T.length * 2 → w.cell? ⟨b, off + j, none⟩ = some u ∧ ∃ a n c, u = .slice a n c := by
    intro j
    by_cases hj : j < T.length * 2
    · obtain ⟨b', off', x, y, ea, hc1, hc2, hx, hy⟩ := hrow (j / 2) (by omega)
      simp only [Option.some.injEq, Addr.mk.injEq, and_true] at ea
      obtain ⟨rfl, rfl⟩ := ea
      have h2 : j % 2 = 0 ∨ j % 2 = 1 := by omega
      rcases h2 with h2 | h2
      · refine ⟨x, fun _ => ⟨?_, hx.shape3⟩⟩
        rw [show j = j / 2 * 2 from by omega]
        exact hc1
      · refine ⟨y, fun _ => ⟨?_, hy.shape3⟩⟩
        rw [show j = j / 2 * 2 + 1 from by omega, ← Nat.add_assoc]
        exact hc2
    · exact ⟨undef, fun h => absurd h hj⟩
  refine ⟨(List.range (T.length * 2)).map fun j => Classical.choose (key j), by simp, ?_, ?_, ?_⟩
  · intro j u hj
    simp only [List.getElem?_map, Option.map_eq_some_iff] at hj
    obtain ⟨k, hk, rfl⟩ := hj
    obtain ⟨hlt, rfl⟩ := List.getElem?_eq_some_iff.1 hk
    simp only [List.getElem_range]
    rw [addr_add]
    exact (Classical.choose_spec (key j) (by simpa using hlt)).1
  · intro i hi
    obtain ⟨b', off', x, y, ea, hc1, hc2, hx, hy⟩ := hrow i hi
    simp only [Option.some.injEq, Addr.mk.injEq, and_true] at ea
    obtain ⟨rfl, rfl⟩ := ea
    have k1 := (Classical.choose_spec (key (i * 2)) (by omega)).1
    have k2 := (Classical.choose_spec (key (i * 2 + 1)) (by omega)).1
    have e1 := hc1.symm.trans k1
    have e2 := ((show w.cell? ⟨b, off + (i * 2 + 1), none⟩ = some y from hc2).symm).trans k2
    refine ⟨x, y, ?_, ?_, hx, hy⟩
    · rw [List.getElem?_map, List.getElem?_range (by omega)]
      exact e1.symm
    · rw [List.getElem?_map, List.getElem?_range (by omega)]
      exact e2.symm
  · intro u hu
    simp only [List.mem_map, List.mem_range] at hu
    obtain ⟨j, hj, rfl⟩ := hu
    obtain ⟨a, n, c, e⟩ := (Classical.choose_spec (key j) hj).2
    rw [e]; rfl
theorem lsF_ge : ∀ (l : List Nat) (x : Int), x ≤ lsF x l
  | [], x => Int.le_refl _
  | a :: r, x => by
    rw [lsF]
    split
    · have := lsF_ge r (x + a)
      omega
    · exact Int.le_refl _
theorem lsF_le (K : Nat) : ∀ (l : List Nat) (x : Int), (∀ a ∈ l, a ≤ K) → x ≤ 1048576 + K → lsF x l ≤ 1048576 + K
  | [], x, _, h => h
  | a :: r, x, hl, h => by
    rw [lsF]
    split
    · have := hl a (by simp)
      exact lsF_le K r (x + a) (fun y hy => hl y (by simp [hy])) (by omega)
    · exact h
theorem TensL.tw_le {w : World} {v : Value} {T : List Ten} (h : TensL w v T) : ∀ a ∈ T.map tw, a ≤ 40000000000000 := by
  obtain ⟨_, a, c', e, _, hrow⟩ := h
  intro n hn
  simp only [List.mem_map] at hn
  obtain ⟨t, ht, rfl⟩ := hn
  obtain ⟨i, hi, rfl⟩ := List.getElem_of_mem ht
  obtain ⟨b', off', x, y, ea, hc1, hc2, hx, hy⟩ := hrow i hi
  have h1 := hx.len
  have h2 := hy.len
  unfold big at h1 h2
  unfold tw
  omega
theorem tensw_to {v : Value} {L : List Ten} {w : World} (x : Int) (hx : lsF L.length (L.map tw) = x) (h : TensL w v L) :
    Calls Tryz.prog 33 #[v] w fun e w' => e = .returned (.int .i64 x) ∧ ∃ n, w' = w.drewN n := by
  subst hx
  exact tensw_any h
set_option maxHeartbeats 400000 in
theorem heavy2_bd {f0 f1 : Value} {T : List Ten} {L : List Int} {w : World} (h0 : TensL w f0 T) (h1 : Ints w f1 L) :
    Calls Tryz.prog 15 #[.agg #[f0, f1]] w fun e w' => ∃ b, e = .returned (.bool b) ∧ (b = false → T.length ≤ 500) ∧ Below w.heap.size w w' := by
  have hb : Below w.heap.size w (w.alloc (.cells #[f0, f1] 25)) := (Below.refl _ _).alloc (Nat.le_refl _) _
  have H0 : Hid (TensL (w.alloc (.cells #[f0, f1] 25)) f0 T) := h0.later hb
  have hge := lsF_ge (T.map tw) T.length
  have hle := lsF_le 40000000000000 (T.map tw) T.length h0.tw_le (by have := h0.1; unfold big at this; omega)
  obtain ⟨na, nc, rfl⟩ := h1.shape
  obtain ⟨_, a0, c0, rfl, _⟩ := h0
  have hn := h1.len
  unfold big at hn
  clear h1
  have HB : Hid (Below w.heap.size w (w.alloc (.cells #[.slice a0 T.length c0, .slice na L.length nc] 25))) := hb
  obtain ⟨x, hx⟩ : ∃ x, lsF (T.length : Int) (T.map tw) = x := ⟨_, rfl⟩
  rw [hx] at hge hle
  have HX : Hid (lsF (T.length : Int) (T.map tw) = x) := hx
  obtain ⟨y, hy⟩ : ∃ y, x + (L.length : Int) = y := ⟨_, rfl⟩
  have hwy : IntKind.i64.wrap (x + (L.length : Int)) = y := by rw [wrap_small _ (by omega) (by omega)]; exact hy
  clear hb hx
  by_cases hgt : 500 < y
  · have g1 : decide (y > 500) = true := by simp; omega
    have hgt2 : y > 500 := hgt
    go_enter Tryz.func15, Tryz.ntmps15
    go_wp2
    go_quiet (first | (go_at_call 33; exact Calls.quiet_of (tensw_to x HX.out (H0.out.later (drew_below _)))))
    go_wp2
    go_ret
    exact ⟨_, rfl, (fun h => by simp at h <;> omega), Below.drewN HB.out _⟩
  · have g1 : decide (y > 500) = false := by simp; omega
    have hgt2 : ¬ y > 500 := hgt
    have HT : Hid (T.length ≤ 500) := by show _ ≤ _; omega
    go_enter Tryz.func15, Tryz.ntmps15
    go_wp2
    go_quiet (first | (go_at_call 33; exact Calls.quiet_of (tensw_to x HX.out (H0.out.later (drew_below _)))))
    go_wp2
    go_ret
    exact ⟨_, rfl, (fun _ => HT.out), Below.drewN HB.out _⟩
theorem first_to {b off n cap : Nat} {l : List Int} {w : World} (f : Nat) (h1 : 1 ≤ n) (h64 : n ≤ 64) (hcap : n ≤ cap) (hf : fsN l n = f)
    (hc : ∀ i, i < n → w.cell? ⟨b, off + i, none⟩ = some (.int .i64 (l.getD i 0))) :
    Calls Tryz.prog 74 #[.slice (some ⟨b, off, none⟩) n cap] w fun e w' => e = .returned (.int .i64 f) ∧ Below w.heap.size w w' := by
  subst hf
  refine (first_any h1 h64 hcap hc).mono ?_
  rintro e w' ⟨rfl, m, rfl⟩
  exact ⟨rfl, Below.drewN (Below.refl _ _) _⟩
end Go.Proofs.YtheddpjaihhbdacGreat
