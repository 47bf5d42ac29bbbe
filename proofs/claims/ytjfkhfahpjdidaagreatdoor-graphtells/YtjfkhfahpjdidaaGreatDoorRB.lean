/- Joined: R4, R5. -/
import Derived.Test.YtjfkhfahpjdidaaGreatDoorR3
import Derived.Test.YtjfkhfahpjdidaaGreatDoorG5b
namespace Go.Proofs.YtjfkhfahpjdidaaGreatDoor
section
set_option linter.unusedVariables false
set_option linter.unusedSimpArgs false
set_option maxRecDepth 100000
open Go.RowKit

set_option maxHeartbeats 4000000 in
theorem eqN_same {s : ByteArray} {k n : Int} {x y x' y' : Value} {A D : List Int} {w : World} (hx : Ints w x A) (hy : Ints w y D) (hx' : Ints w x' A) (hy' : Ints w y' D) :
    Calls Tryz.prog 35 #[.agg #[.string s, .int .i64 k, x, y, .int .i64 n], .agg #[.string s, .int .i64 k, x', y', .int .i64 n]] w fun e w' => e = .returned (.bool true) ∧ Below w.heap.size w w' := by
  have HX : Hid (Ints w x A) := hx
  have HY : Hid (Ints w y D) := hy
  have HX' : Hid (Ints w x' A) := hx'
  have HY' : Hid (Ints w y' D) := hy'
  obtain ⟨xa, xn, xc, rfl⟩ := hx.shape3
  obtain ⟨ya, yn, yc, rfl⟩ := hy.shape3
  obtain ⟨za, zn, zc, rfl⟩ := hx'.shape3
  obtain ⟨ta, tn, tc, rfl⟩ := hy'.shape3
  clear hx hy hx' hy'
  have HB : Hid (Below w.heap.size w ((w.alloc (.cells #[.string s, .int .i64 k, .slice xa xn xc, .slice ya yn yc, .int .i64 n] 47)).alloc (.cells #[.string s, .int .i64 k, .slice za zn zc, .slice ta tn tc, .int .i64 n] 47))) := Below.push (Below.push (Below.refl _ _) _) _
  go_enter Tryz.func35, Tryz.ntmps35
  go_wp2_with fail
  refine (eqn_to true (HX.out.later HB.out) (HX'.out.later HB.out) (by simp)).mono ?_
  rintro e w1 ⟨rfl, m1, rfl⟩
  go_wp2_with fail
  refine (eqn_to true (HY.out.later (Below.drewN HB.out _)) (HY'.out.later (Below.drewN HB.out _)) (by simp)).mono ?_
  rintro e w2 ⟨rfl, m2, rfl⟩
  go_wp2
  go_ret
  exact ⟨rfl, Below.drewN HB.out _⟩
set_option maxHeartbeats 4000000 in
theorem eqNs_same {v u : Value} {L : List Nod} {w : World} (h : NodesL w v L) (h' : NodesL w u L) :
    Calls Tryz.prog 18 #[v, u] w fun e w' => e = .returned (.bool true) ∧ Below w.heap.size w w' := by
  have HN : Hid (NodesL w v L) := h
  have HN' : Hid (NodesL w u L) := h'
  obtain ⟨va, vc, rfl, hc1, hc2⟩ := h.shape
  obtain ⟨ua, uc, rfl, hc3, hc4⟩ := h'.shape
  unfold big at hc2 hc4
  clear h h'
  go_enter Tryz.func18, Tryz.ntmps18
  go_wp2
  go_loopw [5] (fun i w' => ∃ (k : Nat), k ≤ L.length ∧ i = .int .i64 k ∧ Hid (Below w.heap.size w w')) (fun i _ => L.length - (intOf i).toNat)
  case atStart => exact ⟨0, Nat.zero_le _, rfl, Below.refl _ _⟩
  case round =>
    obtain ⟨k, hk, rfl, HB⟩ := hrel
    by_cases hlt : k < L.length
    · obtain ⟨b, off, x, y, rfl, hnd⟩ := (HN.out.later HB.out).row k hlt
      obtain ⟨b', off', x', y', rfl, hnd'⟩ := (HN'.out.later HB.out).row k hlt
      obtain ⟨t, ht⟩ : ∃ t, L[k] = t := ⟨_, rfl⟩
      rw [ht] at hnd hnd'
      obtain ⟨nm, kd, ar, ds, n⟩ := t
      obtain ⟨d0, d1, d2, d3, d4, ha, hd, hz⟩ := hnd
      obtain ⟨e0, e1, e2, e3, e4, ha', hd', hz'⟩ := hnd'
      simp only at d0 d1 d2 d3 d4 ha hd hz e0 e1 e2 e3 e4 ha' hd' hz'
      have HA : Hid (Ints wr x ar) := ha
      have HD : Hid (Ints wr y ds) := hd
      have HA' : Hid (Ints wr x' ar) := ha'
      have HD' : Hid (Ints wr y' ds) := hd'
      obtain ⟨xa, xn, xc, rfl⟩ := ha.shape3
      obtain ⟨ya, yn, yc, rfl⟩ := hd.shape3
      obtain ⟨za, zn, zc, rfl⟩ := ha'.shape3
      obtain ⟨ta, tn, tc, rfl⟩ := hd'.shape3
      have g1 : (k : Int) < L.length := by omega
      clear ha hd hz ha' hd' hz' ht
      go_wp2_with fail
      go_region_held3 (fun w' => w'.cell? ⟨b, off + k * 5, none⟩ = some (.string nm) ∧ w'.cell? ⟨b, off + k * 5 + 1, none⟩ = some (.int .i64 kd) ∧ w'.cell? ⟨b, off + k * 5 + 2, none⟩ = some (.slice xa xn xc) ∧ w'.cell? ⟨b, off + k * 5 + 3, none⟩ = some (.slice ya yn yc) ∧ w'.cell? ⟨b, off + k * 5 + 4, none⟩ = some (.int .i64 n) ∧ w'.cell? ⟨b', off' + k * 5, none⟩ = some (.string nm) ∧ w'.cell? ⟨b', off' + k * 5 + 1, none⟩ = some (.int .i64 kd) ∧ w'.cell? ⟨b', off' + k * 5 + 2, none⟩ = some (.slice za zn zc) ∧ w'.cell? ⟨b', off' + k * 5 + 3, none⟩ = some (.slice ta tn tc) ∧ w'.cell? ⟨b', off' + k * 5 + 4, none⟩ = some (.int .i64 n)) (go_keep)
        (first | (go_at_call 35; refine (eqN_same (A := ar) (D := ds) ?_ ?_ ?_ ?_).mono ?_; exact HA.out.later (Below.refl _ _).drew; exact HD.out.later (Below.refl _ _).drew; exact HA'.out.later (Below.refl _ _).drew; exact HD'.out.later (Below.refl _ _).drew; rintro r w2 ⟨rfl, hb2⟩; have HB2 : Hid (Below wr.heap.size wr w2) := Below.after (Below.refl _ _).drew hb2; have a_0 := cell_later HB2.out d0; have a_1 := cell_later HB2.out d1; have a_2 := cell_later HB2.out d2; have a_3 := cell_later HB2.out d3; have a_4 := cell_later HB2.out d4; have b_0 := cell_later HB2.out e0; have b_1 := cell_later HB2.out e1; have b_2 := cell_later HB2.out e2; have b_3 := cell_later HB2.out e3; have b_4 := cell_later HB2.out e4; clear hb2))
      clear a_0 a_1 a_2 a_3 a_4 b_0 b_1 b_2 b_3 b_4 d0 d1 d2 d3 d4 e0 e1 e2 e3 e4
      go_wp2
      go_roundw
      case rel => exact ⟨k + 1, by omega, by go_num, Below.after HB.out HB2.out⟩
      case measure => simp [intOf]; omega
    · have hk' : k = L.length := by omega
      subst hk'
      go_wp2
      go_ret
      exact ⟨rfl, HB.out⟩
end
section
set_option linter.unusedVariables false
set_option linter.unusedSimpArgs false
set_option maxRecDepth 100000
open Go.RowKit

set_option maxHeartbeats 4000000 in
theorem numbers8_any {w : World} {B : Nat} {v : Value} {d : List Int} (h : Own w B v d) :
    Calls Tryz.prog 17 #[v] w fun e w' => e = .returned (.tuple #[]) ∧ Below B w w' := by
  have hlen := h.len
  rcases h.row.2 with ⟨rfl, h0⟩ | ⟨g, cap, cur, rfl, hg, hh, h1, h2, h3, h4⟩
  · clear h
    go_enter Tryz.func17, Tryz.ntmps17
    go_wp2
    refine wp_loop_rounds 1 ?_
    rw [rounds_succ]
    go_wp2
    go_end0
    exact ⟨rfl, Below.refl _ _⟩
  obtain ⟨n, hn⟩ : ∃ n, d.length = n := ⟨_, rfl⟩
  have HCS : Hid (n ≤ cur.size) := by show _ ≤ _; omega
  have HH : Hid (w.heap[g]? = some (.cells cur 3 (0, 0))) := hh
  rw [hn] at hlen h1 ⊢
  unfold big at hlen
  clear h hh h2 h3 h4 hn
  go_enter Tryz.func17, Tryz.ntmps17
  go_wp2
  go_loopw [2] (fun i w' => ∃ (j : Nat) (c : Array Value), j ≤ n ∧ i = .int .i64 j ∧ Hid (n ≤ c.size) ∧ Hid (w'.heap[g]? = some (.cells c 3 (0, 0))) ∧ Hid (Below B w w')) (fun i _ => n - (intOf i).toNat)
  case atStart => exact ⟨0, cur, by omega, rfl, HCS.out, HH.out, Below.refl _ _⟩
  case round =>
    obtain ⟨j, c, hj, rfl, HC1, HH1, HB1⟩ := hrel
    by_cases hlt : j < n
    · have hf := frozen_of_row wr g j c 3 HH1.out
      obtain ⟨y, hcy⟩ : ∃ y, wr.cell? ⟨g, j, none⟩ = some y := by
        rw [cell_of_row wr g j c 3 (0, 0) HH1.out]
        have := HC1.out
        exact ⟨c[j]'(by omega), by simp⟩
      have HC2 : Hid (n ≤ (c.setIfInBounds j (.int .i64 (-99))).size) := by have := HC1.out; show _ ≤ _; simpa using this
      have gj : (j : Int) < n := by omega
      go_wp2
      go_roundw
      case rel => exact ⟨j + 1, _, by omega, by go_num, HC2.out, heap_setCell_same wr g j c 3 (.int .i64 (-99)) HH1.out, HB1.out.setCell hg _⟩
      case measure => simp [intOf]; omega
    · have gj : ¬ (j : Int) < n := by omega
      go_wp2
      go_end0
      exact ⟨rfl, HB1.out⟩
end
end Go.Proofs.YtjfkhfahpjdidaaGreatDoor
