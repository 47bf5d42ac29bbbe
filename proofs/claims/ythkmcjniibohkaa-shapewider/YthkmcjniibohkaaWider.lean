/- The law ShapeWider: its walk. -/
import Derived.Test.YthkmcjniibohkaaW4
namespace Go.Proofs.Ythkmcjniibohkaa
set_option linter.unusedVariables false
open Go.RowKit

theorem info23' : (Try.prog.info? 23).map (fun i => (i.zero, i.size, i.bytes)) = some (some (.slice none 0 0), 1, 24) := by kernel_rfl
theorem info23 : ∃ i, Try.prog.info? 23 = some i ∧ i.zero = some (.slice none 0 0) ∧ i.size = 1 ∧ i.bytes = 24 := by
  have h := info23'
  cases e : Try.prog.info? 23 with
  | none => rw [e] at h; cases h
  | some i =>
    rw [e] at h
    simp only [Option.map_some, Option.some.injEq, Prod.mk.injEq] at h
    exact ⟨i, rfl, h.1, h.2.1, h.2.2⟩

/-- The dims that the law makes, in their order. -/
def lat (m : Nat) : List Int := if m % 4 = 0 then [(m / 4 + 1 : Nat)] else [(m / 4 + 1 : Nat), (m % 4 : Nat)]
theorem lat_ok (m : Nat) (h : m < 12) : okd (lat m) = true := by
  have : ∀ m, m < 12 → okd (lat m) = true := by decide
  exact this m h

theorem lat_one (k : Nat) : lat (4 * k) = [(k : Int) + 1] := by
  have h1 : 4 * k % 4 = 0 := by omega
  have h2 : 4 * k / 4 = k := by omega
  simp [lat, h1, h2]
theorem lat_two (k b : Nat) (hb : b < 3) : lat (4 * k + 1 + b) = [(k : Int) + 1, (b : Int) + 1] := by
  have h1 : (4 * k + 1 + b) % 4 = b + 1 := by omega
  have h2 : (4 * k + 1 + b) / 4 = k := by omega
  simp [lat, h1, h2]
theorem cell_new_one (w : World) (o : Obj) (x : Value) (t : TypeId) : ∀ j u, [x][j]? = some u → ((w.alloc o).alloc (.cells #[x] t)).cell? ((⟨w.heap.size + 1, 0, none⟩ : Addr).add j) = some u := by
  intro j u hj
  match j, hj with
  | 0, hj => simp at hj; subst hj; simp [Addr.add]

def RowAt (w : World) (v : Value) (d : List Int) : Prop := ∃ g, v = .slice (some ⟨g, 0, none⟩) d.length d.length ∧ Blk w g d ∧ d.length ≤ 3
theorem RowAt.grown {w w' : World} {v : Value} {d : List Int} {g : Option Nat} (h : RowAt w v d) (hg : w.grownBy w' g) (hne : ∀ k, g = some k → ∃ cur, w.heap[k]? = some (.cells cur 23 (0, 0))) : RowAt w' v d := by
  obtain ⟨b, e, hB, hl⟩ := h
  refine ⟨b, e, ?_, hl⟩
  refine (hg.block b hB.lt ?_).trans hB
  intro hbg
  obtain ⟨cur, hc⟩ := hne b hbg.symm
  rw [show w.heap[b]? = _ from hB] at hc
  simp at hc
theorem RowAt.alloc {w : World} {v : Value} {d : List Int} (h : RowAt w v d) (o : Obj) : RowAt (w.alloc o) v d := by
  obtain ⟨b, e, hB, hl⟩ := h
  exact ⟨b, e, hB.alloc o, hl⟩
theorem RowAt.ints {w : World} {v : Value} {d : List Int} (h : RowAt w v d) : Ints w v d := by
  obtain ⟨b, rfl, hB, hl⟩ := h
  exact hB.ints _ _ rfl (Nat.le_refl _) (by unfold big; omega)
theorem own_kind {w : World} {base n : Nat} {v : Value} {xs : List Value} (h : w.ownsRow base 23 1 v n xs) : ∀ k, v.ownBlock = some k → ∃ cur, w.heap[k]? = some (.cells cur 23 (0, 0)) := by
  intro k hk
  rcases h.2 with ⟨rfl, _⟩ | ⟨g, cap, cur, rfl, _, hh, _⟩
  · simp [Value.ownBlock] at hk
  · simp [Value.ownBlock] at hk
    subst hk
    exact ⟨cur, hh⟩

/-- What the first loops have gathered. -/
structure Gath (B : Nat) (w wr : World) (v : Value) (m : Nat) (xs : List Value) : Prop where
  own : wr.ownsRow B 23 1 v m xs
  rows : ∀ i (h : i < xs.length), RowAt wr xs[i] (lat i)
  below : Below B w wr

theorem Gath.len {B m : Nat} {w wr : World} {v : Value} {xs : List Value} (h : Gath B w wr v m xs) : xs.length = m := by
  have := h.own.1
  omega
theorem Gath.more {B m : Nat} {w wr w1 : World} {v v' x : Value} {xs : List Value} (h : Gath B w wr v m xs) (o1 o2 : Obj) (hB : B ≤ wr.heap.size)
    (ho : w1.ownsRow B 23 1 v' (m + 1) (xs ++ [x])) (hg : ((wr.alloc o1).alloc o2).grownBy w1 v.ownBlock) (hx : RowAt ((wr.alloc o1).alloc o2) x (lat m)) : Gath B w w1 v' (m + 1) (xs ++ [x]) := by
  have hl := h.len
  have hk : ∀ k, v.ownBlock = some k → ∃ cur, ((wr.alloc o1).alloc o2).heap[k]? = some (.cells cur 23 (0, 0)) := own_kind ((h.own.alloc o1).alloc o2)
  refine ⟨ho, ?_, ?_⟩
  · intro i hi
    by_cases hlt : i < xs.length
    · rw [List.getElem_append_left hlt]
      exact (((h.rows i hlt).alloc o1).alloc o2).grown hg hk
    · have : i = m := by simp at hi; omega
      subst this
      rw [List.getElem_append_right (by omega)]
      simp
      exact hx.grown hg hk
  · refine ((h.below.alloc hB o1).alloc (by simp; omega) o2).grown hg (by simp; omega) ?_
    intro k hk'
    rcases h.own.2 with ⟨rfl, _⟩ | ⟨g, cap, cur, rfl, hb, _⟩
    · simp [Value.ownBlock] at hk'
    · simp [Value.ownBlock] at hk'
      omega

theorem wider_to {v v' : Value} {a b : List Int} {w : World} (ha : Ints w v a) (hb : Ints w v' b) (oa : okd a = true) (ob : okd b = true) (x : Int) (hx : (if wid a b then 0 else 4 : Int) = x) :
    Calls Try.prog 26 #[v, v'] w fun e w' => e = .returned (.int .i64 x) ∧ w = w' := by
  subst hx
  exact wider_ok ha hb oa ob
theorem rwider_to {v v' : Value} {a b : List Int} {w : World} (ha : Ints w v a) (hb : Ints w v' b) (x : Bool) (hx : wid a b = x) :
    Calls Try.prog 27 #[v, v'] w fun e w' => e = .returned (.bool x) ∧ ∃ n, w' = w.drewN n := by
  subst hx
  exact rwider_any ha hb

def on (n j : Nat) : List Int := List.replicate j 1 ++ List.replicate (n - j) 0
theorem on_length (n j : Nat) (h : j ≤ n) : (on n j).length = n := by simp [on]; omega
theorem on_zero (n : Nat) : on n 0 = zer n := by simp [on, zer]
theorem on_set (n j : Nat) (h : j < n) : (on n j).set j 1 = on n (j + 1) := by
  obtain ⟨m, hm⟩ : ∃ m, n - j = m + 1 := ⟨n - j - 1, by omega⟩
  have h2 : n - (j + 1) = m := by omega
  simp only [on, hm, h2]
  rw [List.set_append_right _ _ (by simp)]
  simp only [List.length_replicate, Nat.sub_self, List.replicate_succ (n := m), List.set_cons_zero]
  rw [List.replicate_succ', List.append_assoc]
  rfl
def ones (k : Nat) : List Int := on (lat k).length (lat k).length
theorem ones_all (k : Nat) (h : k < 12) : okd (ones k) = true ∧ (if wid (ones k) (lat k) then 0 else 4 : Int) = 0 ∧ (if wid (lat k) (lat k) then 0 else 4 : Int) = 0 := by
  have : ∀ k, k < 12 → okd (ones k) = true ∧ (if wid (ones k) (lat k) then 0 else 4 : Int) = 0 ∧ (if wid (lat k) (lat k) then 0 else 4 : Int) = 0 := by decide
  exact this k h

def LL (w : World) (g : Nat) : Prop := ∀ i, i < 12 → ∃ sv, w.cell? ⟨g, i, none⟩ = some sv ∧ Ints w sv (lat i)
theorem LL.later {w w' : World} {g : Nat} (h : LL w g) (hb : Below w.heap.size w w') : LL w' g := by
  intro i hi
  obtain ⟨sv, h1, h2⟩ := h i hi
  exact ⟨sv, cell_later hb h1, h2.later hb⟩
theorem Gath.full {B : Nat} {w wr : World} {v : Value} {xs : List Value} (h : Gath B w wr v 12 xs) : ∃ g cap, v = .slice (some ⟨g, 0, none⟩) 12 cap ∧ 12 ≤ cap ∧ cap ≤ maxLen ∧ LL wr g := by
  have hl := h.len
  rcases h.own.2 with ⟨_, h0⟩ | ⟨g, cap, cur, rfl, hb, hh, h1, h2, h3, h4⟩
  · omega
  refine ⟨g, cap, rfl, h1, h2, fun i hi => ?_⟩
  have hr := h.rows i (by omega)
  refine ⟨xs[i], ?_, hr.ints⟩
  rw [cell_of_row wr g i cur 23 (0, 0) hh, ← Array.getElem?_toList]
  have : cur.toList[i]? = (cur.toList.take (12 * 1))[i]? := by rw [List.getElem?_take, if_pos (by omega)]
  rw [this, h4]
  simp [hl, hi]
set_option maxRecDepth 100000 in
set_option maxHeartbeats 1000000 in
theorem shapeWider_any (a0 : Option Addr) (n0 c0 : Nat) (f1 f2 f3 : Value) (w : World) (h0 : n0 ≤ maxLen) :
    Calls Try.prog 6 #[.agg #[.slice a0 n0 c0, f1, f2, f3]] w fun e w' => e = .returned (.bool true) ∧ Below w.heap.size w w' := by
  unfold maxLen at h0
  obtain ⟨i23, hi, hz0, hz1, hz2⟩ := info23
  have HI : Hid (Try.prog.info? 23 = some i23) := hi
  have HZ0 : Hid (i23.zero = some (.slice none 0 0)) := hz0
  have HZ1 : Hid (i23.size = 1) := hz1
  have HZ2 : Hid (i23.bytes = 24) := hz2
  clear hi hz0 hz1 hz2
  go_enter Try.func6, Try.ntmps6
  go_wp2
  go_loopw [3, 4] (fun v i w' => ∃ (k : Nat) (xs : List Value), k ≤ 3 ∧ i = .int .i64 (k + 1 : Nat) ∧ Gath (w.heap.size + 1) (w.alloc (.cells #[.slice a0 n0 c0, f1, f2, f3] 26)) w' v (4 * k) xs) (fun _ i _ => 4 - (intOf i).toNat)
  case atStart => exact ⟨0, [], by omega, rfl, ⟨World.ownsRow_nil _ _ _ _, fun i h => by simp at h, Below.refl _ _⟩⟩
  case round =>
    obtain ⟨k, xs, hk, rfl, hG⟩ := hrel
    by_cases hlt : k < 3
    · have hGs := hG.below.size
      simp at hGs
      have HG : Hid (Gath (w.heap.size + 1) (w.alloc (.cells #[.slice a0 n0 c0, f1, f2, f3] 26)) wr _ (4 * k) xs) := hG
      clear hG
      go_wp2_with (at_builtin; refine wpList_append_own _ rfl _ _ 22 rfl (w.heap.size + 1) 23 i23 (.slice none 0 0) 1 24 Try.underlying22 HI.out HZ0.out HZ1.out HZ2.out rfl (by decide) _ _ _ rfl ((HG.out.own.alloc _).alloc _) ⟨wr.heap.size + 1, 0, none⟩ 1 1 [.slice (some ⟨wr.heap.size, 0, none⟩) 1 1] rfl rfl ?c1 ?c2 ?c3 ?c4 ?c5 ?_)
      case c1 => exact cell_new_one _ _ _ _
      case c2 => intro u hu; simp at hu; subst hu; rfl
      case c3 => unfold maxLen; omega
      case c4 => omega
      case c5 => simp; omega
      intro v1 w1 ho hg _
      have HG1 : Hid (Gath (w.heap.size + 1) (w.alloc (.cells #[.slice a0 n0 c0, f1, f2, f3] 26)) w1 v1 (4 * k + 1) (xs ++ [.slice (some ⟨wr.heap.size, 0, none⟩) 1 1])) := by
        refine HG.out.more _ _ (by omega) ho hg ?_
        rw [lat_one]
        exact ⟨wr.heap.size, rfl, (Blk.new wr [(k : Int) + 1]).alloc _, by simp⟩
      clear ho hg HG
      go_wp2
      go_loopw [3, 5] (fun v i w' => ∃ (b : Nat) (xs : List Value), b ≤ 3 ∧ i = .int .i64 (b + 1 : Nat) ∧ Gath (w.heap.size + 1) (w.alloc (.cells #[.slice a0 n0 c0, f1, f2, f3] 26)) w' v (4 * k + 1 + b) xs) (fun _ i _ => 4 - (intOf i).toNat)
      case atStart => exact ⟨0, _, by omega, rfl, HG1.out⟩
      case round =>
        obtain ⟨b, xs, hb, rfl, hG⟩ := hrel
        by_cases hltb : b < 3
        · have hGs := hG.below.size
          simp at hGs
          have HG : Hid (Gath (w.heap.size + 1) (w.alloc (.cells #[.slice a0 n0 c0, f1, f2, f3] 26)) wr _ (4 * k + 1 + b) xs) := hG
          clear hG
          go_wp2_with (at_builtin; refine wpList_append_own _ rfl _ _ 22 rfl (w.heap.size + 1) 23 i23 (.slice none 0 0) 1 24 Try.underlying22 HI.out HZ0.out HZ1.out HZ2.out rfl (by decide) _ _ _ rfl ((HG.out.own.alloc _).alloc _) ⟨wr.heap.size + 1, 0, none⟩ 1 1 [.slice (some ⟨wr.heap.size, 0, none⟩) 2 2] rfl rfl ?c1 ?c2 ?c3 ?c4 ?c5 ?_)
          case c1 => exact cell_new_one _ _ _ _
          case c2 => intro u hu; simp at hu; subst hu; rfl
          case c3 => unfold maxLen; omega
          case c4 => omega
          case c5 => simp; omega
          intro v1 w1 ho hg _
          have HG2 : Hid (Gath (w.heap.size + 1) (w.alloc (.cells #[.slice a0 n0 c0, f1, f2, f3] 26)) w1 v1 (4 * k + 1 + b + 1) (xs ++ [.slice (some ⟨wr.heap.size, 0, none⟩) 2 2])) := by
            refine HG.out.more _ _ (by omega) ho hg ?_
            rw [lat_two k b hltb]
            exact ⟨wr.heap.size, rfl, (Blk.new wr [(k : Int) + 1, (b : Int) + 1]).alloc _, by simp⟩
          clear ho hg HG
          go_wp2
          go_roundw
          case rel => exact ⟨b + 1, _, by omega, by go_num, HG2.out⟩
          case measure => simp [intOf]; omega
        · have hb3 : b = 3 := by omega
          subst hb3
          have HG2 : Hid (Gath (w.heap.size + 1) (w.alloc (.cells #[.slice a0 n0 c0, f1, f2, f3] 26)) wr _ (4 * (k + 1)) xs) := hG
          clear hG
          go_wp2
          go_roundw
          case rel => exact ⟨k + 1, _, by omega, by go_num, HG2.out⟩
          case measure => simp [intOf]; omega
    · have hk3 : k = 3 := by omega
      subst hk3
      obtain ⟨g, cap, rfl, hc1, hc2, hLL⟩ := hG.full
      have HW : Hid (Below w.heap.size w wr) := ((Below.refl _ _).alloc (Nat.le_refl _) (.cells #[.slice a0 n0 c0, f1, f2, f3] 26)).trans (hG.below.mono (by omega))
      have hbox : wr.cell? ⟨w.heap.size, 0, none⟩ = some (.slice a0 n0 c0) := by
        rw [hG.below.cell (p := ⟨w.heap.size, 0, none⟩) (by simp)]
        simp
      have hws : w.heap.size < wr.heap.size := by have := hG.below.size; simp at this; omega
      have HB : Hid (wr.cell? ⟨w.heap.size, 0, none⟩ = some (.slice a0 n0 c0)) := hbox
      have HL : Hid (LL wr g) := hLL
      unfold maxLen at hc2
      clear hG hLL hbox HI HZ0 HZ1 HZ2
      go_wp2
      generalize wr = W0 at *
      go_loopw [6] (fun i w' => ∃ k : Nat, k ≤ 12 ∧ i = .int .i64 k ∧ Below W0.heap.size W0 w') (fun i _ => 12 - (intOf i).toNat)
      case atStart => exact ⟨0, by omega, rfl, Below.refl _ _⟩
      case round =>
        obtain ⟨k, hk, rfl, hbel⟩ := hrel
        by_cases hlt : k < 12
        · have HL1 : Hid (LL wr g) := HL.out.later hbel
          have HBL : Hid (Below W0.heap.size W0 wr) := hbel
          obtain ⟨sv, hcs, hIs⟩ := HL1.out k hlt
          have HIS : Hid (Ints wr sv (lat k)) := hIs
          obtain ⟨sa, sc, rfl⟩ := hIs.shape
          clear hIs hbel
          go_wp2
          generalize wr = W1 at *
          go_loopw [7] (fun i w' => ∃ j : Nat, j ≤ 12 ∧ i = .int .i64 j ∧ Below W1.heap.size W1 w') (fun i _ => 12 - (intOf i).toNat)
          case atStart => exact ⟨0, by omega, rfl, Below.refl _ _⟩
          case round =>
            obtain ⟨j, hj, rfl, hbel⟩ := hrel
            have HBL2 : Hid (Below W1.heap.size W1 wr) := hbel
            clear hbel
            by_cases hltj : j < 12
            · obtain ⟨sv2, hcs2', hIs2⟩ := HL1.out j hltj
              have HIS2 : Hid (Ints wr sv2 (lat j)) := hIs2.later HBL2.out
              have HIS1 : Hid (Ints wr (.slice sa (lat k).length sc) (lat k)) := HIS.out.later HBL2.out
              have hcs1 := cell_later HBL2.out hcs
              have hcs2 := cell_later HBL2.out hcs2'
              clear hIs2 hcs hcs2'
              cases hwd : wid (lat k) (lat j) with
              | true =>
                have HX : Hid ((if wid (lat k) (lat j) then 0 else 4 : Int) = 0) := by show _ = _; simp [hwd]
                have HY : Hid (wid (lat k) (lat j) = true) := hwd
                clear hwd
                go_wp2
                go_quiet (first | (go_at_call 26; exact quiet_eq (wider_to (HIS1.out.drewN _) (HIS2.out.drewN _) (lat_ok k hlt) (lat_ok j hltj) 0 HX.out)) | (go_at_call 14; exact quiet_eq (num_any _ _)))
                go_wp2
                replace HIS1 : Hid (Ints (wr.drewN nq) (.slice sa (lat k).length sc) (lat k)) := HIS1.out.drewN _
                replace HIS2 : Hid (Ints (wr.drewN nq) sv2 (lat j)) := HIS2.out.drewN _
                replace hcs1 : (wr.drewN nq).cell? ⟨g, k, none⟩ = some (.slice sa (lat k).length sc) := hcs1
                replace hcs2 : (wr.drewN nq).cell? ⟨g, j, none⟩ = some sv2 := hcs2
                replace HBL2 : Hid (Below W1.heap.size W1 (wr.drewN nq)) := Below.drewN HBL2.out _
                generalize wr.drewN nq = W2 at *
                go_quiet ((go_at_call 27; exact Calls.quiet_of (rwider_to (HIS1.out.drewN _) (HIS2.out.drewN _) true HY.out)))
                go_wp2
                exact ⟨⟨j + 1, by omega, by go_num, Below.drewN HBL2.out _⟩, by simp [intOf]; omega⟩
              | false =>
                have HX : Hid ((if wid (lat k) (lat j) then 0 else 4 : Int) = 4) := by show _ = _; simp [hwd]
                have HY : Hid (wid (lat k) (lat j) = false) := hwd
                clear hwd
                go_wp2
                go_quiet (first | (go_at_call 26; exact quiet_eq (wider_to (HIS1.out.drewN _) (HIS2.out.drewN _) (lat_ok k hlt) (lat_ok j hltj) 4 HX.out)) | (go_at_call 14; exact quiet_eq (num_any _ _)))
                go_wp2
                replace HIS1 : Hid (Ints (wr.drewN nq) (.slice sa (lat k).length sc) (lat k)) := HIS1.out.drewN _
                replace HIS2 : Hid (Ints (wr.drewN nq) sv2 (lat j)) := HIS2.out.drewN _
                replace hcs1 : (wr.drewN nq).cell? ⟨g, k, none⟩ = some (.slice sa (lat k).length sc) := hcs1
                replace hcs2 : (wr.drewN nq).cell? ⟨g, j, none⟩ = some sv2 := hcs2
                replace HBL2 : Hid (Below W1.heap.size W1 (wr.drewN nq)) := Below.drewN HBL2.out _
                generalize wr.drewN nq = W2 at *
                go_quiet ((go_at_call 27; exact Calls.quiet_of (rwider_to (HIS1.out.drewN _) (HIS2.out.drewN _) false HY.out)))
                go_wp2
                exact ⟨⟨j + 1, by omega, by go_num, Below.drewN HBL2.out _⟩, by simp [intOf]; omega⟩
            · have hj12 : j = 12 := by omega
              subst hj12
              have HIS1 : Hid (Ints wr (.slice sa (lat k).length sc) (lat k)) := HIS.out.later HBL2.out
              have hcs1 := cell_later HBL2.out hcs
              have hln : (lat k).length ≤ 3 := (okd_parts (lat_ok k hlt)).2.1
              have hmk := fun w => make_ints w (lat k).length (by omega)
              clear hcs HIS HL1 HL
              go_wp2
              clear hmk
              generalize wr = W3 at *
              have HST : Hid (Blk (W3.alloc (.cells (ia (zer (lat k).length)) 3)) W3.heap.size (on (lat k).length 0)) := by
                rw [on_zero]
                exact Blk.new W3 _
              go_loopw [10] (fun i w' => ∃ j : Nat, j ≤ (lat k).length ∧ i = .int .i64 j ∧ Blk w' W3.heap.size (on (lat k).length j) ∧ Below W3.heap.size W3 w') (fun i _ => (lat k).length - (intOf i).toNat)
              case atStart => exact ⟨0, by omega, rfl, HST.out, (Below.refl _ _).alloc (Nat.le_refl _) _⟩
              case round =>
                obtain ⟨j, hj, rfl, hB, hbel⟩ := hrel
                have HB3 : Hid (Blk wr W3.heap.size (on (lat k).length j)) := hB
                have HBL3 : Hid (Below W3.heap.size W3 wr) := hbel
                clear hB hbel
                by_cases hltj : j < (lat k).length
                · have hf := HB3.out.frozen j
                  obtain ⟨x, hc⟩ : ∃ x, wr.cell? ⟨W3.heap.size, j, none⟩ = some x := ⟨_, HB3.out.cell j (by rw [on_length _ _ hj]; exact hltj)⟩
                  go_wp2
                  refine ⟨⟨j + 1, by omega, by go_num, ?_, HBL3.out.setCell (Nat.le_refl _) _⟩, by simp [intOf]; omega⟩
                  have := HB3.out.set j 1
                  rw [on_set _ _ hltj] at this
                  exact this
                · have hj' : j = (lat k).length := by omega
                  have HIO : Hid (Ints wr (.slice (some ⟨W3.heap.size, 0, none⟩) (lat k).length (lat k).length) (ones k)) := by
                    subst hj'
                    exact HB3.out.ints _ _ (on_length _ _ (Nat.le_refl _)).symm (Nat.le_refl _) (by unfold big; omega)
                  have HI4 : Hid (Ints wr (.slice sa (lat k).length sc) (lat k)) := HIS1.out.later HBL3.out
                  have hcs4 := cell_later HBL3.out hcs1
                  obtain ⟨q1, q2, q3⟩ := ones_all k hlt
                  have Q1 : Hid (okd (ones k) = true) := q1
                  have Q2 : Hid ((if wid (ones k) (lat k) then 0 else 4 : Int) = 0) := q2
                  have Q3 : Hid ((if wid (lat k) (lat k) then 0 else 4 : Int) = 0) := q3
                  clear q1 q2 q3 hj' hcs1 HIS1
                  go_wp2
                  go_quiet (first | (go_at_call_of 26 (Value.slice (some ⟨W3.heap.size, 0, none⟩) (lat k).length (lat k).length); exact quiet_eq (wider_to (HIO.out.drewN _) (HI4.out.drewN _) Q1.out (lat_ok k hlt) 0 Q2.out)) | (go_at_call_of 26 (Value.slice sa (lat k).length sc); exact quiet_eq (wider_to (HI4.out.drewN _) (HI4.out.drewN _) (lat_ok k hlt) (lat_ok k hlt) 0 Q3.out)) | (go_at_call 14; exact quiet_eq (num_any _ _)))
                  go_wp2
                  refine ⟨⟨k + 1, by omega, by go_num, ?_⟩, by simp [intOf]; omega⟩
                  exact Below.drewN (Below.after (Below.after HBL.out HBL2.out) HBL3.out) _
        · have hb2 := cell_later hbel HB.out
          have HBL : Hid (Below W0.heap.size W0 wr) := hbel
          clear hbel HL HB
          go_wp2_with (go_at_call 31; refine (wakes_any _).mono ?_; rintro e w' ⟨rfl, hbw⟩)
          go_ret
          exact ⟨rfl, Below.after HW.out (Below.after HBL.out hbw)⟩
end Go.Proofs.Ythkmcjniibohkaa
