/- Contracts: mat's Mul and One of anything. -/
import Derived.Test.YtgnicnaiaijdcaaDoorX4
namespace Go.Proofs.YtgnicnaiaijdcaaDoor
set_option linter.unusedVariables false
set_option linter.unusedSimpArgs false
open Go.RowKit

theorem mul_any {a0 a1 b0 b1 : Value} {s t : Ten} {w : World} (ha : Tens w a0 a1 s) (hb' : Tens w b0 b1 t) :
    Calls Tryd.prog 8 #[.agg #[a0, a1], .agg #[b0, b1]] w fun e w' => ∃ x0 x1, e = .returned (.tuple #[.agg #[x0, x1], .int .i64 (muE s t)]) ∧ OwnT w' w.heap.size x0 x1 (muR s t) ∧ Below w.heap.size w w' := by
  have bad : ∀ c : Int, c ≠ 0 → muE s t = c → (Calls Tryd.prog 8 #[.agg #[a0, a1], .agg #[b0, b1]] w fun e w' => e = .returned (.tuple #[.agg #[.slice none 0 0, .slice none 0 0], .int .i64 c]) ∧ Below w.heap.size w w') →
      Calls Tryd.prog 8 #[.agg #[a0, a1], .agg #[b0, b1]] w fun e w' => ∃ x0 x1, e = .returned (.tuple #[.agg #[x0, x1], .int .i64 (muE s t)]) ∧ OwnT w' w.heap.size x0 x1 (muR s t) ∧ Below w.heap.size w w' := by
    intro c hc he h
    refine h.mono ?_
    rintro e w' ⟨rfl, hb⟩
    refine ⟨.slice none 0 0, .slice none 0 0, by rw [he], ?_, hb⟩
    rw [muR, he, if_neg hc]
    exact OwnT.nil _ _
  cases hx : tok s with
  | false => exact bad 1 (by decide) (by simp [muE, hx]) (mul_bad1 ha hb' hx)
  | true =>
    cases hy : tok t with
    | false => exact bad 1 (by decide) (by simp [muE, hy]) (mul_bad2 ha hb' hx hy)
    | true =>
      by_cases h2 : s.1.length = 2
      · by_cases h3 : t.1.length = 2
        · obtain ⟨d, l⟩ := s
          obtain ⟨e, m⟩ := t
          obtain ⟨p, q, rfl⟩ := nat2 hx h2
          obtain ⟨q', r, rfl⟩ := nat2 hy h3
          by_cases h4 : q = q'
          · subst h4
            rw [muE_ok hx hy, muR_ok hx hy]
            exact mul_ok ha hb' hx hy
          · refine bad 4 (by decide) ?_ (mul_four3 ha hb' hx hy h4)
            rw [muE, if_pos ⟨hx, hy⟩, if_neg]
            simp
            omega
        · refine bad 4 (by decide) ?_ (mul_four2 ha hb' hx hy h2 h3)
          rw [muE, if_pos ⟨hx, hy⟩, if_neg]
          simp [h3]
      · refine bad 4 (by decide) ?_ (mul_four1 ha hb' hx hy h2)
        rw [muE, if_pos ⟨hx, hy⟩, if_neg]
        simp [h2]
theorem mul_to {a0 a1 b0 b1 : Value} {s t : Ten} {w : World} (x : Int) (u : Ten) (ha : Tens w a0 a1 s) (hb' : Tens w b0 b1 t) (hx : muE s t = x) (hu : muR s t = u) :
    Calls Tryd.prog 8 #[.agg #[a0, a1], .agg #[b0, b1]] w fun e w' => ∃ x0 x1, e = .returned (.tuple #[.agg #[x0, x1], .int .i64 x]) ∧ OwnT w' w.heap.size x0 x1 u ∧ Below w.heap.size w w' := by
  subst hx hu
  exact mul_any ha hb'

/-- The matrix that leaves others as they are, filled up to row j. -/
def onp (n j : Nat) : List Int := (List.range (n * n)).map fun x => if x / n = x % n ∧ x / n < j then 1 else 0
theorem onp_length (n j : Nat) : (onp n j).length = n * n := by simp [onp]
theorem onp_zero (n : Nat) : onp n 0 = List.replicate (n * n) 0 := by
  apply List.ext_getElem
  · simp [onp]
  · intro i h1 h2; simp [onp]
theorem onp_all (n : Nat) : onp n n = onl n := by
  apply List.ext_getElem
  · simp [onp, onl]
  · intro i h1 h2
    have h3 : i < n * n := by simpa [onp] using h1
    have h4 := (row_lt h3).1
    simp [onp, onl, h4]
theorem onp_set (n j : Nat) (hj : j < n) : (onp n j).set (j * n + j) 1 = onp n (j + 1) := by
  apply List.ext_getElem
  · simp [onp]
  · intro i h1 h2
    have h3 : i < n * n := by simpa [onp] using h2
    simp only [List.getElem_set, onp, List.getElem_map, List.getElem_range]
    by_cases e : j * n + j = i
    · subst e
      have a := rc_div (i := j) hj
      have b := rc_mod (i := j) hj
      simp [a, b]
    · rw [if_neg e]
      by_cases h : i / n = i % n
      · have h5 : i / n ≠ j := by
          intro h6
          apply e
          have h7 := rc_back (q := n) (x := i)
          rw [← h, h6] at h7
          exact h7
        simp only [h, true_and]
        rw [h] at h5
        by_cases h6 : i % n < j
        · rw [if_pos h6, if_pos (by omega)]
        · rw [if_neg h6, if_neg (by omega)]
      · simp [h]

def onE (n : Int) : Int := if 1 ≤ n ∧ n ≤ 8 then 0 else 1
def onR (n : Int) : Ten := if onE n = 0 then ([n, n], onl n.toNat) else ([], [])

set_option maxRecDepth 100000 in
set_option maxHeartbeats 2000000 in
theorem one_bad {w : World} (n : Int) (h : okd [n, n] = false) :
    Calls Tryd.prog 14 #[.int .i64 n] w fun e w' => e = .returned (.tuple #[.agg #[.slice none 0 0, .slice none 0 0], .int .i64 1]) ∧ Below w.heap.size w w' := by
  have HO : Hid (okd [n, n] = false) := h
  have hb : Below w.heap.size w ((w.alloc (.cells #[.slice none 0 0, .slice none 0 0] 28)).alloc (.cells #[.int .i64 n, .int .i64 n] 3)) := ((Below.refl _ _).alloc (Nat.le_refl _) _).alloc (by simp) _
  have HB : Hid (Below w.heap.size w ((w.alloc (.cells #[.slice none 0 0, .slice none 0 0] 28)).alloc (.cells #[.int .i64 n, .int .i64 n] 3))) := hb
  have HBX : Hid (Box ((w.alloc (.cells #[.slice none 0 0, .slice none 0 0] 28)).alloc (.cells #[.int .i64 n, .int .i64 n] 3)) w.heap.size (.slice none 0 0) (.slice none 0 0)) := (Box.new w _ _).alloc _
  have HI : Hid (Ints ((w.alloc (.cells #[.slice none 0 0, .slice none 0 0] 28)).alloc (.cells #[.int .i64 n, .int .i64 n] 3)) (.slice (some ⟨w.heap.size + 1, 0, none⟩) 2 2) [n, n]) := by
    have := two_ints (w.alloc (.cells #[.slice none 0 0, .slice none 0 0] 28)) n n
    rw [World.size_alloc] at this
    exact this
  clear hb h
  go_enter Tryd.func14, Tryd.ntmps14
  go_wp2_with fail
  refine (fill_bad 0 HI.out HO.out).mono ?_
  rintro e w2 ⟨rfl, hb2⟩
  have HB2 : Hid (Below w.heap.size w w2) := Below.after HB.out hb2
  have hs := HB2.out.size
  have hR := HBX.out.later hb2
  have hlt := hR.lt
  have hR1 := hR.alloc (.cells #[.slice none 0 0, .slice none 0 0] 28)
  have l0 := hR1.c0
  have l1 := hR1.c1
  have m0 := hR1.f 0
  have m1 := hR1.f 1
  have l2 := hR.c0
  have l3 := hR.c1
  have m2 := hR.f 0
  have m3 := hR.f 1
  have HBS : Hid (Box _ w.heap.size _ _) := (hR.set (.slice none 0 0) (.slice none 0 0)).alloc (.cells #[.slice none 0 0, .slice none 0 0] 28)
  clear hR hR1 hb2
  go_wp2
  have hr0 := HBS.out.c0
  have hr1 := HBS.out.c1
  refine bodyPost_ret (v := .tuple #[.agg #[.slice none 0 0, .slice none 0 0], .int .i64 1]) (by simp [results, Tryd.results14, go_sem, hr0, hr1]) rfl ⟨rfl, ?_⟩
  exact Below.push ((HB2.out.setCell (by simp) _).setCell (by simp) _) _

set_option maxRecDepth 100000 in
set_option maxHeartbeats 2000000 in
theorem one_ok {w : World} (n : Nat) (h1 : 1 ≤ n) (h8 : n ≤ 8) :
    Calls Tryd.prog 14 #[.int .i64 n] w fun e w' => ∃ x0 x1, e = .returned (.tuple #[.agg #[x0, x1], .int .i64 0]) ∧ OwnT w' w.heap.size x0 x1 ([(n : Int), (n : Int)], onl n) ∧ Below w.heap.size w w' := by
  have HO : Hid (okd [(n : Int), (n : Int)] = true) := okd2_mk ⟨by omega, by omega, by omega, by omega⟩
  obtain ⟨N, hN⟩ : ∃ N, n * n = N := ⟨_, rfl⟩
  have hN64 := mul64 h8 h8
  have hN1 := Nat.mul_pos h1 h1
  rw [hN] at hN64 hN1
  have HN : Hid (n * n = N) := hN
  have HPQ : Hid ((prd [(n : Int), (n : Int)]).toNat = N) := by show _ = _; rw [prd2, hN]
  have hb : Below w.heap.size w ((w.alloc (.cells #[.slice none 0 0, .slice none 0 0] 28)).alloc (.cells #[.int .i64 n, .int .i64 n] 3)) := ((Below.refl _ _).alloc (Nat.le_refl _) _).alloc (by simp) _
  have HB : Hid (Below w.heap.size w ((w.alloc (.cells #[.slice none 0 0, .slice none 0 0] 28)).alloc (.cells #[.int .i64 n, .int .i64 n] 3))) := hb
  have HBX : Hid (Box ((w.alloc (.cells #[.slice none 0 0, .slice none 0 0] 28)).alloc (.cells #[.int .i64 n, .int .i64 n] 3)) w.heap.size (.slice none 0 0) (.slice none 0 0)) := (Box.new w _ _).alloc _
  have HI : Hid (Ints ((w.alloc (.cells #[.slice none 0 0, .slice none 0 0] 28)).alloc (.cells #[.int .i64 n, .int .i64 n] 3)) (.slice (some ⟨w.heap.size + 1, 0, none⟩) 2 2) [(n : Int), (n : Int)]) := by
    have := two_ints (w.alloc (.cells #[.slice none 0 0, .slice none 0 0] 28)) n n
    rw [World.size_alloc] at this
    exact this
  clear hb hN
  go_enter Tryd.func14, Tryd.ntmps14
  go_wp2_with fail
  refine (fill_own 0 HI.out HO.out).mono ?_
  rw [HPQ.out]
  rintro e w2 ⟨x0, b1, rfl, ho, hbk, ⟨hb1l, hap⟩, hb2⟩
  have hs := hb2.size
  simp at hs hb1l
  obtain ⟨xg, xc, rfl, hxc, hxg1, hxg2⟩ := ho.form (by simp)
  simp only [World.size_alloc] at hxg1
  have hxb : xg ≠ b1 := hap xg rfl
  have hbl := hbk.lt
  have HB2 : Hid (Below w.heap.size w (w2.alloc (.cells #[.slice (some ⟨xg, 0, none⟩) 2 xc, .slice (some ⟨b1, 0, none⟩) N N] 28))) := Below.push (Below.after HB.out hb2) _
  have HR2 : Hid (Box (w2.alloc (.cells #[.slice (some ⟨xg, 0, none⟩) 2 xc, .slice (some ⟨b1, 0, none⟩) N N] 28)) w.heap.size (.slice none 0 0) (.slice none 0 0)) := (HBX.out.later hb2).alloc _
  have HX2 : Hid (Box (w2.alloc (.cells #[.slice (some ⟨xg, 0, none⟩) 2 xc, .slice (some ⟨b1, 0, none⟩) N N] 28)) w2.heap.size (.slice (some ⟨xg, 0, none⟩) 2 xc) (.slice (some ⟨b1, 0, none⟩) N N)) := Box.new _ _ _
  have HO2 : Hid (Own (w2.alloc (.cells #[.slice (some ⟨xg, 0, none⟩) 2 xc, .slice (some ⟨b1, 0, none⟩) N N] 28)) (w.heap.size + 1) (.slice (some ⟨xg, 0, none⟩) 2 xc) [(n : Int), (n : Int)]) := (ho.mono (by simp)).later (Below.push (Below.refl _ _) _)
  have HK2 : Hid (Own (w2.alloc (.cells #[.slice (some ⟨xg, 0, none⟩) 2 xc, .slice (some ⟨b1, 0, none⟩) N N] 28)) (w.heap.size + 1) (.slice (some ⟨b1, 0, none⟩) N N) (onp n 0)) := by
    show Own _ _ _ _
    rw [onp_zero, HN.out]
    exact (Blk.own (n := N) hbk (B := w.heap.size + 1) (by omega) (by simp) (by simp; unfold big; omega)).later (Below.push (Below.refl _ _) _)
  clear ho hb2 HB HBX HI hbk hap
  go_wp2
  generalize (w2.alloc (.cells #[.slice (some ⟨xg, 0, none⟩) 2 xc, .slice (some ⟨b1, 0, none⟩) N N] 28)) = W at HB2 HR2 HX2 HO2 HK2 ⊢
  go_loopw [19] (fun i w' => ∃ j : Nat, j ≤ n ∧ i = .int .i64 j ∧ Own w' (w.heap.size + 1) (.slice (some ⟨b1, 0, none⟩) N N) (onp n j) ∧ But b1 W w') (fun i _ => n - (intOf i).toNat)
  case atStart => exact ⟨0, by omega, rfl, HK2.out, But.refl _ _⟩
  case round =>
    obtain ⟨j, hj, rfl, hB, hbu⟩ := hrel
    have HKR : Hid (Own wr (w.heap.size + 1) (.slice (some ⟨b1, 0, none⟩) N N) (onp n j)) := hB
    have HBU : Hid (But b1 W wr) := hbu
    clear hB hbu
    by_cases hlt : j < n
    · have hiq : j * n + j < n * n := rc_lt hlt hlt
      rw [HN.out] at hiq
      have HS : Hid ((onp n j).set (j * n + j) 1 = onp n (j + 1)) := onp_set n j hlt
      have u0 := (HBU.out.box HX2.out (by omega)).c1
      have y0 : (j : Int) * n = ((j * n : Nat) : Int) := by simp
      obtain ⟨jn, hjn⟩ : ∃ x, j * n = x := ⟨_, rfl⟩
      rw [hjn] at hiq HS y0
      have z0 : IntKind.i64.wrap ((j : Int) * n) = (jn : Int) := by rw [y0]; exact wrap_small _ (by omega) (by omega)
      have z1 : IntKind.i64.wrap ((jn : Int) + j) = ((jn + j : Nat) : Int) := by rw [wrap_small _ (by omega) (by omega)]; simp
      obtain ⟨T, hT⟩ : ∃ x, jn + j = x := ⟨_, rfl⟩
      rw [hT] at hiq HS z1
      have z4 : (0 : Int) ≤ (T : Int) := by omega
      have z5 : (T : Int) < N := by omega
      obtain ⟨f1, f2, f3⟩ := HKR.out.put (by rw [onp_length, HN.out]) T hiq 1
      rw [HS.out] at f3
      have HP : Hid (Own (wr.setCell ⟨b1, T, none⟩ (.int .i64 1)) (w.heap.size + 1) (.slice (some ⟨b1, 0, none⟩) N N) (onp n (j + 1))) := f3
      clear hjn hT y0 f3
      go_wp2
      go_roundw
      case rel => exact ⟨j + 1, by omega, by go_num, HP.out, HBU.out.setCell _⟩
      case measure => simp [intOf]; omega
    · have hj' : j = n := by omega
      subst hj'
      have hX8 := HBU.out.box HX2.out (by omega)
      have t0 := hX8.c0
      have t1 := hX8.c1
      have hbx := HBU.out.box HR2.out (by omega)
      have l0 := hbx.c0
      have l1 := hbx.c1
      have m0 := hbx.f 0
      have m1 := hbx.f 1
      have HBS : Hid (Box _ _ _ _) := hbx.set (.slice (some ⟨xg, 0, none⟩) 2 xc) (.slice (some ⟨b1, 0, none⟩) N N)
      have HO8 : Hid (Own wr (w.heap.size + 1) (.slice (some ⟨xg, 0, none⟩) 2 xc) [(j : Int), (j : Int)]) := HO2.out.at fun k hk => by
        simp [Value.ownBlock] at hk
        exact HBU.out.block k (by omega)
      have HK8 : Hid (Own wr (w.heap.size + 1) (.slice (some ⟨b1, 0, none⟩) N N) (onl j)) := by
        have h := HKR.out
        rw [onp_all] at h
        exact h
      have HBW : Hid (Below w.heap.size w wr) := HBU.out.below HB2.out (by omega)
      clear hbx hX8
      go_wp2
      have hr0 := HBS.out.c0
      have hr1 := HBS.out.c1
      refine bodyPost_ret (v := .tuple #[.agg #[.slice (some ⟨xg, 0, none⟩) 2 xc, .slice (some ⟨b1, 0, none⟩) N N], .int .i64 0]) (by simp [results, Tryd.results14, go_sem, hr0, hr1]) rfl ⟨_, _, rfl, ?_, ?_⟩
      · have h1 : OwnT wr (w.heap.size + 1) (.slice (some ⟨xg, 0, none⟩) 2 xc) (.slice (some ⟨b1, 0, none⟩) N N) ([(j : Int), (j : Int)], onl j) := ⟨HO8.out, HK8.out, fun k hk e => by simp [Value.ownBlock] at hk e; omega⟩
        exact ((h1.setCell _ _ (by simp)).setCell _ _ (by simp)).mono (by omega)
      · exact (HBW.out.setCell (by simp) _).setCell (by simp) _
theorem one_any {w : World} (n : Int) :
    Calls Tryd.prog 14 #[.int .i64 n] w fun e w' => ∃ x0 x1, e = .returned (.tuple #[.agg #[x0, x1], .int .i64 (onE n)]) ∧ OwnT w' w.heap.size x0 x1 (onR n) ∧ Below w.heap.size w w' := by
  by_cases h : 1 ≤ n ∧ n ≤ 8
  · obtain ⟨k, rfl⟩ : ∃ k : Nat, n = k := ⟨n.toNat, by omega⟩
    have he : onE (k : Int) = 0 := by rw [onE, if_pos h]
    rw [onR, he, if_pos rfl, Int.toNat_natCast]
    exact one_ok k (by omega) (by omega)
  · have he : onE n = 1 := by rw [onE, if_neg h]
    have ho : okd [n, n] = false := by
      cases ho : okd [n, n] with
      | false => rfl
      | true =>
        have := okd2 ho
        omega
    refine (one_bad n ho).mono ?_
    rintro e w' ⟨rfl, hb⟩
    refine ⟨.slice none 0 0, .slice none 0 0, by rw [he], ?_, hb⟩
    rw [onR, he, if_neg (by decide)]
    exact OwnT.nil _ _
theorem one_to {w : World} (n x : Int) (u : Ten) (hx : onE n = x) (hu : onR n = u) :
    Calls Tryd.prog 14 #[.int .i64 n] w fun e w' => ∃ x0 x1, e = .returned (.tuple #[.agg #[x0, x1], .int .i64 x]) ∧ OwnT w' w.heap.size x0 x1 u ∧ Below w.heap.size w w' := by
  subst hx hu
  exact one_any n
end Go.Proofs.YtgnicnaiaijdcaaDoor
