/- Contracts: graduslaw3's Heavy, wakes; dims (which stand behind its answer). -/
import Derived.Test.YtgedknmjenbacaaH0
namespace Go.Proofs.Ytgedknmjenbacaa
set_option linter.unusedVariables false
set_option linter.unusedSimpArgs false
open Go.RowKit

theorem lsF_ge : ∀ (l : List Nat) (x : Int), x ≤ lsF x l
  | [], x => Int.le_refl _
  | a :: r, x => by
    rw [lsF]
    split
    · have := lsF_ge r (x + a)
      omega
    · exact Int.le_refl _

set_option maxHeartbeats 400000 in
theorem heavy3_any {f0 f1 f2 : Value} {T : List Ten} {L : List Int} {D : List (List Int)} {w : World} (h0 : TensL w f0 T) (h1 : Ints w f1 L) (h2 : IntsL w f2 D) :
    Calls Try.prog 6 #[.agg #[f0, f1, f2]] w fun e w' => ∃ b, e = .returned (.bool b) ∧ (b = false → D.length ≤ 300) ∧ Below w.heap.size w w' := by
  have hb : Below w.heap.size w (w.alloc (.cells #[f0, f1, f2] 28)) := (Below.refl _ _).alloc (Nat.le_refl _) _
  have H0 : Hid (TensL (w.alloc (.cells #[f0, f1, f2] 28)) f0 T) := h0.later hb
  have H1 : Hid (Ints (w.alloc (.cells #[f0, f1, f2] 28)) f1 L) := h1.later hb
  have H2 : Hid (IntsL (w.alloc (.cells #[f0, f1, f2] 28)) f2 D) := h2.later hb
  have HB : Hid (Below w.heap.size w (w.alloc (.cells #[f0, f1, f2] 28))) := hb
  have hge := lsF_ge (D.map List.length) D.length
  have HGE : Hid ((D.length : Int) ≤ lsF D.length (D.map List.length)) := hge
  obtain ⟨x, hx⟩ : ∃ x, lsF (D.length : Int) (D.map List.length) = x := ⟨_, rfl⟩
  rw [hx] at HGE
  have HX : Hid (lsF (D.length : Int) (D.map List.length) = x) := hx
  clear h0 h1 h2 hb hge hx
  by_cases hgt : 300 < x
  · go_enter Try.func6, Try.ntmps6
    go_wp2_with fail
    refine (lists_any H2.out).mono ?_
    rw [HX.out]
    rintro e w' ⟨rfl, rfl⟩
    go_wp2
    go_ret
    exact ⟨_, rfl, (fun h => by simp at h), HB.out⟩
  · have HD : Hid (D.length ≤ 300) := by have := HGE.out; show _ ≤ _; omega
    have hgt' : x ≤ 300 := by omega
    clear hgt
    go_enter Try.func6, Try.ntmps6
    go_wp2_with fail
    refine (lists_any H2.out).mono ?_
    rw [HX.out]
    rintro e w' ⟨rfl, rfl⟩
    go_wp2_with fail
    refine (heavy2_any H0.out H1.out).mono ?_
    rintro e w' ⟨b, rfl, hb⟩
    have HB1 : Hid (Below w.heap.size w w') := Below.after HB.out hb
    clear hb
    go_wp2
    go_ret
    exact ⟨_, rfl, fun _ => HD.out, HB1.out⟩

theorem sumd_to {a0 a1 v : Value} {s : Ten} {d : List Int} {w : World} (x : Int) (u : Ten) (ha : Tens w a0 a1 s) (hd : Ints w v d) (hx : suE s d = x) (hu : suR s d = u) :
    Calls Try.prog 18 #[.agg #[a0, a1], v] w fun e w' => ∃ x0 x1, e = .returned (.tuple #[.agg #[x0, x1], .int .i64 x]) ∧ OwnT w' w.heap.size x0 x1 u ∧ Below w.heap.size w w' := by
  subst hx hu
  exact sumd_any ha hd

set_option maxHeartbeats 2000000 in
theorem wakes3_any (w : World) : Calls Try.prog 25 #[] w fun e w' => e = .returned (.bool true) ∧ Below w.heap.size w w' := by
  have hb : Below w.heap.size w (((w.alloc (.cells #[.int .i64 1, .int .i64 3] 3)).alloc (.cells #[.int .i64 1, .int .i64 2, .int .i64 4] 3)).alloc (.cells #[.int .i64 1, .int .i64 1] 3)) := (((Below.refl _ _).alloc (Nat.le_refl _) _).alloc (by simp) _).alloc (by simp; omega) _
  have k0 : Blk (((w.alloc (.cells #[.int .i64 1, .int .i64 3] 3)).alloc (.cells #[.int .i64 1, .int .i64 2, .int .i64 4] 3)).alloc (.cells #[.int .i64 1, .int .i64 1] 3)) w.heap.size [1, 3] := ((Blk.newer w [1, 3] _ rfl).alloc _).alloc _
  have k1 : Blk (((w.alloc (.cells #[.int .i64 1, .int .i64 3] 3)).alloc (.cells #[.int .i64 1, .int .i64 2, .int .i64 4] 3)).alloc (.cells #[.int .i64 1, .int .i64 1] 3)) (w.heap.size + 1) [1, 2, 4] := (Blk.newer (w.alloc (.cells #[.int .i64 1, .int .i64 3] 3)) [1, 2, 4] (w.heap.size + 1) (by simp)).alloc _
  have k2 : Blk (((w.alloc (.cells #[.int .i64 1, .int .i64 3] 3)).alloc (.cells #[.int .i64 1, .int .i64 2, .int .i64 4] 3)).alloc (.cells #[.int .i64 1, .int .i64 1] 3)) (w.heap.size + 1 + 1) [1, 1] := Blk.newer ((w.alloc (.cells #[.int .i64 1, .int .i64 3] 3)).alloc (.cells #[.int .i64 1, .int .i64 2, .int .i64 4] 3)) [1, 1] (w.heap.size + 1 + 1) (by simp)
  have HB : Hid (Below w.heap.size w (((w.alloc (.cells #[.int .i64 1, .int .i64 3] 3)).alloc (.cells #[.int .i64 1, .int .i64 2, .int .i64 4] 3)).alloc (.cells #[.int .i64 1, .int .i64 1] 3))) := hb
  have HA : Hid (Tens (((w.alloc (.cells #[.int .i64 1, .int .i64 3] 3)).alloc (.cells #[.int .i64 1, .int .i64 2, .int .i64 4] 3)).alloc (.cells #[.int .i64 1, .int .i64 1] 3)) (.slice (some ⟨w.heap.size, 0, none⟩) 2 2) (.slice (some ⟨w.heap.size + 1, 0, none⟩) 3 3) ([1, 3], [1, 2, 4])) :=
    ⟨k0.ints 2 2 rfl (Nat.le_refl _) (by decide), k1.ints 3 3 rfl (Nat.le_refl _) (by decide)⟩
  have HD : Hid (Ints (((w.alloc (.cells #[.int .i64 1, .int .i64 3] 3)).alloc (.cells #[.int .i64 1, .int .i64 2, .int .i64 4] 3)).alloc (.cells #[.int .i64 1, .int .i64 1] 3)) (.slice (some ⟨w.heap.size + 1 + 1, 0, none⟩) 2 2) [1, 1]) := k2.ints 2 2 rfl (Nat.le_refl _) (by decide)
  clear hb k0 k1 k2
  go_enter Try.func25, Try.ntmps25
  go_wp2_with fail
  refine (sumd_to 0 ([1, 1], [7]) HA.out HD.out (by decide +kernel) (by decide +kernel)).mono ?_
  rintro e w1 ⟨x0, x1, rfl, ho, hb1⟩
  obtain ⟨xa, xn, xc, rfl⟩ := ho.dims.ints.shape3
  obtain ⟨ya, yn, yc, rfl⟩ := ho.data.ints.shape3
  have hv : Below w1.heap.size w1 ((w1.alloc (.cells #[.slice xa xn xc, .slice ya yn yc] 31)).alloc (.cells #[.int .i64 7] 3)) := Below.push (Below.push (Below.refl _ _) _) _
  have HB1 : Hid (Below w.heap.size w ((w1.alloc (.cells #[.slice xa xn xc, .slice ya yn yc] 31)).alloc (.cells #[.int .i64 7] 3))) := Below.after (Below.after HB.out hb1) hv
  have HX : Hid (Ints ((w1.alloc (.cells #[.slice xa xn xc, .slice ya yn yc] 31)).alloc (.cells #[.int .i64 7] 3)) (.slice ya yn yc) [7]) := ho.data.ints.later hv
  have HZ : Hid (Ints ((w1.alloc (.cells #[.slice xa xn xc, .slice ya yn yc] 31)).alloc (.cells #[.int .i64 7] 3)) (.slice (some ⟨w1.heap.size + 1, 0, none⟩) 1 1) [7]) := by
    have := (Blk.newer (w1.alloc (.cells #[.slice xa xn xc, .slice ya yn yc] 31)) [7] (w1.heap.size + 1) (by simp)).ints 1 1 rfl (Nat.le_refl _) (by decide)
    exact this
  clear ho hb1 hv
  go_wp2_with (go_at_call 11; refine (num_any _ _).mono ?_; rintro e w' ⟨rfl, rfl⟩)
  refine (eqn_to true HX.out HZ.out (by decide)).mono ?_
  rintro e w3 ⟨rfl, n3, rfl⟩
  go_wp2
  go_ret
  exact ⟨rfl, Below.drewN HB1.out _⟩

theorem IntsL.vals {w : World} {ad : Addr} {D : List (List Int)} {n c : Nat} (h : IntsL w (.slice (some ad) n c) D) :
    n = D.length ∧ ∃ news : List Value, news.length = D.length ∧ (∀ j u, news[j]? = some u → w.cell? (ad.add j) = some u) ∧ (∀ i (h : i < D.length), ∃ y, news[i]? = some y ∧ Ints w y D[i]) ∧ ∀ u ∈ news, u.oneCell' = true := by
  obtain ⟨_, a, c', e, _, hrow⟩ := h
  simp only [Value.slice.injEq] at e
  obtain ⟨rfl, rfl, rfl⟩ := e
  refine ⟨rfl, ?_⟩
  have key : ∀ i : Nat, ∃ x, ∀ h : i < D.length, w.cell? (ad.add i) = some x ∧ Ints w x D[i] := by
    intro i
    by_cases hi : i < D.length
    · obtain ⟨b, off, x, ea, hc, hx⟩ := hrow i hi
      simp only [Option.some.injEq] at ea
      subst ea
      refine ⟨x, fun _ => ⟨?_, hx⟩⟩
      by_cases h0 : i = 0
      · subst h0; simpa [Addr.add] using hc
      · simpa [Addr.add, h0] using hc
    · exact ⟨undef, fun h => absurd h hi⟩
  refine ⟨(List.range D.length).map fun i => Classical.choose (key i), by simp, ?_, ?_, ?_⟩
  · intro j u hj
    simp only [List.getElem?_map, Option.map_eq_some_iff] at hj
    obtain ⟨k, hk, rfl⟩ := hj
    obtain ⟨hlt, rfl⟩ := List.getElem?_eq_some_iff.1 hk
    simp only [List.getElem_range]
    have hj : j < D.length := by simpa using hlt
    exact (Classical.choose_spec (key j) hj).1
  · intro i hi
    exact ⟨Classical.choose (key i), by simp [hi], (Classical.choose_spec (key i) hi).2⟩
  · intro u hu
    simp only [List.mem_map, List.mem_range] at hu
    obtain ⟨i, hi, rfl⟩ := hu
    obtain ⟨a, c, e⟩ := (Classical.choose_spec (key i) hi).2.shape
    rw [e]; rfl

end Go.Proofs.Ytgedknmjenbacaa
