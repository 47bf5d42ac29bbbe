/- graduslaw8: Heavy. -/
import Derived.Test.YtjfkhfahpjdidaaQ11
namespace Go.Proofs.Ytjfkhfahpjdidaa
set_option linter.unusedVariables false
set_option linter.unusedSimpArgs false
set_option maxRecDepth 100000
open Go.RowKit

/-- How heavy lists of nodes are. -/
def hvF : Nat → List (List Nod) → Nat
  | n, [] => n
  | n, L :: r => if n < 1048576 then hvF (n + nwF L.length L) r else n
theorem hvF_ge : ∀ (T : List (List Nod)) (n : Nat), n ≤ hvF n T
  | [], n => Nat.le_refl _
  | L :: r, n => by
    rw [hvF]
    split
    · have := hvF_ge r (n + nwF L.length L); omega
    · exact Nat.le_refl _
theorem hvF_each : ∀ (T : List (List Nod)) (n : Nat), hvF n T ≤ 1200 → ∀ i (h : i < T.length), nwF T[i].length T[i] ≤ 1200
  | L :: r, n, h, i, hi => by
    rw [hvF] at h
    split at h
    · cases i with
      | zero => have := hvF_ge r (n + nwF L.length L); show nwF L.length L ≤ 1200; omega
      | succ j => exact hvF_each r _ h j (by simpa using hi)
    · omega
def hv (T : List (List Nod)) (N : List Int) (D : List (List Int)) : Nat := hvF (N.length + (lsF D.length (D.map List.length)).toNat) T
theorem lsF_each : ∀ (l : List Nat) (x : Int), 0 ≤ x → lsF x l ≤ 1200 → ∀ a ∈ l, a ≤ 1200
  | b :: r, x, hx, h, a, ha => by
    rw [lsF] at h
    split at h
    · have hge := lsF_ge r (x + b)
      rcases List.mem_cons.1 ha with rfl | ha
      · omega
      · exact lsF_each r _ (by omega) h a ha
    · omega
theorem NodesL.weight_le {w : World} {v : Value} {L : List Nod} (h : NodesL w v L) : nwF L.length L ≤ 60000000000000 := by
  obtain ⟨h0, a, c, e, h1, h2⟩ := h
  unfold big at h0
  exact nwF_le L _ (by omega) (fun i hi => by
    obtain ⟨b, off, x, y, _, hn⟩ := h2 i hi
    exact nodW_le hn)
/-- What is not heavy. -/
structure Light (T : List (List Nod)) (N : List Int) (D : List (List Int)) : Prop where
  n : N.length ≤ 1200
  d : D.length ≤ 1200
  de : ∀ d ∈ D, d.length ≤ 1200
  t : ∀ i (h : i < T.length), T[i].length ≤ 1200
  te : ∀ i (h : i < T.length) k (g : k < T[i].length), nodW (T[i][k]) ≤ 1200
theorem hv_light {T : List (List Nod)} {N : List Int} {D : List (List Int)} (h : hv T N D ≤ 1200) : Light T N D := by
  have h1 := hvF_ge T (N.length + (lsF D.length (D.map List.length)).toNat)
  have h2 := hvF_each T _ h
  rw [hv] at h
  have h3 := lsF_ge (D.map List.length) D.length
  refine ⟨by omega, by omega, fun d hd => ?_, fun i hi => ?_, fun i hi k hk => ?_⟩
  · exact lsF_each (D.map List.length) D.length (by omega) (by omega) _ (List.mem_map_of_mem hd)
  · have := nwF_ge T[i] T[i].length
    have := h2 i hi
    omega
  · exact nwF_each T[i] _ (h2 i hi) k hk
set_option maxHeartbeats 4000000 in
theorem heavy8_any {f0 f1 f2 : Value} {T : List (List Nod)} {N : List Int} {D : List (List Int)} {w : World} (h0 : NodesLL w f0 T) (h1 : Ints w f1 N) (h2 : IntsL w f2 D) (bh : Bool) (hbh : decide (1200 < hv T N D) = bh) :
    Calls Try.prog 6 #[.agg #[f0, f1, f2]] w fun e w' => e = .returned (.bool bh) ∧ Below w.heap.size w w' := by
  obtain ⟨hTb, a0, k0, rfl, hTc, hTr⟩ := h0
  have HT : Hid (∀ i (h : i < T.length), ∃ b off x, a0 = some ⟨b, off, none⟩ ∧ w.cell? ⟨b, off + i, none⟩ = some x ∧ NodesL w x T[i]) := hTr
  obtain ⟨a1, k1, rfl⟩ := h1.shape
  obtain ⟨a2, n2, k2, rfl⟩ : ∃ a n c, f2 = .slice a n c := by obtain ⟨_, a, c, e, _⟩ := h2; exact ⟨a, _, c, e⟩
  have hnl := h1.len
  have hle : lsF D.length (D.map List.length) ≤ 1048576 + 17592186044416 := by
    refine lsF_le 17592186044416 _ _ (fun a ha => ?_) ?_
    · simp only [List.mem_map] at ha
      obtain ⟨d, hd, rfl⟩ := ha
      obtain ⟨i, hi, rfl⟩ := List.getElem_of_mem hd
      obtain ⟨_, a', c', e, _, hrow⟩ := h2
      obtain ⟨b, off, x, ea, c0, hx⟩ := hrow i hi
      have := hx.len
      unfold big at this
      exact this
    · have := h2.1
      unfold big at this
      omega
  have hge := lsF_ge (D.map List.length) D.length
  obtain ⟨y, hy⟩ : ∃ y : Nat, lsF (D.length : Int) (D.map List.length) = (y : Int) := ⟨(lsF (D.length : Int) (D.map List.length)).toNat, by omega⟩
  have HB0 : Hid (decide (1200 < hvF (N.length + y) (T.drop 0)) = bh) := by show _ = _; rw [← hbh, hv, hy, Int.toNat_natCast, List.drop_zero]
  rw [hy] at hle hge
  obtain ⟨nn, hnn⟩ : ∃ x, N.length = x := ⟨_, rfl⟩
  rw [hnn] at HB0 hnl ⊢
  unfold big at hnl hTb
  obtain ⟨U, hU⟩ : ∃ U, U = w.alloc (.cells #[.slice a0 T.length k0, .slice a1 nn k1, .slice a2 n2 k2] 26) := ⟨_, rfl⟩
  have HUU : Hid (U = w.alloc (.cells #[.slice a0 T.length k0, .slice a1 nn k1, .slice a2 n2 k2] 26)) := hU
  have hb : Below w.heap.size w U := by rw [hU]; exact Below.push (Below.refl _ _) _
  have HB : Hid (Below w.heap.size w U) := hb
  have u0 : U.cell? ⟨w.heap.size, 0, none⟩ = some (.slice a0 T.length k0) := by rw [hU]; simp
  have u1 : U.cell? ⟨w.heap.size, 1, none⟩ = some (.slice a1 nn k1) := by rw [hU]; simp
  have u2 : U.cell? ⟨w.heap.size, 2, none⟩ = some (.slice a2 n2 k2) := by rw [hU]; simp
  have H2 : Hid (IntsL U (.slice a2 n2 k2) D) := h2.later hb
  have HLI : Hid (∀ {w : World}, IntsL w (.slice a2 n2 k2) D → Calls Try.prog 20 #[.slice a2 n2 k2] w fun e w' => e = .returned (.int .i64 y) ∧ w = w') := by
    intro w h
    have := lists_any h
    rw [hy] at this
    exact this
  have hw : IntKind.i64.wrap ((nn : Int) + (y : Int)) = (nn : Int) + (y : Int) := wrap_small _ (by omega) (by omega)
  clear h1 h2 hb hge hy hnn hTr hU hbh
  go_enter Try.func6, Try.ntmps6
  go_wp2_with fail
  rw [← HUU.out]
  go_quiet ((go_at_call 20; exact Calls.quiet_of_same ((HLI.out (H2.out.later (Below.drewN (Below.refl _ _) _))).mono (fun _ _ h => ⟨h.1, h.2.symm⟩))))
  go_wp2
  go_loopw [3, 4] (fun n i w' => ∃ (k m q : Nat), k ≤ T.length ∧ m ≤ 120000000000000 ∧ i = .int .i64 k ∧ n = .int .i64 m ∧ w' = U.drewN q ∧ Hid (decide (1200 < hvF m (T.drop k)) = bh)) (fun _ i _ => T.length - (intOf i).toNat)
  case atStart => exact ⟨0, nn + y, _, Nat.zero_le _, by omega, rfl, by push_cast; rfl, rfl, HB0.out⟩
  case round =>
    obtain ⟨k, m, q, hk, hm, rfl, rfl, rfl, HI⟩ := hrel
    by_cases hlt : k < T.length
    · have HD : Hid (T.drop k = T[k] :: T.drop (k + 1)) := List.drop_eq_getElem_cons hlt
      by_cases hm2 : m < 1048576
      · have gb : (m : Int) < 1048576 := by omega
        obtain ⟨b, off, x, rfl, hc, hn⟩ := HT.out k hlt
        have c1 : (U.drewN q).cell? ⟨b, off + k, none⟩ = some x := cell_later (Below.drewN HB.out _) hc
        obtain ⟨z, hz⟩ : ∃ z, nwF T[k].length T[k] = z := ⟨_, rfl⟩
        have HZ : Hid (nwF T[k].length T[k] = z) := hz
        have hzl := hn.weight_le
        rw [hz] at hzl
        have HI2 : Hid (decide (1200 < hvF (m + z) (T.drop (k + 1))) = bh) := by
          have h := HI.out
          rw [HD.out, hvF, if_pos hm2, hz] at h
          exact h
        have HNK : Hid (NodesL (U.drewN q) x T[k]) := (hn.later HB.out).later (Below.drewN (Below.refl _ _) _)
        obtain ⟨xa, xc, rfl, _, _⟩ := hn.shape
        have q1 : IntKind.i64.wrap ((m : Int) + (z : Int)) = (m : Int) + (z : Int) := wrap_small _ (by omega) (by omega)
        have g1 : (k : Int) < T.length := by omega
        clear hc hn hz HD
        go_wp2_with (go_at_call 21; refine (nweight_any HNK.out z HZ.out).mono ?_; rintro e w2 ⟨rfl, nq, rfl⟩; rw [World.drewN_drewN])
        go_roundw
        case rel => exact ⟨k + 1, m + z, _, by omega, by omega, by go_num, by push_cast; rfl, rfl, HI2.out⟩
        case measure => simp [intOf]; omega
      · have gb : ¬ (m : Int) < 1048576 := by omega
        have HV : Hid (decide ((1200 : Int) < m) = bh) := by
          have h := HI.out
          rw [HD.out, hvF, if_neg hm2] at h
          show _ = _
          rw [← h]
          exact decide_eq_decide.2 (by omega)
        clear HD
        go_wp2
        go_ret
        exact ⟨by rw [← HV.out]; rfl, Below.drewN HB.out _⟩
    · have hk' : k = T.length := by omega
      have HV : Hid (decide ((1200 : Int) < m) = bh) := by
        have h := HI.out
        rw [List.drop_of_length_le (by omega), hvF] at h
        show _ = _
        rw [← h]
        exact decide_eq_decide.2 (by omega)
      go_wp2
      go_ret
      exact ⟨by rw [← HV.out]; rfl, Below.drewN HB.out _⟩
end Go.Proofs.Ytjfkhfahpjdidaa
