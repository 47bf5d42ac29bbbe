/- Contracts: the page's Scale; Heavy; like; wakes. -/
import Derived.Test.YtgedknmjenbacaaK7
namespace Go.Proofs.Ytgedknmjenbacaa
set_option linter.unusedVariables false
set_option linter.unusedSimpArgs false
open Go.RowKit

set_option maxHeartbeats 4000000 in
theorem rscale_any {a0 a1 : Value} {s : Ten} {w : World} (m : Int) (ha : Tens w a0 a1 s) (hpos : 1 ≤ s.2.length) (h64 : s.2.length ≤ 64) :
    Calls Try.prog 27 #[.agg #[a0, a1], .int .i64 m] w fun e w' => ∃ x0 x1, e = .returned (.agg #[x0, x1]) ∧ OwnT w' w.heap.size x0 x1 (s.1, s.2.map (fun y => wrap64 (y * m))) ∧ Below w.heap.size w w' := by
  have hb : Below w.heap.size w ((w.alloc (.cells #[a0, a1] 31)).alloc (.cells #[.slice none 0 0, .slice none 0 0] 31)) := ((Below.refl _ _).alloc (Nat.le_refl _) _).alloc (by simp) _
  have HB : Hid (Below w.heap.size w ((w.alloc (.cells #[a0, a1] 31)).alloc (.cells #[.slice none 0 0, .slice none 0 0] 31))) := hb
  have HA : Hid (Tens ((w.alloc (.cells #[a0, a1] 31)).alloc (.cells #[.slice none 0 0, .slice none 0 0] 31)) a0 a1 s) := ha.later hb
  have HBX : Hid (Box ((w.alloc (.cells #[a0, a1] 31)).alloc (.cells #[.slice none 0 0, .slice none 0 0] 31)) (w.heap.size + 1) (.slice none 0 0) (.slice none 0 0)) := by
    have := Box.new (w.alloc (.cells #[a0, a1] 31)) (.slice none 0 0) (.slice none 0 0)
    simp only [World.size_alloc] at this
    exact this
  obtain ⟨n, hn⟩ : ∃ n : Nat, s.2.length = n := ⟨_, rfl⟩
  have HN : Hid (s.2.length = n) := hn
  have hn1 : 1 ≤ n := by omega
  have hn64 : n ≤ 64 := by omega
  clear ha hb hpos h64 hn
  go_enter Try.func27, Try.ntmps27
  go_wp2_with fail
  refine (copyT_any HA.out).mono ?_
  rintro e w1 ⟨x0, x1, rfl, ho, hb1'⟩
  simp only [World.size_alloc] at ho
  have hs1 := hb1'.size
  simp at hs1
  have HB1 : Hid (Below w.heap.size w w1) := Below.after HB.out hb1'
  obtain ⟨g, cap, ex⟩ := Joins.ownsRow_form ho.data.row (by have := HN.out; omega)
  have hgl := ho.data.lt
  have hgf := ho.data.frm
  have hcl : n ≤ cap := by
    rcases ho.data.row.2 with ⟨h0, _⟩ | ⟨g', cap', cur, he, _, _, h1, _⟩
    · rw [ex] at h0; simp at h0
    · rw [ex] at he
      simp only [Value.slice.injEq, Option.some.injEq, Addr.mk.injEq, and_true, true_and] at he
      have := HN.out
      omega
  subst ex
  have hg1 := hgl g rfl
  have hg2 := hgf g rfl
  have HO0 : Hid (Own w1 (w.heap.size + 1 + 1) x0 s.1) := ho.dims
  have HO1 : Hid (Own w1 (w.heap.size + 1 + 1) (.slice (some ⟨g, 0, none⟩) s.2.length cap) s.2) := ho.data
  have HOD : Hid (OwnT w1 (w.heap.size + 1 + 1) x0 (.slice (some ⟨g, 0, none⟩) s.2.length cap) s) := ho
  obtain ⟨xa, xc, rfl⟩ := ho.dims.ints.shape
  have HBX1 := HBX.out.later hb1'
  clear ho hb1' hgl hgf
  rw [HN.out]
  rw [HN.out] at HO1
  go_wp2
  have HOS : Hid (Own (w1.alloc (.cells #[.slice xa s.1.length xc, .slice (some ⟨g, 0, none⟩) n cap] 31)) (w.heap.size + 1 + 1) (.slice (some ⟨g, 0, none⟩) n cap) (mix (fun i => (fun y => wrap64 (y * m)) (s.2.getD i 0)) s.2 0)) := by
    show Own _ _ _ _
    rw [mix_zero]
    exact HO1.out.later ((Below.refl _ _).alloc (Nat.le_refl _) _)
  have HBXV : Hid (Box (w1.alloc (.cells #[.slice xa s.1.length xc, .slice (some ⟨g, 0, none⟩) n cap] 31)) (w.heap.size + 1) _ _) := HBX1.alloc _
  have HBTV : Hid (Box (w1.alloc (.cells #[.slice xa s.1.length xc, .slice (some ⟨g, 0, none⟩) n cap] 31)) w1.heap.size _ _) := Box.new w1 (.slice xa s.1.length xc) (.slice (some ⟨g, 0, none⟩) n cap)
  have HBV : Hid (Below w.heap.size w (w1.alloc (.cells #[.slice xa s.1.length xc, .slice (some ⟨g, 0, none⟩) n cap] 31))) := HB1.out.alloc (by omega) _
  have HO0V : Hid (Own (w1.alloc (.cells #[.slice xa s.1.length xc, .slice (some ⟨g, 0, none⟩) n cap] 31)) (w.heap.size + 1 + 1) (.slice xa s.1.length xc) s.1) := HO0.out.later ((Below.refl _ _).alloc (Nat.le_refl _) _)
  generalize (w1.alloc (.cells #[.slice xa s.1.length xc, .slice (some ⟨g, 0, none⟩) n cap] 31)) = V at HOS HBXV HBTV HBV HO0V ⊢
  clear HBX1 HO1 HO0
  go_loopw [6] (fun i w' => ∃ j : Nat, j ≤ n ∧ i = .int .i64 j ∧ Own w' (w.heap.size + 1 + 1) (.slice (some ⟨g, 0, none⟩) n cap) (mix (fun i => (fun y => wrap64 (y * m)) (s.2.getD i 0)) s.2 j) ∧ But g V w') (fun i _ => n - (intOf i).toNat)
  case atStart => exact ⟨0, by omega, rfl, HOS.out, But.refl _ _⟩
  case round =>
    obtain ⟨j, hj, rfl, hO, hbut⟩ := hrel
    have HO3 : Hid (Own wr (w.heap.size + 1 + 1) (.slice (some ⟨g, 0, none⟩) n cap) (mix (fun i => (fun y => wrap64 (y * m)) (s.2.getD i 0)) s.2 j)) := hO
    have HBT3 : Hid (But g V wr) := hbut
    have hct := (hbut.box HBTV.out (by omega)).c1
    have hct0 := (hbut.box HBTV.out (by omega)).c0
    clear hO hbut
    by_cases hlt : j < n
    · obtain ⟨hc, hf, hp⟩ := HO3.out.put (by rw [mix_length]; exact HN.out) j hlt ((fun y => wrap64 (y * m)) (s.2.getD j 0))
      rw [mix_get _ _ _ (by rw [HN.out]; exact hlt)] at hc
      have HP : Hid (Own (wr.setCell ⟨g, j, none⟩ (.int .i64 ((fun y => wrap64 (y * m)) (s.2.getD j 0)))) (w.heap.size + 1 + 1) (.slice (some ⟨g, 0, none⟩) n cap) (mix (fun i => (fun y => wrap64 (y * m)) (s.2.getD i 0)) s.2 (j + 1))) := by
        rw [mix_set (fun i => (fun y => wrap64 (y * m)) (s.2.getD i 0))] at hp
        exact hp
      clear hp
      have hlt0 : (0 : Int) ≤ (j : Int) := by omega
      have hlt1 : (j : Int) < n := by omega
      go_wp2
      go_region
      go_wp2
      go_roundw
      case rel => exact ⟨j + 1, by omega, by go_num, HP.out.drew, (HBT3.out.setCell _).drew⟩
      case measure => simp [intOf]; omega
    · have hj' : j = n := by omega
      subst hj'
      have hbx := HBT3.out.box HBXV.out (by omega)
      have l0 := hbx.c0
      have l1 := hbx.c1
      have m0 := hbx.f 0
      have m1 := hbx.f 1
      have HBS : Hid (Box _ _ _ _) := hbx.set (.slice xa s.1.length xc) (.slice (some ⟨g, 0, none⟩) j cap)
      have HO4 : Hid (Own wr (w.heap.size + 1 + 1) (.slice (some ⟨g, 0, none⟩) j cap) (s.2.map (fun y => wrap64 (y * m)))) := by
        have h1 := HO3.out
        have h2 := mix_map (fun y => wrap64 (y * m)) s.2
        rw [HN.out] at h2
        rw [h2] at h1
        exact h1
      have HO5 : Hid (Own wr (w.heap.size + 1 + 1) (.slice xa s.1.length xc) s.1) := HO0V.out.at fun k hk => HBT3.out.block k (fun e => HOD.out.apart k hk (by rw [e]; rfl))
      have HBE : Hid (Below w.heap.size w wr) := HBT3.out.below HBV.out (by omega)
      clear hbx
      go_wp2
      have hr0 := HBS.out.c0
      have hr1 := HBS.out.c1
      refine bodyPost_ret (v := .agg #[.slice xa s.1.length xc, .slice (some ⟨g, 0, none⟩) j cap]) (by simp [results, Try.results27, go_sem, hr0, hr1]) rfl ⟨_, _, rfl, ?_, ?_⟩
      · have h1 : OwnT wr (w.heap.size + 1 + 1) (.slice xa s.1.length xc) (.slice (some ⟨g, 0, none⟩) j cap) (s.1, s.2.map (fun y => wrap64 (y * m))) := ⟨HO5.out, HO4.out, fun k hk e => HOD.out.apart k hk e⟩
        exact ((h1.setCell _ _ (by simp)).setCell _ _ (by simp)).mono (by omega)
      · exact (HBE.out.setCell (by simp) _).setCell (by simp) _

theorem Ints.shape3 {w : World} {v : Value} {d : List Int} (h : Ints w v d) : ∃ a n c, v = .slice a n c := by
  obtain ⟨a, c, rfl⟩ := h.shape
  exact ⟨_, _, _, rfl⟩
theorem Blk.newer (w : World) (xs : List Int) (B : Nat) (hB : B = w.heap.size) : Blk (w.alloc (.cells (ia xs) 3)) B xs := by
  subst hB
  exact Blk.new w xs
theorem dot_to {a0 a1 b0 b1 : Value} {s t : Ten} {w : World} (x y : Int) (ha : Tens w a0 a1 s) (hb' : Tens w b0 b1 t) (hx : fitE s t = x) (hy : dotV s t = y) :
    Calls Try.prog 26 #[.agg #[a0, a1], .agg #[b0, b1]] w fun e w' => e = .returned (.tuple #[.int .i64 y, .int .i64 x]) ∧ Below w.heap.size w w' := by
  subst hx hy
  exact dot_any ha hb'
theorem eqn_to {v v' : Value} {a b : List Int} {w : World} (x : Bool) (ha : Ints w v a) (hb : Ints w v' b) (hx : (a == b) = x) :
    Calls Try.prog 24 #[v, v'] w fun e w' => e = .returned (.bool x) ∧ ∃ n, w' = w.drewN n := by
  subst hx
  exact eqn_any ha hb

set_option maxHeartbeats 400000 in
theorem heavy2_any {f0 f1 : Value} {T : List Ten} {L : List Int} {w : World} (h0 : TensL w f0 T) (h1 : Ints w f1 L) :
    Calls Try.prog 29 #[.agg #[f0, f1]] w fun e w' => ∃ b, e = .returned (.bool b) ∧ Below w.heap.size w w' := by
  have hb : Below w.heap.size w (w.alloc (.cells #[f0, f1] 25)) := (Below.refl _ _).alloc (Nat.le_refl _) _
  have H0 : Hid (TensL (w.alloc (.cells #[f0, f1] 25)) f0 T) := h0.later hb
  obtain ⟨na, nc, rfl⟩ := h1.shape
  obtain ⟨_, a0, c0, rfl, _⟩ := h0
  have hn := h1.len
  unfold big at hn
  clear h1
  have HB : Hid (Below w.heap.size w (w.alloc (.cells #[.slice a0 T.length c0, .slice na L.length nc] 25))) := hb
  clear hb
  go_enter Try.func29, Try.ntmps29
  go_wp2
  go_quiet (first | (go_at_call 45; exact Calls.quiet_of (tensw_any (H0.out.later (drew_below _)))))
  go_wp2
  go_ret
  exact ⟨_, rfl, Below.drewN HB.out _⟩

theorem lists_nil {w : World} : Calls Try.prog 28 #[.slice none 0 0] w fun e w' => e = .returned (.int .i64 0) ∧ w = w' :=
  lists_any (L := []) ⟨Nat.zero_le _, none, 0, rfl, Nat.le_refl _, fun i hi => by simp at hi⟩
theorem tensw_nil {w : World} : Calls Try.prog 45 #[.slice none 0 0] w fun e w' => e = .returned (.int .i64 0) ∧ ∃ n, w' = w.drewN n :=
  tensw_any (L := []) ⟨Nat.zero_le _, none, 0, rfl, Nat.le_refl _, fun i hi => by simp at hi⟩
end Go.Proofs.Ytgedknmjenbacaa
