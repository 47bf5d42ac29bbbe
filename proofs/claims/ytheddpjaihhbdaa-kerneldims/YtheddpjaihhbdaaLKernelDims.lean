/- KernelDims: Heavy, wakes, its walk. -/
import Derived.Test.YtheddpjaihhbdaaP5
namespace Go.Proofs.Ytheddpjaihhbdaa
set_option linter.unusedVariables false
set_option linter.unusedSimpArgs false
set_option maxRecDepth 100000
open Go.RowKit

set_option maxRecDepth 100000 in
set_option maxHeartbeats 4000000 in
theorem heavy6_any {f0 f1 f2 f3 : Value} {T : List Ten} {N K : List Int} {D : List (List Int)} {w : World} (h0 : TensL w f0 T) (h1 : Ints w f1 N) (h2 : IntsL w f2 D) (h3 : Ints w f3 K) :
    Calls Try.prog 4 #[.agg #[f0, f1, f2, f3]] w fun e w' => ∃ b, e = .returned (.bool b) ∧ (b = false → D.length ≤ 300) ∧ Below w.heap.size w w' := by
  obtain ⟨a0, n0, k0, rfl⟩ := h0.shape3
  obtain ⟨a1, n1, k1, rfl⟩ := h1.shape3
  obtain ⟨a2, n2, k2, rfl⟩ : ∃ a n c, f2 = .slice a n c := by obtain ⟨_, a, c, e, _⟩ := h2; exact ⟨a, _, c, e⟩
  obtain ⟨a3, k3, rfl⟩ := h3.shape
  have hlen := h3.len
  unfold big at hlen
  obtain ⟨kn, hkn⟩ : ∃ x, K.length = x := ⟨_, rfl⟩
  rw [hkn] at h3 hlen ⊢
  have hle : lsF D.length (D.map List.length) ≤ 1048576 + 17592186044416 := by
    refine lsF_le 17592186044416 _ _ (fun a ha => ?_) ?_
    · simp only [List.mem_map] at ha
      obtain ⟨d, hd, rfl⟩ := ha
      obtain ⟨i, hi, rfl⟩ := List.getElem_of_mem hd
      obtain ⟨_, a', c', e, _, hrow⟩ := h2
      obtain ⟨b, off, x, ea, c0, hx⟩ := hrow i hi
      have := hx.len
      unfold big at this
      exact this
    · have := h2.1
      unfold big at this
      omega
  have hge := lsF_ge (D.map List.length) D.length
  obtain ⟨x, hx⟩ : ∃ x, lsF (D.length : Int) (D.map List.length) = x := ⟨_, rfl⟩
  rw [hx] at hle hge
  have HGE : Hid ((D.length : Int) ≤ x) := hge
  have hx0 : 0 ≤ x := by omega
  have HX : Hid (lsF (D.length : Int) (D.map List.length) = x) := hx
  have hb : Below w.heap.size w (w.alloc (.cells #[.slice a0 n0 k0, .slice a1 n1 k1, .slice a2 n2 k2, .slice a3 kn k3] 28)) := Below.push (Below.refl _ _) _
  have HB : Hid (Below w.heap.size w (w.alloc (.cells #[.slice a0 n0 k0, .slice a1 n1 k1, .slice a2 n2 k2, .slice a3 kn k3] 28))) := hb
  have H0 : Hid (TensL (w.alloc (.cells #[.slice a0 n0 k0, .slice a1 n1 k1, .slice a2 n2 k2, .slice a3 kn k3] 28)) (.slice a0 n0 k0) T) := h0.later hb
  have H1 : Hid (Ints (w.alloc (.cells #[.slice a0 n0 k0, .slice a1 n1 k1, .slice a2 n2 k2, .slice a3 kn k3] 28)) (.slice a1 n1 k1) N) := h1.later hb
  have H2 : Hid (IntsL (w.alloc (.cells #[.slice a0 n0 k0, .slice a1 n1 k1, .slice a2 n2 k2, .slice a3 kn k3] 28)) (.slice a2 n2 k2) D) := h2.later hb
  have HLI : Hid (∀ {w : World}, IntsL w (.slice a2 n2 k2) D → Calls Try.prog 13 #[.slice a2 n2 k2] w fun e w' => e = .returned (.int .i64 x) ∧ w = w') := by
    intro w h
    have := lists_any h
    rw [hx] at this
    exact this
  clear h0 h1 h2 h3 hb hge hx hkn
  have hw : IntKind.i64.wrap (x + (kn : Int)) = x + (kn : Int) := wrap_small _ (by omega) (by omega)
  by_cases hgt : 300 < x + kn
  · have hd : decide ((300 : Int) < x + kn) = true := by simpa using hgt
    go_enter Try.func4, Try.ntmps4
    go_wp2_with fail
    go_quiet ((go_at_call 13; exact Calls.quiet_of_same ((HLI.out (H2.out.later (drew_below _))).mono (fun _ _ h => ⟨h.1, h.2.symm⟩))))
    go_wp2
    go_ret
    exact ⟨_, rfl, (fun h => by simp at h), Below.drewN HB.out _⟩
  · have hd : decide ((300 : Int) < x + kn) = false := by simpa using hgt
    have HD : Hid (D.length ≤ 300) := by have := HGE.out; show _ ≤ _; omega
    go_enter Try.func4, Try.ntmps4
    go_wp2_with fail
    obtain ⟨U, hU⟩ : ∃ U, U = w.alloc (.cells #[.slice a0 n0 k0, .slice a1 n1 k1, .slice a2 n2 k2, .slice a3 kn k3] 28) := ⟨_, rfl⟩
    rw [← hU] at HB H0 H1 H2 ⊢
    obtain ⟨B, hB⟩ : ∃ B, w.heap.size = B := ⟨_, rfl⟩
    have c0 : U.cell? ⟨B, 0, none⟩ = some (.slice a0 n0 k0) := by rw [hU, ← hB]; simp
    have c1 : U.cell? ⟨B, 1, none⟩ = some (.slice a1 n1 k1) := by rw [hU, ← hB]; simp
    have c2 : U.cell? ⟨B, 2, none⟩ = some (.slice a2 n2 k2) := by rw [hU, ← hB]; simp
    have c3 : U.cell? ⟨B, 3, none⟩ = some (.slice a3 kn k3) := by rw [hU, ← hB]; simp
    clear hU
    rw [hB]
    clear hB
    go_region_held3 (fun w' => w'.cell? ⟨B, 0, none⟩ = some (.slice a0 n0 k0) ∧ w'.cell? ⟨B, 1, none⟩ = some (.slice a1 n1 k1) ∧ w'.cell? ⟨B, 2, none⟩ = some (.slice a2 n2 k2) ∧ w'.cell? ⟨B, 3, none⟩ = some (.slice a3 kn k3)) (go_keep)
      (first
        | (go_at_call 13; refine (HLI.out ?_).mono ?_; exact H2.out.later (Below.refl _ _).drew; rintro e w2 ⟨rfl, rfl⟩)
        | (go_at_call 14; refine (heavy2_bd (T := T) (L := N) ?_ ?_).mono ?_; exact H0.out.later (Below.refl _ _).drew; exact H1.out.later (Below.refl _ _).drew; rintro e w2 ⟨b, rfl, _, hb2⟩; have HB2 : Hid (Below w.heap.size w w2) := Below.after (Below.after HB.out (Below.refl _ _).drew) hb2; have HU2 : Below U.heap.size U w2 := Below.after (Below.refl _ _).drew hb2; have d0 := cell_later HU2 c0; have d1 := cell_later HU2 c1; have d2 := cell_later HU2 c2; have d3 := cell_later HU2 c3; clear hb2 HU2))
    go_wp2
    go_ret
    exact ⟨_, rfl, fun _ => HD.out, HB2.out⟩
set_option maxRecDepth 100000 in
set_option maxHeartbeats 4000000 in
theorem kwakes (w : World) : Calls Try.prog 12 #[] w fun e w' => e = .returned (.bool true) ∧ Below w.heap.size w w' := by
  go_enter Try.func12, Try.ntmps12
  go_wp2_with fail
  have HO1 : Hid (Ints (w.alloc (.cells #[.int .i64 2] 3)) (.slice (some ⟨w.heap.size, 0, none⟩) 1 1) [2]) := (Blk.new w [2]).ints 1 1 rfl (Nat.le_refl _) (by decide)
  have HB0 : Hid (Below w.heap.size w (w.alloc (.cells #[.int .i64 2] 3))) := Below.push (Below.refl _ _) _
  refine (do_any (d := [2]) (L := []) 3 7 HO1.out (TensL.none0 _)).mono ?_
  rw [show doE 3 7 [2] [] = 0 from by decide +kernel, show doR 3 7 [2] [] = ([2], [7, 7]) from by decide +kernel]
  rintro e w1 ⟨x0, x1, rfl, ho, hb1⟩
  obtain ⟨xa, xn, xc, rfl⟩ := ho.dims.ints.shape3
  obtain ⟨ya, yn, yc, rfl⟩ := ho.data.ints.shape3
  have HT : Hid (TB (w1.alloc (.cells #[.slice xa xn xc, .slice ya yn yc] 31)) w1.heap.size (.slice xa xn xc) (.slice ya yn yc) ([2], [7, 7])) := ⟨Box.new _ _ _, ho.tens.later (Below.push (Below.refl _ _) _)⟩
  have HB1 : Hid (Below w.heap.size w (w1.alloc (.cells #[.slice xa xn xc, .slice ya yn yc] 31))) := Below.push (Below.after HB0.out hb1) _
  clear ho hb1
  go_upto_region 2 with fail
  obtain ⟨b1, hb1⟩ : ∃ b, w1.heap.size = b := ⟨_, rfl⟩
  rw [hb1] at HT ⊢
  generalize (w1.alloc (.cells #[.slice xa xn xc, .slice ya yn yc] 31)) = U at HT HB1 ⊢
  clear hb1
  go_wp2_with fail
  have HL : Hid (IntsL (((U.alloc (.cells #[.int .i64 2, .int .i64 3] 3)).alloc (.cells #[.int .i64 3, .int .i64 4] 3)).alloc (.cells #[.slice (some ⟨U.heap.size, 0, none⟩) 2 2, .slice (some ⟨U.heap.size + 1, 0, none⟩) 2 2] 23)) (.slice (some ⟨U.heap.size + 1 + 1, 0, none⟩) 2 2) [[2, 3], [3, 4]]) := by
    have hh : (((U.alloc (.cells #[.int .i64 2, .int .i64 3] 3)).alloc (.cells #[.int .i64 3, .int .i64 4] 3)).alloc (.cells #[.slice (some ⟨U.heap.size, 0, none⟩) 2 2, .slice (some ⟨U.heap.size + 1, 0, none⟩) 2 2] 23)).heap[U.heap.size + 1 + 1]? = some (.cells #[.slice (some ⟨U.heap.size, 0, none⟩) 2 2, .slice (some ⟨U.heap.size + 1, 0, none⟩) 2 2] 23 (0, 0)) := by
      have := heap_alloc_new ((U.alloc (.cells #[.int .i64 2, .int .i64 3] 3)).alloc (.cells #[.int .i64 3, .int .i64 4] 3)) (.cells #[.slice (some ⟨U.heap.size, 0, none⟩) 2 2, .slice (some ⟨U.heap.size + 1, 0, none⟩) 2 2] 23)
      simpa using this
    have k0 : Ints (((U.alloc (.cells #[.int .i64 2, .int .i64 3] 3)).alloc (.cells #[.int .i64 3, .int .i64 4] 3)).alloc (.cells #[.slice (some ⟨U.heap.size, 0, none⟩) 2 2, .slice (some ⟨U.heap.size + 1, 0, none⟩) 2 2] 23)) (.slice (some ⟨U.heap.size, 0, none⟩) 2 2) [2, 3] := (((Blk.new U [2, 3]).alloc _).alloc _).ints 2 2 rfl (Nat.le_refl _) (by decide)
    have k1 : Ints (((U.alloc (.cells #[.int .i64 2, .int .i64 3] 3)).alloc (.cells #[.int .i64 3, .int .i64 4] 3)).alloc (.cells #[.slice (some ⟨U.heap.size, 0, none⟩) 2 2, .slice (some ⟨U.heap.size + 1, 0, none⟩) 2 2] 23)) (.slice (some ⟨U.heap.size + 1, 0, none⟩) 2 2) [3, 4] := by
      have h := ((Blk.new (U.alloc (.cells #[.int .i64 2, .int .i64 3] 3)) [3, 4]).alloc (.cells #[.slice (some ⟨U.heap.size, 0, none⟩) 2 2, .slice (some ⟨U.heap.size + 1, 0, none⟩) 2 2] 23)).ints 2 2 rfl (Nat.le_refl _) (by decide)
      simp only [World.size_alloc] at h
      exact h
    refine ⟨by simp [big], _, 2, rfl, Nat.le_refl _, fun q hq => ?_⟩
    have h0 : q = 0 ∨ q = 1 := by simp at hq; omega
    rcases h0 with rfl | rfl
    · exact ⟨_, 0, _, rfl, by rw [cell_of_row _ _ _ _ 23 (0, 0) hh]; rfl, k0⟩
    · exact ⟨_, 0, _, rfl, by rw [cell_of_row _ _ _ _ 23 (0, 0) hh]; rfl, k1⟩
  have HB2 : Hid (Below U.heap.size U (((U.alloc (.cells #[.int .i64 2, .int .i64 3] 3)).alloc (.cells #[.int .i64 3, .int .i64 4] 3)).alloc (.cells #[.slice (some ⟨U.heap.size, 0, none⟩) 2 2, .slice (some ⟨U.heap.size + 1, 0, none⟩) 2 2] 23))) := Below.push (Below.push (Below.push (Below.refl _ _) _) _) _
  refine (dims_any (d := []) (L := [[2, 3], [3, 4]]) 9 0 (Ints.nil _) HL.out (by decide)).mono ?_
  rw [show diE 9 0 [] [[2, 3], [3, 4]] = 0 from by decide +kernel, show diR 9 0 [] [[2, 3], [3, 4]] = [2, 4] from by decide +kernel]
  rintro e w2 ⟨x, rfl, ho, hb2⟩
  obtain ⟨za, zn, zc, rfl⟩ := ho.ints.shape3
  have HZ : Hid (Ints w2 (.slice za zn zc) [2, 4]) := ho.ints
  have HB3 : Hid (Below U.heap.size U w2) := Below.after HB2.out hb2
  have HT3 : Hid (TB w2 b1 (.slice xa xn xc) (.slice ya yn yc) ([2], [7, 7])) := HT.out.later HB3.out
  clear ho hb2 HB2 HL
  have c0 := HT3.out.box.c0
  have c1 := HT3.out.box.c1
  go_wp2_with (go_at_call 7; refine (num_any _ _).mono ?_; rintro e w' ⟨rfl, rfl⟩)
  refine (eqn_to true (a := [7, 7]) (b := [7, 7]) (HT3.out.ten.2.later (Below.push (Below.refl _ _) _)) ((Blk.new w2 [7, 7]).ints 2 2 rfl (Nat.le_refl _) (by decide)) rfl).mono ?_
  rintro e w3 ⟨rfl, n3, e3⟩
  have hb3 : Below w2.heap.size w2 w3 := by rw [e3]; exact Below.drewN (Below.push (Below.refl _ _) _) _
  have HZ3 : Hid (Ints w3 (.slice za zn zc) [2, 4]) := HZ.out.later hb3
  have HB4 : Hid (Below w.heap.size w w3) := Below.after HB1.out (Below.after HB3.out hb3)
  clear hb3 e3 c0 c1
  go_wp2_with (go_at_call 7; refine (num_any _ _).mono ?_; rintro e w' ⟨rfl, rfl⟩)
  refine (eqn_to true (a := [2, 4]) (b := [2, 4]) (HZ3.out.later (Below.push (Below.refl _ _) _)) ((Blk.new w3 [2, 4]).ints 2 2 rfl (Nat.le_refl _) (by decide)) rfl).mono ?_
  rintro e w4 ⟨rfl, n4, e4⟩
  have HB5 : Hid (Below w.heap.size w w4) := by show Below _ _ _; rw [e4]; exact Below.drewN (Below.push HB4.out _) _
  clear e4
  go_wp2
  go_ret
  exact ⟨rfl, HB5.out⟩
set_option maxRecDepth 1000000 in
set_option maxHeartbeats 16000000 in
theorem kernelDims_walk {f0 f1 f2 f3 : Value} {T : List Ten} {N K : List Int} {D : List (List Int)} {w : World} (hT : TensL w f0 T) (hN : Ints w f1 N ∧ N.length ≤ 17592186043904) (hD : IntsL w f2 D ∧ Nil0 f2) (hK : Ints w f3 K ∧ K.length ≤ 17592186043904) :
    Calls Try.prog 3 #[.agg #[f0, f1, f2, f3]] w fun e w' => e = .returned (.bool true) ∧ Below w.heap.size w w' := by
  obtain ⟨pT, nT, cT, rfl⟩ := hT.shape3
  obtain ⟨a1, n1, c1, rfl⟩ := hN.1.shape3
  obtain ⟨pD, nD, cD, rfl⟩ : ∃ a n c, f2 = .slice a n c := by obtain ⟨⟨_, a, c, e, _⟩, _⟩ := hD; exact ⟨a, _, c, e⟩
  obtain ⟨a3, n3, c3, rfl⟩ := hK.1.shape3
  have hcT : nT ≤ cT ∧ nT ≤ 17592186044416 := by
    obtain ⟨h0, a, c, e, h, _⟩ := hT
    simp only [Value.slice.injEq] at e
    unfold big at h0
    omega
  have hDb : nD ≤ 17592186044416 := by
    obtain ⟨⟨h0, a, c, e, h, _⟩, _⟩ := hD
    simp only [Value.slice.injEq] at e
    unfold big at h0
    omega
  have hb : Below w.heap.size w (w.alloc (.cells #[.slice pT nT cT, .slice a1 n1 c1, .slice pD nD cD, .slice a3 n3 c3] 28)) := Below.push (Below.refl _ _) _
  have HT : Hid (TensL (w.alloc (.cells #[.slice pT nT cT, .slice a1 n1 c1, .slice pD nD cD, .slice a3 n3 c3] 28)) (.slice pT nT cT) T) := hT.later hb
  have HN : Hid (Ints (w.alloc (.cells #[.slice pT nT cT, .slice a1 n1 c1, .slice pD nD cD, .slice a3 n3 c3] 28)) (.slice a1 n1 c1) N) := hN.1.later hb
  have HD : Hid (IntsL (w.alloc (.cells #[.slice pT nT cT, .slice a1 n1 c1, .slice pD nD cD, .slice a3 n3 c3] 28)) (.slice pD nD cD) D) := hD.1.later hb
  have HK : Hid (Ints (w.alloc (.cells #[.slice pT nT cT, .slice a1 n1 c1, .slice pD nD cD, .slice a3 n3 c3] 28)) (.slice a3 n3 c3) K) := hK.1.later hb
  have HB : Hid (Below w.heap.size w (w.alloc (.cells #[.slice pT nT cT, .slice a1 n1 c1, .slice pD nD cD, .slice a3 n3 c3] 28))) := hb
  have HBD : Hid ((nT ≤ cT ∧ nT ≤ 17592186044416) ∧ nD ≤ 17592186044416) := ⟨hcT, hDb⟩
  clear hT hN hD hK hb hcT hDb
  obtain ⟨U, hU⟩ : ∃ U, U = (w.alloc (.cells #[.slice pT nT cT, .slice a1 n1 c1, .slice pD nD cD, .slice a3 n3 c3] 28)) := ⟨_, rfl⟩
  obtain ⟨B, hB⟩ : ∃ B, w.heap.size = B := ⟨_, rfl⟩
  have h0 : U.cell? ⟨B, 0, none⟩ = some (.slice pT nT cT) := by rw [hU, ← hB]; simp
  have h2 : U.cell? ⟨B, 2, none⟩ = some (.slice pD nD cD) := by rw [hU, ← hB]; simp
  have HC : Hid (U.cell? ⟨B, 0, none⟩ = some (.slice pT nT cT) ∧ U.cell? ⟨B, 2, none⟩ = some (.slice pD nD cD)) := ⟨h0, h2⟩
  clear h0 h2
  rw [← hU] at HT HN HD HK HB
  go_enter Try.func3, Try.ntmps3
  go_wp2_with fail
  rw [← hU]
  clear hU hB
  refine (heavy6_any HT.out HN.out HD.out HK.out).mono ?_
  rintro e w2 ⟨b, rfl, _, hb2⟩
  have HB2 : Hid (Below U.heap.size U w2) := hb2
  clear hb2
  cases b with
  | true =>
    go_wp2
    go_ret
    exact ⟨rfl, Below.after HB.out HB2.out⟩
  | false =>
    go_wp2
    refine dloop1 (W := w2) HBD.out.1.1 HBD.out.1.2 HBD.out.2 (HT.out.later HB2.out) (cell_later HB2.out HC.out.1) (cell_later HB2.out HC.out.2) (HD.out.later HB2.out) ?_ _ _ ⟨rfl, rfl, rfl, rfl⟩ (Below.refl _ _)
    intro a9 w9 y9 hf9 hb9
    obtain ⟨G9, hg9, e9⟩ := act125 a9 hf9.d hf9.s
    obtain ⟨hz1, hz2, g1, g3⟩ := hf9
    clear hz1 hz2 g1 g3
    subst e9
    clear hg9
    have HB9 : Hid (Below w.heap.size w w9) := Below.after HB.out (Below.after HB2.out hb9)
    clear hb9
    go_wp2_with fail
    refine (kwakes _).mono ?_
    rintro e w10 ⟨rfl, hb10⟩
    have HB10 : Hid (Below w.heap.size w w10) := Below.after HB9.out hb10
    clear hb10
    go_wp2
    go_ret
    exact ⟨rfl, HB10.out⟩
end Go.Proofs.Ytheddpjaihhbdaa
