/- kinds: Heavy, wakes, and the walk. -/
import Derived.Test.YtheddpjaihhbdacGreatKB
namespace Go.Proofs.YtheddpjaihhbdacGreat
set_option linter.unusedVariables false
set_option linter.unusedSimpArgs false
set_option maxRecDepth 100000
open Go.RowKit

set_option maxRecDepth 100000 in
set_option maxHeartbeats 4000000 in
theorem heavy6_any {f0 f1 f2 f3 : Value} {T : List Ten} {N K : List Int} {D : List (List Int)} {w : World} (h0 : TensL w f0 T) (h1 : Ints w f1 N) (h2 : IntsL w f2 D) (h3 : Ints w f3 K) :
    Calls Tryz.prog 10 #[.agg #[f0, f1, f2, f3]] w fun e w' => ∃ b, e = .returned (.bool b) ∧ (b = false → D.length ≤ 300) ∧ Below w.heap.size w w' := by
  obtain ⟨a0, n0, k0, rfl⟩ := h0.shape3
  obtain ⟨a1, n1, k1, rfl⟩ := h1.shape3
  obtain ⟨a2, n2, k2, rfl⟩ : ∃ a n c, f2 = .slice a n c := by obtain ⟨_, a, c, e, _⟩ := h2; exact ⟨a, _, c, e⟩
  obtain ⟨a3, k3, rfl⟩ := h3.shape
  have hlen := h3.len
  unfold big at hlen
  obtain ⟨kn, hkn⟩ : ∃ x, K.length = x := ⟨_, rfl⟩
  rw [hkn] at h3 hlen ⊢
  have hle : lsF D.length (D.map List.length) ≤ 1048576 + 17592186044416 := by
    refine lsF_le 17592186044416 _ _ (fun a ha => ?_) ?_
    · simp only [List.mem_map] at ha
      obtain ⟨d, hd, rfl⟩ := ha
      obtain ⟨i, hi, rfl⟩ := List.getElem_of_mem hd
      obtain ⟨_, a', c', e, _, hrow⟩ := h2
      obtain ⟨b, off, x, ea, c0, hx⟩ := hrow i hi
      have := hx.len
      unfold big at this
      exact this
    · have := h2.1
      unfold big at this
      omega
  have hge := lsF_ge (D.map List.length) D.length
  obtain ⟨x, hx⟩ : ∃ x, lsF (D.length : Int) (D.map List.length) = x := ⟨_, rfl⟩
  rw [hx] at hle hge
  have HGE : Hid ((D.length : Int) ≤ x) := hge
  have hx0 : 0 ≤ x := by omega
  have HX : Hid (lsF (D.length : Int) (D.map List.length) = x) := hx
  have hb : Below w.heap.size w (w.alloc (.cells #[.slice a0 n0 k0, .slice a1 n1 k1, .slice a2 n2 k2, .slice a3 kn k3] 28)) := Below.push (Below.refl _ _) _
  have HB : Hid (Below w.heap.size w (w.alloc (.cells #[.slice a0 n0 k0, .slice a1 n1 k1, .slice a2 n2 k2, .slice a3 kn k3] 28))) := hb
  have H0 : Hid (TensL (w.alloc (.cells #[.slice a0 n0 k0, .slice a1 n1 k1, .slice a2 n2 k2, .slice a3 kn k3] 28)) (.slice a0 n0 k0) T) := h0.later hb
  have H1 : Hid (Ints (w.alloc (.cells #[.slice a0 n0 k0, .slice a1 n1 k1, .slice a2 n2 k2, .slice a3 kn k3] 28)) (.slice a1 n1 k1) N) := h1.later hb
  have H2 : Hid (IntsL (w.alloc (.cells #[.slice a0 n0 k0, .slice a1 n1 k1, .slice a2 n2 k2, .slice a3 kn k3] 28)) (.slice a2 n2 k2) D) := h2.later hb
  have HLI : Hid (∀ {w : World}, IntsL w (.slice a2 n2 k2) D → Calls Tryz.prog 14 #[.slice a2 n2 k2] w fun e w' => e = .returned (.int .i64 x) ∧ w = w') := by
    intro w h
    have := lists_any h
    rw [hx] at this
    exact this
  clear h0 h1 h2 h3 hb hge hx hkn
  have hw : IntKind.i64.wrap (x + (kn : Int)) = x + (kn : Int) := wrap_small _ (by omega) (by omega)
  by_cases hgt : 300 < x + kn
  · have hd : decide ((300 : Int) < x + kn) = true := by simpa using hgt
    go_enter Tryz.func10, Tryz.ntmps10
    go_wp2_with fail
    go_quiet ((go_at_call 14; exact Calls.quiet_of_same ((HLI.out (H2.out.later (drew_below _))).mono (fun _ _ h => ⟨h.1, h.2.symm⟩))))
    go_wp2
    go_ret
    exact ⟨_, rfl, (fun h => by simp at h), Below.drewN HB.out _⟩
  · have hd : decide ((300 : Int) < x + kn) = false := by simpa using hgt
    have HD : Hid (D.length ≤ 300) := by have := HGE.out; show _ ≤ _; omega
    go_enter Tryz.func10, Tryz.ntmps10
    go_wp2_with fail
    obtain ⟨U, hU⟩ : ∃ U, U = w.alloc (.cells #[.slice a0 n0 k0, .slice a1 n1 k1, .slice a2 n2 k2, .slice a3 kn k3] 28) := ⟨_, rfl⟩
    rw [← hU] at HB H0 H1 H2 ⊢
    obtain ⟨B, hB⟩ : ∃ B, w.heap.size = B := ⟨_, rfl⟩
    have c0 : U.cell? ⟨B, 0, none⟩ = some (.slice a0 n0 k0) := by rw [hU, ← hB]; simp
    have c1 : U.cell? ⟨B, 1, none⟩ = some (.slice a1 n1 k1) := by rw [hU, ← hB]; simp
    have c2 : U.cell? ⟨B, 2, none⟩ = some (.slice a2 n2 k2) := by rw [hU, ← hB]; simp
    have c3 : U.cell? ⟨B, 3, none⟩ = some (.slice a3 kn k3) := by rw [hU, ← hB]; simp
    clear hU
    rw [hB]
    clear hB
    go_region_held3 (fun w' => w'.cell? ⟨B, 0, none⟩ = some (.slice a0 n0 k0) ∧ w'.cell? ⟨B, 1, none⟩ = some (.slice a1 n1 k1) ∧ w'.cell? ⟨B, 2, none⟩ = some (.slice a2 n2 k2) ∧ w'.cell? ⟨B, 3, none⟩ = some (.slice a3 kn k3)) (go_keep)
      (first
        | (go_at_call 14; refine (HLI.out ?_).mono ?_; exact H2.out.later (Below.refl _ _).drew; rintro e w2 ⟨rfl, rfl⟩)
        | (go_at_call 15; refine (heavy2_bd (T := T) (L := N) ?_ ?_).mono ?_; exact H0.out.later (Below.refl _ _).drew; exact H1.out.later (Below.refl _ _).drew; rintro e w2 ⟨b, rfl, _, hb2⟩; have HB2 : Hid (Below w.heap.size w w2) := Below.after (Below.after HB.out (Below.refl _ _).drew) hb2; have HU2 : Below U.heap.size U w2 := Below.after (Below.refl _ _).drew hb2; have d0 := cell_later HU2 c0; have d1 := cell_later HU2 c1; have d2 := cell_later HU2 c2; have d3 := cell_later HU2 c3; clear hb2 HU2))
    go_wp2
    go_ret
    exact ⟨_, rfl, fun _ => HD.out, HB2.out⟩
theorem lit2_row (U : World) :
    Row ((U.alloc (.cells #[.int .i64 2, .int .i64 3] 3)).alloc (.cells #[.slice none 0 0, .slice (some ⟨U.heap.size, 0, none⟩) 2 2] 23)) U.heap.size
      (.slice (some ⟨U.heap.size + 1, 0, none⟩) 2 2) [[], [2, 3]] [.slice none 0 0, .slice (some ⟨U.heap.size, 0, none⟩) 2 2] := by
  refine ⟨?_, ?_⟩
  · have := World.ownsRow_lit (base := U.heap.size) (e := 23) (size := 1) (U.alloc (.cells #[.int .i64 2, .int .i64 3] 3)) #[.slice none 0 0, .slice (some ⟨U.heap.size, 0, none⟩) 2 2] 2 (by simp) (by decide) rfl
    simpa using this
  · intro i hi
    have k1 : Ints ((U.alloc (.cells #[.int .i64 2, .int .i64 3] 3)).alloc (.cells #[.slice none 0 0, .slice (some ⟨U.heap.size, 0, none⟩) 2 2] 23)) (.slice (some ⟨U.heap.size, 0, none⟩) 2 2) [2, 3] :=
      ((Blk.new U [2, 3]).alloc _).ints 2 2 rfl (Nat.le_refl _) (by decide)
    have h3 : i = 0 ∨ i = 1 := by simp at hi; omega
    rcases h3 with rfl | rfl
    · exact ⟨_, rfl, Ints.nil _, fun h => by simp at h⟩
    · exact ⟨_, rfl, k1, fun _ => by simp [Value.ownBlock]⟩
theorem Row.appK {w w' : World} {B m : Nat} {v v' : Value} {L E : List (List Int)} {xs news : List Value} (h : Row w B v L xs) (hm : m = E.length) (he : ∀ i (h : i < E.length), ∃ y, news[i]? = some y ∧ Elt w v.ownBlock y E[i])
    (hown : w'.ownsRow B 23 1 v' (L.length + m) (xs ++ news)) (hg : w.grownBy w' v.ownBlock) (H : Nat) (hH : w.heap.size = H) (hat : v'.ownBlock = v.ownBlock ∨ v'.ownBlock = some H) : Row w' B v' (L ++ E) (xs ++ news) := by
  subst hH
  exact h.app hm he hown hg hat
structure FrKA (pk pd : Option Addr) (B nk ck nd cd : Nat) (a : Act) : Prop where
  d : a.defers = []
  s : a.tmps.size = 170
  f1 : a.tmps.getD 1 undef = .slice pk nk ck
  f2 : a.tmps.getD 2 undef = .pointer (some ⟨B, 0, none⟩)
  f5 : a.tmps.getD 5 undef = .slice pd nd cd
structure FrKB (pk pd pn : Option Addr) (B nk ck nd cd nn cn : Nat) (a : Act) : Prop where
  d : a.defers = []
  s : a.tmps.size = 170
  f1 : a.tmps.getD 1 undef = .slice pk nk ck
  f2 : a.tmps.getD 2 undef = .pointer (some ⟨B, 0, none⟩)
  f5 : a.tmps.getD 5 undef = .slice pd nd cd
  f6 : a.tmps.getD 6 undef = .slice pn nn cn
set_option maxRecDepth 100000 in
set_option maxHeartbeats 4000000 in
theorem kwakes (w : World) : Calls Tryz.prog 13 #[] w fun e w' => e = .returned (.bool true) ∧ Below w.heap.size w w' := by
  go_enter Tryz.func13, Tryz.ntmps13
  go_wp2_with fail
  have HO1 : Hid (Ints (w.alloc (.cells #[.int .i64 2] 3)) (.slice (some ⟨w.heap.size, 0, none⟩) 1 1) [2]) := (Blk.new w [2]).ints 1 1 rfl (Nat.le_refl _) (by decide)
  have HB0 : Hid (Below w.heap.size w (w.alloc (.cells #[.int .i64 2] 3))) := Below.push (Below.refl _ _) _
  refine (do_any (d := [2]) (L := []) 3 7 HO1.out (TensL.none0 _)).mono ?_
  rw [show doE 3 7 [2] [] = 0 from by decide +kernel, show doR 3 7 [2] [] = ([2], [7, 7]) from by decide +kernel]
  rintro e w1 ⟨x0, x1, rfl, ho, hb1⟩
  obtain ⟨xa, xn, xc, rfl⟩ := ho.dims.ints.shape3
  obtain ⟨ya, yn, yc, rfl⟩ := ho.data.ints.shape3
  have HT : Hid (TB (w1.alloc (.cells #[.slice xa xn xc, .slice ya yn yc] 34)) w1.heap.size (.slice xa xn xc) (.slice ya yn yc) ([2], [7, 7])) := ⟨Box.new _ _ _, ho.tens.later (Below.push (Below.refl _ _) _)⟩
  have HB1 : Hid (Below w.heap.size w (w1.alloc (.cells #[.slice xa xn xc, .slice ya yn yc] 34))) := Below.push (Below.after HB0.out hb1) _
  clear ho hb1
  go_upto_region 2 with fail
  obtain ⟨b1, hb1⟩ : ∃ b, w1.heap.size = b := ⟨_, rfl⟩
  rw [hb1] at HT ⊢
  generalize (w1.alloc (.cells #[.slice xa xn xc, .slice ya yn yc] 34)) = U at HT HB1 ⊢
  clear hb1
  go_wp2_with fail
  have HL : Hid (IntsL (((U.alloc (.cells #[.int .i64 2, .int .i64 3] 3)).alloc (.cells #[.int .i64 3, .int .i64 4] 3)).alloc (.cells #[.slice (some ⟨U.heap.size, 0, none⟩) 2 2, .slice (some ⟨U.heap.size + 1, 0, none⟩) 2 2] 23)) (.slice (some ⟨U.heap.size + 1 + 1, 0, none⟩) 2 2) [[2, 3], [3, 4]]) := by
    have hh : (((U.alloc (.cells #[.int .i64 2, .int .i64 3] 3)).alloc (.cells #[.int .i64 3, .int .i64 4] 3)).alloc (.cells #[.slice (some ⟨U.heap.size, 0, none⟩) 2 2, .slice (some ⟨U.heap.size + 1, 0, none⟩) 2 2] 23)).heap[U.heap.size + 1 + 1]? = some (.cells #[.slice (some ⟨U.heap.size, 0, none⟩) 2 2, .slice (some ⟨U.heap.size + 1, 0, none⟩) 2 2] 23 (0, 0)) := by
      have := heap_alloc_new ((U.alloc (.cells #[.int .i64 2, .int .i64 3] 3)).alloc (.cells #[.int .i64 3, .int .i64 4] 3)) (.cells #[.slice (some ⟨U.heap.size, 0, none⟩) 2 2, .slice (some ⟨U.heap.size + 1, 0, none⟩) 2 2] 23)
      simpa using this
    have k0 : Ints (((U.alloc (.cells #[.int .i64 2, .int .i64 3] 3)).alloc (.cells #[.int .i64 3, .int .i64 4] 3)).alloc (.cells #[.slice (some ⟨U.heap.size, 0, none⟩) 2 2, .slice (some ⟨U.heap.size + 1, 0, none⟩) 2 2] 23)) (.slice (some ⟨U.heap.size, 0, none⟩) 2 2) [2, 3] := (((Blk.new U [2, 3]).alloc _).alloc _).ints 2 2 rfl (Nat.le_refl _) (by decide)
    have k1 : Ints (((U.alloc (.cells #[.int .i64 2, .int .i64 3] 3)).alloc (.cells #[.int .i64 3, .int .i64 4] 3)).alloc (.cells #[.slice (some ⟨U.heap.size, 0, none⟩) 2 2, .slice (some ⟨U.heap.size + 1, 0, none⟩) 2 2] 23)) (.slice (some ⟨U.heap.size + 1, 0, none⟩) 2 2) [3, 4] := by
      have h := ((Blk.new (U.alloc (.cells #[.int .i64 2, .int .i64 3] 3)) [3, 4]).alloc (.cells #[.slice (some ⟨U.heap.size, 0, none⟩) 2 2, .slice (some ⟨U.heap.size + 1, 0, none⟩) 2 2] 23)).ints 2 2 rfl (Nat.le_refl _) (by decide)
      simp only [World.size_alloc] at h
      exact h
    refine ⟨by simp [big], _, 2, rfl, Nat.le_refl _, fun q hq => ?_⟩
    have h0 : q = 0 ∨ q = 1 := by simp at hq; omega
    rcases h0 with rfl | rfl
    · exact ⟨_, 0, _, rfl, by rw [cell_of_row _ _ _ _ 23 (0, 0) hh]; rfl, k0⟩
    · exact ⟨_, 0, _, rfl, by rw [cell_of_row _ _ _ _ 23 (0, 0) hh]; rfl, k1⟩
  have HB2 : Hid (Below U.heap.size U (((U.alloc (.cells #[.int .i64 2, .int .i64 3] 3)).alloc (.cells #[.int .i64 3, .int .i64 4] 3)).alloc (.cells #[.slice (some ⟨U.heap.size, 0, none⟩) 2 2, .slice (some ⟨U.heap.size + 1, 0, none⟩) 2 2] 23))) := Below.push (Below.push (Below.push (Below.refl _ _) _) _) _
  refine (dims_any (d := []) (L := [[2, 3], [3, 4]]) 9 0 (Ints.nil _) HL.out (by decide)).mono ?_
  rw [show diE 9 0 [] [[2, 3], [3, 4]] = 0 from by decide +kernel, show diR 9 0 [] [[2, 3], [3, 4]] = [2, 4] from by decide +kernel]
  rintro e w2 ⟨x, rfl, ho, hb2⟩
  obtain ⟨za, zn, zc, rfl⟩ := ho.ints.shape3
  have HZ : Hid (Ints w2 (.slice za zn zc) [2, 4]) := ho.ints
  have HB3 : Hid (Below U.heap.size U w2) := Below.after HB2.out hb2
  have HT3 : Hid (TB w2 b1 (.slice xa xn xc) (.slice ya yn yc) ([2], [7, 7])) := HT.out.later HB3.out
  clear ho hb2 HB2 HL
  have c0 := HT3.out.box.c0
  have c1 := HT3.out.box.c1
  go_wp2_with (go_at_call 25; refine (num_any _ _).mono ?_; rintro e w' ⟨rfl, rfl⟩)
  refine (eqn_to true (a := [7, 7]) (b := [7, 7]) (HT3.out.ten.2.later (Below.push (Below.refl _ _) _)) ((Blk.new w2 [7, 7]).ints 2 2 rfl (Nat.le_refl _) (by decide)) rfl).mono ?_
  rintro e w3 ⟨rfl, n3, e3⟩
  have hb3 : Below w2.heap.size w2 w3 := by rw [e3]; exact Below.drewN (Below.push (Below.refl _ _) _) _
  have HZ3 : Hid (Ints w3 (.slice za zn zc) [2, 4]) := HZ.out.later hb3
  have HB4 : Hid (Below w.heap.size w w3) := Below.after HB1.out (Below.after HB3.out hb3)
  clear hb3 e3 c0 c1
  go_wp2_with (go_at_call 25; refine (num_any _ _).mono ?_; rintro e w' ⟨rfl, rfl⟩)
  refine (eqn_to true (a := [2, 4]) (b := [2, 4]) (HZ3.out.later (Below.push (Below.refl _ _) _)) ((Blk.new w3 [2, 4]).ints 2 2 rfl (Nat.le_refl _) (by decide)) rfl).mono ?_
  rintro e w4 ⟨rfl, n4, e4⟩
  have HB5 : Hid (Below w.heap.size w w4) := by show Below _ _ _; rw [e4]; exact Below.drewN (Below.push HB4.out _) _
  clear e4
  go_wp2
  go_ret
  exact ⟨rfl, HB5.out⟩
set_option maxRecDepth 1000000 in
set_option maxHeartbeats 16000000 in
theorem kinds_any {f0 f1 f2 f3 vk : Value} {T : List Ten} {N K ks : List Int} {D : List (List Int)} {w : World} (hT : TensL w f0 T) (hN : Ints w f1 N) (hNl : N.length ≤ 17592186043904) (hD : IntsL w f2 D) (hD0 : Nil0 f2) (hK : Ints w f3 K) (hks : Ints w vk ks) :
    Calls Tryz.prog 9 #[.agg #[f0, f1, f2, f3], vk] w fun e w' => e = .returned (.bool true) ∧ Below w.heap.size w w' := by
  obtain ⟨pT, nT, cT, rfl⟩ := hT.shape3
  obtain ⟨pk, nk, ck, rfl⟩ := hks.shape3
  obtain ⟨a3, n3, k3, rfl⟩ := hK.shape3
  obtain ⟨a1, n1, k1, rfl⟩ := hN.shape3
  obtain ⟨a2, n2, k2, rfl⟩ : ∃ a n c, f2 = .slice a n c := by obtain ⟨_, a, c, e, _⟩ := hD; exact ⟨a, _, c, e⟩
  have hcT : nT ≤ cT := by
    obtain ⟨_, a, c, e, h, _⟩ := hT
    simp only [Value.slice.injEq] at e
    omega
  have hnk : nk ≤ 17592186044416 := by
    have h := hks.len
    obtain ⟨a, c, e⟩ := hks.shape
    simp only [Value.slice.injEq] at e
    unfold big at h
    omega
  have hb : Below w.heap.size w (w.alloc (.cells #[.slice pT nT cT, .slice a1 n1 k1, .slice a2 n2 k2, .slice a3 n3 k3] 28)) := Below.push (Below.refl _ _) _
  have HT : Hid (TensL (w.alloc (.cells #[.slice pT nT cT, .slice a1 n1 k1, .slice a2 n2 k2, .slice a3 n3 k3] 28)) (.slice pT nT cT) T) := hT.later hb
  have HN : Hid (Ints (w.alloc (.cells #[.slice pT nT cT, .slice a1 n1 k1, .slice a2 n2 k2, .slice a3 n3 k3] 28)) (.slice a1 n1 k1) N) := hN.later hb
  have HD : Hid (IntsL (w.alloc (.cells #[.slice pT nT cT, .slice a1 n1 k1, .slice a2 n2 k2, .slice a3 n3 k3] 28)) (.slice a2 n2 k2) D) := hD.later hb
  have HK : Hid (Ints (w.alloc (.cells #[.slice pT nT cT, .slice a1 n1 k1, .slice a2 n2 k2, .slice a3 n3 k3] 28)) (.slice a3 n3 k3) K) := hK.later hb
  have HKS : Hid (Ints (w.alloc (.cells #[.slice pT nT cT, .slice a1 n1 k1, .slice a2 n2 k2, .slice a3 n3 k3] 28)) (.slice pk nk ck) ks) := hks.later hb
  have HB : Hid (Below w.heap.size w (w.alloc (.cells #[.slice pT nT cT, .slice a1 n1 k1, .slice a2 n2 k2, .slice a3 n3 k3] 28))) := hb
  have HNL : Hid (N.length ≤ 17592186043904) := hNl
  have HCT : Hid (nT ≤ cT ∧ nk ≤ 17592186044416) := ⟨hcT, hnk⟩
  have HD0 : Hid (Nil0 (.slice a2 n2 k2)) := hD0
  obtain ⟨i23, hi, hz0, hz1, hz2⟩ := infoI
  have HI : Hid (Tryz.prog.info? 23 = some i23) := hi
  have HZ0 : Hid (i23.zero = some (.slice none 0 0)) := hz0
  have HZ1 : Hid (i23.size = 1) := hz1
  have HZ2 : Hid (i23.bytes = 24) := hz2
  obtain ⟨i3, hi3, hy0, hy1, hy2⟩ := info3
  have HI3 : Hid (Tryz.prog.info? 3 = some i3) := hi3
  have HY0 : Hid (i3.zero = some (.int .i64 0)) := hy0
  have HY1 : Hid (i3.size = 1) := hy1
  have HY2 : Hid (i3.bytes = 8) := hy2
  clear hi hz0 hz1 hz2 hi3 hy0 hy1 hy2 hT hN hD hK hks hb hNl hD0 hcT hnk
  obtain ⟨U, hU⟩ : ∃ U, U = (w.alloc (.cells #[.slice pT nT cT, .slice a1 n1 k1, .slice a2 n2 k2, .slice a3 n3 k3] 28)) := ⟨_, rfl⟩
  obtain ⟨B, hB⟩ : ∃ B, w.heap.size = B := ⟨_, rfl⟩
  have hcb : U.cell? ⟨B, 0, none⟩ = some (.slice pT nT cT) := by rw [hU, ← hB]; simp
  have hcn : U.cell? ⟨B, 1, none⟩ = some (.slice a1 n1 k1) := by rw [hU, ← hB]; simp
  have hcd : U.cell? ⟨B, 2, none⟩ = some (.slice a2 n2 k2) := by rw [hU, ← hB]; simp
  have HCB : Hid (U.cell? ⟨B, 0, none⟩ = some (.slice pT nT cT)) := hcb
  have HCN : Hid (U.cell? ⟨B, 1, none⟩ = some (.slice a1 n1 k1)) := hcn
  have HCD : Hid (U.cell? ⟨B, 2, none⟩ = some (.slice a2 n2 k2)) := hcd
  clear hcb hcn hcd
  go_enter Tryz.func9, Tryz.ntmps9
  go_wp2_with fail
  rw [← hU] at HT HN HD HK HKS HB ⊢
  clear hU hB
  refine (heavy6_any HT.out HN.out HD.out HK.out).mono ?_
  rintro e w2 ⟨b, rfl, hbd, hb2⟩
  have HB2 : Hid (Below U.heap.size U w2) := hb2
  have HBD : Hid (b = false → D.length ≤ 300) := hbd
  clear hb2 hbd
  cases b with
  | true =>
    go_wp2
    go_ret
    exact ⟨rfl, Below.after HB.out HB2.out⟩
  | false =>
    have HD3 : Hid (D.length ≤ 300) := HBD.out rfl
    have HT2 : Hid (TensL w2 (.slice pT nT cT) T) := HT.out.later HB2.out
    have HN2 : Hid (Ints w2 (.slice a1 n1 k1) N) := HN.out.later HB2.out
    have HD2 : Hid (IntsL w2 (.slice a2 n2 k2) D) := HD.out.later HB2.out
    have HKS2 : Hid (Ints w2 (.slice pk nk ck) ks) := HKS.out.later HB2.out
    have HCB2 : Hid (w2.cell? ⟨B, 0, none⟩ = some (.slice pT nT cT)) := cell_later HB2.out HCB.out
    have HCN2 : Hid (w2.cell? ⟨B, 1, none⟩ = some (.slice a1 n1 k1)) := cell_later HB2.out HCN.out
    have HCD2 : Hid (w2.cell? ⟨B, 2, none⟩ = some (.slice a2 n2 k2)) := cell_later HB2.out HCD.out
    have HBW : Hid (Below w.heap.size w w2) := Below.after HB.out HB2.out
    clear HT HN HD HK HKS HB HCB HCN HCD HB2 HBD U
    go_upto_region 3 with fail
    refine wp_cut (fun a' w' => ∃ pd nd cd ds, FrKA pk pd B nk ck nd cd a' ∧ IntsL w' (.slice pd nd cd) ds ∧ Below w2.heap.size w2 w') ?_ ?_
    · intro a5 w5 ⟨pd, nd, cd, ds, hf5, hds, hb5⟩
      obtain ⟨G5, hg5, e5⟩ := act170 a5 hf5.d hf5.s
      obtain ⟨hz1, hz2, g1, g2, g5⟩ := hf5
      rw [hg5] at g1 g2 g5 
      clear hz1 hz2
      subst e5
      clear hg5
      rw [g1, g2, g5]
      clear g1 g2 g5 
      have HDS5 : Hid (IntsL w5 (.slice pd nd cd) ds) := hds
      have HB5 : Hid (Below w2.heap.size w2 w5) := hb5
      have HN5 : Hid (Ints w5 (.slice a1 n1 k1) N) := HN2.out.later hb5
      have HCN5 : Hid (w5.cell? ⟨B, 1, none⟩ = some (.slice a1 n1 k1)) := cell_later hb5 HCN2.out
      clear hds hb5
      rename_i K1 hK1
      apply hK1
      clear hK1
      refine wp_seq ?_
      refine wp_cut (fun a' w' => ∃ pn nn cn ns, FrKB pk pd pn B nk ck nd cd nn cn a' ∧ Ints w' (.slice pn nn cn) ns ∧ Below w5.heap.size w5 w') ?_ ?_
      · intro a6 w6 ⟨pn, nn, cn, ns, hf6, hns, hb6⟩
        obtain ⟨G6, hg6, e6⟩ := act170 a6 hf6.d hf6.s
        obtain ⟨hz1, hz2, g1, g2, g5, g6⟩ := hf6
        rw [hg6] at g1 g2 g5 g6 
        clear hz1 hz2
        subst e6
        clear hg6
        rw [g1, g2, g5, g6]
        clear g1 g2 g5 g6 
        have HNS6 : Hid (Ints w6 (.slice pn nn cn) ns) := hns
        have HB6 : Hid (Below w2.heap.size w2 w6) := Below.after HB5.out hb6
        have HDS6 : Hid (IntsL w6 (.slice pd nd cd) ds) := HDS5.out.later hb6
        clear hns hb6
        go_wp2
        refine kloop1 (W := w6) HCT.out.1 HCT.out.2 (HKS2.out.later HB6.out) HDS6.out HNS6.out (cell_later HB6.out HCB2.out) (HT2.out.later HB6.out) ?_ _ _ ⟨rfl, rfl, rfl, rfl, rfl, rfl, rfl⟩ (Below.refl _ _)
        intro a9 w9 y9 hf9 hb9
        obtain ⟨G9, hg9, e9⟩ := act170 a9 hf9.d hf9.s
        obtain ⟨hz1, hz2, g1, g2, g5, g6, g7⟩ := hf9
        clear hz1 hz2 g1 g2 g5 g6 g7
        subst e9
        clear hg9
        have HB9 : Hid (Below w.heap.size w w9) := Below.after HBW.out (Below.after HB6.out hb9)
        clear hb9
        go_wp2_with fail
        refine (kwakes _).mono ?_
        rintro e w10 ⟨rfl, hb10⟩
        have HB10 : Hid (Below w.heap.size w w10) := Below.after HB9.out hb10
        clear hb10
        go_wp2
        go_ret
        exact ⟨rfl, HB10.out⟩
      · intro J K' hJ hK'
        have HJ : Hid _ := hJ
        have HK' : Hid _ := hK'
        clear hJ hK'
        have HS6 : Hid ((w5.alloc (.cells #[.int .i64 0, .int .i64 2, .int .i64 3] 3)).ownsRow w5.heap.size 3 1 (.slice (some ⟨w5.heap.size, 0, none⟩) 3 3) 3 ([0, 2, 3].map (Value.int .i64))) := ((Blk.new w5 [0, 2, 3]).own (Nat.le_refl _) rfl (by simp [big])).row
        have hcn := cell_later (Below.push (Below.refl w5.heap.size w5) (.cells #[.int .i64 0, .int .i64 2, .int .i64 3] 3)) HCN5.out
        have hN5 := HN5.out
        rcases hN5 with ⟨e, rfl⟩ | ⟨a, c, e, hc1, _, hcell⟩
        · simp only [Value.slice.injEq] at e
          obtain ⟨rfl, rfl, rfl⟩ := e
          go_wp2_with (at_builtin; refine wpList_append_own_none rfl _ _ 23 rfl w5.heap.size 3 i3 1 Tryz.underlying23 HI3.out _ 3 _ rfl HS6.out rfl ?_)
          exact HK'.out _ _ (Met.intro (HJ.out _ _ ⟨_, 3, 3, [0, 2, 3], ⟨rfl, rfl, rfl, rfl, rfl, rfl⟩, (Blk.new w5 [0, 2, 3]).ints 3 3 rfl (Nat.le_refl _) (by decide), Below.push (Below.refl _ _) _⟩))
        · have hnn := HNL.out
          obtain ⟨Nn, hNn⟩ : ∃ x, N.length = x := ⟨_, rfl⟩
          have HNN : Hid (N.length = Nn) := hNn
          simp only [Value.slice.injEq] at e
          rw [hNn] at e hnn
          obtain ⟨rfl, rfl, rfl⟩ := e
          have HNC : Hid (∀ j u, (N.map (Value.int .i64))[j]? = some u → (w5.alloc (.cells #[.int .i64 0, .int .i64 2, .int .i64 3] 3)).cell? (a.add j) = some u) := by
            intro j u hj
            simp only [List.getElem?_map, Option.map_eq_some_iff] at hj
            obtain ⟨x, hx, rfl⟩ := hj
            obtain ⟨hlt, rfl⟩ := List.getElem?_eq_some_iff.1 hx
            obtain ⟨b, off, rfl, hc⟩ := hcell j hlt
            refine cell_later (Below.push (Below.refl _ _) _) ?_
            by_cases h0 : j = 0
            · subst h0; simpa [Addr.add] using hc
            · simpa [Addr.add, h0] using hc
          have HLM : Hid ((N.map (Value.int .i64)).length = n1 * 1) := by show _ = _; rw [List.length_map, hNn]; omega
          clear hcell hNn
          go_wp2_with (at_builtin; refine wpList_append_own_at _ rfl _ _ 23 rfl w5.heap.size 3 i3 (.int .i64 0) 1 8 Tryz.underlying23 HI3.out HY0.out HY1.out HY2.out rfl (by decide) _ 3 _ rfl HS6.out a n1 k1 (N.map (Value.int .i64)) rfl HLM.out ?c1 (ints_one N) ?c3 ?c4 ?c5 ?_)
          case c1 => exact HNC.out
          case c3 => unfold maxLen; omega
          case c4 => omega
          case c5 => simp
          intro v' w7 ho hg _ hat
          have hown : Own w7 w5.heap.size v' ([0, 2, 3] ++ N) := ⟨by rw [List.length_append, List.map_append, HNN.out]; exact ho, by rw [List.length_append, HNN.out]; unfold big; simp; omega⟩
          obtain ⟨va, vn, vc, rfl⟩ := hown.ints.shape3
          have HO7 : Hid (Ints w7 (.slice va vn vc) ([0, 2, 3] ++ N)) := hown.ints
          have HB7 : Hid (Below w5.heap.size w5 w7) := (Below.push (Below.refl _ _) _).grown hg (by simp) (by intro k hk; simp [Value.ownBlock] at hk; omega)
          clear ho hg hat hown
          go_wp2
          exact HK'.out _ _ (Met.intro (HJ.out _ _ ⟨va, vn, vc, _, ⟨rfl, rfl, rfl, rfl, rfl, rfl⟩, HO7.out, HB7.out⟩))
    · intro J K' hJ hK'
      have HJ : Hid _ := hJ
      have HK' : Hid _ := hK'
      clear hJ hK'
      have HR : Hid (Row _ _ _ _ _) := lit2_row w2
      have hvb : Below w2.heap.size w2 ((w2.alloc (.cells #[.int .i64 2, .int .i64 3] 3)).alloc (.cells #[.slice none 0 0, .slice (some ⟨w2.heap.size, 0, none⟩) 2 2] 23)) := Below.push (Below.push (Below.refl _ _) _) _
      have HVB : Hid (Below w2.heap.size w2 _) := hvb
      have hcd := cell_later hvb HCD2.out
      clear hvb
      have HG3 : Hid (∀ k, (Value.slice (some ⟨w2.heap.size + 1, 0, none⟩) 2 2).ownBlock = some k → w2.heap.size ≤ k) := fun k hk => by
        simp only [Value.ownBlock, Option.some.injEq] at hk
        omega
      rcases HD0.out with e | ⟨ad, n, c, e⟩
      · simp only [Value.slice.injEq] at e
        obtain ⟨rfl, rfl, rfl⟩ := e
        go_wp2_with (at_builtin; refine wpList_append_own_none rfl _ _ 26 rfl w2.heap.size 23 i23 1 Tryz.underlying26 HI.out _ 2 _ rfl HR.out.own rfl ?_)
        exact HK'.out _ _ (Met.intro (HJ.out _ _ ⟨_, 2, 2, [[], [2, 3]], ⟨rfl, rfl, rfl, rfl, rfl⟩, HR.out.intsL (by simp [big]), HVB.out⟩))
      · simp only [Value.slice.injEq] at e
        obtain ⟨rfl, rfl, rfl⟩ := e
        obtain ⟨hnD, news, hnl, hn1, hn2, hn3⟩ := HD2.out.vals
        have hD3 := HD3.out
        have HND : Hid (n2 = D.length) := hnD
        have hn300 : n2 ≤ 300 := by omega
        have HE : Hid (∀ i (h : i < D.length), ∃ y, news[i]? = some y ∧ Elt _ (Value.slice (some ⟨w2.heap.size + 1, 0, none⟩) 2 2).ownBlock y D[i]) := fun i hi => by
          obtain ⟨y, hy, hy2⟩ := hn2 i hi
          exact ⟨y, hy, Elt.older hy2 HVB.out HG3.out⟩
        have HN1 : Hid (∀ j u, news[j]? = some u → w2.cell? (ad.add j) = some u) := hn1
        have HN3 : Hid (∀ u ∈ news, u.oneCell' = true) := hn3
        have HNL2 : Hid (news.length = n2 * 1) := by show _ = _; omega
        clear hn1 hn2 hn3 hnD hnl hD3
        go_wp2_with (at_builtin; refine wpList_append_own_at _ rfl _ _ 26 rfl w2.heap.size 23 i23 (.slice none 0 0) 1 24 Tryz.underlying26 HI.out HZ0.out HZ1.out HZ2.out rfl (by decide) _ 2 _ rfl HR.out.own ad n2 k2 news rfl HNL2.out ?c1 HN3.out ?c3 ?c4 ?c5 ?_)
        case c1 => exact fun j u hj => cell_later HVB.out (HN1.out j u hj)
        case c3 => unfold maxLen; omega
        case c4 => omega
        case c5 => exact HVB.out.size
        intro v' w5 ho hg _ hat
        have hr5 := HR.out.appK (E := D) HND.out HE.out ho hg _ (by simp) hat
        have HB5 : Hid (Below w2.heap.size w2 w5) := HVB.out.grown hg HVB.out.size HG3.out
        have HL5 : Hid (([[], [2, 3]] ++ D).length ≤ big) := by have := HD3.out; unfold big; show _ ≤ _; simp; omega
        have HI5 : Hid (IntsL w5 v' ([[], [2, 3]] ++ D)) := hr5.intsL HL5.out
        obtain ⟨va, vn, vc, rfl⟩ := row_shape3 hr5
        clear hr5 ho hg hat
        go_wp2
        exact HK'.out _ _ (Met.intro (HJ.out _ _ ⟨va, vn, vc, _, ⟨rfl, rfl, rfl, rfl, rfl⟩, HI5.out, HB5.out⟩))
end Go.Proofs.YtheddpjaihhbdacGreat
