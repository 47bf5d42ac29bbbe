/- The law RingWraps: its walk. -/
import Derived.Test.YtoocfoodnkikeaaL0
namespace Go.Proofs.Ytoocfoodnkikeaa
set_option linter.unusedVariables false
set_option linter.unusedSimpArgs false
open Go.RowKit

set_option maxRecDepth 100000 in
set_option maxHeartbeats 4000000 in
theorem ringWraps_any {f0 f1 : Value} {T : List Ten} {L : List Int} {w : World} (h0 : TensL w f0 T ∧ ∀ t ∈ T, Rg t.2) (h1 : Ints w f1 L ∧ L.length ≤ 17592186043904) :
    Calls Try.prog 6 #[.agg #[f0, f1]] w fun e w' => e = .returned (.bool true) ∧ Below w.heap.size w w' := by
  obtain ⟨na, nc, rfl⟩ := h1.1.shape
  obtain ⟨⟨hT, a0, c0, rfl, hcT, _⟩, _⟩ := h0
  unfold big at hT
  have hbx : ∀ w', Below (w.alloc (.cells #[.slice a0 T.length c0, .slice na L.length nc] 25)).heap.size (w.alloc (.cells #[.slice a0 T.length c0, .slice na L.length nc] 25)) w' → w'.cell? ⟨w.heap.size, 0, none⟩ = some (.slice a0 T.length c0) := fun w' hb => cell_later hb (by simp)
  have HBX : Hid (∀ w', Below (w.alloc (.cells #[.slice a0 T.length c0, .slice na L.length nc] 25)).heap.size (w.alloc (.cells #[.slice a0 T.length c0, .slice na L.length nc] 25)) w' → w'.cell? ⟨w.heap.size, 0, none⟩ = some (.slice a0 T.length c0)) := hbx
  clear h1 hbx hcT
  generalize e0 : (Value.slice a0 T.length c0) = f0 at HBX ⊢
  generalize e1 : (Value.slice na L.length nc) = f1 at HBX ⊢
  have hA := lit_tens (w.alloc (.cells #[f0, f1] 25)) [4] [9223372036854775807, -9223372036854775808, 9223372036854775807, 4611686018427387904] 1 4 rfl rfl (by decide) (by decide)
  simp only [World.size_alloc] at hA
  have hLA : Live ((((w.alloc (.cells #[f0, f1] 25)).alloc (.cells #[.int .i64 4] 3)).alloc (.cells #[.int .i64 9223372036854775807, .int .i64 (-9223372036854775808), .int .i64 9223372036854775807, .int .i64 4611686018427387904] 3)).alloc (.cells #[.slice (some ⟨w.heap.size + 1, 0, none⟩) 1 1, .slice (some ⟨w.heap.size + 1 + 1, 0, none⟩) 4 4] 28)) [(w.heap.size + 1 + 1 + 1, .slice (some ⟨w.heap.size + 1, 0, none⟩) 1 1, .slice (some ⟨w.heap.size + 1 + 1, 0, none⟩) 4 4, ([4], [9223372036854775807, -9223372036854775808, 9223372036854775807, 4611686018427387904]))] := by
    have := Live.push (L := []) trivial hA
    simp only [World.size_alloc] at this
    exact this
  have hB := lit_tens ((((w.alloc (.cells #[f0, f1] 25)).alloc (.cells #[.int .i64 4] 3)).alloc (.cells #[.int .i64 9223372036854775807, .int .i64 (-9223372036854775808), .int .i64 9223372036854775807, .int .i64 4611686018427387904] 3)).alloc (.cells #[.slice (some ⟨w.heap.size + 1, 0, none⟩) 1 1, .slice (some ⟨w.heap.size + 1 + 1, 0, none⟩) 4 4] 28)) [4] [1, -1, 2, 4] 1 4 rfl rfl (by decide) (by decide)
  simp only [World.size_alloc] at hB
  have hLB : Live (((((((w.alloc (.cells #[f0, f1] 25)).alloc (.cells #[.int .i64 4] 3)).alloc (.cells #[.int .i64 9223372036854775807, .int .i64 (-9223372036854775808), .int .i64 9223372036854775807, .int .i64 4611686018427387904] 3)).alloc (.cells #[.slice (some ⟨w.heap.size + 1, 0, none⟩) 1 1, .slice (some ⟨w.heap.size + 1 + 1, 0, none⟩) 4 4] 28)).alloc (.cells #[.int .i64 4] 3)).alloc (.cells #[.int .i64 1, .int .i64 (-1), .int .i64 2, .int .i64 4] 3)).alloc (.cells #[.slice (some ⟨w.heap.size + 1 + 1 + 1 + 1, 0, none⟩) 1 1, .slice (some ⟨w.heap.size + 1 + 1 + 1 + 1 + 1, 0, none⟩) 4 4] 28)) [(w.heap.size + 1 + 1 + 1 + 1 + 1 + 1, .slice (some ⟨w.heap.size + 1 + 1 + 1 + 1, 0, none⟩) 1 1, .slice (some ⟨w.heap.size + 1 + 1 + 1 + 1 + 1, 0, none⟩) 4 4, ([4], [1, -1, 2, 4])), (w.heap.size + 1 + 1 + 1, .slice (some ⟨w.heap.size + 1, 0, none⟩) 1 1, .slice (some ⟨w.heap.size + 1 + 1, 0, none⟩) 4 4, ([4], [9223372036854775807, -9223372036854775808, 9223372036854775807, 4611686018427387904]))] := by
    have := Live.push ((hLA.later (Below.push (Below.refl _ _) (.cells #[.int .i64 4] 3))).later (Below.push (Below.refl _ _) (.cells #[.int .i64 1, .int .i64 (-1), .int .i64 2, .int .i64 4] 3))) hB
    simp only [World.size_alloc] at this
    exact this
  have HL0 : Hid (Live (((((((w.alloc (.cells #[f0, f1] 25)).alloc (.cells #[.int .i64 4] 3)).alloc (.cells #[.int .i64 9223372036854775807, .int .i64 (-9223372036854775808), .int .i64 9223372036854775807, .int .i64 4611686018427387904] 3)).alloc (.cells #[.slice (some ⟨w.heap.size + 1, 0, none⟩) 1 1, .slice (some ⟨w.heap.size + 1 + 1, 0, none⟩) 4 4] 28)).alloc (.cells #[.int .i64 4] 3)).alloc (.cells #[.int .i64 1, .int .i64 (-1), .int .i64 2, .int .i64 4] 3)).alloc (.cells #[.slice (some ⟨w.heap.size + 1 + 1 + 1 + 1, 0, none⟩) 1 1, .slice (some ⟨w.heap.size + 1 + 1 + 1 + 1 + 1, 0, none⟩) 4 4] 28)) _) := hLB
  have HB0 : Hid (Below (w.alloc (.cells #[f0, f1] 25)).heap.size (w.alloc (.cells #[f0, f1] 25)) (((((((w.alloc (.cells #[f0, f1] 25)).alloc (.cells #[.int .i64 4] 3)).alloc (.cells #[.int .i64 9223372036854775807, .int .i64 (-9223372036854775808), .int .i64 9223372036854775807, .int .i64 4611686018427387904] 3)).alloc (.cells #[.slice (some ⟨w.heap.size + 1, 0, none⟩) 1 1, .slice (some ⟨w.heap.size + 1 + 1, 0, none⟩) 4 4] 28)).alloc (.cells #[.int .i64 4] 3)).alloc (.cells #[.int .i64 1, .int .i64 (-1), .int .i64 2, .int .i64 4] 3)).alloc (.cells #[.slice (some ⟨w.heap.size + 1 + 1 + 1 + 1, 0, none⟩) 1 1, .slice (some ⟨w.heap.size + 1 + 1 + 1 + 1 + 1, 0, none⟩) 4 4] 28))) := Below.push (Below.push (Below.push (Below.push (Below.push (Below.push (Below.refl _ _) _) _) _) _) _) _
  have HBW : Hid (Below w.heap.size w (w.alloc (.cells #[f0, f1] 25))) := Below.push (Below.refl _ _) _
  have p1 := hLB.1.box.c0
  have p2 := hLB.1.box.c1
  have p3 := hLB.2.1.box.c0
  have p4 := hLB.2.1.box.c1
  clear hA hLA hB hLB
  go_enter Try.func6, Try.ntmps6
  go_wp2_with fail
  refine (add_to (s := ([4], [9223372036854775807, -9223372036854775808, 9223372036854775807, 4611686018427387904])) (t := ([4], [1, -1, 2, 4])) 0 ([4], [-9223372036854775808, 9223372036854775807, -9223372036854775807, 4611686018427387908]) HL0.out.2.1.ten HL0.out.1.ten (by decide +kernel) (by decide +kernel)).mono ?_
  rintro e w1 ⟨x, y, rfl, ho, hb⟩
  obtain ⟨xa, xn, xc, rfl⟩ := ho.dims.ints.shape3
  obtain ⟨ya, yn, yc, rfl⟩ := ho.data.ints.shape3
  have HL1 : Hid (Live (w1.alloc (.cells #[.slice xa xn xc, .slice ya yn yc] 28)) _) := (HL0.out.later hb).push ho.tens
  have HB1 : Hid (Below (w.alloc (.cells #[f0, f1] 25)).heap.size (w.alloc (.cells #[f0, f1] 25)) (w1.alloc (.cells #[.slice xa xn xc, .slice ya yn yc] 28))) := Below.push (Below.after HB0.out hb) _
  have q1 := HL1.out.2.1.box.c0
  have q2 := HL1.out.2.1.box.c1
  have q3 := HL1.out.2.2.1.box.c0
  have q4 := HL1.out.2.2.1.box.c1
  clear hb ho p1 p2 p3 p4 HL0 HB0
  go_wp2_with fail
  refine (mulu_to (s := ([4], [9223372036854775807, -9223372036854775808, 9223372036854775807, 4611686018427387904])) (t := ([4], [1, -1, 2, 4])) 0 ([4], [9223372036854775807, -9223372036854775808, -2, 0]) HL1.out.2.2.1.ten HL1.out.2.1.ten (by decide +kernel) (by decide +kernel)).mono ?_
  rintro e w2 ⟨x, y, rfl, ho, hb⟩
  obtain ⟨xa2, xn2, xc2, rfl⟩ := ho.dims.ints.shape3
  obtain ⟨ya2, yn2, yc2, rfl⟩ := ho.data.ints.shape3
  have HL2 : Hid (Live (w2.alloc (.cells #[.slice xa2 xn2 xc2, .slice ya2 yn2 yc2] 28)) _) := (HL1.out.later hb).push ho.tens
  have HB2 : Hid (Below (w.alloc (.cells #[f0, f1] 25)).heap.size (w.alloc (.cells #[f0, f1] 25)) (w2.alloc (.cells #[.slice xa2 xn2 xc2, .slice ya2 yn2 yc2] 28))) := Below.push (Below.after HB1.out hb) _
  have r1 := HL2.out.2.2.2.1.box.c0
  have r2 := HL2.out.2.2.2.1.box.c1
  clear hb ho q1 q2 q3 q4 HL1 HB1
  go_wp2_with fail
  refine (neg_to (s := ([4], [9223372036854775807, -9223372036854775808, 9223372036854775807, 4611686018427387904])) 0 ([4], [-9223372036854775807, -9223372036854775808, -9223372036854775807, -4611686018427387904]) HL2.out.2.2.2.1.ten (by decide +kernel) (by decide +kernel)).mono ?_
  rintro e w3 ⟨x, y, rfl, ho, hb⟩
  obtain ⟨xa3, xn3, xc3, rfl⟩ := ho.dims.ints.shape3
  obtain ⟨ya3, yn3, yc3, rfl⟩ := ho.data.ints.shape3
  have HL3 : Hid (Live (w3.alloc (.cells #[.slice xa3 xn3 xc3, .slice ya3 yn3 yc3] 28)) _) := (HL2.out.later hb).push ho.tens
  have HB3 : Hid (Below (w.alloc (.cells #[f0, f1] 25)).heap.size (w.alloc (.cells #[f0, f1] 25)) (w3.alloc (.cells #[.slice xa3 xn3 xc3, .slice ya3 yn3 yc3] 28))) := Below.push (Below.after HB2.out hb) _
  have r1 := HL3.out.2.2.2.2.1.box.c0
  have r2 := HL3.out.2.2.2.2.1.box.c1
  clear hb ho HL2 HB2
  go_wp2_with fail
  refine (total_to (s := ([4], [9223372036854775807, -9223372036854775808, 9223372036854775807, 4611686018427387904])) (-4611686018427387906) 0 HL3.out.2.2.2.2.1.ten (by decide +kernel) (by decide +kernel)).mono ?_
  rintro e w4 ⟨rfl, hb⟩
  have HL4 : Hid (Live w4 _) := HL3.out.later hb
  have HB4 : Hid (Below (w.alloc (.cells #[f0, f1] 25)).heap.size (w.alloc (.cells #[f0, f1] 25)) w4) := Below.after HB3.out hb
  have HN4 := HL4.out.2.2.1.ten.2
  clear hb HL3 HB3
  -- the sums held against the page's
  have HT : ∀ w' : World, Blk (w'.alloc (.cells #[.int .i64 (-9223372036854775808), .int .i64 9223372036854775807, .int .i64 (-9223372036854775807), .int .i64 4611686018427387908] 3)) w'.heap.size [-9223372036854775808, 9223372036854775807, -9223372036854775807, 4611686018427387908] := fun w' => Blk.new w' [-9223372036854775808, 9223372036854775807, -9223372036854775807, 4611686018427387908]
  have HTX : Hid (∀ w' : World, Ints (w'.alloc (.cells #[.int .i64 (-9223372036854775808), .int .i64 9223372036854775807, .int .i64 (-9223372036854775807), .int .i64 4611686018427387908] 3)) (.slice (some ⟨w'.heap.size, 0, none⟩) 4 4) [-9223372036854775808, 9223372036854775807, -9223372036854775807, 4611686018427387908]) := fun w' => (Blk.new w' [-9223372036854775808, 9223372036854775807, -9223372036854775807, 4611686018427387908]).ints 4 4 rfl (Nat.le_refl _) (by decide)
  have HTY : Hid (∀ w' : World, Ints (w'.alloc (.cells #[.int .i64 9223372036854775807, .int .i64 (-9223372036854775808), .int .i64 (-2), .int .i64 0] 3)) (.slice (some ⟨w'.heap.size, 0, none⟩) 4 4) [9223372036854775807, -9223372036854775808, -2, 0]) := fun w' => (Blk.new w' [9223372036854775807, -9223372036854775808, -2, 0]).ints 4 4 rfl (Nat.le_refl _) (by decide)
  have HTZ : Hid (∀ w' : World, Ints (w'.alloc (.cells #[.int .i64 (-9223372036854775807), .int .i64 (-9223372036854775808), .int .i64 (-9223372036854775807), .int .i64 (-4611686018427387904)] 3)) (.slice (some ⟨w'.heap.size, 0, none⟩) 4 4) [-9223372036854775807, -9223372036854775808, -9223372036854775807, -4611686018427387904]) := fun w' => (Blk.new w' [-9223372036854775807, -9223372036854775808, -9223372036854775807, -4611686018427387904]).ints 4 4 rfl (Nat.le_refl _) (by decide)
  have s1 := HL4.out.2.2.1.box.c1
  clear HT HN4
  go_wp2_with (go_at_call 17; refine (num_any _ _).mono ?_; rintro e w' ⟨rfl, rfl⟩)
  refine (eqn_bl (HL4.out.2.2.1.ten.2.later (Below.push (Below.refl _ _) _)) (HTX.out _) rfl).mono ?_
  rintro e w5 ⟨rfl, hb⟩
  have hb5 := Below.after (Below.push (Below.refl _ w4) _) hb
  have HL5 : Hid (Live w5 _) := HL4.out.later hb5
  have HB5 : Hid (Below (w.alloc (.cells #[f0, f1] 25)).heap.size (w.alloc (.cells #[f0, f1] 25)) w5) := Below.after HB4.out hb5
  have s2 := HL5.out.2.1.box.c1
  clear hb hb5 s1 HL4 HB4 HTX
  go_wp2_with fail
  refine (eqn_bl (HL5.out.2.1.ten.2.later (Below.push (Below.refl _ _) _)) (HTY.out _) rfl).mono ?_
  rintro e w6 ⟨rfl, hb⟩
  have hb6 := Below.after (Below.push (Below.refl _ w5) _) hb
  have HL6 : Hid (Live w6 _) := HL5.out.later hb6
  have HB6 : Hid (Below (w.alloc (.cells #[f0, f1] 25)).heap.size (w.alloc (.cells #[f0, f1] 25)) w6) := Below.after HB5.out hb6
  have s3 := HL6.out.1.box.c1
  clear hb hb6 s2 HL5 HB5 HTY
  go_wp2_with fail
  refine (eqn_bl (HL6.out.1.ten.2.later (Below.push (Below.refl _ _) _)) (HTZ.out _) rfl).mono ?_
  rintro e w7 ⟨rfl, hb⟩
  have hb7 := Below.after (Below.push (Below.refl _ w6) _) hb
  have HL7 : Hid (Live w7 _) := HL6.out.later hb7
  have HB7 : Hid (Below (w.alloc (.cells #[f0, f1] 25)).heap.size (w.alloc (.cells #[f0, f1] 25)) w7) := Below.after HB6.out hb7
  have s4 := HL7.out.2.2.2.2.1.box.c1
  clear hb hb7 s3 HL6 HB6 HTZ
  go_wp2_with fail
  refine (sum_to (d := [9223372036854775807, -9223372036854775808, 9223372036854775807, 4611686018427387904]) (-4611686018427387906) HL7.out.2.2.2.2.1.ten.2 (by decide +kernel)).mono ?_
  rintro e w' ⟨rfl, rfl⟩
  have s5 := HBX.out _ HB7.out
  subst e0
  go_wp2_with fail
  refine (wakes_any _).mono ?_
  rintro e w8 ⟨rfl, hb⟩
  have HB8 : Hid (Below w.heap.size w w8) := Below.after HBW.out (Below.after HB7.out hb)
  clear hb HB7 HL7
  go_wp2
  go_ret
  exact ⟨rfl, HB8.out⟩
end Go.Proofs.Ytoocfoodnkikeaa
