/- graduslaw6's KernelTurn: its walk. -/
import Derived.Test.YtheddpjaihhbdabGreatK5
namespace Go.Proofs.YtheddpjaihhbdabGreat
set_option linter.unusedVariables false
set_option linter.unusedSimpArgs false
set_option maxRecDepth 100000
open Go.RowKit

set_option maxRecDepth 100000 in
set_option maxHeartbeats 4000000 in
theorem kernelTurn_walk {f0 f1 f2 f3 : Value} {T : List Ten} {N K : List Int} {D : List (List Int)} {w : World} (hT : TensL w f0 T) (hN : Ints w f1 N ∧ N.length ≤ 17592186043904) (hD : IntsL w f2 D ∧ Nil0 f2) (hK : Ints w f3 K ∧ K.length ≤ 17592186043904) :
    Calls Tryz.prog 8 #[.agg #[f0, f1, f2, f3]] w fun e w' => e = .returned (.bool true) ∧ Below w.heap.size w w' := by
  have hb : Below w.heap.size w ((w.alloc (.cells #[f0, f1, f2, f3] 28)).alloc (.cells #[.int .i64 10] 3)) := Below.push (Below.push (Below.refl _ _) _) _
  have HT : Hid (TensL ((w.alloc (.cells #[f0, f1, f2, f3] 28)).alloc (.cells #[.int .i64 10] 3)) f0 T) := hT.later hb
  have HN : Hid (Ints ((w.alloc (.cells #[f0, f1, f2, f3] 28)).alloc (.cells #[.int .i64 10] 3)) f1 N) := hN.1.later hb
  have HD : Hid (IntsL ((w.alloc (.cells #[f0, f1, f2, f3] 28)).alloc (.cells #[.int .i64 10] 3)) f2 D) := hD.1.later hb
  have HK : Hid (Ints ((w.alloc (.cells #[f0, f1, f2, f3] 28)).alloc (.cells #[.int .i64 10] 3)) f3 K) := hK.1.later hb
  have HB : Hid (Below w.heap.size w ((w.alloc (.cells #[f0, f1, f2, f3] 28)).alloc (.cells #[.int .i64 10] 3))) := hb
  have HKS : Hid (Ints ((w.alloc (.cells #[f0, f1, f2, f3] 28)).alloc (.cells #[.int .i64 10] 3)) (.slice (some ⟨w.heap.size + 1, 0, none⟩) 1 1) [10]) := by
    have h := (Blk.new (w.alloc (.cells #[f0, f1, f2, f3] 28)) [10]).ints 1 1 rfl (Nat.le_refl _) (by decide)
    simp only [World.size_alloc] at h
    exact h
  have HNL : Hid (N.length ≤ 17592186043904 ∧ Nil0 f2) := ⟨hN.2, hD.2⟩
  obtain ⟨a0, n0, c0, rfl⟩ := hT.shape3
  obtain ⟨a1, n1, c1, rfl⟩ := hN.1.shape3
  obtain ⟨a2, n2, c2, rfl⟩ : ∃ a n c, f2 = .slice a n c := by obtain ⟨⟨_, a, c, e, _⟩, _⟩ := hD; exact ⟨a, _, c, e⟩
  obtain ⟨a3, n3, c3, rfl⟩ := hK.1.shape3
  clear hT hN hD hK hb
  go_enter Tryz.func8, Tryz.ntmps8
  go_wp2_with fail
  refine (kinds_any HT.out HN.out HNL.out.1 HD.out HNL.out.2 HK.out HKS.out).mono ?_
  rintro e w2 ⟨rfl, hb2⟩
  have HB2 : Hid (Below w.heap.size w w2) := Below.after HB.out hb2
  clear hb2
  go_wp2
  go_ret
  exact ⟨rfl, HB2.out⟩
end Go.Proofs.YtheddpjaihhbdabGreat
