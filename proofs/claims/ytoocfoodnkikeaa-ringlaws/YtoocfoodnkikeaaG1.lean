/- RingLaws: its first region: three tensors of the argument. -/
import Derived.Test.YtoocfoodnkikeaaE1
import Derived.Test.YtoocfoodnkikeaaE0
import Derived.Test.YtoocfoodnkikeaaM0
namespace Go.Proofs.Ytoocfoodnkikeaa
set_option linter.unusedVariables false
set_option linter.unusedSimpArgs false
open Go.RowKit

structure FrL (B i : Nat) (a : Act) : Prop where
  d : a.defers = []
  s : a.tmps.size = 251
  f1 : a.tmps.getD 1 undef = .pointer (some ⟨B, 0, none⟩)
  f3 : a.tmps.getD 3 undef = .int .i64 i

theorem live_aaa {w : World} {a0 a1 b0 b1 d0 d1 : Value} {s t u : Ten} (ha : Tens w a0 a1 s) (hb : Tens w b0 b1 t) (hd : Tens w d0 d1 u) : Live (((w.alloc (.cells #[a0, a1] 28)).alloc (.cells #[b0, b1] 28)).alloc (.cells #[d0, d1] 28)) [(w.heap.size, a0, a1, s), (w.heap.size + 1, b0, b1, t), (w.heap.size + 1 + 1, d0, d1, u)] := by
  have h1 := live_aa ha hb
  have h2 := h1.push (hd.later (Below.push (Below.push (Below.refl _ _) _) _))
  simp only [World.size_alloc] at h2
  exact ⟨h2.2.1, h2.2.2.1, h2.1, trivial⟩
set_option maxRecDepth 1000000 in
set_option maxHeartbeats 8000000 in
theorem lreg6 {B i tb tof c0 lT : Nat} {xia yia xja yja xka yka : Option Addr} {xin xic yin yic xjn xjc yjn yjc xkn xkc ykn ykc : Nat} {s t u : Ten} {w : World} {Q : Exit → Act → World → Prop}
    (hi : i + 2 < lT) (hi6 : i < 6) (hlT : lT ≤ c0) (hT0 : lT ≤ 17592186044416)
    (HC : Hid (w.cell? ⟨B, 0, none⟩ = some (.slice (some ⟨tb, tof, none⟩) lT c0) ∧ w.cell? ⟨tb, tof + i * 2, none⟩ = some (.slice xia xin xic) ∧ w.cell? ⟨tb, tof + i * 2 + 1, none⟩ = some (.slice yia yin yic) ∧ w.cell? ⟨tb, tof + (i + 1) * 2, none⟩ = some (.slice xja xjn xjc) ∧ w.cell? ⟨tb, tof + (i + 1) * 2 + 1, none⟩ = some (.slice yja yjn yjc) ∧ w.cell? ⟨tb, tof + (i + 2) * 2, none⟩ = some (.slice xka xkn xkc) ∧ w.cell? ⟨tb, tof + (i + 2) * 2 + 1, none⟩ = some (.slice yka ykn ykc)))
    (HTI : Hid (Tens w (.slice xia xin xic) (.slice yia yin yic) s)) (HTJ : Hid (Tens w (.slice xja xjn xjc) (.slice yja yjn yjc) t)) (HTK : Hid (Tens w (.slice xka xkn xkc) (.slice yka ykn ykc) u))
    (HQ : Hid (∀ a' w' Ba Bb Bd, FrL B i a' → a'.tmps.getD 4 undef = .pointer (some ⟨Ba, 0, none⟩) → a'.tmps.getD 5 undef = .pointer (some ⟨Bb, 0, none⟩) → a'.tmps.getD 6 undef = .pointer (some ⟨Bd, 0, none⟩) → Ba ≠ Bb → Ba ≠ Bd → Bb ≠ Bd → w.heap.size ≤ Bb → w.heap.size ≤ Bd → Live w' [(Ba, .slice xia xin xic, .slice yia yin yic, s), (Bb, .slice xja xjn xjc, .slice yja yjn yjc, t), (Bd, .slice xka xkn xkc, .slice yka ykn ykc, u)] → Below w.heap.size w w' → Q .normal a' w'))
    (a : Act) (ha : FrL B i a) :
    Code.wp Try.prog ((((Try.f5.body.map regs).getD []).getD 5 (0, .skip)).2) Q a w := by
  obtain ⟨G, hg, e⟩ := act251 a ha.d ha.s
  obtain ⟨hz1, hz2, g1, g3⟩ := ha
  rw [hg] at g1 g3
  clear hz1 hz2
  subst e
  clear hg
  rw [g1, g3]
  clear g1 g3
  have l0 : w.cell? ⟨B, 0, none⟩ = some (.slice (some ⟨tb, tof, none⟩) lT c0) := HC.out.1
  have l1 : w.cell? ⟨tb, tof + i * 2, none⟩ = some (.slice xia xin xic) := HC.out.2.1
  have l2 : w.cell? ⟨tb, tof + i * 2 + 1, none⟩ = some (.slice yia yin yic) := HC.out.2.2.1
  have l3 : w.cell? ⟨tb, tof + (i + 1) * 2, none⟩ = some (.slice xja xjn xjc) := HC.out.2.2.2.1
  have l4 : w.cell? ⟨tb, tof + (i + 1) * 2 + 1, none⟩ = some (.slice yja yjn yjc) := HC.out.2.2.2.2.1
  have l5 : w.cell? ⟨tb, tof + (i + 2) * 2, none⟩ = some (.slice xka xkn xkc) := HC.out.2.2.2.2.2.1
  have l6 : w.cell? ⟨tb, tof + (i + 2) * 2 + 1, none⟩ = some (.slice yka ykn ykc) := HC.out.2.2.2.2.2.2
  have n1 := World.new_ne w _ l0
  have n2 := World.new_ne w _ l1
  have z1 : (0 : Int) ≤ (i : Int) := by omega
  have z2 : (i : Int) < lT := by omega
  have z3 : (i : Int) + 1 < lT := by omega
  have z4 : (i : Int) + 2 < lT := by omega
  have z5 : IntKind.i64.wrap ((i : Int) + 1) = (i : Int) + 1 := wrap_small _ (by omega) (by omega)
  have z6 : IntKind.i64.wrap ((i : Int) + 2) = (i : Int) + 2 := wrap_small _ (by omega) (by omega)
  have z7 : (0 : Int) ≤ (i : Int) + 1 := by omega
  have z8 : (0 : Int) ≤ (i : Int) + 2 := by omega
  have z9 : ((i : Int) + 1).toNat = i + 1 := by omega
  have z10 : ((i : Int) + 2).toNat = i + 2 := by omega
  have k0 : ∀ o p q, (((w.alloc o).alloc p).alloc q).cell? ⟨B, 0, none⟩ = some (.slice (some ⟨tb, tof, none⟩) lT c0) := fun o p q => cell_later (Below.push (Below.push (Below.push (Below.refl _ _) _) _) _) l0
  have k1 : ∀ o p q, (((w.alloc o).alloc p).alloc q).cell? ⟨tb, tof + i * 2, none⟩ = some (.slice xia xin xic) := fun o p q => cell_later (Below.push (Below.push (Below.push (Below.refl _ _) _) _) _) l1
  have k2 : ∀ o p q, (((w.alloc o).alloc p).alloc q).cell? ⟨tb, tof + i * 2 + 1, none⟩ = some (.slice yia yin yic) := fun o p q => cell_later (Below.push (Below.push (Below.push (Below.refl _ _) _) _) _) l2
  have k3 : ∀ o p q, (((w.alloc o).alloc p).alloc q).cell? ⟨tb, tof + (i + 1) * 2, none⟩ = some (.slice xja xjn xjc) := fun o p q => cell_later (Below.push (Below.push (Below.push (Below.refl _ _) _) _) _) l3
  have k4 : ∀ o p q, (((w.alloc o).alloc p).alloc q).cell? ⟨tb, tof + (i + 1) * 2 + 1, none⟩ = some (.slice yja yjn yjc) := fun o p q => cell_later (Below.push (Below.push (Below.push (Below.refl _ _) _) _) _) l4
  have k5 : ∀ o p q, (((w.alloc o).alloc p).alloc q).cell? ⟨tb, tof + (i + 2) * 2, none⟩ = some (.slice xka xkn xkc) := fun o p q => cell_later (Below.push (Below.push (Below.push (Below.refl _ _) _) _) _) l5
  have k6 : ∀ o p q, (((w.alloc o).alloc p).alloc q).cell? ⟨tb, tof + (i + 2) * 2 + 1, none⟩ = some (.slice yka ykn ykc) := fun o p q => cell_later (Below.push (Below.push (Below.push (Below.refl _ _) _) _) _) l6
  conv => arg 2; whnf
  go_region_held3 (fun w' => w'.cell? ⟨B, 0, none⟩ = some (.slice (some ⟨tb, tof, none⟩) lT c0) ∧ w'.cell? ⟨tb, tof + i * 2, none⟩ = some (.slice xia xin xic) ∧ w'.cell? ⟨tb, tof + i * 2 + 1, none⟩ = some (.slice yia yin yic) ∧ w'.cell? ⟨tb, tof + (i + 1) * 2, none⟩ = some (.slice xja xjn xjc) ∧ w'.cell? ⟨tb, tof + (i + 1) * 2 + 1, none⟩ = some (.slice yja yjn yjc) ∧ w'.cell? ⟨tb, tof + (i + 2) * 2, none⟩ = some (.slice xka xkn xkc) ∧ w'.cell? ⟨tb, tof + (i + 2) * 2 + 1, none⟩ = some (.slice yka ykn ykc)) (go_keep) (fail)
  · have L := live_aaa HTI.out HTJ.out HTK.out
    exact HQ.out _ _ _ _ _ ⟨rfl, rfl, rfl, rfl⟩ rfl rfl rfl (by omega) (by omega) (by omega) (by omega) (by omega) (Live.later (Below.refl _ _).drew ⟨L.1, L.2.1, L.2.2.1, trivial⟩) (Below.push (Below.push (Below.push (Below.refl _ _) _) _) _).drew
  · have L := live_aaa HTI.out HTK.out HTJ.out
    exact HQ.out _ _ _ _ _ ⟨rfl, rfl, rfl, rfl⟩ rfl rfl rfl (by omega) (by omega) (by omega) (by omega) (by omega) (Live.later (Below.refl _ _).drew ⟨L.1, L.2.2.1, L.2.1, trivial⟩) (Below.push (Below.push (Below.push (Below.refl _ _) _) _) _).drew
  · have L := live_aaa HTJ.out HTI.out HTK.out
    exact HQ.out _ _ _ _ _ ⟨rfl, rfl, rfl, rfl⟩ rfl rfl rfl (by omega) (by omega) (by omega) (by omega) (by omega) (Live.later (Below.refl _ _).drew ⟨L.2.1, L.1, L.2.2.1, trivial⟩) (Below.push (Below.push (Below.push (Below.refl _ _) _) _) _).drew
  · have L := live_aaa HTJ.out HTK.out HTI.out
    exact HQ.out _ _ _ _ _ ⟨rfl, rfl, rfl, rfl⟩ rfl rfl rfl (by omega) (by omega) (by omega) (by omega) (by omega) (Live.later (Below.refl _ _).drew ⟨L.2.2.1, L.1, L.2.1, trivial⟩) (Below.push (Below.push (Below.push (Below.refl _ _) _) _) _).drew
  · have L := live_aaa HTK.out HTI.out HTJ.out
    exact HQ.out _ _ _ _ _ ⟨rfl, rfl, rfl, rfl⟩ rfl rfl rfl (by omega) (by omega) (by omega) (by omega) (by omega) (Live.later (Below.refl _ _).drew ⟨L.2.1, L.2.2.1, L.1, trivial⟩) (Below.push (Below.push (Below.push (Below.refl _ _) _) _) _).drew
  · have L := live_aaa HTK.out HTJ.out HTI.out
    exact HQ.out _ _ _ _ _ ⟨rfl, rfl, rfl, rfl⟩ rfl rfl rfl (by omega) (by omega) (by omega) (by omega) (by omega) (Live.later (Below.refl _ _).drew ⟨L.2.2.1, L.2.1, L.1, trivial⟩) (Below.push (Below.push (Below.push (Below.refl _ _) _) _) _).drew
end Go.Proofs.Ytoocfoodnkikeaa
