/- Contract: mat's crossed: a row of one matrix by a column of another. -/
import Derived.Test.YtgnicnaiaijdcaaDoorAd
namespace Go.Proofs.YtgnicnaiaijdcaaDoor
set_option linter.unusedVariables false
set_option linter.unusedSimpArgs false
open Go.RowKit

/-- The first j products of row i and column k, summed up. -/
def mxp (a b : List Int) (n q i k j : Nat) : Int := wrap64 (sg (fun j => a.getD (i * n + j) 0 * b.getD (j * q + k) 0) j)
theorem mxp_zero (a b : List Int) (n q i k : Nat) : mxp a b n q i k 0 = 0 := by rw [mxp, sg]; unfold wrap64; omega
theorem mxp_succ (a b : List Int) (n q i k j : Nat) : wrap64 (mxp a b n q i k j + wrap64 (a.getD (i * n + j) 0 * b.getD (j * q + k) 0)) = mxp a b n q i k (j + 1) := by
  rw [mxp, mxp, sg]
  unfold wrap64
  omega

set_option maxRecDepth 100000 in
set_option maxHeartbeats 2000000 in
theorem crossed_ok {a0 a1 b0 b1 : Value} {p q r i k Nq Mq : Nat} {l m : List Int} {w : World} {db dof dc ab ao ac eb eof ec bb bo bc : Nat}
    (A : MatC w a0 a1 p q Nq l db dof dc ab ao ac) (B : MatC w b0 b1 q r Mq m eb eof ec bb bo bc) (hNq : p * q = Nq) (hMq : q * r = Mq) (hn64 : Nq ≤ 64) (hm64 : Mq ≤ 64) (hp8 : p ≤ 8) (hq8 : q ≤ 8) (hr8 : r ≤ 8) (hi : i < p) (hk : k < r) :
    Calls Tryd.prog 29 #[.agg #[a0, a1], .agg #[b0, b1], .int .i64 i, .int .i64 k] w fun e w' => e = .returned (.int .i64 (mxe l m q r i k)) ∧ Below w.heap.size w w' := by
  obtain rfl := A.e0
  obtain rfl := A.e1
  obtain rfl := B.e0
  obtain rfl := B.e1
  have hdc := A.hdc
  have hec := B.hdc
  have hac := A.hac
  have hbc := B.hac
  have HNM : Hid (p * q = Nq ∧ q * r = Mq) := ⟨hNq, hMq⟩
  obtain ⟨U, hU⟩ : ∃ U, U = ((w.alloc (.cells #[(.slice (some ⟨db, dof, none⟩) 2 dc), (.slice (some ⟨ab, ao, none⟩) Nq ac)] 28)).alloc (.cells #[(.slice (some ⟨eb, eof, none⟩) 2 ec), (.slice (some ⟨bb, bo, none⟩) Mq bc)] 28)) := ⟨_, rfl⟩
  have hb : Below w.heap.size w U := by rw [hU]; exact ((Below.refl _ _).alloc (Nat.le_refl _) _).alloc (by simp) _
  have HB : Hid (Below w.heap.size w U) := hb
  have HBA : Hid (Box U w.heap.size (.slice (some ⟨db, dof, none⟩) 2 dc) (.slice (some ⟨ab, ao, none⟩) Nq ac)) := by show Box _ _ _ _; rw [hU]; exact (Box.new w _ _).alloc _
  have HBB : Hid (Box U (w.heap.size + 1) (.slice (some ⟨eb, eof, none⟩) 2 ec) (.slice (some ⟨bb, bo, none⟩) Mq bc)) := by
    show Box _ _ _ _
    have := Box.new (w.alloc (.cells #[(.slice (some ⟨db, dof, none⟩) 2 dc), (.slice (some ⟨ab, ao, none⟩) Nq ac)] 28)) (.slice (some ⟨eb, eof, none⟩) 2 ec) (.slice (some ⟨bb, bo, none⟩) Mq bc)
    simp only [World.size_alloc] at this
    rw [hU]
    exact this
  have c0 := HBA.out.c0
  have c1 := HBA.out.c1
  have c2 := HBB.out.c0
  have c3 := HBB.out.c1
  have c4 := cell_later hb A.c1
  have c5 := cell_later hb B.c1
  have HYA : Hid (∀ i, i < Nq → U.cell? ⟨ab, ao + i, none⟩ = some (.int .i64 (l.getD i 0))) := fun i hi => cell_later hb (A.cd i hi)
  have HYB : Hid (∀ i, i < Mq → U.cell? ⟨bb, bo + i, none⟩ = some (.int .i64 (m.getD i 0))) := fun i hi => cell_later hb (B.cd i hi)
  clear A B hb hNq hMq
  go_enter Tryd.func29, Tryd.ntmps29
  go_wp2_with fail
  rw [← hU]
  clear hU
  go_quiet (fail)
  go_wp2
  go_loopw [9, 22] (fun y x w' => ∃ j n : Nat, j ≤ q ∧ x = .int .i64 j ∧ y = .int .i64 (mxp l m q r i k j) ∧ w' = U.drewN n) (fun _ x _ => q - (intOf x).toNat)
  case atStart => exact ⟨0, _, by omega, rfl, by rw [mxp_zero], rfl⟩
  case round =>
    obtain ⟨j, n, hj, rfl, rfl, rfl⟩ := hrel
    by_cases hlj : j < q
    · have hiq : i * q + j < p * q := rc_lt hi hlj
      have hjr : j * r + k < q * r := rc_lt hlj hk
      rw [HNM.out.1] at hiq
      rw [HNM.out.2] at hjr
      have HS : Hid (wrap64 (mxp l m q r i k j + wrap64 (l.getD (i * q + j) 0 * m.getD (j * r + k) 0)) = mxp l m q r i k (j + 1)) := mxp_succ l m q r i k j
      have e0 : (i : Int) * q = ((i * q : Nat) : Int) := by simp
      have e1 : (j : Int) * r = ((j * r : Nat) : Int) := by simp
      obtain ⟨iq, hiq'⟩ : ∃ x, i * q = x := ⟨_, rfl⟩
      obtain ⟨jr, hjr'⟩ : ∃ x, j * r = x := ⟨_, rfl⟩
      rw [hiq'] at hiq e0 HS
      rw [hjr'] at hjr e1 HS
      have z0 : IntKind.i64.wrap ((i : Int) * q) = (iq : Int) := by rw [e0]; exact wrap_small _ (by omega) (by omega)
      have z1 : IntKind.i64.wrap ((j : Int) * r) = (jr : Int) := by rw [e1]; exact wrap_small _ (by omega) (by omega)
      have z2 : IntKind.i64.wrap ((iq : Int) + j) = ((iq + j : Nat) : Int) := by rw [wrap_small _ (by omega) (by omega)]; simp
      have z3 : IntKind.i64.wrap ((jr : Int) + k) = ((jr + k : Nat) : Int) := by rw [wrap_small _ (by omega) (by omega)]; simp
      obtain ⟨R, hR⟩ : ∃ x, iq + j = x := ⟨_, rfl⟩
      obtain ⟨T, hT⟩ : ∃ x, jr + k = x := ⟨_, rfl⟩
      rw [hR] at z2 hiq HS
      rw [hT] at z3 hjr HS
      have v0' := HYA.out R hiq
      have v1' := HYB.out T hjr
      have z4 : (0 : Int) ≤ (R : Int) := by omega
      have z5 : (R : Int) < Nq := by omega
      have z6 : (0 : Int) ≤ (T : Int) := by omega
      have z7 : (T : Int) < Mq := by omega
      clear hiq' hjr' hR hT e0 e1
      go_wp2_with fail
      go_quiet (fail)
      go_wp2
      go_roundw
      case rel => exact ⟨j + 1, _, by omega, by go_num, by rw [← HS.out]; rfl, rfl⟩
      case measure => simp [intOf]; omega
    · have hj' : j = q := by omega
      subst hj'
      have HF : Hid (mxp l m j r i k j = mxe l m j r i k) := rfl
      obtain ⟨F, hF⟩ : ∃ F, mxp l m j r i k j = F := ⟨_, rfl⟩
      rw [hF] at HF ⊢
      clear hF
      go_wp2
      go_ret
      exact ⟨by rw [HF.out]; rfl, Below.drewN HB.out _⟩
end Go.Proofs.YtgnicnaiaijdcaaDoor
