/- ShapePlaces: its loop over tensors. -/
import Derived.Test.YthkmcjniibohkaaAct
import Derived.Deep.DeepCutAuto
import Derived.Deep.RegionHeld3
namespace Go.Proofs.Ythkmcjniibohkaa
set_option linter.unusedVariables false
set_option linter.unusedSimpArgs false
open Go.RowKit

theorem tensr_at {W w : World} {v0 v1 : Value} {t : List Int × List Int} (x : Int) (h : Tens W v0 v1 t) (hx : tkE t = x) (hb : Below W.heap.size W w) :
    Calls Try.prog 29 #[.agg #[v0, v1]] w fun e w' => e = .returned (.int .i64 x) ∧ Below W.heap.size W w' := by
  subst hx
  refine (tensor_any ⟨h.1.later hb, h.2.later hb⟩).mono ?_
  rintro e w' ⟨rfl, h2⟩
  exact ⟨rfl, Below.after hb h2⟩
theorem rtensr_at {W w : World} {v0 v1 : Value} {t : List Int × List Int} (x : Bool) (h : Tens W v0 v1 t) (hx : tok t = x) (hb : Below W.heap.size W w) :
    Calls Try.prog 30 #[.agg #[v0, v1]] w fun e w' => e = .returned (.bool x) ∧ Below W.heap.size W w' := by
  subst hx
  refine (rtensor_any ⟨h.1.later hb, h.2.later hb⟩).mono ?_
  rintro e w' ⟨rfl, h2⟩
  exact ⟨rfl, Below.after hb h2⟩
theorem TensL.row {w : World} {a : Option Addr} {c : Nat} {L : List (List Int × List Int)} (h : TensL w (.slice a L.length c) L) (i : Nat) (hi : i < L.length) :
    ∃ b off xa xc ya yc, a = some ⟨b, off, none⟩ ∧ w.cell? ⟨b, off + i * 2, none⟩ = some (.slice xa L[i].1.length xc) ∧ w.cell? ⟨b, off + i * 2 + 1, none⟩ = some (.slice ya L[i].2.length yc) ∧ Hid (Tens w (.slice xa L[i].1.length xc) (.slice ya L[i].2.length yc) L[i]) := by
  obtain ⟨_, a', c', e, _, hrow⟩ := h
  simp only [Value.slice.injEq, true_and] at e
  obtain ⟨rfl, rfl⟩ := e
  obtain ⟨b, off, x, y, ha, hc1, hc2, hx, hy⟩ := hrow i hi
  obtain ⟨xa, xc, rfl⟩ := hx.shape
  obtain ⟨ya, yc, rfl⟩ := hy.shape
  exact ⟨b, off, xa, xc, ya, yc, ha, hc1, hc2, hx, hy⟩

structure Fr6 (B : Nat) (a : Act) : Prop where
  d : a.defers = []
  s : a.tmps.size = 371
  f1 : a.tmps.getD 1 undef = .pointer (some ⟨B, 0, none⟩)

set_option maxRecDepth 1000000 in
set_option maxHeartbeats 4000000 in
theorem loop6 {B c3 : Nat} {a3 : Option Addr} {T : List (List Int × List Int)} {W : World} {Q : Exit → Act → World → Prop}
    (hT : T.length ≤ 17592186044416) (hcT : T.length ≤ c3) (HBX : Hid (W.cell? ⟨B, 3, none⟩ = some (.slice a3 T.length c3))) (HT : Hid (TensL W (.slice a3 T.length c3) T))
    (hexit : ∀ a' w', Fr6 B a' → Below W.heap.size W w' → Q (.exit 10) a' w')
    (a : Act) (w : World) (ha : Fr6 B a) (hs : a.tmps.getD 36 undef = .int .i64 0) (hb : Below W.heap.size W w) :
    Code.wp Try.prog (.loop (((Try.f3.body.map loopsIn).getD []).getD 5 .skip)) Q a w := by
  refine wp_loop (fun a' w' => Fr6 B a' ∧ (∃ k : Nat, k ≤ T.length ∧ k ≤ 6 ∧ a'.tmps.getD 36 undef = .int .i64 k) ∧ Below W.heap.size W w') (fun a' _ => 6 - slotNat a' 36) ⟨ha, ⟨0, by omega, by omega, hs⟩, hb⟩ ?_
  clear hs ha hb
  clear a w
  intro a w ⟨hf, ⟨k, hk, hk6, hs⟩, hb⟩
  obtain ⟨G, hg, e⟩ := act371 a hf.d hf.s
  obtain ⟨hz1, hz2, g1⟩ := hf
  rw [hg] at g1 hs
  clear hz1 hz2
  subst e
  clear hg
  rw [g1, hs]
  have HEX : Hid (∀ a' w', Fr6 B a' → Below W.heap.size W w' → Q (.exit 10) a' w') := hexit
  have HB : Hid (Below W.heap.size W w) := hb
  have hbx := cell_later hb HBX.out
  have HTW := HT.out.later hb
  clear hexit hb g1 hs
  conv => arg 2; whnf
  by_cases hlt : k < T.length
  · by_cases hlt6 : k < 6
    · obtain ⟨tb, tof, xa, xc, ya, yc, rfl, hc1, hc2, HTT⟩ := HTW.row k hlt
      clear HTW
      obtain ⟨z, hz⟩ : ∃ z, tok T[k] = z := ⟨_, rfl⟩
      have HZ : Hid (tok T[k] = z) := hz
      have HZE : Hid (tkE T[k] = if z then 0 else 1) := by show _ = _; rw [tkE, hz]
      clear hz
      go_upto_region 65 with fail
      refine wp_cut (fun a' w' => Fr6 B a' ∧ a'.tmps.getD 36 undef = .int .i64 k ∧ a'.tmps.getD 369 undef = .bool false ∧ Below w.heap.size w w') ?_ ?_
      · intro a5 w5 ⟨hf5, h36, h369, hb5⟩
        obtain ⟨G5, hg5, e5⟩ := act371 a5 hf5.d hf5.s
        obtain ⟨hz1, hz2, g1⟩ := hf5
        rw [hg5] at g1 h36 h369
        clear hz1 hz2
        subst e5
        clear hg5
        rw [g1, h36, h369]
        clear g1 h36 h369
        go_wp2
        refine ⟨⟨⟨rfl, rfl, rfl⟩, ⟨k + 1, by omega, by omega, ?_⟩, Below.after HB.out hb5⟩, ?_⟩
        · show Value.int .i64 _ = _
          go_num
        · show 6 - (intOf (Value.int .i64 _)).toNat < 6 - (intOf (Value.int .i64 _)).toNat
          simp [intOf]
          omega
      · intro J K' hJ hK'
        have HJ : Hid _ := hJ
        have HK' : Hid _ := hK'
        clear hJ hK'
        cases z with
        | true =>
          have HZ0 : Hid (tkE T[k] = 0) := HZE.out
          clear HZE
          go_region_held3 (fun w' => w'.cell? ⟨B, 3, none⟩ = some (.slice (some ⟨tb, tof, none⟩) T.length c3) ∧ w'.cell? ⟨tb, tof + k * 2, none⟩ = some (.slice xa T[k].1.length xc) ∧ w'.cell? ⟨tb, tof + k * 2 + 1, none⟩ = some (.slice ya T[k].2.length yc)) (refine ⟨?_, ?_, ?_⟩ <;> first | assumption | exact hbx | exact hc1 | exact hc2)
            (first
              | (go_at_call 29; refine (tensr_at 0 HTT.out HZ0.out ?_).mono ?_; exact (by first | exact HQ.out | exact (Below.refl _ _).drew); rintro e w' ⟨rfl, hq⟩; have hbx1 := cell_later hq hbx; have hc11 := cell_later hq hc1; have hc21 := cell_later hq hc2; have HQ : Hid (Below w.heap.size w w') := hq; clear hq)
              | (go_at_call 14; refine (num_any _ _).mono ?_; rintro e w' ⟨rfl, rfl⟩)
              | (go_at_call 30; refine (rtensr_at true HTT.out HZ.out ?_).mono ?_; exact (by first | exact HQ.out | exact (Below.refl _ _).drew); rintro e w' ⟨rfl, hq⟩; have hbx2 := cell_later hq hbx; have hc12 := cell_later hq hc1; have hc22 := cell_later hq hc2; have HQ2 : Hid (Below w.heap.size w w') := hq; clear hq))
          all_goals
            refine HK'.out _ _ (Met.intro (HJ.out _ _ ⟨⟨rfl, rfl, rfl⟩, rfl, rfl, HQ2.out⟩))
        | false =>
          have HZ0 : Hid (tkE T[k] = 1) := HZE.out
          clear HZE
          go_region_held3 (fun w' => w'.cell? ⟨B, 3, none⟩ = some (.slice (some ⟨tb, tof, none⟩) T.length c3) ∧ w'.cell? ⟨tb, tof + k * 2, none⟩ = some (.slice xa T[k].1.length xc) ∧ w'.cell? ⟨tb, tof + k * 2 + 1, none⟩ = some (.slice ya T[k].2.length yc)) (refine ⟨?_, ?_, ?_⟩ <;> first | assumption | exact hbx | exact hc1 | exact hc2)
            (first
              | (go_at_call 29; refine (tensr_at 1 HTT.out HZ0.out ?_).mono ?_; exact (by first | exact HQ.out | exact (Below.refl _ _).drew); rintro e w' ⟨rfl, hq⟩; have hbx1 := cell_later hq hbx; have hc11 := cell_later hq hc1; have hc21 := cell_later hq hc2; have HQ : Hid (Below w.heap.size w w') := hq; clear hq)
              | (go_at_call 14; refine (num_any _ _).mono ?_; rintro e w' ⟨rfl, rfl⟩)
              | (go_at_call 30; refine (rtensr_at false HTT.out HZ.out ?_).mono ?_; exact (by first | exact HQ.out | exact (Below.refl _ _).drew); rintro e w' ⟨rfl, hq⟩; have hbx2 := cell_later hq hbx; have hc12 := cell_later hq hc1; have hc22 := cell_later hq hc2; have HQ2 : Hid (Below w.heap.size w w') := hq; clear hq))
          all_goals
            refine HK'.out _ _ (Met.intro (HJ.out _ _ ⟨⟨rfl, rfl, rfl⟩, rfl, rfl, HQ2.out⟩))
    · have h := HTW
      clear HTW h
      go_wp2
      exact HEX.out _ _ ⟨rfl, rfl, rfl⟩ HB.out
  · clear HTW
    go_wp2
    exact HEX.out _ _ ⟨rfl, rfl, rfl⟩ HB.out
end Go.Proofs.Ythkmcjniibohkaa
