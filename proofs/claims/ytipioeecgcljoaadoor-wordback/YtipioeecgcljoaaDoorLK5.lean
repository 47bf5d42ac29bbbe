/- The law on words back: a loop. -/
import Derived.Test.YtipioeecgcljoaaDoorLK1
namespace Go.Proofs.YtipioeecgcljoaaDoor
set_option linter.unusedVariables false
set_option linter.unusedSimpArgs false
set_option maxRecDepth 100000
open Go.RowKit

set_option maxRecDepth 1000000 in
set_option maxHeartbeats 16000000 in
theorem bloop1 {B nN cN : Nat} {pN : Option Addr} {L : List Int} {W : World} {Q : Exit → Act → World → Prop}
    (HLS : Hid (L.length = nN)) (HCB : Hid (W.cell? ⟨B, 1, none⟩ = some (.slice pN nN cN))) (HPT : Hid (PowT W))
    (HRS : Hid (∀ j u, (L.map (Value.int .i64))[j]? = some u → ∃ b off, pN = some ⟨b, off, none⟩ ∧ W.cell? ⟨b, off + j, none⟩ = some u))
    (hexit : ∀ a' w' i, FrB1 B i a' → Below W.heap.size W w' → Q (.exit 0) a' w')
    (a : Act) (w : World) (ha : FrB1 B 0 a) (hb : Below W.heap.size W w) :
    Code.wp Tryd.prog (.loop (((Tryd.f5.body.map loopsIn).getD []).getD 0 .skip)) Q a w := by
  refine wp_loop (fun a' w' => (∃ i : Nat, i ≤ nN ∧ FrB1 B i a') ∧ Below W.heap.size W w') (fun a' _ => nN - slotNat a' 3) ⟨⟨0, by omega, ha⟩, hb⟩ ?_
  clear ha hb
  clear a w
  intro a w ⟨⟨i, hk, hf⟩, hb⟩
  obtain ⟨G, hg, e⟩ := act232 a hf.d hf.s
  obtain ⟨hz1, hz2, g1, g3⟩ := hf
  rw [hg] at g1 g3 
  clear hz1 hz2
  subst e
  clear hg
  rw [g1, g3]
  clear g1 g3 
  have HEX : Hid (∀ a' w' i, FrB1 B i a' → Below W.heap.size W w' → Q (.exit 0) a' w') := hexit
  have HB : Hid (Below W.heap.size W w) := hb
  have HPW : Hid (PowT w) := HPT.out.later hb
  have hcb := cell_later hb HCB.out
  clear hexit hb
  conv => arg 2; whnf
  by_cases hlt : i < nN
  · by_cases h8 : i < 16
    · have g8 : (i : Int) < 16 := by omega
      have hiS : i < L.length := by have := HLS.out; omega
      obtain ⟨pb, po, rfl, hx0⟩ := HRS.out i (.int .i64 L[i]) (by simp [hiS])
      have hx1 := cell_later HB.out hx0
      obtain ⟨n, hx⟩ : ∃ n, L[i] = n := ⟨_, rfl⟩
      rw [hx] at hx1
      clear hx hx0
      by_cases hr : n < -1073741824 ∨ 1073741824 < n
      · have HDG : Hid (∀ w, Calls Tryd.prog 19 #[.int .i64 n] w fun e w' => e = .returned (.tuple #[.string ⟨#[]⟩, .int .i64 1]) ∧ w = w') := fun w => digits_bad n w hr
        clear hr
        go_wp2_with (first
          | (go_at_call 19; refine (HDG.out _).mono ?_; rintro e w2 ⟨rfl, rfl⟩; skip)
          | (go_at_call 10; refine (num_to _ _).mono ?_; rintro e w' ⟨rfl, rfl⟩))
        refine ⟨⟨⟨i + 1, by omega, rfl, rfl, rfl, ?_⟩, HB.out⟩, ?_⟩
        · show Value.int .i64 _ = _
          go_num
        · show nN - (intOf (Value.int .i64 _)).toNat < nN - (intOf (Value.int .i64 _)).toNat
          simp [intOf]
          omega
      · have h1 : -1073741824 ≤ n := by omega
        have h2 : n ≤ 1073741824 := by omega
        clear hr
        have gn : (n != n) = false := by simp
        go_wp2_with (first
          | (go_at_call 19; refine (digits_str n _ h1 h2 HPW.out).mono ?_; rintro e w2 ⟨⟨t, rfl, hts, htl⟩, hb2⟩; have HB2 : Hid (Below w.heap.size w w2) := hb2; have HTL : Hid (t.data.toList = Lib.itoa n) := htl; have HZ : Hid (¬ numP ((⟨#[48]⟩ : ByteArray) ++ t).data.toList) := (by show ¬ _; rw [app_list, htl]; exact not_zero_ahead _ (itoa_ne n h1 h2)); have HP : Hid (¬ numP ((⟨#[43]⟩ : ByteArray) ++ t).data.toList) := (by show ¬ _; rw [app_list]; exact not_plus_ahead _); have hc2 := cell_later hb2 hcb; have hx2 := cell_later hb2 hx1; clear hb2 htl)
          | (go_at_call 10; refine (num_to _ _).mono ?_; rintro e w' ⟨rfl, rfl⟩)
          | fail)
        refine (number_dig n t _ h1 h2 HTL.out).mono ?_
        rintro e w3 ⟨rfl, hb3⟩
        have HB3 : Hid (Below w.heap.size w w3) := Below.after HB2.out hb3
        have hc3 := cell_later hb3 hc2
        have hx3 := cell_later hb3 hx2
        clear hb3 hc2 hx2
        go_wp2_with fail
        refine (number_bad _ _ HZ.out).mono ?_
        rintro e w4 ⟨rfl, hb4⟩
        have HB4 : Hid (Below w.heap.size w w4) := Below.after HB3.out hb4
        have hc4 := cell_later hb4 hc3
        have hx4 := cell_later hb4 hx3
        clear hb4 hc3 hx3
        go_wp2_with fail
        refine (number_bad _ _ HP.out).mono ?_
        rintro e w5 ⟨rfl, hb5⟩
        have HBZ : Hid (Below W.heap.size W w5) := Below.after HB.out (Below.after HB4.out hb5)
        have hc5 := cell_later hb5 hc4
        have hx5 := cell_later hb5 hx4
        clear hb5 hc4 hx4
        go_wp2_with (go_at_call 10; refine (num_to _ _).mono ?_; rintro e w' ⟨rfl, rfl⟩)
        refine ⟨⟨⟨i + 1, by omega, rfl, rfl, rfl, ?_⟩, HBZ.out⟩, ?_⟩
        · show Value.int .i64 _ = _
          go_num
        · show nN - (intOf (Value.int .i64 _)).toNat < nN - (intOf (Value.int .i64 _)).toNat
          simp [intOf]
          omega
    · have g8 : ¬ (i : Int) < 16 := by omega
      go_wp2
      exact HEX.out _ _ i ⟨rfl, rfl, rfl, rfl⟩ HB.out
  · skip
    go_wp2
    exact HEX.out _ _ i ⟨rfl, rfl, rfl, rfl⟩ HB.out
end Go.Proofs.YtipioeecgcljoaaDoor
