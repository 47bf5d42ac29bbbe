/- The law on words back: a loop. -/
import Derived.Test.YtipioeecgcljoaaDoorLK1a
import Derived.Test.YtipioeecgcljoaaDoorLK1c
import Derived.Test.YtipioeecgcljoaaDoorLK1d
namespace Go.Proofs.YtipioeecgcljoaaDoor
set_option linter.unusedVariables false
set_option linter.unusedSimpArgs false
set_option maxRecDepth 100000
open Go.RowKit

set_option maxRecDepth 1000000 in
set_option maxHeartbeats 16000000 in
theorem bloop3 {B i ln lc : Nat} {la : Option Addr} {x : ByteArray} {l : List Tok} {W : World} {Q : Exit → Act → World → Prop}
    (hx : x.size ≤ 500) (hln : ln ≤ 1002) (HLN : Hid (l.length = ln)) (HTK : Hid (∀ t ∈ l, TokOK x t))
    (HHL : Hid (Holds W (.slice la ln lc) l.length (cellsT l)))
    (hexit : ∀ a' w' sv k, FrB3 B i ln lc la sv k a' → Built sv (l.map Prod.fst) → sv.size ≤ 600000 → Below W.heap.size W w' → Q (.exit 4) a' w')
    (a : Act) (w : World) (ha : FrB3 B i ln lc la ⟨#[32]⟩ 0 a) (hb : Below W.heap.size W w) :
    Code.wp Tryd.prog (.loop (((Tryd.f5.body.map loopsIn).getD []).getD 2 .skip)) Q a w := by
  refine wp_loop (fun a' w' => (∃ (sv : ByteArray) (k : Nat), (k ≤ ln ∧ Built sv ((l.take k).map Prod.fst) ∧ sv.size ≤ 1 + 502 * k) ∧ FrB3 B i ln lc la sv k a') ∧ Below W.heap.size W w') (fun a' _ => ln - slotNat a' 17) ⟨⟨⟨#[32]⟩, 0, ⟨by omega, Built.start, by decide⟩, ha⟩, hb⟩ ?_
  clear ha hb
  clear a w
  intro a w ⟨⟨sv, k, ⟨hk, hbu, hsz⟩, hf⟩, hb⟩
  obtain ⟨G, hg, e⟩ := act232 a hf.d hf.s
  obtain ⟨hz1, hz2, g1, g12, g13, g16, g17⟩ := hf
  rw [hg] at g1 g12 g13 g16 g17 
  clear hz1 hz2
  subst e
  clear hg
  rw [g1, g12, g13, g16, g17]
  clear g1 g12 g13 g16 g17 
  have HEX : Hid (∀ a' w' sv k, FrB3 B i ln lc la sv k a' → Built sv (l.map Prod.fst) → sv.size ≤ 600000 → Below W.heap.size W w' → Q (.exit 4) a' w') := hexit
  have HB : Hid (Below W.heap.size W w) := hb
  have HBU : Hid (Built sv ((l.take k).map Prod.fst)) := hbu
  clear hexit hb hbu
  conv => arg 2; whnf
  by_cases hlt : k < ln
  · obtain ⟨lb, lo, e1, c0, c1⟩ := cells_t (HHL.out.later HB.out) k (by have := HLN.out; omega)
    subst e1
    obtain ⟨t, ht⟩ : ∃ t, l[k]'(by have := HLN.out; omega) = t := ⟨_, rfl⟩
    have HTT : Hid (TokOK x t) := HTK.out t (by rw [← ht]; exact List.getElem_mem _)
    have htl : t.1.size ≤ 500 := by have := HTT.out.1; omega
    have HTA : Hid ((l.take (k + 1)).map Prod.fst = (l.take k).map Prod.fst ++ [t.1]) := by
      show _ = _
      rw [List.take_succ_eq_append_getElem (by have := HLN.out; omega), ht, List.map_append]
      rfl
    rw [ht] at c0
    clear ht c1
    go_upto_region 22 with fail
    have hm : k % 3 = 0 ∨ k % 3 = 1 ∨ k % 3 = 2 := by omega
    rcases hm with hm | hm | hm
    · refine breg22_0 hlt hm (by omega) (by omega) (by omega) c0 ?_ _ ⟨rfl, rfl, rfl, rfl, rfl, rfl, rfl⟩
      intro a7 w7 hf7 hb7
      obtain ⟨G7, hg7, e7⟩ := act232 a7 hf7.d hf7.s
      obtain ⟨hz1, hz2, g1, g12, g13, g16, g17⟩ := hf7
      rw [hg7] at g1 g12 g13 g16 g17 
      clear hz1 hz2
      subst e7
      clear hg7
      rw [g1, g12, g13, g16, g17]
      clear g1 g12 g13 g16 g17 
      have HBZ : Hid (Below W.heap.size W w7) := Below.after HB.out hb7
      have HBN : Hid (Built (sv ++ t.1 ++ ⟨#[32]⟩) ((l.take (k + 1)).map Prod.fst)) := by show Built _ _; rw [HTA.out]; exact HBU.out.next HTT.out.2.2 gap1
      have HSN : Hid ((sv ++ t.1 ++ ⟨#[32]⟩).size ≤ 1 + 502 * (k + 1)) := by
        have e0 : (⟨#[32]⟩ : ByteArray).size = 1 := rfl
        show _ ≤ _
        rw [app_size, app_size, e0]
        omega
      clear hb7 c0
      go_wp2
      refine ⟨⟨⟨_, k + 1, ⟨by omega, HBN.out, HSN.out⟩, rfl, rfl, rfl, rfl, rfl, rfl, ?_⟩, HBZ.out⟩, ?_⟩
      · show Value.int .i64 _ = _
        go_num
      · show ln - (intOf (Value.int .i64 _)).toNat < ln - (intOf (Value.int .i64 _)).toNat
        simp [intOf]
        omega
    · refine breg22_1 hlt hm (by omega) (by omega) (by omega) c0 ?_ _ ⟨rfl, rfl, rfl, rfl, rfl, rfl, rfl⟩
      intro a7 w7 hf7 hb7
      obtain ⟨G7, hg7, e7⟩ := act232 a7 hf7.d hf7.s
      obtain ⟨hz1, hz2, g1, g12, g13, g16, g17⟩ := hf7
      rw [hg7] at g1 g12 g13 g16 g17 
      clear hz1 hz2
      subst e7
      clear hg7
      rw [g1, g12, g13, g16, g17]
      clear g1 g12 g13 g16 g17 
      have HBZ : Hid (Below W.heap.size W w7) := Below.after HB.out hb7
      have HBN : Hid (Built (sv ++ t.1 ++ ⟨#[32, 32]⟩) ((l.take (k + 1)).map Prod.fst)) := by show Built _ _; rw [HTA.out]; exact HBU.out.next HTT.out.2.2 gap2
      have HSN : Hid ((sv ++ t.1 ++ ⟨#[32, 32]⟩).size ≤ 1 + 502 * (k + 1)) := by
        have e0 : (⟨#[32, 32]⟩ : ByteArray).size = 2 := rfl
        show _ ≤ _
        rw [app_size, app_size, e0]
        omega
      clear hb7 c0
      go_wp2
      refine ⟨⟨⟨_, k + 1, ⟨by omega, HBN.out, HSN.out⟩, rfl, rfl, rfl, rfl, rfl, rfl, ?_⟩, HBZ.out⟩, ?_⟩
      · show Value.int .i64 _ = _
        go_num
      · show ln - (intOf (Value.int .i64 _)).toNat < ln - (intOf (Value.int .i64 _)).toNat
        simp [intOf]
        omega
    · refine breg22_2 hlt hm (by omega) (by omega) (by omega) c0 ?_ _ ⟨rfl, rfl, rfl, rfl, rfl, rfl, rfl⟩
      intro a7 w7 hf7 hb7
      obtain ⟨G7, hg7, e7⟩ := act232 a7 hf7.d hf7.s
      obtain ⟨hz1, hz2, g1, g12, g13, g16, g17⟩ := hf7
      rw [hg7] at g1 g12 g13 g16 g17 
      clear hz1 hz2
      subst e7
      clear hg7
      rw [g1, g12, g13, g16, g17]
      clear g1 g12 g13 g16 g17 
      have HBZ : Hid (Below W.heap.size W w7) := Below.after HB.out hb7
      have HBN : Hid (Built (sv ++ t.1 ++ ⟨#[9]⟩) ((l.take (k + 1)).map Prod.fst)) := by show Built _ _; rw [HTA.out]; exact HBU.out.next HTT.out.2.2 gap3
      have HSN : Hid ((sv ++ t.1 ++ ⟨#[9]⟩).size ≤ 1 + 502 * (k + 1)) := by
        have e0 : (⟨#[9]⟩ : ByteArray).size = 1 := rfl
        show _ ≤ _
        rw [app_size, app_size, e0]
        omega
      clear hb7 c0
      go_wp2
      refine ⟨⟨⟨_, k + 1, ⟨by omega, HBN.out, HSN.out⟩, rfl, rfl, rfl, rfl, rfl, rfl, ?_⟩, HBZ.out⟩, ?_⟩
      · show Value.int .i64 _ = _
        go_num
      · show ln - (intOf (Value.int .i64 _)).toNat < ln - (intOf (Value.int .i64 _)).toNat
        simp [intOf]
        omega
  · have HLL : Hid (l.take k = l) := List.take_of_length_le (by have := HLN.out; omega)
    go_wp2
    exact HEX.out _ _ sv k ⟨rfl, rfl, rfl, rfl, rfl, rfl, rfl⟩ (by have h := HBU.out; rw [HLL.out] at h; exact h) (by omega) HB.out
end Go.Proofs.YtipioeecgcljoaaDoor
