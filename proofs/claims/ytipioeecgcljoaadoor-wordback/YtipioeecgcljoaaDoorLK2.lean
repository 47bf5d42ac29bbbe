/- The law on words back: a loop. -/
import Derived.Test.YtipioeecgcljoaaDoorLK1b
namespace Go.Proofs.YtipioeecgcljoaaDoor
set_option linter.unusedVariables false
set_option linter.unusedSimpArgs false
set_option maxRecDepth 100000
open Go.RowKit

set_option maxRecDepth 1000000 in
set_option maxHeartbeats 16000000 in
theorem bloop4 {B i ln lc mc pb po nS cS : Nat} {la ma : Option Addr} {x : ByteArray} {l m : List Tok} {W : World} {Q : Exit → Act → World → Prop}
    (hi : i < nS) (hx : x.size ≤ 500) (hln : ln ≤ 1000000) (HLN : Hid (l.length = ln ∧ m.length = ln ∧ m.map Prod.fst = l.map Prod.fst)) (HTK : Hid (∀ t ∈ l, TokOK x t))
    (HCB : Hid (W.cell? ⟨B, 0, none⟩ = some (.slice (some ⟨pb, po, none⟩) nS cS))) (HCX : Hid (W.cell? ⟨pb, po + i, none⟩ = some (.string x)))
    (HHL : Hid (Holds W (.slice la ln lc) l.length (cellsT l))) (HHM : Hid (Holds W (.slice ma ln mc) m.length (cellsT m)))
    (hexit : ∀ a' w' k, FrB4 B i ln lc mc la ma k a' → Below W.heap.size W w' → Q (.exit 6) a' w')
    (a : Act) (w : World) (ha : FrB4 B i ln lc mc la ma 0 a) (hb : Below W.heap.size W w) :
    Code.wp Tryd.prog (.loop (((Tryd.f5.body.map loopsIn).getD []).getD 3 .skip)) Q a w := by
  refine wp_loop (fun a' w' => (∃ k : Nat, k ≤ ln ∧ FrB4 B i ln lc mc la ma k a') ∧ Below W.heap.size W w') (fun a' _ => ln - slotNat a' 21) ⟨⟨0, by omega, ha⟩, hb⟩ ?_
  clear ha hb
  clear a w
  intro a w ⟨⟨k, hk, hf⟩, hb⟩
  obtain ⟨G, hg, e⟩ := act232 a hf.d hf.s
  obtain ⟨hz1, hz2, g1, g12, g13, g18, g21⟩ := hf
  rw [hg] at g1 g12 g13 g18 g21 
  clear hz1 hz2
  subst e
  clear hg
  rw [g1, g12, g13, g18, g21]
  clear g1 g12 g13 g18 g21 
  have HEX : Hid (∀ a' w' k, FrB4 B i ln lc mc la ma k a' → Below W.heap.size W w' → Q (.exit 6) a' w') := hexit
  have HB : Hid (Below W.heap.size W w) := hb
  clear hexit hb
  conv => arg 2; whnf
  by_cases hlt : k < ln
  · obtain ⟨lb, lo, e1, c0, c1⟩ := cells_t (HHL.out.later HB.out) k (by have := HLN.out.1; omega)
    obtain ⟨mb, mo, e2, d0, d1⟩ := cells_t (HHM.out.later HB.out) k (by have := HLN.out.2.1; omega)
    subst e1 e2
    obtain ⟨t, ht⟩ : ∃ t, l[k]'(by have := HLN.out.1; omega) = t := ⟨_, rfl⟩
    have HTT : Hid (TokOK x t) := HTK.out t (by rw [← ht]; exact List.getElem_mem _)
    have hmt : (m[k]'(by have := HLN.out.2.1; omega)).1 = t.1 := by
      have h1 := HLN.out.2.2
      have h2 : (m.map Prod.fst)[k]? = (l.map Prod.fst)[k]? := by rw [h1]
      rw [List.getElem?_map, List.getElem?_map, List.getElem?_eq_getElem (by have := HLN.out.2.1; omega), List.getElem?_eq_getElem (by have := HLN.out.1; omega), ht] at h2
      simpa using h2
    rw [ht] at c0 c1
    rw [hmt] at d0
    clear ht hmt d1
    go_upto_region 29 with fail
    refine breg29 hlt hi hx HTT.out.1 HTT.out.2.1 hln (cell_later HB.out HCB.out) (cell_later HB.out HCX.out) d0 c0 c1 ?_ _ ⟨rfl, rfl, rfl, rfl, rfl, rfl, rfl⟩
    intro a7 w7 hf7 h230 hb7
    obtain ⟨G7, hg7, e7⟩ := act232 a7 hf7.d hf7.s
    obtain ⟨hz1, hz2, g1, g12, g13, g18, g21⟩ := hf7
    rw [hg7] at g1 g12 g13 g18 g21 h230
    clear hz1 hz2
    subst e7
    clear hg7
    rw [g1, g12, g13, g18, g21, h230]
    clear g1 g12 g13 g18 g21 h230
    have HBZ : Hid (Below W.heap.size W w7) := Below.after HB.out hb7
    clear hb7 c0 c1 d0
    go_wp2
    refine ⟨⟨⟨k + 1, by omega, rfl, rfl, rfl, rfl, rfl, rfl, ?_⟩, HBZ.out⟩, ?_⟩
    · show Value.int .i64 _ = _
      go_num
    · show ln - (intOf (Value.int .i64 _)).toNat < ln - (intOf (Value.int .i64 _)).toNat
      simp [intOf]
      omega
  · skip
    go_wp2
    exact HEX.out _ _ k ⟨rfl, rfl, rfl, rfl, rfl, rfl, rfl⟩ HB.out
end Go.Proofs.YtipioeecgcljoaaDoor
