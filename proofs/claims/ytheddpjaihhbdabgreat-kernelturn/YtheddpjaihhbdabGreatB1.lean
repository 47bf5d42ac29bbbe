/- Contracts: the page's CopyTensors, DimsOf, Tensors, EqTensors. -/
import Derived.Test.YtheddpjaihhbdabGreatA0
namespace Go.Proofs.YtheddpjaihhbdabGreat
set_option linter.unusedVariables false
set_option linter.unusedSimpArgs false
set_option maxRecDepth 100000
open Go.RowKit

theorem infoT' : (Tryz.prog.info? 34).map (fun i => (i.zero, i.size, i.bytes)) = some (some (.agg #[.slice none 0 0, .slice none 0 0]), 2, 48) := by kernel_rfl
theorem infoT : ∃ i, Tryz.prog.info? 34 = some i ∧ i.zero = some (.agg #[.slice none 0 0, .slice none 0 0]) ∧ i.size = 2 ∧ i.bytes = 48 := by
  have h := infoT'
  cases e : Tryz.prog.info? 34 with
  | none => rw [e] at h; simp at h
  | some i => rw [e] at h; simp at h; exact ⟨i, rfl, h⟩
theorem infoI' : (Tryz.prog.info? 23).map (fun i => (i.zero, i.size, i.bytes)) = some (some (.slice none 0 0), 1, 24) := by kernel_rfl
theorem infoI : ∃ i, Tryz.prog.info? 23 = some i ∧ i.zero = some (.slice none 0 0) ∧ i.size = 1 ∧ i.bytes = 24 := by
  have h := infoI'
  cases e : Tryz.prog.info? 23 with
  | none => rw [e] at h; simp at h
  | some i => rw [e] at h; simp at h; exact ⟨i, rfl, h⟩
theorem RowT.none (w : World) (B : Nat) : RowT w B (.slice none 0 0) [] [] := ⟨World.ownsRow_nil _ _ _ _, fun i h => by simp at h⟩
theorem Row.none (w : World) (B : Nat) : Row w B (.slice none 0 0) [] [] := ⟨World.ownsRow_nil _ _ _ _, fun i h => by simp at h⟩
theorem take_snocT {α : Type} (l : List α) (k : Nat) (h : k < l.length) : l.take (k + 1) = l.take k ++ [l[k]] := by
  rw [List.take_succ_eq_append_getElem h]
theorem Own.elt {w : World} {B : Nat} {x : Value} {d : List Int} {r : Option Nat} (h : Own w B x d) (hr : ∀ k, r = some k → k < B) : Elt w r x d := by
  refine ⟨h.ints, fun _ e => ?_⟩
  cases hx : x.ownBlock with
  | none =>
    rename_i hpos
    rcases h.ints.cases with ⟨q, _⟩ | ⟨b, off, c, rfl, _, _, _, _⟩
    · rw [q] at hpos; simp at hpos
    · simp [Value.ownBlock] at hx
  | some k =>
    have h1 := h.frm k hx
    have h2 := hr k (by rw [← e, hx])
    omega
theorem Elt.older {w w' : World} {x : Value} {d : List Int} {r : Option Nat} (h : Ints w x d) (hb : Below w.heap.size w w') (hr : ∀ k, r = some k → w.heap.size ≤ k) : Elt w' r x d := by
  refine ⟨h.later hb, fun h0 e => ?_⟩
  rcases h.cases with ⟨q, _⟩ | ⟨b, off, c, rfl, _, _, _, HC⟩
  · rw [q] at h0; simp at h0
  · have h1 := World.block_lt_of_cell? _ _ (HC.out 0 h0)
    have h2 := hr b e.symm
    simp only at h1
    omega
set_option maxHeartbeats 4000000 in
theorem copyTs_any {v : Value} {L : List Ten} {w : World} (h : TensL w v L) (h2 : L.length ≤ 2) :
    Calls Tryz.prog 16 #[v] w fun e w' => ∃ v', e = .returned v' ∧ TensL w' v' L ∧ Below w.heap.size w w' := by
  obtain ⟨hlen, a, c, rfl, hc, HC0⟩ := h
  have HC : Hid (∀ i (h : i < L.length), ∃ b off x y, a = some ⟨b, off, none⟩ ∧ w.cell? ⟨b, off + i * 2, none⟩ = some x ∧ w.cell? ⟨b, off + i * 2 + 1, none⟩ = some y ∧ Tens w x y L[i]) := HC0
  obtain ⟨iT, hi, hz0, hz1, hz2⟩ := infoT
  have HI : Hid (Tryz.prog.info? 34 = some iT) := hi
  have HZ0 : Hid (iT.zero = some (.agg #[.slice none 0 0, .slice none 0 0])) := hz0
  have HZ1 : Hid (iT.size = 2) := hz1
  have HZ2 : Hid (iT.bytes = 48) := hz2
  clear hi hz0 hz1 hz2 HC0 hlen
  go_enter Tryz.func16, Tryz.ntmps16
  go_wp2
  go_loopw [3, 4] (fun v i w' => ∃ (k : Nat) (xs : List Value), k ≤ L.length ∧ i = .int .i64 k ∧ Hid (RowT w' w.heap.size v (L.take k) xs) ∧ Below w.heap.size w w') (fun _ i _ => L.length - (intOf i).toNat)
  case atStart => exact ⟨0, [], Nat.zero_le _, rfl, RowT.none _ _, Below.refl _ _⟩
  case round =>
    obtain ⟨k, xs, hk, rfl, HO, hbel⟩ := hrel
    have HB : Hid (Below w.heap.size w wr) := hbel
    have hsz := hbel.size
    clear hbel
    by_cases hlt : k < L.length
    · obtain ⟨b, off, x, y, rfl, c0, c1, ht⟩ := HC.out k hlt
      have d0 := cell_later HB.out c0
      have d1 := cell_later HB.out c1
      have HT : Hid (Tens wr x y L[k]) := ht.later HB.out
      obtain ⟨xa, xn, xc, rfl⟩ := ht.1.shape3
      obtain ⟨ya, yn, yc, rfl⟩ := ht.2.shape3
      have hll : (L.take k).length = k := by simp; omega
      clear c0 c1 ht
      go_wp2_with (first
        | (go_at_call 34; refine (copyT_any HT.out).mono ?_; rintro e w1 ⟨x0, x1, rfl, ho, hb1⟩; obtain ⟨pa, pn, pc, rfl⟩ := ho.dims.ints.shape3; obtain ⟨qa, qn, qc, rfl⟩ := ho.data.ints.shape3; have HO1 : Hid (OwnT w1 wr.heap.size (.slice pa pn pc) (.slice qa qn qc) L[k]) := ho; have HB1 : Hid (Below wr.heap.size wr w1) := hb1; have hs1 := hb1.size; have HR1 : Hid (RowT w1 w.heap.size u3 (L.take k) xs) := HO.out.later hb1; clear ho hb1)
        | (at_builtin; refine wpList_append_lies _ rfl _ _ 22 rfl w.heap.size 34 iT (.agg #[.slice none 0 0, .slice none 0 0]) 2 48 Tryz.underlying22 HI.out HZ0.out HZ1.out HZ2.out rfl (by decide) u3 k xs rfl ?c0 ⟨w1.heap.size, 0, none⟩ 1 1 [.slice pa pn pc, .slice qa qn qc] rfl rfl ?c1 ?c2 (by decide) ?c3 ?c4 ?c5 (w1.heap.size + 1) ?c6 ?_))
      case c0 => have := (HR1.out.later (Below.push (Below.refl _ _) (.cells #[.slice pa pn pc, .slice qa qn qc] 34))).own; rw [hll] at this; exact this
      case c1 => exact World.news_of_block (heap_alloc_new w1 (.cells #[.slice pa pn pc, .slice qa qn qc] 34))
      case c2 => intro u hu; simp only [List.mem_cons, List.not_mem_nil, or_false] at hu; rcases hu with rfl | rfl <;> rfl
      case c3 => unfold maxLen; omega
      case c4 => omega
      case c5 => simp; omega
      case c6 => simp
      intro g cap w2 ho hg hat hlt2
      have hr := RowT.app (E := [L[k]]) (m := 1) (HR1.out.later (Below.push (Below.refl _ _) (.cells #[.slice pa pn pc, .slice qa qn qc] 34))) rfl (news := [.slice pa pn pc, .slice qa qn qc]) (fun i hi => by
        have h0 : i = 0 := by simp at hi; omega
        subst h0
        refine ⟨_, _, rfl, rfl, ?_, ?_⟩
        · exact Elt.later (Below.push (Below.refl _ _) _) (HO1.out.dims.elt fun q hq => by have := (HO.out.lt q hq).2; exact this)
        · exact Elt.later (Below.push (Below.refl _ _) _) (HO1.out.data.elt fun q hq => by have := (HO.out.lt q hq).2; exact this)) (by rw [hll]; exact ho) hg (by
          rcases hat with h | h
          · exact Or.inl h.symm
          · exact Or.inr (by rw [h]; simp [Value.ownBlock]))
      have HO2 : Hid (RowT w2 w.heap.size (.slice (some ⟨g, 0, none⟩) (k + 1) cap) (L.take (k + 1)) (xs ++ [.slice pa pn pc, .slice qa qn qc])) := by show RowT _ _ _ _ _; rw [take_snocT L k hlt]; exact hr
      have HB2 : Hid (Below w.heap.size w w2) := (Below.push (Below.after HB.out HB1.out) _).grown hg (by simp; omega) (fun q hq => (HO.out.lt q hq).1)
      clear ho hg hat hr
      go_wp2
      go_roundw
      case rel => exact ⟨k + 1, _, by omega, by go_num, HO2.out, HB2.out⟩
      case measure => simp [intOf]; omega
    · have hk' : k = L.length := by omega
      subst hk'
      go_wp2
      go_ret
      have h9 := HO.out
      rw [List.take_length] at h9
      exact ⟨_, rfl, h9.tensL (by unfold big; omega), HB.out⟩
end Go.Proofs.YtheddpjaihhbdabGreat
