/- Contract: package word's put. -/
import Derived.Test.YtipioeecgcljoaaDoorX4
namespace Go.Proofs.YtipioeecgcljoaaDoor
set_option linter.unusedVariables false
set_option linter.unusedSimpArgs false
set_option maxRecDepth 100000
open Go.RowKit

theorem put_same (v : Value) (s : ByteArray) (a : Nat) (w : World) :
    Calls Tryd.prog 29 #[v, .string s, .int .i64 a, .int .i64 a] w fun e w' => e = .returned v ∧ w = w' := by
  have g1 : ((a : Int) == (a : Int)) = true := by simp
  go_enter Tryd.func29, Tryd.ntmps29
  go_wp2
  go_ret
  exact ⟨rfl, rfl⟩
theorem grownBy_then {w w1 w2 : World} {row : Option Nat} (hb : Below w.heap.size w w1) (hg : w1.grownBy w2 row) : w.grownBy w2 row :=
  ⟨hg.os.trans hb.os, hg.tape.trans hb.tape, hg.output.trans hb.output, Nat.le_trans hb.size hg.size, fun k hk hne => (hg.block k (Nat.lt_of_lt_of_le hk hb.size) hne).trans (hb.block k hk)⟩
set_option maxHeartbeats 4000000 in
theorem put_new (B : Nat) (v : Value) (s : ByteArray) (l : List Tok) (a b : Nat) (w : World) (hO : w.ownsRow B 53 2 v l.length (cellsT l)) (hB : B ≤ w.heap.size) (hl : l.length ≤ 3000000) (hs : s.size ≤ 1000000) (hab : a < b) (hb : b ≤ s.size) :
    Calls Tryd.prog 29 #[v, .string s, .int .i64 a, .int .i64 b] w fun e w' => ∃ v', e = .returned v' ∧ w'.ownsRow B 53 2 v' (l ++ [(s.extract a b, a)]).length (cellsT (l ++ [(s.extract a b, a)])) ∧ w.grownBy w' v.ownBlock := by
  obtain ⟨iT, hi, hz0, hz1, hz2⟩ := infoK
  have HI : Hid (Tryd.prog.info? 53 = some iT) := hi
  have HZ0 : Hid (iT.zero = some (.agg #[.string ⟨#[]⟩, .int .i64 0])) := hz0
  have HZ1 : Hid (iT.size = 2) := hz1
  have HZ2 : Hid (iT.bytes = 24) := hz2
  have HO : Hid (w.ownsRow B 53 2 v l.length (cellsT l)) := hO
  have g1 : ((a : Int) == (b : Int)) = false := by rw [beq_eq_false_iff_ne]; omega
  have g2 : (0 : Int) ≤ (a : Int) := by omega
  have g3 : (a : Int) ≤ (b : Int) := by omega
  have g4 : (b : Int) ≤ (s.size : Int) := by omega
  clear hi hz0 hz1 hz2 hO
  obtain ⟨t, ht⟩ : ∃ t, s.extract a b = t := ⟨_, rfl⟩
  have HT : Hid (s.extract a b = t) := ht
  have hts : t.size ≤ 1000000 := by rw [← ht, ByteArray.size_extract]; omega
  clear ht
  go_enter Tryd.func29, Tryd.ntmps29
  go_wp2_with (first
    | (go_at_call 32; rw [HT.out]; refine (clone_to t _ (by omega)).mono ?_; rintro e w1 ⟨rfl, hb1⟩; have HB1 : Hid (Below w.heap.size w w1) := hb1; have hs1 := hb1.size; clear hb1)
    | (at_builtin; refine wpList_append_lies _ rfl _ _ 35 rfl B 53 iT (.agg #[.string ⟨#[]⟩, .int .i64 0]) 2 24 Tryd.underlying35 HI.out HZ0.out HZ1.out HZ2.out rfl (by decide) v (l.length) (cellsT l) rfl ?c0 ⟨w1.heap.size, 0, none⟩ 1 1 [.string t, .int .i64 a] rfl rfl ?c1 ?c2 (by decide) ?c3 ?c4 ?c5 (w1.heap.size + 1) ?c6 ?_))
  case c0 => exact World.ownsRow.alloc (ownsR_later HO.out HB1.out) _
  case c1 => exact World.news_of_block (heap_alloc_new w1 (.cells #[.string t, .int .i64 a] 53))
  case c2 => intro u hu; simp only [List.mem_cons, List.not_mem_nil, or_false] at hu; rcases hu with rfl | rfl <;> rfl
  case c3 => unfold maxLen; omega
  case c4 => omega
  case c5 => simp; omega
  case c6 => simp
  intro g cap w2 ho hg hat hlt2
  have HO2 : Hid (w2.ownsRow B 53 2 (.slice (some ⟨g, 0, none⟩) (l.length + 1) cap) (l ++ [(t, a)]).length (cellsT (l ++ [(t, a)]))) := by show World.ownsRow _ _ _ _ _ _ _; rw [List.length_append, cellsT_snoc]; exact ho
  have HG2 : Hid (w.grownBy w2 v.ownBlock) := grownBy_then (HB1.out.trans ((Below.refl _ _).alloc HB1.out.size _)) hg
  clear ho hg hat
  go_wp2
  go_ret
  exact ⟨_, rfl, by rw [HT.out]; exact HO2.out, HG2.out⟩
end Go.Proofs.YtipioeecgcljoaaDoor
