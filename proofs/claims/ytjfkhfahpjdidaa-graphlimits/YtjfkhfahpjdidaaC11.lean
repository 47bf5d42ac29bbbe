/- Carried: C12. -/
import Derived.Test.YtjfkhfahpjdidaaC10
namespace Go.Proofs.Ytjfkhfahpjdidaa
set_option linter.unusedVariables false
set_option linter.unusedSimpArgs false
set_option maxRecDepth 100000
open Go.RowKit Go.Shelf
attribute [local go_sem] Oper.semAt_some

/-- What lies below N is as it was, but for block T. -/
def Kpt (N T : Nat) (W W' : World) : Prop := ∀ k, k < N → k ≠ T → W'.heap[k]? = W.heap[k]?
theorem Kpt.refl (N T : Nat) (W : World) : Kpt N T W W := fun _ _ _ => rfl
theorem Kpt.trans {N T : Nat} {A B C : World} (h : Kpt N T A B) (k : Kpt N T B C) : Kpt N T A C := fun i hi hT => (k i hi hT).trans (h i hi hT)
theorem Kpt.cell {N T : Nat} {A B : World} (h : Kpt N T A B) {p : Addr} (h1 : p.block < N) (h2 : p.block ≠ T) : B.cell? p = A.cell? p := World.cell?_of_block (h _ h1 h2)
theorem Kpt.drew {N T : Nat} {A B : World} (h : Kpt N T A B) : Kpt N T A B.drew := h
theorem grown_drew (w : World) : w.grownBy w.drew none := ⟨rfl, rfl, rfl, Nat.le_refl _, fun _ _ _ => rfl⟩
set_option maxRecDepth 100000 in
set_option maxHeartbeats 2000000 in
theorem chunk1_in (n : Nat) (hn : 1 ≤ n) (l Bs Bn N T b off q m L cap : Nat) (hq : 1 ≤ q) (hq8 : q ≤ 8) (hL : m * q = L) (hL64 : L ≤ 64) (hcap : L ≤ cap)
    (hbs : Bs < N) (hbs' : Bs ≠ T) (hbn : Bn < N) (hbn' : Bn ≠ T) (J Jx : List (Fin m) → World → Prop) (hJd : ∀ s W, J s W → J s W.drew)
    (hY : ∀ pre (x : Fin m) W, J pre W → pre.length < m → YieldAt Fence.wide (n - 1) Try.prog l #[.slice (some ⟨b, off + x.1 * q, none⟩) q q] W fun e W' =>
      (e = .returned (.bool true) ∧ J (pre ++ [x]) W' ∧ Kpt N T W W') ∨ (e = .returned (.bool false) ∧ Jx (pre ++ [x]) W'))
    (W : World) (h1 : W.cell? ⟨Bs, 0, none⟩ = some (.slice (some ⟨b, off, none⟩) L cap)) (h2 : W.cell? ⟨Bn, 0, none⟩ = some (.int .i64 q)) (h0 : J [] W) :
    CallsIn Fence.wide n Try.prog 87 #[.func (.yield l) #[] #[], .pointer (some ⟨Bs, 0, none⟩), .pointer (some ⟨Bn, 0, none⟩)] W fun e W' => (∃ v, e = .returned v) ∧
      ((∃ ys : List (Fin m), ys.map (·.1) = List.range m ∧ J ys W') ∨ (∃ pre, True ∧ Jx pre W')) := by
  refine callsIn_of_wp Try.func87 rfl trivial ?_ rfl
  simp only [Try.ntmps87, List.size_toArray, List.length_cons, List.length_nil, Nat.reduceAdd, Nat.reduceSub, Array.replicate_succ, Array.replicate_zero, List.push_toArray, List.append_toArray, List.nil_append, List.cons_append]
  gi_wp2
  gi_loopw [4] (fun i wr => ∃ (c I : Nat) (pre : List (Fin m)), c ≤ m ∧ c * q = I ∧ i = .int .i64 I ∧ pre.map (·.1) = List.range c ∧ J pre wr ∧ Kpt N T W wr) (fun i _ => L - (intOf i).toNat)
  case atStart => exact ⟨0, 0, [], Nat.zero_le _, by simp, rfl, rfl, h0, Kpt.refl _ _ _⟩
  case round =>
    obtain ⟨c, I, pre, hc, hI, rfl, hpre, hJs, hk⟩ := hrel
    have c1 : wr.cell? ⟨Bs, 0, none⟩ = _ := (hk.cell hbs hbs').trans h1
    have c2 : wr.cell? ⟨Bn, 0, none⟩ = _ := (hk.cell hbn hbn').trans h2
    by_cases hlt : c < m
    · have hIq : I + q ≤ L := by
        rw [← hI, ← hL]
        have := Nat.mul_le_mul_right q (show c + 1 ≤ m from hlt)
        rw [Nat.add_mul] at this
        omega
      have hmx : Try.prog.follows .mixedOrders = true := by kernel_rfl
      have hm1 : (min (q : Int) ((L - I : Nat) : Int)) = q := by omega
      have hm2 : ((I : Int) + (q : Int)).toNat - I = q := by omega
      obtain ⟨fn, tmps, assign, body, hy, hR⟩ := hY pre ⟨c, hlt⟩ wr.drew (hJd _ _ hJs) (by have := congrArg List.length hpre; simp at this; omega)
      dsimp only at hy
      rw [hI] at hy
      gi_wp2
      gi_region_with_o (fail)
      all_goals gi_wp2
      all_goals
        refine hR.mono ?_
        rintro e W3 (⟨rfl, hJ3, hk3⟩ | ⟨rfl, hJx3⟩)
        · have c3 : W3.cell? ⟨Bn, 0, none⟩ = _ := (hk3.cell hbn hbn').trans c2
          gi_wp2
          go_roundw
          case rel => exact ⟨c + 1, I + q, _, by omega, by rw [← hI, Nat.add_mul, Nat.one_mul], by simp, by rw [List.map_append, hpre, List.range_succ]; rfl, hJ3, hk.trans hk3⟩
          case measure => simp [intOf]; omega
        · gi_wp2
          refine bodyPost_ret (results_none rfl _ _ _) rfl ?_
          exact ⟨⟨_, rfl⟩, .inr ⟨_, trivial, hJx3⟩⟩
    · obtain rfl : c = m := by omega
      obtain rfl : L = I := by omega
      gi_wp2
      go_end0
      exact ⟨⟨_, rfl⟩, .inl ⟨_, hpre, hJs⟩⟩
end Go.Proofs.Ytjfkhfahpjdidaa
