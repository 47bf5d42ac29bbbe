/- The laws of a ring, of numbers that wrap around. -/
import Derived.Test.YtgedknmjenbacaaAc
namespace Go.Proofs.Ytgedknmjenbacaa
set_option linter.unusedVariables false
set_option linter.unusedSimpArgs false
open Go.RowKit

theorem wrap_k (x : Int) : ∃ k : Int, wrap64 x = x + k * 18446744073709551616 := by
  refine ⟨-((x + 9223372036854775808) / 18446744073709551616), ?_⟩
  unfold wrap64
  omega
theorem wrap_addk (x k : Int) : wrap64 (x + k * 18446744073709551616) = wrap64 x := by
  unfold wrap64
  rw [show x + k * 18446744073709551616 + 9223372036854775808 = (x + 9223372036854775808) + k * 18446744073709551616 by omega, Int.add_mul_emod_self_right]
theorem wl (x y : Int) : wrap64 (wrap64 x + y) = wrap64 (x + y) := by
  obtain ⟨k, h⟩ := wrap_k x
  rw [h, show x + k * 18446744073709551616 + y = (x + y) + k * 18446744073709551616 by omega, wrap_addk]
theorem wr (x y : Int) : wrap64 (x + wrap64 y) = wrap64 (x + y) := by rw [Int.add_comm, wl, Int.add_comm]
theorem wm (x y : Int) : wrap64 (x * wrap64 y) = wrap64 (x * y) := by
  obtain ⟨k, h⟩ := wrap_k y
  rw [h, Int.mul_add, ← Int.mul_assoc, wrap_addk]
theorem wrap_in {x : Int} (h : -9223372036854775808 ≤ x ∧ x ≤ 9223372036854775807) : wrap64 x = x := by unfold wrap64; omega
theorem zA_comm (a b : List Int) : List.zipWith opA a b = List.zipWith opA b a := by
  rw [List.zipWith_comm]
  congr 1
  funext x y
  simp [opA, Int.add_comm]
theorem zA_assoc : ∀ (a b d : List Int), List.zipWith opA (List.zipWith opA a b) d = List.zipWith opA a (List.zipWith opA b d)
  | [], _, _ => by simp
  | _ :: _, [], _ => by simp
  | _ :: _, _ :: _, [] => by simp
  | x :: a, y :: b, z :: d => by
    simp only [List.zipWith_cons_cons, zA_assoc a b d, opA, wl, wr, Int.add_assoc]
theorem zM_over : ∀ (a b d : List Int), List.zipWith opM a (List.zipWith opA b d) = List.zipWith opA (List.zipWith opM a b) (List.zipWith opM a d)
  | [], _, _ => by simp
  | _ :: _, [], _ => by simp
  | _ :: _, _ :: _, [] => by simp
  | x :: a, y :: b, z :: d => by
    simp only [List.zipWith_cons_cons, zM_over a b d, opA, opM, wl, wr, wm, Int.mul_add]
theorem zS_back : ∀ (a b : List Int), Rg a → b.length = a.length → List.zipWith opS (List.zipWith opA a b) b = a
  | [], _, _, _ => by simp
  | x :: a, [], _, h => by simp at h
  | x :: a, y :: b, hr, h => by
    have h1 := zS_back a b (fun z hz => hr z (List.mem_cons_of_mem _ hz)) (by simpa using h)
    have h2 : opS (opA x y) y = x := by
      rw [opS, opA, wl, wr, show x + y + -y = x by omega]
      exact wrap_in (hr x (List.mem_cons_self ..))
    simp only [List.zipWith_cons_cons, h1, h2]
theorem zN_scale (a : List Int) : List.zipWith opN a a = a.map (fun y => wrap64 (-1 * y)) := by
  induction a with
  | nil => rfl
  | cons x a ih => simp [ih, opN]
theorem ttl_acc : ∀ (l : List Int) (c : Int), l.foldl (fun a x => wrap64 (a + x)) (wrap64 c) = wrap64 (c + l.foldl (fun a x => a + x) 0)
  | [], c => by simp
  | x :: l, c => by
    have key : ∀ (l : List Int) (c : Int), l.foldl (fun a x => a + x) c = c + l.foldl (fun a x => a + x) 0 := by
      intro l
      induction l with
      | nil => intro c; simp
      | cons y l ih => intro c; rw [List.foldl_cons, ih (c + y), List.foldl_cons, ih (0 + y)]; omega
    rw [List.foldl_cons, wl, ttl_acc l (c + x), List.foldl_cons, key l (0 + x)]
    congr 1
    omega
def sm (l : List Int) : Int := l.foldl (fun a x => a + x) 0
theorem sm_cons (x : Int) (l : List Int) : sm (x :: l) = x + sm l := by
  have key : ∀ (l : List Int) (c : Int), l.foldl (fun a x => a + x) c = c + l.foldl (fun a x => a + x) 0 := by
    intro l
    induction l with
    | nil => intro c; simp
    | cons y l ih => intro c; rw [List.foldl_cons, ih (c + y), List.foldl_cons, ih (0 + y)]; omega
  unfold sm
  rw [List.foldl_cons, key l (0 + x)]
  omega
theorem ttl_sm (l : List Int) : ttl l = wrap64 (sm l) := by
  have := ttl_acc l 0
  rw [show wrap64 0 = 0 by decide +kernel] at this
  rw [ttl, this, Int.zero_add]
  rfl
theorem sm_wrap : ∀ (f : Int → Int → Int) (a b : List Int), wrap64 (sm (List.zipWith (fun x y => wrap64 (f x y)) a b)) = wrap64 (sm (List.zipWith f a b))
  | f, [], _ => by simp
  | f, _ :: _, [] => by simp
  | f, x :: a, y :: b => by
    rw [List.zipWith_cons_cons, List.zipWith_cons_cons, sm_cons, sm_cons, wl, ← wr, sm_wrap f a b, wr]
theorem sm_dot : ∀ (a b d : List Int), b.length = a.length → d.length = a.length → wrap64 (sm (List.zipWith (fun x y => x * y) a (List.zipWith opA b d))) = wrap64 (sm (List.zipWith (fun x y => x * y) a b) + sm (List.zipWith (fun x y => x * y) d a))
  | [], b, d, hb, hd => by
    have h1 : b = [] := List.eq_nil_of_length_eq_zero (by simpa using hb)
    have h2 : d = [] := List.eq_nil_of_length_eq_zero (by simpa using hd)
    subst h1 h2
    rfl
  | x :: a, [], _, hb, _ => by simp at hb
  | x :: a, _ :: _, [], _, hd => by simp at hd
  | x :: a, y :: b, z :: d, hb, hd => by
    have ih := sm_dot a b d (by simpa using hb) (by simpa using hd)
    simp only [List.zipWith_cons_cons, sm_cons, opA]
    rw [← wl, wm, wl, ← wr, ih, wr]
    congr 1
    rw [Int.mul_add, Int.mul_comm z x]
    omega
theorem dot_law (a b d : List Int) (hb : b.length = a.length) (hd : d.length = a.length) : ttl (List.zipWith opM a (List.zipWith opA b d)) = wrap64 (ttl (List.zipWith opM a b) + ttl (List.zipWith opM d a)) := by
  have h : ∀ p q : List Int, ttl (List.zipWith opM p q) = wrap64 (sm (List.zipWith (fun x y => x * y) p q)) := fun p q => by
    rw [ttl_sm]
    exact sm_wrap (fun x y => x * y) p q
  rw [h, h, h, wl, wr]
  exact sm_dot a b d hb hd
end Go.Proofs.Ytgedknmjenbacaa
