/- The argument opened, with the numbers' bound told besides. -/
import Derived.Test.YthkmcjniibohkaaOpen
namespace Go.Proofs.Ythkmcjniibohkaa
set_option linter.unusedVariables false
set_option linter.unusedSimpArgs false
open Go.ChangeShapes Go.WideShapes Go.ChangeAt Go.RowKit Go.Joins Go.Deep
section
variable {H : Type} {enc : TypeId × Value → H} {w : World}

theorem open_len {fuel : Nat} {v : Value} {x : DataW H × List MemPlace} {d : List Int} (h : DataW.trod enc Try.prog w 0 (fun _ => true) true fuel 23 [v] = some x) (hs : Szd 23 x.1) (hd : Ints w v d) : d.length ≤ 17592186043904 := by
  rcases open_ints Try.underlying23 Try.underlying3 cells3 h with ⟨hcs, _⟩ | ⟨a, len, cap, zs, hcs, _, hl, hm, hz, hx, hcell, _⟩
  · simp at hcs
    subst hcs
    obtain ⟨a, c, e⟩ := hd.shape
    simp only [Value.slice.injEq] at e
    omega
  · simp at hcs
    subst hcs
    obtain ⟨a, c, e⟩ := hd.shape
    simp only [Value.slice.injEq] at e
    simp at hz
    have := (szd_slice Try.underlying23 (by rw [hx] at hs; exact hs)).1
    rw [bytes3] at this
    simp [lits, reachBytes] at this
    omega

theorem open_Ask8 {base : Nat} {v : Value} {d : DataW H} {p : List MemPlace} (hv : Value.okWide Try.prog w .any base 26 v) (h : DataW.Trod enc Try.prog w 0 (fun _ => true) true 26 v d p) (hs : Szd 26 d) :
    ∃ (f0 f1 f2 f3 : Value) (D P : List (List Int)) (N : List Int) (T : List (List Int × List Int)), v = .agg #[f0, f1, f2, f3] ∧ IntsL w f0 D ∧ IntsL w f1 P ∧ (Ints w f2 N ∧ N.length ≤ 17592186043904) ∧ TensL w f3 T := by
  obtain ⟨u0, u1, u2, u3, y0, y1, y2, y3, m, rfl, rfl, _, t0, t1, t2, t3⟩ := open_agg4 Try.underlying26 (by kernel_rfl) cells26 hv h
  have hw : ∀ n, (n ∈ y0.1.weights Try.prog 22 ∨ n ∈ y1.1.weights Try.prog 22 ∨ n ∈ y2.1.weights Try.prog 23 ∨ n ∈ y3.1.weights Try.prog 24) → n ≤ reachBytes := by
    intro n hn
    refine hs n ?_
    simp only [DataW.weights, Try.underlying26, DataW.weightsEach, List.map_cons, List.map_nil, List.mem_append, List.append_nil]
    rcases hn with hn | hn | hn | hn
    · exact Or.inl hn
    · exact Or.inr (Or.inl hn)
    · exact Or.inr (Or.inr (Or.inl hn))
    · exact Or.inr (Or.inr (Or.inr hn))
  obtain ⟨D, hD⟩ := open_IntsL t0 (fun n hn => hw n (Or.inl hn))
  obtain ⟨P, hP⟩ := open_IntsL t1 (fun n hn => hw n (Or.inr (Or.inl hn)))
  have hs2 : Szd 23 y2.1 := fun n hn => hw n (Or.inr (Or.inr (Or.inl hn)))
  obtain ⟨N, hN⟩ := open_Ints t2 hs2
  obtain ⟨T, hT⟩ := open_TensL t3 (fun n hn => hw n (Or.inr (Or.inr (Or.inr hn))))
  exact ⟨u0, u1, u2, u3, D, P, N, T, rfl, hD, hP, ⟨hN, open_len t2 hs2 hN⟩, hT⟩
end
end Go.Proofs.Ythkmcjniibohkaa
