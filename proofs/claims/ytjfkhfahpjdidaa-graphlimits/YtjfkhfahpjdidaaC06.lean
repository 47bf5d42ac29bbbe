/- Carried: C07. -/
import Derived.Test.YtjfkhfahpjdidaaC05
namespace Go.Proofs.Ytjfkhfahpjdidaa
set_option linter.unusedVariables false
set_option linter.unusedSimpArgs false
set_option maxRecDepth 100000
open Go.ChangeShapes Go.WideShapes Go.ChangeAt Go.RowKit Go.Joins Go.Deep

theorem own : ownKnob Try.prog.godebug = none := by kernel_rfl
theorem laidOut : laidOutB Try.prog = true := by kernel_rfl
theorem cells44 : Try.prog.cellsOf 70 = 2 := by kernel_rfl
theorem cells23 : Try.prog.cellsOf 23 = 1 := by kernel_rfl
theorem cells3 : Try.prog.cellsOf 3 = 1 := by kernel_rfl
theorem bytes3 : Try.prog.bytesOf 3 = 8 := by kernel_rfl
theorem bytes23 : Try.prog.bytesOf 23 = 24 := by kernel_rfl
theorem bytes44 : Try.prog.bytesOf 70 = 48 := by kernel_rfl
/-- Nothing in the reading takes more than the reach. -/
def Szd {H : Type} (t : TypeId) (d : DataW H) : Prop := ∀ n ∈ d.weights Try.prog t, n ≤ reachBytes
theorem szd_all {H : Type} {e : TypeId} : ∀ {l : List (DataW H)}, (∀ n ∈ DataW.weightsAll Try.prog e l, n ≤ reachBytes) → ∀ d ∈ l, Szd e d
  | [], _, d, hd => by simp at hd
  | x :: r, h, d, hd => by
    simp only [DataW.weightsAll, List.mem_append] at h
    rcases List.mem_cons.1 hd with rfl | hd
    · exact fun n hn => h n (Or.inl hn)
    · exact szd_all (fun n hn => h n (Or.inr hn)) d hd
theorem szd_slice {H : Type} {t e : TypeId} {l s : List (DataW H)} (ht : Try.prog.underlying t = some (.slice e)) (h : Szd t (.slice l s)) :
    (l.length + s.length) * Try.prog.bytesOf e ≤ reachBytes ∧ ∀ d ∈ l, Szd e d := by
  simp only [Szd, DataW.weights, ht] at h
  refine ⟨h _ (List.mem_cons_self ..), szd_all fun n hn => h n (List.mem_cons_of_mem _ (List.mem_append.2 (Or.inl hn)))⟩
/-- Numbers of 64 bits. -/
def Rg (d : List Int) : Prop := ∀ x ∈ d, -9223372036854775808 ≤ x ∧ x ≤ 9223372036854775807
section
variable {H : Type} {enc : TypeId × Value → H} {w : World}

theorem open_Ints {fuel : Nat} {v : Value} {x : DataW H × List MemPlace} (h : DataW.trod enc Try.prog w 0 (fun _ => true) true fuel 23 [v] = some x) (hs : Szd 23 x.1) : ∃ d, Ints w v d ∧ Rg d ∧ d.length ≤ 17592186043904 := by
  rcases open_ints Try.underlying23 Try.underlying3 cells3 h with ⟨hcs, _⟩ | ⟨a, len, cap, zs, hcs, _, hl, hm, hz, hx, hcell, hwf⟩
  · simp at hcs
    subst hcs
    exact ⟨[], Ints.nil _, (fun x hx => by simp at hx), by simp⟩
  · simp at hcs
    subst hcs
    simp at hz
    have hb8 : len ≤ 17592186043904 := by
      have := (szd_slice Try.underlying23 (by rw [hx] at hs; exact hs)).1
      rw [bytes3] at this
      simp [lits, reachBytes] at this
      omega
    have hb : len ≤ big := by unfold big; omega
    refine ⟨zs.take len, Or.inr ⟨a, cap, ?_, ?_, ?_, ?_⟩, (fun x hx => ?_), by simp; omega⟩
    rotate_left 4
    · have := hwf x (List.mem_of_mem_take hx)
      simp only [Lit.wf, IntKind.min, IntKind.max, IntKind.signed, IntKind.bits, Bool.and_eq_true, decide_eq_true_eq, if_true] at this
      omega
    · simp; omega
    · simp; omega
    · simp; omega
    · intro i hi
      have hi' : i < zs.length := by simp at hi; omega
      have hc := hcell i hi'
      obtain ⟨b, off, spot⟩ := a
      have hsp : spot = none := by
        have hc0 := World.cell?_spot (hcell 0 (by omega))
        simpa [Addr.add] using hc0
      subst hsp
      refine ⟨b, off, rfl, ?_⟩
      have e : (zs.take len)[i] = zs.getD i 0 := by simp [hi']
      rw [e, ← hc]
      by_cases h0 : i = 0
      · subst h0; simp [Addr.add]
      · simp [Addr.add, h0]

theorem open_Tens {fuel : Nat} {cs : List Value} {x : DataW H × List MemPlace} (h : DataW.trod enc Try.prog w 0 (fun _ => true) true fuel 70 cs = some x) (hs : Szd 70 x.1) : ∃ v0 v1 t, cs = [v0, v1] ∧ Tens w v0 v1 t ∧ Rg t.2 := by
  obtain ⟨y0, y1, n, rfl, hl, h0, h1⟩ := trod_struct2 Try.underlying70 h
  rw [cells44] at hl
  match cs, hl with
  | [v0, v1], _ =>
    simp only [cells23] at h0 h1
    simp at h0 h1
    have s0 : Szd 23 y0.1 := fun n hn => hs n (by simp [DataW.weights, Try.underlying70, DataW.weightsEach]; exact Or.inl hn)
    have s1 : Szd 23 y1.1 := fun n hn => hs n (by simp [DataW.weights, Try.underlying70, DataW.weightsEach]; exact Or.inr hn)
    obtain ⟨d0, i0, _, _⟩ := open_Ints h0 s0
    obtain ⟨d1, i1, r1, _⟩ := open_Ints h1 s1
    exact ⟨v0, v1, (d0, d1), rfl, ⟨i0, i1⟩, r1⟩

theorem open_TensL {fuel : Nat} {v : Value} {x : DataW H × List MemPlace} (h : DataW.trod enc Try.prog w 0 (fun _ => true) true fuel 68 [v] = some x) (hs : Szd 68 x.1) : ∃ L, TensL w v L ∧ ∀ t ∈ L, Rg t.2 := by
  rcases open_slice Try.underlying68 h with ⟨hcs, _⟩ | ⟨a, len, cap, m, n, D, Pl, hcs, _, hl, hm, hz, hx, hcell⟩
  · simp at hcs
    subst hcs
    exact ⟨[], ⟨Nat.zero_le _, none, 0, rfl, Nat.le_refl _, fun i hi => by simp at hi⟩, fun t ht => by simp at ht⟩
  · simp at hcs
    subst hcs
    simp at hz
    subst hz
    rw [hx] at hs
    have hq := szd_slice Try.underlying68 hs
    rw [bytes44] at hq
    rw [cells44] at hcell
    have hb : len ≤ big := by
      have := hq.1
      simp [reachBytes] at this
      unfold big
      omega
    have key : ∀ i, i < len → ∃ (v0 v1 : Value) (t : List Int × List Int), w.cells? 0 (a.add (i * 2)) 2 = some [v0, v1] ∧ Tens w v0 v1 t ∧ Rg t.2 := by
      intro i hi
      obtain ⟨cs', hc, ht⟩ := hcell i (by omega)
      obtain ⟨v0, v1, t, rfl, h2⟩ := open_Tens ht (hq.2 _ (by simp; exact ⟨i, hi, rfl⟩))
      exact ⟨v0, v1, t, hc, h2⟩
    have hsome : ∀ i, ∃ t : List Int × List Int, i < len → ∃ v0 v1, w.cells? 0 (a.add (i * 2)) 2 = some [v0, v1] ∧ Tens w v0 v1 t ∧ Rg t.2 := fun i => by
      by_cases hi : i < len
      · obtain ⟨v0, v1, t, h1, h2⟩ := key i hi
        exact ⟨t, fun _ => ⟨v0, v1, h1, h2⟩⟩
      · exact ⟨([], []), fun h => absurd h hi⟩
    refine ⟨(List.range len).map fun i => Classical.choose (hsome i), ⟨?_, some a, m, ?_, ?_, ?_⟩, ?_⟩
    · simpa using hb
    · rw [List.length_map, List.length_range]
    · simpa using hl
    · intro i hi
      have hi' : i < len := by simpa using hi
      obtain ⟨v0, v1, hc, ht, _⟩ := Classical.choose_spec (hsome i) hi'
      obtain ⟨v00, v01, hc0, _⟩ := Classical.choose_spec (hsome 0) (by omega)
      have c0 := (World.cells?_some hc0)
      have c1 := (World.cells?_some hc)
      obtain ⟨b, off, spot⟩ := a
      have hsp : spot = none := by
        have h00 : w.cell? (((⟨b, off, spot⟩ : Addr).add (0 * 2)).add 0) = some v00 := by simpa using c0.2.2 0 (by omega)
        simpa [Addr.add] using World.cell?_spot h00
      subst hsp
      have e0 : w.cell? (((⟨b, off, none⟩ : Addr).add (i * 2)).add 0) = some v0 := by simpa using c1.2.2 0 (by omega)
      have e1 : w.cell? (((⟨b, off, none⟩ : Addr).add (i * 2)).add 1) = some v1 := by simpa using c1.2.2 1 (by omega)
      refine ⟨b, off, v0, v1, rfl, ?_, ?_, ?_⟩
      · rw [← e0]
        by_cases h0 : i = 0
        · subst h0; simp [Addr.add]
        · have h00 : ¬ i * 2 = 0 := by omega
          simp [Addr.add, h00]
      · rw [← e1]
        by_cases h0 : i = 0
        · subst h0; simp [Addr.add]
        · have h00 : ¬ i * 2 = 0 := by omega
          simp [Addr.add, h00]
      · simp only [List.getElem_map, List.getElem_range]
        exact ht
    · intro t ht
      simp only [List.mem_map, List.mem_range] at ht
      obtain ⟨i, hi, rfl⟩ := ht
      obtain ⟨_, _, _, _, hr⟩ := Classical.choose_spec (hsome i) hi
      exact hr


end
end Go.Proofs.Ytjfkhfahpjdidaa
