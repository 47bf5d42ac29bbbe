/- graduslaw7: its argument laid open. -/
import Derived.Test.YtipioeecgcljoaaDoorW10
import Derived.Deep.Strs
import Derived.SizedLaws
namespace Go.Proofs.YtipioeecgcljoaaDoor
set_option linter.unusedVariables false
set_option linter.unusedSimpArgs false
set_option maxRecDepth 100000
open Go.ChangeShapes Go.WideShapes Go.ChangeAt Go.RowKit Go.Joins Go.Deep

theorem cellsAskW : Tryd.prog.cellsOf 25 = 2 := by kernel_rfl
theorem cellsStrsW : Tryd.prog.cellsOf 22 = 1 := by kernel_rfl
theorem cellsStrW : Tryd.prog.cellsOf 9 = 1 := by kernel_rfl
theorem cellsNumsW : Tryd.prog.cellsOf 23 = 1 := by kernel_rfl
theorem cellsNumW : Tryd.prog.cellsOf 3 = 1 := by kernel_rfl
theorem bytesNumW : Tryd.prog.bytesOf 3 = 8 := by kernel_rfl
theorem bytesStrW : Tryd.prog.bytesOf 9 = 16 := by kernel_rfl
/-- Nothing in the reading takes more than the reach. -/
def SzdW {H : Type} (t : TypeId) (d : DataW H) : Prop := ∀ n ∈ d.weights Tryd.prog t, n ≤ reachBytes
theorem szdW_all {H : Type} {e : TypeId} : ∀ {l : List (DataW H)}, (∀ n ∈ DataW.weightsAll Tryd.prog e l, n ≤ reachBytes) → ∀ d ∈ l, SzdW e d
  | [], _, d, hd => by simp at hd
  | x :: r, h, d, hd => by
    simp only [DataW.weightsAll, List.mem_append] at h
    rcases List.mem_cons.1 hd with rfl | hd
    · exact fun n hn => h n (Or.inl hn)
    · exact szdW_all (fun n hn => h n (Or.inr hn)) d hd
theorem szdW_slice {H : Type} {t e : TypeId} {l s : List (DataW H)} (ht : Tryd.prog.underlying t = some (.slice e)) (h : SzdW t (.slice l s)) :
    (l.length + s.length) * Tryd.prog.bytesOf e ≤ reachBytes ∧ ∀ d ∈ l, SzdW e d := by
  simp only [SzdW, DataW.weights, ht] at h
  refine ⟨h _ (List.mem_cons_self ..), szdW_all fun n hn => h n (List.mem_cons_of_mem _ (List.mem_append.2 (Or.inl hn)))⟩
/-- A list of numbers, as an argument holds it. -/
structure Nums (w : World) (v : Value) (L : List Int) : Prop where
  row : Holds w v L.length (L.map (Value.int .i64))
  len : L.length ≤ 17592186043904
  each : ∀ x ∈ L, -9223372036854775808 ≤ x ∧ x ≤ 9223372036854775807
section
variable {H : Type} {enc : TypeId × Value → H} {w : World}
theorem open_StrsW {fuel : Nat} {v : Value} {x : DataW H × List MemPlace} (h : DataW.trod enc Tryd.prog w 0 (fun _ => true) true fuel 22 [v] = some x) (hs : SzdW 22 x.1) : ∃ L, Strs w v L := by
  rcases open_strs Tryd.underlying22 Tryd.underlying9 cellsStrW h with ⟨hcs, _⟩ | ⟨a, len, cap, m, Sx, hcs, _, hl, hm, hmm, hx, hcell⟩
  · simp at hcs
    subst hcs
    exact ⟨[], Holds.nil w, by simp, fun i hi => by simp at hi⟩
  · simp at hcs
    subst hcs
    simp only [if_true] at hmm
    have hz := szdW_slice Tryd.underlying22 (by rw [hx] at hs; exact hs)
    have hb : len ≤ 8796093022208 := by
      have := hz.1
      rw [bytesStrW] at this
      simp [reachBytes] at this
      omega
    refine ⟨(List.range len).map Sx, ⟨a, cap, by simp, fun j u hu => ?_⟩, by simp; omega, fun i hi => ?_⟩
    · have hj : j < len := by
        have := (List.getElem?_eq_some_iff.1 hu).1
        simpa [cellsS] using this
      have hc := (hcell j (by omega)).1
      obtain ⟨b, off, spot⟩ := a
      have hsp : spot = none := by
        have hc0 := World.cell?_spot (hcell 0 (by omega)).1
        simpa [Addr.add] using hc0
      subst hsp
      refine ⟨b, off, rfl, ?_⟩
      rw [addr_addW] at hc
      rw [hc]
      simp [cellsS, hj] at hu
      rw [hu]
    · have hi' : i < len := by simpa using hi
      have h1 := hz.2 (.lit (.string (Sx i).data.toList)) (by simp only [List.mem_map, List.mem_range]; exact ⟨i, hi', rfl⟩)
      have h2 := h1 _ (by simp only [DataW.weights]; exact List.mem_singleton.2 rfl)
      rw [len_list] at h2
      simp [reachBytes] at h2
      simp only [List.getElem_map, List.getElem_range]
      omega
theorem open_NumsW {fuel : Nat} {v : Value} {x : DataW H × List MemPlace} (h : DataW.trod enc Tryd.prog w 0 (fun _ => true) true fuel 23 [v] = some x) (hs : SzdW 23 x.1) : ∃ L, Nums w v L := by
  rcases open_ints Tryd.underlying23 Tryd.underlying3 cellsNumW h with ⟨hcs, _⟩ | ⟨a, len, cap, zs, hcs, _, hl, hm, hz, hx, hcell, hwf⟩
  · simp at hcs
    subst hcs
    exact ⟨[], Holds.nil w, by simp, fun i hi => by simp at hi⟩
  · simp at hcs
    subst hcs
    simp at hz
    have hb8 : len ≤ 17592186043904 := by
      have := (szdW_slice Tryd.underlying23 (by rw [hx] at hs; exact hs)).1
      rw [bytesNumW] at this
      simp [lits, reachBytes] at this
      omega
    have hlen : (zs.take len).length = len := by simp; omega
    refine ⟨zs.take len, ⟨a, cap, by rw [hlen], fun j u hu => ?_⟩, by omega, fun x hx => ?_⟩
    · have hj : j < len := by
        have := (List.getElem?_eq_some_iff.1 hu).1
        rw [List.length_map, hlen] at this
        exact this
      have hc := hcell j (by omega)
      obtain ⟨b, off, spot⟩ := a
      have hsp : spot = none := by
        have hc0 := World.cell?_spot (hcell 0 (by omega))
        simpa [Addr.add] using hc0
      subst hsp
      refine ⟨b, off, rfl, ?_⟩
      rw [addr_addW] at hc
      rw [hc]
      have hjz : j < zs.length := by omega
      simp [List.getElem?_take, hj, hjz] at hu
      rw [← hu]
      simp [List.getD, hjz]
    · have := hwf x (List.mem_of_mem_take hx)
      simp only [Lit.wf, IntKind.min, IntKind.max, IntKind.signed, IntKind.bits, Bool.and_eq_true, decide_eq_true_eq, if_true] at this
      omega
/-- The whole of it: what graduslaw7's argument lays in memory. -/
theorem open_Ask7 {base : Nat} {v : Value} {d : DataW H} {p : List MemPlace} (hv : Value.okWide Tryd.prog w .any base 25 v) (h : DataW.Trod enc Tryd.prog w 0 (fun _ => true) true 25 v d p) (hs : SzdW 25 d) :
    ∃ (f0 f1 : Value) (S : List ByteArray) (N : List Int), v = .agg #[f0, f1] ∧ Strs w f0 S ∧ Nums w f1 N := by
  obtain ⟨cs, rfl, hsz⟩ := okWide_struct Tryd.underlying25 hv
  obtain ⟨c0, c1, rfl⟩ : ∃ c0 c1, cs = #[c0, c1] := by
    have h2 := hsz.trans cellsAskW
    obtain ⟨l⟩ := cs
    match l, h2 with
    | [c0, c1], _ => exact ⟨c0, c1, rfl⟩
  obtain ⟨fuel, hf⟩ := h
  obtain ⟨y0, y1, n, hx, _, h0, h1⟩ := trod_struct2 Tryd.underlying25 hf
  simp only [Prod.mk.injEq] at hx
  obtain ⟨rfl, rfl⟩ := hx
  have h0' : DataW.trod enc Tryd.prog w 0 (fun _ => true) true n 22 [c0] = some y0 := by simpa [Value.cells, cellsStrsW] using h0
  have h1' : DataW.trod enc Tryd.prog w 0 (fun _ => true) true n 23 [c1] = some y1 := by simpa [Value.cells, cellsStrsW, cellsNumsW] using h1
  have hw : ∀ q, (q ∈ y0.1.weights Tryd.prog 22 ∨ q ∈ y1.1.weights Tryd.prog 23) → q ≤ reachBytes := by
    intro q hq
    refine hs q ?_
    simp only [DataW.weights, Tryd.underlying25, DataW.weightsEach, List.map_cons, List.map_nil, List.mem_append, List.append_nil]
    exact hq
  obtain ⟨S, hS⟩ := open_StrsW h0' (fun q hq => hw q (Or.inl hq))
  obtain ⟨N, hN⟩ := open_NumsW h1' (fun q hq => hw q (Or.inr hq))
  exact ⟨c0, c1, S, N, rfl, hS, hN⟩
end
end Go.Proofs.YtipioeecgcljoaaDoor
