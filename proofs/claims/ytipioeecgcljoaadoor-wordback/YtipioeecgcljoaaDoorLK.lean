/- The law on words back: the walk. -/
import Derived.Test.YtipioeecgcljoaaDoorLK4
import Derived.Test.YtipioeecgcljoaaDoorLK5
import Derived.Test.YtipioeecgcljoaaDoorW11
namespace Go.Proofs.YtipioeecgcljoaaDoor
set_option linter.unusedVariables false
set_option linter.unusedSimpArgs false
set_option maxRecDepth 100000
open Go.RowKit

set_option maxRecDepth 1000000 in
set_option maxHeartbeats 16000000 in
theorem back_any {f0 f1 : Value} {S : List ByteArray} {L : List Int} {w : World} (h0 : Strs w f0 S) (h1 : Nums w f1 L) (hT : PowT w) :
    Calls Tryd.prog 5 #[.agg #[f0, f1]] w fun e w' => e = .returned (.bool true) ∧ Below w.heap.size w w' := by
  have hS0 := h0
  obtain ⟨⟨pS, cS, rfl, hr⟩, hlen, heach⟩ := h0
  obtain ⟨⟨pN, cN, rfl, hn⟩, hnl, hne⟩ := h1
  have hb : Below w.heap.size w (w.alloc (.cells #[.slice pS S.length cS, .slice pN L.length cN] 25)) := Below.push (Below.refl _ _) _
  have HS : Hid (Strs (w.alloc (.cells #[.slice pS S.length cS, .slice pN L.length cN] 25)) (.slice pS S.length cS) S) := hS0.later hb
  have HPT : Hid (PowT (w.alloc (.cells #[.slice pS S.length cS, .slice pN L.length cN] 25))) := hT.later hb
  have HR : Hid (∀ j u, (cellsS S)[j]? = some u → ∃ b off, pS = some ⟨b, off, none⟩ ∧ (w.alloc (.cells #[.slice pS S.length cS, .slice pN L.length cN] 25)).cell? ⟨b, off + j, none⟩ = some u) := fun j u hu => by
    obtain ⟨b, off, e, h⟩ := hr j u hu
    exact ⟨b, off, e, cell_later hb h⟩
  have HN : Hid (∀ j u, (L.map (Value.int .i64))[j]? = some u → ∃ b off, pN = some ⟨b, off, none⟩ ∧ (w.alloc (.cells #[.slice pS S.length cS, .slice pN L.length cN] 25)).cell? ⟨b, off + j, none⟩ = some u) := fun j u hu => by
    obtain ⟨b, off, e, h⟩ := hn j u hu
    exact ⟨b, off, e, cell_later hb h⟩
  have HB : Hid (Below w.heap.size w (w.alloc (.cells #[.slice pS S.length cS, .slice pN L.length cN] 25))) := hb
  have HNL : Hid (L.length ≤ 140737488355327) := by show _ ≤ _; omega
  clear hb hT hr hn hne hlen heach hS0 hnl
  obtain ⟨U, hU⟩ : ∃ U, U = (w.alloc (.cells #[.slice pS S.length cS, .slice pN L.length cN] 25)) := ⟨_, rfl⟩
  obtain ⟨B, hB⟩ : ∃ B, w.heap.size = B := ⟨_, rfl⟩
  have g0 : U.cell? ⟨B, 0, none⟩ = some (.slice pS S.length cS) := by rw [hU, ← hB]; simp
  have g1 : U.cell? ⟨B, 1, none⟩ = some (.slice pN L.length cN) := by rw [hU, ← hB]; simp
  have HC : Hid (U.cell? ⟨B, 0, none⟩ = some (.slice pS S.length cS) ∧ U.cell? ⟨B, 1, none⟩ = some (.slice pN L.length cN)) := ⟨g0, g1⟩
  clear g0 g1
  rw [← hU] at HS HPT HR HN HB
  go_enter Tryd.func5, Tryd.ntmps5
  go_wp2_with fail
  rw [← hU]
  clear hU hB
  refine (heavy_any HS.out HNL.out).mono ?_
  rintro e w2 ⟨⟨b, rfl, hH⟩, hb2⟩
  have HB2 : Hid (Below U.heap.size U w2) := hb2
  clear hb2
  cases b with
  | true =>
    clear hH
    go_wp2
    go_ret
    exact ⟨rfl, Below.after HB.out HB2.out⟩
  | false =>
    obtain ⟨⟨hS, hE⟩, hN7⟩ := hH rfl
    have HE : Hid (∀ i (h : i < S.length), S[i].size ≤ 7000) := hE
    clear hH hE
    go_wp2
    refine bloop1 (W := w2) rfl (cell_later HB2.out HC.out.2) (HPT.out.later HB2.out) (fun j u hu => by
      obtain ⟨b, off, e, h⟩ := HN.out j u hu
      exact ⟨b, off, e, cell_later HB2.out h⟩) ?_ _ _ ⟨rfl, rfl, rfl, rfl⟩ (Below.refl _ _)
    intro a3 w3 i3 hf3 hb3
    obtain ⟨G3, hg3, e3⟩ := act232 a3 hf3.d hf3.s
    obtain ⟨hz1, hz2, g1, g3⟩ := hf3
    rw [hg3] at g1 g3 
    clear hz1 hz2
    subst e3
    clear hg3
    rw [g1, g3]
    clear g1 g3 
    have HB3 : Hid (Below U.heap.size U w3) := Below.after HB2.out hb3
    clear hb3
    go_wp2
    refine bloop2 (W := w3) rfl HE (cell_later HB3.out HC.out.1) (fun j u hu => by
      obtain ⟨b, off, e, h⟩ := HR.out j u hu
      exact ⟨b, off, e, cell_later HB3.out h⟩) ?_ _ _ ⟨rfl, rfl, rfl, rfl⟩ (Below.refl _ _)
    intro a4 w4 i4 hf4 hb4
    obtain ⟨G4, hg4, e4⟩ := act232 a4 hf4.d hf4.s
    obtain ⟨hz1, hz2, g1, g12⟩ := hf4
    rw [hg4] at g1 g12 
    clear hz1 hz2
    subst e4
    clear hg4
    rw [g1, g12]
    clear g1 g12 
    have HB4 : Hid (Below w.heap.size w w4) := Below.after HB.out (Below.after HB3.out hb4)
    clear hb4
    go_wp2_with fail
    refine (wakes_any _).mono ?_
    rintro e w5 ⟨rfl, hb5⟩
    have HB5 : Hid (Below w.heap.size w w5) := Below.after HB4.out hb5
    clear hb5
    go_wp2
    go_ret
    exact ⟨rfl, HB5.out⟩
end Go.Proofs.YtipioeecgcljoaaDoor
