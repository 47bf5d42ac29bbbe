/- The law ShapePlaces: its walk. -/
import Derived.Test.YthkmcjniibohkaaR3
import Derived.Test.YthkmcjniibohkaaW6
import Derived.Deep.DeepCutAuto
import Derived.Laws.AppendOwnNone
namespace Go.Proofs.Ythkmcjniibohkaa
set_option linter.unusedVariables false
set_option linter.unusedSimpArgs false
open Go.RowKit

def six : List Int := [0, 1, 5, 63, 64, -1]
def sixV : List Value := [.int .i64 0, .int .i64 1, .int .i64 5, .int .i64 63, .int .i64 64, .int .i64 (-1)]

/-- What stands behind all loops. -/
structure Env (B g : Nat) (f0 f1 f3 : Value) (D P : List (List Int)) (T : List (List Int × List Int)) (nsL : List Int) (W : World) : Prop where
  b0 : W.cell? ⟨B, 0, none⟩ = some f0
  b1 : W.cell? ⟨B, 1, none⟩ = some f1
  b3 : W.cell? ⟨B, 3, none⟩ = some f3
  hD : IntsL W f0 D
  hP : IntsL W f1 P
  hT : TensL W f3 T
  ns : ∀ i (h : i < nsL.length), W.cell? ⟨g, i, none⟩ = some (.int .i64 nsL[i])
theorem Env.later {B g : Nat} {f0 f1 f3 : Value} {D P : List (List Int)} {T : List (List Int × List Int)} {nsL : List Int} {W W' : World} (h : Env B g f0 f1 f3 D P T nsL W) (hb : Below W.heap.size W W') : Env B g f0 f1 f3 D P T nsL W' :=
  ⟨cell_later hb h.b0, cell_later hb h.b1, cell_later hb h.b3, h.hD.later hb, h.hP.later hb, h.hT.later hb, fun i hi => cell_later hb (h.ns i hi)⟩

theorem IntsL.row {w : World} {a : Option Addr} {c : Nat} {L : List (List Int)} (h : IntsL w (.slice a L.length c) L) (i : Nat) (hi : i < L.length) :
    ∃ b off xa xc, a = some ⟨b, off, none⟩ ∧ w.cell? ⟨b, off + i, none⟩ = some (.slice xa L[i].length xc) ∧ Hid (Ints w (.slice xa L[i].length xc) L[i]) := by
  obtain ⟨_, a', c', e, _, hrow⟩ := h
  simp only [Value.slice.injEq, true_and] at e
  obtain ⟨rfl, rfl⟩ := e
  obtain ⟨b, off, x, ha, hc, hx⟩ := hrow i hi
  obtain ⟨xa, xc, rfl⟩ := hx.shape
  exact ⟨b, off, xa, xc, ha, hc, hx⟩
theorem IntsL.le {w : World} {a : Option Addr} {c n : Nat} {L : List (List Int)} (h : IntsL w (.slice a n c) L) : L.length ≤ c := by
  obtain ⟨_, a', c', e, h1, _⟩ := h
  simp only [Value.slice.injEq] at e
  omega
theorem Ints.row {w : World} {a : Option Addr} {c : Nat} {d : List Int} (h : Ints w (.slice a d.length c) d) (h1 : 1 ≤ d.length) :
    ∃ b off, a = some ⟨b, off, none⟩ ∧ d.length ≤ c ∧ Hid (∀ i (h : i < d.length), w.cell? ⟨b, off + i, none⟩ = some (.int .i64 d[i])) := by
  rcases h.cases with ⟨rfl, _⟩ | ⟨b1, o1, c1, e, h0, h1, h2, h3⟩
  · simp at h1
  · simp only [Value.slice.injEq, true_and] at e
    obtain ⟨rfl, rfl⟩ := e
    exact ⟨b1, o1, rfl, h1, h3⟩
theorem ns_own {w : World} {base n : Nat} {v : Value} {N : List Int} (h : w.ownsRow base 3 1 v (6 + n) (sixV ++ N.map (Value.int .i64))) (hn : n = N.length) :
    ∃ g cap, v = .slice (some ⟨g, 0, none⟩) (6 + N.length) cap ∧ 6 + N.length ≤ cap ∧ Hid (∀ i (h : i < (six ++ N).length), w.cell? ⟨g, i, none⟩ = some (.int .i64 (six ++ N)[i])) := by
  subst hn
  rcases h.2 with ⟨_, h0⟩ | ⟨g, cap, cur, rfl, _, hh, h1, h2, h3, h4⟩
  · omega
  refine ⟨g, cap, rfl, h1, fun i hi => ?_⟩
  have hi' : i < 6 + N.length := by simp [six] at hi; omega
  have e : sixV ++ N.map (Value.int .i64) = (six ++ N).map (Value.int .i64) := by simp [sixV, six]
  rw [e] at h4
  rw [cell_of_row w g i cur 3 (0, 0) hh, ← Array.getElem?_toList]
  have : cur.toList[i]? = (cur.toList.take ((6 + N.length) * 1))[i]? := by rw [List.getElem?_take, if_pos (by omega)]
  rw [this, h4, List.getElem?_map, List.getElem?_eq_getElem hi]
  rfl

def pinTo (d p : List Int) (j : Nat) : Bool := (List.range j).all (pin d p)
theorem pinTo_succ (d p : List Int) (j : Nat) : pinTo d p (j + 1) = (pinTo d p j && pin d p j) := by
  simp [pinTo, List.range_succ]
theorem pinTo_pok {d p : List Int} (hl : p.length = d.length) : pinTo d p d.length = pok d p := by simp [pinTo, pok, hl]
theorem pinTo_no {d p : List Int} {j : Nat} (hj : j ≤ d.length) (h : pinTo d p j = false) : pok d p = false := by
  cases e : pok d p with
  | false => rfl
  | true =>
    have : pinTo d p j = true := by
      simp only [pinTo, List.all_eq_true]
      intro k hk
      have := pok_at e k (by have := List.mem_range.1 hk; omega)
      simpa [pin] using this
    rw [h] at this
    cases this
theorem atR_no {d p : List Int} (h : pok d p = false) : atR d p = 0 ∧ atE d p = 1 := by simp [atR, atE, aok, h]
theorem atR_yes {d p : List Int} (h0 : okd d = true) (h : pok d p = true) : atR d p = atV d p ∧ atE d p = 0 := by simp [atR, atE, aok, h, h0]
theorem rcells_at {W w : World} {v : Value} {d : List Int} (h : Ints W v d) (hok : okd d = true) (hb : Below W.heap.size W w) :
    Calls Try.prog 12 #[v] w fun e w' => e = .returned (.int .i64 (prd d)) ∧ w = w' := rcells_ok (h.later hb) hok
theorem rsteps_at {W w : World} {v : Value} {d : List Int} (h : Ints W v d) (hok : okd d = true) (hb : Below W.heap.size W w) :
    Calls Try.prog 13 #[v] w fun e w' => ∃ B, e = .returned (.slice (some ⟨B, 0, none⟩) d.length d.length) ∧ Blk w' B (stp d) ∧ Below W.heap.size W w' := by
  refine (rsteps_ok (h.later hb) hok).mono ?_
  rintro e w' ⟨rfl, hk, h2⟩
  exact ⟨_, rfl, hk, Below.after hb h2⟩

set_option maxHeartbeats 400000 in
theorem at_no {v v' : Value} {d : List Int} {w : World} (hd : Ints w v d) (hok : okd d = false) :
    Calls Try.prog 17 #[v, v'] w fun e w' => e = .returned (.tuple #[.int .i64 0, .int .i64 1]) ∧ w = w' := by
  have HA : Hid (Ints w v d) := hd
  have HK : Hid (okd d = false) := hok
  clear hd hok
  go_enter Try.func17, Try.ntmps17
  go_wp2
  refine wp_scope_jumps 0 (fun a' w' => (w' = w) ∧ ∃ (u0 u1 u2 u3 u4 u5 u6 u7 u8 u9 u10 u11 u12 u13 u14 u15 u16 u17 u18 u19 u20 u21 u22 u23 u24 u25 u26 u27 u28 u29 u30 u31 u32 u33 u34 u35 u36 u37 u38 u39 u40 u41 u42 u43 u44 u45 u46 u47 u48 u49 u50 u51 u52 u53 u54 : Value), a' = { tmps := #[u0, u1, u2, u3, u4, u5, u6, u7, u8, u9, u10, u11, u12, u13, u14, u15, u16, u17, u18, u19, u20, u21, u22, u23, u24, u25, u26, u27, u28, u29, u30, u31, u32, u33, u34, u35, u36, u37, u38, u39, u40, u41, u42, u43, u44, u45, u46, u47, u48, u49, u50, u51, u52, u53, u54], defers := [] }) (fun _ _ => 0) rfl ?_ ?_
  · go_wp2_with fail
    refine (spell_any HA.out).mono ?_
    rw [spT_bad HK.out, erf_bad HK.out]
    rintro e w' ⟨rfl, rfl⟩
    go_wp2
    go_step3
    exact ⟨rfl, rfl, _, _, _, _, _, _, _, _, _, _, _, _, _, _, _, _, _, _, _, _, _, _, _, _, _, _, _, _, _, _, _, _, _, _, _, _, _, _, _, _, _, _, _, _, _, _, _, _, _, _, _, _, _, _, _, rfl⟩
  · rintro a w' ⟨rfl, u0, u1, u2, u3, u4, u5, u6, u7, u8, u9, u10, u11, u12, u13, u14, u15, u16, u17, u18, u19, u20, u21, u22, u23, u24, u25, u26, u27, u28, u29, u30, u31, u32, u33, u34, u35, u36, u37, u38, u39, u40, u41, u42, u43, u44, u45, u46, u47, u48, u49, u50, u51, u52, u53, u54, rfl⟩
    go_wp2
    rw [jump_ret]
    go_ret2
    exact ⟨rfl, rfl⟩

end Go.Proofs.Ythkmcjniibohkaa
