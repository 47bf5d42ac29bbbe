/- Contract: At. -/
import Derived.Test.YtgedknmjenbacaaAtp
import Derived.Test.YtgedknmjenbacaaW2
namespace Go.Proofs.Ytgedknmjenbacaa
set_option linter.unusedVariables false
set_option linter.unusedSimpArgs false
open Go.RowKit

theorem pok_at {d p : List Int} (h : pok d p = true) (k : Nat) (hk : k < d.length) : 0 ≤ p.getD k 0 ∧ p.getD k 0 < d.getD k 0 := by
  simp only [pok, Bool.and_eq_true, List.all_eq_true] at h
  have := h.2 k (List.mem_range.2 hk)
  simpa [pin] using this
theorem pok_len {d p : List Int} (h : pok d p = true) : p.length = d.length := by
  simp only [pok, Bool.and_eq_true, decide_eq_true_eq] at h
  exact h.1
theorem pok_mk {d p : List Int} (hl : p.length = d.length) (h : ∀ k, k < d.length → 0 ≤ p.getD k 0 ∧ p.getD k 0 < d.getD k 0) : pok d p = true := by
  simp only [pok, hl, decide_true, Bool.true_and, List.all_eq_true]
  intro k hk
  have := h k (List.mem_range.1 hk)
  simpa [pin] using this
theorem aok_bad {d p : List Int} (k : Nat) (hk : k < d.length) (h : ¬ (0 ≤ p.getD k 0 ∧ p.getD k 0 < d.getD k 0)) : aok d p = false := by
  cases e : aok d p with
  | false => rfl
  | true =>
    simp only [aok, Bool.and_eq_true] at e
    exact absurd (pok_at e.2 k hk) h
theorem aok_len {d p : List Int} (h : ¬ p.length = d.length) : aok d p = false := by
  cases e : aok d p with
  | false => rfl
  | true =>
    simp only [aok, Bool.and_eq_true] at e
    exact absurd (pok_len e.2) h
theorem aok_okd {d p : List Int} (h : okd d = false) : aok d p = false := by simp [aok, h]
theorem atN_bd {d p : List Int} (hin : inr d = true) (k : Nat) (hk : k ≤ d.length) (h : ∀ j, j < k → 0 ≤ p.getD j 0 ∧ p.getD j 0 < d.getD j 0) : 0 ≤ atN d p k ∧ atN d p k < prd (d.take k) := by
  induction k with
  | zero => exact ⟨Int.le_refl _, by simp [atN, prd]⟩
  | succ k ih =>
    obtain ⟨h1, h2⟩ := ih (by omega) fun j hj => h j (by omega)
    have hx := h k (by omega)
    have hd := inr_mem hin (List.getElem_mem (show k < d.length by omega))
    have e : d.getD k 0 = d[k] := by simp [show k < d.length by omega]
    rw [e] at hx
    rw [take_snoc d k (by omega), prd_snoc]
    show 0 ≤ atN d p k * d.getD k 0 + p.getD k 0 ∧ _ < _
    rw [atN, e]
    have h3 : 0 ≤ atN d p k * d[k] := Int.mul_nonneg h1 (by omega)
    have h4 : (atN d p k + 1) * d[k] ≤ prd (d.take k) * d[k] := Int.mul_le_mul_of_nonneg_right (by omega) (by omega)
    rw [Int.add_mul, Int.one_mul] at h4
    omega

def atE (d p : List Int) : Int := if aok d p then 0 else 1
def atR (d p : List Int) : Int := if aok d p then atV d p else 0

set_option maxHeartbeats 1000000 in
theorem at_ok {v v' : Value} {d p : List Int} {w : World} (hd : Ints w v d) (hp : Ints w v' p) (hok : okd d = true) :
    Calls Try.prog 34 #[v, v'] w fun e w' => e = .returned (.tuple #[.int .i64 (atR d p), .int .i64 (atE d p)]) ∧ Below w.heap.size w w' := by
  have HA : Hid (Ints w v d) := hd
  have HP : Hid (Ints w v' p) := hp
  have HK : Hid (okd d = true) := hok
  obtain ⟨hl1, hl2, hin, hpr⟩ := okd_parts hok
  have HI : Hid (inr d = true) := hin
  obtain ⟨da, dc, rfl⟩ := hd.shape
  obtain ⟨pa, pc, rfl⟩ := hp.shape
  have hpl := hp.len
  unfold big at hpl
  clear hd hok hin hpr
  go_enter Try.func34, Try.ntmps34
  go_wp2
  refine wp_scope_jumps 0 (fun a' w' => (Below w.heap.size w w' ∧ Hid (aok d p = false)) ∧ ∃ (u0 u1 u2 u3 u4 u5 u6 u7 u8 u9 u10 u11 u12 u13 u14 u15 u16 u17 u18 u19 u20 u21 u22 u23 u24 u25 u26 u27 u28 u29 u30 u31 u32 u33 u34 u35 u36 u37 u38 u39 u40 u41 u42 u43 u44 u45 u46 u47 u48 u49 u50 u51 u52 u53 u54 : Value), a' = { tmps := #[u0, u1, u2, u3, u4, u5, u6, u7, u8, u9, u10, u11, u12, u13, u14, u15, u16, u17, u18, u19, u20, u21, u22, u23, u24, u25, u26, u27, u28, u29, u30, u31, u32, u33, u34, u35, u36, u37, u38, u39, u40, u41, u42, u43, u44, u45, u46, u47, u48, u49, u50, u51, u52, u53, u54], defers := [] }) (fun _ _ => 0) rfl ?_ ?_
  · go_wp2_with fail
    refine (spell_any HA.out).mono ?_
    rw [spT_ok HK.out, erf_ok HK.out]
    rintro e w' ⟨rfl, rfl⟩
    by_cases hl : p.length = d.length
    · have hne : ((p.length : Int) != (d.length : Int)) = false := by simp [hl]
      have HL : Hid (p.length = d.length) := hl
      obtain ⟨b, off, rfl, hcell⟩ : ∃ b off, pa = some ⟨b, off, none⟩ ∧ Hid (∀ i (h : i < p.length), w.cell? ⟨b, off + i, none⟩ = some (.int .i64 p[i])) := by
        rcases hp.cases with ⟨rfl, a1, c1, e⟩ | ⟨b1, o1, c1, e, h0, h1, h2, h3⟩
        · simp only [List.length_nil] at hl; omega
        · simp only [Value.slice.injEq, true_and] at e
          obtain ⟨rfl, rfl⟩ := e
          exact ⟨b1, o1, rfl, h3⟩
      clear hl hp
      go_wp2
      go_loopw [6] (fun t w' => ∃ k : Nat, k ≤ d.length ∧ t = .int .i64 (atN d p k) ∧ It w' w.heap.size (txt d) k ∧ Below w.heap.size w w' ∧ Hid (∀ j, j < k → 0 ≤ p.getD j 0 ∧ p.getD j 0 < d.getD j 0)) (fun _ w' => d.length - w'.iterPos w.heap.size)
      case atStart => exact ⟨0, Nat.zero_le _, rfl, It.new w (txt d) 0, (Below.refl _ _).alloc (Nat.le_refl _) _, fun j hj => by omega⟩
      case round =>
        obtain ⟨k, hk, rfl, hI, hbel, hpre⟩ := hrel
        by_cases hlt : k < d.length
        · have hnx := fun ty => hI.next HI.out hlt ty
          have hltp : k < p.length := by have := HL.out; omega
          obtain ⟨g1, g2⟩ := inr_mem HI.out (List.getElem_mem hlt)
          have hx := cell_later hbel (hcell.out k hltp)
          have HB1 : Hid (Below w.heap.size w (wr.iterAt w.heap.size (txt d) (k + 1))) := Below.moved hbel (Nat.le_refl _) _ _
          have HI1 : Hid (It (wr.iterAt w.heap.size (txt d) (k + 1)) w.heap.size (txt d) (k + 1)) := hI.moved _
          have HPP : Hid (wr.iterPos w.heap.size = k) := hI.pos
          have hx1 : (wr.iterAt w.heap.size (txt d) (k + 1)).cell? ⟨b, off + k, none⟩ = some (.int .i64 p[k]) := cell_later HB1.out (hcell.out k hltp)
          have ep : p.getD k 0 = p[k] := by simp [hltp]
          have ed : d.getD k 0 = d[k] := by simp [hlt]
          have hbd := atN_bd HI.out k hk hpre.out
          have hp2 := prd_hi (inr_take HI.out k) 2 (by simp; omega)
          have ea : atN d p (k + 1) = atN d p k * d[k] + p[k] := by rw [atN, ep, ed]
          have EA : Hid (atN d p (k + 1) = atN d p k * d[k] + p[k]) := ea
          obtain ⟨hb1, hb2⟩ := hbd
          have hb3 : atN d p k ≤ 64 := by omega
          have hm1 : 0 ≤ atN d p k * d[k] := Int.mul_nonneg hb1 (by omega)
          have hm2 : atN d p k * d[k] ≤ 512 := by
            have := Int.mul_le_mul hb3 g2 (by omega) (by omega)
            omega
          clear hI hbel hx hp2 hb2 ea
          by_cases hr : 0 ≤ p[k] ∧ p[k] < d[k]
          · obtain ⟨r1, r2⟩ := hr
            have HR : Hid (∀ j, j < k + 1 → 0 ≤ p.getD j 0 ∧ p.getD j 0 < d.getD j 0) := by
              intro j hj
              by_cases e : j = k
              · subst e; rw [ep, ed]; exact ⟨r1, r2⟩
              · exact hpre.out j (by omega)
            clear ep ed
            go_wp2
            clear hnx
            generalize wr.iterAt w.heap.size (txt d) (k + 1) = W1 at *
            go_quiet ((go_at_call 50; exact quiet_eq (size_any _ _ g1 g2)))
            go_wp2
            replace HB1 : Hid (Below w.heap.size w (W1.drewN nq)) := Below.drewN HB1.out _
            replace HI1 : Hid (It (W1.drewN nq) w.heap.size (txt d) (k + 1)) := HI1.out
            replace hx1 : (W1.drewN nq).cell? ⟨b, off + k, none⟩ = some (.int .i64 p[k]) := hx1
            generalize W1.drewN nq = W2 at *
            go_quiet ((go_at_call 50; exact quiet_eq (size_any _ _ g1 g2)))
            go_wp2
            go_roundw
            case rel => exact ⟨k + 1, by omega, by rw [EA.out], HI1.out, Below.drewN HB1.out _, HR.out⟩
            case measure =>
              have : (W2.drewN nq).iterPos w.heap.size = k + 1 := It.pos (s := txt d) HI1.out
              rw [this, HPP.out]
              omega
          · have HBD : Hid (aok d p = false) := aok_bad k hlt (by rw [ep, ed]; exact hr)
            clear ep ed
            by_cases r1 : p[k] < 0
            · go_wp2
              clear hnx
              generalize wr.iterAt w.heap.size (txt d) (k + 1) = W1 at *
              have r2 : decide (p[k] < 0) = true := by simp [r1]
              go_quiet ((go_at_call 50; exact quiet_eq (size_any _ _ g1 g2)))
              go_wp2
              go_step3
              exact ⟨rfl, ⟨Below.drewN HB1.out _, HBD⟩, _, _, _, _, _, _, _, _, _, _, _, _, _, _, _, _, _, _, _, _, _, _, _, _, _, _, _, _, _, _, _, _, _, _, _, _, _, _, _, _, _, _, _, _, _, _, _, _, _, _, _, _, _, _, _, rfl⟩
            · have r2 : d[k] ≤ p[k] := by omega
              have r3 : decide (p[k] < 0) = false := by simpa using r1
              go_wp2
              clear hnx
              generalize wr.iterAt w.heap.size (txt d) (k + 1) = W1 at *
              go_quiet ((go_at_call 50; exact quiet_eq (size_any _ _ g1 g2)))
              go_wp2
              go_step3
              exact ⟨rfl, ⟨Below.drewN HB1.out _, HBD⟩, _, _, _, _, _, _, _, _, _, _, _, _, _, _, _, _, _, _, _, _, _, _, _, _, _, _, _, _, _, _, _, _, _, _, _, _, _, _, _, _, _, _, _, _, _, _, _, _, _, _, _, _, _, _, _, rfl⟩
        · have hk' : k = d.length := by omega
          subst hk'
          have hnx := fun ty => hI.done ty
          have HB1 : Hid (Below w.heap.size w wr) := hbel
          have HO : Hid (aok d p = true) := by
            show _ = _
            simp [aok, HK.out, pok_mk HL.out hpre.out]
          clear hI hbel
          go_wp2
          rw [jump_ret]
          go_ret2
          exact ⟨by rw [atR, atE, HO.out]; rfl, HB1.out⟩
    · have hne : ((p.length : Int) != (d.length : Int)) = true := by simp; omega
      have HBD : Hid (aok d p = false) := aok_len hl
      clear hl hp
      go_wp2
      go_step3
      exact ⟨rfl, ⟨Below.refl _ _, HBD⟩, _, _, _, _, _, _, _, _, _, _, _, _, _, _, _, _, _, _, _, _, _, _, _, _, _, _, _, _, _, _, _, _, _, _, _, _, _, _, _, _, _, _, _, _, _, _, _, _, _, _, _, _, _, _, _, rfl⟩
  · rintro a w' ⟨⟨hb, hbad⟩, u0, u1, u2, u3, u4, u5, u6, u7, u8, u9, u10, u11, u12, u13, u14, u15, u16, u17, u18, u19, u20, u21, u22, u23, u24, u25, u26, u27, u28, u29, u30, u31, u32, u33, u34, u35, u36, u37, u38, u39, u40, u41, u42, u43, u44, u45, u46, u47, u48, u49, u50, u51, u52, u53, u54, rfl⟩
    go_wp2
    rw [jump_ret]
    go_ret2
    exact ⟨by rw [atR, atE, hbad.out]; rfl, hb⟩
end Go.Proofs.Ytgedknmjenbacaa

