/- Contract: kernel's Dims, at any list. -/
import Derived.Test.YtjfkhfahpjdidaaQ12
namespace Go.Proofs.Ytjfkhfahpjdidaa
set_option linter.unusedVariables false
set_option linter.unusedSimpArgs false
set_option maxRecDepth 100000
open Go.RowKit

theorem frm_long {k n : Int} {d : List Int} {c : Nat} (h : 2 < c) : frm k n d c = false := by
  cases e : frm k n d c with
  | false => rfl
  | true =>
    have h1 := (frm_parts1 e).2.1
    have := many_le k.toNat
    omega
set_option maxHeartbeats 2000000 in
theorem dims_at {vd v : Value} {d : List Int} {L : List (List Int)} {w : World} (k n : Int) (hd : Ints w vd d) (hl : IntsL w v L) :
    Calls Try.prog 36 #[.int .i64 k, .int .i64 n, vd, v] w fun e w' => ∃ x, e = .returned (.tuple #[x, .int .i64 (diE k n d L)]) ∧ Own w' w.heap.size x (diR k n d L) ∧ Below w.heap.size w w' := by
  by_cases h2 : L.length ≤ 2
  · exact dims_any k n hd hl h2
  · obtain ⟨hbig, va, vc, rfl, hvc, hcell⟩ := hl
    obtain ⟨m, hm⟩ : ∃ m, L.length = m := ⟨_, rfl⟩
    have hf : frm k n d m = false := frm_long (by omega)
    have HE : Hid (diE k n d L = 1 ∧ diR k n d L = []) := by show _ ∧ _; simp [diE, diR, hm, hf]
    have HF : Hid (frE k n d m = 1) := by show _ = _; rw [frE, hf]; rfl
    have HD : Hid (Ints w vd d) := hd
    rw [hm] at hbig ⊢
    clear hd hm hcell hf h2
    go_enter Try.func36, Try.ntmps36
    go_wp2_with fail
    refine (form_any k n m hbig HD.out 1 HF.out).mono ?_
    rintro e w1 ⟨rfl, hb1⟩
    have HB1 : Hid (Below w.heap.size w w1) := hb1
    clear hb1
    go_wp2
    go_ret2
    exact ⟨_, by rw [HE.out.1]; rfl, by rw [HE.out.2]; exact Own.nil _ _, HB1.out⟩
end Go.Proofs.Ytjfkhfahpjdidaa
