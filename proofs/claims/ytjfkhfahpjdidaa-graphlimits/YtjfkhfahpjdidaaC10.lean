/- Carried: C11. -/
import Derived.Test.YtjfkhfahpjdidaaC09
namespace Go.Proofs.Ytjfkhfahpjdidaa
set_option linter.unusedVariables false
set_option linter.unusedSimpArgs false
set_option maxRecDepth 100000
open Go.RowKit

set_option maxHeartbeats 400000 in
theorem opened_any (b : Bool) (w : World) :
    Calls Try.prog 78 #[.int .i32 (if b then 111 else 120)] w fun e w' => e = .returned (.bool b) ∧ w = w' := by
  have e1 : Utf8.encode 111 = ⟨#[111]⟩ := by decide +kernel
  have e2 : Utf8.encode 120 = ⟨#[120]⟩ := by decide +kernel
  cases b
  · go_enter Try.func78, Try.ntmps78
    go_wp2
    go_ret
    exact ⟨by first | rfl | decide +kernel | simp [e2], rfl⟩
  · go_enter Try.func78, Try.ntmps78
    go_wp2
    go_ret
    exact ⟨by first | rfl | decide +kernel | simp [e1], rfl⟩
/-- The gates that are open where a number is above 0. -/
def abG (d : List Int) (i : Nat) : Bool := decide (0 < d.getD i 0)
def abT (d : List Int) (k : Nat) : ByteArray := gT (abG d) k
theorem abT_size (d : List Int) (k : Nat) : (abT d k).size = k := gT_size _ _
theorem abT_snoc (d : List Int) (k : Nat) (h : k < d.length) : abT d (k + 1) = abT d k ++ ⟨#[gB (decide (0 < d[k]))]⟩ := by
  rw [abT, gT_snoc]
  simp [abT, abG, h]
set_option maxHeartbeats 1000000 in
theorem above_any {v : Value} {d : List Int} {w : World} (h : Ints w v d) (h1 : 1 ≤ d.length) (h64 : d.length ≤ 64) :
    Calls Try.prog 80 #[v] w fun e w' => e = .returned (.string (abT d d.length)) ∧ w = w' := by
  rcases h.cases with ⟨rfl, _⟩ | ⟨b, off, c, rfl, h0, hc, hb, HC⟩
  · simp at h1
  clear h
  go_enter Try.func80, Try.ntmps80
  go_wp2
  go_loop [3, 8] (fun t i => ∃ k : Nat, k ≤ d.length ∧ i = .int .i64 k ∧ t = .string (abT d k)) (fun _ i => d.length - (intOf i).toNat)
  case atStart => exact ⟨0, Nat.zero_le _, rfl, rfl⟩
  case round =>
    obtain ⟨k, hk, rfl, rfl⟩ := hrel
    by_cases hlt : k < d.length
    · have hx := HC.out k hlt
      have HS : Hid (abT d (k + 1) = abT d k ++ ⟨#[gB (decide (0 < d[k]))]⟩) := abT_snoc d k hlt
      have hz : (abT d k).size ≤ 64 := by rw [abT_size]; omega
      by_cases hp : 0 < d[k]
      · have HG : Hid (gB (decide (0 < d[k])) = 111) := by show _ = _; simp [hp, gB]
        go_wp2
        refine ⟨⟨k + 1, by omega, by go_num, ?_⟩, by simp [intOf]; omega⟩
        rw [HS.out, HG.out]
      · have HG : Hid (gB (decide (0 < d[k])) = 120) := by show _ = _; simp [hp, gB]
        go_wp2
        refine ⟨⟨k + 1, by omega, by go_num, ?_⟩, by simp [intOf]; omega⟩
        rw [HS.out, HG.out]
    · have hk' : k = d.length := by omega
      subst hk'
      go_wp2
      go_ret
      exact ⟨rfl, rfl⟩
theorem rep_any (k : Nat) (hk : k ≤ 8) (w : World) :
    Calls Try.prog 86 #[.string ⟨#[120]⟩, .int .i64 k] w fun e w' => e = .returned (.string ⟨(List.replicate k 120).toArray⟩) ∧ Below w.heap.size w w' := by
  refine (rep_shelf ⟨#[120]⟩ k w (by omega) (by show 1 * k ≤ _; omega)).mono ?_
  rintro e w' ⟨rfl, hb⟩
  exact ⟨by rw [rep_x], hb⟩
/-- The c-th n of what lies at b, off. -/
theorem cmax_any {b off n c cap : Nat} {a : List Int} {w : World} (h1 : 1 ≤ n) (h8 : n ≤ 8) (h : c * n + n ≤ a.length)
    (hc : ∀ i, i < a.length → w.cell? ⟨b, off + i, none⟩ = some (.int .i64 (a.getD i 0))) :
    Calls Try.prog 34 #[.slice (some ⟨b, off + c * n, none⟩) n cap] w fun e w' => e = .returned (.int .i64 (mC n a c)) ∧ w' = w := by
  have hl := chk_length h
  refine (max_shelf b (off + c * n) n cap (chk n a c) w h1 (by omega) (by omega) ?_).mono ?_
  · intro j hj
    rw [chk_get (by omega), Nat.add_assoc]
    exact hc _ (by omega)
  · rintro e w' ⟨rfl, rfl⟩
    rw [List.take_of_length_le (by omega), chk_max h1 h]
    exact ⟨rfl, rfl⟩
theorem cidx_any {b off n c cap : Nat} {a : List Int} {w : World} (h1 : 1 ≤ n) (h8 : n ≤ 8) (h : c * n + n ≤ a.length)
    (hc : ∀ i, i < a.length → w.cell? ⟨b, off + i, none⟩ = some (.int .i64 (a.getD i 0))) :
    Calls Try.prog 42 #[.slice (some ⟨b, off + c * n, none⟩) n cap, .int .i64 (mC n a c)] w fun e w' => e = .returned (.int .i64 (fC n a c)) ∧ w' = w := by
  have hl := chk_length h
  refine (idx_shelf b (off + c * n) n cap (chk n a c) (mC n a c) w (by omega) (by omega) ?_).mono ?_
  · intro j hj
    rw [chk_get (by omega), Nat.add_assoc]
    exact hc _ (by omega)
  · rintro e w' ⟨rfl, rfl⟩
    rw [List.take_of_length_le (by omega), chk_idx h1 h]
    exact ⟨rfl, rfl⟩
end Go.Proofs.Ytjfkhfahpjdidaa
