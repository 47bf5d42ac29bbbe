/- Contracts: kernel's asks and form. -/
import Derived.Test.YtheddpjaihhbdacGreatA0
namespace Go.Proofs.YtheddpjaihhbdacGreat
set_option linter.unusedVariables false
set_option linter.unusedSimpArgs false
set_option maxRecDepth 100000
open Go.RowKit

def askL (k : Int) : List UInt8 :=
  if k = 1 then [100]
  else if k = 2 then [100]
  else if k = 3 then [110, 100]
  else if k = 4 then [111, 111]
  else if k = 5 then [111, 111]
  else if k = 6 then [111, 111]
  else if k = 7 then [111]
  else if k = 8 then [111, 110]
  else if k = 9 then [111, 111]
  else if k = 10 then [111]
  else if k = 11 then [111, 100]
  else if k = 12 then [111, 100]
  else if k = 13 then [111, 100]
  else if k = 14 then [111]
  else if k = 15 then [111, 102]
  else if k = 16 then [111, 111]
  else if k = 17 then [111, 111, 102]
  else []
def askT (k : Int) : ByteArray := ⟨(askL k).toArray⟩
set_option maxHeartbeats 400000 in
theorem asks_k1 (w : World) : Calls Tryz.prog 54 #[.int .i64 1] w fun e w' => e = .returned (.string (askT 1)) ∧ w = w' := by
  go_enter Tryz.func54, Tryz.ntmps54
  go_wp2
  go_ret
  exact ⟨rfl, rfl⟩
set_option maxHeartbeats 400000 in
theorem asks_k2 (w : World) : Calls Tryz.prog 54 #[.int .i64 2] w fun e w' => e = .returned (.string (askT 2)) ∧ w = w' := by
  go_enter Tryz.func54, Tryz.ntmps54
  go_wp2
  go_ret
  exact ⟨rfl, rfl⟩
set_option maxHeartbeats 400000 in
theorem asks_k3 (w : World) : Calls Tryz.prog 54 #[.int .i64 3] w fun e w' => e = .returned (.string (askT 3)) ∧ w = w' := by
  go_enter Tryz.func54, Tryz.ntmps54
  go_wp2
  go_ret
  exact ⟨rfl, rfl⟩
set_option maxHeartbeats 400000 in
theorem asks_k4 (w : World) : Calls Tryz.prog 54 #[.int .i64 4] w fun e w' => e = .returned (.string (askT 4)) ∧ w = w' := by
  go_enter Tryz.func54, Tryz.ntmps54
  go_wp2
  go_ret
  exact ⟨rfl, rfl⟩
set_option maxHeartbeats 400000 in
theorem asks_k5 (w : World) : Calls Tryz.prog 54 #[.int .i64 5] w fun e w' => e = .returned (.string (askT 5)) ∧ w = w' := by
  go_enter Tryz.func54, Tryz.ntmps54
  go_wp2
  go_ret
  exact ⟨rfl, rfl⟩
set_option maxHeartbeats 400000 in
theorem asks_k6 (w : World) : Calls Tryz.prog 54 #[.int .i64 6] w fun e w' => e = .returned (.string (askT 6)) ∧ w = w' := by
  go_enter Tryz.func54, Tryz.ntmps54
  go_wp2
  go_ret
  exact ⟨rfl, rfl⟩
set_option maxHeartbeats 400000 in
theorem asks_k7 (w : World) : Calls Tryz.prog 54 #[.int .i64 7] w fun e w' => e = .returned (.string (askT 7)) ∧ w = w' := by
  go_enter Tryz.func54, Tryz.ntmps54
  go_wp2
  go_ret
  exact ⟨rfl, rfl⟩
set_option maxHeartbeats 400000 in
theorem asks_k8 (w : World) : Calls Tryz.prog 54 #[.int .i64 8] w fun e w' => e = .returned (.string (askT 8)) ∧ w = w' := by
  go_enter Tryz.func54, Tryz.ntmps54
  go_wp2
  go_ret
  exact ⟨rfl, rfl⟩
set_option maxHeartbeats 400000 in
theorem asks_k9 (w : World) : Calls Tryz.prog 54 #[.int .i64 9] w fun e w' => e = .returned (.string (askT 9)) ∧ w = w' := by
  go_enter Tryz.func54, Tryz.ntmps54
  go_wp2
  go_ret
  exact ⟨rfl, rfl⟩
set_option maxHeartbeats 400000 in
theorem asks_k10 (w : World) : Calls Tryz.prog 54 #[.int .i64 10] w fun e w' => e = .returned (.string (askT 10)) ∧ w = w' := by
  go_enter Tryz.func54, Tryz.ntmps54
  go_wp2
  go_ret
  exact ⟨rfl, rfl⟩
set_option maxHeartbeats 400000 in
theorem asks_k11 (w : World) : Calls Tryz.prog 54 #[.int .i64 11] w fun e w' => e = .returned (.string (askT 11)) ∧ w = w' := by
  go_enter Tryz.func54, Tryz.ntmps54
  go_wp2
  go_ret
  exact ⟨rfl, rfl⟩
set_option maxHeartbeats 400000 in
theorem asks_k12 (w : World) : Calls Tryz.prog 54 #[.int .i64 12] w fun e w' => e = .returned (.string (askT 12)) ∧ w = w' := by
  go_enter Tryz.func54, Tryz.ntmps54
  go_wp2
  go_ret
  exact ⟨rfl, rfl⟩
set_option maxHeartbeats 400000 in
theorem asks_k13 (w : World) : Calls Tryz.prog 54 #[.int .i64 13] w fun e w' => e = .returned (.string (askT 13)) ∧ w = w' := by
  go_enter Tryz.func54, Tryz.ntmps54
  go_wp2
  go_ret
  exact ⟨rfl, rfl⟩
set_option maxHeartbeats 400000 in
theorem asks_k14 (w : World) : Calls Tryz.prog 54 #[.int .i64 14] w fun e w' => e = .returned (.string (askT 14)) ∧ w = w' := by
  go_enter Tryz.func54, Tryz.ntmps54
  go_wp2
  go_ret
  exact ⟨rfl, rfl⟩
set_option maxHeartbeats 400000 in
theorem asks_k15 (w : World) : Calls Tryz.prog 54 #[.int .i64 15] w fun e w' => e = .returned (.string (askT 15)) ∧ w = w' := by
  go_enter Tryz.func54, Tryz.ntmps54
  go_wp2
  go_ret
  exact ⟨rfl, rfl⟩
set_option maxHeartbeats 400000 in
theorem asks_k16 (w : World) : Calls Tryz.prog 54 #[.int .i64 16] w fun e w' => e = .returned (.string (askT 16)) ∧ w = w' := by
  go_enter Tryz.func54, Tryz.ntmps54
  go_wp2
  go_ret
  exact ⟨rfl, rfl⟩
set_option maxHeartbeats 400000 in
theorem asks_k17 (w : World) : Calls Tryz.prog 54 #[.int .i64 17] w fun e w' => e = .returned (.string (askT 17)) ∧ w = w' := by
  go_enter Tryz.func54, Tryz.ntmps54
  go_wp2
  go_ret
  exact ⟨rfl, rfl⟩
theorem askL_none {k : Int} (h : ¬ (1 ≤ k ∧ k ≤ 17)) : askL k = [] := by
  unfold askL
  rw [if_neg (by omega)]
  rw [if_neg (by omega)]
  rw [if_neg (by omega)]
  rw [if_neg (by omega)]
  rw [if_neg (by omega)]
  rw [if_neg (by omega)]
  rw [if_neg (by omega)]
  rw [if_neg (by omega)]
  rw [if_neg (by omega)]
  rw [if_neg (by omega)]
  rw [if_neg (by omega)]
  rw [if_neg (by omega)]
  rw [if_neg (by omega)]
  rw [if_neg (by omega)]
  rw [if_neg (by omega)]
  rw [if_neg (by omega)]
  rw [if_neg (by omega)]
set_option maxHeartbeats 1000000 in
theorem asks_none (k : Int) (w : World) (h : ¬ (1 ≤ k ∧ k ≤ 17)) : Calls Tryz.prog 54 #[.int .i64 k] w fun e w' => e = .returned (.string (askT k)) ∧ w = w' := by
  have HE : Hid (askT k = ⟨#[]⟩) := by show _ = _; rw [askT, askL_none h]
  have h1 : ¬ k = 1 := by omega
  have h2 : ¬ k = 2 := by omega
  have h3 : ¬ k = 3 := by omega
  have h4 : ¬ k = 4 := by omega
  have h5 : ¬ k = 5 := by omega
  have h6 : ¬ k = 6 := by omega
  have h7 : ¬ k = 7 := by omega
  have h8 : ¬ k = 8 := by omega
  have h9 : ¬ k = 9 := by omega
  have h10 : ¬ k = 10 := by omega
  have h11 : ¬ k = 11 := by omega
  have h12 : ¬ k = 12 := by omega
  have h13 : ¬ k = 13 := by omega
  have h14 : ¬ k = 14 := by omega
  have h15 : ¬ k = 15 := by omega
  have h16 : ¬ k = 16 := by omega
  have h17 : ¬ k = 17 := by omega
  clear h
  go_enter Tryz.func54, Tryz.ntmps54
  go_wp2
  go_ret
  exact ⟨by rw [HE.out]; rfl, rfl⟩
theorem asks_any (k : Int) (w : World) : Calls Tryz.prog 54 #[.int .i64 k] w fun e w' => e = .returned (.string (askT k)) ∧ w = w' := by
  by_cases h : 1 ≤ k ∧ k ≤ 17
  · have hk : k = 1 ∨ k = 2 ∨ k = 3 ∨ k = 4 ∨ k = 5 ∨ k = 6 ∨ k = 7 ∨ k = 8 ∨ k = 9 ∨ k = 10 ∨ k = 11 ∨ k = 12 ∨ k = 13 ∨ k = 14 ∨ k = 15 ∨ k = 16 ∨ k = 17 := by omega
    rcases hk with rfl | rfl | rfl | rfl | rfl | rfl | rfl | rfl | rfl | rfl | rfl | rfl | rfl | rfl | rfl | rfl | rfl
    · exact asks_k1 w
    · exact asks_k2 w
    · exact asks_k3 w
    · exact asks_k4 w
    · exact asks_k5 w
    · exact asks_k6 w
    · exact asks_k7 w
    · exact asks_k8 w
    · exact asks_k9 w
    · exact asks_k10 w
    · exact asks_k11 w
    · exact asks_k12 w
    · exact asks_k13 w
    · exact asks_k14 w
    · exact asks_k15 w
    · exact asks_k16 w
    · exact asks_k17 w
  · exact asks_none k w h
end Go.Proofs.YtheddpjaihhbdacGreat
