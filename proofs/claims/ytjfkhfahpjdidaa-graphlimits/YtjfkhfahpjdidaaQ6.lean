/- Contract: how heavy nodes are. -/
import Derived.Test.YtjfkhfahpjdidaaQ5
namespace Go.Proofs.Ytjfkhfahpjdidaa
set_option linter.unusedVariables false
set_option linter.unusedSimpArgs false
set_option maxRecDepth 100000
open Go.RowKit

def nodW (t : Nod) : Nat := t.args.length + t.dims.length + t.name.size / 8
/-- How heavy a list of nodes is (from n on; what is heavy enough is not read to its end). -/
def nwF : Nat → List Nod → Nat
  | n, [] => n
  | n, t :: r => if n < 1048576 then nwF (n + nodW t) r else n
theorem nwF_ge : ∀ (L : List Nod) (n : Nat), n ≤ nwF n L
  | [], n => by simp [nwF]
  | t :: r, n => by
    rw [nwF]
    split
    · have := nwF_ge r (n + nodW t); omega
    · exact Nat.le_refl _
theorem nwF_each : ∀ (L : List Nod) (n : Nat), nwF n L ≤ 1200 → ∀ i (h : i < L.length), nodW L[i] ≤ 1200
  | t :: r, n, h, i, hi => by
    rw [nwF] at h
    split at h
    · cases i with
      | zero => have := nwF_ge r (n + nodW t); show nodW t ≤ 1200; omega
      | succ j => exact nwF_each r _ h j (by simpa using hi)
    · omega
theorem nwF_le : ∀ (L : List Nod) (n : Nat), n ≤ 60000000000000 → (∀ i (h : i < L.length), nodW L[i] ≤ 53000000000000) → nwF n L ≤ 60000000000000
  | [], n, h, _ => by simpa [nwF] using h
  | t :: r, n, h, he => by
    rw [nwF]
    split
    · have h0 : nodW t ≤ 53000000000000 := he 0 (by simp)
      exact nwF_le r _ (by omega) (fun i hi => he (i + 1) (by simpa using hi))
    · exact h
theorem nodW_le {w : World} {b o : Nat} {x y : Value} {t : Nod} (h : NodeAt w b o x y t) : nodW t ≤ 53000000000000 := by
  have h1 := h.a.len
  have h2 := h.d.len
  have h3 := h.z
  unfold big at h1 h2
  rw [nodW]
  omega
set_option maxHeartbeats 4000000 in
theorem nweight_any {v : Value} {L : List Nod} {w : World} (h : NodesL w v L) (x : Nat) (hx : nwF L.length L = x) :
    Calls Try.prog 21 #[v] w fun e w' => e = .returned (.int .i64 x) ∧ ∃ n, w' = w.drewN n := by
  have HN : Hid (NodesL w v L) := h
  have HX : Hid (nwF L.length (L.drop 0) = x) := hx
  obtain ⟨va, vc, rfl, hc1, hc2⟩ := h.shape
  unfold big at hc2
  clear h hx
  go_enter Try.func21, Try.ntmps21
  go_wp2
  go_loopw [3, 4] (fun n i w' => ∃ (k m q : Nat), k ≤ L.length ∧ m ≤ 60000000000000 ∧ i = .int .i64 k ∧ n = .int .i64 m ∧ w' = w.drewN q ∧ Hid (nwF m (L.drop k) = x)) (fun _ i _ => L.length - (intOf i).toNat)
  case atStart => exact ⟨0, L.length, 0, Nat.zero_le _, by omega, rfl, rfl, rfl, HX.out⟩
  case round =>
    obtain ⟨k, m, q, hk, hm, rfl, rfl, rfl, HI⟩ := hrel
    by_cases hlt : k < L.length
    · have HD : Hid (L.drop k = L[k] :: L.drop (k + 1)) := List.drop_eq_getElem_cons hlt
      by_cases hb : m < 1048576
      · have gb : (m : Int) < 1048576 := by omega
        obtain ⟨b, off, x1, y1, rfl, hnd⟩ := HN.out.row k hlt
        have hwl := nodW_le hnd
        have HI2 : Hid (nwF (m + nodW L[k]) (L.drop (k + 1)) = x) := by
          have h := HI.out
          rw [HD.out, nwF, if_pos hb] at h
          exact h
        obtain ⟨t, ht⟩ : ∃ t, L[k] = t := ⟨_, rfl⟩
        rw [ht] at hnd hwl HI2
        have d0 := hnd.c0
        have d2 := hnd.c2
        have d3 := hnd.c3
        have hal := hnd.a.len
        have hdl := hnd.d.len
        have hzl := hnd.z
        unfold big at hal hdl
        obtain ⟨xa, xc, e2⟩ := hnd.a.shape
        obtain ⟨ya, yc, e3⟩ := hnd.d.shape
        subst e2 e3
        obtain ⟨na, hna⟩ : ∃ n, t.args.length = n := ⟨_, rfl⟩
        obtain ⟨nd, hnd2⟩ : ∃ n, t.dims.length = n := ⟨_, rfl⟩
        obtain ⟨s, hs⟩ : ∃ s, t.name = s := ⟨_, rfl⟩
        rw [hs] at d0 hzl
        rw [hna] at d2 hal
        rw [hnd2] at d3 hdl
        have HW : Hid (nodW t = na + nd + s.size / 8) := by show _ = _; rw [nodW, hna, hnd2, hs]
        have q1 : IntKind.i64.wrap ((m : Int) + (na : Int)) = (m : Int) + (na : Int) := wrap_small _ (by omega) (by omega)
        have q2 : IntKind.i64.wrap ((m : Int) + (na : Int) + (nd : Int)) = (m : Int) + (na : Int) + (nd : Int) := wrap_small _ (by omega) (by omega)
        have e8 : (s.size : Int).tdiv 8 = ((s.size / 8 : Nat) : Int) := rfl
        have q3 : IntKind.i64.wrap ((s.size / 8 : Nat) : Int) = ((s.size / 8 : Nat) : Int) := wrap_small _ (by omega) (by omega)
        have q4 : IntKind.i64.wrap ((m : Int) + (na : Int) + (nd : Int) + ((s.size / 8 : Nat) : Int)) = (m : Int) + (na : Int) + (nd : Int) + ((s.size / 8 : Nat) : Int) := wrap_small _ (by omega) (by omega)
        have g0 : (0 : Int) ≤ (k : Int) := by omega
        have g1 : (k : Int) < L.length := by omega
        clear hnd ht hna hnd2 hs HD
        go_wp2_with fail
        go_quiet (fail)
        go_wp2
        go_roundw
        case rel => exact ⟨k + 1, m + nodW t, _, by omega, by omega, by go_num, by rw [HW.out]; congr 1; push_cast; omega, rfl, HI2.out⟩
        case measure => simp [intOf]; omega
      · have gb : ¬ (m : Int) < 1048576 := by omega
        have HV : Hid (m = x) := by
          have h := HI.out
          rw [HD.out, nwF, if_neg hb] at h
          exact h
        clear HD
        go_wp2
        go_ret
        exact ⟨by rw [HV.out]; rfl, _, rfl⟩
    · have hk' : k = L.length := by omega
      have HV : Hid (m = x) := by
        have h := HI.out
        rw [List.drop_of_length_le (by omega), nwF] at h
        exact h
      go_wp2
      go_ret
      exact ⟨by rw [HV.out]; rfl, _, rfl⟩
end Go.Proofs.Ytjfkhfahpjdidaa
