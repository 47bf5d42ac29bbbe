/- Lists of lists and tensors that came in; how heavy they are. -/
import Derived.Test.YtgedknmjenbacaaW4
namespace Go.Proofs.Ytgedknmjenbacaa
set_option linter.unusedVariables false
open Go.RowKit

def IntsL (w : World) (v : Value) (L : List (List Int)) : Prop :=
  L.length ≤ big ∧ ∃ (a : Option Addr) (c : Nat), v = .slice a L.length c ∧ L.length ≤ c ∧ ∀ i (h : i < L.length), ∃ b off x, a = some ⟨b, off, none⟩ ∧ w.cell? ⟨b, off + i, none⟩ = some x ∧ Ints w x L[i]
theorem IntsL.later {w w' : World} {v : Value} {L : List (List Int)} (hb : Below w.heap.size w w') (h : IntsL w v L) : IntsL w' v L := by
  obtain ⟨h0, a, c, rfl, h1, h2⟩ := h
  refine ⟨h0, a, c, rfl, h1, fun i hi => ?_⟩
  obtain ⟨b, off, x, e, h3, h4⟩ := h2 i hi
  exact ⟨b, off, x, e, cell_later hb h3, h4.later hb⟩
def Tens (w : World) (v0 v1 : Value) (t : List Int × List Int) : Prop := Ints w v0 t.1 ∧ Ints w v1 t.2
def TensL (w : World) (v : Value) (L : List (List Int × List Int)) : Prop :=
  L.length ≤ big ∧ ∃ (a : Option Addr) (c : Nat), v = .slice a L.length c ∧ L.length ≤ c ∧ ∀ i (h : i < L.length), ∃ b off x y, a = some ⟨b, off, none⟩ ∧ w.cell? ⟨b, off + i * 2, none⟩ = some x ∧ w.cell? ⟨b, off + i * 2 + 1, none⟩ = some y ∧ Tens w x y L[i]
theorem TensL.later {w w' : World} {v : Value} {L : List (List Int × List Int)} (hb : Below w.heap.size w w') (h : TensL w v L) : TensL w' v L := by
  obtain ⟨h0, a, c, rfl, h1, h2⟩ := h
  refine ⟨h0, a, c, rfl, h1, fun i hi => ?_⟩
  obtain ⟨b, off, x, y, e, h3, h4, h5⟩ := h2 i hi
  exact ⟨b, off, x, y, e, cell_later hb h3, cell_later hb h4, h5.1.later hb, h5.2.later hb⟩

def lsF : Int → List Nat → Int
  | n, [] => n
  | n, l :: r => if n < 1048576 then lsF (n + l) r else n
theorem lsF_on (x : Int) (l : List Nat) (k : Nat) (h : k < l.length) (hx : x < 1048576) : lsF x (l.drop k) = lsF (x + l[k]) (l.drop (k + 1)) := by
  rw [List.drop_eq_getElem_cons h, lsF, if_pos hx]
theorem lsF_off (x : Int) (l : List Nat) (hx : ¬ x < 1048576) : lsF x l = x := by
  cases l with
  | nil => rfl
  | cons a r => rw [lsF, if_neg hx]
theorem lsF_end (x : Int) (l : List Nat) (k : Nat) (h : l.length ≤ k) : lsF x (l.drop k) = x := by
  rw [List.drop_eq_nil_of_le h, lsF]

set_option maxHeartbeats 400000 in
theorem lists_any {v : Value} {L : List (List Int)} {w : World} (h : IntsL w v L) :
    Calls Try.prog 28 #[v] w fun e w' => e = .returned (.int .i64 (lsF L.length (L.map List.length))) ∧ w = w' := by
  obtain ⟨h0, a, c, rfl, h1, h2⟩ := h
  have HC : Hid (∀ i (h : i < L.length), ∃ b off x, a = some ⟨b, off, none⟩ ∧ w.cell? ⟨b, off + i, none⟩ = some x ∧ Ints w x L[i]) := h2
  unfold big at h0
  clear h2
  go_enter Try.func28, Try.ntmps28
  go_wp2
  go_loop [3, 4] (fun n i => ∃ (k : Nat) (x : Int), k ≤ L.length ∧ i = .int .i64 k ∧ n = .int .i64 x ∧ 0 ≤ x ∧ x ≤ 20000000000000 ∧ Hid (lsF x ((L.map List.length).drop k) = lsF L.length (L.map List.length))) (fun _ i => L.length - (intOf i).toNat)
  case atStart => exact ⟨0, _, Nat.zero_le _, rfl, rfl, by omega, by omega, rfl⟩
  case round =>
    obtain ⟨k, x, hk, rfl, rfl, hx0, hx1, hl⟩ := hrel
    by_cases hlt : k < L.length
    · by_cases hx : x < 1048576
      · obtain ⟨b, off, y, rfl, hc, hi⟩ := HC.out k hlt
        have hlen := hi.len
        unfold big at hlen
        obtain ⟨ya, yc, rfl⟩ := hi.shape
        have HN : Hid (lsF (x + L[k].length) ((L.map List.length).drop (k + 1)) = lsF L.length (L.map List.length)) := by
          have := lsF_on x (L.map List.length) k (by simpa using hlt) hx
          show _ = _
          rw [← hl.out, this]
          simp
        clear hi
        go_wp2
        exact ⟨⟨k + 1, _, by omega, by go_num, rfl, by omega, by omega, HN.out⟩, by simp [intOf]; omega⟩
      · go_wp2
        go_ret
        exact ⟨by rw [← hl.out, lsF_off x _ (by omega)]; rfl, rfl⟩
    · go_wp2
      go_ret
      exact ⟨by rw [← hl.out, lsF_end x _ k (by simp; omega)]; rfl, rfl⟩

def tw (t : List Int × List Int) : Nat := t.1.length + t.2.length / 8
set_option maxHeartbeats 400000 in
theorem tensw_any {v : Value} {L : List (List Int × List Int)} {w : World} (h : TensL w v L) :
    Calls Try.prog 45 #[v] w fun e w' => e = .returned (.int .i64 (lsF L.length (L.map tw))) ∧ ∃ n, w' = w.drewN n := by
  obtain ⟨h0, a, c, rfl, h1, h2⟩ := h
  have HC : Hid (∀ i (h : i < L.length), ∃ b off x y, a = some ⟨b, off, none⟩ ∧ w.cell? ⟨b, off + i * 2, none⟩ = some x ∧ w.cell? ⟨b, off + i * 2 + 1, none⟩ = some y ∧ Tens w x y L[i]) := h2
  unfold big at h0
  clear h2
  go_enter Try.func45, Try.ntmps45
  go_wp2
  go_loopw [3, 4] (fun n i w' => ∃ (k m : Nat) (x : Int), k ≤ L.length ∧ i = .int .i64 k ∧ n = .int .i64 x ∧ 0 ≤ x ∧ x ≤ 40000000000000 ∧ w' = w.drewN m ∧ Hid (lsF x ((L.map tw).drop k) = lsF L.length (L.map tw))) (fun _ i _ => L.length - (intOf i).toNat)
  case atStart => exact ⟨0, 0, _, Nat.zero_le _, rfl, rfl, by omega, by omega, rfl, rfl⟩
  case round =>
    obtain ⟨k, m, x, hk, rfl, rfl, hx0, hx1, rfl, hl⟩ := hrel
    by_cases hlt : k < L.length
    · by_cases hx : x < 1048576
      · obtain ⟨b, off, y, z, rfl, hc1, hc2, hi1, hi2⟩ := HC.out k hlt
        have hlen1 := hi1.len
        have hlen2 := hi2.len
        unfold big at hlen1 hlen2
        obtain ⟨ya, yc, rfl⟩ := hi1.shape
        obtain ⟨za, zc, rfl⟩ := hi2.shape
        have HN : Hid (lsF (x + L[k].1.length + L[k].2.length / 8) ((L.map tw).drop (k + 1)) = lsF L.length (L.map tw)) := by
          have := lsF_on x (L.map tw) k (by simpa using hlt) hx
          show _ = _
          rw [← hl.out, this]
          simp [tw, Int.add_assoc]
        clear hi1 hi2
        go_wp2
        go_quiet (fail)
        go_wp2
        go_roundw
        case rel => exact ⟨k + 1, m + nq, _, by omega, by go_num, rfl, by omega, by omega, rfl, HN.out⟩
        case measure => simp [intOf]; omega
      · go_wp2
        go_ret
        exact ⟨by rw [← hl.out, lsF_off x _ (by omega)]; rfl, _, rfl⟩
    · go_wp2
      go_ret
      exact ⟨by rw [← hl.out, lsF_end x _ k (by simp; omega)]; rfl, _, rfl⟩

theorem drew_below {B : Nat} {w : World} (n : Nat) : Below B w (w.drewN n) := Below.drewN (Below.refl _ _) n
end Go.Proofs.Ytgedknmjenbacaa
