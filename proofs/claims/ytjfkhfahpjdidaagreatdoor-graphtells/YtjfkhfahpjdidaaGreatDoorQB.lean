/- Joined: Q5, Q6, Q7. -/
import Derived.Test.YtjfkhfahpjdidaaGreatDoorQ4
import Derived.Deep.Strs
namespace Go.Proofs.YtjfkhfahpjdidaaGreatDoor
section
set_option linter.unusedVariables false
set_option linter.unusedSimpArgs false
set_option maxRecDepth 100000
open Go.RowKit

theorem nodesN_step {L : List Nod} {k : Nat} (h : k < L.length) : nodesN L (k + 1) = (nodesN L k && nodeB L k L[k]) := by
  rw [nodesN, List.getElem?_eq_getElem h]
theorem nodesN_not {L : List Nod} {k : Nat} (h : nodesN L k = false) : ∀ m, k ≤ m → nodesN L m = false
  | 0, hm => by
    have : k = 0 := by omega
    subst this
    exact h
  | m + 1, hm => by
    by_cases e : k = m + 1
    · subst e; exact h
    · rw [nodesN, nodesN_not h m (by omega), Bool.false_and]
set_option maxHeartbeats 4000000 in
theorem rnodes_any {v : Value} {L : List Nod} {w : World} (h : NodesL w v L) (hlen : ∀ t ∈ L, t.args.length ≤ 100000000) (q : Bool) (hq : nodesB L = q) :
    Calls Tryz.prog 7 #[v] w fun e w' => e = .returned (.bool q) ∧ Below w.heap.size w w' := by
  have HN : Hid (NodesL w v L) := h
  have HL : Hid (∀ t ∈ L, t.args.length ≤ 100000000) := hlen
  have HQ : Hid (nodesB L = q) := hq
  obtain ⟨va, vc, rfl, hc1, hc2⟩ := h.shape
  unfold big at hc2
  clear h hq hlen
  by_cases h240 : 240 < L.length
  · have g1 : (240 : Int) < (L.length : Int) := by omega
    have HQ2 : Hid (q = false) := by show _ = _; rw [← HQ.out, nodesB, decide_eq_false (by omega)]; rfl
    go_enter Tryz.func7, Tryz.ntmps7
    go_wp2
    go_ret
    exact ⟨by rw [HQ2.out]; rfl, Below.refl _ _⟩
  · have g1 : ¬ (240 : Int) < (L.length : Int) := by omega
    have HQ2 : Hid (nodesN L L.length = q) := by show _ = _; rw [← HQ.out, nodesB, decide_eq_true (by omega), Bool.true_and]
    go_enter Tryz.func7, Tryz.ntmps7
    go_wp2
    go_loopw [3] (fun i w' => ∃ k : Nat, k ≤ L.length ∧ i = .int .i64 k ∧ Hid (nodesN L k = true) ∧ Hid (Below w.heap.size w w')) (fun i _ => L.length - (intOf i).toNat)
    case atStart => exact ⟨0, Nat.zero_le _, rfl, rfl, Below.refl _ _⟩
    case round =>
      obtain ⟨k, hk, rfl, HP, HB⟩ := hrel
      by_cases hlt : k < L.length
      · have HK : Hid (L[k].args.length ≤ 100000000) := HL.out _ (List.getElem_mem hlt)
        cases hb : nodeB L k L[k] with
        | false =>
          have HBB : Hid (nodeB L k L[k] = false) := hb
          have HQ3 : Hid (q = false) := by
            show _ = _
            rw [← HQ2.out]
            exact nodesN_not (k := k + 1) (by rw [nodesN_step hlt, hb, Bool.and_false]) _ (by omega)
          clear hb
          go_wp2_with (go_at_call 27; refine (rnode_any (HN.out.later HB.out) k hlt HK.out false HBB.out).mono ?_; rintro e w2 ⟨rfl, hb2⟩; have HB2 : Hid (Below w.heap.size w w2) := Below.after HB.out hb2; clear hb2)
          go_ret
          exact ⟨by rw [HQ3.out]; rfl, HB2.out⟩
        | true =>
          have HBB : Hid (nodeB L k L[k] = true) := hb
          clear hb
          go_wp2_with (go_at_call 27; refine (rnode_any (HN.out.later HB.out) k hlt HK.out true HBB.out).mono ?_; rintro e w2 ⟨rfl, hb2⟩; have HB2 : Hid (Below w.heap.size w w2) := Below.after HB.out hb2; clear hb2)
          go_roundw
          case rel => exact ⟨k + 1, by omega, by go_num, by show _ = _; rw [nodesN_step hlt, HP.out, HBB.out]; rfl, HB2.out⟩
          case measure => simp [intOf]; omega
      · obtain rfl : k = L.length := by omega
        have HQ3 : Hid (q = true) := by show _ = _; rw [← HQ2.out]; exact HP.out
        go_wp2
        go_ret
        exact ⟨by rw [HQ3.out]; rfl, HB.out⟩
end
section
set_option linter.unusedVariables false
set_option linter.unusedSimpArgs false
set_option maxRecDepth 100000
open Go.RowKit

def nodW (t : Nod) : Nat := t.args.length + t.dims.length + t.name.size / 8
/-- How heavy a list of nodes is (from n on; what is heavy enough is not read to its end). -/
def nwF : Nat → List Nod → Nat
  | n, [] => n
  | n, t :: r => if n < 1048576 then nwF (n + nodW t) r else n
theorem nwF_ge : ∀ (L : List Nod) (n : Nat), n ≤ nwF n L
  | [], n => by simp [nwF]
  | t :: r, n => by
    rw [nwF]
    split
    · have := nwF_ge r (n + nodW t); omega
    · exact Nat.le_refl _
theorem nwF_each : ∀ (L : List Nod) (n : Nat), nwF n L ≤ 1200 → ∀ i (h : i < L.length), nodW L[i] ≤ 1200
  | t :: r, n, h, i, hi => by
    rw [nwF] at h
    split at h
    · cases i with
      | zero => have := nwF_ge r (n + nodW t); show nodW t ≤ 1200; omega
      | succ j => exact nwF_each r _ h j (by simpa using hi)
    · omega
theorem nwF_le : ∀ (L : List Nod) (n : Nat), n ≤ 60000000000000 → (∀ i (h : i < L.length), nodW L[i] ≤ 53000000000000) → nwF n L ≤ 60000000000000
  | [], n, h, _ => by simpa [nwF] using h
  | t :: r, n, h, he => by
    rw [nwF]
    split
    · have h0 : nodW t ≤ 53000000000000 := he 0 (by simp)
      exact nwF_le r _ (by omega) (fun i hi => he (i + 1) (by simpa using hi))
    · exact h
theorem nodW_le {w : World} {b o : Nat} {x y : Value} {t : Nod} (h : NodeAt w b o x y t) : nodW t ≤ 53000000000000 := by
  have h1 := h.a.len
  have h2 := h.d.len
  have h3 := h.z
  unfold big at h1 h2
  rw [nodW]
  omega
set_option maxHeartbeats 4000000 in
theorem nweight_any {v : Value} {L : List Nod} {w : World} (h : NodesL w v L) (x : Nat) (hx : nwF L.length L = x) :
    Calls Tryz.prog 21 #[v] w fun e w' => e = .returned (.int .i64 x) ∧ ∃ n, w' = w.drewN n := by
  have HN : Hid (NodesL w v L) := h
  have HX : Hid (nwF L.length (L.drop 0) = x) := hx
  obtain ⟨va, vc, rfl, hc1, hc2⟩ := h.shape
  unfold big at hc2
  clear h hx
  go_enter Tryz.func21, Tryz.ntmps21
  go_wp2
  go_loopw [3, 4] (fun n i w' => ∃ (k m q : Nat), k ≤ L.length ∧ m ≤ 60000000000000 ∧ i = .int .i64 k ∧ n = .int .i64 m ∧ w' = w.drewN q ∧ Hid (nwF m (L.drop k) = x)) (fun _ i _ => L.length - (intOf i).toNat)
  case atStart => exact ⟨0, L.length, 0, Nat.zero_le _, by omega, rfl, rfl, rfl, HX.out⟩
  case round =>
    obtain ⟨k, m, q, hk, hm, rfl, rfl, rfl, HI⟩ := hrel
    by_cases hlt : k < L.length
    · have HD : Hid (L.drop k = L[k] :: L.drop (k + 1)) := List.drop_eq_getElem_cons hlt
      by_cases hb : m < 1048576
      · have gb : (m : Int) < 1048576 := by omega
        obtain ⟨b, off, x1, y1, rfl, hnd⟩ := HN.out.row k hlt
        have hwl := nodW_le hnd
        have HI2 : Hid (nwF (m + nodW L[k]) (L.drop (k + 1)) = x) := by
          have h := HI.out
          rw [HD.out, nwF, if_pos hb] at h
          exact h
        obtain ⟨t, ht⟩ : ∃ t, L[k] = t := ⟨_, rfl⟩
        rw [ht] at hnd hwl HI2
        have d0 := hnd.c0
        have d2 := hnd.c2
        have d3 := hnd.c3
        have hal := hnd.a.len
        have hdl := hnd.d.len
        have hzl := hnd.z
        unfold big at hal hdl
        obtain ⟨xa, xc, e2⟩ := hnd.a.shape
        obtain ⟨ya, yc, e3⟩ := hnd.d.shape
        subst e2 e3
        obtain ⟨na, hna⟩ : ∃ n, t.args.length = n := ⟨_, rfl⟩
        obtain ⟨nd, hnd2⟩ : ∃ n, t.dims.length = n := ⟨_, rfl⟩
        obtain ⟨s, hs⟩ : ∃ s, t.name = s := ⟨_, rfl⟩
        rw [hs] at d0 hzl
        rw [hna] at d2 hal
        rw [hnd2] at d3 hdl
        have HW : Hid (nodW t = na + nd + s.size / 8) := by show _ = _; rw [nodW, hna, hnd2, hs]
        have q1 : IntKind.i64.wrap ((m : Int) + (na : Int)) = (m : Int) + (na : Int) := wrap_small _ (by omega) (by omega)
        have q2 : IntKind.i64.wrap ((m : Int) + (na : Int) + (nd : Int)) = (m : Int) + (na : Int) + (nd : Int) := wrap_small _ (by omega) (by omega)
        have e8 : (s.size : Int).tdiv 8 = ((s.size / 8 : Nat) : Int) := rfl
        have q3 : IntKind.i64.wrap ((s.size / 8 : Nat) : Int) = ((s.size / 8 : Nat) : Int) := wrap_small _ (by omega) (by omega)
        have q4 : IntKind.i64.wrap ((m : Int) + (na : Int) + (nd : Int) + ((s.size / 8 : Nat) : Int)) = (m : Int) + (na : Int) + (nd : Int) + ((s.size / 8 : Nat) : Int) := wrap_small _ (by omega) (by omega)
        have g0 : (0 : Int) ≤ (k : Int) := by omega
        have g1 : (k : Int) < L.length := by omega
        clear hnd ht hna hnd2 hs HD
        go_wp2_with fail
        go_quiet (fail)
        go_wp2
        go_roundw
        case rel => exact ⟨k + 1, m + nodW t, _, by omega, by omega, by go_num, by rw [HW.out]; congr 1; push_cast; omega, rfl, HI2.out⟩
        case measure => simp [intOf]; omega
      · have gb : ¬ (m : Int) < 1048576 := by omega
        have HV : Hid (m = x) := by
          have h := HI.out
          rw [HD.out, nwF, if_neg hb] at h
          exact h
        clear HD
        go_wp2
        go_ret
        exact ⟨by rw [HV.out]; rfl, _, rfl⟩
    · have hk' : k = L.length := by omega
      have HV : Hid (m = x) := by
        have h := HI.out
        rw [List.drop_of_length_le (by omega), nwF] at h
        exact h
      go_wp2
      go_ret
      exact ⟨by rw [HV.out]; rfl, _, rfl⟩
end
section
set_option linter.unusedVariables false
set_option linter.unusedSimpArgs false
set_option maxRecDepth 100000
open Go.ChangeShapes Go.WideShapes Go.ChangeAt Go.RowKit Go.Joins Go.Deep

theorem cellsNode : Tryz.prog.cellsOf 47 = 5 := by kernel_rfl
theorem bytesNode : Tryz.prog.bytesOf 47 = 80 := by kernel_rfl
theorem cellsStr8 : Tryz.prog.cellsOf 9 = 1 := by kernel_rfl
theorem cellsInt8 : Tryz.prog.cellsOf 3 = 1 := by kernel_rfl
theorem cellsInts8 : Tryz.prog.cellsOf 23 = 1 := by kernel_rfl
theorem cellsNodes8 : Tryz.prog.cellsOf 28 = 1 := by kernel_rfl
section
variable {H : Type} {enc : TypeId × Value → H} {w : World}
theorem trod_struct5 {t : TypeId} {f0 f1 f2 f3 f4 : Field} {fuel : Nat} {cs : List Value} {x : DataW H × List MemPlace} {P : Program} {base : Nat} {spare : Nat → Bool} {held : Bool} (ht : P.underlying t = some (.struct #[f0, f1, f2, f3, f4])) (h : DataW.trod enc P w base spare held fuel t cs = some x) :
    ∃ y0 y1 y2 y3 y4 n, x = (.agg [y0.1, y1.1, y2.1, y3.1, y4.1], y0.2 ++ (y1.2 ++ (y2.2 ++ (y3.2 ++ y4.2)))) ∧ cs.length = P.cellsOf t ∧ DataW.trod enc P w base spare held n f0.type ((cs.drop f0.offset).take (P.cellsOf f0.type)) = some y0 ∧
      DataW.trod enc P w base spare held n f1.type ((cs.drop f1.offset).take (P.cellsOf f1.type)) = some y1 ∧ DataW.trod enc P w base spare held n f2.type ((cs.drop f2.offset).take (P.cellsOf f2.type)) = some y2 ∧
      DataW.trod enc P w base spare held n f3.type ((cs.drop f3.offset).take (P.cellsOf f3.type)) = some y3 ∧ DataW.trod enc P w base spare held n f4.type ((cs.drop f4.offset).take (P.cellsOf f4.type)) = some y4 := by
  obtain ⟨xs, n, _, rfl, hl, hlen, hf⟩ := DataW.trod_struct ht h
  match xs, hlen with
  | [y0, y1, y2, y3, y4], _ => exact ⟨y0, y1, y2, y3, y4, n, by simp, hl, by simpa using hf 0 f0 rfl, by simpa using hf 1 f1 rfl, by simpa using hf 2 f2 rfl, by simpa using hf 3 f3 rfl, by simpa using hf 4 f4 rfl⟩
theorem open_Node {fuel : Nat} {cs : List Value} {x : DataW H × List MemPlace} (h : DataW.trod enc Tryz.prog w 0 (fun _ => true) true fuel 47 cs = some x) (hs : Szd 47 x.1) :
    ∃ v0 v1 v2 v3 v4, ∃ t : Nod, cs = [v0, v1, v2, v3, v4] ∧ v0 = .string t.name ∧ v1 = .int .i64 t.kind ∧ Ints w v2 t.args ∧ Ints w v3 t.dims ∧ v4 = .int .i64 t.n ∧ t.name.size ≤ 140737488355327 := by
  obtain ⟨y0, y1, y2, y3, y4, n, rfl, hl, h0, h1, h2, h3, h4⟩ := trod_struct5 Tryz.underlying47 h
  rw [cellsNode] at hl
  match cs, hl with
  | [v0, v1, v2, v3, v4], _ =>
    simp only [cellsStr8, cellsInt8, cellsInts8] at h0 h1 h2 h3 h4
    simp at h0 h1 h2 h3 h4
    obtain ⟨s, e0, ex0, hz⟩ := DataW.trod_string Tryz.underlying9 h0
    obtain ⟨k, e1, ex1, _⟩ := DataW.trod_int Tryz.underlying3 h1
    obtain ⟨m, e4, ex4, _⟩ := DataW.trod_int Tryz.underlying3 h4
    have s2 : Szd 23 y2.1 := fun n hn => hs n (by simp [DataW.weights, Tryz.underlying47, DataW.weightsEach]; exact Or.inr (Or.inr (Or.inl hn)))
    have s3 : Szd 23 y3.1 := fun n hn => hs n (by simp [DataW.weights, Tryz.underlying47, DataW.weightsEach]; exact Or.inr (Or.inr (Or.inr (Or.inl hn))))
    have s0 : s.size ≤ 140737488355327 := by
      have := hs s.size (by simp [DataW.weights, Tryz.underlying47, DataW.weightsEach, ex0, Tryz.underlying9])
      simp [reachBytes] at this
      omega
    obtain ⟨d2, i2, _, _⟩ := open_Ints h2 s2
    obtain ⟨d3, i3, _, _⟩ := open_Ints h3 s3
    simp only [List.cons.injEq, and_true] at e0 e1 e4
    exact ⟨v0, v1, v2, v3, v4, ⟨s, k, d2, d3, m⟩, rfl, e0, e1, i2, i3, e4, s0⟩
end
end
end Go.Proofs.YtjfkhfahpjdidaaGreatDoor
