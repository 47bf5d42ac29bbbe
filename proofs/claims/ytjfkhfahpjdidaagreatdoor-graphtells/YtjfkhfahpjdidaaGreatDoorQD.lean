/- Joined: Q11, Q12, Q13. -/
import Derived.Test.YtjfkhfahpjdidaaGreatDoorQC
namespace Go.Proofs.YtjfkhfahpjdidaaGreatDoor
section
set_option linter.unusedVariables false
set_option linter.unusedSimpArgs false
set_option maxRecDepth 100000
open Go.ChangeShapes Go.WideShapes Go.ChangeAt Go.RowKit Go.Joins Go.Deep

section
variable {H : Type} {enc : TypeId × Value → H} {w : World}
theorem open_Nodes {fuel : Nat} {v : Value} {x : DataW H × List MemPlace} (h : DataW.trod enc Tryz.prog w 0 (fun _ => true) true fuel 28 [v] = some x) (hs : Szd 28 x.1) : ∃ L, NodesL w v L := by
  rcases open_slice Tryz.underlying28 h with ⟨hcs, _⟩ | ⟨a, len, cap, m, n, D, Pl, hcs, _, hl, hm, hz, hx, hcell⟩
  · simp at hcs
    subst hcs
    exact ⟨[], NodesL.nil _⟩
  · simp at hcs
    subst hcs
    simp at hz
    subst hz
    rw [hx] at hs
    have hq := szd_slice Tryz.underlying28 hs
    rw [bytesNode] at hq
    rw [cellsNode] at hcell
    have hb : len ≤ big := by
      have := hq.1
      simp [reachBytes] at this
      unfold big
      omega
    have key : ∀ i, i < len → ∃ (v0 v1 v2 v3 v4 : Value) (t : Nod), w.cells? 0 (a.add (i * 5)) 5 = some [v0, v1, v2, v3, v4] ∧ v0 = .string t.name ∧ v1 = .int .i64 t.kind ∧ Ints w v2 t.args ∧ Ints w v3 t.dims ∧ v4 = .int .i64 t.n ∧ t.name.size ≤ 140737488355327 := by
      intro i hi
      obtain ⟨cs', hc, ht⟩ := hcell i (by omega)
      obtain ⟨v0, v1, v2, v3, v4, t, rfl, h2⟩ := open_Node ht (hq.2 _ (by simp; exact ⟨i, hi, rfl⟩))
      exact ⟨v0, v1, v2, v3, v4, t, hc, h2⟩
    have hsome : ∀ i, ∃ t : Nod, i < len → ∃ v0 v1 v2 v3 v4, w.cells? 0 (a.add (i * 5)) 5 = some [v0, v1, v2, v3, v4] ∧ v0 = .string t.name ∧ v1 = .int .i64 t.kind ∧ Ints w v2 t.args ∧ Ints w v3 t.dims ∧ v4 = .int .i64 t.n ∧ t.name.size ≤ 140737488355327 := fun i => by
      by_cases hi : i < len
      · obtain ⟨v0, v1, v2, v3, v4, t, h1⟩ := key i hi
        exact ⟨t, fun _ => ⟨v0, v1, v2, v3, v4, h1⟩⟩
      · exact ⟨⟨⟨#[]⟩, 0, [], [], 0⟩, fun h => absurd h hi⟩
    refine ⟨(List.range len).map fun i => Classical.choose (hsome i), ?_, some a, m, ?_, ?_, ?_⟩
    · simpa using hb
    · rw [List.length_map, List.length_range]
    · simpa using hl
    · intro i hi
      have hi' : i < len := by simpa using hi
      obtain ⟨v0, v1, v2, v3, v4, hc, e0, e1, ha, hd, e4, hz⟩ := Classical.choose_spec (hsome i) hi'
      obtain ⟨v00, _, _, _, _, hc0, _⟩ := Classical.choose_spec (hsome 0) (by omega)
      have c0 := (World.cells?_some hc0)
      have c1 := (World.cells?_some hc)
      obtain ⟨b, off, spot⟩ := a
      have hsp : spot = none := by
        have h00 : w.cell? (((⟨b, off, spot⟩ : Addr).add (0 * 5)).add 0) = some v00 := by simpa using c0.2.2 0 (by omega)
        simpa [Addr.add] using World.cell?_spot h00
      subst hsp
      have k0 : w.cell? (((⟨b, off, none⟩ : Addr).add (i * 5)).add 0) = some v0 := by simpa using c1.2.2 0 (by omega)
      have k1 : w.cell? (((⟨b, off, none⟩ : Addr).add (i * 5)).add 1) = some v1 := by simpa using c1.2.2 1 (by omega)
      have k2 : w.cell? (((⟨b, off, none⟩ : Addr).add (i * 5)).add 2) = some v2 := by simpa using c1.2.2 2 (by omega)
      have k3 : w.cell? (((⟨b, off, none⟩ : Addr).add (i * 5)).add 3) = some v3 := by simpa using c1.2.2 3 (by omega)
      have k4 : w.cell? (((⟨b, off, none⟩ : Addr).add (i * 5)).add 4) = some v4 := by simpa using c1.2.2 4 (by omega)
      simp only [addr_add, Nat.add_zero] at k0 k1 k2 k3 k4
      rw [e0] at k0
      rw [e1] at k1
      rw [e4] at k4
      refine ⟨b, off, v2, v3, rfl, ?_⟩
      rw [List.getElem_map, List.getElem_range]
      exact ⟨k0, k1, k2, k3, k4, ha, hd, hz⟩
/-- A list of lists of nodes. -/
def NodesLL (w : World) (v : Value) (L : List (List Nod)) : Prop :=
  L.length ≤ big ∧ ∃ (a : Option Addr) (c : Nat), v = .slice a L.length c ∧ L.length ≤ c ∧ ∀ i (h : i < L.length), ∃ b off x, a = some ⟨b, off, none⟩ ∧ w.cell? ⟨b, off + i, none⟩ = some x ∧ NodesL w x L[i]
theorem NodesLL.later {w w' : World} {v : Value} {L : List (List Nod)} (h : NodesLL w v L) (hb : Below w.heap.size w w') : NodesLL w' v L := by
  obtain ⟨h0, a, c, rfl, h1, h2⟩ := h
  refine ⟨h0, a, c, rfl, h1, fun i hi => ?_⟩
  obtain ⟨b, off, x, e, hc, hn⟩ := h2 i hi
  exact ⟨b, off, x, e, cell_later hb hc, hn.later hb⟩
theorem open_NodesLL {fuel : Nat} {v : Value} {x : DataW H × List MemPlace} (h : DataW.trod enc Tryz.prog w 0 (fun _ => true) true fuel 22 [v] = some x) (hs : Szd 22 x.1) : ∃ L, NodesLL w v L := by
  rcases open_slice1 Tryz.underlying22 cellsNodes8 h with ⟨hcs, _⟩ | ⟨a, len, cap, m, n, V, D, Pl, hcs, _, hl, hm, hz, hx, hcell⟩
  · simp at hcs
    subst hcs
    exact ⟨[], Nat.zero_le _, none, 0, rfl, Nat.le_refl _, fun i hi => by simp at hi⟩
  · simp at hcs
    subst hcs
    simp at hz
    subst hz
    rw [hx] at hs
    have hq := szd_slice Tryz.underlying22 hs
    rw [show Tryz.prog.bytesOf 28 = 24 from by kernel_rfl] at hq
    have hb : len ≤ big := by
      have := hq.1
      simp [reachBytes] at this
      unfold big
      omega
    have hsome : ∀ i, ∃ d, i < len → NodesL w (V i) d := fun i => by
      by_cases hi : i < len
      · obtain ⟨d, hd⟩ := open_Nodes (hcell i (by omega)).2 (hq.2 _ (by simp; exact ⟨i, hi, rfl⟩))
        exact ⟨d, fun _ => hd⟩
      · exact ⟨[], fun h => absurd h hi⟩
    refine ⟨(List.range len).map fun i => Classical.choose (hsome i), ?_, some a, m, ?_, ?_, ?_⟩
    · simpa using hb
    · rw [List.length_map, List.length_range]
    · simpa using hl
    · intro i hi
      have hi' : i < len := by simpa using hi
      have hc := (hcell i (by omega)).1
      obtain ⟨b, off, spot⟩ := a
      have hsp : spot = none := by
        have hc0 := World.cell?_spot (hcell 0 (by omega)).1
        simpa [Addr.add] using hc0
      subst hsp
      rw [addr_add] at hc
      refine ⟨b, off, V i, rfl, hc, ?_⟩
      simp only [List.getElem_map, List.getElem_range]
      exact Classical.choose_spec (hsome i) hi'
theorem cellsAsk8 : Tryz.prog.cellsOf 26 = 3 := by kernel_rfl
theorem cellsNN8 : Tryz.prog.cellsOf 22 = 1 := by kernel_rfl
theorem cellsIL8 : Tryz.prog.cellsOf 24 = 1 := by kernel_rfl
/-- The whole of it: what graduslaw8's argument lays in memory. -/
theorem open_Ask8 {base : Nat} {v : Value} {d : DataW H} {p : List MemPlace} (hv : Value.okWide Tryz.prog w .any base 26 v) (h : DataW.Trod enc Tryz.prog w 0 (fun _ => true) true 26 v d p) (hs : Szd 26 d) :
    ∃ (f0 f1 f2 : Value) (T : List (List Nod)) (L : List Int) (D : List (List Int)), v = .agg #[f0, f1, f2] ∧ NodesLL w f0 T ∧ (Ints w f1 L ∧ L.length ≤ 17592186043904 ∧ Rg L) ∧ (IntsL w f2 D ∧ Nil0 f2) := by
  obtain ⟨cs, rfl, hsz⟩ := okWide_struct Tryz.underlying26 hv
  obtain ⟨c0, c1, c2, rfl⟩ := array3 (hsz.trans cellsAsk8)
  obtain ⟨fuel, hf⟩ := h
  obtain ⟨y0, y1, y2, n, hx, _, h0, h1, h2⟩ := trod_struct3 Tryz.underlying26 hf
  simp only [Prod.mk.injEq] at hx
  obtain ⟨rfl, rfl⟩ := hx
  have h0' : DataW.trod enc Tryz.prog w 0 (fun _ => true) true n 22 [c0] = some y0 := by simpa [Value.cells, cellsNN8] using h0
  have h1' : DataW.trod enc Tryz.prog w 0 (fun _ => true) true n 23 [c1] = some y1 := by simpa [Value.cells, cellsInts8] using h1
  have h2' : DataW.trod enc Tryz.prog w 0 (fun _ => true) true n 24 [c2] = some y2 := by simpa [Value.cells, cellsIL8] using h2
  have hw : ∀ q, (q ∈ y0.1.weights Tryz.prog 22 ∨ q ∈ y1.1.weights Tryz.prog 23 ∨ q ∈ y2.1.weights Tryz.prog 24) → q ≤ reachBytes := by
    intro q hq
    refine hs q ?_
    simp only [DataW.weights, Tryz.underlying26, DataW.weightsEach, List.map_cons, List.map_nil, List.mem_append, List.append_nil]
    exact hq
  obtain ⟨T, hT⟩ := open_NodesLL h0' (fun q hq => hw q (Or.inl hq))
  obtain ⟨L, hL, hR, hL8⟩ := open_Ints h1' (fun q hq => hw q (Or.inr (Or.inl hq)))
  obtain ⟨D, hD, hN⟩ := open_IntsL h2' (fun q hq => hw q (Or.inr (Or.inr hq)))
  exact ⟨c0, c1, c2, T, L, D, rfl, hT, ⟨hL, hL8, hR⟩, ⟨hD, hN⟩⟩
end
end
section
set_option linter.unusedVariables false
set_option linter.unusedSimpArgs false
set_option maxRecDepth 100000
open Go.RowKit

/-- How heavy lists of nodes are. -/
def hvF : Nat → List (List Nod) → Nat
  | n, [] => n
  | n, L :: r => if n < 1048576 then hvF (n + nwF L.length L) r else n
theorem hvF_ge : ∀ (T : List (List Nod)) (n : Nat), n ≤ hvF n T
  | [], n => Nat.le_refl _
  | L :: r, n => by
    rw [hvF]
    split
    · have := hvF_ge r (n + nwF L.length L); omega
    · exact Nat.le_refl _
theorem hvF_each : ∀ (T : List (List Nod)) (n : Nat), hvF n T ≤ 1200 → ∀ i (h : i < T.length), nwF T[i].length T[i] ≤ 1200
  | L :: r, n, h, i, hi => by
    rw [hvF] at h
    split at h
    · cases i with
      | zero => have := hvF_ge r (n + nwF L.length L); show nwF L.length L ≤ 1200; omega
      | succ j => exact hvF_each r _ h j (by simpa using hi)
    · omega
def hv (T : List (List Nod)) (N : List Int) (D : List (List Int)) : Nat := hvF (N.length + (lsF D.length (D.map List.length)).toNat) T
theorem lsF_each : ∀ (l : List Nat) (x : Int), 0 ≤ x → lsF x l ≤ 1200 → ∀ a ∈ l, a ≤ 1200
  | b :: r, x, hx, h, a, ha => by
    rw [lsF] at h
    split at h
    · have hge := lsF_ge r (x + b)
      rcases List.mem_cons.1 ha with rfl | ha
      · omega
      · exact lsF_each r _ (by omega) h a ha
    · omega
theorem NodesL.weight_le {w : World} {v : Value} {L : List Nod} (h : NodesL w v L) : nwF L.length L ≤ 60000000000000 := by
  obtain ⟨h0, a, c, e, h1, h2⟩ := h
  unfold big at h0
  exact nwF_le L _ (by omega) (fun i hi => by
    obtain ⟨b, off, x, y, _, hn⟩ := h2 i hi
    exact nodW_le hn)
/-- What is not heavy. -/
structure Light (T : List (List Nod)) (N : List Int) (D : List (List Int)) : Prop where
  n : N.length ≤ 1200
  d : D.length ≤ 1200
  de : ∀ d ∈ D, d.length ≤ 1200
  t : ∀ i (h : i < T.length), T[i].length ≤ 1200
  te : ∀ i (h : i < T.length) k (g : k < T[i].length), nodW (T[i][k]) ≤ 1200
theorem hv_light {T : List (List Nod)} {N : List Int} {D : List (List Int)} (h : hv T N D ≤ 1200) : Light T N D := by
  have h1 := hvF_ge T (N.length + (lsF D.length (D.map List.length)).toNat)
  have h2 := hvF_each T _ h
  rw [hv] at h
  have h3 := lsF_ge (D.map List.length) D.length
  refine ⟨by omega, by omega, fun d hd => ?_, fun i hi => ?_, fun i hi k hk => ?_⟩
  · exact lsF_each (D.map List.length) D.length (by omega) (by omega) _ (List.mem_map_of_mem hd)
  · have := nwF_ge T[i] T[i].length
    have := h2 i hi
    omega
  · exact nwF_each T[i] _ (h2 i hi) k hk
set_option maxHeartbeats 4000000 in
theorem heavy8_any {f0 f1 f2 : Value} {T : List (List Nod)} {N : List Int} {D : List (List Int)} {w : World} (h0 : NodesLL w f0 T) (h1 : Ints w f1 N) (h2 : IntsL w f2 D) (bh : Bool) (hbh : decide (1200 < hv T N D) = bh) :
    Calls Tryz.prog 4 #[.agg #[f0, f1, f2]] w fun e w' => e = .returned (.bool bh) ∧ Below w.heap.size w w' := by
  obtain ⟨hTb, a0, k0, rfl, hTc, hTr⟩ := h0
  have HT : Hid (∀ i (h : i < T.length), ∃ b off x, a0 = some ⟨b, off, none⟩ ∧ w.cell? ⟨b, off + i, none⟩ = some x ∧ NodesL w x T[i]) := hTr
  obtain ⟨a1, k1, rfl⟩ := h1.shape
  obtain ⟨a2, n2, k2, rfl⟩ : ∃ a n c, f2 = .slice a n c := by obtain ⟨_, a, c, e, _⟩ := h2; exact ⟨a, _, c, e⟩
  have hnl := h1.len
  have hle : lsF D.length (D.map List.length) ≤ 1048576 + 17592186044416 := by
    refine lsF_le 17592186044416 _ _ (fun a ha => ?_) ?_
    · simp only [List.mem_map] at ha
      obtain ⟨d, hd, rfl⟩ := ha
      obtain ⟨i, hi, rfl⟩ := List.getElem_of_mem hd
      obtain ⟨_, a', c', e, _, hrow⟩ := h2
      obtain ⟨b, off, x, ea, c0, hx⟩ := hrow i hi
      have := hx.len
      unfold big at this
      exact this
    · have := h2.1
      unfold big at this
      omega
  have hge := lsF_ge (D.map List.length) D.length
  obtain ⟨y, hy⟩ : ∃ y : Nat, lsF (D.length : Int) (D.map List.length) = (y : Int) := ⟨(lsF (D.length : Int) (D.map List.length)).toNat, by omega⟩
  have HB0 : Hid (decide (1200 < hvF (N.length + y) (T.drop 0)) = bh) := by show _ = _; rw [← hbh, hv, hy, Int.toNat_natCast, List.drop_zero]
  rw [hy] at hle hge
  obtain ⟨nn, hnn⟩ : ∃ x, N.length = x := ⟨_, rfl⟩
  rw [hnn] at HB0 hnl ⊢
  unfold big at hnl hTb
  obtain ⟨U, hU⟩ : ∃ U, U = w.alloc (.cells #[.slice a0 T.length k0, .slice a1 nn k1, .slice a2 n2 k2] 26) := ⟨_, rfl⟩
  have HUU : Hid (U = w.alloc (.cells #[.slice a0 T.length k0, .slice a1 nn k1, .slice a2 n2 k2] 26)) := hU
  have hb : Below w.heap.size w U := by rw [hU]; exact Below.push (Below.refl _ _) _
  have HB : Hid (Below w.heap.size w U) := hb
  have u0 : U.cell? ⟨w.heap.size, 0, none⟩ = some (.slice a0 T.length k0) := by rw [hU]; simp
  have u1 : U.cell? ⟨w.heap.size, 1, none⟩ = some (.slice a1 nn k1) := by rw [hU]; simp
  have u2 : U.cell? ⟨w.heap.size, 2, none⟩ = some (.slice a2 n2 k2) := by rw [hU]; simp
  have H2 : Hid (IntsL U (.slice a2 n2 k2) D) := h2.later hb
  have HLI : Hid (∀ {w : World}, IntsL w (.slice a2 n2 k2) D → Calls Tryz.prog 20 #[.slice a2 n2 k2] w fun e w' => e = .returned (.int .i64 y) ∧ w = w') := by
    intro w h
    have := lists_any h
    rw [hy] at this
    exact this
  have hw : IntKind.i64.wrap ((nn : Int) + (y : Int)) = (nn : Int) + (y : Int) := wrap_small _ (by omega) (by omega)
  clear h1 h2 hb hge hy hnn hTr hU hbh
  go_enter Tryz.func4, Tryz.ntmps4
  go_wp2_with fail
  rw [← HUU.out]
  go_quiet ((go_at_call 20; exact Calls.quiet_of_same ((HLI.out (H2.out.later (Below.drewN (Below.refl _ _) _))).mono (fun _ _ h => ⟨h.1, h.2.symm⟩))))
  go_wp2
  go_loopw [3, 4] (fun n i w' => ∃ (k m q : Nat), k ≤ T.length ∧ m ≤ 120000000000000 ∧ i = .int .i64 k ∧ n = .int .i64 m ∧ w' = U.drewN q ∧ Hid (decide (1200 < hvF m (T.drop k)) = bh)) (fun _ i _ => T.length - (intOf i).toNat)
  case atStart => exact ⟨0, nn + y, _, Nat.zero_le _, by omega, rfl, by push_cast; rfl, rfl, HB0.out⟩
  case round =>
    obtain ⟨k, m, q, hk, hm, rfl, rfl, rfl, HI⟩ := hrel
    by_cases hlt : k < T.length
    · have HD : Hid (T.drop k = T[k] :: T.drop (k + 1)) := List.drop_eq_getElem_cons hlt
      by_cases hm2 : m < 1048576
      · have gb : (m : Int) < 1048576 := by omega
        obtain ⟨b, off, x, rfl, hc, hn⟩ := HT.out k hlt
        have c1 : (U.drewN q).cell? ⟨b, off + k, none⟩ = some x := cell_later (Below.drewN HB.out _) hc
        obtain ⟨z, hz⟩ : ∃ z, nwF T[k].length T[k] = z := ⟨_, rfl⟩
        have HZ : Hid (nwF T[k].length T[k] = z) := hz
        have hzl := hn.weight_le
        rw [hz] at hzl
        have HI2 : Hid (decide (1200 < hvF (m + z) (T.drop (k + 1))) = bh) := by
          have h := HI.out
          rw [HD.out, hvF, if_pos hm2, hz] at h
          exact h
        have HNK : Hid (NodesL (U.drewN q) x T[k]) := (hn.later HB.out).later (Below.drewN (Below.refl _ _) _)
        obtain ⟨xa, xc, rfl, _, _⟩ := hn.shape
        have q1 : IntKind.i64.wrap ((m : Int) + (z : Int)) = (m : Int) + (z : Int) := wrap_small _ (by omega) (by omega)
        have g1 : (k : Int) < T.length := by omega
        clear hc hn hz HD
        go_wp2_with (go_at_call 21; refine (nweight_any HNK.out z HZ.out).mono ?_; rintro e w2 ⟨rfl, nq, rfl⟩; rw [World.drewN_drewN])
        go_roundw
        case rel => exact ⟨k + 1, m + z, _, by omega, by omega, by go_num, by push_cast; rfl, rfl, HI2.out⟩
        case measure => simp [intOf]; omega
      · have gb : ¬ (m : Int) < 1048576 := by omega
        have HV : Hid (decide ((1200 : Int) < m) = bh) := by
          have h := HI.out
          rw [HD.out, hvF, if_neg hm2] at h
          show _ = _
          rw [← h]
          exact decide_eq_decide.2 (by omega)
        clear HD
        go_wp2
        go_ret
        exact ⟨by rw [← HV.out]; rfl, Below.drewN HB.out _⟩
    · have hk' : k = T.length := by omega
      have HV : Hid (decide ((1200 : Int) < m) = bh) := by
        have h := HI.out
        rw [List.drop_of_length_le (by omega), hvF] at h
        show _ = _
        rw [← h]
        exact decide_eq_decide.2 (by omega)
      go_wp2
      go_ret
      exact ⟨by rw [← HV.out]; rfl, Below.drewN HB.out _⟩
end
section
set_option linter.unusedVariables false
set_option linter.unusedSimpArgs false
set_option maxRecDepth 100000
open Go.RowKit

theorem frm_long {k n : Int} {d : List Int} {c : Nat} (h : 2 < c) : frm k n d c = false := by
  cases e : frm k n d c with
  | false => rfl
  | true =>
    have h1 := (frm_parts1 e).2.1
    have := many_le k.toNat
    omega
set_option maxHeartbeats 2000000 in
theorem dims_at {vd v : Value} {d : List Int} {L : List (List Int)} {w : World} (k n : Int) (hd : Ints w vd d) (hl : IntsL w v L) :
    Calls Tryz.prog 47 #[.int .i64 k, .int .i64 n, vd, v] w fun e w' => ∃ x, e = .returned (.tuple #[x, .int .i64 (diE k n d L)]) ∧ Own w' w.heap.size x (diR k n d L) ∧ Below w.heap.size w w' := by
  by_cases h2 : L.length ≤ 2
  · exact dims_any k n hd hl h2
  · obtain ⟨hbig, va, vc, rfl, hvc, hcell⟩ := hl
    obtain ⟨m, hm⟩ : ∃ m, L.length = m := ⟨_, rfl⟩
    have hf : frm k n d m = false := frm_long (by omega)
    have HE : Hid (diE k n d L = 1 ∧ diR k n d L = []) := by show _ ∧ _; simp [diE, diR, hm, hf]
    have HF : Hid (frE k n d m = 1) := by show _ = _; rw [frE, hf]; rfl
    have HD : Hid (Ints w vd d) := hd
    rw [hm] at hbig ⊢
    clear hd hm hcell hf h2
    go_enter Tryz.func47, Tryz.ntmps47
    go_wp2_with fail
    refine (form_any k n m hbig HD.out 1 HF.out).mono ?_
    rintro e w1 ⟨rfl, hb1⟩
    have HB1 : Hid (Below w.heap.size w w1) := hb1
    clear hb1
    go_wp2
    go_ret2
    exact ⟨_, by rw [HE.out.1]; rfl, by rw [HE.out.2]; exact Own.nil _ _, HB1.out⟩
end
end Go.Proofs.YtjfkhfahpjdidaaGreatDoor
