/- Part 6 of the texts that the theorem leans on. -/
import Derived.Test.YtkojdigaoihkpaaGreatDoorA05
section
namespace Go.Proofs.YtkojdigaoihkpaaGreatDoor
set_option linter.unusedVariables false
set_option linter.unusedSimpArgs false
set_option maxRecDepth 100000
open Go.ChangeShapes Go.WideShapes Go.ChangeAt Go.RowKit Go.Joins Go.Deep

section
variable {H : Type} {enc : TypeId × Value → H} {w : World}
theorem open_Nodes {fuel : Nat} {v : Value} {x : DataW H × List MemPlace} (h : DataW.trod enc Tryz.prog w 0 (fun _ => true) true fuel 29 [v] = some x) (hs : Szd 29 x.1) : ∃ L, NodesL w v L := by
  rcases open_slice Tryz.underlying29 h with ⟨hcs, _⟩ | ⟨a, len, cap, m, n, D, Pl, hcs, _, hl, hm, hz, hx, hcell⟩
  · simp at hcs
    subst hcs
    exact ⟨[], NodesL.nil _⟩
  · simp at hcs
    subst hcs
    simp at hz
    subst hz
    rw [hx] at hs
    have hq := szd_slice Tryz.underlying29 hs
    rw [bytesNode] at hq
    rw [cellsNode] at hcell
    have hb : len ≤ big := by
      have := hq.1
      simp [reachBytes] at this
      unfold big
      omega
    have key : ∀ i, i < len → ∃ (v0 v1 v2 v3 v4 : Value) (t : Nod), w.cells? 0 (a.add (i * 5)) 5 = some [v0, v1, v2, v3, v4] ∧ v0 = .string t.name ∧ v1 = .int .i64 t.kind ∧ Ints w v2 t.args ∧ Ints w v3 t.dims ∧ v4 = .int .i64 t.n ∧ t.name.size ≤ 140737488355327 := by
      intro i hi
      obtain ⟨cs', hc, ht⟩ := hcell i (by omega)
      obtain ⟨v0, v1, v2, v3, v4, t, rfl, h2⟩ := open_Node ht (hq.2 _ (by simp; exact ⟨i, hi, rfl⟩))
      exact ⟨v0, v1, v2, v3, v4, t, hc, h2⟩
    have hsome : ∀ i, ∃ t : Nod, i < len → ∃ v0 v1 v2 v3 v4, w.cells? 0 (a.add (i * 5)) 5 = some [v0, v1, v2, v3, v4] ∧ v0 = .string t.name ∧ v1 = .int .i64 t.kind ∧ Ints w v2 t.args ∧ Ints w v3 t.dims ∧ v4 = .int .i64 t.n ∧ t.name.size ≤ 140737488355327 := fun i => by
      by_cases hi : i < len
      · obtain ⟨v0, v1, v2, v3, v4, t, h1⟩ := key i hi
        exact ⟨t, fun _ => ⟨v0, v1, v2, v3, v4, h1⟩⟩
      · exact ⟨⟨⟨#[]⟩, 0, [], [], 0⟩, fun h => absurd h hi⟩
    refine ⟨(List.range len).map fun i => Classical.choose (hsome i), ?_, some a, m, ?_, ?_, ?_⟩
    · simpa using hb
    · rw [List.length_map, List.length_range]
    · simpa using hl
    · intro i hi
      have hi' : i < len := by simpa using hi
      obtain ⟨v0, v1, v2, v3, v4, hc, e0, e1, ha, hd, e4, hz⟩ := Classical.choose_spec (hsome i) hi'
      obtain ⟨v00, _, _, _, _, hc0, _⟩ := Classical.choose_spec (hsome 0) (by omega)
      have c0 := (World.cells?_some hc0)
      have c1 := (World.cells?_some hc)
      obtain ⟨b, off, spot⟩ := a
      have hsp : spot = none := by
        have h00 : w.cell? (((⟨b, off, spot⟩ : Addr).add (0 * 5)).add 0) = some v00 := by simpa using c0.2.2 0 (by omega)
        simpa [Addr.add] using World.cell?_spot h00
      subst hsp
      have k0 : w.cell? (((⟨b, off, none⟩ : Addr).add (i * 5)).add 0) = some v0 := by simpa using c1.2.2 0 (by omega)
      have k1 : w.cell? (((⟨b, off, none⟩ : Addr).add (i * 5)).add 1) = some v1 := by simpa using c1.2.2 1 (by omega)
      have k2 : w.cell? (((⟨b, off, none⟩ : Addr).add (i * 5)).add 2) = some v2 := by simpa using c1.2.2 2 (by omega)
      have k3 : w.cell? (((⟨b, off, none⟩ : Addr).add (i * 5)).add 3) = some v3 := by simpa using c1.2.2 3 (by omega)
      have k4 : w.cell? (((⟨b, off, none⟩ : Addr).add (i * 5)).add 4) = some v4 := by simpa using c1.2.2 4 (by omega)
      simp only [addr_add, Nat.add_zero] at k0 k1 k2 k3 k4
      rw [e0] at k0
      rw [e1] at k1
      rw [e4] at k4
      refine ⟨b, off, v2, v3, rfl, ?_⟩
      rw [List.getElem_map, List.getElem_range]
      exact ⟨k0, k1, k2, k3, k4, ha, hd, hz⟩
/-- A list of lists of nodes. -/
def NodesLL (w : World) (v : Value) (L : List (List Nod)) : Prop :=
  L.length ≤ big ∧ ∃ (a : Option Addr) (c : Nat), v = .slice a L.length c ∧ L.length ≤ c ∧ ∀ i (h : i < L.length), ∃ b off x, a = some ⟨b, off, none⟩ ∧ w.cell? ⟨b, off + i, none⟩ = some x ∧ NodesL w x L[i]
theorem NodesLL.later {w w' : World} {v : Value} {L : List (List Nod)} (h : NodesLL w v L) (hb : Below w.heap.size w w') : NodesLL w' v L := by
  obtain ⟨h0, a, c, rfl, h1, h2⟩ := h
  refine ⟨h0, a, c, rfl, h1, fun i hi => ?_⟩
  obtain ⟨b, off, x, e, hc, hn⟩ := h2 i hi
  exact ⟨b, off, x, e, cell_later hb hc, hn.later hb⟩
theorem open_NodesLL {fuel : Nat} {v : Value} {x : DataW H × List MemPlace} (h : DataW.trod enc Tryz.prog w 0 (fun _ => true) true fuel 39 [v] = some x) (hs : Szd 39 x.1) : ∃ L, NodesLL w v L := by
  rcases open_slice1 Tryz.underlying39 cellsNodes8 h with ⟨hcs, _⟩ | ⟨a, len, cap, m, n, V, D, Pl, hcs, _, hl, hm, hz, hx, hcell⟩
  · simp at hcs
    subst hcs
    exact ⟨[], Nat.zero_le _, none, 0, rfl, Nat.le_refl _, fun i hi => by simp at hi⟩
  · simp at hcs
    subst hcs
    simp at hz
    subst hz
    rw [hx] at hs
    have hq := szd_slice Tryz.underlying39 hs
    rw [show Tryz.prog.bytesOf 29 = 24 from by kernel_rfl] at hq
    have hb : len ≤ big := by
      have := hq.1
      simp [reachBytes] at this
      unfold big
      omega
    have hsome : ∀ i, ∃ d, i < len → NodesL w (V i) d := fun i => by
      by_cases hi : i < len
      · obtain ⟨d, hd⟩ := open_Nodes (hcell i (by omega)).2 (hq.2 _ (by simp; exact ⟨i, hi, rfl⟩))
        exact ⟨d, fun _ => hd⟩
      · exact ⟨[], fun h => absurd h hi⟩
    refine ⟨(List.range len).map fun i => Classical.choose (hsome i), ?_, some a, m, ?_, ?_, ?_⟩
    · simpa using hb
    · rw [List.length_map, List.length_range]
    · simpa using hl
    · intro i hi
      have hi' : i < len := by simpa using hi
      have hc := (hcell i (by omega)).1
      obtain ⟨b, off, spot⟩ := a
      have hsp : spot = none := by
        have hc0 := World.cell?_spot (hcell 0 (by omega)).1
        simpa [Addr.add] using hc0
      subst hsp
      rw [addr_add] at hc
      refine ⟨b, off, V i, rfl, hc, ?_⟩
      simp only [List.getElem_map, List.getElem_range]
      exact Classical.choose_spec (hsome i) hi'
theorem cellsAsk8 : Tryz.prog.cellsOf 42 = 3 := by kernel_rfl
theorem cellsNN8 : Tryz.prog.cellsOf 39 = 1 := by kernel_rfl
theorem cellsIL8 : Tryz.prog.cellsOf 40 = 1 := by kernel_rfl
/-- The whole of it: what graduslaw8's argument lays in memory. -/
theorem open_Ask8 {base : Nat} {v : Value} {d : DataW H} {p : List MemPlace} (hv : Value.okWide Tryz.prog w .any base 42 v) (h : DataW.Trod enc Tryz.prog w 0 (fun _ => true) true 42 v d p) (hs : Szd 42 d) :
    ∃ (f0 f1 f2 : Value) (T : List (List Nod)) (L : List Int) (D : List (List Int)), v = .agg #[f0, f1, f2] ∧ NodesLL w f0 T ∧ (Ints w f1 L ∧ L.length ≤ 17592186043904 ∧ Rg L) ∧ (IntsL w f2 D ∧ Nil0 f2) := by
  obtain ⟨cs, rfl, hsz⟩ := okWide_struct Tryz.underlying42 hv
  obtain ⟨c0, c1, c2, rfl⟩ := array3 (hsz.trans cellsAsk8)
  obtain ⟨fuel, hf⟩ := h
  obtain ⟨y0, y1, y2, n, hx, _, h0, h1, h2⟩ := trod_struct3 Tryz.underlying42 hf
  simp only [Prod.mk.injEq] at hx
  obtain ⟨rfl, rfl⟩ := hx
  have h0' : DataW.trod enc Tryz.prog w 0 (fun _ => true) true n 39 [c0] = some y0 := by simpa [Value.cells, cellsNN8] using h0
  have h1' : DataW.trod enc Tryz.prog w 0 (fun _ => true) true n 23 [c1] = some y1 := by simpa [Value.cells, cellsInts8] using h1
  have h2' : DataW.trod enc Tryz.prog w 0 (fun _ => true) true n 40 [c2] = some y2 := by simpa [Value.cells, cellsIL8] using h2
  have hw : ∀ q, (q ∈ y0.1.weights Tryz.prog 39 ∨ q ∈ y1.1.weights Tryz.prog 23 ∨ q ∈ y2.1.weights Tryz.prog 40) → q ≤ reachBytes := by
    intro q hq
    refine hs q ?_
    simp only [DataW.weights, Tryz.underlying42, DataW.weightsEach, List.map_cons, List.map_nil, List.mem_append, List.append_nil]
    exact hq
  obtain ⟨T, hT⟩ := open_NodesLL h0' (fun q hq => hw q (Or.inl hq))
  obtain ⟨L, hL, hR, hL8⟩ := open_Ints h1' (fun q hq => hw q (Or.inr (Or.inl hq)))
  obtain ⟨D, hD, hN⟩ := open_IntsL h2' (fun q hq => hw q (Or.inr (Or.inr hq)))
  exact ⟨c0, c1, c2, T, L, D, rfl, hT, ⟨hL, hL8, hR⟩, ⟨hD, hN⟩⟩
end
end Go.Proofs.YtkojdigaoihkpaaGreatDoor

end
section
namespace Go.Proofs.YtkojdigaoihkpaaGreatDoor
set_option linter.unusedVariables false
set_option linter.unusedSimpArgs false
set_option maxRecDepth 100000
open Go.RowKit

/-- How heavy lists of nodes are. -/
def hvF : Nat → List (List Nod) → Nat
  | n, [] => n
  | n, L :: r => if n < 1048576 then hvF (n + nwF L.length L) r else n
def hv (T : List (List Nod)) (N : List Int) (D : List (List Int)) : Nat := hvF (N.length + (lsF D.length (D.map List.length)).toNat) T
theorem NodesL.weight_le {w : World} {v : Value} {L : List Nod} (h : NodesL w v L) : nwF L.length L ≤ 60000000000000 := by
  obtain ⟨h0, a, c, e, h1, h2⟩ := h
  unfold big at h0
  exact nwF_le L _ (by omega) (fun i hi => by
    obtain ⟨b, off, x, y, _, hn⟩ := h2 i hi
    exact nodW_le hn)
set_option maxHeartbeats 4000000 in
theorem heavy8_any {f0 f1 f2 : Value} {T : List (List Nod)} {N : List Int} {D : List (List Int)} {w : World} (h0 : NodesLL w f0 T) (h1 : Ints w f1 N) (h2 : IntsL w f2 D) (bh : Bool) (hbh : decide (1200 < hv T N D) = bh) :
    Calls Tryz.prog 16 #[.agg #[f0, f1, f2]] w fun e w' => e = .returned (.bool bh) ∧ Below w.heap.size w w' := by
  obtain ⟨hTb, a0, k0, rfl, hTc, hTr⟩ := h0
  have HT : Hid (∀ i (h : i < T.length), ∃ b off x, a0 = some ⟨b, off, none⟩ ∧ w.cell? ⟨b, off + i, none⟩ = some x ∧ NodesL w x T[i]) := hTr
  obtain ⟨a1, k1, rfl⟩ := h1.shape
  obtain ⟨a2, n2, k2, rfl⟩ : ∃ a n c, f2 = .slice a n c := by obtain ⟨_, a, c, e, _⟩ := h2; exact ⟨a, _, c, e⟩
  have hnl := h1.len
  have hle : lsF D.length (D.map List.length) ≤ 1048576 + 17592186044416 := by
    refine lsF_le 17592186044416 _ _ (fun a ha => ?_) ?_
    · simp only [List.mem_map] at ha
      obtain ⟨d, hd, rfl⟩ := ha
      obtain ⟨i, hi, rfl⟩ := List.getElem_of_mem hd
      obtain ⟨_, a', c', e, _, hrow⟩ := h2
      obtain ⟨b, off, x, ea, c0, hx⟩ := hrow i hi
      have := hx.len
      unfold big at this
      exact this
    · have := h2.1
      unfold big at this
      omega
  have hge := lsF_ge (D.map List.length) D.length
  obtain ⟨y, hy⟩ : ∃ y : Nat, lsF (D.length : Int) (D.map List.length) = (y : Int) := ⟨(lsF (D.length : Int) (D.map List.length)).toNat, by omega⟩
  have HB0 : Hid (decide (1200 < hvF (N.length + y) (T.drop 0)) = bh) := by show _ = _; rw [← hbh, hv, hy, Int.toNat_natCast, List.drop_zero]
  rw [hy] at hle hge
  obtain ⟨nn, hnn⟩ : ∃ x, N.length = x := ⟨_, rfl⟩
  rw [hnn] at HB0 hnl ⊢
  unfold big at hnl hTb
  obtain ⟨U, hU⟩ : ∃ U, U = w.alloc (.cells #[.slice a0 T.length k0, .slice a1 nn k1, .slice a2 n2 k2] 42) := ⟨_, rfl⟩
  have HUU : Hid (U = w.alloc (.cells #[.slice a0 T.length k0, .slice a1 nn k1, .slice a2 n2 k2] 42)) := hU
  have hb : Below w.heap.size w U := by rw [hU]; exact Below.push (Below.refl _ _) _
  have HB : Hid (Below w.heap.size w U) := hb
  have u0 : U.cell? ⟨w.heap.size, 0, none⟩ = some (.slice a0 T.length k0) := by rw [hU]; simp
  have u1 : U.cell? ⟨w.heap.size, 1, none⟩ = some (.slice a1 nn k1) := by rw [hU]; simp
  have u2 : U.cell? ⟨w.heap.size, 2, none⟩ = some (.slice a2 n2 k2) := by rw [hU]; simp
  have H2 : Hid (IntsL U (.slice a2 n2 k2) D) := h2.later hb
  have HLI : Hid (∀ {w : World}, IntsL w (.slice a2 n2 k2) D → Calls Tryz.prog 34 #[.slice a2 n2 k2] w fun e w' => e = .returned (.int .i64 y) ∧ w = w') := by
    intro w h
    have := lists_any h
    rw [hy] at this
    exact this
  have hw : IntKind.i64.wrap ((nn : Int) + (y : Int)) = (nn : Int) + (y : Int) := wrap_small _ (by omega) (by omega)
  clear h1 h2 hb hge hy hnn hTr hU hbh
  go_enter Tryz.func16, Tryz.ntmps16
  go_wp2_with fail
  rw [← HUU.out]
  go_quiet ((go_at_call 34; exact Calls.quiet_of_same ((HLI.out (H2.out.later (Below.drewN (Below.refl _ _) _))).mono (fun _ _ h => ⟨h.1, h.2.symm⟩))))
  go_wp2
  go_loopw [3, 4] (fun n i w' => ∃ (k m q : Nat), k ≤ T.length ∧ m ≤ 120000000000000 ∧ i = .int .i64 k ∧ n = .int .i64 m ∧ w' = U.drewN q ∧ Hid (decide (1200 < hvF m (T.drop k)) = bh)) (fun _ i _ => T.length - (intOf i).toNat)
  case atStart => exact ⟨0, nn + y, _, Nat.zero_le _, by omega, rfl, by push_cast; rfl, rfl, HB0.out⟩
  case round =>
    obtain ⟨k, m, q, hk, hm, rfl, rfl, rfl, HI⟩ := hrel
    by_cases hlt : k < T.length
    · have HD : Hid (T.drop k = T[k] :: T.drop (k + 1)) := List.drop_eq_getElem_cons hlt
      by_cases hm2 : m < 1048576
      · have gb : (m : Int) < 1048576 := by omega
        obtain ⟨b, off, x, rfl, hc, hn⟩ := HT.out k hlt
        have c1 : (U.drewN q).cell? ⟨b, off + k, none⟩ = some x := cell_later (Below.drewN HB.out _) hc
        obtain ⟨z, hz⟩ : ∃ z, nwF T[k].length T[k] = z := ⟨_, rfl⟩
        have HZ : Hid (nwF T[k].length T[k] = z) := hz
        have hzl := hn.weight_le
        rw [hz] at hzl
        have HI2 : Hid (decide (1200 < hvF (m + z) (T.drop (k + 1))) = bh) := by
          have h := HI.out
          rw [HD.out, hvF, if_pos hm2, hz] at h
          exact h
        have HNK : Hid (NodesL (U.drewN q) x T[k]) := (hn.later HB.out).later (Below.drewN (Below.refl _ _) _)
        obtain ⟨xa, xc, rfl, _, _⟩ := hn.shape
        have q1 : IntKind.i64.wrap ((m : Int) + (z : Int)) = (m : Int) + (z : Int) := wrap_small _ (by omega) (by omega)
        have g1 : (k : Int) < T.length := by omega
        clear hc hn hz HD
        go_wp2_with (go_at_call 35; refine (nweight_any HNK.out z HZ.out).mono ?_; rintro e w2 ⟨rfl, nq, rfl⟩; rw [World.drewN_drewN])
        go_roundw
        case rel => exact ⟨k + 1, m + z, _, by omega, by omega, by go_num, by push_cast; rfl, rfl, HI2.out⟩
        case measure => simp [intOf]; omega
      · have gb : ¬ (m : Int) < 1048576 := by omega
        have HV : Hid (decide ((1200 : Int) < m) = bh) := by
          have h := HI.out
          rw [HD.out, hvF, if_neg hm2] at h
          show _ = _
          rw [← h]
          exact decide_eq_decide.2 (by omega)
        clear HD
        go_wp2
        go_ret
        exact ⟨by rw [← HV.out]; rfl, Below.drewN HB.out _⟩
    · have hk' : k = T.length := by omega
      have HV : Hid (decide ((1200 : Int) < m) = bh) := by
        have h := HI.out
        rw [List.drop_of_length_le (by omega), hvF] at h
        show _ = _
        rw [← h]
        exact decide_eq_decide.2 (by omega)
      go_wp2
      go_ret
      exact ⟨by rw [← HV.out]; rfl, Below.drewN HB.out _⟩
theorem frm_long {k n : Int} {d : List Int} {c : Nat} (h : 2 < c) : frm k n d c = false := by
  cases e : frm k n d c with
  | false => rfl
  | true =>
    have h1 := (frm_parts1 e).2.1
    have := many_le k.toNat
    omega
set_option maxHeartbeats 2000000 in
theorem dims_at {vd v : Value} {d : List Int} {L : List (List Int)} {w : World} (k n : Int) (hd : Ints w vd d) (hl : IntsL w v L) :
    Calls Tryz.prog 96 #[.int .i64 k, .int .i64 n, vd, v] w fun e w' => ∃ x, e = .returned (.tuple #[x, .int .i64 (diE k n d L)]) ∧ Own w' w.heap.size x (diR k n d L) ∧ Below w.heap.size w w' := by
  by_cases h2 : L.length ≤ 2
  · exact dims_any k n hd hl h2
  · obtain ⟨hbig, va, vc, rfl, hvc, hcell⟩ := hl
    obtain ⟨m, hm⟩ : ∃ m, L.length = m := ⟨_, rfl⟩
    have hf : frm k n d m = false := frm_long (by omega)
    have HE : Hid (diE k n d L = 1 ∧ diR k n d L = []) := by show _ ∧ _; simp [diE, diR, hm, hf]
    have HF : Hid (frE k n d m = 1) := by show _ = _; rw [frE, hf]; rfl
    have HD : Hid (Ints w vd d) := hd
    rw [hm] at hbig ⊢
    clear hd hm hcell hf h2
    go_enter Tryz.func96, Tryz.ntmps96
    go_wp2_with fail
    refine (form_any k n m hbig HD.out 1 HF.out).mono ?_
    rintro e w1 ⟨rfl, hb1⟩
    have HB1 : Hid (Below w.heap.size w w1) := hb1
    clear hb1
    go_wp2
    go_ret2
    exact ⟨_, by rw [HE.out.1]; rfl, by rw [HE.out.2]; exact Own.nil _ _, HB1.out⟩
/-- Where a name is first; -1: nowhere. -/
def nmdN : List Nod → ByteArray → Nat → Int
  | [], _, _ => -1
  | t :: r, s, k => if t.name = s then (k : Int) else nmdN r s (k + 1)
/-- Is it a graph? -/
def grpI (L : List Nod) (i : Nat) : Bool := match L[i]? with
  | some t => nameB t.name && decide (nmdN L t.name 0 = (i : Int)) && decide (t.kind ≤ 15) && (decide (-1073741824 ≤ t.n) && decide (t.n ≤ 1073741824))
  | none => true
def grpB (L : List Nod) : Bool := decide (1 ≤ L.length) && decide (L.length ≤ 24) && nodesB L && (List.range L.length).all (grpI L) && (match L.getLast? with
  | some t => decide (prd t.dims = 1)
  | none => false)
/-- Not too long. -/
structure Small (L : List Nod) : Prop where
  n : L.length ≤ 1000000
  a : ∀ i (h : i < L.length), L[i].args.length ≤ 1000000
  d : ∀ i (h : i < L.length), L[i].dims.length ≤ 1000000
  s : ∀ i (h : i < L.length), L[i].name.size ≤ 1000000
theorem nodesN_at {L : List Nod} : ∀ {n : Nat}, nodesN L n = true → ∀ i (h : i < L.length), i < n → nodeB L i L[i] = true
  | n + 1, h, i, hi, hn => by
    rw [nodesN, Bool.and_eq_true] at h
    by_cases e : i = n
    · subst e
      have := h.2
      rw [List.getElem?_eq_getElem hi] at this
      exact this
    · exact nodesN_at h.1 i hi (by omega)
theorem nodesB_at {L : List Nod} (h : nodesB L = true) (i : Nat) (hi : i < L.length) : nodeB L i L[i] = true := by
  rw [nodesB, Bool.and_eq_true] at h
  exact nodesN_at h.2 i hi hi
theorem argsB_lt {A : List Int} {n : Nat} (h : argsB A n = true) {x : Int} (hx : x ∈ A) : 0 ≤ x ∧ x < n := by
  rw [argsB, List.all_eq_true] at h
  have := h x hx
  rw [Bool.and_eq_true, decide_eq_true_eq, decide_eq_true_eq] at this
  omega
theorem dimsAt_take {L : List Nod} {k : Nat} {A : List Int} (h : ∀ x ∈ A, 0 ≤ x ∧ x < (k : Int)) : dimsAt (L.take k) A = dimsAt L A := by
  rw [dimsAt, dimsAt]
  refine List.map_congr_left fun x hx => ?_
  have := h x hx
  rw [List.getElem?_take, if_pos (by omega)]
theorem grp_nodes {L : List Nod} (h : grpB L = true) : nodesB L = true := by
  simp only [grpB, Bool.and_eq_true] at h
  exact h.1.1.2
theorem okd_pair {x y : Int} (hx : 1 ≤ x ∧ x ≤ 8) (hy : 1 ≤ y ∧ y ≤ 8) : okd [x, y] = true := by
  refine okd_mk (by simp) (by simp) (by simp [inr]; omega) ?_
  rw [show prd [x, y] = x * y from by simp [prd]]
  have h1 : x * y ≤ 8 * y := Int.mul_le_mul_of_nonneg_right hx.2 (by omega)
  omega
theorem okd_at2 {a : List Int} (h : okd a = true) (hl : a.length = 2) (i : Nat) (hi : i < 2) : 1 ≤ a.getD i 0 ∧ a.getD i 0 ≤ 8 := by
  have h3 := (okd_parts h).2.2.1
  rw [List.getD_eq_getElem?_getD, List.getElem?_eq_getElem (by omega)]
  exact inr_mem h3 (List.getElem_mem _)
theorem okd_inD {k n : Int} {d : List Int} {P : List (List Int)} (hm : may k n d P = true) (hi : inf k.toNat n d (P.getD 0 []) (P.getD 1 []) = true) : okd (inD k.toNat n d (P.getD 0 []) (P.getD 1 [])) = true := by
  rw [may, Bool.and_eq_true] at hm
  obtain ⟨hf, hall⟩ := hm
  obtain ⟨hk, hc, hd, hn⟩ := frm_parts1 hf
  rw [List.all_eq_true] at hall
  have h0 : 1 ≤ P.length → okd (P.getD 0 []) = true := fun h => by
    rw [List.getD_eq_getElem?_getD, List.getElem?_eq_getElem (by omega)]
    exact hall _ (List.getElem_mem _)
  have h1 : 2 ≤ P.length → okd (P.getD 1 []) = true := fun h => by
    rw [List.getD_eq_getElem?_getD, List.getElem?_eq_getElem (by omega)]
    exact hall _ (List.getElem_mem _)
  generalize P.getD 0 [] = a at hi h0 ⊢
  generalize P.getD 1 [] = b at hi h1 ⊢
  have hk' : k = 1 ∨ k = 2 ∨ k = 3 ∨ k = 4 ∨ k = 5 ∨ k = 6 ∨ k = 7 ∨ k = 8 ∨ k = 9 ∨ k = 10 ∨ k = 11 ∨ k = 12 ∨ k = 13 ∨ k = 14 ∨ k = 15 ∨ k = 16 ∨ k = 17 := by omega
  rcases hk' with rfl | rfl | rfl | rfl | rfl | rfl | rfl | rfl | rfl | rfl | rfl | rfl | rfl | rfl | rfl | rfl | rfl
  · exact hd
  · exact hd
  · exact hd
  · exact h0 (by rw [hc]; decide)
  · exact h0 (by rw [hc]; decide)
  · exact h0 (by rw [hc]; decide)
  · exact h0 (by rw [hc]; decide)
  · exact h0 (by rw [hc]; decide)
  · have e := of_decide_eq_true (p := a.length = 2 ∧ b.length = 2 ∧ a.getD 1 0 = b.getD 0 0) hi
    exact okd_pair (okd_at2 (h0 (by rw [hc]; decide)) e.1 0 (by omega)) (okd_at2 (h1 (by rw [hc]; decide)) e.2.1 1 (by omega))
  · have e := of_decide_eq_true (p := a.length = 2) hi
    have ha := h0 (by rw [hc]; decide)
    exact okd_pair (okd_at2 ha e 1 (by omega)) (okd_at2 ha e 0 (by omega))
  · exact hd
  · exact hd
  · exact hd
  · exact h0 (by rw [hc]; decide)
  · have e := of_decide_eq_true (p := lastD a % n = 0) hi
    have ha := h0 (by rw [hc]; decide)
    have hn' := of_decide_eq_true (p := 1 ≤ n ∧ n ≤ 8) hn
    obtain ⟨m, hm⟩ : ∃ m : Nat, n = m := ⟨n.toNat, by omega⟩
    subst hm
    obtain ⟨_, _, _, h, _⟩ := few_mul (t := zT a) (n := m) (tok_zT ha) (by omega) e
    exact h
  · exact h0 (by rw [hc]; decide)
  · exact h0 (by rw [hc]; decide)
theorem nodeB_okd {L : List Nod} {i : Nat} {t : Nod} (h : nodeB L i t = true) : okd t.dims = true := by
  simp only [nodeB, Bool.and_eq_true, decide_eq_true_eq] at h
  obtain ⟨_, hm, hi, hd⟩ := h
  rw [hd]
  exact okd_inD hm hi
def inE (k n : Int) (d : List Int) (L : List Nod) (A : List Int) : Int := if argsB A L.length then diE k n d (dimsAt L A) else 1
def inR (k n : Int) (d : List Int) (L : List Nod) (A : List Int) : List Int := if argsB A L.length then diR k n d (dimsAt L A) else []
theorem inE_no {k n : Int} {d : List Int} {L : List Nod} {A : List Int} (h : argsB A L.length = false) : inE k n d L A = 1 ∧ inR k n d L A = [] := by
  rw [inE, inR, h]; exact ⟨rfl, rfl⟩
theorem inE_yes {k n : Int} {d : List Int} {L : List Nod} {A : List Int} (h : argsB A L.length = true) : inE k n d L A = diE k n d (dimsAt L A) ∧ inR k n d L A = diR k n d (dimsAt L A) := by
  rw [inE, inR, h]; exact ⟨rfl, rfl⟩
theorem nodeB_in {L : List Nod} {i : Nat} (hi : i ≤ L.length) (t : Nod) :
    nodeB L i t = (decide (inE t.kind t.n (askD t) (L.take i) t.args = 0) && decide (inR t.kind t.n (askD t) (L.take i) t.args = t.dims)) := by
  have hl : (L.take i).length = i := by rw [List.length_take]; omega
  cases ha : argsB t.args i with
  | false =>
    obtain ⟨e1, e2⟩ := inE_no (k := t.kind) (n := t.n) (d := askD t) (L := L.take i) (A := t.args) (by rw [hl]; exact ha)
    rw [e1, nodeB, ha]; rfl
  | true =>
    obtain ⟨e1, e2⟩ := inE_yes (k := t.kind) (n := t.n) (d := askD t) (L := L.take i) (A := t.args) (by rw [hl]; exact ha)
    rw [e1, e2, dimsAt_take (fun x hx => argsB_lt ha hx), nodeB, ha]
    by_cases hm : may t.kind t.n (askD t) (dimsAt L t.args) = true
    · obtain ⟨d1, d2⟩ := di_yes hm
      rw [d1, d2, hm]
      cases hi : inf t.kind.toNat t.n (askD t) ((dimsAt L t.args).getD 0 []) ((dimsAt L t.args).getD 1 []) with
      | false => simp
      | true =>
        simp only [Bool.true_and, if_true, decide_true]
        exact decide_eq_decide.2 ⟨fun h => h.symm, fun h => h.symm⟩
    · obtain ⟨d1, d2⟩ := di_no hm
      have hm' : may t.kind t.n (askD t) (dimsAt L t.args) = false := by simpa using hm
      rw [d1, hm']; rfl
/- A last one of one cell. -/
theorem foldl_one : ∀ (d : List Int) (a : Int), 1 ≤ a → (∀ x ∈ d, 1 ≤ x) → d.foldl (fun a x => a * x) a = 1 → a = 1 ∧ ∀ x ∈ d, x = 1
  | [], a, _, _, e => ⟨e, fun x hx => by simp at hx⟩
  | x :: d, a, ha, h, e => by
    have hx := h x (by simp)
    have h1 : a * 1 ≤ a * x := Int.mul_le_mul_of_nonneg_left hx (by omega)
    have h1' : 1 * x ≤ a * x := Int.mul_le_mul_of_nonneg_right ha (by omega)
    rw [List.foldl_cons] at e
    obtain ⟨h2, h3⟩ := foldl_one d (a * x) (by omega) (fun y hy => h y (by simp [hy])) e
    refine ⟨by omega, fun y hy => ?_⟩
    rcases List.mem_cons.1 hy with rfl | hy
    · omega
    · exact h3 y hy
theorem prd_one {d : List Int} (h : inr d = true) : prd d = 1 ↔ ∀ x ∈ d, x = 1 := by
  constructor
  · intro e
    exact (foldl_one d 1 (Int.le_refl _) (fun x hx => (inr_mem h hx).1) e).2
  · intro e
    have key : ∀ (d : List Int), (∀ x ∈ d, x = 1) → d.foldl (fun a x => a * x) 1 = 1 := by
      intro d
      induction d with
      | nil => intro _; rfl
      | cons x d ih =>
        intro h
        rw [List.foldl_cons, h x (by simp)]
        exact ih fun y hy => h y (by simp [hy])
    exact key d e
theorem foldl_max : ∀ (d : List Int) (a : Int), d.foldl max a = 1 → (∀ x ∈ d, 1 ≤ x) → 1 ≤ a → a = 1 ∧ ∀ x ∈ d, x = 1
  | [], a, e, _, _ => ⟨e, fun x hx => by simp at hx⟩
  | x :: d, a, e, h, ha => by
    rw [List.foldl_cons] at e
    have hx := h x (by simp)
    obtain ⟨h1, h2⟩ := foldl_max d (max a x) e (fun y hy => h y (by simp [hy])) (by omega)
    refine ⟨by omega, fun y hy => ?_⟩
    rcases List.mem_cons.1 hy with rfl | hy
    · omega
    · exact h2 y hy
theorem maxOf_prd {d : List Int} (h : okd d = true) : Lib.maxOf d = 1 ↔ prd d = 1 := by
  obtain ⟨hl, _, hi, _⟩ := okd_parts h
  rw [prd_one hi]
  constructor
  · intro e
    match d, hl with
    | x :: d, _ => exact (foldl_max (x :: d) x e (fun y hy => (inr_mem hi hy).1) (inr_mem hi (by simp)).1).2
  · intro e
    match d, hl with
    | x :: d, _ =>
      have hx := e x (by simp)
      have key : ∀ (d : List Int), (∀ x ∈ d, x = 1) → d.foldl max 1 = 1 := by
        intro d
        induction d with
        | nil => intro _; rfl
        | cons x d ih =>
          intro h
          rw [List.foldl_cons, h x (by simp)]
          exact ih fun y hy => h y (by simp [hy])
      show (x :: d).foldl max x = 1
      have := key (x :: d) e
      rw [hx] at this ⊢
      exact this
/- Names. -/
theorem nmd_le : ∀ (L : List Nod) (s : ByteArray) (k j : Nat) (h : j < L.length), L[j].name = s → nmdN L s k ≤ ((k + j : Nat) : Int)
  | t :: r, s, k, j, h, e => by
    rw [nmdN]
    split
    · omega
    · match j, h, e with
      | 0, h, e => rename_i hn; exact absurd e hn
      | j + 1, h, e =>
        have := nmd_le r s (k + 1) j (by simpa using h) (by simpa using e)
        omega
theorem nmd_eq : ∀ (L : List Nod) (s : ByteArray) (k j : Nat) (h : j < L.length), L[j].name = s → (∀ i (hi : i < j), ¬ (L[i]'(by omega)).name = s) → nmdN L s k = ((k + j : Nat) : Int)
  | t :: r, s, k, j, h, e, hf => by
    rw [nmdN]
    match j, h, e, hf with
    | 0, h, e, _ => rw [if_pos (show t.name = s from e)]; rfl
    | j + 1, h, e, hf =>
      rw [if_neg (show ¬ t.name = s from hf 0 (by omega))]
      have := nmd_eq r s (k + 1) j (by simpa using h) (by simpa using e) (fun i hi => by have := hf (i + 1) (by omega); simpa using this)
      rw [this]
      omega
theorem grpI_at' {L : List Nod} {i : Nat} (h : i < L.length) : grpI L i = (nameB L[i].name && decide (nmdN L L[i].name 0 = (i : Int)) && decide (L[i].kind ≤ 15) && (decide (-1073741824 ≤ L[i].n) && decide (L[i].n ≤ 1073741824))) := by
  rw [grpI, List.getElem?_eq_getElem h]
theorem grpB_not' {L : List Nod} {i : Nat} (h : i < L.length) (hi : grpI L i = false) : grpB L = false := by
  cases e : grpB L with
  | false => rfl
  | true =>
    simp only [grpB, Bool.and_eq_true, List.all_eq_true] at e
    have := e.1.2 i (List.mem_range.2 h)
    rw [hi] at this
    exact this.symm
theorem grp_kind {L : List Nod} {i : Nat} (h : i < L.length) (hk : 15 < L[i].kind) : grpB L = false := grpB_not' h (by rw [grpI_at' h, decide_eq_false (p := L[i].kind ≤ 15) (by omega)]; simp)
theorem grp_low {L : List Nod} {i : Nat} (h : i < L.length) (hk : L[i].n < -1073741824) : grpB L = false := grpB_not' h (by rw [grpI_at' h, decide_eq_false (p := -1073741824 ≤ L[i].n) (by omega)]; simp)
theorem grp_high {L : List Nod} {i : Nat} (h : i < L.length) (hk : 1073741824 < L[i].n) : grpB L = false := grpB_not' h (by rw [grpI_at' h, decide_eq_false (p := L[i].n ≤ 1073741824) (by omega)]; simp)
theorem grp_name {L : List Nod} {i : Nat} (h : i < L.length) (hk : nameB L[i].name = false) : grpB L = false := grpB_not' h (by rw [grpI_at' h, hk]; simp)
theorem grp_twice {L : List Nod} {i j : Nat} (h : i < L.length) (hj : j < i) (hk : (L[j]'(by omega)).name = L[i].name) : grpB L = false := grpB_not' h (by
  have := nmd_le L L[i].name 0 j (by omega) hk
  rw [grpI_at' h, decide_eq_false (p := nmdN L L[i].name 0 = (i : Int)) (by omega)]; simp)
theorem grpI_yes {L : List Nod} {i : Nat} (h : i < L.length) (h1 : ¬ 15 < L[i].kind) (h2 : ¬ L[i].n < -1073741824) (h3 : ¬ 1073741824 < L[i].n) (h4 : nameB L[i].name = true) (h5 : ∀ j (hj : j < i), ¬ (L[j]'(by omega)).name = L[i].name) : grpI L i = true := by
  have := nmd_eq L L[i].name 0 i h rfl h5
  rw [grpI_at' h, h4, decide_eq_true (p := nmdN L L[i].name 0 = (i : Int)) (by omega), decide_eq_true (p := L[i].kind ≤ 15) (by omega), decide_eq_true (p := -1073741824 ≤ L[i].n) (by omega), decide_eq_true (p := L[i].n ≤ 1073741824) (by omega)]
  rfl
/-- All but the last one's cells. -/
theorem grpB_last {L : List Nod} (h1 : 1 ≤ L.length) (h2 : L.length ≤ 24) (hn : nodesB L = true) (h : ∀ i, i < L.length → grpI L i = true) : grpB L = decide (prd (L[L.length - 1]'(by omega)).dims = 1) := by
  have ha : (List.range L.length).all (grpI L) = true := List.all_eq_true.2 fun i hi => h i (List.mem_range.1 hi)
  rw [grpB, decide_eq_true h1, decide_eq_true h2, hn, ha, List.getLast?_eq_getElem?, List.getElem?_eq_getElem (by omega)]
  rfl
theorem grpB_big {L : List Nod} (h : ¬ (1 ≤ L.length ∧ L.length ≤ 24)) : grpB L = false := by
  cases e : grpB L with
  | false => rfl
  | true =>
    simp only [grpB, Bool.and_eq_true, decide_eq_true_eq] at e
    exact absurd ⟨e.1.1.1.1, e.1.1.1.2⟩ h
theorem grpB_nodes {L : List Nod} (h : nodesB L = false) : grpB L = false := by
  cases e : grpB L with
  | false => rfl
  | true => rw [grp_nodes e] at h; exact h
theorem Ints.addr {w : World} {a : Option Addr} {n c : Nat} {D : List Int} (h : Ints w (.slice a n c) D) (h0 : 0 < D.length) : ∃ b off, a = some ⟨b, off, none⟩ ∧ n = D.length ∧ ∀ i (h : i < D.length), w.cell? ⟨b, off + i, none⟩ = some (.int .i64 D[i]) := by
  rcases h.cases with ⟨e, _⟩ | ⟨b, off, c', e, h1, h2, h3, h4⟩
  · rw [e] at h0; simp at h0
  · simp only [Value.slice.injEq] at e
    obtain ⟨rfl, rfl, rfl⟩ := e
    exact ⟨b, off, rfl, rfl, h4.out⟩
set_option maxHeartbeats 4000000 in
theorem sEq_any {v v' : Value} {a b : List Int} {w : World} (ha : Ints w v a) (hb : Ints w v' b) :
    Calls Tryz.prog 80 #[v, v'] w fun e w' => e = .returned (.bool (a == b)) ∧ ∃ n, w' = w.drewN n := by
  by_cases hl : a.length = b.length
  · have HL : Hid (a.length = b.length) := hl
    rcases ha.cases with ⟨rfl, a1, c1, rfl⟩ | ⟨b1, o1, c1, rfl, h0, h1, h2, h3⟩
    · rcases hb.cases with ⟨rfl, a2, c2, rfl⟩ | ⟨b2, o2, c2, rfl, h0, h1, h2, h3⟩
      · clear ha hb hl HL
        go_enter Tryz.func80, Tryz.ntmps80
        go_wp2
        refine wp_loop_rounds 1 ?_
        rw [rounds_succ]
        go_wp2
        go_ret
        exact ⟨rfl, 0, rfl⟩
      · simp only [List.length_nil] at hl; omega
    · rcases hb.cases with ⟨rfl, a2, c2, rfl⟩ | ⟨b2, o2, c2, rfl, h0', h1', h2', h3'⟩
      · simp only [List.length_nil] at hl; omega
      · clear ha hb
        have hlb : (b.length : Int) = a.length := by omega
        have hne : ((a.length : Int) != (b.length : Int)) = false := by simp [hl]
        unfold big at h2 h2'
        clear hl hlb
        go_enter Tryz.func80, Tryz.ntmps80
        go_wp2
        go_loopw [13] (fun i w' => ∃ k m : Nat, k ≤ a.length ∧ i = .int .i64 k ∧ w' = w.drewN m ∧ Hid (a.take k = b.take k)) (fun i _ => a.length - (intOf i).toNat)
        case atStart => exact ⟨0, 0, Nat.zero_le _, rfl, rfl, rfl⟩
        case round =>
          obtain ⟨k, m, hk, rfl, rfl, hpre⟩ := hrel
          by_cases hlt : k < a.length
          · have hlt' : k < b.length := by have := HL.out; omega
            have hx := h3.out k hlt
            have hy := h3'.out k hlt'
            have T1 : Hid (a.take (k + 1) = a.take k ++ [a[k]]) := take_snoc a k hlt
            have T2 : Hid (b.take (k + 1) = b.take k ++ [b[k]]) := take_snoc b k hlt'
            by_cases he : a[k] = b[k]
            · have he' : (a[k] != b[k]) = false := by simp [he]
              have HE : Hid (a[k] = b[k]) := he
              clear he
              go_wp2
              go_quiet (fail)
              go_wp2
              go_roundw
              case rel => exact ⟨k + 1, m + nq, by omega, by go_num, rfl, by show _ = _; rw [T1.out, T2.out, hpre.out, HE.out]⟩
              case measure => simp [intOf]; omega
            · have he' : (a[k] != b[k]) = true := by simp [he]
              have HN : Hid (¬ a = b) := fun e => he (by subst e; rfl)
              clear he
              go_wp2
              go_quiet (fail)
              go_wp2
              go_ret
              exact ⟨by rw [beq_eq_false_iff_ne.2 HN.out]; rfl, m + nq, by rw [World.drewN_drewN]⟩
          · have hk' : k = a.length := by omega
            have HE : Hid (a = b) := by
              have := hpre.out
              rw [List.take_of_length_le (by omega), List.take_of_length_le (by have := HL.out; omega)] at this
              exact this
            go_wp2
            go_ret
            exact ⟨by rw [HE.out, beq_self_eq_true]; rfl, _, rfl⟩
  · have HN : Hid (¬ a = b) := fun e => hl (by rw [e])
    have hne : ((a.length : Int) != (b.length : Int)) = true := by simp; omega
    rcases ha.cases with ⟨rfl, a1, c1, rfl⟩ | ⟨b1, o1, c1, rfl, h0, h1, h2, h3⟩
    · rcases hb.cases with ⟨rfl, a2, c2, rfl⟩ | ⟨b2, o2, c2, rfl, h0', h1', h2', h3'⟩
      · exact absurd rfl HN.out
      · clear ha hb hl
        go_enter Tryz.func80, Tryz.ntmps80
        go_wp2
        go_ret
        exact ⟨by rw [beq_eq_false_iff_ne.2 HN.out]; rfl, 0, rfl⟩
    · rcases hb.cases with ⟨rfl, a2, c2, rfl⟩ | ⟨b2, o2, c2, rfl, h0', h1', h2', h3'⟩
      · clear ha hb hl
        go_enter Tryz.func80, Tryz.ntmps80
        go_wp2
        go_ret
        exact ⟨by rw [beq_eq_false_iff_ne.2 HN.out]; rfl, 0, rfl⟩
      · clear ha hb hl
        go_enter Tryz.func80, Tryz.ntmps80
        go_wp2
        go_ret
        exact ⟨by rw [beq_eq_false_iff_ne.2 HN.out]; rfl, 0, rfl⟩
theorem sEq_to {v v' : Value} {a b : List Int} {w : World} (x : Bool) (ha : Ints w v a) (hb : Ints w v' b) (hx : (a == b) = x) :
    Calls Tryz.prog 80 #[v, v'] w fun e w' => e = .returned (.bool x) ∧ ∃ n, w' = w.drewN n := by
  subst hx
  exact sEq_any ha hb
theorem max8_to {v : Value} {A : List Int} {w : World} (hA : Ints w v A) (h1 : 1 ≤ A.length) :
    Calls Tryz.prog 55 #[v] w fun e w' => e = .returned (.int .i64 (Lib.maxOf A)) ∧ w' = w := by
  rcases hA.cases with ⟨rfl, a1, c1, rfl⟩ | ⟨b1, o1, c1, rfl, h0, h1', h2, h3⟩
  · simp at h1
  · have hb := h2
    unfold big at hb
    have := max_shelf b1 o1 A.length c1 A w (by omega) (Nat.le_refl _) (by omega) (fun j hj => by rw [List.getD_eq_getElem?_getD, List.getElem?_eq_getElem hj]; exact h3.out j hj)
    rw [List.take_length] at this
    exact this
/-- The runes of the kinds that name dims. -/
def nmR (j : Nat) : Nat := [1, 2, 3, 11, 12, 13].getD j 0
theorem nmR_dec : ∀ p, p < 6 → Utf8.decode ⟨#[1, 2, 3, 11, 12, 13]⟩ p = (nmR p, 1) ∧ nmR p ≤ 13 ∧ askI (nmR p : Int) = true := by decide +kernel
theorem nmR_none {k : Int} (h : ∀ j, j < 6 → ¬ k = (nmR j : Int)) : askI k = false := by
  have h0 := h 0 (by omega); have h1 := h 1 (by omega); have h2 := h 2 (by omega); have h3 := h 3 (by omega); have h4 := h 4 (by omega); have h5 := h 5 (by omega)
  simp only [nmR, List.getD_cons_zero, List.getD_cons_succ] at h0 h1 h2 h3 h4 h5
  simp only [askI, Bool.or_eq_false_iff, decide_eq_false_iff_not]
  omega
set_option maxHeartbeats 4000000 in
theorem asked8_any {s : ByteArray} {k n : Int} {x y : Value} {D : List Int} {w : World} (hy : Ints w y D) (hx : ∃ a n c, x = .slice a n c) (DD : List Int) (hDD : (if askI k then D else []) = DD) :
    Calls Tryz.prog 79 #[.agg #[.string s, .int .i64 k, x, y, .int .i64 n]] w fun e w' => ∃ v, e = .returned v ∧ Ints w' v DD ∧ Below w.heap.size w w' := by
  have HDD : Hid ((if askI k then D else []) = DD) := hDD
  have HY : Hid (Ints w y D) := hy
  obtain ⟨ya, yn, yc, rfl⟩ := hy.shape3
  obtain ⟨xa, xn, xc, rfl⟩ := hx
  obtain ⟨U, hU⟩ : ∃ U, U = w.alloc (.cells #[.string s, .int .i64 k, .slice xa xn xc, .slice ya yn yc, .int .i64 n] 55) := ⟨_, rfl⟩
  have HUU : Hid (U = w.alloc (.cells #[.string s, .int .i64 k, .slice xa xn xc, .slice ya yn yc, .int .i64 n] 55)) := hU
  have HB : Hid (Below w.heap.size w U) := by show Below _ _ _; rw [hU]; exact Below.push (Below.refl _ _) _
  have HSZ : Hid (U.heap.size = w.heap.size + 1) := by show _ = _; rw [hU]; simp
  have u1 : U.cell? ⟨w.heap.size, 1, none⟩ = some (.int .i64 k) := by rw [hU]; simp
  have u3 : U.cell? ⟨w.heap.size, 3, none⟩ = some (.slice ya yn yc) := by rw [hU]; simp
  have HI : Hid (∀ p, Below U.heap.size U (U.iter ⟨#[1, 2, 3, 11, 12, 13]⟩ p)) := fun p => (Below.refl _ _).alloc (Nat.le_refl _) _
  have c1 : ∀ p, (U.iter ⟨#[1, 2, 3, 11, 12, 13]⟩ p).cell? ⟨w.heap.size, 1, none⟩ = some (.int .i64 k) := fun p => cell_later (HI.out p) u1
  have c3 : ∀ p, (U.iter ⟨#[1, 2, 3, 11, 12, 13]⟩ p).cell? ⟨w.heap.size, 3, none⟩ = some (.slice ya yn yc) := fun p => cell_later (HI.out p) u3
  clear hy hU u1 u3 hDD
  go_enter Tryz.func79, Tryz.ntmps79
  go_wp2_with fail
  rw [← HUU.out]
  go_wp2_with fail
  go_loopw [4] (fun _ w' => ∃ p : Nat, p ≤ 6 ∧ w' = U.iter ⟨#[1, 2, 3, 11, 12, 13]⟩ p ∧ Hid (∀ j, j < p → ¬ k = (nmR j : Int))) (fun _ w' => 6 - w'.iterPos U.heap.size)
  case atStart => exact ⟨0, Nat.zero_le _, rfl, fun j hj => by omega⟩
  case round =>
    obtain ⟨p, hp, rfl, HF⟩ := hrel
    by_cases hlt : p < 6
    · obtain ⟨hd, h13, ha⟩ := nmR_dec p hlt
      have hnx : ∀ ty, (Instr.next (.pointer (some ⟨U.heap.size, 0, none⟩)) true ty).run Tryz.prog (U.iter ⟨#[1, 2, 3, 11, 12, 13]⟩ p) = _ := fun ty => run_next_any U ⟨#[1, 2, 3, 11, 12, 13]⟩ p ty hlt
      rw [hd, HSZ.out] at hnx
      simp only at hnx
      have HA : Hid (askI (nmR p : Int) = true) := ha
      have HR : Hid (∀ j, j < p + 1 → ¬ j = p → ¬ k = (nmR j : Int)) := fun j h1 h2 => HF.out j (by omega)
      obtain ⟨r, hr⟩ : ∃ r, nmR p = r := ⟨_, rfl⟩
      have HRR : Hid (nmR p = r) := hr
      rw [hr] at hnx h13
      have gw : IntKind.i64.wrap (r : Int) = (r : Int) := wrap_small _ (by omega) (by omega)
      clear hd ha hr
      by_cases e : k = (r : Int)
      · have HE : Hid (askI k = true) := by show _ = _; rw [e, ← HRR.out]; exact HA.out
        have hb : (k == (r : Int)) = true := by simpa using e
        clear e
        go_wp2
        go_ret
        refine ⟨_, rfl, ?_, Below.after HB.out (HI.out (p + 1))⟩
        have hv : DD = D := by rw [← HDD.out, HE.out]; rfl
        rw [hv]
        exact HY.out.later (Below.after HB.out (HI.out (p + 1)))
      · have HNE : Hid (¬ k = (nmR p : Int)) := by show ¬ _; rw [HRR.out]; exact e
        have hb : (k == (r : Int)) = false := by simpa using e
        clear e
        go_wp2
        go_roundw
        case rel => exact ⟨p + 1, by omega, rfl, fun j hj => by
          by_cases e : j = p
          · subst e; exact HNE.out
          · exact HR.out j hj e⟩
        case measure => simp; omega
    · have hnx : ∀ ty, (Instr.next (.pointer (some ⟨U.heap.size, 0, none⟩)) true ty).run Tryz.prog (U.iter ⟨#[1, 2, 3, 11, 12, 13]⟩ p) = _ := fun ty => run_next_end U ⟨#[1, 2, 3, 11, 12, 13]⟩ p ty hlt
      rw [HSZ.out] at hnx
      have HE : Hid (askI k = false) := nmR_none fun j hj => HF.out j (by omega)
      go_wp2
      go_ret
      refine ⟨_, rfl, ?_, Below.after HB.out (HI.out p)⟩
      have hv : DD = [] := by rw [← HDD.out, HE.out]; rfl
      rw [hv]
      exact Ints.nil _
theorem make_rows (n : Nat) (h : n ≤ 1000000000) :
    ∃ arr : Array Value, arr.size = n ∧ ∀ w : World, (Instr.makeSlice 40 (.int .i64 n) (.int .i64 n)).run Tryz.prog w = .ok (.slice (some ⟨w.heap.size, 0, none⟩) n n) (w.alloc (.cells arr 23)) := by
  obtain ⟨i, h1, h2, h3, h4⟩ := infoI
  have hs := size_madeCells (Value.cells (.slice none 0 0)) (n * i.size)
  refine ⟨_, hs.trans (by rw [h3]; omega), fun w => ?_⟩
  have := run_make (P := Tryz.prog) w 40 23 i (.slice none 0 0) Tryz.underlying40 h1 h2 .i64 .i64 n n (by omega) (by omega) (by rw [h4]; omega) (by omega)
  rw [Int.toNat_natCast] at this
  exact this
/-- The first k of the parts are laid. -/
structure PB (w0 w : World) (Z n k : Nat) (P : List (List Int)) : Prop where
  blk : ∃ arr : Array Value, w.heap[Z]? = some (.cells arr 23 (0, 0)) ∧ arr.size = n
  elt : ∀ i (h : i < P.length), i < k → ∃ x, w.cell? ⟨Z, i, none⟩ = some x ∧ Ints w0 x P[i]
theorem PB.cell {w0 w : World} {Z n k : Nat} {P : List (List Int)} (h : PB w0 w Z n k P) (j : Nat) (hj : j < n) : (∃ u, w.cell? ⟨Z, j, none⟩ = some u) ∧ w.frozen? ⟨Z, j, none⟩ = false := by
  obtain ⟨arr, ha, hs⟩ := h.blk
  refine ⟨⟨arr[j]'(by omega), ?_⟩, ?_⟩
  · rw [cell_of_row w Z j arr _ _ ha, Array.getElem?_eq_getElem (by omega)]
  · exact frozen_of_row w Z j arr _ ha
theorem PB.put {w0 w : World} {Z n k : Nat} {P : List (List Int)} {x : Value} (h : PB w0 w Z n k P) (hk : k < P.length) (hn : P.length = n) (ho : Ints w0 x P[k]) :
    PB w0 (w.setCell ⟨Z, k, none⟩ x) Z n (k + 1) P := by
  obtain ⟨arr, ha, hs⟩ := h.blk
  have e1 := heap_setCell_same w Z k arr 23 x ha
  refine ⟨⟨_, e1, by simp [hs]⟩, fun i h1 h2 => ?_⟩
  by_cases hi : i = k
  · subst hi
    refine ⟨x, ?_, ho⟩
    rw [cell_of_row _ Z _ _ _ _ e1]
    have q1 : i < arr.size := by omega
    simp [Array.getElem?_setIfInBounds, q1]
  · obtain ⟨x', c0, ho'⟩ := h.elt i h1 (by omega)
    refine ⟨x', ?_, ho'⟩
    rw [cell_of_row w Z _ _ _ _ ha] at c0
    rw [cell_of_row _ Z _ _ _ _ e1, Array.getElem?_setIfInBounds_ne (by omega)]
    exact c0
theorem PB.intsL {w0 w : World} {Z n : Nat} {P : List (List Int)} (h : PB w0 w Z n n P) (hn : P.length = n) (hb : n ≤ big) (hbel : Below w0.heap.size w0 w) : IntsL w (.slice (some ⟨Z, 0, none⟩) n n) P := by
  refine ⟨by rw [hn]; exact hb, _, n, by rw [hn], by omega, fun i hi => ?_⟩
  obtain ⟨x, c0, ho⟩ := h.elt i hi (by omega)
  exact ⟨Z, 0, x, rfl, by simpa using c0, ho.later hbel⟩
theorem argsB_none {A : List Int} {n : Nat} {k : Nat} (h : k < A.length) (hb : A[k] < 0 ∨ (n : Int) ≤ A[k]) : argsB A n = false := argsB_at h (by
  rcases hb with h | h
  · rw [decide_eq_false (p := 0 ≤ A[k]) (by omega)]; rfl
  · rw [decide_eq_false (p := A[k] ≤ (n : Int) - 1) (by omega), Bool.and_false])
theorem dimsAt_get {L : List Nod} {A : List Int} {k : Nat} (h : k < A.length) (m : Nat) (hm : m < L.length) (e : A[k] = (m : Int)) : (dimsAt L A)[k]'(by rw [dimsAt_len]; exact h) = L[m].dims := by
  simp [dimsAt, e, hm]
set_option maxHeartbeats 8000000 in
theorem made_any {vd v u : Value} {d A : List Int} {L : List Nod} {w : World} (k n : Int) (h : NodesL w v L) (hd : Ints w vd d) (hA : Ints w u A) (hlen : A.length ≤ 100000000) (E : Int) (R : List Int) (hE : inE k n d L A = E) (hR : inR k n d L A = R) :
    Calls Tryz.prog 78 #[.int .i64 k, .int .i64 n, vd, v, u] w fun e w' => ∃ x, e = .returned (.tuple #[x, .int .i64 E]) ∧ Own w' w.heap.size x R ∧ Below w.heap.size w w' := by
  have HN : Hid (NodesL w v L) := h
  have HA : Hid (Ints w u A) := hA
  have HD : Hid (Ints w vd d) := hd
  obtain ⟨va, vc, rfl, hc1, hc2⟩ := h.shape
  obtain ⟨da, dn, dc, rfl⟩ := hd.shape3
  obtain ⟨ua, uc, rfl⟩ := hA.shape
  unfold big at hc2
  obtain ⟨arr, harr, hmk⟩ := make_rows A.length (by omega)
  have HARR : Hid (arr.size = A.length) := harr
  have HE : Hid (inE k n d L A = E) := hE
  have HR : Hid (inR k n d L A = R) := hR
  clear h hd hA harr hE hR
  go_enter Tryz.func78, Tryz.ntmps78
  go_wp2_with fail
  refine wp_scope_jumps 0 (fun a' w' => (Below w.heap.size w w' ∧ argsB A L.length = false) ∧ ∃ (u0 u1 u2 u3 u4 u5 u6 u7 u8 u9 u10 u11 u12 u13 u14 u15 u16 u17 u18 u19 u20 u21 u22 u23 u24 u25 u26 u27 u28 u29 u30 u31 u32 u33 u34 u35 u36 u37 u38 u39 u40 u41 u42 u43 u44 u45 u46 u47 u48 : Value), a' = { tmps := #[u0, u1, u2, u3, u4, u5, u6, u7, u8, u9, u10, u11, u12, u13, u14, u15, u16, u17, u18, u19, u20, u21, u22, u23, u24, u25, u26, u27, u28, u29, u30, u31, u32, u33, u34, u35, u36, u37, u38, u39, u40, u41, u42, u43, u44, u45, u46, u47, u48], defers := [] }) (fun _ _ => 0) rfl ?_ ?_
  · go_wp2
    go_loopw [20] (fun i w' => ∃ j : Nat, j ≤ A.length ∧ i = .int .i64 j ∧ Hid (PB w w' w.heap.size A.length j (dimsAt L A)) ∧ Hid (∀ p (h : p < A.length), p < j → (decide (0 ≤ A[p]) && decide (A[p] ≤ (L.length : Int) - 1)) = true) ∧ Hid (Below w.heap.size w w')) (fun i _ => A.length - (intOf i).toNat)
    case atStart => exact ⟨0, Nat.zero_le _, rfl, ⟨⟨arr, heap_alloc_new w _, HARR.out⟩, fun p h1 h2 => by omega⟩, fun p h1 h2 => by omega, Below.push (Below.refl _ _) _⟩
    case round =>
      obtain ⟨j, hj, rfl, HPB, HF, HB⟩ := hrel
      by_cases hlt : j < A.length
      · obtain ⟨ub, uo, rfl, _, hcell⟩ := HA.out.addr (by omega)
        have hx := cell_later HB.out (hcell j hlt)
        obtain ⟨y, hy⟩ : ∃ y, A[j] = y := ⟨_, rfl⟩
        have HY : Hid (A[j] = y) := hy
        rw [hy] at hx
        have g1 : (j : Int) < A.length := by omega
        have g2 : (0 : Int) ≤ j := by omega
        clear hcell hy
        by_cases hy0 : y < 0
        · have HQ : Hid (argsB A L.length = false) := argsB_none hlt (Or.inl (by rw [HY.out]; exact hy0))
          go_wp2
          go_step3
          exact ⟨rfl, ⟨HB.out, HQ.out⟩, _, _, _, _, _, _, _, _, _, _, _, _, _, _, _, _, _, _, _, _, _, _, _, _, _, _, _, _, _, _, _, _, _, _, _, _, _, _, _, _, _, _, _, _, _, _, _, _, _, rfl⟩
        · by_cases hyL : (L.length : Int) ≤ y
          · have HQ : Hid (argsB A L.length = false) := argsB_none hlt (Or.inr (by rw [HY.out]; exact hyL))
            go_wp2
            go_step3
            exact ⟨rfl, ⟨HB.out, HQ.out⟩, _, _, _, _, _, _, _, _, _, _, _, _, _, _, _, _, _, _, _, _, _, _, _, _, _, _, _, _, _, _, _, _, _, _, _, _, _, _, _, _, _, _, _, _, _, _, _, _, _, rfl⟩
          · obtain ⟨m, hm⟩ : ∃ m : Nat, y = m := ⟨y.toNat, by omega⟩
            subst hm
            have hmL : m < L.length := by omega
            obtain ⟨b, off, y0, y1, rfl, hnd⟩ := (HN.out.later HB.out).row m hmL
            obtain ⟨b2, off2, y2, y3, eb, hnd2⟩ := HN.out.row m hmL
            simp only [Option.some.injEq, Addr.mk.injEq] at eb
            obtain ⟨rfl, rfl, _⟩ := eb
            have hd3 := hnd.c3
            have hd3' := cell_later HB.out hnd2.c3
            rw [hd3] at hd3'
            simp only [Option.some.injEq] at hd3'
            subst hd3'
            have HT : Hid (Ints w y1 L[m].dims) := hnd2.d
            obtain ⟨ya, yn, yc, rfl⟩ := hnd2.d.shape3
            obtain ⟨⟨z, hz⟩, hfz⟩ := HPB.out.cell j hlt
            have HDM : Hid ((dimsAt L A)[j]'(by rw [dimsAt_len]; exact hlt) = L[m].dims) := dimsAt_get hlt m hmL HY.out
            have HPB2 : Hid (PB w (wr.setCell ⟨w.heap.size, j, none⟩ (.slice ya yn yc)) w.heap.size A.length (j + 1) (dimsAt L A)) := HPB.out.put (by rw [dimsAt_len]; exact hlt) (dimsAt_len L A) (by rw [HDM.out]; exact HT.out)
            have HB2 : Hid (Below w.heap.size w (wr.setCell ⟨w.heap.size, j, none⟩ (.slice ya yn yc))) := HB.out.setCell (Nat.le_refl _) _
            have HF2 : Hid (∀ p (h : p < A.length), p < j + 1 → (decide (0 ≤ A[p]) && decide (A[p] ≤ (L.length : Int) - 1)) = true) := fun p h1 h2 => by
              by_cases e : p = j
              · subst e
                rw [HY.out, decide_eq_true (p := (0 : Int) ≤ (m : Int)) (by omega), decide_eq_true (p := (m : Int) ≤ (L.length : Int) - 1) (by omega)]
                rfl
              · exact HF.out p h1 (by omega)
            have g3 : (m : Int) < L.length := by omega
            have g4 : (0 : Int) ≤ m := by omega
            clear hnd hnd2 hy0 hyL
            go_wp2
            go_roundw
            case rel => exact ⟨j + 1, by omega, by go_num, HPB2.out, HF2.out, HB2.out⟩
            case measure => simp [intOf]; omega
      · have hj' : j = A.length := by omega
        subst hj'
        have HQ : Hid (argsB A L.length = true) := argsB_all (fun p h => HF.out p h h)
        have HLL : Hid (IntsL wr (.slice (some ⟨w.heap.size, 0, none⟩) A.length A.length) (dimsAt L A)) := HPB.out.intsL (dimsAt_len L A) (by unfold big; omega) HB.out
        have HE2 : Hid (diE k n d (dimsAt L A) = E) := by show _ = _; rw [← HE.out, (inE_yes HQ.out).1]
        have HR2 : Hid (diR k n d (dimsAt L A) = R) := by show _ = _; rw [← HR.out, (inE_yes HQ.out).2]
        go_wp2_with fail
        refine (dims_at k n (HD.out.later HB.out) HLL.out).mono ?_
        rw [HE2.out, HR2.out]
        rintro e w2 ⟨x2, rfl, ho, hb2⟩
        have HO2 : Hid (Own w2 w.heap.size x2 R) := ho.mono HB.out.size
        have HB3 : Hid (Below w.heap.size w w2) := Below.after HB.out hb2
        obtain ⟨s7, n7, c7, rfl⟩ := ho.ints.shape3
        clear ho hb2
        go_wp2
        rw [jump_ret]
        go_ret2
        exact ⟨_, rfl, HO2.out, HB3.out⟩
  · rintro a w' ⟨⟨hbj, hq⟩, u0, u1, u2, u3, u4, u5, u6, u7, u8, u9, u10, u11, u12, u13, u14, u15, u16, u17, u18, u19, u20, u21, u22, u23, u24, u25, u26, u27, u28, u29, u30, u31, u32, u33, u34, u35, u36, u37, u38, u39, u40, u41, u42, u43, u44, u45, u46, u47, u48, rfl⟩
    have HBJ : Hid (Below w.heap.size w w') := hbj
    have HER : Hid (E = 1 ∧ R = []) := by show _ ∧ _; rw [← HE.out, ← HR.out]; exact inE_no hq
    clear hbj hq
    go_wp2
    rw [jump_ret]
    go_ret2
    exact ⟨_, by rw [HER.out.1]; rfl, by rw [HER.out.2]; exact Own.nil _ _, HBJ.out⟩
set_option maxHeartbeats 8000000 in
theorem nodes8_any {v : Value} {L : List Nod} {w : World} (h : NodesL w v L) (hs : Small L) (q : Bool) (hq : nodesB L = q) :
    Calls Tryz.prog 53 #[v] w fun e w' => e = .returned (.int .i64 (if q then 0 else 1)) ∧ Below w.heap.size w w' := by
  have HN : Hid (NodesL w v L) := h
  have HS : Hid (Small L) := hs
  have HQ : Hid (nodesB L = q) := hq
  obtain ⟨va, vc, rfl, hc1, hc2⟩ := h.shape
  unfold big at hc2
  clear h hs hq
  go_enter Tryz.func53, Tryz.ntmps53
  go_wp2_with fail
  refine wp_scope_jumps 0 (fun a' w' => (Below w.heap.size w w' ∧ q = false) ∧ ∃ (u0 u1 u2 u3 u4 u5 u6 u7 u8 u9 u10 u11 u12 u13 u14 u15 u16 u17 u18 u19 u20 u21 u22 u23 u24 u25 u26 u27 u28 u29 u30 u31 u32 u33 u34 u35 u36 u37 u38 u39 u40 u41 : Value), a' = { tmps := #[u0, u1, u2, u3, u4, u5, u6, u7, u8, u9, u10, u11, u12, u13, u14, u15, u16, u17, u18, u19, u20, u21, u22, u23, u24, u25, u26, u27, u28, u29, u30, u31, u32, u33, u34, u35, u36, u37, u38, u39, u40, u41], defers := [] }) (fun _ _ => 0) rfl ?_ ?_
  · by_cases h240 : 240 < L.length
    · have g1 : (240 : Int) < (L.length : Int) := by omega
      have HQ2 : Hid (q = false) := by show _ = _; rw [← HQ.out, nodesB, decide_eq_false (by omega)]; rfl
      go_wp2
      go_step3
      exact ⟨rfl, ⟨Below.refl _ _, HQ2.out⟩, _, _, _, _, _, _, _, _, _, _, _, _, _, _, _, _, _, _, _, _, _, _, _, _, _, _, _, _, _, _, _, _, _, _, _, _, _, _, _, _, _, _, rfl⟩
    · have g1 : ¬ (240 : Int) < (L.length : Int) := by omega
      have HQ2 : Hid (nodesN L L.length = q) := by show _ = _; rw [← HQ.out, nodesB, decide_eq_true (by omega), Bool.true_and]
      go_wp2
      go_loopw [12] (fun i w' => ∃ k : Nat, k ≤ L.length ∧ i = .int .i64 k ∧ Hid (nodesN L k = true) ∧ Hid (Below w.heap.size w w')) (fun i _ => L.length - (intOf i).toNat)
      case atStart => exact ⟨0, Nat.zero_le _, rfl, rfl, Below.refl _ _⟩
      case round =>
        obtain ⟨k, hk, rfl, HP, HB⟩ := hrel
        by_cases hlt : k < L.length
        · have HK : Hid (L[k].args.length ≤ 100000000) := by have := HS.out.a k hlt; show _ ≤ _; omega
          obtain ⟨b, off, x, y, rfl, hnd⟩ := (HN.out.later HB.out).row k hlt
          obtain ⟨t, ht⟩ : ∃ t, L[k] = t := ⟨_, rfl⟩
          have HNB : Hid (nodeB L k t = (decide (inE t.kind t.n (askD t) (L.take k) t.args = 0) && decide (inR t.kind t.n (askD t) (L.take k) t.args = t.dims))) := nodeB_in (by omega) t
          have HST : Hid (nodesN L (k + 1) = (nodesN L k && nodeB L k t)) := by show _ = _; rw [nodesN_step hlt, ht]
          have HNT : Hid (NodesL wr (.slice (some ⟨b, off, none⟩) k vc) (L.take k)) := (HN.out.later HB.out).take k (by omega)
          rw [ht] at hnd HK
          obtain ⟨nm, kd, ar, ds, n⟩ := t
          obtain ⟨c0, c1, c2, c3, c4, ha, hd, hz⟩ := hnd
          simp only at c0 c1 c2 c3 c4 ha hd hz
          have HA : Hid (Ints wr x ar) := ha
          have HD : Hid (Ints wr y ds) := hd
          obtain ⟨xa, xn, xc, rfl⟩ := ha.shape3
          obtain ⟨ya, yn, yc, rfl⟩ := hd.shape3
          have g2 : (k : Int) < L.length := by omega
          clear ha hd hz ht
          have HKA : Hid (ar.length ≤ 100000000) := HK.out
          obtain ⟨V, hV⟩ : ∃ V, V = wr.alloc (.cells #[.string nm, .int .i64 kd, .slice xa xn xc, .slice ya yn yc, .int .i64 n] 55) := ⟨_, rfl⟩
          have HVV : Hid (V = wr.alloc (.cells #[.string nm, .int .i64 kd, .slice xa xn xc, .slice ya yn yc, .int .i64 n] 55)) := hV
          have HPV : Hid (Below wr.heap.size wr V) := by show Below _ _ _; rw [hV]; exact Below.push (Below.refl _ _) _
          have v0 : V.cell? ⟨wr.heap.size, 0, none⟩ = some (.string nm) := by rw [hV]; simp
          have v1 : V.cell? ⟨wr.heap.size, 1, none⟩ = some (.int .i64 kd) := by rw [hV]; simp
          have v2 : V.cell? ⟨wr.heap.size, 2, none⟩ = some (.slice xa xn xc) := by rw [hV]; simp
          have v3 : V.cell? ⟨wr.heap.size, 3, none⟩ = some (.slice ya yn yc) := by rw [hV]; simp
          have v4 : V.cell? ⟨wr.heap.size, 4, none⟩ = some (.int .i64 n) := by rw [hV]; simp
          have g3 : (k : Int) ≤ vc := by omega
          have g4 : (0 : Int) ≤ k := by omega
          have HAV : Hid (Ints V (.slice xa xn xc) ar) := HA.out.later HPV.out
          have HDV : Hid (Ints V (.slice ya yn yc) ds) := HD.out.later HPV.out
          have HNV : Hid (NodesL V (.slice (some ⟨b, off, none⟩) k vc) (L.take k)) := HNT.out.later HPV.out
          obtain ⟨DD, hDD⟩ : ∃ DD, (if askI kd then ds else []) = DD := ⟨_, rfl⟩
          have HDD : Hid ((if askI kd then ds else []) = DD) := hDD
          obtain ⟨E, hE⟩ : ∃ E, inE kd n DD (L.take k) ar = E := ⟨_, rfl⟩
          have HE : Hid (inE kd n DD (L.take k) ar = E) := hE
          obtain ⟨R, hR⟩ : ∃ R, inR kd n DD (L.take k) ar = R := ⟨_, rfl⟩
          have HR : Hid (inR kd n DD (L.take k) ar = R) := hR
          have HNB2 : Hid (nodeB L k ⟨nm, kd, ar, ds, n⟩ = (decide (E = 0) && decide (R = ds))) := by
            have h := HNB.out
            show _ = _
            rw [h, ← hE, ← hR, ← hDD]
            rfl
          clear hV hDD hE hR
          go_wp2_with fail
          rw [← HVV.out]
          go_region_held3 (fun w' => w'.cell? ⟨wr.heap.size, 0, none⟩ = some (.string nm) ∧ w'.cell? ⟨wr.heap.size, 1, none⟩ = some (.int .i64 kd) ∧ w'.cell? ⟨wr.heap.size, 2, none⟩ = some (.slice xa xn xc) ∧ w'.cell? ⟨wr.heap.size, 3, none⟩ = some (.slice ya yn yc) ∧ w'.cell? ⟨wr.heap.size, 4, none⟩ = some (.int .i64 n)) (first | assumption | go_keep)
            (first
              | (go_at_call 79; refine (asked8_any (D := ds) ?_ ⟨xa, xn, xc, rfl⟩ DD HDD.out).mono ?_; exact HDV.out.later (Below.refl _ _).drew; rintro r w2 ⟨vd, rfl, hd2, hb2⟩; obtain ⟨da, dn, dc, rfl⟩ := hd2.shape3; have HD2 : Hid (Ints w2 (.slice da dn dc) DD) := hd2; have HB2 : Hid (Below V.heap.size V w2) := Below.after (Below.refl _ _).drew hb2; have a_0 := cell_later HB2.out v0; have a_1 := cell_later HB2.out v1; have a_2 := cell_later HB2.out v2; have a_3 := cell_later HB2.out v3; have a_4 := cell_later HB2.out v4; clear hb2 hd2)
              | (go_at_call 78; refine (made_any (L := L.take k) (A := ar) (d := DD) kd n ?_ ?_ ?_ HKA.out E R HE.out HR.out).mono ?_; exact HNV.out.later HB2.out; exact HD2.out; exact HAV.out.later HB2.out; rintro r w3 ⟨vr, rfl, ho, hb3⟩; obtain ⟨ra, rn, rc, rfl⟩ := ho.ints.shape3; have HR3 : Hid (Ints w3 (.slice ra rn rc) R) := ho.ints; have HB3 : Hid (Below V.heap.size V w3) := Below.after HB2.out hb3; have b_0 := cell_later HB3.out v0; have b_1 := cell_later HB3.out v1; have b_2 := cell_later HB3.out v2; have b_3 := cell_later HB3.out v3; have b_4 := cell_later HB3.out v4; clear hb3 ho))
          have HBX : Hid (Below w.heap.size w w3) := Below.after (Below.after HB.out HPV.out) HB3.out
          have HD3 : Hid (Ints w3 (.slice ya yn yc) ds) := HDV.out.later HB3.out
          clear a_0 a_1 a_2 a_3 a_4 v0 v1 v2 v3 v4 c0 c1 c2 c3 c4
          by_cases hE0 : E = 0
          · subst hE0
            cases hx : (R == ds) with
            | false =>
              have HX : Hid ((R == ds) = false) := hx
              have HQ3 : Hid (q = false) := by
                have hne : ¬ R = ds := by simpa using hx
                show _ = _
                rw [← HQ2.out]
                exact nodesN_not (k := k + 1) (by rw [HST.out, HNB2.out, decide_eq_false hne, Bool.and_false, Bool.and_false]) _ (by omega)
              clear hx
              go_wp2_with (go_at_call 80; refine (sEq_to false HR3.out HD3.out HX.out).mono ?_; rintro e w4 ⟨rfl, m4, rfl⟩)
              go_step3
              exact ⟨rfl, ⟨Below.drewN HBX.out _, HQ3.out⟩, _, _, _, _, _, _, _, _, _, _, _, _, _, _, _, _, _, _, _, _, _, _, _, _, _, _, _, _, _, _, _, _, _, _, _, _, _, _, _, _, _, _, rfl⟩
            | true =>
              have HX : Hid ((R == ds) = true) := hx
              have HP2 : Hid (nodesN L (k + 1) = true) := by
                have he : R = ds := by simpa using hx
                show _ = _
                rw [HST.out, HNB2.out, decide_eq_true he, HP.out]
                rfl
              clear hx
              go_wp2_with (go_at_call 80; refine (sEq_to true HR3.out HD3.out HX.out).mono ?_; rintro e w4 ⟨rfl, m4, rfl⟩)
              go_roundw
              case rel => exact ⟨k + 1, by omega, by go_num, HP2.out, Below.drewN HBX.out _⟩
              case measure => simp [intOf]; omega
          · have hb : (E != 0) = true := by rw [bne_iff_ne]; exact hE0
            have HQ3 : Hid (q = false) := by
              show _ = _
              rw [← HQ2.out]
              exact nodesN_not (k := k + 1) (by rw [HST.out, HNB2.out, decide_eq_false hE0, Bool.false_and, Bool.and_false]) _ (by omega)
            clear hE0
            go_wp2
            go_step3
            exact ⟨rfl, ⟨HBX.out, HQ3.out⟩, _, _, _, _, _, _, _, _, _, _, _, _, _, _, _, _, _, _, _, _, _, _, _, _, _, _, _, _, _, _, _, _, _, _, _, _, _, _, _, _, _, _, rfl⟩
        · obtain rfl : k = L.length := by omega
          have HQ3 : Hid (q = true) := by show _ = _; rw [← HQ2.out]; exact HP.out
          go_wp2
          rw [jump_ret]
          go_ret
          exact ⟨by rw [HQ3.out]; rfl, HB.out⟩
  · rintro a w' ⟨⟨hbj, hq⟩, u0, u1, u2, u3, u4, u5, u6, u7, u8, u9, u10, u11, u12, u13, u14, u15, u16, u17, u18, u19, u20, u21, u22, u23, u24, u25, u26, u27, u28, u29, u30, u31, u32, u33, u34, u35, u36, u37, u38, u39, u40, u41, rfl⟩
    have HBJ : Hid (Below w.heap.size w w') := hbj
    clear hbj
    subst hq
    go_wp2
    rw [jump_ret]
    go_ret
    exact ⟨rfl, HBJ.out⟩
theorem str_ne {a b : ByteArray} (h : ¬ a = b) : (a.toList == b.toList) = false := by
  rw [beq_eq_false_iff_ne]
  intro e
  rw [Lib.toList_data, Lib.toList_data] at e
  exact h (by cases a; cases b; simp only [ByteArray.mk.injEq]; exact Array.toList_inj.1 e)
end Go.Proofs.YtkojdigaoihkpaaGreatDoor

end
section
namespace Go.Proofs.YtkojdigaoihkpaaGreatDoor
set_option linter.unusedVariables false
set_option linter.unusedSimpArgs false
set_option maxRecDepth 100000
open Go.ChangeShapes Go.WideShapes Go.ChangeAt Go.RowKit Go.Lib

/-- What a listed table is, cell by cell. -/
def litV {H : Type} : DataW H → List Value
  | .lit (.int k z) => [.int k z]
  | .agg l => l.flatMap fun x => match x with
    | .lit (.int k z) => [.int k z]
    | _ => []
  | _ => []
def cellsV {H : Type} : DataW H → Array Value
  | .agg l => (l.flatMap litV).toArray
  | _ => #[]
def putV (c : Array Value) : Obj → Obj
  | .cells _ t frozen => .cells c t frozen
  | o => o
end Go.Proofs.YtkojdigaoihkpaaGreatDoor

end
section
namespace Go.Proofs.YtkojdigaoihkpaaGreatDoor
set_option linter.unusedVariables false
set_option linter.unusedSimpArgs false
set_option maxRecDepth 100000
open Go.RowKit

set_option maxHeartbeats 16000000 in
theorem check8_any {v : Value} {L : List Nod} {w : World} (h : NodesL w v L) (hs : Small L) (q : Bool) (hq : grpB L = q) :
    Calls Tryz.prog 28 #[v] w fun e w' => e = .returned (.int .i64 (if q then 0 else 1)) ∧ Below w.heap.size w w' := by
  have HN : Hid (NodesL w v L) := h
  have HS : Hid (Small L) := hs
  have HQ : Hid (grpB L = q) := hq
  obtain ⟨va, vc, rfl, hc1, hc2⟩ := h.shape
  have hLn := hs.n
  unfold big at hc2
  clear h hs hq
  go_enter Tryz.func28, Tryz.ntmps28
  go_wp2_with fail
  refine wp_scope_jumps 0 (fun a' w' => (Below w.heap.size w w' ∧ q = false) ∧ ∃ (u0 u1 u2 u3 u4 u5 u6 u7 u8 u9 u10 u11 u12 u13 u14 u15 u16 u17 u18 u19 u20 u21 u22 u23 u24 u25 u26 u27 u28 u29 u30 u31 u32 u33 u34 u35 u36 u37 u38 u39 u40 u41 u42 u43 u44 u45 u46 u47 u48 u49 u50 u51 u52 u53 u54 u55 u56 u57 u58 u59 u60 u61 u62 u63 u64 u65 u66 u67 u68 u69 : Value), a' = { tmps := #[u0, u1, u2, u3, u4, u5, u6, u7, u8, u9, u10, u11, u12, u13, u14, u15, u16, u17, u18, u19, u20, u21, u22, u23, u24, u25, u26, u27, u28, u29, u30, u31, u32, u33, u34, u35, u36, u37, u38, u39, u40, u41, u42, u43, u44, u45, u46, u47, u48, u49, u50, u51, u52, u53, u54, u55, u56, u57, u58, u59, u60, u61, u62, u63, u64, u65, u66, u67, u68, u69], defers := [] }) (fun _ _ => 0) rfl ?_ ?_
  · have gw : IntKind.i64.wrap ((L.length : Int) - 1) = (L.length : Int) - 1 := by simp [IntKind.wrap, IntKind.signed, IntKind.bits]; omega
    by_cases hl0 : L.length = 0
    · have g0 : (L.length : Int) - 1 < 0 := by omega
      have HQ2 : Hid (q = false) := by show _ = _; rw [← HQ.out]; exact grpB_big (by omega)
      go_wp2
      go_step3
      exact ⟨rfl, ⟨Below.refl _ _, HQ2.out⟩, _, _, _, _, _, _, _, _, _, _, _, _, _, _, _, _, _, _, _, _, _, _, _, _, _, _, _, _, _, _, _, _, _, _, _, _, _, _, _, _, _, _, _, _, _, _, _, _, _, _, _, _, _, _, _, _, _, _, _, _, _, _, _, _, _, _, _, _, _, _, rfl⟩
    · by_cases hl24 : 24 < L.length
      · have g0 : ¬ (L.length : Int) - 1 < 0 := by omega
        have g1 : (24 : Int) ≤ (L.length : Int) - 1 := by omega
        have HQ2 : Hid (q = false) := by show _ = _; rw [← HQ.out]; exact grpB_big (by omega)
        go_wp2
        go_step3
        exact ⟨rfl, ⟨Below.refl _ _, HQ2.out⟩, _, _, _, _, _, _, _, _, _, _, _, _, _, _, _, _, _, _, _, _, _, _, _, _, _, _, _, _, _, _, _, _, _, _, _, _, _, _, _, _, _, _, _, _, _, _, _, _, _, _, _, _, _, _, _, _, _, _, _, _, _, _, _, _, _, _, _, _, _, _, rfl⟩
      · have g0 : ¬ (L.length : Int) - 1 < 0 := by omega
        have g1 : ¬ (24 : Int) ≤ (L.length : Int) - 1 := by omega
        have HL1 : Hid (1 ≤ L.length ∧ L.length ≤ 24) := by show _ ∧ _; omega
        cases hn : nodesB L with
        | false =>
          have HNB : Hid (nodesB L = false) := hn
          have HQ2 : Hid (q = false) := by show _ = _; rw [← HQ.out]; exact grpB_nodes hn
          clear hn
          go_wp2_with (go_at_call 53; refine (nodes8_any HN.out HS.out false HNB.out).mono ?_; rintro e w2 ⟨rfl, hb2⟩; have HB2 : Hid (Below w.heap.size w w2) := hb2; clear hb2)
          go_step3
          exact ⟨rfl, ⟨HB2.out, HQ2.out⟩, _, _, _, _, _, _, _, _, _, _, _, _, _, _, _, _, _, _, _, _, _, _, _, _, _, _, _, _, _, _, _, _, _, _, _, _, _, _, _, _, _, _, _, _, _, _, _, _, _, _, _, _, _, _, _, _, _, _, _, _, _, _, _, _, _, _, _, _, _, _, rfl⟩
        | true =>
          have HNB : Hid (nodesB L = true) := hn
          clear hn
          go_wp2_with (go_at_call 53; refine (nodes8_any HN.out HS.out true HNB.out).mono ?_; rintro e w2 ⟨rfl, hb2⟩; have HB2 : Hid (Below w.heap.size w w2) := hb2; clear hb2)
          go_loopw [24] (fun i w' => ∃ k : Nat, k ≤ L.length ∧ i = .int .i64 k ∧ Hid (∀ j (h : j < L.length), j < k → grpI L j = true) ∧ Hid (Below w.heap.size w w')) (fun i _ => L.length - (intOf i).toNat)
          case atStart => exact ⟨0, Nat.zero_le _, rfl, fun j h1 h2 => by omega, HB2.out⟩
          case round =>
            obtain ⟨k, hk, rfl, HF, HB⟩ := hrel
            by_cases hlt : k < L.length
            · obtain ⟨b, off, x, y, rfl, hnd⟩ := (HN.out.later HB.out).row k hlt
              obtain ⟨t, ht⟩ : ∃ t, L[k] = t := ⟨_, rfl⟩
              have HLT : Hid (L[k] = t) := ht
              rw [ht] at hnd
              obtain ⟨nm, kd, ar, ds, n⟩ := t
              obtain ⟨c0, c1, c2, c3, c4, ha, hd, hz⟩ := hnd
              simp only at c0 c1 c2 c3 c4 ha hd hz
              obtain ⟨xa, xn, xc, rfl⟩ := ha.shape3
              obtain ⟨ya, yn, yc, rfl⟩ := hd.shape3
              obtain ⟨V, hV⟩ : ∃ V, V = wr.alloc (.cells #[.string nm, .int .i64 kd, .slice xa xn xc, .slice ya yn yc, .int .i64 n] 55) := ⟨_, rfl⟩
              have HVV : Hid (V = wr.alloc (.cells #[.string nm, .int .i64 kd, .slice xa xn xc, .slice ya yn yc, .int .i64 n] 55)) := hV
              have HBV : Hid (Below w.heap.size w V) := by show Below _ _ _; rw [hV]; exact Below.push HB.out _
              have v0 : V.cell? ⟨wr.heap.size, 0, none⟩ = some (.string nm) := by rw [hV]; simp
              have v1 : V.cell? ⟨wr.heap.size, 1, none⟩ = some (.int .i64 kd) := by rw [hV]; simp
              have v4 : V.cell? ⟨wr.heap.size, 4, none⟩ = some (.int .i64 n) := by rw [hV]; simp
              have gk : (k : Int) < L.length := by omega
              have gk0 : (0 : Int) ≤ k := by omega
              have gkc : (k : Int) ≤ vc := by omega
              clear ha hd hz ht hV
              by_cases hk15 : 15 < kd
              · have HQ2 : Hid (q = false) := by show _ = _; rw [← HQ.out]; exact grp_kind hlt (by rw [HLT.out]; exact hk15)
                go_upto_region 6 with fail
                rw [← HVV.out]
                go_wp2
                go_step3
                exact ⟨rfl, ⟨HBV.out, HQ2.out⟩, _, _, _, _, _, _, _, _, _, _, _, _, _, _, _, _, _, _, _, _, _, _, _, _, _, _, _, _, _, _, _, _, _, _, _, _, _, _, _, _, _, _, _, _, _, _, _, _, _, _, _, _, _, _, _, _, _, _, _, _, _, _, _, _, _, _, _, _, _, _, rfl⟩
              · by_cases hlo : n < -1073741824
                · have HQ2 : Hid (q = false) := by show _ = _; rw [← HQ.out]; exact grp_low hlt (by rw [HLT.out]; exact hlo)
                  go_upto_region 6 with fail
                  rw [← HVV.out]
                  go_wp2
                  go_step3
                  exact ⟨rfl, ⟨HBV.out, HQ2.out⟩, _, _, _, _, _, _, _, _, _, _, _, _, _, _, _, _, _, _, _, _, _, _, _, _, _, _, _, _, _, _, _, _, _, _, _, _, _, _, _, _, _, _, _, _, _, _, _, _, _, _, _, _, _, _, _, _, _, _, _, _, _, _, _, _, _, _, _, _, _, _, rfl⟩
                · by_cases hhi : 1073741824 < n
                  · have HQ2 : Hid (q = false) := by show _ = _; rw [← HQ.out]; exact grp_high hlt (by rw [HLT.out]; exact hhi)
                    go_upto_region 6 with fail
                    rw [← HVV.out]
                    go_wp2
                    go_step3
                    exact ⟨rfl, ⟨HBV.out, HQ2.out⟩, _, _, _, _, _, _, _, _, _, _, _, _, _, _, _, _, _, _, _, _, _, _, _, _, _, _, _, _, _, _, _, _, _, _, _, _, _, _, _, _, _, _, _, _, _, _, _, _, _, _, _, _, _, _, _, _, _, _, _, _, _, _, _, _, _, _, _, _, _, _, rfl⟩
                  · cases hnb : nameB nm with
                    | false =>
                      have HNM : Hid (nameB nm = false) := hnb
                      have HQ2 : Hid (q = false) := by show _ = _; rw [← HQ.out]; exact grp_name hlt (by rw [HLT.out]; exact hnb)
                      clear hnb
                      go_upto_region 6 with fail
                      rw [← HVV.out]
                      go_wp2_with (go_at_call 54; refine (name_to nm _ false HNM.out).mono ?_; rintro e w3 ⟨rfl, hb3⟩; have HB3 : Hid (Below w.heap.size w w3) := Below.after HBV.out hb3; clear hb3)
                      go_step3
                      exact ⟨rfl, ⟨HB3.out, HQ2.out⟩, _, _, _, _, _, _, _, _, _, _, _, _, _, _, _, _, _, _, _, _, _, _, _, _, _, _, _, _, _, _, _, _, _, _, _, _, _, _, _, _, _, _, _, _, _, _, _, _, _, _, _, _, _, _, _, _, _, _, _, _, _, _, _, _, _, _, _, _, _, _, rfl⟩
                    | true =>
                      have HNM : Hid (nameB nm = true) := hnb
                      clear hnb
                      go_upto_region 6 with fail
                      rw [← HVV.out]
                      go_wp2_with (go_at_call 54; refine (name_to nm _ true HNM.out).mono ?_; rintro e w3 ⟨rfl, hb3⟩; have HB3 : Hid (Below V.heap.size V w3) := hb3; clear hb3)
                      have V0 : Hid (V.cell? ⟨wr.heap.size, 0, none⟩ = some (.string nm)) := v0
                      have HG : Hid (¬ 15 < kd ∧ ¬ n < -1073741824 ∧ ¬ 1073741824 < n) := ⟨by omega, by omega, by omega⟩
                      clear v0 v1 v4 c0 c1 c2 c3 c4 hk15 hlo hhi
                      go_loopw [52] (fun i w' => ∃ p : Nat, p ≤ k ∧ i = .int .i64 p ∧ Hid (∀ j (h : j < L.length), j < p → ¬ L[j].name = nm) ∧ Hid (Below V.heap.size V w')) (fun i _ => k - (intOf i).toNat)
                      case atStart => exact ⟨0, Nat.zero_le _, rfl, fun j h1 h2 => by omega, HB3.out⟩
                      case round =>
                        obtain ⟨p, hp, rfl, HFP, HBP⟩ := hrel
                        by_cases hpk : p < k
                        · obtain ⟨b2, off2, x2, y2, eb, hnd⟩ := (HN.out.later (Below.after HBV.out HBP.out)).row p (by omega)
                          simp only [Option.some.injEq, Addr.mk.injEq] at eb
                          obtain ⟨rfl, rfl, _⟩ := eb
                          obtain ⟨t2, ht2⟩ : ∃ t, L[p]'(by omega) = t := ⟨_, rfl⟩
                          have HLT2 : Hid (L[p]'(by omega) = t2) := ht2
                          rw [ht2] at hnd
                          obtain ⟨nm2, kd2, ar2, ds2, n2⟩ := t2
                          obtain ⟨c0, c1, c2, c3, c4, ha, hd, hz⟩ := hnd
                          simp only at c0 c1 c2 c3 c4 ha hd hz
                          obtain ⟨za, zn, zc, rfl⟩ := ha.shape3
                          obtain ⟨ta, tn, tc, rfl⟩ := hd.shape3
                          have gp : (p : Int) < k := by omega
                          have hv0 := cell_later HBP.out V0.out
                          have hv0' := cell_later (Below.push (Below.refl _ _) (.cells #[.string nm2, .int .i64 kd2, .slice za zn zc, .slice ta tn tc, .int .i64 n2] 55)) hv0
                          clear ha hd hz ht2
                          by_cases e : nm2 = nm
                          · have HQ2 : Hid (q = false) := by show _ = _; rw [← HQ.out]; exact grp_twice hlt hpk (by rw [HLT2.out, HLT.out]; exact e)
                            have hb : (nm2.toList == nm.toList) = true := by rw [e]; simp
                            clear e
                            go_wp2
                            go_step3
                            exact ⟨rfl, ⟨Below.push (Below.after HBV.out HBP.out) _, HQ2.out⟩, _, _, _, _, _, _, _, _, _, _, _, _, _, _, _, _, _, _, _, _, _, _, _, _, _, _, _, _, _, _, _, _, _, _, _, _, _, _, _, _, _, _, _, _, _, _, _, _, _, _, _, _, _, _, _, _, _, _, _, _, _, _, _, _, _, _, _, _, _, _, rfl⟩
                          · have HFP2 : Hid (∀ j (h : j < L.length), j < p + 1 → ¬ L[j].name = nm) := fun j h1 h2 => by
                              by_cases ej : j = p
                              · subst ej; rw [HLT2.out]; exact e
                              · exact HFP.out j h1 (by omega)
                            have hb := str_ne e
                            clear e
                            go_wp2
                            go_roundw
                            case rel => exact ⟨p + 1, by omega, by go_num, HFP2.out, Below.push HBP.out _⟩
                            case measure => simp [intOf]; omega
                        · have hpk' : p = k := by omega
                          subst hpk'
                          have HGK : Hid (grpI L p = true) := by
                            obtain ⟨h1, h2, h3⟩ := HG.out
                            have hl := HLT.out
                            exact grpI_yes hlt (by rw [hl]; exact h1) (by rw [hl]; exact h2) (by rw [hl]; exact h3) (by rw [hl]; exact HNM.out) (fun j hj => by rw [hl]; exact HFP.out j (by omega) hj)
                          go_wp2
                          go_roundw
                          case rel => exact ⟨p + 1, by omega, by go_num, fun j h1 h2 => by
                            by_cases e : j = p
                            · subst e; exact HGK.out
                            · exact HF.out j h1 (by omega), Below.after HBV.out HBP.out⟩
                          case measure => simp [intOf]; omega
            · obtain rfl : k = L.length := by omega
              obtain ⟨hl1, hl2⟩ := HL1.out
              have HGL := grpB_last hl1 hl2 HNB.out (fun i hi => HF.out i hi hi)
              have HGL2 : Hid (grpB L = decide (prd (L[L.length - 1]'(by omega)).dims = 1)) := HGL
              have hok := nodeB_okd (nodesB_at HNB.out (L.length - 1) (by omega))
              obtain ⟨b, off, x, y, rfl, hnd⟩ := (HN.out.later HB.out).row (L.length - 1) (by omega)
              generalize L[L.length - 1]'(by omega) = t at HGL2 hok hnd
              obtain ⟨m, hm⟩ : ∃ m : Nat, L.length - 1 = m := ⟨_, rfl⟩
              rw [hm] at hnd
              have gm : (L.length : Int) - 1 = (m : Int) := by omega
              have d3 := hnd.c3
              have HD : Hid (Ints wr y t.dims) := hnd.d
              have HM : Hid (Lib.maxOf t.dims = 1 ↔ prd t.dims = 1) := maxOf_prd hok
              have HLD : Hid (1 ≤ t.dims.length) := (okd_parts hok).1
              obtain ⟨ya, yn, yc, rfl⟩ := hnd.d.shape3
              obtain ⟨mx, hmx⟩ : ∃ mx, Lib.maxOf t.dims = mx := ⟨_, rfl⟩
              have HMX : Hid (Lib.maxOf t.dims = mx) := hmx
              have gm1 : (m : Int) < L.length := by omega
              have gm0 : (0 : Int) ≤ m := by omega
              clear HGL hok hnd hmx
              by_cases e1 : mx = 1
              · have HQ2 : Hid (q = true) := by
                  show _ = _
                  rw [← HQ.out, HGL2.out]
                  exact decide_eq_true (HM.out.1 (HMX.out.trans e1))
                have hb : (mx != 1) = false := by rw [e1]; rfl
                clear e1
                go_wp2_with (go_at_call 55; refine (max8_to HD.out HLD.out).mono ?_; rw [HMX.out]; rintro e w4 ⟨rfl, rfl⟩)
                rw [jump_ret]
                go_ret
                exact ⟨by rw [HQ2.out]; rfl, HB.out⟩
              · have HQ2 : Hid (q = false) := by
                  show _ = _
                  rw [← HQ.out, HGL2.out]
                  exact decide_eq_false fun h => e1 (by rw [← HMX.out]; exact HM.out.2 h)
                have hb : (mx != 1) = true := by rw [bne_iff_ne]; exact e1
                clear e1
                go_wp2_with (go_at_call 55; refine (max8_to HD.out HLD.out).mono ?_; rw [HMX.out]; rintro e w4 ⟨rfl, rfl⟩)
                go_step3
                exact ⟨rfl, ⟨HB.out, HQ2.out⟩, _, _, _, _, _, _, _, _, _, _, _, _, _, _, _, _, _, _, _, _, _, _, _, _, _, _, _, _, _, _, _, _, _, _, _, _, _, _, _, _, _, _, _, _, _, _, _, _, _, _, _, _, _, _, _, _, _, _, _, _, _, _, _, _, _, _, _, _, _, _, rfl⟩
  · rintro a w' ⟨⟨hbj, hq⟩, u0, u1, u2, u3, u4, u5, u6, u7, u8, u9, u10, u11, u12, u13, u14, u15, u16, u17, u18, u19, u20, u21, u22, u23, u24, u25, u26, u27, u28, u29, u30, u31, u32, u33, u34, u35, u36, u37, u38, u39, u40, u41, u42, u43, u44, u45, u46, u47, u48, u49, u50, u51, u52, u53, u54, u55, u56, u57, u58, u59, u60, u61, u62, u63, u64, u65, u66, u67, u68, u69, rfl⟩
    have HBJ : Hid (Below w.heap.size w w') := hbj
    clear hbj
    subst hq
    go_wp2
    rw [jump_ret]
    go_ret
    exact ⟨rfl, HBJ.out⟩
end Go.Proofs.YtkojdigaoihkpaaGreatDoor

end
section
namespace Go.Proofs.YtkojdigaoihkpaaGreatDoor
set_option linter.unusedVariables false
set_option linter.unusedSimpArgs false
set_option maxRecDepth 100000
open Go.RowKit

set_option maxHeartbeats 4000000 in
theorem eqN_same {s : ByteArray} {k n : Int} {x y x' y' : Value} {A D : List Int} {w : World} (hx : Ints w x A) (hy : Ints w y D) (hx' : Ints w x' A) (hy' : Ints w y' D) :
    Calls Tryz.prog 32 #[.agg #[.string s, .int .i64 k, x, y, .int .i64 n], .agg #[.string s, .int .i64 k, x', y', .int .i64 n]] w fun e w' => e = .returned (.bool true) ∧ Below w.heap.size w w' := by
  have HX : Hid (Ints w x A) := hx
  have HY : Hid (Ints w y D) := hy
  have HX' : Hid (Ints w x' A) := hx'
  have HY' : Hid (Ints w y' D) := hy'
  obtain ⟨xa, xn, xc, rfl⟩ := hx.shape3
  obtain ⟨ya, yn, yc, rfl⟩ := hy.shape3
  obtain ⟨za, zn, zc, rfl⟩ := hx'.shape3
  obtain ⟨ta, tn, tc, rfl⟩ := hy'.shape3
  clear hx hy hx' hy'
  have HB : Hid (Below w.heap.size w ((w.alloc (.cells #[.string s, .int .i64 k, .slice xa xn xc, .slice ya yn yc, .int .i64 n] 55)).alloc (.cells #[.string s, .int .i64 k, .slice za zn zc, .slice ta tn tc, .int .i64 n] 55))) := Below.push (Below.push (Below.refl _ _) _) _
  go_enter Tryz.func32, Tryz.ntmps32
  go_wp2_with fail
  refine (eqn_to true (HX.out.later HB.out) (HX'.out.later HB.out) (by simp)).mono ?_
  rintro e w1 ⟨rfl, m1, rfl⟩
  go_wp2_with fail
  refine (eqn_to true (HY.out.later (Below.drewN HB.out _)) (HY'.out.later (Below.drewN HB.out _)) (by simp)).mono ?_
  rintro e w2 ⟨rfl, m2, rfl⟩
  go_wp2
  go_ret
  exact ⟨rfl, Below.drewN HB.out _⟩
set_option maxHeartbeats 4000000 in
theorem eqNs_same {v u : Value} {L : List Nod} {w : World} (h : NodesL w v L) (h' : NodesL w u L) :
    Calls Tryz.prog 13 #[v, u] w fun e w' => e = .returned (.bool true) ∧ Below w.heap.size w w' := by
  have HN : Hid (NodesL w v L) := h
  have HN' : Hid (NodesL w u L) := h'
  obtain ⟨va, vc, rfl, hc1, hc2⟩ := h.shape
  obtain ⟨ua, uc, rfl, hc3, hc4⟩ := h'.shape
  unfold big at hc2 hc4
  clear h h'
  go_enter Tryz.func13, Tryz.ntmps13
  go_wp2
  go_loopw [5] (fun i w' => ∃ (k : Nat), k ≤ L.length ∧ i = .int .i64 k ∧ Hid (Below w.heap.size w w')) (fun i _ => L.length - (intOf i).toNat)
  case atStart => exact ⟨0, Nat.zero_le _, rfl, Below.refl _ _⟩
  case round =>
    obtain ⟨k, hk, rfl, HB⟩ := hrel
    by_cases hlt : k < L.length
    · obtain ⟨b, off, x, y, rfl, hnd⟩ := (HN.out.later HB.out).row k hlt
      obtain ⟨b', off', x', y', rfl, hnd'⟩ := (HN'.out.later HB.out).row k hlt
      obtain ⟨t, ht⟩ : ∃ t, L[k] = t := ⟨_, rfl⟩
      rw [ht] at hnd hnd'
      obtain ⟨nm, kd, ar, ds, n⟩ := t
      obtain ⟨d0, d1, d2, d3, d4, ha, hd, hz⟩ := hnd
      obtain ⟨e0, e1, e2, e3, e4, ha', hd', hz'⟩ := hnd'
      simp only at d0 d1 d2 d3 d4 ha hd hz e0 e1 e2 e3 e4 ha' hd' hz'
      have HA : Hid (Ints wr x ar) := ha
      have HD : Hid (Ints wr y ds) := hd
      have HA' : Hid (Ints wr x' ar) := ha'
      have HD' : Hid (Ints wr y' ds) := hd'
      obtain ⟨xa, xn, xc, rfl⟩ := ha.shape3
      obtain ⟨ya, yn, yc, rfl⟩ := hd.shape3
      obtain ⟨za, zn, zc, rfl⟩ := ha'.shape3
      obtain ⟨ta, tn, tc, rfl⟩ := hd'.shape3
      have g1 : (k : Int) < L.length := by omega
      clear ha hd hz ha' hd' hz' ht
      go_wp2_with fail
      go_region_held3 (fun w' => w'.cell? ⟨b, off + k * 5, none⟩ = some (.string nm) ∧ w'.cell? ⟨b, off + k * 5 + 1, none⟩ = some (.int .i64 kd) ∧ w'.cell? ⟨b, off + k * 5 + 2, none⟩ = some (.slice xa xn xc) ∧ w'.cell? ⟨b, off + k * 5 + 3, none⟩ = some (.slice ya yn yc) ∧ w'.cell? ⟨b, off + k * 5 + 4, none⟩ = some (.int .i64 n) ∧ w'.cell? ⟨b', off' + k * 5, none⟩ = some (.string nm) ∧ w'.cell? ⟨b', off' + k * 5 + 1, none⟩ = some (.int .i64 kd) ∧ w'.cell? ⟨b', off' + k * 5 + 2, none⟩ = some (.slice za zn zc) ∧ w'.cell? ⟨b', off' + k * 5 + 3, none⟩ = some (.slice ta tn tc) ∧ w'.cell? ⟨b', off' + k * 5 + 4, none⟩ = some (.int .i64 n)) (go_keep)
        (first | (go_at_call 32; refine (eqN_same (A := ar) (D := ds) ?_ ?_ ?_ ?_).mono ?_; exact HA.out.later (Below.refl _ _).drew; exact HD.out.later (Below.refl _ _).drew; exact HA'.out.later (Below.refl _ _).drew; exact HD'.out.later (Below.refl _ _).drew; rintro r w2 ⟨rfl, hb2⟩; have HB2 : Hid (Below wr.heap.size wr w2) := Below.after (Below.refl _ _).drew hb2; have a_0 := cell_later HB2.out d0; have a_1 := cell_later HB2.out d1; have a_2 := cell_later HB2.out d2; have a_3 := cell_later HB2.out d3; have a_4 := cell_later HB2.out d4; have b_0 := cell_later HB2.out e0; have b_1 := cell_later HB2.out e1; have b_2 := cell_later HB2.out e2; have b_3 := cell_later HB2.out e3; have b_4 := cell_later HB2.out e4; clear hb2))
      clear a_0 a_1 a_2 a_3 a_4 b_0 b_1 b_2 b_3 b_4 d0 d1 d2 d3 d4 e0 e1 e2 e3 e4
      go_wp2
      go_roundw
      case rel => exact ⟨k + 1, by omega, by go_num, Below.after HB.out HB2.out⟩
      case measure => simp [intOf]; omega
    · have hk' : k = L.length := by omega
      subst hk'
      go_wp2
      go_ret
      exact ⟨rfl, HB.out⟩
set_option maxHeartbeats 4000000 in
theorem infer8_any {vd v u : Value} {d A : List Int} {L : List Nod} {w : World} (k n : Int) (h : NodesL w v L) (hs : Small L) (hd : Ints w vd d) (hA : Ints w u A) (hlen : A.length ≤ 100000000) (q : Bool) (hq : nodesB L = q) (E : Int) (R : List Int) (hE : inE k n d L A = E) (hR : inR k n d L A = R) :
    Calls Tryz.prog 52 #[.int .i64 k, .int .i64 n, vd, v, u] w fun e w' => ∃ x, e = .returned (.tuple #[x, .int .i64 (if q then E else 1)]) ∧ Own w' w.heap.size x (if q then R else []) ∧ Below w.heap.size w w' := by
  have HN : Hid (NodesL w v L) := h
  have HS : Hid (Small L) := hs
  have HA : Hid (Ints w u A) := hA
  have HD : Hid (Ints w vd d) := hd
  have HQ : Hid (nodesB L = q) := hq
  have HE : Hid (inE k n d L A = E) := hE
  have HR : Hid (inR k n d L A = R) := hR
  obtain ⟨va, vc, rfl, hc1, hc2⟩ := h.shape
  obtain ⟨da, dn, dc, rfl⟩ := hd.shape3
  obtain ⟨ua, un, uc, rfl⟩ := hA.shape3
  unfold big at hc2
  clear h hs hd hA hq hE hR
  cases q with
  | false =>
    go_enter Tryz.func52, Tryz.ntmps52
    go_wp2_with (go_at_call 53; refine (nodes8_any HN.out HS.out false HQ.out).mono ?_; rintro e w2 ⟨rfl, hb2⟩; have HB2 : Hid (Below w.heap.size w w2) := hb2; clear hb2)
    go_ret2
    exact ⟨_, rfl, Own.nil _ _, HB2.out⟩
  | true =>
    go_enter Tryz.func52, Tryz.ntmps52
    go_wp2_with (first
      | (go_at_call 53; refine (nodes8_any HN.out HS.out true HQ.out).mono ?_; rintro e w2 ⟨rfl, hb2⟩; have HB2 : Hid (Below w.heap.size w w2) := hb2; clear hb2)
      | (go_at_call 78; refine (made_any k n (HN.out.later HB2.out) (HD.out.later HB2.out) (HA.out.later HB2.out) hlen E R HE.out HR.out).mono ?_; rintro e w3 ⟨x3, rfl, ho, hb3⟩; have HO3 : Hid (Own w3 w.heap.size x3 R) := ho.mono HB2.out.size; have HB3 : Hid (Below w.heap.size w w3) := Below.after HB2.out hb3; obtain ⟨s7, n7, c7, rfl⟩ := ho.ints.shape3; clear ho hb3))
    go_ret2
    exact ⟨_, rfl, HO3.out, HB3.out⟩
theorem wpList_app_ints {ops : Array Oper} {rest : List Oper} {o : Oper} {a : Act} {Q : Exit → Act → World → Prop} (w : World)
    (hgd : o.guard = none) (s x : Operand) (ho : o.op = .call { callee := .builtin .append, args := #[s, x], argTypes := #[23, 23] })
    (B : Nat) (l N : List Int) (vs vx : Value) (n : Nat) (hs : a.eval s = vs) (hn : n = l.length) (hown : w.ownsRow B 3 1 vs n (l.map (Value.int .i64))) (hx : a.eval x = vx) (hN : Ints w vx N) (hB : B ≤ w.heap.size) (hlen : l.length + N.length ≤ 1000000)
    (hK : ∀ va vn vc w', Own w' B (.slice va vn vc) (l ++ N) → Below B w w' → wpList Tryz.prog ops Q rest (a.put o.dst (.slice va vn vc)) w') :
    wpList Tryz.prog ops Q (o :: rest) a w := by
  subst hn
  obtain ⟨i3, hi, hz0, hz1, hz2⟩ := info3
  rcases hN with ⟨rfl, rfl⟩ | ⟨ad, c, rfl, h1, h2, h3⟩
  · refine wpList_append_own_none hgd s x 23 ho B 3 i3 1 Tryz.underlying23 hi vs l.length _ hs hown hx ?_
    have hO : Own w B vs (l ++ []) := by rw [List.append_nil]; exact ⟨hown, by unfold big; omega⟩
    obtain ⟨va, vn, vc, rfl⟩ := hO.ints.shape3
    exact hK _ _ _ _ hO (Below.refl _ _)
  · refine wpList_append_own_at w hgd s x 23 ho B 3 i3 (.int .i64 0) 1 8 Tryz.underlying23 hi hz0 hz1 hz2 rfl (by decide) vs l.length _ hs hown ad N.length c (N.map (Value.int .i64)) hx (by simp) ?_ (ints_one N) (by unfold maxLen; omega) (by omega) hB ?_
    · intro j u hj
      simp only [List.getElem?_map, Option.map_eq_some_iff] at hj
      obtain ⟨y, hy, rfl⟩ := hj
      obtain ⟨hlt, rfl⟩ := List.getElem?_eq_some_iff.1 hy
      obtain ⟨b, off, rfl, hc⟩ := h3 j hlt
      by_cases h0 : j = 0
      · subst h0; simpa [Addr.add] using hc
      · simpa [Addr.add, h0] using hc
    · intro v' w' h4 hg _ _
      have hO : Own w' B v' (l ++ N) := ⟨by rw [List.length_append, List.map_append]; exact h4, by rw [List.length_append]; unfold big; omega⟩
      have hb : Below B w w' := (Below.refl _ _).grown hg hB (fun k hk => (hown.lt k hk).1)
      obtain ⟨va, vn, vc, rfl⟩ := hO.ints.shape3
      exact hK _ _ _ _ hO hb
theorem NodesLL.row {w : World} {a : Option Addr} {n c : Nat} {T : List (List Nod)} (h : NodesLL w (.slice a n c) T) (i : Nat) (hi : i < T.length) : ∃ b off x, a = some ⟨b, off, none⟩ ∧ w.cell? ⟨b, off + i, none⟩ = some x ∧ NodesL w x T[i] := by
  obtain ⟨_, a', c', e, _, hr⟩ := h
  simp only [Value.slice.injEq] at e
  obtain ⟨rfl, rfl, rfl⟩ := e
  exact hr i hi
/-- append of one node in a box of its own. -/
theorem wpList_app_node {ops : Array Oper} {rest : List Oper} {o : Oper} {a : Act} {Q : Exit → Act → World → Prop} (w0 : World) (t : Nod) (x y : Value)
    (hgd : o.guard = none) (s xo : Operand) (ho : o.op = .call { callee := .builtin .append, args := #[s, xo], argTypes := #[29, 29] })
    (B : Nat) (L : List Nod) (xs : List Value) (vs : Value) (hs : a.eval s = vs) (hR : RowN w0 B vs L xs)
    (b : Nat) (hx : a.eval xo = .slice (some ⟨b, 0, none⟩) 1 1) (hb0 : w0.heap.size = b) (ex : Elt w0 vs.ownBlock x t.args) (ey : Elt w0 vs.ownBlock y t.dims) (hz : t.name.size ≤ 140737488355327) (hlen : L.length ≤ 1000) (hB : B ≤ w0.heap.size)
    (hK : ∀ g cap w' xs', RowN w' B (.slice (some ⟨g, 0, none⟩) (L.length + 1) cap) (L ++ [t]) xs' → Below B w0 w' → wpList Tryz.prog ops Q rest (a.put o.dst (.slice (some ⟨g, 0, none⟩) (L.length + 1) cap)) w') :
    wpList Tryz.prog ops Q (o :: rest) a (w0.alloc (.cells #[.string t.name, .int .i64 t.kind, x, y, .int .i64 t.n] 55)) := by
  subst hb0
  obtain ⟨iT, hi, hz0, hz1, hz2⟩ := infoN
  obtain ⟨xa, xn, xc, rfl⟩ := ex.1.shape3
  obtain ⟨ya, yn, yc, rfl⟩ := ey.1.shape3
  have hp : Below w0.heap.size w0 (w0.alloc (.cells #[.string t.name, .int .i64 t.kind, .slice xa xn xc, .slice ya yn yc, .int .i64 t.n] 55)) := Below.push (Below.refl _ _) _
  refine wpList_append_lies _ hgd s xo 29 ho B 55 iT (.agg #[.string ⟨#[]⟩, .int .i64 0, .slice none 0 0, .slice none 0 0, .int .i64 0]) 5 80 Tryz.underlying29 hi hz0 hz1 hz2 rfl (by decide) vs L.length xs hs (hR.later hp).own ⟨w0.heap.size, 0, none⟩ 1 1 [.string t.name, .int .i64 t.kind, .slice xa xn xc, .slice ya yn yc, .int .i64 t.n] hx rfl
    (World.news_of_block (heap_alloc_new w0 (.cells #[.string t.name, .int .i64 t.kind, .slice xa xn xc, .slice ya yn yc, .int .i64 t.n] 55))) (by intro u hu; simp only [List.mem_cons, List.not_mem_nil, or_false] at hu; rcases hu with rfl | rfl | rfl | rfl | rfl <;> rfl) (by decide) (by unfold maxLen; omega) (by omega) (by simp; omega) (w0.heap.size + 1) (by simp) ?_
  intro g cap w2 ho2 hg hat hlt2
  refine hK g cap w2 _ (RowN.app (E := [t]) (m := 1) (hR.later hp) rfl (news := [.string t.name, .int .i64 t.kind, .slice xa xn xc, .slice ya yn yc, .int .i64 t.n]) (fun i hi => by
    have h0 : i = 0 := by simp at hi; omega
    subst h0
    exact ⟨_, _, rfl, rfl, rfl, rfl, rfl, Elt.later hp ex, Elt.later hp ey, hz⟩) ho2 hg (by
    rcases hat with h | h
    · exact Or.inl h.symm
    · exact Or.inr (by rw [h]; simp [Value.ownBlock]))) (((Below.refl B w0).alloc hB _).grown hg (by simp; omega) (fun q hq => (hR.lt q hq).1))
end Go.Proofs.YtkojdigaoihkpaaGreatDoor

end
section
namespace Go.Proofs.YtkojdigaoihkpaaGreatDoor
set_option linter.unusedVariables false
set_option linter.unusedSimpArgs false
set_option maxRecDepth 100000
open Go.Shelf

def Tryz.lays103_ren : Go.Shelf.Ren := ⟨fun | 103 => 112 | 210 => 125 | 206 => 145 | n => n, fun | 9 => 9 | 4 => 4 | 24 => 151 | 3 => 3 | n => n, fun | n => n⟩
theorem Tryz.lays103 : Go.Proofs.Lays.n103 Tryz.prog Tryz.lays103_ren := {
  mixed := by kernel_rfl
  f103 := Tryz.func112.trans (congrArg some (by kernel_rfl))
  f206 := Tryz.func145.trans (congrArg some (by kernel_rfl))
  f210 := Tryz.func125.trans (congrArg some (by kernel_rfl))
  t3 := Tryz.underlying3
  a3 := Tryz.isAgg3
  z3 := Tryz.sizeOf3
  v3 := Tryz.zeroValue3
  t4 := Tryz.underlying4
  a4 := Tryz.isAgg4
  z4 := Tryz.sizeOf4
  v4 := Tryz.zeroValue4
  t9 := Tryz.underlying9
  a9 := Tryz.isAgg9
  z9 := Tryz.sizeOf9
  v9 := Tryz.zeroValue9
  t24 := Tryz.underlying151
  a24 := Tryz.isAgg151
  z24 := Tryz.sizeOf151
  v24 := Tryz.zeroValue151 }
open Go.RowKit in
theorem Tryz.strings_CutPrefix (s p : ByteArray) (w : World) :
    Calls Tryz.prog 112 #[.string s, .string p] w fun e w' => e = .returned (.tuple #[.string ⟨(Lib.trimPrefix s.data.toList p.data.toList).toArray⟩, .bool (Lib.hasPrefix s.data.toList p.data.toList)]) ∧ w' = w := Any.strings_CutPrefix Tryz.lays103 s p w
def Tryz.laysM243_ren : Go.Shelf.Ren := ⟨fun | 243 => 69 | 246 => 88 | 283 => 102 | 284 => 103 | 285 => 104 | 286 => 105 | 129 => 119 | 317 => 118 | 318 => 120 | 319 => 121 | 320 => 122 | 337 => 143 | 338 => 144 | n => n, fun | 3 => 3 | 9 => 9 | 2 => 2 | 4 => 4 | 171 => 144 | 0 => 0 | 53 => 145 | 37 => 28 | 5 => 5 | 173 => 148 | 212 => 162 | 51 => 163 | 20 => 20 | 213 => 164 | 46 => 57 | 232 => 191 | 233 => 192 | n => n, fun | 17 => 3 | 18 => 4 | 19 => 5 | n => n⟩
def Tryz.laysM171_ren : Go.Shelf.Ren := ⟨fun | 171 => 44 | 243 => 69 | 246 => 88 | 283 => 102 | 284 => 103 | 285 => 104 | 286 => 105 | 129 => 119 | 317 => 118 | 318 => 120 | 319 => 121 | 320 => 122 | 337 => 143 | 338 => 144 | n => n, fun | 3 => 3 | 9 => 9 | 2 => 2 | 4 => 4 | 171 => 144 | 0 => 0 | 53 => 145 | 37 => 28 | 5 => 5 | 173 => 148 | 212 => 162 | 51 => 163 | 20 => 20 | 213 => 164 | 46 => 57 | 232 => 191 | 233 => 192 | n => n, fun | 17 => 3 | 18 => 4 | 19 => 5 | n => n⟩
theorem Tryz.laysM171 : Go.Proofs.LaysM.n171 Tryz.prog Tryz.laysM171_ren := {
  mixed := by kernel_rfl
  f129 := Tryz.func119.trans (congrArg some (by kernel_rfl))
  f171 := Tryz.func44.trans (congrArg some (by kernel_rfl))
  f243 := Tryz.func69.trans (congrArg some (by kernel_rfl))
  f246 := Tryz.func88.trans (congrArg some (by kernel_rfl))
  f283 := Tryz.func102.trans (congrArg some (by kernel_rfl))
  f284 := Tryz.func103.trans (congrArg some (by kernel_rfl))
  f285 := Tryz.func104.trans (congrArg some (by kernel_rfl))
  f286 := Tryz.func105.trans (congrArg some (by kernel_rfl))
  f317 := Tryz.func118.trans (congrArg some (by kernel_rfl))
  f318 := Tryz.func120.trans (congrArg some (by kernel_rfl))
  f319 := Tryz.func121.trans (congrArg some (by kernel_rfl))
  f320 := Tryz.func122.trans (congrArg some (by kernel_rfl))
  f337 := Tryz.func143.trans (congrArg some (by kernel_rfl))
  f338 := Tryz.func144.trans (congrArg some (by kernel_rfl))
  t0 := Tryz.underlying0
  a0 := Tryz.isAgg0
  z0 := Tryz.sizeOf0
  v0 := Tryz.zeroValue0
  t2 := Tryz.underlying2
  a2 := Tryz.isAgg2
  z2 := Tryz.sizeOf2
  v2 := Tryz.zeroValue2
  t3 := Tryz.underlying3
  a3 := Tryz.isAgg3
  z3 := Tryz.sizeOf3
  v3 := Tryz.zeroValue3
  t4 := Tryz.underlying4
  a4 := Tryz.isAgg4
  z4 := Tryz.sizeOf4
  v4 := Tryz.zeroValue4
  t5 := Tryz.underlying5
  a5 := Tryz.isAgg5
  z5 := Tryz.sizeOf5
  v5 := Tryz.zeroValue5
  t9 := Tryz.underlying9
  a9 := Tryz.isAgg9
  z9 := Tryz.sizeOf9
  v9 := Tryz.zeroValue9
  t20 := Tryz.underlying20
  a20 := Tryz.isAgg20
  z20 := Tryz.sizeOf20
  v20 := Tryz.zeroValue20
  t37 := Tryz.underlying28
  a37 := Tryz.isAgg28
  z37 := Tryz.sizeOf28
  v37 := Tryz.zeroValue28
  t46 := Tryz.underlying57
  a46 := Tryz.isAgg57
  z46 := Tryz.sizeOf57
  v46 := Tryz.zeroValue57
  t51 := Tryz.underlying163
  a51 := Tryz.isAgg163
  z51 := Tryz.sizeOf163
  v51 := Tryz.zeroValue163
  t53 := Tryz.underlying145
  a53 := Tryz.isAgg145
  z53 := Tryz.sizeOf145
  v53 := Tryz.zeroValue145
  t171 := Tryz.underlying144
  a171 := Tryz.isAgg144
  z171 := Tryz.sizeOf144
  v171 := Tryz.zeroValue144
  t173 := Tryz.underlying148
  a173 := Tryz.isAgg148
  z173 := Tryz.sizeOf148
  v173 := Tryz.zeroValue148
  t212 := Tryz.underlying162
  a212 := Tryz.isAgg162
  z212 := Tryz.sizeOf162
  v212 := Tryz.zeroValue162
  t213 := Tryz.underlying164
  a213 := Tryz.isAgg164
  z213 := Tryz.sizeOf164
  t232 := Tryz.underlying191
  a232 := Tryz.isAgg191
  z232 := Tryz.sizeOf191
  v232 := Tryz.zeroValue191
  t233 := Tryz.underlying192
  a233 := Tryz.isAgg192
  z233 := Tryz.sizeOf192
  v233 := Tryz.zeroValue192
  g17 := by kernel_rfl
  g18 := by kernel_rfl
  g19 := by kernel_rfl
  i0 := by kernel_rfl
  i2 := by kernel_rfl
  i3 := by kernel_rfl
  i4 := by kernel_rfl
  i5 := by kernel_rfl
  i9 := by kernel_rfl
  i20 := by kernel_rfl
  i37 := by kernel_rfl
  i46 := by kernel_rfl
  i51 := by kernel_rfl
  i53 := by kernel_rfl
  i171 := by kernel_rfl
  i173 := by kernel_rfl
  i212 := by kernel_rfl
  i232 := by kernel_rfl
  i233 := by kernel_rfl
  m17 := by kernel_rfl
  m18 := by kernel_rfl
  m19 := by kernel_rfl }
open Go.RowKit Go.Sort Go.Lib in
theorem Tryz.strconv_Itoa (n : Int) (h0 : -9223372036854775808 ≤ n) (h1 : n ≤ 9223372036854775807) (w : World) (htab : Lib.TabIs Tryz.prog w "internal/strconv.uint64pow10" .u64 Lib.pow10Tab) :
    Calls Tryz.prog 44 #[.int .i64 n] w fun e w' => e = .returned (.string ⟨(Lib.itoa n).toArray⟩) ∧ ∃ k os, w' = grow (w.drewN k) os := Any.strconv_Itoa Tryz.laysM171 n h0 h1 w htab
def Tryz.laysM316_ren : Go.Shelf.Ren := ⟨fun | 316 => 72 | n => n, fun | 9 => 9 | 3 => 3 | 4 => 4 | 37 => 28 | 0 => 0 | 127 => 116 | 5 => 5 | n => n, fun | n => n⟩
theorem Tryz.laysM316 : Go.Proofs.LaysM.n316 Tryz.prog Tryz.laysM316_ren := {
  mixed := by kernel_rfl
  f316 := Tryz.func72.trans (congrArg some (by kernel_rfl))
  t0 := Tryz.underlying0
  a0 := Tryz.isAgg0
  z0 := Tryz.sizeOf0
  v0 := Tryz.zeroValue0
  t3 := Tryz.underlying3
  a3 := Tryz.isAgg3
  z3 := Tryz.sizeOf3
  v3 := Tryz.zeroValue3
  t4 := Tryz.underlying4
  a4 := Tryz.isAgg4
  z4 := Tryz.sizeOf4
  v4 := Tryz.zeroValue4
  t9 := Tryz.underlying9
  a9 := Tryz.isAgg9
  z9 := Tryz.sizeOf9
  v9 := Tryz.zeroValue9
  t37 := Tryz.underlying28
  a37 := Tryz.isAgg28
  z37 := Tryz.sizeOf28
  v37 := Tryz.zeroValue28
  t127 := Tryz.underlying116
  a127 := Tryz.isAgg116
  z127 := Tryz.sizeOf116
  v127 := Tryz.zeroValue116
  t5 := Tryz.underlying5
  a5 := Tryz.isAgg5
  z5 := Tryz.sizeOf5
  v5 := Tryz.zeroValue5
  i0 := by kernel_rfl
  i3 := by kernel_rfl
  i4 := by kernel_rfl
  i5 := by kernel_rfl
  i9 := by kernel_rfl
  i37 := by kernel_rfl
  i127 := by kernel_rfl }
open Go.RowKit in
theorem Tryz.stringslite_Clone (s : ByteArray) (w : World) (hlim : s.size ≤ 281474976710656) :
    Calls Tryz.prog 72 #[.string s] w fun e w' => e = .returned (.string s) ∧ Below w.heap.size w w' := Any.stringslite_Clone Tryz.laysM316 s w hlim
def Tryz.lays145_ren : Go.Shelf.Ren := ⟨fun | 145 => 48 | 220 => 71 | 219 => 92 | 217 => 108 | 225 => 109 | 224 => 110 | 267 => 111 | 266 => 123 | 314 => 124 | n => n, fun | 9 => 9 | 4 => 4 | 59 => 92 | 3 => 3 | 5 => 5 | 46 => 57 | 146 => 166 | 51 => 163 | n => n, fun | 1 => 2 | n => n⟩
theorem Tryz.lays145 : Go.Proofs.Lays.n145 Tryz.prog Tryz.lays145_ren := {
  mixed := by kernel_rfl
  f145 := Tryz.func48.trans (congrArg some (by kernel_rfl))
  f217 := Tryz.func108.trans (congrArg some (by kernel_rfl))
  f219 := Tryz.func92.trans (congrArg some (by kernel_rfl))
  f220 := Tryz.func71.trans (congrArg some (by kernel_rfl))
  f224 := Tryz.func110.trans (congrArg some (by kernel_rfl))
  f225 := Tryz.func109.trans (congrArg some (by kernel_rfl))
  f266 := Tryz.func123.trans (congrArg some (by kernel_rfl))
  f267 := Tryz.func111.trans (congrArg some (by kernel_rfl))
  f314 := Tryz.func124.trans (congrArg some (by kernel_rfl))
  t3 := Tryz.underlying3
  a3 := Tryz.isAgg3
  z3 := Tryz.sizeOf3
  v3 := Tryz.zeroValue3
  t4 := Tryz.underlying4
  a4 := Tryz.isAgg4
  z4 := Tryz.sizeOf4
  v4 := Tryz.zeroValue4
  t5 := Tryz.underlying5
  a5 := Tryz.isAgg5
  z5 := Tryz.sizeOf5
  v5 := Tryz.zeroValue5
  t9 := Tryz.underlying9
  a9 := Tryz.isAgg9
  z9 := Tryz.sizeOf9
  v9 := Tryz.zeroValue9
  t46 := Tryz.underlying57
  a46 := Tryz.isAgg57
  z46 := Tryz.sizeOf57
  v46 := Tryz.zeroValue57
  t51 := Tryz.underlying163
  a51 := Tryz.isAgg163
  z51 := Tryz.sizeOf163
  v51 := Tryz.zeroValue163
  t59 := Tryz.underlying92
  a59 := Tryz.isAgg92
  z59 := Tryz.sizeOf92
  v59 := Tryz.zeroValue92
  t146 := Tryz.underlying166
  a146 := Tryz.isAgg166
  z146 := Tryz.sizeOf166
  v146 := Tryz.zeroValue166
  g1 := by kernel_rfl }
open Go.RowKit Go.Lib in
theorem Tryz.strings_Cut (s sep : ByteArray) (m : Int) (w : World) (hs : s.size < 4294967281) (hm : w.cell? ⟨2, 0, none⟩ = some (.int .i64 m)) :
    Calls Tryz.prog 48 #[.string s, .string sep] w fun e w' => e = .returned (.tuple #[.string ⟨(Lib.cut s.data.toList sep.data.toList).1.toArray⟩, .string ⟨(Lib.cut s.data.toList sep.data.toList).2.1.toArray⟩, .bool (Lib.cut s.data.toList sep.data.toList).2.2]) ∧ ∃ n, w' = w.drewN n := Any.strings_Cut Tryz.lays145 s sep m w hs hm
def Tryz.lays146_ren : Go.Shelf.Ren := ⟨fun | 146 => 47 | 221 => 70 | 268 => 89 | 138 => 90 | 143 => 91 | 195 => 106 | 197 => 56 | 218 => 107 | 219 => 92 | 260 => 81 | 217 => 108 | 225 => 109 | 224 => 110 | 267 => 111 | 266 => 123 | 314 => 124 | n => n, fun | 9 => 9 | 31 => 22 | 3 => 3 | 4 => 4 | 0 => 0 | 105 => 102 | 21 => 21 | 5 => 5 | 46 => 57 | 119 => 137 | 139 => 140 | 138 => 139 | 146 => 166 | 51 => 163 | n => n, fun | 1 => 2 | 3 => 0 | 4 => 1 | n => n⟩
theorem Tryz.lays146 : Go.Proofs.Lays.n146 Tryz.prog Tryz.lays146_ren := {
  mixed := by kernel_rfl
  f138 := Tryz.func90.trans (congrArg some (by kernel_rfl))
  f143 := Tryz.func91.trans (congrArg some (by kernel_rfl))
  f146 := Tryz.func47.trans (congrArg some (by kernel_rfl))
  f195 := Tryz.func106.trans (congrArg some (by kernel_rfl))
  f197 := Tryz.func56.trans (congrArg some (by kernel_rfl))
  f217 := Tryz.func108.trans (congrArg some (by kernel_rfl))
  f218 := Tryz.func107.trans (congrArg some (by kernel_rfl))
  f219 := Tryz.func92.trans (congrArg some (by kernel_rfl))
  f221 := Tryz.func70.trans (congrArg some (by kernel_rfl))
  f224 := Tryz.func110.trans (congrArg some (by kernel_rfl))
  f225 := Tryz.func109.trans (congrArg some (by kernel_rfl))
  f260 := Tryz.func81.trans (congrArg some (by kernel_rfl))
  f266 := Tryz.func123.trans (congrArg some (by kernel_rfl))
  f267 := Tryz.func111.trans (congrArg some (by kernel_rfl))
  f268 := Tryz.func89.trans (congrArg some (by kernel_rfl))
  f314 := Tryz.func124.trans (congrArg some (by kernel_rfl))
  t0 := Tryz.underlying0
  a0 := Tryz.isAgg0
  z0 := Tryz.sizeOf0
  v0 := Tryz.zeroValue0
  t3 := Tryz.underlying3
  a3 := Tryz.isAgg3
  z3 := Tryz.sizeOf3
  v3 := Tryz.zeroValue3
  t4 := Tryz.underlying4
  a4 := Tryz.isAgg4
  z4 := Tryz.sizeOf4
  v4 := Tryz.zeroValue4
  t5 := Tryz.underlying5
  a5 := Tryz.isAgg5
  z5 := Tryz.sizeOf5
  v5 := Tryz.zeroValue5
  t9 := Tryz.underlying9
  a9 := Tryz.isAgg9
  z9 := Tryz.sizeOf9
  v9 := Tryz.zeroValue9
  t21 := Tryz.underlying21
  a21 := Tryz.isAgg21
  z21 := Tryz.sizeOf21
  v21 := Tryz.zeroValue21
  t31 := Tryz.underlying22
  a31 := Tryz.isAgg22
  z31 := Tryz.sizeOf22
  v31 := Tryz.zeroValue22
  t46 := Tryz.underlying57
  a46 := Tryz.isAgg57
  z46 := Tryz.sizeOf57
  v46 := Tryz.zeroValue57
  t51 := Tryz.underlying163
  a51 := Tryz.isAgg163
  z51 := Tryz.sizeOf163
  v51 := Tryz.zeroValue163
  t105 := Tryz.underlying102
  a105 := Tryz.isAgg102
  z105 := Tryz.sizeOf102
  v105 := Tryz.zeroValue102
  t119 := Tryz.underlying137
  a119 := Tryz.isAgg137
  z119 := Tryz.sizeOf137
  t138 := Tryz.underlying139
  a138 := Tryz.isAgg139
  z138 := Tryz.sizeOf139
  v138 := Tryz.zeroValue139
  t139 := Tryz.underlying140
  a139 := Tryz.isAgg140
  z139 := Tryz.sizeOf140
  v139 := Tryz.zeroValue140
  t146 := Tryz.underlying166
  a146 := Tryz.isAgg166
  z146 := Tryz.sizeOf166
  v146 := Tryz.zeroValue166
  g1 := by kernel_rfl
  g3 := by kernel_rfl
  g4 := by kernel_rfl }
open Go.RowKit Go.Lib in
theorem Tryz.strings_Split (s sep : ByteArray) (m : Int) (w : World) (hs : s.size < 4294967281) (hm : w.cell? ⟨2, 0, none⟩ = some (.int .i64 m)) (h1 : 1 ≤ sep.size) :
    Calls Tryz.prog 47 #[.string s, .string sep] w fun e w' =>
      e = .returned (.slice (some ⟨w.heap.size, 0, none⟩) (Lib.countB s sep + 1) (Lib.countB s sep + 1)) ∧ w' = w.alloc (.cells ((Lib.splitB sep 0 (Lib.countB s sep) s).map Value.string).toArray 9) := Any.strings_Split Tryz.lays146 (by kernel_rfl) s sep m w hs hm h1
end Go.Proofs.YtkojdigaoihkpaaGreatDoor

end
section
namespace Go.Proofs.YtkojdigaoihkpaaGreatDoor
set_option linter.unusedVariables false
set_option linter.unusedSimpArgs false
set_option maxRecDepth 100000
open Go.RowKit

def digV (l : List UInt8) : Nat := l.foldl (fun a c => 10 * a + (c.toNat - 48)) 0
theorem digV_snoc (l : List UInt8) (c : UInt8) : digV (l ++ [c]) = 10 * digV l + (c.toNat - 48) := by simp [digV]
theorem digV_take (l : List UInt8) (k : Nat) (h : k < l.length) : digV (l.take (k + 1)) = 10 * digV (l.take k) + (l[k].toNat - 48) := by
  rw [List.take_succ_eq_append_getElem h, digV_snoc]
theorem digV_lt (l : List UInt8) (h : ∀ c ∈ l, c.toNat ≤ 57) : ∀ k, k ≤ l.length → digV (l.take k) < 10 ^ k
  | 0, _ => by simp [digV]
  | k + 1, hk => by
    have ih := digV_lt l h k (by omega)
    rw [digV_take l k (by omega)]
    have := h l[k] (List.getElem_mem (by omega))
    rw [Nat.pow_succ]
    omega
theorem digV_lt10 (l : List UInt8) (k : Nat) (hk : k ≤ l.length) (h10 : k ≤ 10) (h : ∀ j (hj : j < l.length), j < k → l[j].toNat ≤ 57) : digV (l.take k) < 10000000000 := by
  have h1 := digV_lt (l.take k) (fun c hc => by
    obtain ⟨j, hj, rfl⟩ := List.getElem_of_mem hc
    rw [List.getElem_take]
    rw [List.length_take] at hj
    exact h j (by omega) (by omega)) k (by rw [List.length_take]; omega)
  rw [List.take_take, Nat.min_self] at h1
  exact Nat.lt_of_lt_of_le h1 (Nat.pow_le_pow_right (by decide) h10)
/-- A number's digits. -/
def numD (l : List UInt8) : List UInt8 := match l with
  | [] => []
  | c :: r => if c.toNat = 45 then r else c :: r
def numP (l : List UInt8) : Prop := 1 ≤ (numD l).length ∧ (numD l).length ≤ 10 ∧ ¬ (((numD l).getD 0 0).toNat = 48 ∧ l ≠ [48]) ∧ (∀ c ∈ numD l, 48 ≤ c.toNat ∧ c.toNat ≤ 57) ∧ digV (numD l) ≤ 1073741824
open Classical in
noncomputable def numK (l : List UInt8) : Bool := decide (numP l)
open Classical in
noncomputable def numV (l : List UInt8) : Int := if numP l then (if (numD l).length < l.length then -(digV (numD l) : Int) else digV (numD l)) else 0
theorem num_not {l : List UInt8} (h : ¬ numP l) : numV l = 0 ∧ numK l = false := by
  constructor
  · rw [numV, if_neg h]
  · simp [numK, h]
theorem num_yes {l : List UInt8} (h : numP l) : numV l = (if (numD l).length < l.length then -(digV (numD l) : Int) else digV (numD l)) ∧ numK l = true := by
  constructor
  · rw [numV, if_pos h]
  · simp [numK, h]
theorem numD_plain {s : ByteArray} (h : 0 < s.size) (h45 : ¬ (s[0]'h).toNat = 45) : numD s.data.toList = s.data.toList := by
  obtain ⟨⟨l⟩⟩ := s
  cases l with
  | nil => rfl
  | cons c r =>
    have : ¬ c.toNat = 45 := by simpa [ByteArray.getElem_eq_getElem_data] using h45
    show (if c.toNat = 45 then r else c :: r) = c :: r
    rw [if_neg this]
theorem numD_neg {s : ByteArray} (h : 0 < s.size) (h45 : (s[0]'h).toNat = 45) : numD s.data.toList = (s.extract 1 s.size).data.toList := by
  rw [Lib.extract_data]
  obtain ⟨⟨l⟩⟩ := s
  cases l with
  | nil => simp [ByteArray.size] at h
  | cons c r =>
    have : c.toNat = 45 := by simpa [ByteArray.getElem_eq_getElem_data] using h45
    show (if c.toNat = 45 then r else c :: r) = _
    rw [if_pos this]
    simp [ByteArray.size]
theorem get_list (s : ByteArray) (k : Nat) (h : k < s.size) (h' : k < s.data.toList.length) : s.data.toList[k] = s[k] := by simp [ByteArray.getElem_eq_getElem_data]
theorem len_list (s : ByteArray) : s.data.toList.length = s.size := (Lib.size_eq s).symm
set_option maxHeartbeats 8000000 in
theorem rnumber_plain (s : ByteArray) (w : World) (h0 : 0 < s.size) (h45 : ¬ s[0].toNat = 45) :
    Calls Tryz.prog 61 #[.string s] w fun e w' => e = .returned (.tuple #[.int .i64 (numV s.data.toList), .bool (numK s.data.toList)]) ∧ w = w' := by
  have HDL : Hid (numD s.data.toList = s.data.toList) := numD_plain h0 h45
  have gq45 : ((s[0].toNat : Int) == 45) = false := by simp; omega
  go_enter Tryz.func61, Tryz.ntmps61
  go_upto_region 4 with fail
  have gz : (((s.size : Nat) : Int) == 0) = false := by rw [beq_eq_false_iff_ne]; omega
  by_cases h10 : 10 < s.size
  · have g10 : (10 : Int) < ((s.size : Nat) : Int) := by omega
    have HN : Hid (numV s.data.toList = 0 ∧ numK s.data.toList = false) := num_not (by
      intro h
      have h1 := h.2.1
      rw [HDL.out, len_list] at h1
      omega)
    go_wp2
    go_ret2
    exact ⟨by rw [HN.out.1, HN.out.2]; rfl, rfl⟩
  have g10 : ¬ (10 : Int) < ((s.size : Nat) : Int) := by omega
  have HD0 : Hid ((numD s.data.toList).getD 0 0 = s[0]) := by
    show _ = _
    rw [HDL.out, List.getD_eq_getElem?_getD, List.getElem?_eq_getElem (by rw [len_list]; exact h0), Option.getD_some]
    exact get_list s 0 (by exact h0) _
  by_cases h48 : s[0].toNat = 48
  · have gq48 : ((s[0].toNat : Int) == 48) = true := by simp; omega
    cases he : s.toList == [48] with
    | false =>
      have HN : Hid (numV s.data.toList = 0 ∧ numK s.data.toList = false) := num_not (by
        intro h
        refine h.2.2.1 ⟨by rw [HD0.out]; exact h48, fun e => ?_⟩
        rw [Lib.toList_data, e] at he
        simp at he)
      go_wp2
      go_ret2
      exact ⟨by rw [HN.out.1, HN.out.2]; rfl, rfl⟩
    | true =>
      have H48 : Hid (¬ (((numD s.data.toList).getD 0 0).toNat = 48 ∧ s.data.toList ≠ [48])) := fun h => h.2 (by rw [← Lib.toList_data]; simpa using he)
      have hsz10 : s.size ≤ 10 := by omega
      go_wp2
      go_loop [5, 6] (fun n i => ∃ k : Nat, k ≤ s.size ∧ i = .int .i64 k ∧ n = .int .i64 (digV (s.data.toList.take k)) ∧ Hid (∀ j (hj : j < s.data.toList.length), j < k → 48 ≤ s.data.toList[j].toNat ∧ s.data.toList[j].toNat ≤ 57)) (fun _ i => s.size - (intOf i).toNat)
      case atStart => exact ⟨0, Nat.zero_le _, rfl, rfl, fun j h1 h2 => by omega⟩
      case round =>
        obtain ⟨k, hk, rfl, rfl, HA⟩ := hrel
        have hv := digV_lt10 s.data.toList k (by rw [len_list]; exact hk) (by omega) (fun j h1 h2 => (HA.out j h1 h2).2)
        by_cases hlt : k < s.size
        · have hll : k < s.data.toList.length := by rw [len_list]; exact hlt
          have HG : Hid (s.data.toList[k] = s[k]) := get_list s k hlt hll
          have HV : Hid (digV (s.data.toList.take (k + 1)) = 10 * digV (s.data.toList.take k) + (s.data.toList[k].toNat - 48)) := digV_take _ _ hll
          obtain ⟨V, hV⟩ : ∃ V, digV (s.data.toList.take k) = V := ⟨_, rfl⟩
          rw [hV] at hv HV ⊢
          by_cases hlo : s[k].toNat < 48
          · have g1 : (s[k].toNat : Int) < 48 := by omega
            clear hV
            have HN : Hid (numV s.data.toList = 0 ∧ numK s.data.toList = false) := num_not (by
              intro h
              have h1 := h.2.2.2.1
              rw [HDL.out] at h1
              have := h1 _ (List.getElem_mem hll)
              rw [HG.out] at this
              omega)
            go_wp2
            go_ret2
            exact ⟨by rw [HN.out.1, HN.out.2]; rfl, rfl⟩
          · have g1 : ¬ (s[k].toNat : Int) < 48 := by omega
            by_cases hhi : 57 < s[k].toNat
            · have g2 : (57 : Int) < (s[k].toNat : Int) := by omega
              clear hV
              have HN : Hid (numV s.data.toList = 0 ∧ numK s.data.toList = false) := num_not (by
                intro h
                have h1 := h.2.2.2.1
                rw [HDL.out] at h1
                have := h1 _ (List.getElem_mem hll)
                rw [HG.out] at this
                omega)
              go_wp2
              go_ret2
              exact ⟨by rw [HN.out.1, HN.out.2]; rfl, rfl⟩
            · have g2 : ¬ (57 : Int) < (s[k].toNat : Int) := by omega
              obtain ⟨c, hc⟩ : ∃ c, s[k].toNat = c := ⟨_, rfl⟩
              have HC : Hid (s.data.toList[k].toNat = c) := by show _ = _; rw [HG.out, hc]
              rw [hc] at hlo hhi
              clear hV g1 g2
              have g1 : ¬ (c : Int) < 48 := by omega
              have g2 : ¬ (57 : Int) < (c : Int) := by omega
              have g3 : IntKind.u8.wrap ((c : Int) - 48) = (c : Int) - 48 := by simp [IntKind.wrap, IntKind.signed, IntKind.bits]; omega
              go_wp2
              go_round
              case rel =>
                refine ⟨k + 1, by omega, by go_num, ?_, fun j h1 h2 => ?_⟩
                · rw [HV.out, HC.out]
                  go_num
                · by_cases e : j = k
                  · subst e; rw [HC.out]; omega
                  · exact HA.out j h1 (by omega)
              case measure => simp [intOf]; omega
        · obtain rfl : k = s.size := by omega
          have HTK : Hid (s.data.toList.take s.size = s.data.toList) := by show _ = _; rw [← len_list]; exact List.take_length
          rw [HTK.out] at hv ⊢
          obtain ⟨V, hV⟩ : ∃ V, digV s.data.toList = V := ⟨_, rfl⟩
          have HVV : Hid (digV s.data.toList = V) := hV
          rw [hV] at hv ⊢
          clear hV
          by_cases hm : V ≤ 1073741824
          · have g1 : ¬ (1073741824 : Int) < (V : Int) := by omega
            have HN : Hid (numV s.data.toList = (V : Int) ∧ numK s.data.toList = true) := by
              have hp : numP s.data.toList := by
                refine ⟨?_, ?_, ?_, ?_, ?_⟩
                · rw [HDL.out, len_list]; omega
                · rw [HDL.out, len_list]; omega
                · exact H48.out
                · intro c hc
                  rw [HDL.out] at hc
                  obtain ⟨j, hj, rfl⟩ := List.getElem_of_mem hc
                  exact HA.out j hj (by rw [← len_list]; exact hj)
                · rw [HDL.out, HVV.out]; exact hm
              have h := num_yes hp
              rw [HDL.out, HVV.out, len_list] at h
              show _ ∧ _
              rw [h.1, h.2, if_neg (by omega)]
              exact ⟨rfl, rfl⟩
            skip
            go_wp2
            go_ret2
            exact ⟨by rw [HN.out.1, HN.out.2]; rfl, rfl⟩
          · have g1 : (1073741824 : Int) < (V : Int) := by omega
            have HN : Hid (numV s.data.toList = 0 ∧ numK s.data.toList = false) := num_not (by
              intro h
              have h1 := h.2.2.2.2
              rw [HDL.out, HVV.out] at h1
              omega)
            go_wp2
            go_ret2
            exact ⟨by rw [HN.out.1, HN.out.2]; rfl, rfl⟩
  have gq48 : ((s[0].toNat : Int) == 48) = false := by simp; omega
  have H48 : Hid (¬ (((numD s.data.toList).getD 0 0).toNat = 48 ∧ s.data.toList ≠ [48])) := fun h => h48 (by rw [← HD0.out]; exact h.1)
  have hsz10 : s.size ≤ 10 := by omega
  go_wp2
  go_loop [5, 6] (fun n i => ∃ k : Nat, k ≤ s.size ∧ i = .int .i64 k ∧ n = .int .i64 (digV (s.data.toList.take k)) ∧ Hid (∀ j (hj : j < s.data.toList.length), j < k → 48 ≤ s.data.toList[j].toNat ∧ s.data.toList[j].toNat ≤ 57)) (fun _ i => s.size - (intOf i).toNat)
  case atStart => exact ⟨0, Nat.zero_le _, rfl, rfl, fun j h1 h2 => by omega⟩
  case round =>
    obtain ⟨k, hk, rfl, rfl, HA⟩ := hrel
    have hv := digV_lt10 s.data.toList k (by rw [len_list]; exact hk) (by omega) (fun j h1 h2 => (HA.out j h1 h2).2)
    by_cases hlt : k < s.size
    · have hll : k < s.data.toList.length := by rw [len_list]; exact hlt
      have HG : Hid (s.data.toList[k] = s[k]) := get_list s k hlt hll
      have HV : Hid (digV (s.data.toList.take (k + 1)) = 10 * digV (s.data.toList.take k) + (s.data.toList[k].toNat - 48)) := digV_take _ _ hll
      obtain ⟨V, hV⟩ : ∃ V, digV (s.data.toList.take k) = V := ⟨_, rfl⟩
      rw [hV] at hv HV ⊢
      by_cases hlo : s[k].toNat < 48
      · have g1 : (s[k].toNat : Int) < 48 := by omega
        clear hV
        have HN : Hid (numV s.data.toList = 0 ∧ numK s.data.toList = false) := num_not (by
          intro h
          have h1 := h.2.2.2.1
          rw [HDL.out] at h1
          have := h1 _ (List.getElem_mem hll)
          rw [HG.out] at this
          omega)
        go_wp2
        go_ret2
        exact ⟨by rw [HN.out.1, HN.out.2]; rfl, rfl⟩
      · have g1 : ¬ (s[k].toNat : Int) < 48 := by omega
        by_cases hhi : 57 < s[k].toNat
        · have g2 : (57 : Int) < (s[k].toNat : Int) := by omega
          clear hV
          have HN : Hid (numV s.data.toList = 0 ∧ numK s.data.toList = false) := num_not (by
            intro h
            have h1 := h.2.2.2.1
            rw [HDL.out] at h1
            have := h1 _ (List.getElem_mem hll)
            rw [HG.out] at this
            omega)
          go_wp2
          go_ret2
          exact ⟨by rw [HN.out.1, HN.out.2]; rfl, rfl⟩
        · have g2 : ¬ (57 : Int) < (s[k].toNat : Int) := by omega
          obtain ⟨c, hc⟩ : ∃ c, s[k].toNat = c := ⟨_, rfl⟩
          have HC : Hid (s.data.toList[k].toNat = c) := by show _ = _; rw [HG.out, hc]
          rw [hc] at hlo hhi
          clear hV g1 g2
          have g1 : ¬ (c : Int) < 48 := by omega
          have g2 : ¬ (57 : Int) < (c : Int) := by omega
          have g3 : IntKind.u8.wrap ((c : Int) - 48) = (c : Int) - 48 := by simp [IntKind.wrap, IntKind.signed, IntKind.bits]; omega
          go_wp2
          go_round
          case rel =>
            refine ⟨k + 1, by omega, by go_num, ?_, fun j h1 h2 => ?_⟩
            · rw [HV.out, HC.out]
              go_num
            · by_cases e : j = k
              · subst e; rw [HC.out]; omega
              · exact HA.out j h1 (by omega)
          case measure => simp [intOf]; omega
    · obtain rfl : k = s.size := by omega
      have HTK : Hid (s.data.toList.take s.size = s.data.toList) := by show _ = _; rw [← len_list]; exact List.take_length
      rw [HTK.out] at hv ⊢
      obtain ⟨V, hV⟩ : ∃ V, digV s.data.toList = V := ⟨_, rfl⟩
      have HVV : Hid (digV s.data.toList = V) := hV
      rw [hV] at hv ⊢
      clear hV
      by_cases hm : V ≤ 1073741824
      · have g1 : ¬ (1073741824 : Int) < (V : Int) := by omega
        have HN : Hid (numV s.data.toList = (V : Int) ∧ numK s.data.toList = true) := by
          have hp : numP s.data.toList := by
            refine ⟨?_, ?_, ?_, ?_, ?_⟩
            · rw [HDL.out, len_list]; omega
            · rw [HDL.out, len_list]; omega
            · exact H48.out
            · intro c hc
              rw [HDL.out] at hc
              obtain ⟨j, hj, rfl⟩ := List.getElem_of_mem hc
              exact HA.out j hj (by rw [← len_list]; exact hj)
            · rw [HDL.out, HVV.out]; exact hm
          have h := num_yes hp
          rw [HDL.out, HVV.out, len_list] at h
          show _ ∧ _
          rw [h.1, h.2, if_neg (by omega)]
          exact ⟨rfl, rfl⟩
        skip
        go_wp2
        go_ret2
        exact ⟨by rw [HN.out.1, HN.out.2]; rfl, rfl⟩
      · have g1 : (1073741824 : Int) < (V : Int) := by omega
        have HN : Hid (numV s.data.toList = 0 ∧ numK s.data.toList = false) := num_not (by
          intro h
          have h1 := h.2.2.2.2
          rw [HDL.out, HVV.out] at h1
          omega)
        go_wp2
        go_ret2
        exact ⟨by rw [HN.out.1, HN.out.2]; rfl, rfl⟩
/-- What a slice of n elements holds, cell by cell. -/
def Holds (w : World) (v : Value) (n : Nat) (xs : List Value) : Prop :=
  ∃ a c, v = .slice a n c ∧ ∀ j u, xs[j]? = some u → ∃ b off, a = some ⟨b, off, none⟩ ∧ w.cell? ⟨b, off + j, none⟩ = some u
theorem Holds.later {w w' : World} {v : Value} {n : Nat} {xs : List Value} (h : Holds w v n xs) (hb : Below w.heap.size w w') : Holds w' v n xs := by
  obtain ⟨a, c, rfl, hc⟩ := h
  refine ⟨a, c, rfl, fun j u hu => ?_⟩
  obtain ⟨b, off, ha, hx⟩ := hc j u hu
  exact ⟨b, off, ha, cell_later hb hx⟩
theorem ownsR_later {B : Nat} {e : TypeId} {k : Nat} {v : Value} {n : Nat} {xs : List Value} {w w' : World} (h : w.ownsRow B e k v n xs) (hb : Below w.heap.size w w') : w'.ownsRow B e k v n xs := by
  refine ⟨h.1, ?_⟩
  rcases h.2 with h0 | ⟨g, cap, cur, rfl, h1, hh, h2⟩
  · exact Or.inl h0
  · exact Or.inr ⟨g, cap, cur, rfl, h1, (hb.block g (Array.getElem?_eq_some_iff.1 hh).1).trans hh, h2⟩
theorem addr_addW (b off j : Nat) : (⟨b, off, none⟩ : Addr).add j = ⟨b, off + j, none⟩ := by
  by_cases h0 : j = 0
  · subst h0; simp [Addr.add]
  · simp [Addr.add, h0]
theorem Holds.own {B : Nat} {e : TypeId} {k : Nat} {v : Value} {n : Nat} {xs : List Value} {w : World} (h : w.ownsRow B e k v n xs) : Holds w v n xs := by
  rcases h.2 with ⟨rfl, rfl⟩ | ⟨g, cap, cur, rfl, _⟩
  · have hx : xs = [] := List.eq_nil_of_length_eq_zero (by simpa using h.1)
    subst hx
    exact ⟨none, 0, rfl, fun j u hu => by simp at hu⟩
  · refine ⟨_, _, rfl, fun j u hu => ⟨g, 0, rfl, ?_⟩⟩
    have := h.cells (g := g) rfl j u hu
    rw [addr_addW] at this
    exact this
/-- A row of cells with as many of room. -/
def HoldsC (w : World) (v : Value) (n : Nat) (xs : List Value) : Prop :=
  ∃ a c, v = .slice a n c ∧ n ≤ c ∧ ∀ j u, xs[j]? = some u → ∃ b off, a = some ⟨b, off, none⟩ ∧ w.cell? ⟨b, off + j, none⟩ = some u
theorem HoldsC.own {B : Nat} {e : TypeId} {k : Nat} {v : Value} {n : Nat} {xs : List Value} {w : World} (h : w.ownsRow B e k v n xs) : HoldsC w v n xs := by
  obtain ⟨a, c, e1, hc⟩ := Holds.own h
  refine ⟨a, c, e1, ?_, hc⟩
  rcases h.2 with ⟨rfl, rfl⟩ | ⟨g, cap, cur, rfl, _, _, hle, _⟩
  · exact Nat.zero_le _
  · simp only [Value.slice.injEq] at e1
    obtain ⟨_, _, rfl⟩ := e1
    exact hle
theorem HoldsC.nil (w : World) : HoldsC w (.slice none 0 0) 0 [] := ⟨none, 0, rfl, Nat.le_refl _, fun j u hu => by simp at hu⟩
theorem Holds.nil (w : World) : Holds w (.slice none 0 0) 0 [] := ⟨none, 0, rfl, fun j u hu => by simp at hu⟩
/-- A word: its text, its place. -/
abbrev Tok := ByteArray × Nat
def cellsT : List Tok → List Value
  | [] => []
  | t :: r => .string t.1 :: .int .i64 t.2 :: cellsT r
theorem cellsT_snoc (l : List Tok) (t : Tok) : cellsT (l ++ [t]) = cellsT l ++ [.string t.1, .int .i64 t.2] := by
  induction l with
  | nil => rfl
  | cons a r ih => simp [cellsT, ih]
/-- Is this rune bad in a line? -/
def badR (r k : Nat) : Bool := (decide (r = 65533) && decide (k ≤ 1)) || (!letR r && !digR r && decide (r ≠ 45) && decide (r ≠ 61) && decide (r ≠ 32) && decide (r ≠ 9))
/-- The first bad place from p on. -/
def badN (s : ByteArray) : Nat → Nat → Option Nat
  | 0, _ => none
  | f + 1, p => if p < s.size then (if badR (Utf8.decode s p).1 (Utf8.decode s p).2 then some p else badN s f (p + (Utf8.decode s p).2)) else none
def badW (s : ByteArray) : Option Nat := badN s (s.size + 1) 0
/-- The byte at a place; behind the end: a blank. -/
def byteE (s : ByteArray) (i : Nat) : Nat := if h : i < s.size then (s[i]'h).toNat else 32
def endB (s : ByteArray) (i : Nat) : Bool := decide (byteE s i = 32) || decide (byteE s i = 9) || decide (byteE s i = 61)
def endT (s : ByteArray) (i : Nat) (st : Option Nat × List Tok) : List Tok := match st.1 with
  | some f => st.2 ++ [(s.extract f i, f)]
  | none => st.2
def tokStep (s : ByteArray) (i : Nat) (st : Option Nat × List Tok) : Option Nat × List Tok :=
  if endB s i then (none, if byteE s i = 61 then endT s i st ++ [(⟨#[61]⟩, i)] else endT s i st)
  else (match st.1 with | some f => some f | none => some i, st.2)
def tokSt (s : ByteArray) : Nat → Option Nat × List Tok
  | 0 => (none, [])
  | k + 1 => tokStep s k (tokSt s k)
/-- A line's words. -/
def toksW (s : ByteArray) : List Tok := (tokSt s (s.size + 1)).2
theorem tokSt_len (s : ByteArray) : ∀ k, (tokSt s k).2.length ≤ 2 * k
  | 0 => by simp [tokSt]
  | k + 1 => by
    have ih := tokSt_len s k
    rw [tokSt, tokStep]
    have h1 : (endT s k (tokSt s k)).length ≤ (tokSt s k).2.length + 1 := by
      rw [endT]; split <;> simp
    split
    · split
      · simp only [List.length_append, List.length_cons, List.length_nil]; omega
      · simp only; omega
    · simp only; omega
theorem byteE_lt {s : ByteArray} {i : Nat} (h : i < s.size) : byteE s i = (s[i]'h).toNat := by rw [byteE, dif_pos h]
theorem byteE_end (s : ByteArray) : byteE s s.size = 32 := by rw [byteE, dif_neg (Nat.lt_irrefl _)]
theorem step_end {s : ByteArray} {i : Nat} {st : Option Nat × List Tok} (h : byteE s i = 32 ∨ byteE s i = 9) : tokStep s i st = (none, endT s i st) := by
  rw [tokStep, if_pos (by rw [endB]; rcases h with h | h <;> simp [h]), if_neg (by omega)]
theorem step_eq {s : ByteArray} {i : Nat} {st : Option Nat × List Tok} (h : byteE s i = 61) : tokStep s i st = (none, endT s i st ++ [(⟨#[61]⟩, i)]) := by
  rw [tokStep, if_pos (by rw [endB]; simp [h]), if_pos h]
theorem step_in {s : ByteArray} {i : Nat} {st : Option Nat × List Tok} (h : ¬ byteE s i = 32) (h2 : ¬ byteE s i = 9) (h3 : ¬ byteE s i = 61) : tokStep s i st = (match st.1 with | some f => some f | none => some i, st.2) := by
  rw [tokStep, if_neg (by rw [endB]; simp [h, h2, h3])]
theorem infoK' : (Tryz.prog.info? 106).map (fun i => (i.zero, i.size, i.bytes)) = some (some (.agg #[.string ⟨#[]⟩, .int .i64 0]), 2, 24) := by kernel_rfl
theorem infoK : ∃ i, Tryz.prog.info? 106 = some i ∧ i.zero = some (.agg #[.string ⟨#[]⟩, .int .i64 0]) ∧ i.size = 2 ∧ i.bytes = 24 := by
  have h := infoK'
  cases e : Tryz.prog.info? 106 with
  | none => rw [e] at h; simp at h
  | some i => rw [e] at h; simp at h; exact ⟨i, rfl, h⟩
theorem infoS' : (Tryz.prog.info? 9).map (fun i => (i.zero, i.size, i.bytes)) = some (some (.string ⟨#[]⟩), 1, 16) := by kernel_rfl
theorem infoS : ∃ i, Tryz.prog.info? 9 = some i ∧ i.zero = some (.string ⟨#[]⟩) ∧ i.size = 1 ∧ i.bytes = 16 := by
  have h := infoS'
  cases e : Tryz.prog.info? 9 with
  | none => rw [e] at h; simp at h
  | some i => rw [e] at h; simp at h; exact ⟨i, rfl, h⟩
theorem tw_yes {α : Type} (p : α → Bool) : ∀ (l : List α) (m : Nat) (h : m < l.length), m ≤ (l.takeWhile p).length → p l[m] = true → m + 1 ≤ (l.takeWhile p).length
  | a :: r, 0, _, _, h2 => by
    have : p a = true := h2
    simp [List.takeWhile_cons, this]
  | a :: r, m + 1, h, h1, h2 => by
    by_cases e : p a = true
    · rw [List.takeWhile_cons, if_pos e, List.length_cons] at h1 ⊢
      have := tw_yes p r m (by simpa using h) (by omega) (by simpa using h2)
      omega
    · rw [List.takeWhile_cons, if_neg e] at h1
      simp at h1
theorem tw_no {α : Type} (p : α → Bool) : ∀ (l : List α) (m : Nat) (h : m < l.length), m ≤ (l.takeWhile p).length → ¬ p l[m] = true → (l.takeWhile p).length = m
  | a :: r, 0, _, _, h2 => by
    have : ¬ p a = true := h2
    simp [List.takeWhile_cons, this]
  | a :: r, m + 1, h, h1, h2 => by
    by_cases e : p a = true
    · rw [List.takeWhile_cons, if_pos e, List.length_cons] at h1 ⊢
      have := tw_no p r m (by simpa using h) (by omega) (by simpa using h2)
      omega
    · rw [List.takeWhile_cons, if_neg e] at h1
      simp at h1
theorem tw_le {α : Type} (p : α → Bool) (l : List α) : (l.takeWhile p).length ≤ l.length := (List.takeWhile_sublist p).length_le
/-- Where a line's # is, or its end. -/
def cutN (x : ByteArray) : Nat := (x.data.toList.takeWhile (fun c => decide (c.toNat ≠ 35))).length
def cutH (x : ByteArray) : ByteArray := x.extract 0 (cutN x)
theorem cutN_le (x : ByteArray) : cutN x ≤ x.size := by
  have := tw_le (fun c : UInt8 => decide (c.toNat ≠ 35)) x.data.toList
  rw [len_list] at this
  exact this
theorem cutH_size (x : ByteArray) : (cutH x).size = cutN x := by
  have := cutN_le x
  rw [cutH, ByteArray.size_extract]; omega
theorem cutN_hit {x : ByteArray} {m : Nat} (h : m < x.size) (h1 : m ≤ cutN x) (h2 : (x[m]'h).toNat = 35) : cutN x = m :=
  tw_no _ _ m (by rw [len_list]; exact h) h1 (by rw [get_list x m h]; simp [h2])
theorem cutN_not {x : ByteArray} {m : Nat} (h : m < x.size) (h1 : m ≤ cutN x) (h2 : ¬ (x[m]'h).toNat = 35) : m + 1 ≤ cutN x :=
  tw_yes _ _ m (by rw [len_list]; exact h) h1 (by rw [get_list x m h]; simp [h2])
theorem cutH_all {x : ByteArray} (h : x.size ≤ cutN x) : cutH x = x := by
  have h2 : cutN x = x.size := by have := cutN_le x; omega
  rw [cutH, h2]; simp
def linStep (s : ByteArray) (k : Nat) (st : Nat × List ByteArray) : Nat × List ByteArray :=
  if k < s.size ∧ byteE s k ≠ 10 then st
  else if k = s.size ∧ (cutH (s.extract st.1 k)).size = 0 then st
  else (k + 1, st.2 ++ [cutH (s.extract st.1 k)])
def linSt (s : ByteArray) : Nat → Nat × List ByteArray
  | 0 => (0, [])
  | k + 1 => linStep s k (linSt s k)
/-- A text's lines. -/
def linesL (s : ByteArray) : List ByteArray := (linSt s (s.size + 1)).2
theorem linSt_len (s : ByteArray) : ∀ k, (linSt s k).2.length ≤ k
  | 0 => by simp [linSt]
  | k + 1 => by
    have ih := linSt_len s k
    rw [linSt, linStep]
    split
    · omega
    · split
      · omega
      · simp; omega
def cellsS (l : List ByteArray) : List Value := l.map .string
theorem cellsS_snoc (l : List ByteArray) (t : ByteArray) : cellsS (l ++ [t]) = cellsS l ++ [.string t] := by simp [cellsS]
theorem cellsS_len (l : List ByteArray) : (cellsS l).length = l.length := by simp [cellsS]
theorem cellsS_at (l : List ByteArray) (i : Nat) (h : i < l.length) : (cellsS l)[i]? = some (.string l[i]) := by simp [cellsS, h]
theorem get_in (s : ByteArray) (i : Nat) (h : i < s.size) : s.get! i = s[i] := by
  show s.data[i]! = s.data[i]
  rw [getElem!_pos]
theorem dec_low {s : ByteArray} {p r k : Nat} (h : p < s.size) (hr : Utf8.decode s p = (r, k)) (hl : r < 128) : k = 1 ∧ (s[p]'h).toNat = r := by
  by_cases ha : (s[p]'h).toNat < 128
  · rw [decode_ascii s p h ha] at hr
    have h1 := congrArg Prod.fst hr
    have h2 := congrArg Prod.snd hr
    simp only at h1 h2
    omega
  · have := (decode_high s p h (by omega)).1
    rw [hr] at this
    simp only at this
    omega
theorem dec_high {s : ByteArray} {p r k : Nat} (h : p < s.size) (hr : Utf8.decode s p = (r, k)) (hl : 128 ≤ r) : 128 ≤ (s[p]'h).toNat := by
  apply Nat.le_of_not_lt
  intro ha
  rw [decode_ascii s p h ha] at hr
  have h1 := congrArg Prod.fst hr
  simp only at h1
  omega
theorem dec_conts {s : ByteArray} {p r k : Nat} (h : p < s.size) (hr : Utf8.decode s p = (r, k)) (hl : 128 ≤ r) (j : Nat) (hj : j < k) : p + j < s.size ∧ 128 ≤ byteE s (p + j) := by
  have h0 := dec_high h hr hl
  have hc := Lib.decodeN_conts (s.size - p) (s.get! p).toNat (s.get! (p + 1)).toNat (s.get! (p + 2)).toNat (s.get! (p + 3)).toNat
  rw [← Lib.decode_at, hr] at hc
  simp only at hc
  obtain ⟨c2, c3, c4, c5⟩ := hc
  have key : ∀ i, (s.get! (p + i)).toNat / 64 = 2 ∧ i < s.size - p → p + i < s.size ∧ 128 ≤ byteE s (p + i) := by
    intro i hi
    have hlt : p + i < s.size := by omega
    refine ⟨hlt, ?_⟩
    rw [byteE_lt hlt, ← get_in s (p + i) hlt]
    omega
  match j, hj with
  | 0, _ => exact ⟨h, by rw [Nat.add_zero, byteE_lt h]; exact h0⟩
  | 1, hj => exact key 1 (c2 (by omega))
  | 2, hj => exact key 2 (c3 (by omega))
  | 3, hj => exact key 3 (c4 (by omega))
  | j + 4, hj => omega

/- Words. -/
/-- What 'put' makes of the words so far. -/
def putL (l : List Tok) (s : ByteArray) (a b : Nat) : List Tok := if a = b then l else l ++ [(s.extract a b, a)]
/-- Where the walk by runes stands, said of the walk by bytes. -/
def WordI (s : ByteArray) (p a : Nat) (l : List Tok) : Prop := (tokSt s p).2 = l ∧ (((tokSt s p).1 = some a ∧ a < p) ∨ ((tokSt s p).1 = none ∧ a = p))
theorem WordI.le {s : ByteArray} {p a : Nat} {l : List Tok} (h : WordI s p a l) : a ≤ p := by rcases h.2 with h | h <;> omega
theorem WordI.start (s : ByteArray) : WordI s 0 0 [] := ⟨rfl, Or.inr ⟨rfl, rfl⟩⟩
theorem WordI.fin {s : ByteArray} {p a : Nat} {l : List Tok} (h : WordI s p a l) : endT s p (tokSt s p) = putL l s a p := by
  rw [endT, putL]
  rcases h.2 with ⟨h1, h2⟩ | ⟨h1, h2⟩
  · rw [h1, h.1, if_neg (by omega)]
  · rw [h1, h.1, if_pos h2]
theorem WordI.in1 {s : ByteArray} {p a : Nat} {l : List Tok} (h : WordI s p a l) (h1 : ¬ byteE s p = 32) (h2 : ¬ byteE s p = 9) (h3 : ¬ byteE s p = 61) : WordI s (p + 1) a l := by
  have e : tokSt s (p + 1) = tokStep s p (tokSt s p) := rfl
  rw [step_in h1 h2 h3] at e
  refine ⟨by rw [e]; exact h.1, Or.inl ?_⟩
  rw [e]
  rcases h.2 with ⟨g1, g2⟩ | ⟨g1, g2⟩
  · rw [g1]; exact ⟨rfl, by omega⟩
  · rw [g1]; exact ⟨by rw [g2], by omega⟩
theorem WordI.many {s : ByteArray} {a : Nat} {l : List Tok} : ∀ {k p : Nat}, WordI s p a l → (∀ j, j < k → 128 ≤ byteE s (p + j)) → WordI s (p + k) a l
  | 0, p, h, _ => h
  | k + 1, p, h, hk => by
    have h0 := hk 0 (by omega)
    rw [Nat.add_zero] at h0
    have := WordI.many (k := k) (h.in1 (by omega) (by omega) (by omega)) (fun j hj => by have := hk (j + 1) (by omega); rw [Nat.add_assoc, Nat.add_comm 1 j]; exact this)
    rw [show p + (k + 1) = p + 1 + k by omega]
    exact this
/-- A rune that ends no word. -/
theorem WordI.rune {s : ByteArray} {p a r k : Nat} {l : List Tok} (h : WordI s p a l) (hp : p < s.size) (hr : Utf8.decode s p = (r, k)) (h1 : ¬ r = 32) (h2 : ¬ r = 9) (h3 : ¬ r = 61) : WordI s (p + k) a l := by
  by_cases hl : r < 128
  · obtain ⟨rfl, hb⟩ := dec_low hp hr hl
    exact h.in1 (by rw [byteE_lt hp]; omega) (by rw [byteE_lt hp]; omega) (by rw [byteE_lt hp]; omega)
  · exact h.many (fun j hj => (dec_conts hp hr (by omega) j hj).2)
theorem WordI.gap {s : ByteArray} {p a r k : Nat} {l : List Tok} (h : WordI s p a l) (hp : p < s.size) (hr : Utf8.decode s p = (r, k)) (h1 : r = 32 ∨ r = 9) : k = 1 ∧ WordI s (p + 1) (p + 1) (putL l s a p) := by
  obtain ⟨rfl, hb⟩ := dec_low hp hr (by omega)
  have e : tokSt s (p + 1) = (none, endT s p (tokSt s p)) := by rw [tokSt, step_end (by rw [byteE_lt hp]; omega)]
  exact ⟨rfl, by rw [e, h.fin], Or.inr ⟨by rw [e], rfl⟩⟩
theorem one_61 {s : ByteArray} {p : Nat} (hp : p < s.size) (hb : (s[p]'hp).toNat = 61) : s.extract p (p + 1) = ⟨#[61]⟩ := by
  apply ByteArray.ext
  rw [ByteArray.data_extract]
  have h0 : p < s.data.size := hp
  have e : s.data[p] = 61 := by
    have : s.data[p].toNat = 61 := hb
    exact UInt8.toNat_inj.1 this
  apply Array.ext
  · simp; omega
  · intro i h1 h2
    simp at h1 h2 ⊢
    have : i = 0 := by omega
    subst this
    simpa using e
theorem WordI.eq {s : ByteArray} {p a r k : Nat} {l : List Tok} (h : WordI s p a l) (hp : p < s.size) (hr : Utf8.decode s p = (r, k)) (h1 : r = 61) : k = 1 ∧ WordI s (p + 1) (p + 1) (putL (putL l s a p) s p (p + 1)) := by
  obtain ⟨rfl, hb⟩ := dec_low hp hr (by omega)
  have e : tokSt s (p + 1) = (none, endT s p (tokSt s p) ++ [(⟨#[61]⟩, p)]) := by rw [tokSt, step_eq (by rw [byteE_lt hp]; omega)]
  refine ⟨rfl, ?_, Or.inr ⟨by rw [e], rfl⟩⟩
  rw [e, h.fin]
  generalize putL l s a p = m
  rw [putL, if_neg (by omega), one_61 hp (by omega)]
theorem WordI.last {s : ByteArray} {a : Nat} {l : List Tok} (h : WordI s s.size a l) : putL l s a s.size = toksW s := by
  rw [toksW, tokSt, step_end (Or.inl (byteE_end s)), ← h.fin]
theorem putL_len (l : List Tok) (s : ByteArray) (a b : Nat) : (putL l s a b).length ≤ l.length + 1 := by
  rw [putL]; split <;> simp
theorem badR_not {r k : Nat} (h : letR r = true ∨ digR r = true ∨ r = 45 ∨ r = 61 ∨ r = 32 ∨ r = 9) : badR r k = false := by
  have hn : ¬ r = 65533 := by
    rintro rfl
    rcases h with h | h | h | h | h | h
    · simp [letR] at h
    · simp [digR] at h
    all_goals omega
  rw [badR]
  rcases h with h | h | h | h | h | h <;> simp [h] <;> omega
theorem badR_yes {r k : Nat} (h1 : letR r = false) (h2 : digR r = false) (h3 : ¬ r = 45) (h4 : ¬ r = 61) (h5 : ¬ r = 32) (h6 : ¬ r = 9) : badR r k = true := by
  simp [badR, h1, h2, h3, h4, h5, h6]
theorem clone_to (s : ByteArray) (w : World) (hs : s.size ≤ 281474976710656) :
    Calls Tryz.prog 49 #[.string s] w fun e w' => e = .returned (.string s) ∧ Below w.heap.size w w' := by
  go_enter Tryz.func49, Tryz.ntmps49
  go_wp2_with (go_at_call 72; refine (Tryz.stringslite_Clone s _ hs).mono ?_; rintro e w1 ⟨rfl, hb1⟩)
  go_ret
  exact ⟨rfl, hb1⟩
theorem trim_neg {s : ByteArray} (h : 0 < s.size) (h45 : (s[0]'h).toNat = 45) : Lib.hasPrefix s.data.toList [45] = true ∧ (⟨(Lib.trimPrefix s.data.toList [45]).toArray⟩ : ByteArray) = s.extract 1 s.size := by
  have e : Lib.hasPrefix s.data.toList [45] = true := by
    obtain ⟨⟨l⟩⟩ := s
    cases l with
    | nil => simp [ByteArray.size] at h
    | cons c r =>
      have h1 : c.toNat = 45 := by simpa [ByteArray.getElem_eq_getElem_data] using h45
      have h2 : c = 45 := UInt8.toNat_inj.1 h1
      simp [Lib.hasPrefix, h2]
  refine ⟨e, ?_⟩
  apply ByteArray.ext
  have h2 := Lib.extract_data s 1 s.size
  apply Array.toList_inj.1
  rw [h2, Lib.trimPrefix, if_pos e]
  simp only [List.length_cons, List.length_nil, List.drop_one, Nat.zero_add]
  rw [List.take_of_length_le]
  rw [List.length_tail, len_list]
  exact Nat.le_refl _
theorem trim_plain {s : ByteArray} (h : s.size = 0 ∨ ∃ h : 0 < s.size, ¬ (s[0]'h).toNat = 45) : Lib.hasPrefix s.data.toList [45] = false ∧ (⟨(Lib.trimPrefix s.data.toList [45]).toArray⟩ : ByteArray) = s := by
  have e : Lib.hasPrefix s.data.toList [45] = false := by
    obtain ⟨⟨l⟩⟩ := s
    cases l with
    | nil => rfl
    | cons c r =>
      rcases h with h | ⟨h, h45⟩
      · simp [ByteArray.size] at h
      · have h1 : ¬ c.toNat = 45 := by simpa [ByteArray.getElem_eq_getElem_data] using h45
        have h2 : ¬ (45 : UInt8) = c := fun e => h1 (by rw [← e]; rfl)
        show (decide ((45 : UInt8) = c) && _) = false
        rw [decide_eq_false h2]
        rfl
  refine ⟨e, ?_⟩
  rw [Lib.trimPrefix, e]
  simp
/-- The digits, as a text; is there a sign ahead? -/
def digB (s : ByteArray) : ByteArray := if h : 0 < s.size then (if (s[0]'h).toNat = 45 then s.extract 1 s.size else s) else s
def negB (s : ByteArray) : Bool := if h : 0 < s.size then decide ((s[0]'h).toNat = 45) else false
theorem trim_all (s : ByteArray) : (⟨(Lib.trimPrefix s.data.toList [45]).toArray⟩ : ByteArray) = digB s ∧ Lib.hasPrefix s.data.toList [45] = negB s := by
  by_cases h : 0 < s.size
  · by_cases h45 : (s[0]'h).toNat = 45
    · have := trim_neg h h45
      rw [digB, negB, dif_pos h, dif_pos h, if_pos h45, decide_eq_true h45]
      exact ⟨this.2, this.1⟩
    · have := trim_plain (Or.inr ⟨h, h45⟩)
      rw [digB, negB, dif_pos h, dif_pos h, if_neg h45, decide_eq_false h45]
      exact ⟨this.2, this.1⟩
  · have := trim_plain (s := s) (Or.inl (by omega))
    rw [digB, negB, dif_neg h, dif_neg h]
    exact ⟨this.2, this.1⟩
theorem digB_numD (s : ByteArray) : (digB s).data.toList = numD s.data.toList := by
  by_cases h : 0 < s.size
  · by_cases h45 : (s[0]'h).toNat = 45
    · rw [digB, dif_pos h, if_pos h45, numD_neg h h45]
    · rw [digB, dif_pos h, if_neg h45, numD_plain h h45]
  · rw [digB, dif_neg h]
    obtain ⟨⟨l⟩⟩ := s
    cases l with
    | nil => rfl
    | cons c r => simp [ByteArray.size] at h
theorem digB_len (s : ByteArray) : (digB s).size = s.size - (if negB s then 1 else 0) := by
  by_cases h : 0 < s.size
  · by_cases h45 : (s[0]'h).toNat = 45
    · rw [digB, negB, dif_pos h, dif_pos h, if_pos h45, decide_eq_true h45, ByteArray.size_extract]; simp
    · rw [digB, negB, dif_pos h, dif_pos h, if_neg h45, decide_eq_false h45]; simp
  · rw [digB, negB, dif_neg h, dif_neg h]; simp
theorem negB_lt {s : ByteArray} (h : negB s = true) : 0 < s.size := by
  rw [negB] at h
  split at h
  · assumption
  · cases h
/- What stands in the way of a number. -/
theorem digV_mono (l : List UInt8) : ∀ (d k : Nat), k + d ≤ l.length → digV (l.take k) ≤ digV (l.take (k + d))
  | 0, k, _ => Nat.le_refl _
  | d + 1, k, h => by
    have h1 := digV_mono l d k (by omega)
    have h2 := digV_take l (k + d) (by omega)
    rw [← Nat.add_assoc, h2]
    omega
theorem digV_all (l : List UInt8) (k : Nat) (h : k ≤ l.length) : digV (l.take k) ≤ digV l := by
  have := digV_mono l (l.length - k) k (by omega)
  rw [show k + (l.length - k) = l.length by omega, List.take_length] at this
  exact this
theorem digV_pow (l : List UInt8) (h0 : ∀ h : 0 < l.length, 49 ≤ (l[0]).toNat) : ∀ k, k < l.length → 10 ^ k ≤ digV (l.take (k + 1))
  | 0, h => by
    rw [digV_take l 0 h]
    have := h0 h
    omega
  | k + 1, h => by
    have ih := digV_pow l h0 k (by omega)
    rw [digV_take l (k + 1) h, Nat.pow_succ]
    omega
theorem numP_not_rune {s : ByteArray} {i : Nat} (hi : i < (digB s).size) (h : ¬ (48 ≤ ((digB s)[i]'hi).toNat ∧ ((digB s)[i]'hi).toNat ≤ 57)) : ¬ numP s.data.toList := by
  intro hp
  have h1 := hp.2.2.2.1 ((digB s)[i]'hi) (by
    rw [← digB_numD, ← get_list (digB s) i hi (by rw [len_list]; exact hi)]
    exact List.getElem_mem _)
  exact h h1
theorem numP_not_zero {s : ByteArray} (h0 : 0 < (digB s).size) (h48 : ((digB s)[0]'h0).toNat = 48) (h : 1 < (digB s).size ∨ negB s = true) : ¬ numP s.data.toList := by
  intro hp
  refine hp.2.2.1 ⟨?_, ?_⟩
  · rw [← digB_numD, List.getD_eq_getElem?_getD, List.getElem?_eq_getElem (by rw [len_list]; exact h0), Option.getD_some, get_list (digB s) 0 h0]
    exact h48
  · intro e
    have h1 : s.size = 1 := by rw [← len_list, e]; rfl
    have h2 := digB_len s
    rcases h with h | h
    · split at h2 <;> omega
    · rw [h] at h2; simp at h2; omega
theorem numP_not_many {s : ByteArray} {k : Nat} (h : k ≤ (digB s).size) (hv : 1073741824 < digV ((digB s).data.toList.take k)) : ¬ numP s.data.toList := by
  intro hp
  have h1 := hp.2.2.2.2
  rw [← digB_numD] at h1
  have := digV_all (digB s).data.toList k (by rw [len_list]; exact h)
  omega
theorem numP_not_none {s : ByteArray} (h : (digB s).size = 0) : ¬ numP s.data.toList := by
  intro hp
  have h1 := hp.1
  rw [← digB_numD, len_list] at h1
  omega
theorem only_48 {b s : ByteArray} (h1 : 0 < b.size) (g3 : b.size = 1) (g1 : (b[0]'h1).toNat = 48) (g6 : b = s) : s.data.toList = [48] := by
  subst g6
  obtain ⟨⟨l⟩⟩ := b
  match l, h1, g3, g1 with
  | [c], h1, _, g1 =>
    have : c.toNat = 48 := by simpa [ByteArray.getElem_eq_getElem_data] using g1
    have : c = 48 := UInt8.toNat_inj.1 this
    rw [this]
  | [], h1, g3, _ => simp [ByteArray.size] at g3
  | a :: b :: r, h1, g3, _ => simp [ByteArray.size] at g3
/-- All went well. -/
theorem num_well {s : ByteArray} (h1 : 0 < (digB s).size) (h2 : ∀ j (hj : j < (digB s).size), 48 ≤ ((digB s)[j]'hj).toNat ∧ ((digB s)[j]'hj).toNat ≤ 57) (h3 : ((digB s)[0]'h1).toNat = 48 → (digB s).size = 1 ∧ negB s = false) (h4 : digV (digB s).data.toList ≤ 1073741824) :
    numK s.data.toList = true ∧ numV s.data.toList = if negB s then -(digV (digB s).data.toList : Int) else digV (digB s).data.toList := by
  have hl : (numD s.data.toList).length = (digB s).size := by rw [← digB_numD, len_list]
  have hp : numP s.data.toList := by
    refine ⟨by omega, ?_, ?_, ?_, by rw [← digB_numD]; exact h4⟩
    · rw [hl]
      apply Nat.le_of_not_lt
      intro hlt
      have h5 := digV_pow (digB s).data.toList (fun h => by
        rw [get_list (digB s) 0 h1]
        have := (h2 0 h1).1
        by_cases e : ((digB s)[0]'h1).toNat = 48
        · have := (h3 e).1; omega
        · omega) 10 (by rw [len_list]; exact hlt)
      have h6 := digV_all (digB s).data.toList (10 + 1) (by rw [len_list]; omega)
      omega
    · rintro ⟨g1, g2⟩
      apply g2
      rw [← digB_numD, List.getD_eq_getElem?_getD, List.getElem?_eq_getElem (by rw [len_list]; exact h1), Option.getD_some, get_list (digB s) 0 h1] at g1
      obtain ⟨g3, g4⟩ := h3 g1
      have g5 := digB_len s
      rw [g4] at g5
      have g6 : digB s = s := by
        rw [digB]
        split
        · rename_i hz
          rw [if_neg]
          intro g7
          rw [negB, dif_pos hz, decide_eq_true g7] at g4
          cases g4
        · rfl
      exact only_48 h1 g3 g1 g6
    · intro c hc
      rw [← digB_numD] at hc
      obtain ⟨j, hj, rfl⟩ := List.getElem_of_mem hc
      rw [get_list (digB s) j (by rw [len_list] at hj; exact hj)]
      exact h2 j _
  obtain ⟨e1, e2⟩ := num_yes hp
  refine ⟨e2, ?_⟩
  rw [e1, hl, digB_numD, len_list]
  have h5 := digB_len s
  cases hn : negB s with
  | true =>
    have h6 := negB_lt hn
    rw [hn, if_pos rfl] at h5
    rw [if_pos (by omega)]
    rfl
  | false =>
    rw [hn, if_neg (by decide)] at h5
    rw [if_neg (by omega)]
    rfl
theorem cutp_to (s : ByteArray) (w : World) :
    Calls Tryz.prog 112 #[.string s, .string ⟨#[45]⟩] w fun e w' => e = .returned (.tuple #[.string (digB s), .bool (negB s)]) ∧ w' = w := by
  have h := Tryz.strings_CutPrefix s ⟨#[45]⟩ w
  have h1 := trim_all s
  rw [show (⟨#[45]⟩ : ByteArray).data.toList = [45] from rfl, h1.1, h1.2] at h
  exact h
theorem digit_at {D : ByteArray} {p r k : Nat} (h : p < D.size) (hr : Utf8.decode D p = (r, k)) (hd : digR r = false) : ¬ (48 ≤ (D[p]'h).toNat ∧ (D[p]'h).toNat ≤ 57) := by
  intro hc
  rw [decode_ascii D p h (by omega)] at hr
  have h1 := congrArg Prod.fst hr
  simp only at h1
  rw [← h1] at hd
  simp [digR] at hd
  omega
theorem digV_first (D : ByteArray) (h0 : 0 < D.size) (p : Nat) (hp : 1 ≤ p) (hps : p ≤ D.size) : (D[0]'h0).toNat - 48 ≤ digV (D.data.toList.take p) := by
  have h1 := digV_mono D.data.toList (p - 1) 1 (by rw [len_list]; omega)
  rw [show 1 + (p - 1) = p by omega] at h1
  have h2 := digV_take D.data.toList 0 (by rw [len_list]; exact h0)
  rw [get_list D 0 h0] at h2
  simp only [Nat.zero_add] at h2
  omega
theorem digV_one (D : ByteArray) (h0 : 0 < D.size) : digV (D.data.toList.take 1) = (D[0]'h0).toNat - 48 := by
  have h2 := digV_take D.data.toList 0 (by rw [len_list]; exact h0)
  rw [get_list D 0 h0] at h2
  simpa [digV] using h2
theorem not_zero {s D : ByteArray} (hD : digB s = D) (h0 : 0 < D.size) (h48 : (D[0]'h0).toNat = 48) (h : 1 < D.size ∨ negB s = true) : ¬ numP s.data.toList := by
  subst hD
  exact numP_not_zero h0 h48 h
theorem well_at {s D : ByteArray} (hD : digB s = D) (h1 : 0 < D.size) (h2 : ∀ j (hj : j < D.size), 48 ≤ (D[j]'hj).toNat ∧ (D[j]'hj).toNat ≤ 57) (h3 : (D[0]'h1).toNat = 48 → D.size = 1 ∧ negB s = false) (h4 : digV D.data.toList ≤ 1073741824) :
    numK s.data.toList = true ∧ numV s.data.toList = if negB s then -(digV D.data.toList : Int) else digV D.data.toList := by
  subst hD
  exact num_well h1 h2 h3 h4
/-- What the loop over the digits keeps. -/
structure NumI (D : ByteArray) (p : Nat) : Prop where
  dig : ∀ j (hj : j < D.size), j < p → 48 ≤ (D[j]'hj).toNat ∧ (D[j]'hj).toNat ≤ 57
  zero : ∀ h0 : 0 < D.size, (D[0]'h0).toNat = 48 → p ≤ 1
  max : digV (D.data.toList.take p) ≤ 1073741824
theorem NumI.start (D : ByteArray) : NumI D 0 := ⟨fun _ _ h => by omega, fun _ _ => by omega, by simp [digV]⟩
theorem NumI.zeroAt {D : ByteArray} {p : Nat} (h : NumI D p) (hp : p ≤ D.size) (h1 : 1 ≤ p) (hv : digV (D.data.toList.take p) = 0) : ∃ h0 : 0 < D.size, (D[0]'h0).toNat = 48 := by
  have h0 : 0 < D.size := by omega
  have h2 := digV_first D h0 p h1 hp
  have h3 := h.dig 0 h0 (by omega)
  exact ⟨h0, by omega⟩
theorem NumI.next {D : ByteArray} {p r : Nat} (h : NumI D p) (hp : p < D.size) (hb : (D[p]'hp).toNat = r) (hr : 48 ≤ r ∧ r ≤ 57) (hz : p = 0 ∨ ¬ digV (D.data.toList.take p) = 0) :
    digV (D.data.toList.take (p + 1)) = digV (D.data.toList.take p) * 10 + (r - 48) ∧ (digV (D.data.toList.take p) * 10 + (r - 48) ≤ 1073741824 → NumI D (p + 1)) := by
  have e := digV_take D.data.toList p (by rw [len_list]; exact hp)
  rw [get_list D p hp, hb] at e
  refine ⟨by omega, fun hm => ⟨fun j hj hjp => ?_, fun h0 h48 => ?_, by omega⟩⟩
  · by_cases ej : j = p
    · subst ej; omega
    · exact h.dig j hj (by omega)
  · have h1 := h.zero h0 h48
    rcases hz with hz | hz
    · omega
    · by_cases e0 : p = 0
      · omega
      · have : p = 1 := by omega
        subst this
        rw [digV_one D h0, h48] at hz
        exact absurd rfl hz
end Go.Proofs.YtkojdigaoihkpaaGreatDoor

end
