/- Carried: C15. -/
import Derived.Test.YtjfkhfahpjdidaaC13
namespace Go.Proofs.Ytjfkhfahpjdidaa
set_option linter.unusedVariables false
set_option linter.unusedSimpArgs false
set_option maxRecDepth 100000
open Go.RowKit Go.Shelf
attribute [local go_sem] Oper.semAt_some

set_option maxHeartbeats 1000000 in
theorem chunk_in (n : Nat) (a : Option Addr) (len cap q : Nat) (w : World) (hq : 1 ≤ q) :
    CallsIn Fence.wide n Try.prog 85 #[.slice a len cap, .int .i64 q] w fun e w' => e = .returned (.func (.func 87) #[] #[.pointer (some ⟨w.heap.size, 0, none⟩), .pointer (some ⟨w.heap.size + 1, 0, none⟩)]) ∧ w' = (w.alloc (.cells #[.slice a len cap] 23)).alloc (.cells #[.int .i64 q] 3) := by
  have hq1 : ¬ (q : Int) < 1 := by omega
  refine callsIn_of_wp Try.func85 rfl trivial ?_ rfl
  simp only [Try.ntmps85, List.size_toArray, List.length_cons, List.length_nil, Nat.reduceAdd, Nat.reduceSub, Array.replicate_succ, Array.replicate_zero, List.push_toArray, List.append_toArray, List.nil_append, List.cons_append]
  gi_wp2
  go_ret
  exact ⟨rfl, rfl⟩
theorem chunk_stops (n : Nat) (hn : 1 ≤ n) (Bs Bn N T b off q m L cap : Nat) (hq : 1 ≤ q) (hq8 : q ≤ 8) (hL : m * q = L) (hL64 : L ≤ 64) (hcap : L ≤ cap)
    (hbs : Bs < N) (hbs' : Bs ≠ T) (hbn : Bn < N) (hbn' : Bn ≠ T) (w : World) (hN : N ≤ w.heap.size)
    (h1 : w.cell? ⟨Bs, 0, none⟩ = some (.slice (some ⟨b, off, none⟩) L cap)) (h2 : w.cell? ⟨Bn, 0, none⟩ = some (.int .i64 q)) :
    SeqStopsK Fence.wide n Try.prog 87 #[.pointer (some ⟨Bs, 0, none⟩), .pointer (some ⟨Bn, 0, none⟩)] (fun x : Fin m => #[Value.slice (some ⟨b, off + x.1 * q, none⟩) q q]) (Kpt N T) (fun ys => ys.map (·.1) = List.range m) (fun _ => True) m w := fun l J Jx W hW hJ _ hY h0 => by
  have k1 := (hW.cell (p := ⟨Bs, 0, none⟩) (show Bs < _ by omega)).trans h1
  have k2 := (hW.cell (p := ⟨Bn, 0, none⟩) (show Bn < _ by omega)).trans h2
  exact chunk1_in n hn l Bs Bn N T b off q m L cap hq hq8 hL hL64 hcap hbs hbs' hbn hbn' J Jx (fun s W h => hJ s W W.drew none h (grown_drew W) (fun r e => by cases e)) hY W k1 k2 h0
/-- The text of a chunk; of some. -/
def ckT (q : Nat) (a : List Int) (c : Nat) : ByteArray := (⟨(List.replicate (fC q a c) 120).toArray⟩ ++ ⟨#[111]⟩) ++ ⟨(List.replicate (q - fC q a c - 1) 120).toArray⟩
def cksT (q : Nat) (a : List Int) (l : List Nat) : ByteArray := l.foldl (fun t c => t ++ ckT q a c) ⟨#[]⟩
theorem cksT_snoc (q : Nat) (a : List Int) (l : List Nat) (c : Nat) : cksT q a (l ++ [c]) = cksT q a l ++ ckT q a c := by simp [cksT]
theorem ckT_size (q : Nat) (a : List Int) (c : Nat) (h : 1 ≤ q) : (ckT q a c).size = q := by
  have := fC_lt a c h
  simp only [ckT, ByteArray.size_append]
  have e1 := mk_size (List.replicate (fC q a c) 120)
  have e2 := mk_size (List.replicate (q - fC q a c - 1) 120)
  have e3 : (⟨#[111]⟩ : ByteArray).size = 1 := rfl
  rw [List.length_replicate] at e1 e2
  rw [e1, e2, e3]
  omega
theorem cksT_size (q : Nat) (a : List Int) (h : 1 ≤ q) : ∀ (l : List Nat), (cksT q a l).size = l.length * q := by
  intro l
  have key : ∀ (l : List Nat) (t : ByteArray), (l.foldl (fun t c => t ++ ckT q a c) t).size = t.size + l.length * q := by
    intro l
    induction l with
    | nil => intro t; simp
    | cons c l ih =>
      intro t
      rw [List.foldl_cons, ih, ByteArray.size_append, ckT_size q a c h, List.length_cons, Nat.add_mul]
      omega
  have := key l ⟨#[]⟩
  rw [show (⟨#[]⟩ : ByteArray).size = 0 from rfl, Nat.zero_add] at this
  exact this
theorem cksT_all (q : Nat) (a : List Int) (h : 1 ≤ q) : ∀ m, cksT q a (List.range m) = gT (gC q a) (m * q)
  | 0 => by simp [cksT, gT]
  | m + 1 => by
    rw [List.range_succ, cksT_snoc, cksT_all q a h m, Nat.add_mul, Nat.one_mul, gT_chunk q a m h]
    rfl
theorem keeps_below {W W' : World} (hb : Below W.heap.size W W') : KeepsOthers W W' := ⟨hb.size, fun k o hk _ => (hb.block k (Array.getElem?_eq_some_iff.1 hk).1).trans hk⟩
theorem kpt_set {N T : Nat} {W W' : World} (hb : Below W.heap.size W W') (hN : N ≤ W.heap.size) (u : Value) : Kpt N T W (W'.setCell ⟨T, 0, none⟩ u) := by
  intro k hk hT
  rw [heap_setCell_other W' ⟨T, 0, none⟩ k u hT]
  exact hb.block k (by omega)
theorem kpt_b {N T : Nat} (W : World) (l : Nat) (o' : Obj) (h : N ≤ l) : Kpt N T W (W.putObj l o') := by
  intro k hk _
  have : l ≠ k := by omega
  simp [World.putObj, Array.getElem?_setIfInBounds, this]
set_option maxRecDepth 100000 in
set_option maxHeartbeats 4000000 in
theorem firsts_any {v : Value} {d : List Int} {w : World} (q m : Nat) (h : Ints w v d) (hq : 1 ≤ q) (hq8 : q ≤ 8) (hm : 1 ≤ m) (hL : d.length = m * q) (h64 : d.length ≤ 64) :
    Calls Try.prog 77 #[v, .int .i64 q] w fun e w' => e = .returned (.string (gT (gC q d) d.length)) ∧ Below w.heap.size w w' := by
  have h1 : 1 ≤ d.length := by rw [hL]; exact Nat.mul_pos hm hq
  have hold := h.old h1
  rcases h.cases with ⟨rfl, _⟩ | ⟨b, off, cap, rfl, h0, hcap, hbg, HC⟩
  · simp at h1
  have hbw : b < w.heap.size := hold b rfl
  clear h hold
  obtain ⟨L, eL⟩ : ∃ L, d.length = L := ⟨_, rfl⟩
  rw [eL] at hL h64 h1 hcap h0
  have HCD : Hid (∀ i, i < d.length → w.cell? ⟨b, off + i, none⟩ = some (.int .i64 (d.getD i 0))) := fun i hi => Ints.cellD (n := 0) (c := 0) HC i hi
  refine (callsIn_wide (n := 9)).1 ?_
  refine callsIn_of_wp_marks Try.func77 rfl trivial ?_ rfl
  rw [eL]
  simp only [Try.ntmps77, List.size_toArray, List.length_cons, List.length_nil, Nat.reduceAdd, Nat.reduceSub, Array.replicate_succ, Array.replicate_zero, List.push_toArray, List.append_toArray, List.nil_append, List.cons_append]
  have HL : Hid (L = m * q) := hL
  clear hL
  gi_wp2_with (refine ⟨trivial, ?_⟩; gi_at_call 85; refine (chunk_in _ _ _ _ q _ hq).mono ?_; rintro e w' ⟨rfl, rfl⟩)
  obtain ⟨W0, hW0⟩ : ∃ W0, W0 = (((w.alloc (.cells #[.int .i64 q] 3)).alloc (.cells #[.string ⟨#[]⟩] 9)).alloc (.cells #[.slice (some ⟨b, off, none⟩) L cap] 23)).alloc (.cells #[.int .i64 q] 3) := ⟨_, rfl⟩
  have hs0 : W0.heap.size = w.heap.size + 4 := by rw [hW0]; simp
  have bA : Boxed W0 w.heap.size 3 (.int .i64 q) := by rw [hW0]; exact (((Boxed.new w 3 (.int .i64 q)).alloc _).alloc _).alloc _
  have bT : Boxed W0 (w.heap.size + 1) 9 (.string ⟨#[]⟩) := by
    have := ((Boxed.new (w.alloc (.cells #[.int .i64 q] 3)) 9 (.string ⟨#[]⟩)).alloc (.cells #[.slice (some ⟨b, off, none⟩) L cap] 23)).alloc (.cells #[.int .i64 q] 3)
    rw [World.size_alloc] at this
    rw [hW0]
    exact this
  have bS : Boxed W0 (w.heap.size + 2) 23 (.slice (some ⟨b, off, none⟩) L cap) := by
    have := (Boxed.new ((w.alloc (.cells #[.int .i64 q] 3)).alloc (.cells #[.string ⟨#[]⟩] 9)) 23 (.slice (some ⟨b, off, none⟩) L cap)).alloc (.cells #[.int .i64 q] 3)
    simp only [World.size_alloc] at this
    rw [hW0]
    exact this
  have bN : Boxed W0 (w.heap.size + 3) 3 (.int .i64 q) := by
    have := Boxed.new (((w.alloc (.cells #[.int .i64 q] 3)).alloc (.cells #[.string ⟨#[]⟩] 9)).alloc (.cells #[.slice (some ⟨b, off, none⟩) L cap] 23)) 3 (.int .i64 q)
    simp only [World.size_alloc] at this
    rw [hW0]
    exact this
  have k1 := bS.cell
  have k2 := bN.cell
  clear bS bN
  have hB0 : Below w.heap.size w W0 := by rw [hW0]; exact ((((Below.refl _ _).alloc (Nat.le_refl _) _).alloc (by simp) _).alloc (by simp; omega) _).alloc (by simp; omega) _
  rw [← hW0]
  clear hW0
  refine wpIn_rangeFunc_ownG rfl (by omega) (gf := 87) (lb := #[.pointer (some ⟨w.heap.size + 1 + 1, 0, none⟩), .pointer (some ⟨w.heap.size + 1 + 1 + 1, 0, none⟩)]) rfl trivial (enters_of Try.func87 (by kernel_rfl) rfl)
    (chunk_stops _ (by omega) (w.heap.size + 2) (w.heap.size + 3) (w.heap.size + 4) (w.heap.size + 1) b off q m L cap hq hq8 HL.out.symm h64 hcap (by omega) (by omega) (by omega) (by omega) W0 (by omega) k1 k2)
    (fun h k => h.trans k) (fun W l o o' hl _ _ _ => kpt_b W l o' (by omega)) (Below.refl _ _) (fun _ => rfl)
    (fun pre W => (Boxed W (w.heap.size + 1) 9 (.string (cksT q d (pre.map (·.1)))) ∧ Boxed W w.heap.size 3 (.int .i64 q) ∧ w.heap.size + 4 ≤ W.heap.size) ∧ Below w.heap.size w W)
    (fun _ _ _ => False)
    (OwnFrom.and (Own.from (fun s A B row hs hg hr => ⟨boxed_own _ _ (fun pre : List (Fin m) => Value.string (cksT q d (pre.map (·.1)))) s A B row hs.1 hg hr, boxed_own _ _ (fun _ : List (Fin m) => Value.int .i64 q) s A B row hs.2.1 hg hr, Nat.le_trans hs.2.2 hg.size⟩) _) (ownFrom_below (Nat.le_refl _) (by omega)))
    (fun _ _ _ _ _ hs _ _ => hs)
    ⟨⟨bT, bA, by omega⟩, hB0⟩
    (fun x => { tmps := #[.slice (some ⟨b, off, none⟩) L cap, .int .i64 q, undef, .pointer (some ⟨w.heap.size, 0, none⟩), .string ⟨#[]⟩, .pointer (some ⟨w.heap.size + 1, 0, none⟩), .slice (some ⟨b, off + x.1 * q, none⟩) q q, undef, .slice (some ⟨b, off, none⟩) L cap, .int .i64 q, .func (.func 87) #[] #[.pointer (some ⟨w.heap.size + 1 + 1, 0, none⟩), .pointer (some ⟨w.heap.size + 1 + 1 + 1, 0, none⟩)], .slice (some ⟨b, off + x.1 * q, none⟩) q q, undef, undef, undef, undef, undef, undef, undef, undef, undef, undef, undef, undef, undef, undef, undef, undef], defers := [] }) ?assign ?body ?done ?stop
  case assign =>
    intro l x W K hK
    gi_wp2
    exact hK
  case body =>
    rintro l pre ⟨c, hc⟩ W ⟨⟨bxT, bxN, hs4⟩, hB⟩ hlen
    have hcq : c * q + q ≤ d.length := by
      rw [eL, HL.out]
      have := Nat.mul_le_mul_right q (show c + 1 ≤ m from hc)
      rw [Nat.add_mul] at this
      omega
    have HCW : Hid (∀ i, i < d.length → W.cell? ⟨b, off + i, none⟩ = some (.int .i64 (d.getD i 0))) := fun i hi => (hB.cell (p := ⟨b, off + i, none⟩) hbw).trans (HCD.out i hi)
    have HQ : Hid (c * q + q ≤ d.length) := hcq
    have hF := fC_lt d c hq
    have hsz : (cksT q d (pre.map (·.1))).size ≤ 64 := by
      rw [cksT_size q d hq, List.length_map]
      have := Nat.mul_le_mul_right q (show pre.length ≤ m by omega)
      rw [← HL.out] at this
      omega
    have HT : Hid (cksT q d ((pre ++ [(⟨c, hc⟩ : Fin m)]).map (·.1)) = cksT q d (pre.map (·.1)) ++ ((⟨(List.replicate (fC q d c) 120).toArray⟩ ++ ⟨#[111]⟩) ++ ⟨(List.replicate (q - fC q d c - 1) 120).toArray⟩)) := by
      show _ = _
      rw [List.map_append, List.map_singleton, cksT_snoc]
      rfl
    obtain ⟨t, ht⟩ : ∃ t, cksT q d (pre.map (·.1)) = t := ⟨_, rfl⟩
    rw [ht] at bxT hsz HT
    have hsW := hB.size
    clear hcq ht
    have HB : Hid (Below w.heap.size w W) := hB
    clear hB
    gi_wp2_with (first
      | (refine ⟨trivial, ?_⟩; gi_at_call 34; refine (CallsIn.inRound l (callsIn_wide.2 (cmax_any hq hq8 HQ.out HCW.out))).mono ?_; rintro e w' ⟨rfl, hw⟩; subst w')
      | (refine ⟨trivial, ?_⟩; gi_at_call 42; refine (CallsIn.inRound l (callsIn_wide.2 (cidx_any hq hq8 HQ.out HCW.out))).mono ?_; rintro e w' ⟨rfl, hw⟩; subst w'))
    obtain ⟨F, hFF⟩ : ∃ F, fC q d c = F := ⟨_, rfl⟩
    rw [hFF] at hF HT ⊢
    clear hFF
    refine freg5 bxT bxN hF hq8 hsz rfl rfl rfl rfl rfl ?_
    intro a' w2 hb2
    refine ⟨((keeps_below hb2).trans (KeepsOthers.setCell _ _ _)).from _, kpt_set hb2 hs4 _, ⟨?_, ?_, ?_⟩, ?_⟩
    · rw [HT.out]
      exact Boxed.set _ (Boxed.later hb2 bxT)
    · exact Boxed.other (Boxed.later hb2 bxN) (by omega) _
    · have := hb2.size
      simp
      omega
    · exact (Below.after HB.out hb2).setCell (p := ⟨w.heap.size + 1, 0, none⟩) (by simp) _
  case done =>
    rintro D ys W hD hys ⟨⟨bxT, bxN, hs4⟩, hB⟩ hK
    rw [hys, cksT_all q d hq, ← HL.out] at bxT
    have hct := bxT.cell
    gi_wp2
    refine ⟨by simp, .inl ⟨_, _, rfl, run_takeDeferred hK, ?_⟩⟩
    exact ⟨_, results_tmp rfl _ _ _, rfl, hB.trans (belowK_b (w := w) (Nat.le_refl _) W D _ _ (by omega) hK rfl rfl)⟩
  case stop =>
    rintro D c pre W _ _ h _
    exact h.elim
end Go.Proofs.Ytjfkhfahpjdidaa
