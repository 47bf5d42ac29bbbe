/- Contracts: slices.Clone, owned; each. -/
import Derived.Test.YtgedknmjenbacaaK2
namespace Go.Proofs.Ytgedknmjenbacaa
set_option linter.unusedVariables false
set_option linter.unusedSimpArgs false
open Go.RowKit

set_option maxHeartbeats 400000 in
theorem clone_own {v : Value} {d : List Int} {w : World} (h : Ints w v d) (h1 : 1 ≤ d.length) :
    Calls Try.prog 47 #[v] w fun e w' => ∃ v', e = .returned v' ∧ Own w' w.heap.size v' d ∧ Below w.heap.size w w' := by
  have hl := h.len
  rcases h.cases with ⟨rfl, a1, c1, rfl⟩ | ⟨b, off, c, rfl, h0, h2, h3, HC⟩
  · simp only [List.length_nil] at h1; omega
  obtain ⟨i3, hi, hz0, hz1, hz2⟩ := info3
  have HI : Hid (Try.prog.info? 3 = some i3) := hi
  have HZ0 : Hid (i3.zero = some (.int .i64 0)) := hz0
  have HZ1 : Hid (i3.size = 1) := hz1
  have HZ2 : Hid (i3.bytes = 8) := hz2
  have hnil := fun w => Lib.run_eql_slice_nil (P := Try.prog) w 23 3 (some ⟨b, off, none⟩) d.length c 0 0 Try.underlying23
  have HL : Hid (d.length ≤ big) := hl
  clear h hi hz0 hz1 hz2 h3
  unfold big at hl
  go_enter Try.func47, Try.ntmps47
  go_wp2_with (at_builtin; refine wpList_append_own _ rfl _ _ 23 rfl w.heap.size 3 i3 (.int .i64 0) 1 8 Try.underlying23 HI.out HZ0.out HZ1.out HZ2.out rfl (by decide) _ _ _ rfl (World.ownsRow_made w #[] 0 (Nat.le_refl _) (Nat.zero_le _) rfl) ⟨b, off, none⟩ d.length c (d.map (Value.int .i64)) rfl ?c0 ?c1 ?c2 ?c3 ?c4 ?c5 ?_)
  case c0 => simp
  case c1 => exact news_cells (fun i h => cell_later ((Below.refl _ _).alloc (Nat.le_refl _) _) (HC.out i h))
  case c2 => exact ints_one d
  case c3 => unfold maxLen; omega
  case c4 => omega
  case c5 => simp
  intro v1 w1 ho hg _
  have HO : Hid (Own w1 w.heap.size v1 d) := ⟨by simpa using ho, HL.out⟩
  have HB : Hid (Below w.heap.size w w1) := ((Below.refl _ _).alloc (Nat.le_refl _) _).grown hg (by simp) (by intro k hk; simp [Value.ownBlock] at hk; omega)
  clear ho hg
  go_wp2
  go_ret
  exact ⟨_, rfl, HO.out, HB.out⟩

/-- F's answers, the first j of n laid. -/
def lay (F : Nat → Int) (n j : Nat) : List Int := (List.range n).map fun i => if i < j then F i else 0
theorem lay_length (F : Nat → Int) (n j : Nat) : (lay F n j).length = n := by simp [lay]
theorem lay_zero (F : Nat → Int) (n : Nat) : lay F n 0 = zer n := by
  apply List.ext_getElem
  · simp [lay, zer]
  · intro i h1 h2; simp [lay, zer]
theorem lay_set (F : Nat → Int) (n j : Nat) : (lay F n j).set j (F j) = lay F n (j + 1) := by
  apply List.ext_getElem
  · simp [lay]
  · intro i h1 h2
    simp only [List.getElem_set, lay, List.getElem_map, List.getElem_range]
    by_cases e : j = i
    · subst e; simp
    · rw [if_neg e]
      by_cases h : i < j
      · simp [h, show i < j + 1 from by omega]
      · simp [h, show ¬ i < j + 1 from by omega]
theorem lay_all (F : Nat → Int) (n : Nat) : lay F n n = (List.range n).map F := by
  apply List.ext_getElem
  · simp [lay]
  · intro i h1 h2
    have : i < n := by simpa [lay] using h1
    simp [lay, this]
theorem lay_zip (op : Int → Int → Int) (a b : List Int) (n : Nat) (ha : a.length = n) (hb : b.length = n) : lay (fun i => op (a.getD i 0) (b.getD i 0)) n n = List.zipWith op a b := by
  rw [lay_all]
  apply List.ext_getElem
  · simp; omega
  · intro i h1 h2
    have : i < n := by simpa using h1
    simp [ha, hb, this]
def eachR (op : Int → Int → Int) (s t : Ten) : Ten := if fitE s t = 0 then (s.1, List.zipWith op s.2 t.2) else ([], [])
theorem fit_zero {s t : Ten} (h : fitE s t = 0) : tok s = true ∧ tok t = true ∧ s.1 = t.1 := by
  cases hs : tok s with
  | false => simp [fitE, hs] at h
  | true =>
    cases ht : tok t with
    | false => simp [fitE, hs, ht] at h
    | true =>
      refine ⟨rfl, rfl, ?_⟩
      by_cases e : s.1 = t.1
      · exact e
      · simp [fitE, hs, ht, e] at h
theorem fit_to {a0 a1 b0 b1 : Value} {s t : Ten} {w : World} (x : Int) (ha : Tens w a0 a1 s) (hb' : Tens w b0 b1 t) (hx : fitE s t = x) :
    Calls Try.prog 54 #[.agg #[a0, a1], .agg #[b0, b1]] w fun e w' => e = .returned (.int .i64 x) ∧ Below w.heap.size w w' := by
  subst hx
  exact fit_any ha hb'

set_option maxHeartbeats 1000000 in
theorem each_bad {deeds : ByteArray} {a0 a1 b0 b1 : Value} {s t : Ten} {w : World} (ha : Tens w a0 a1 s) (hb' : Tens w b0 b1 t) (x : Int) (hx : fitE s t = x) (hx0 : (x != 0) = true) :
    Calls Try.prog 53 #[.string deeds, .agg #[a0, a1], .agg #[b0, b1]] w fun e w' => e = .returned (.tuple #[.agg #[.slice none 0 0, .slice none 0 0], .int .i64 x]) ∧ Below w.heap.size w w' := by
  have hb : Below w.heap.size w (((w.alloc (.cells #[a0, a1] 31)).alloc (.cells #[b0, b1] 31)).alloc (.cells #[.slice none 0 0, .slice none 0 0] 31)) := (((Below.refl _ _).alloc (Nat.le_refl _) _).alloc (by simp) _).alloc (by simp; omega) _
  have HA : Hid (Tens (((w.alloc (.cells #[a0, a1] 31)).alloc (.cells #[b0, b1] 31)).alloc (.cells #[.slice none 0 0, .slice none 0 0] 31)) a0 a1 s) := ha.later hb
  have HT : Hid (Tens (((w.alloc (.cells #[a0, a1] 31)).alloc (.cells #[b0, b1] 31)).alloc (.cells #[.slice none 0 0, .slice none 0 0] 31)) b0 b1 t) := hb'.later hb
  have HB : Hid (Below w.heap.size w (((w.alloc (.cells #[a0, a1] 31)).alloc (.cells #[b0, b1] 31)).alloc (.cells #[.slice none 0 0, .slice none 0 0] 31))) := hb
  have HBX : Hid (Box (((w.alloc (.cells #[a0, a1] 31)).alloc (.cells #[b0, b1] 31)).alloc (.cells #[.slice none 0 0, .slice none 0 0] 31)) (w.heap.size + 1 + 1) (.slice none 0 0) (.slice none 0 0)) := by
    have := Box.new ((w.alloc (.cells #[a0, a1] 31)).alloc (.cells #[b0, b1] 31)) (.slice none 0 0) (.slice none 0 0)
    simp only [World.size_alloc] at this
    exact this
  have HX : Hid (fitE s t = x) := hx
  clear ha hb' hb hx
  go_enter Try.func53, Try.ntmps53
  go_wp2_with fail
  refine (fit_to x HA.out HT.out HX.out).mono ?_
  rintro e w1 ⟨rfl, hb1⟩
  have HB1 : Hid (Below w.heap.size w w1) := Below.after HB.out hb1
  have hbx := HBX.out.later hb1
  have hx0' := hbx.c0
  have hx1 := hbx.c1
  have hf0 := hbx.f 0
  have hf1 := hbx.f 1
  have HBS : Hid (Box _ _ _ _) := hbx.set (.slice none 0 0) (.slice none 0 0)
  clear hb1 hbx
  go_wp2
  have hr0 := HBS.out.c0
  have hr1 := HBS.out.c1
  exact bodyPost_ret (v := .tuple #[.agg #[.slice none 0 0, .slice none 0 0], .int .i64 x]) (by simp [results, Try.results53, go_sem, hr0, hr1]) rfl ⟨rfl, (HB1.out.setCell (by simp; omega) _).setCell (by simp; omega) _⟩

set_option maxHeartbeats 2000000 in
theorem each_ok {deeds : ByteArray} {op : Int → Int → Int} (HD : Hid (Deed deeds op)) {a0 a1 b0 b1 : Value} {s t : Ten} {w : World} (ha : Tens w a0 a1 s) (hb' : Tens w b0 b1 t) (hx : fitE s t = 0) :
    Calls Try.prog 53 #[.string deeds, .agg #[a0, a1], .agg #[b0, b1]] w fun e w' => ∃ x0 x1, e = .returned (.tuple #[.agg #[x0, x1], .int .i64 0]) ∧ OwnT w' w.heap.size x0 x1 (s.1, List.zipWith op s.2 t.2) ∧ Below w.heap.size w w' := by
  obtain ⟨hs, ht, hd⟩ := fit_zero hx
  have hpo := okd_parts (tok_okd hs)
  have hp1 := prd_lo hpo.2.2.1
  have hl1 := tok_len hs
  have hl2 := tok_len ht
  rw [← hd] at hl2
  obtain ⟨n, hn⟩ : ∃ n : Nat, s.2.length = n := ⟨_, rfl⟩
  have hn2 : t.2.length = n := by omega
  have hn1 : 1 ≤ n := by omega
  have hn64 : n ≤ 64 := by omega
  have HN : Hid (s.2.length = n) := hn
  have HN2 : Hid (t.2.length = n) := hn2
  have HD1 : Hid (1 ≤ s.1.length) := hpo.1
  have hb : Below w.heap.size w (((w.alloc (.cells #[a0, a1] 31)).alloc (.cells #[b0, b1] 31)).alloc (.cells #[.slice none 0 0, .slice none 0 0] 31)) := (((Below.refl _ _).alloc (Nat.le_refl _) _).alloc (by simp) _).alloc (by simp; omega) _
  have HA : Hid (Tens (((w.alloc (.cells #[a0, a1] 31)).alloc (.cells #[b0, b1] 31)).alloc (.cells #[.slice none 0 0, .slice none 0 0] 31)) a0 a1 s) := ha.later hb
  have HT : Hid (Tens (((w.alloc (.cells #[a0, a1] 31)).alloc (.cells #[b0, b1] 31)).alloc (.cells #[.slice none 0 0, .slice none 0 0] 31)) b0 b1 t) := hb'.later hb
  have HB : Hid (Below w.heap.size w (((w.alloc (.cells #[a0, a1] 31)).alloc (.cells #[b0, b1] 31)).alloc (.cells #[.slice none 0 0, .slice none 0 0] 31))) := hb
  have HBX : Hid (Box (((w.alloc (.cells #[a0, a1] 31)).alloc (.cells #[b0, b1] 31)).alloc (.cells #[.slice none 0 0, .slice none 0 0] 31)) (w.heap.size + 1 + 1) (.slice none 0 0) (.slice none 0 0)) := by
    have := Box.new ((w.alloc (.cells #[a0, a1] 31)).alloc (.cells #[b0, b1] 31)) (.slice none 0 0) (.slice none 0 0)
    simp only [World.size_alloc] at this
    exact this
  have HBA : Hid (Box (((w.alloc (.cells #[a0, a1] 31)).alloc (.cells #[b0, b1] 31)).alloc (.cells #[.slice none 0 0, .slice none 0 0] 31)) w.heap.size a0 a1) := ((Box.new w a0 a1).alloc _).alloc _
  have HBB : Hid (Box (((w.alloc (.cells #[a0, a1] 31)).alloc (.cells #[b0, b1] 31)).alloc (.cells #[.slice none 0 0, .slice none 0 0] 31)) (w.heap.size + 1) b0 b1) := by
    have := (Box.new (w.alloc (.cells #[a0, a1] 31)) b0 b1).alloc (.cells #[.slice none 0 0, .slice none 0 0] 31)
    simp only [World.size_alloc] at this
    exact this
  have HX : Hid (fitE s t = 0) := hx
  rcases ha.2.cases with ⟨e, _⟩ | ⟨ab, ao, ac, ea, _, ha1, _, HCA⟩
  · rw [e] at hn; simp at hn; omega
  rcases hb'.2.cases with ⟨e, _⟩ | ⟨bb, bo, bc, eb, _, hb1, _, HCB⟩
  · rw [e] at hn2; simp at hn2; omega
  rw [hn] at ea ha1
  rw [hn2] at eb hb1
  subst ea eb
  have hmk := fun w => make_ints w n (by omega)
  clear ha hb' hb hx hs ht hd hpo hp1 hl1 hl2 hn hn2
  go_enter Try.func53, Try.ntmps53
  go_wp2_with fail
  refine (fit_to 0 HA.out HT.out HX.out).mono ?_
  rintro e w1 ⟨rfl, hb1'⟩
  have HB1 : Hid (Below w.heap.size w w1) := Below.after HB.out hb1'
  have hs1 := hb1'.size
  simp at hs1
  have HBX1 : Hid (Box w1 (w.heap.size + 1 + 1) (.slice none 0 0) (.slice none 0 0)) := HBX.out.later hb1'
  have hca0 : w1.cell? ⟨w.heap.size, 0, none⟩ = some a0 := (HBA.out.later hb1').c0
  have hca1 : w1.cell? ⟨w.heap.size, 1, none⟩ = some (.slice (some ⟨ab, ao, none⟩) n ac) := (HBA.out.later hb1').c1
  have hcb1 : w1.cell? ⟨w.heap.size + 1, 1, none⟩ = some (.slice (some ⟨bb, bo, none⟩) n bc) := (HBB.out.later hb1').c1
  have HA1 : Hid (Ints w1 a0 s.1) := (HA.out.later hb1').1
  have HCA1 : Hid (∀ i, i < n → w1.cell? ⟨ab, ao + i, none⟩ = some (.int .i64 (s.2.getD i 0))) := fun i h => by
    have h' : i < s.2.length := by rw [HN.out]; exact h
    rw [show s.2.getD i 0 = s.2[i] by simp [h']]
    exact cell_later HB1.out (HCA.out i h')
  have HCB1 : Hid (∀ i, i < n → w1.cell? ⟨bb, bo + i, none⟩ = some (.int .i64 (t.2.getD i 0))) := fun i h => by
    have h' : i < t.2.length := by rw [HN2.out]; exact h
    rw [show t.2.getD i 0 = t.2[i] by simp [h']]
    exact cell_later HB1.out (HCB.out i h')
  have hca1' : (w1.alloc (.cells (ia (zer n)) 3)).cell? ⟨w.heap.size, 1, none⟩ = some (.slice (some ⟨ab, ao, none⟩) n ac) := ((HBA.out.later hb1').alloc _).c1
  clear hb1' HA HT HB HBX HCA HCB HBA HBB
  go_wp2
  clear hmk
  have HST : Hid (Blk (w1.alloc (.cells (ia (zer n)) 3)) w1.heap.size (lay (fun i => op (s.2.getD i 0) (t.2.getD i 0)) n 0)) := by
    show Blk _ _ _
    rw [lay_zero]
    exact Blk.new w1 _
  go_loopw [26] (fun i w' => ∃ j : Nat, j ≤ n ∧ i = .int .i64 j ∧ Blk w' w1.heap.size (lay (fun i => op (s.2.getD i 0) (t.2.getD i 0)) n j) ∧ Below w1.heap.size w1 w') (fun i _ => n - (intOf i).toNat)
  case atStart => exact ⟨0, by omega, rfl, HST.out, (Below.refl _ _).alloc (Nat.le_refl _) _⟩
  case round =>
    obtain ⟨j, hj, rfl, hB, hbel⟩ := hrel
    have HB3 : Hid (Blk wr w1.heap.size (lay (fun i => op (s.2.getD i 0) (t.2.getD i 0)) n j)) := hB
    have HBL3 : Hid (Below w1.heap.size w1 wr) := hbel
    have hsr := HBL3.out.size
    have hbr := HB3.out.lt
    clear hB hbel
    by_cases hlt : j < n
    · have hcx := cell_later HBL3.out (HCA1.out j hlt)
      have hcy := cell_later HBL3.out (HCB1.out j hlt)
      have hcb := cell_later HBL3.out hcb1
      go_wp2_with fail
      refine (HD.out _ _ _).mono ?_
      rintro e w2 ⟨rfl, hb2⟩
      have HB4 : Hid (Blk w2 w1.heap.size (lay (fun i => op (s.2.getD i 0) (t.2.getD i 0)) n j)) := HB3.out.later hb2 hbr
      have HBL4 : Hid (Below w1.heap.size w1 w2) := Below.after HBL3.out hb2
      have hf := HB4.out.frozen j
      obtain ⟨z, hc⟩ : ∃ z, w2.cell? ⟨w1.heap.size, j, none⟩ = some z := ⟨_, HB4.out.cell j (by rw [lay_length]; exact hlt)⟩
      clear hb2
      go_wp2
      go_roundw
      case rel =>
        refine ⟨j + 1, by omega, by go_num, ?_, HBL4.out.setCell (Nat.le_refl _) _⟩
        have := HB4.out.set j (op (s.2.getD j 0) (t.2.getD j 0))
        rw [lay_set (fun i => op (s.2.getD i 0) (t.2.getD i 0))] at this
        exact this
      case measure => simp [intOf]; omega
    · have hj' : j = n := by omega
      subst hj'
      have hca := cell_later HBL3.out hca0
      go_wp2_with fail
      refine (clone_own (HA1.out.later HBL3.out) HD1.out).mono ?_
      rintro e w2 ⟨v0, rfl, ho0, hb2⟩
      have HO0 : Hid (Own w2 wr.heap.size v0 s.1) := ho0
      have HBL4 : Hid (Below w1.heap.size w1 w2) := Below.after HBL3.out hb2
      have HB5 : Hid (Blk w2 w1.heap.size (List.zipWith op s.2 t.2)) := by
        have := HB3.out.later hb2 hbr
        rw [lay_zip _ _ _ _ HN.out HN2.out] at this
        exact this
      have hbx := HBX1.out.later HBL4.out
      have hx0 := hbx.c0
      have hx1 := hbx.c1
      have hf0 := hbx.f 0
      have hf1 := hbx.f 1
      obtain ⟨va, vc, rfl⟩ := ho0.ints.shape
      have HBS : Hid (Box _ _ _ _) := hbx.set (.slice va s.1.length vc) (.slice (some ⟨w1.heap.size, 0, none⟩) j j)
      have hs2 := HBL4.out.size
      clear hb2 hbx ho0
      go_wp2
      have hr0 := HBS.out.c0
      have hr1 := HBS.out.c1
      refine bodyPost_ret (v := .tuple #[.agg #[.slice va s.1.length vc, .slice (some ⟨w1.heap.size, 0, none⟩) j j], .int .i64 0]) (by simp [results, Try.results53, go_sem, hr0, hr1]) rfl ⟨_, _, rfl, ?_, ?_⟩
      · have hzl : (List.zipWith op s.2 t.2).length = j := by simp [HN.out, HN2.out]
        have h1 : OwnT w2 (w.heap.size + 1 + 1 + 1) (.slice va s.1.length vc) (.slice (some ⟨w1.heap.size, 0, none⟩) j j) (s.1, List.zipWith op s.2 t.2) :=
          ⟨HO0.out.mono (by omega), HB5.out.own (by omega) hzl.symm (by rw [hzl]; unfold big; omega), fun k hk => by
            have h2 := HO0.out.frm k hk
            simp [Value.ownBlock]
            omega⟩
        exact ((h1.setCell _ _ (by simp)).setCell _ _ (by simp)).mono (by omega)
      · exact ((Below.after HB1.out HBL4.out).setCell (by simp; omega) _).setCell (by simp; omega) _

theorem each_any {deeds : ByteArray} {op : Int → Int → Int} (HD : Hid (Deed deeds op)) {a0 a1 b0 b1 : Value} {s t : Ten} {w : World} (ha : Tens w a0 a1 s) (hb' : Tens w b0 b1 t) :
    Calls Try.prog 53 #[.string deeds, .agg #[a0, a1], .agg #[b0, b1]] w fun e w' => ∃ x0 x1, e = .returned (.tuple #[.agg #[x0, x1], .int .i64 (fitE s t)]) ∧ OwnT w' w.heap.size x0 x1 (eachR op s t) ∧ Below w.heap.size w w' := by
  by_cases h : fitE s t = 0
  · rw [eachR, if_pos h, h]
    exact each_ok HD ha hb' h
  · rw [eachR, if_neg h]
    refine (each_bad ha hb' _ rfl (by simp [h])).mono ?_
    rintro e w' ⟨rfl, hb⟩
    exact ⟨_, _, rfl, OwnT.nil _ _, hb⟩
end Go.Proofs.Ytgedknmjenbacaa
