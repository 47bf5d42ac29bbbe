/- Contract: turn's Shape. -/
import Derived.Test.YtgedknmjenbacaaD1
import Derived.Laws.CopyOwn
namespace Go.Proofs.Ytgedknmjenbacaa
set_option linter.unusedVariables false
set_option linter.unusedSimpArgs false
open Go.RowKit

def shE (t : Ten) (d : List Int) : Int := if okd d && tok t then (if (t.2.length : Int) = prd d then 0 else 4) else 1
def shR (t : Ten) (d : List Int) : Ten := if shE t d = 0 then (d, t.2) else ([], [])
theorem size3 : (Try.prog.info? 3).map (·.size) = some 1 := by kernel_rfl

/-- Behind a goto: the frame's size, where the answer's box is, and that it is empty. -/
def Jg (n k B : Nat) (w : World) (a : Act) (w' : World) : Prop :=
  a.defers = [] ∧ a.tmps.size = n ∧ a.tmps.getD k undef = .pointer (some ⟨B, 0, none⟩) ∧ Box w' B (.slice none 0 0) (.slice none 0 0) ∧ Below w.heap.size w w'

set_option maxRecDepth 100000 in
set_option maxHeartbeats 2000000 in
theorem shape_bad1 {a0 a1 v : Value} {s : Ten} {d : List Int} {w : World} (ha : Tens w a0 a1 s) (hd : Ints w v d) (hx : (okd d && tok s) = false) :
    Calls Try.prog 16 #[.agg #[a0, a1], v] w fun e w' => e = .returned (.tuple #[.agg #[.slice none 0 0, .slice none 0 0], .int .i64 1]) ∧ Below w.heap.size w w' := by
  have hb : Below w.heap.size w ((w.alloc (.cells #[a0, a1] 31)).alloc (.cells #[.slice none 0 0, .slice none 0 0] 31)) := ((Below.refl _ _).alloc (Nat.le_refl _) _).alloc (by simp) _
  have HA : Hid (Tens ((w.alloc (.cells #[a0, a1] 31)).alloc (.cells #[.slice none 0 0, .slice none 0 0] 31)) a0 a1 s) := ha.later hb
  have HD : Hid (Ints ((w.alloc (.cells #[a0, a1] 31)).alloc (.cells #[.slice none 0 0, .slice none 0 0] 31)) v d) := hd.later hb
  have HB : Hid (Below w.heap.size w ((w.alloc (.cells #[a0, a1] 31)).alloc (.cells #[.slice none 0 0, .slice none 0 0] 31))) := hb
  have HBA : Hid (Box ((w.alloc (.cells #[a0, a1] 31)).alloc (.cells #[.slice none 0 0, .slice none 0 0] 31)) w.heap.size a0 a1) := (Box.new w a0 a1).alloc _
  have HBX : Hid (Box ((w.alloc (.cells #[a0, a1] 31)).alloc (.cells #[.slice none 0 0, .slice none 0 0] 31)) (w.heap.size + 1) (.slice none 0 0) (.slice none 0 0)) := by
    have := Box.new (w.alloc (.cells #[a0, a1] 31)) (.slice none 0 0) (.slice none 0 0)
    simp only [World.size_alloc] at this
    exact this
  obtain ⟨aa, an, ac, rfl⟩ := ha.1.shape3
  obtain ⟨ba, bn, bc, rfl⟩ := ha.2.shape3
  have HX : Hid ((okd d && tok s) = false) := hx
  clear ha hd hb hx
  go_enter Try.func16, Try.ntmps16
  go_wp2_with fail
  refine wp_scope_jumps 0 (Jg 35 4 (w.heap.size + 1) w) (fun _ _ => 0) rfl ?_ ?_
  · cases ho : okd d with
    | false =>
      go_wp2_with fail
      refine (fill_bad 0 HD.out ho).mono ?_
      rintro e w1 ⟨rfl, hb1⟩
      have HB1 : Hid (Below w.heap.size w (w1.alloc (.cells #[.slice none 0 0, .slice none 0 0] 31))) := Below.push (Below.after HB.out hb1) _
      have HBX1 : Hid (Box (w1.alloc (.cells #[.slice none 0 0, .slice none 0 0] 31)) (w.heap.size + 1) (.slice none 0 0) (.slice none 0 0)) := (HBX.out.later hb1).alloc _
      clear hb1 ho
      go_wp2
      go_step3
      exact ⟨rfl, rfl, rfl, rfl, HBX1.out, HB1.out⟩
    | true =>
      have ht : tkE s = 1 := by
        have := HX.out
        rw [ho] at this
        simp at this
        simp [tkE, this]
      have HT : Hid (tkE s = 1) := ht
      go_wp2_with fail
      refine (fill_own 0 HD.out ho).mono ?_
      rintro e w1 ⟨x0, b1, rfl, hox, hbk, _, hb1⟩
      obtain ⟨xa, xn, xc, rfl⟩ := hox.ints.shape3
      obtain ⟨nn, hnn⟩ : ∃ n, (prd d).toNat = n := ⟨_, rfl⟩
      rw [hnn]
      have hv : Below w1.heap.size w1 (w1.alloc (.cells #[.slice xa xn xc, .slice (some ⟨b1, 0, none⟩) nn nn] 31)) := (Below.refl _ _).alloc (Nat.le_refl _) _
      have HB1 : Hid (Below w.heap.size w (w1.alloc (.cells #[.slice xa xn xc, .slice (some ⟨b1, 0, none⟩) nn nn] 31))) := Below.after (Below.after HB.out hb1) hv
      have HBX1 : Hid (Box (w1.alloc (.cells #[.slice xa xn xc, .slice (some ⟨b1, 0, none⟩) nn nn] 31)) (w.heap.size + 1) (.slice none 0 0) (.slice none 0 0)) := (HBX.out.later hb1).alloc _
      have hba := (HBA.out.later hb1).alloc (.cells #[.slice xa xn xc, .slice (some ⟨b1, 0, none⟩) nn nn] 31)
      have hc0 := hba.c0
      have hc1 := hba.c1
      have HA1 : Hid (Tens (w1.alloc (.cells #[.slice xa xn xc, .slice (some ⟨b1, 0, none⟩) nn nn] 31)) _ _ s) := (HA.out.later hb1).later hv
      clear hb1 ho ht hv hba hbk hox hnn
      go_wp2_with fail
      refine (tensor_to 1 HA1.out HT.out).mono ?_
      rintro e w2 ⟨rfl, hb2⟩
      have HB2 : Hid (Below w.heap.size w w2) := Below.after HB1.out hb2
      have HBX2 : Hid (Box w2 (w.heap.size + 1) (.slice none 0 0) (.slice none 0 0)) := HBX1.out.later hb2
      clear hb2
      go_wp2
      go_step3
      exact ⟨rfl, rfl, rfl, rfl, HBX2.out, HB2.out⟩
  · rintro a w' ⟨hd, hs, h4, hbx, hbe⟩
    obtain ⟨G, hg, e⟩ := act35 a hd hs
    rw [hg] at h4
    subst e
    rw [h4]
    have l0 := hbx.c0
    have l1 := hbx.c1
    have m0 := hbx.f 0
    have m1 := hbx.f 1
    have HBS : Hid (Box _ _ _ _) := hbx.set (.slice none 0 0) (.slice none 0 0)
    have HBE : Hid (Below w.heap.size w w') := hbe
    clear hg hd hs hbx h4 hbe
    go_wp2
    rw [jump_ret]
    have hr0 := HBS.out.c0
    have hr1 := HBS.out.c1
    exact bodyPost_ret (v := .tuple #[.agg #[.slice none 0 0, .slice none 0 0], .int .i64 1]) (by simp [results, Try.results16, go_sem, hr0, hr1]) rfl ⟨rfl, (HBE.out.setCell (by simp) _).setCell (by simp) _⟩

set_option maxRecDepth 100000 in
set_option maxHeartbeats 2000000 in
theorem shape_go {a0 a1 v : Value} {s : Ten} {d : List Int} {w : World} (ha : Tens w a0 a1 s) (hd : Ints w v d) (od : okd d = true) (ht : tok s = true) :
    Calls Try.prog 16 #[.agg #[a0, a1], v] w fun e w' => ∃ x0 x1, e = .returned (.tuple #[.agg #[x0, x1], .int .i64 (shE s d)]) ∧ OwnT w' w.heap.size x0 x1 (shR s d) ∧ Below w.heap.size w w' := by
  have hb : Below w.heap.size w ((w.alloc (.cells #[a0, a1] 31)).alloc (.cells #[.slice none 0 0, .slice none 0 0] 31)) := ((Below.refl _ _).alloc (Nat.le_refl _) _).alloc (by simp) _
  have HA : Hid (Tens ((w.alloc (.cells #[a0, a1] 31)).alloc (.cells #[.slice none 0 0, .slice none 0 0] 31)) a0 a1 s) := ha.later hb
  have HD : Hid (Ints ((w.alloc (.cells #[a0, a1] 31)).alloc (.cells #[.slice none 0 0, .slice none 0 0] 31)) v d) := hd.later hb
  have HB : Hid (Below w.heap.size w ((w.alloc (.cells #[a0, a1] 31)).alloc (.cells #[.slice none 0 0, .slice none 0 0] 31))) := hb
  have HBA : Hid (Box ((w.alloc (.cells #[a0, a1] 31)).alloc (.cells #[.slice none 0 0, .slice none 0 0] 31)) w.heap.size a0 a1) := (Box.new w a0 a1).alloc _
  have HBX : Hid (Box ((w.alloc (.cells #[a0, a1] 31)).alloc (.cells #[.slice none 0 0, .slice none 0 0] 31)) (w.heap.size + 1) (.slice none 0 0) (.slice none 0 0)) := by
    have := Box.new (w.alloc (.cells #[a0, a1] 31)) (.slice none 0 0) (.slice none 0 0)
    simp only [World.size_alloc] at this
    exact this
  obtain ⟨_, _, hin, hp⟩ := okd_parts od
  have hp1 := prd_lo hin
  obtain ⟨n, hn⟩ : ∃ n : Nat, prd d = n := ⟨(prd d).toNat, by omega⟩
  have hn1 : 1 ≤ n := by omega
  have hn64 : n ≤ 64 := by omega
  have HNT : Hid ((prd d).toNat = n) := by show _ = _; omega
  obtain ⟨hp2, hp3⟩ := tok_pos ht
  obtain ⟨m, hm⟩ : ∃ m : Nat, s.2.length = m := ⟨_, rfl⟩
  have hm1 : 1 ≤ m := by omega
  have hm64 : m ≤ 64 := by omega
  have HT : Hid (tkE s = 0) := by show _ = _; simp [tkE, ht]
  have OD : Hid (okd d = true) := od
  have HSE : Hid (shE s d = if (m : Int) = n then 0 else 4) := by show _ = _; rw [shE, od, ht, hm, hn]; rfl
  rcases ha.2.cases with ⟨e, _⟩ | ⟨ab, ao, ac, ea, hab0, ha1, _, HCA⟩
  · rw [e] at hm; simp at hm; omega
  have hab : ab < w.heap.size := World.block_lt_of_cell? _ _ (HCA.out 0 hab0)
  have HML : Hid (s.2.length = m) := hm
  rw [hm] at ea ha1
  subst ea
  obtain ⟨aa, an, ac', rfl⟩ := ha.1.shape3
  obtain ⟨da, dn, dc, rfl⟩ := hd.shape3
  clear ha hd hb ht od hin hp hp1 hn hp2 hp3 hm hab0
  go_enter Try.func16, Try.ntmps16
  go_wp2_with fail
  refine wp_scope_jumps 1 (fun a w' => Jg 35 4 (w.heap.size + 1) w a w' ∧ (m : Int) ≠ n) (fun _ _ => 0) rfl ?_ ?_
  · go_wp2_with fail
    refine (fill_own 0 HD.out OD.out).mono ?_
    rw [HNT.out]
    rintro e w1 ⟨x0, b1, rfl, ho, hbk, ⟨hb1l, hap⟩, hb1⟩
    simp only [World.size_alloc] at hb1l ho
    have hs1 := hb1.size
    simp at hs1
    have hbl := hbk.lt
    obtain ⟨xa, xn, xc, rfl⟩ := ho.ints.shape3
    have hv : Below w1.heap.size w1 (w1.alloc (.cells #[.slice xa xn xc, .slice (some ⟨b1, 0, none⟩) n n] 31)) := (Below.refl _ _).alloc (Nat.le_refl _) _
    have HB1 : Hid (Below w.heap.size w (w1.alloc (.cells #[.slice xa xn xc, .slice (some ⟨b1, 0, none⟩) n n] 31))) := Below.after (Below.after HB.out hb1) hv
    have HBX1 : Hid (Box (w1.alloc (.cells #[.slice xa xn xc, .slice (some ⟨b1, 0, none⟩) n n] 31)) (w.heap.size + 1) (.slice none 0 0) (.slice none 0 0)) := (HBX.out.later hb1).alloc _
    have HBA1 : Hid (Box (w1.alloc (.cells #[.slice xa xn xc, .slice (some ⟨b1, 0, none⟩) n n] 31)) w.heap.size _ _) := (HBA.out.later hb1).alloc _
    have HBT1 : Hid (Box (w1.alloc (.cells #[.slice xa xn xc, .slice (some ⟨b1, 0, none⟩) n n] 31)) w1.heap.size _ _) := Box.new _ _ _
    have hc0 := HBA1.out.c0
    have hc1 := HBA1.out.c1
    have HA1 : Hid (Tens (w1.alloc (.cells #[.slice xa xn xc, .slice (some ⟨b1, 0, none⟩) n n] 31)) _ _ s) := (HA.out.later hb1).later hv
    have HO1 : Hid (Own (w1.alloc (.cells #[.slice xa xn xc, .slice (some ⟨b1, 0, none⟩) n n] 31)) (w.heap.size + 1 + 1) (.slice xa xn xc) d) := ho.later hv
    have HK1 : Hid (Blk (w1.alloc (.cells #[.slice xa xn xc, .slice (some ⟨b1, 0, none⟩) n n] 31)) b1 (List.replicate n 0)) := hbk.alloc _
    have HAP : Hid (∀ k, (Value.slice xa xn xc).ownBlock = some k → k ≠ b1) := hap
    clear ho hbk hap hb1 hv
    go_wp2_with fail
    refine (tensor_to 0 HA1.out HT.out).mono ?_
    rintro e w2 ⟨rfl, hb2⟩
    have hs2 := hb2.size
    simp at hs2
    have HB2 : Hid (Below w.heap.size w w2) := Below.after HB1.out hb2
    have HBX2 : Hid (Box w2 (w.heap.size + 1) (.slice none 0 0) (.slice none 0 0)) := HBX1.out.later hb2
    have HBT2 : Hid (Box w2 w1.heap.size _ _) := HBT1.out.later hb2
    have e1 := (HBA1.out.later hb2).c1
    have t1 := HBT2.out.c1
    have HO2 : Hid (Own w2 (w.heap.size + 1 + 1) (.slice xa xn xc) d) := HO1.out.later hb2
    have HK2 : Hid (Blk w2 b1 (List.replicate n 0)) := HK1.out.later hb2 (by simp; omega)
    have HCC : Hid (∀ i (h : i < s.2.length), w2.cell? ⟨ab, ao + i, none⟩ = some (.int .i64 s.2[i])) := fun i h => cell_later HB2.out (HCA.out i h)
    clear hb2 hc0 hc1 HB1 HBX1 HBA1 HBT1 HO1 HK1
    by_cases hmn : m = n
    · subst hmn
      have HS0 : Hid (shE s d = 0) := by show _ = _; rw [HSE.out, if_pos rfl]
      clear HSE
      have hne : ((m : Int) != (m : Int)) = false := by simp
      have hR : ((ia (List.replicate m 0)).toList.take 0 ++ s.2.map (Value.int .i64) ++ (ia (List.replicate m 0)).toList.drop (0 + (s.2.map (Value.int .i64)).length)).toArray = ia s.2 := by
        have : (ia (List.replicate m 0)).toList.drop (0 + (s.2.map (Value.int .i64)).length) = [] := by
          apply List.drop_eq_nil_of_le
          rw [List.length_map, HML.out, Nat.zero_add, Array.length_toList, ia_size, List.length_replicate]
          exact Nat.le_refl _
        rw [this]
        simp [ia]
      have hrun := run_copy_row (P := Try.prog) w2 23 23 3 3 b1 0 m m ⟨ab, ao, none⟩ m ac (ia (List.replicate m 0)) 3 (s.2.map (Value.int .i64)) Try.underlying23 size3 HK2.out (by rw [List.length_map, HML.out]; simp) (news_cells HCC) (by rw [List.length_map, HML.out, ia_size, List.length_replicate, Nat.zero_add]; exact Nat.le_refl _) (ints_one s.2)
      rw [hR, List.length_map, HML.out] at hrun
      clear hR
      have HKS : Hid (Blk (w2.setRow b1 (ia s.2)) b1 s.2) := setRow_heap w2 b1 _ _ 3 _ HK2.out
      have HBU : Hid (But b1 w2 (w2.setRow b1 (ia s.2))) := ⟨rfl, rfl, rfl, by simp [World.setRow], fun k hk => setRow_other w2 b1 k _ hk⟩
      generalize w2.setRow b1 (ia s.2) = V at HKS HBU hrun ⊢
      have hbt := HBU.out.box HBT2.out (by omega)
      have u0 := hbt.c0
      have u1 := hbt.c1
      have hbx := HBU.out.box HBX2.out (by omega)
      have l0 := hbx.c0
      have l1 := hbx.c1
      have m0 := hbx.f 0
      have m1 := hbx.f 1
      have HBS : Hid (Box _ _ _ _) := hbx.set (.slice xa xn xc) (.slice (some ⟨b1, 0, none⟩) m m)
      have HO5 : Hid (Own V (w.heap.size + 1 + 1) (.slice xa xn xc) d) := HO2.out.at fun k hk => HBU.out.block k (HAP.out k hk)
      have HK5 : Hid (Own V (w.heap.size + 1 + 1) (.slice (some ⟨b1, 0, none⟩) m m) s.2) := Blk.own HKS.out hb1l HML.out.symm (by rw [HML.out]; unfold big; omega)
      have HBE : Hid (Below w.heap.size w V) := HBU.out.below HB2.out (by omega)
      clear hbx hbt
      go_wp2
      rw [jump_ret]
      have hr0 := HBS.out.c0
      have hr1 := HBS.out.c1
      refine bodyPost_ret (v := .tuple #[.agg #[.slice xa xn xc, .slice (some ⟨b1, 0, none⟩) m m], .int .i64 0]) (by simp [results, Try.results16, go_sem, hr0, hr1]) rfl ⟨.slice xa xn xc, .slice (some ⟨b1, 0, none⟩) m m, ?_, ?_, ?_⟩
      · rw [HS0.out]
      · rw [shR, HS0.out, if_pos rfl]
        have h1 : OwnT V (w.heap.size + 1 + 1) (.slice xa xn xc) (.slice (some ⟨b1, 0, none⟩) m m) (d, s.2) := ⟨HO5.out, HK5.out, fun k hk e => HAP.out k hk (by simp [Value.ownBlock] at e; exact e.symm)⟩
        exact ((h1.setCell _ _ (by simp)).setCell _ _ (by simp)).mono (by omega)
      · exact (HBE.out.setCell (by simp) _).setCell (by simp) _
    · have hne : ((n : Int) != (m : Int)) = true := by simp; omega
      go_wp2
      go_step3
      exact ⟨rfl, ⟨rfl, rfl, rfl, HBX2.out, HB2.out⟩, by omega⟩
  · rintro a w' ⟨⟨hd, hs, h4, hbx, hbe⟩, hmn⟩
    have HMN : Hid ((m : Int) ≠ n) := hmn
    obtain ⟨G, hg, e⟩ := act35 a hd hs
    rw [hg] at h4
    subst e
    rw [h4]
    have l0 := hbx.c0
    have l1 := hbx.c1
    have m0 := hbx.f 0
    have m1 := hbx.f 1
    have HBS : Hid (Box _ _ _ _) := hbx.set (.slice none 0 0) (.slice none 0 0)
    have HBE : Hid (Below w.heap.size w w') := hbe
    clear hg hd hs hbx h4 hbe hmn
    go_wp2
    rw [jump_ret]
    have hr0 := HBS.out.c0
    have hr1 := HBS.out.c1
    refine bodyPost_ret (v := .tuple #[.agg #[.slice none 0 0, .slice none 0 0], .int .i64 4]) (by simp [results, Try.results16, go_sem, hr0, hr1]) rfl ⟨.slice none 0 0, .slice none 0 0, ?_, ?_, ?_⟩
    · rw [HSE.out, if_neg HMN.out]
    · rw [shR, HSE.out, if_neg HMN.out]
      exact OwnT.nil _ _
    · exact (HBE.out.setCell (by simp) _).setCell (by simp) _

theorem shape_any {a0 a1 v : Value} {s : Ten} {d : List Int} {w : World} (ha : Tens w a0 a1 s) (hd : Ints w v d) :
    Calls Try.prog 16 #[.agg #[a0, a1], v] w fun e w' => ∃ x0 x1, e = .returned (.tuple #[.agg #[x0, x1], .int .i64 (shE s d)]) ∧ OwnT w' w.heap.size x0 x1 (shR s d) ∧ Below w.heap.size w w' := by
  cases h : (okd d && tok s) with
  | true =>
    rw [Bool.and_eq_true] at h
    exact shape_go ha hd h.1 h.2
  | false =>
    have he : shE s d = 1 := by rw [shE, h]; rfl
    refine (shape_bad1 ha hd h).mono ?_
    rintro e w' ⟨rfl, hb⟩
    refine ⟨.slice none 0 0, .slice none 0 0, by rw [he], ?_, hb⟩
    rw [shR, he]
    exact OwnT.nil _ _
end Go.Proofs.Ytgedknmjenbacaa
