/- Contract: Steps. -/
import Derived.Test.YtgedknmjenbacaaW1
import Derived.Test.YtgedknmjenbacaaBlk
namespace Go.Proofs.Ytgedknmjenbacaa
set_option linter.unusedVariables false
open Go.RowKit

def stE (d : List Int) (k i : Nat) : Int := if i < k then prd ((d.take k).drop (i + 1)) else 0
def stA (d : List Int) (k : Nat) : List Int := (List.range d.length).map (stE d k)
def stI (d : List Int) (k j : Nat) : List Int := (List.range d.length).map fun i => if i < j then stE d (k + 1) i else stE d k i
def stp (d : List Int) : List Int := stA d d.length

theorem stA_length (d : List Int) (k : Nat) : (stA d k).length = d.length := by simp [stA]
theorem stI_length (d : List Int) (k j : Nat) : (stI d k j).length = d.length := by simp [stI]
theorem stA_zero (d : List Int) : stA d 0 = zer d.length := by
  apply List.ext_getElem
  · simp [stA, zer]
  · intro i h1 h2
    simp [stA, zer, stE]
theorem stI_zero (d : List Int) (k : Nat) : stI d k 0 = stA d k := by simp [stI, stA]
theorem stE_snoc (d : List Int) (k j : Nat) (hj : j < k) (hk : k < d.length) : stE d (k + 1) j = stE d k j * d[k] := by
  simp only [stE, hj, if_true, show j < k + 1 from by omega]
  rw [take_snoc d k hk, List.drop_append_of_le_length (by simp; omega), prd_snoc]
theorem stI_set (d : List Int) (k j : Nat) (hj : j < k) (hk : k < d.length) : (stI d k j).set j (stE d k j * d[k]) = stI d k (j + 1) := by
  apply List.ext_getElem
  · simp [stI]
  · intro i h1 h2
    simp only [List.getElem_set, stI, List.getElem_map, List.getElem_range]
    by_cases e : j = i
    · subst e
      simp [stE_snoc d k j hj hk]
    · rw [if_neg e]
      by_cases h : i < j
      · simp [h, show i < j + 1 from by omega]
      · simp [h, show ¬ i < j + 1 from by omega]
theorem stI_last (d : List Int) (k : Nat) : (stI d k k).set k 1 = stA d (k + 1) := by
  apply List.ext_getElem
  · simp [stI, stA]
  · intro i h1 h2
    simp only [List.getElem_set, stI, stA, List.getElem_map, List.getElem_range]
    by_cases e : k = i
    · subst e
      simp only [if_true, stE, show k < k + 1 from by omega]
      rw [List.drop_eq_nil_of_le (by simp; omega)]
      rfl
    · rw [if_neg e]
      by_cases h : i < k
      · simp [h]
      · simp [h, stE, show ¬ i < k + 1 from by omega]
theorem stI_get (d : List Int) (k j : Nat) (hj : j < k) (hk : k < d.length) (h : j < (stI d k j).length) : (stI d k j)[j] = stE d k j := by
  simp [stI]
theorem stE_bd {d : List Int} (hin : inr d = true) (k j : Nat) (hj : j < k) (hk : k ≤ 2) : 1 ≤ stE d k j ∧ stE d k j ≤ 64 := by
  simp only [stE, hj, if_true]
  have h : inr ((d.take k).drop (j + 1)) = true := by
    simp only [inr, List.all_eq_true, Bool.and_eq_true, decide_eq_true_eq] at hin ⊢
    exact fun x hx => hin x (List.mem_of_mem_take (List.mem_of_mem_drop hx))
  have := prd_lo h
  have := prd_hi h 2 (by simp; omega)
  omega

def It (w : World) (k : Nat) (s : ByteArray) (p : Nat) : Prop := w.heap[k]? = some (.stringIter s p)
theorem It.next {w : World} {I : Nat} {d : List Int} {k : Nat} (h : It w I (txt d) k) (hin : inr d = true) (hk : k < d.length) (ty : TypeId) :
    (Instr.next (.pointer (some ⟨I, 0, none⟩)) true ty).run Try.prog w = .ok (.tuple #[.bool true, .int .i64 k, .int .i32 (48 + d[k])]) (w.iterAt I (txt d) (k + 1)) := by
  have hx := inr_mem hin (List.getElem_mem hk)
  have hs : k < (txt d).size := by rw [size_txt]; exact hk
  obtain ⟨g1, g2⟩ := txt_get d k hk hx.1 hx.2 hs
  rw [Lib.run_next_ascii_at w I (txt d) k ty h hs g2, g1]
theorem It.done {w : World} {I : Nat} {d : List Int} (h : It w I (txt d) d.length) (ty : TypeId) :
    (Instr.next (.pointer (some ⟨I, 0, none⟩)) true ty).run Try.prog w = .ok (.tuple #[.bool false]) w :=
  Lib.run_next_end_at w I (txt d) d.length ty h (by rw [size_txt]; omega)
theorem It.lt {w : World} {I p : Nat} {s : ByteArray} (h : It w I s p) : I < w.heap.size := (Array.getElem?_eq_some_iff.1 h).1
theorem It.moved {w : World} {I p : Nat} {s : ByteArray} (h : It w I s p) (q : Nat) : It (w.iterAt I s q) I s q := by
  have := h.lt
  show _ = _
  simp [World.iterAt, this]
theorem Blk.moved {w : World} {B I : Nat} {xs : List Int} (h : Blk w B xs) (hi : I ≠ B) (s : ByteArray) (q : Nat) : Blk (w.iterAt I s q) B xs := by
  show _ = _
  simp only [World.iterAt, Array.getElem?_setIfInBounds]
  rw [if_neg hi]
  exact h
theorem Below.moved {w w' : World} {B I : Nat} (h : Below B w w') (hi : B ≤ I) (s : ByteArray) (q : Nat) : Below B w (w'.iterAt I s q) :=
  h.trans ⟨rfl, rfl, rfl, by simp [World.iterAt], fun k hk => by simp only [World.iterAt, Array.getElem?_setIfInBounds]; rw [if_neg (by omega)]⟩
theorem It.set {w : World} {I p : Nat} {s : ByteArray} (h : It w I s p) (a : Addr) (v : Value) (hi : I ≠ a.block) : It (w.setCell a v) I s p := (heap_setCell_other w a I v hi).trans h
theorem It.pos {w : World} {I p : Nat} {s : ByteArray} (h : It w I s p) : w.iterPos I = p := iterPos_of h
theorem It.new (w : World) (s : ByteArray) (p : Nat) : It (w.iter s p) w.heap.size s p := World.iter_heap w s p
theorem iter_alloc (w : World) (s : ByteArray) (p : Nat) : w.iter s p = w.alloc (.stringIter s p) := rfl

set_option maxHeartbeats 1000000 in
theorem steps_ok {v : Value} {d : List Int} {w : World} (h : Ints w v d) (hok : okd d = true) :
    Calls Try.prog 48 #[v] w fun e w' => e = .returned (.tuple #[.slice (some ⟨w.heap.size, 0, none⟩) d.length d.length, .int .i64 0]) ∧ Blk w' w.heap.size (stp d) ∧ Below w.heap.size w w' := by
  have H : Hid (Ints w v d) := h
  have HK : Hid (okd d = true) := hok
  obtain ⟨hl1, hl2, hin, hp⟩ := okd_parts hok
  have HI : Hid (inr d = true) := hin
  obtain ⟨av, c, hv⟩ : ∃ a c, v = .slice a d.length c := by
    rcases h.cases with ⟨rfl, a1, c1, rfl⟩ | ⟨b1, o1, c1, rfl, h0, h1, h2, h3⟩
    · exact ⟨_, _, rfl⟩
    · exact ⟨_, _, rfl⟩
  subst hv
  clear h hok hin hp
  have hmk := fun w => make_ints w d.length (by omega)
  go_enter Try.func48, Try.ntmps48
  go_wp2_with (go_at_call 49; refine (spell_any H.out).mono ?_; rw [spT_ok HK.out, erf_ok HK.out]; rintro e w' ⟨rfl, rfl⟩)
  go_loopw [] (fun w' => ∃ k : Nat, k ≤ d.length ∧ Blk w' w.heap.size (stA d k) ∧ It w' (w.heap.size + 1) (txt d) k ∧ Below w.heap.size w w') (fun w' => d.length - w'.iterPos (w.heap.size + 1))
  case atStart =>
    refine ⟨0, Nat.zero_le _, ?_, ?_, ?_⟩
    · rw [stA_zero]; exact (Blk.new w _).alloc _
    · have := It.new (w.alloc (.cells (ia (zer d.length)) 3)) (txt d) 0
      simpa using this
    · exact ((Below.refl _ _).alloc (Nat.le_refl _) _).alloc (by simp) _
  case round =>
    obtain ⟨k, hk, hB, hI, hbel⟩ := hrel
    by_cases hlt : k < d.length
    · have hnx := fun ty => hI.next HI.out hlt ty
      have HB1 : Hid (Blk (wr.iterAt (w.heap.size + 1) (txt d) (k + 1)) w.heap.size (stA d k)) := hB.moved (by omega) _ _
      have HI1 : Hid (It (wr.iterAt (w.heap.size + 1) (txt d) (k + 1)) (w.heap.size + 1) (txt d) (k + 1)) := hI.moved _
      have HL1 : Hid (Below w.heap.size w (wr.iterAt (w.heap.size + 1) (txt d) (k + 1))) := Below.moved hbel (by omega) _ _
      have HP : Hid (wr.iterPos (w.heap.size + 1) = k) := hI.pos
      obtain ⟨g1, g2⟩ := inr_mem HI.out (List.getElem_mem hlt)
      clear hB hI hbel
      go_wp2
      clear hnx
      go_loopw [28] (fun i w' => ∃ j : Nat, j ≤ k ∧ i = .int .i64 j ∧ Blk w' w.heap.size (stI d k j) ∧ It w' (w.heap.size + 1) (txt d) (k + 1) ∧ Below w.heap.size w w') (fun i _ => k - (intOf i).toNat)
      case atStart => exact ⟨0, Nat.zero_le _, rfl, by rw [stI_zero]; exact HB1.out, HI1.out, HL1.out⟩
      case round =>
        obtain ⟨j, hj, rfl, hB, hI, hbel⟩ := hrel
        by_cases hjk : j < k
        · have hc : wr.cell? ⟨w.heap.size, j, none⟩ = some (.int .i64 (stE d k j)) := by
            rw [hB.cell j (by rw [stI_length]; omega), stI_get d k j hjk hlt]
          have hf := hB.frozen j
          have hs := stE_bd HI.out k j hjk (by omega)
          have HB2 : Hid (Blk wr w.heap.size (stI d k j)) := hB
          have HI2 : Hid (It wr (w.heap.size + 1) (txt d) (k + 1)) := hI
          have HL2 : Hid (Below w.heap.size w wr) := hbel
          clear hB hI hbel
          obtain ⟨hs1, hs2⟩ := hs
          have hm1 : 1 ≤ stE d k j * d[k] := by
            have := Int.mul_le_mul hs1 g1 (by omega) (by omega)
            omega
          have hm2 : stE d k j * d[k] ≤ 512 := by
            have := Int.mul_le_mul hs2 g2 (by omega) (by omega)
            omega
          go_wp2
          go_region_with (go_at_call 50; refine (size_any _ _ g1 g2).mono ?_; rintro e w' ⟨rfl, rfl⟩)
          all_goals
            go_wp2
            go_roundw
            case rel =>
              refine ⟨j + 1, by omega, by go_num, ?_, ?_, ?_⟩
              · have := HB2.out.set j (stE d k j * d[k])
                rw [stI_set d k j hjk hlt] at this
                exact this
              · exact HI2.out.set _ _ (by simp)
              · exact (HL2.out.setCell (p := ⟨w.heap.size, j, none⟩) (Nat.le_refl w.heap.size) (.int .i64 (stE d k j * d[k]))).drew
            case measure => simp [intOf]; omega
        · have hj' : j = k := by omega
          subst hj'
          have hf := hB.frozen j
          have hc : ∃ x, wr.cell? ⟨w.heap.size, j, none⟩ = some x := ⟨_, hB.cell j (by rw [stI_length]; omega)⟩
          obtain ⟨x, hc⟩ := hc
          have HB2 : Hid (Blk wr w.heap.size (stI d j j)) := hB
          have HI2 : Hid (It wr (w.heap.size + 1) (txt d) (j + 1)) := hI
          have HL2 : Hid (Below w.heap.size w wr) := hbel
          clear hB hI hbel
          go_wp2
          go_roundw
          case rel =>
            refine ⟨j + 1, by omega, ?_, ?_, ?_⟩
            · have := HB2.out.set j 1
              rw [stI_last d j] at this
              exact this
            · exact HI2.out.set _ _ (by simp)
            · exact HL2.out.setCell (Nat.le_refl _) _
          case measure =>
            rw [(HI2.out.set ⟨w.heap.size, j, none⟩ (.int .i64 1) (by simp)).pos, HP.out]
            omega
    · have hk' : k = d.length := by omega
      subst hk'
      have hnx := fun ty => hI.done ty
      have HB1 : Hid (Blk wr w.heap.size (stp d)) := hB
      have HL1 : Hid (Below w.heap.size w wr) := hbel
      clear hB hI hbel
      go_wp2
      go_ret2
      exact ⟨rfl, HB1.out, HL1.out⟩

set_option maxHeartbeats 400000 in
theorem steps_bad {v : Value} {d : List Int} {w : World} (h : Ints w v d) (hok : okd d = false) :
    Calls Try.prog 48 #[v] w fun e w' => e = .returned (.tuple #[.slice none 0 0, .int .i64 1]) ∧ w = w' := by
  have H : Hid (Ints w v d) := h
  have HK : Hid (okd d = false) := hok
  clear h hok
  go_enter Try.func48, Try.ntmps48
  go_wp2_with (go_at_call 49; refine (spell_any H.out).mono ?_; rw [spT_bad HK.out, erf_bad HK.out]; rintro e w' ⟨rfl, rfl⟩)
  go_ret2
  exact ⟨rfl, rfl⟩
end Go.Proofs.Ytgedknmjenbacaa
