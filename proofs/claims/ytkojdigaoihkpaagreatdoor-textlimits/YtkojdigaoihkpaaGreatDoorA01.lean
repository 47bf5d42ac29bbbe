/- Part 1 of the texts that the theorem leans on. -/
import Derived.BigQuiet
import Derived.ChangeOld
import Derived.Deep.AppendLies
import Derived.Deep.DeepCutAuto
import Derived.Deep.DeepHandedRow
import Derived.Deep.QuietTactic
import Derived.Deep.RegionHeld3
import Derived.Deep.RegionHeldLaw
import Derived.Deep.RegionWith
import Derived.Deep.Slices
import Derived.Deep.Strs
import Derived.Laws.AppendOwnNone
import Derived.Laws.Bits64b
import Derived.Laws.BitsLemmas
import Derived.Laws.BytesString
import Derived.Laws.CopyOwn
import Derived.Laws.Cover4
import Derived.Laws.IdiomStrings
import Derived.Laws.Slices
import Derived.Laws.StructEq
import Derived.Lib.LaidTab
import Derived.Lib.LaidU8
import Derived.Lib.MapLaws
import Derived.Lib.OthersKept
import Derived.Lib.RuneCountTail
import Derived.Lib.SliceRun
import Derived.Lib.SmallJoins
import Derived.Lib.SpaceUEq
import Derived.Lib.SplitLaws
import Derived.Lib.TrimU
import Derived.LoopIn
import Derived.LoopN
import Derived.LoopNIn
import Derived.Maps.AppendAt
import Derived.OpenShut
import Derived.OwnWalkIn
import Derived.PinnedBridge
import Derived.ProofKit
import Derived.RangeFuncBound
import Derived.RangeFuncBox
import Derived.RangeFuncCalls
import Derived.RangeFuncLeaves
import Derived.RangeFuncNested
import Derived.ScopeJumps
import Derived.Shelf.Abstract
import Derived.Shelf.LaysM
import Derived.Shelf.RegionOpen
import Derived.Shelf.Slices.Turned
import Derived.Shelf.Small.Wraps
import Derived.Shelf.Strconv.Clone
import Derived.Shelf.Strconv.Itoa0
import Derived.Shelf.Strconv.Itoa1
import Derived.Shelf.Strconv.Itoa2
import Derived.Shelf.Strconv.Itoa3
import Derived.Shelf.Strings.Count
import Derived.Shelf.Strings.Cut
import Derived.Shelf.Strings.Prefix
import Derived.Shelf.Strings.Search1
import Derived.Shelf.Strings.Search2
import Derived.Shelf.Strings.Search3
import Derived.Shelf.Strings.Shaped
import Derived.Shelf.Strings.Split
import Derived.Shelf.Unicode.DecodeAny
import Derived.Shelf.Unicode.DecodeLastEight
import Derived.Shelf.Unicode.DecodeSlow
import Derived.SizedLaws
import Derived.TacticsInMore
import Derived.WalkKit
import Derived.WalkLawsBesides
import Derived.WalkMore
import Derived.WalkSpells
import Derived.Shelf.Strings.Repeat
import Derived.Lib.Join
import Derived.Shelf.Strings.Builder1
import Derived.Shelf.Strings.Builder2
import Derived.Shelf.Strings.OnBuilder
import Derived.Shelf.Strings.BuilderF
import Derived.Test.YtkojdigaoihkpaaGreatDoorChecked
import Derived.Test.YtkojdigaoihkpaaGreatDoorRows
import Derived.Test.YtkojdigaoihkpaaGreatDoorCards
import Derived.Test.YtkojdigaoihkpaaGreatDoorTie
section
namespace Go.Proofs.YtkojdigaoihkpaaGreatDoor
set_option linter.unusedVariables false
set_option linter.unusedSimpArgs false
set_option maxRecDepth 100000

/-- More numbers than fit into what may be handed in. -/
def big : Nat := 17592186044416
theorem big_max : big ≤ maxLen := by decide
def prd (d : List Int) : Int := d.foldl (fun a x => a * x) 1
def inr (d : List Int) : Bool := d.all (fun x => decide (1 ≤ x) && decide (x ≤ 8))
def okd (d : List Int) : Bool := decide (1 ≤ d.length) && decide (d.length ≤ 3) && inr d && decide (prd d ≤ 64)
def dig (x : Int) : UInt8 := UInt8.ofNat (48 + x.toNat)
def txt (d : List Int) : ByteArray := ⟨(d.map dig).toArray⟩
def erf (d : List Int) : Int := if okd d then 0 else 1
def spT (d : List Int) : ByteArray := if okd d then txt d else ⟨#[]⟩
theorem prd_snoc (l : List Int) (x : Int) : prd (l ++ [x]) = prd l * x := by simp [prd]
theorem inr_snoc (l : List Int) (x : Int) : inr (l ++ [x]) = (inr l && (decide (1 ≤ x) && decide (x ≤ 8))) := by simp [inr]
theorem txt_snoc (l : List Int) (x : Int) : txt (l ++ [x]) = txt l ++ ⟨#[dig x]⟩ := by
  have h := ByteArray.mk_append_mk (l.map dig) [dig x]
  simp only [txt, List.map_append, List.map_cons, List.map_nil]
  exact h.symm
theorem take_snoc (d : List Int) (k : Nat) (h : k < d.length) : d.take (k + 1) = d.take k ++ [d[k]] := by
  rw [List.take_succ_eq_append_getElem h]
theorem inr_mem {d : List Int} (h : inr d = true) {x : Int} (hx : x ∈ d) : 1 ≤ x ∧ x ≤ 8 := by
  simp only [inr, List.all_eq_true, Bool.and_eq_true, decide_eq_true_eq] at h
  exact h x hx
theorem inr_take {d : List Int} (h : inr d = true) (k : Nat) : inr (d.take k) = true := by
  simp only [inr, List.all_eq_true, Bool.and_eq_true, decide_eq_true_eq] at h ⊢
  exact fun x hx => h x (List.mem_of_mem_take hx)
theorem inr_bad {d : List Int} (k : Nat) (h : k < d.length) (hb : ¬ (1 ≤ d[k] ∧ d[k] ≤ 8)) : inr d = false := by
  cases hi : inr d with
  | false => rfl
  | true => exact absurd (inr_mem hi (List.getElem_mem h)) hb
theorem prd_lo {l : List Int} (h : inr l = true) : 1 ≤ prd l := by
  have key : ∀ (l : List Int) (a : Int), 1 ≤ a → (∀ x ∈ l, 1 ≤ x) → 1 ≤ l.foldl (fun a x => a * x) a := by
    intro l
    induction l with
    | nil => intro a ha _; exact ha
    | cons x l ih =>
      intro a ha hx
      refine ih (a * x) ?_ fun y hy => hx y (List.mem_cons_of_mem _ hy)
      have := hx x (List.mem_cons_self ..)
      have := Int.mul_le_mul ha this (by omega) (by omega)
      omega
  exact key l 1 (by omega) fun x hx => (inr_mem h hx).1
theorem prd_hi {l : List Int} (h : inr l = true) (k : Nat) (hk : l.length ≤ k) : prd l ≤ 8 ^ k := by
  have key : ∀ (l : List Int) (a : Int) (k : Nat), 1 ≤ a → (∀ x ∈ l, 1 ≤ x ∧ x ≤ 8) → l.length ≤ k → l.foldl (fun a x => a * x) a ≤ a * 8 ^ k := by
    intro l
    induction l with
    | nil =>
      intro a k ha _ _
      have h8 : (1 : Int) ≤ 8 ^ k := by
        have : (0 : Int) < 8 ^ k := Int.pow_pos (by omega)
        omega
      have ha0 : (0 : Int) ≤ a := by omega
      have := Int.mul_le_mul_of_nonneg_left h8 ha0
      simpa using this
    | cons x l ih =>
      intro a k ha hx hl
      obtain ⟨k, rfl⟩ : ∃ j, k = j + 1 := ⟨k - 1, by simp at hl; omega⟩
      have hx0 := hx x (List.mem_cons_self ..)
      have h1 : 1 ≤ a * x := by
        have := Int.mul_le_mul ha hx0.1 (by omega) (by omega)
        omega
      refine Int.le_trans (ih (a * x) k h1 (fun y hy => hx y (List.mem_cons_of_mem _ hy)) (by simp at hl; omega)) ?_
      rw [Int.pow_succ, ← Int.mul_assoc, Int.mul_right_comm a (8 ^ k) 8]
      refine Int.mul_le_mul_of_nonneg_right ?_ (Int.le_of_lt (Int.pow_pos (by omega)))
      exact Int.mul_le_mul_of_nonneg_left hx0.2 (by omega)
  have := key l 1 k (by omega) (fun x hx => inr_mem h hx) hk
  rw [Int.one_mul] at this
  exact this
theorem okd_parts {d : List Int} (h : okd d = true) : 1 ≤ d.length ∧ d.length ≤ 3 ∧ inr d = true ∧ prd d ≤ 64 := by
  simp only [okd, Bool.and_eq_true, decide_eq_true_eq] at h
  exact ⟨h.1.1.1, h.1.1.2, h.1.2, h.2⟩
theorem okd_mk {d : List Int} (h1 : 1 ≤ d.length) (h2 : d.length ≤ 3) (h3 : inr d = true) (h4 : prd d ≤ 64) : okd d = true := by
  simp [okd, h1, h2, h3, h4]
theorem okd_len {d : List Int} (h : d.length < 1 ∨ 3 < d.length) : okd d = false := by
  cases hi : okd d with
  | false => rfl
  | true => obtain ⟨a, b, _⟩ := okd_parts hi; omega
theorem okd_inr {d : List Int} (h : inr d = false) : okd d = false := by simp [okd, h]
theorem okd_prd {d : List Int} (h : 64 < prd d) : okd d = false := by
  have : ¬ prd d ≤ 64 := by omega
  simp [okd, this]
theorem erf_ok {d : List Int} (h : okd d = true) : erf d = 0 := by simp [erf, h]
theorem erf_bad {d : List Int} (h : okd d = false) : erf d = 1 := by simp [erf, h]
theorem spT_ok {d : List Int} (h : okd d = true) : spT d = txt d := by simp [spT, h]
theorem spT_bad {d : List Int} (h : okd d = false) : spT d = ⟨#[]⟩ := by simp [spT, h]
theorem enc_dig (x : Int) (h1 : 1 ≤ x) (h2 : x ≤ 8) : Utf8.encode (48 + x) = ⟨#[dig x]⟩ := by
  have : x = 1 ∨ x = 2 ∨ x = 3 ∨ x = 4 ∨ x = 5 ∨ x = 6 ∨ x = 7 ∨ x = 8 := by omega
  rcases this with rfl | rfl | rfl | rfl | rfl | rfl | rfl | rfl <;> decide +kernel
theorem size_txt (d : List Int) : (txt d).size = d.length := by simp [txt, ByteArray.size]
end Go.Proofs.YtkojdigaoihkpaaGreatDoor

end
section
namespace Go.Proofs.YtkojdigaoihkpaaGreatDoor
set_option linter.unusedVariables false
set_option linter.unusedSimpArgs false
set_option maxRecDepth 100000
open Go.RowKit

def Ints (w : World) (v : Value) (d : List Int) : Prop :=
  (v = .slice none 0 0 ∧ d = []) ∨ ∃ (a : Addr) (c : Nat), v = .slice (some a) d.length c ∧ d.length ≤ c ∧ d.length ≤ big ∧
    ∀ i (h : i < d.length), ∃ b off, a = ⟨b, off, none⟩ ∧ w.cell? ⟨b, off + i, none⟩ = some (.int .i64 d[i])
theorem Ints.cases {w : World} {v : Value} {d : List Int} (h : Ints w v d) :
    (d = [] ∧ ∃ a c, v = .slice a 0 c) ∨ ∃ b off c, v = .slice (some ⟨b, off, none⟩) d.length c ∧ 0 < d.length ∧ d.length ≤ c ∧ d.length ≤ big ∧
      Hid (∀ i (h : i < d.length), w.cell? ⟨b, off + i, none⟩ = some (.int .i64 d[i])) := by
  rcases h with ⟨rfl, rfl⟩ | ⟨a, c, rfl, h1, h2, h3⟩
  · exact Or.inl ⟨rfl, _, _, rfl⟩
  · by_cases h0 : 0 < d.length
    · obtain ⟨b, off, rfl, _⟩ := h3 0 h0
      refine Or.inr ⟨b, off, c, rfl, h0, h1, h2, ?_⟩
      intro i hi
      obtain ⟨b', off', e, hc⟩ := h3 i hi
      cases e
      exact hc
    · have : d = [] := List.eq_nil_of_length_eq_zero (by omega)
      subst this
      exact Or.inl ⟨rfl, _, _, rfl⟩
theorem Ints.mk {w : World} {d : List Int} {b off c n : Nat} (hn : n = d.length) (h1 : d.length ≤ c) (h2 : d.length ≤ big) (h : ∀ i (h : i < d.length), w.cell? ⟨b, off + i, none⟩ = some (.int .i64 d[i])) :
    Ints w (.slice (some ⟨b, off, none⟩) n c) d := by
  subst hn
  exact Or.inr ⟨_, c, rfl, h1, h2, fun i hi => ⟨b, off, rfl, h i hi⟩⟩
theorem Ints.nil (w : World) : Ints w (.slice none 0 0) [] := Or.inl ⟨rfl, rfl⟩
theorem Ints.later {w w' : World} {v : Value} {d : List Int} (hb : Below w.heap.size w w') (h : Ints w v d) : Ints w' v d := by
  rcases h with ⟨rfl, rfl⟩ | ⟨a, c, rfl, h1, h2, h3⟩
  · exact Ints.nil _
  · refine Or.inr ⟨a, c, rfl, h1, h2, fun i hi => ?_⟩
    obtain ⟨b, off, e, hc⟩ := h3 i hi
    exact ⟨b, off, e, cell_later hb hc⟩
theorem Ints.shape {w : World} {v : Value} {d : List Int} (h : Ints w v d) : ∃ a c, v = .slice a d.length c := by
  rcases h.cases with ⟨rfl, a1, c1, rfl⟩ | ⟨b1, o1, c1, rfl, _⟩
  · exact ⟨_, _, rfl⟩
  · exact ⟨_, _, rfl⟩
theorem Ints.len {w : World} {v : Value} {d : List Int} (h : Ints w v d) : d.length ≤ big := by
  rcases h.cases with ⟨rfl, a1, c1, rfl⟩ | ⟨b1, o1, c1, rfl, _, h1, h2, _⟩
  · exact Nat.zero_le _
  · omega
theorem Below.after {w w1 w2 : World} (h1 : Below w.heap.size w w1) (h2 : Below w1.heap.size w1 w2) : Below w.heap.size w w2 :=
  h1.trans (h2.mono h1.size)
theorem Below.drewN {w w' : World} {B : Nat} (h : Below B w w') (n : Nat) : Below B w (w'.drewN n) :=
  h.trans ⟨rfl, rfl, rfl, Nat.le_refl _, fun _ _ => rfl⟩
/-- The value lies in blocks from B on. -/
def From (B : Nat) (v : Value) : Prop := ∀ k, v.ownBlock = some k → B ≤ k
theorem Ints.setCell {w : World} {v : Value} {d : List Int} (h : Ints w v d) (p : Addr) (u : Value) (hp : ∀ k, v.ownBlock = some k → k ≠ p.block) : Ints (w.setCell p u) v d := by
  rcases h with ⟨rfl, rfl⟩ | ⟨a, c, rfl, h1, h2, h3⟩
  · exact Ints.nil _
  · refine Or.inr ⟨a, c, rfl, h1, h2, fun i hi => ?_⟩
    obtain ⟨b, off, rfl, hc⟩ := h3 i hi
    refine ⟨b, off, rfl, ?_⟩
    rw [World.cell?_of_block (w := w)]
    · exact hc
    · exact Below.heap_setCell _ _ _ _ (hp b rfl)
theorem quiet_eq {P : Program} {f : FuncId} {args : Array Value} {w : World} {n : Nat} {v : Value}
    (h : Calls P f args (w.drewN n) fun e w' => e = .returned v ∧ w.drewN n = w') : Calls P f args (w.drewN n) fun e w'' => e = .returned v ∧ ∃ m, w'' = w.drewN m :=
  h.mono fun _ _ ⟨he, hm⟩ => ⟨he, n, hm.symm⟩
theorem jump_ret {l : Nat} {J : Act → World → Prop} {Q : Exit → Act → World → Prop} {a : Act} {w : World} : Exit.jump l J Q .ret a w = Q .ret a w := rfl
set_option maxHeartbeats 400000 in
theorem size_any (x : Int) (w : World) (h1 : 1 ≤ x) (h2 : x ≤ 8) :
    Calls Tryz.prog 147 #[.int .i32 (48 + x)] w fun e w' => e = .returned (.int .i64 x) ∧ w = w' := by
  go_enter Tryz.func147, Tryz.ntmps147
  go_wp2
  go_ret
  exact ⟨by go_num, rfl⟩
set_option maxHeartbeats 400000 in
theorem spell_some (b off c : Nat) (d : List Int) (w : World) (hc : d.length ≤ c)
    (HC : Hid (∀ i (h : i < d.length), w.cell? ⟨b, off + i, none⟩ = some (.int .i64 d[i]))) :
    Calls Tryz.prog 146 #[.slice (some ⟨b, off, none⟩) d.length c] w fun e w' => e = .returned (.tuple #[.string (spT d), .int .i64 (erf d)]) ∧ w = w' := by
  go_enter Tryz.func146, Tryz.ntmps146
  go_wp2
  refine wp_scope_jumps 0 (fun a' w' => (w' = w ∧ Hid (okd d = false)) ∧ ∃ (u0 u1 u2 u3 u4 u5 u6 u7 u8 u9 u10 u11 u12 u13 u14 u15 u16 u17 u18 u19 u20 u21 u22 u23 u24 u25 u26 u27 u28 u29 u30 u31 u32 u33 u34 u35 u36 u37 u38 u39 u40 : Value), a' = { tmps := #[u0, u1, u2, u3, u4, u5, u6, u7, u8, u9, u10, u11, u12, u13, u14, u15, u16, u17, u18, u19, u20, u21, u22, u23, u24, u25, u26, u27, u28, u29, u30, u31, u32, u33, u34, u35, u36, u37, u38, u39, u40], defers := [] }) (fun _ _ => 0) rfl ?_ ?_
  · by_cases h0 : d.length < 1
    · go_wp2
      go_step3
      exact ⟨rfl, ⟨rfl, okd_len (Or.inl h0)⟩, _, _, _, _, _, _, _, _, _, _, _, _, _, _, _, _, _, _, _, _, _, _, _, _, _, _, _, _, _, _, _, _, _, _, _, _, _, _, _, _, _, rfl⟩
    by_cases h3 : 3 < d.length
    · go_wp2
      go_step3
      exact ⟨rfl, ⟨rfl, okd_len (Or.inr h3)⟩, _, _, _, _, _, _, _, _, _, _, _, _, _, _, _, _, _, _, _, _, _, _, _, _, _, _, _, _, _, _, _, _, _, _, _, _, _, _, _, _, _, rfl⟩
    go_wp2
    go_loop [4, 5, 18] (fun t p i => ∃ k : Nat, k ≤ d.length ∧ i = .int .i64 k ∧ t = .string (txt (d.take k)) ∧ p = .int .i64 (prd (d.take k)) ∧ inr (d.take k) = true) (fun _ _ i => d.length - (intOf i).toNat)
    case atStart => exact ⟨0, Nat.zero_le _, rfl, rfl, rfl, rfl⟩
    case round =>
      obtain ⟨k, hk, rfl, rfl, rfl, hin⟩ := hrel
      by_cases hlt : k < d.length
      · have hx := HC.out k hlt
        have hp1 := prd_lo hin
        have hp2 := prd_hi hin 2 (by simp; omega)
        have ht := take_snoc d k hlt
        have HT : Hid (d.take (k + 1) = d.take k ++ [d[k]]) := ht
        clear ht
        by_cases hg : 1 ≤ d[k] ∧ d[k] ≤ 8
        · obtain ⟨g1, g2⟩ := hg
          have HE : Hid (Utf8.encode (48 + d[k]) = ⟨#[dig d[k]]⟩) := enc_dig d[k] g1 g2
          have hm1 : 1 ≤ prd (d.take k) * d[k] := by
            have := Int.mul_le_mul hp1 g1 (by omega) (by omega)
            omega
          have hm2 : prd (d.take k) * d[k] ≤ 512 := by
            have := Int.mul_le_mul hp2 g2 (by omega) (by omega)
            omega
          have hs1 : (txt (d.take k)).size ≤ 3 := by rw [size_txt]; simp; omega
          have hs2 : (Utf8.encode (48 + d[k])).size ≤ 1 := by rw [HE.out]; exact Nat.le_refl 1
          go_wp2
          refine ⟨⟨k + 1, by omega, by go_num, ?_, ?_, ?_⟩, by simp [intOf]; omega⟩
          · rw [HT.out, txt_snoc, HE.out]
          · rw [HT.out, prd_snoc]
          · rw [HT.out, inr_snoc, hin]; simp [g1, g2]
        · have hb := okd_inr (inr_bad k hlt hg)
          have HB : Hid (okd d = false) := hb
          clear hb
          by_cases g1 : d[k] < 1
          · go_wp2
            go_step3
            exact ⟨rfl, ⟨rfl, HB⟩, _, _, _, _, _, _, _, _, _, _, _, _, _, _, _, _, _, _, _, _, _, _, _, _, _, _, _, _, _, _, _, _, _, _, _, _, _, _, _, _, _, rfl⟩
          · have g2 : 8 < d[k] := by omega
            go_wp2
            go_step3
            exact ⟨rfl, ⟨rfl, HB⟩, _, _, _, _, _, _, _, _, _, _, _, _, _, _, _, _, _, _, _, _, _, _, _, _, _, _, _, _, _, _, _, _, _, _, _, _, _, _, _, _, _, rfl⟩
      · have hk' : k = d.length := by omega
        subst hk'
        rw [List.take_length] at hin ⊢
        have hp1 := prd_lo hin
        have hp2 := prd_hi hin 3 (by omega)
        by_cases hp : prd d ≤ 64
        · have hok := okd_mk (by omega) (by omega) hin hp
          have HK : Hid (okd d = true) := hok
          clear hok
          go_wp2
          rw [jump_ret]
          go_ret2
          exact ⟨by rw [spT_ok HK.out, erf_ok HK.out]; rfl, rfl⟩
        · have HB : Hid (okd d = false) := okd_prd (by omega)
          go_wp2
          go_step3
          exact ⟨rfl, ⟨rfl, HB⟩, _, _, _, _, _, _, _, _, _, _, _, _, _, _, _, _, _, _, _, _, _, _, _, _, _, _, _, _, _, _, _, _, _, _, _, _, _, _, _, _, _, rfl⟩
  · rintro a w' ⟨⟨rfl, hbad⟩, u0, u1, u2, u3, u4, u5, u6, u7, u8, u9, u10, u11, u12, u13, u14, u15, u16, u17, u18, u19, u20, u21, u22, u23, u24, u25, u26, u27, u28, u29, u30, u31, u32, u33, u34, u35, u36, u37, u38, u39, u40, rfl⟩
    go_wp2
    rw [jump_ret]
    go_ret2
    exact ⟨by rw [spT_bad hbad.out, erf_bad hbad.out]; rfl, rfl⟩
set_option maxHeartbeats 400000 in
theorem spell_none (a : Option Addr) (c : Nat) (w : World) :
    Calls Tryz.prog 146 #[.slice a 0 c] w fun e w' => e = .returned (.tuple #[.string ⟨#[]⟩, .int .i64 1]) ∧ w = w' := by
  go_enter Tryz.func146, Tryz.ntmps146
  go_wp2
  refine wp_scope_jumps 0 (fun a' w' => (w' = w) ∧ ∃ (u0 u1 u2 u3 u4 u5 u6 u7 u8 u9 u10 u11 u12 u13 u14 u15 u16 u17 u18 u19 u20 u21 u22 u23 u24 u25 u26 u27 u28 u29 u30 u31 u32 u33 u34 u35 u36 u37 u38 u39 u40 : Value), a' = { tmps := #[u0, u1, u2, u3, u4, u5, u6, u7, u8, u9, u10, u11, u12, u13, u14, u15, u16, u17, u18, u19, u20, u21, u22, u23, u24, u25, u26, u27, u28, u29, u30, u31, u32, u33, u34, u35, u36, u37, u38, u39, u40], defers := [] }) (fun _ _ => 0) rfl ?_ ?_
  · go_wp2
    go_step3
    exact ⟨rfl, rfl, _, _, _, _, _, _, _, _, _, _, _, _, _, _, _, _, _, _, _, _, _, _, _, _, _, _, _, _, _, _, _, _, _, _, _, _, _, _, _, _, _, rfl⟩
  · rintro a w' ⟨rfl, u0, u1, u2, u3, u4, u5, u6, u7, u8, u9, u10, u11, u12, u13, u14, u15, u16, u17, u18, u19, u20, u21, u22, u23, u24, u25, u26, u27, u28, u29, u30, u31, u32, u33, u34, u35, u36, u37, u38, u39, u40, rfl⟩
    go_wp2
    rw [jump_ret]
    go_ret2
    exact ⟨rfl, rfl⟩
theorem spell_any {v : Value} {d : List Int} {w : World} (h : Ints w v d) :
    Calls Tryz.prog 146 #[v] w fun e w' => e = .returned (.tuple #[.string (spT d), .int .i64 (erf d)]) ∧ w = w' := by
  rcases h.cases with ⟨rfl, a, c, rfl⟩ | ⟨b, off, c, rfl, h0, h1, h2, h3⟩
  · exact spell_none a c w
  · exact spell_some b off c d w h1 h3
theorem txt_get (d : List Int) (k : Nat) (h : k < d.length) (h1 : 1 ≤ d[k]) (h2 : d[k] ≤ 8) (hs : k < (txt d).size) : ((txt d)[k].toNat : Int) = 48 + d[k] ∧ (txt d)[k].toNat < 128 := by
  have e : (txt d)[k] = dig d[k] := by simp [txt, ByteArray.getElem_eq_getElem_data]
  rw [e]
  have : (dig d[k]).toNat = 48 + d[k].toNat := by
    simp only [dig, UInt8.toNat_ofNat']
    omega
  rw [this]
  omega
theorem next_dig {d : List Int} (hok : okd d = true) (w : World) (k : Nat) (h : k < d.length) (ty : TypeId) :
    (Instr.next (.pointer (some ⟨w.heap.size, 0, none⟩)) true ty).run Tryz.prog (w.iter (txt d) k) = .ok (.tuple #[.bool true, .int .i64 k, .int .i32 (48 + d[k])]) (w.iter (txt d) (k + 1)) := by
  obtain ⟨_, _, hin, _⟩ := okd_parts hok
  have hx := inr_mem hin (List.getElem_mem h)
  have hs : k < (txt d).size := by rw [size_txt]; exact h
  obtain ⟨g1, g2⟩ := txt_get d k h hx.1 hx.2 hs
  rw [run_next_ascii w (txt d) k ty hs g2, g1]
theorem next_end {d : List Int} (w : World) (ty : TypeId) :
    (Instr.next (.pointer (some ⟨w.heap.size, 0, none⟩)) true ty).run Tryz.prog (w.iter (txt d) d.length) = .ok (.tuple #[.bool false]) (w.iter (txt d) d.length) := run_next_end w (txt d) d.length ty (by rw [size_txt]; omega)
set_option maxHeartbeats 400000 in
theorem cells_ok {v : Value} {d : List Int} {w : World} (h : Ints w v d) (hok : okd d = true) :
    Calls Tryz.prog 128 #[v] w fun e w' => e = .returned (.tuple #[.int .i64 (prd d), .int .i64 0]) ∧ Below w.heap.size w w' := by
  have H : Hid (Ints w v d) := h
  have HK : Hid (okd d = true) := hok
  obtain ⟨hl1, hl2, hin, hp⟩ := okd_parts hok
  have HI : Hid (inr d = true) := hin
  clear h hok hin
  go_enter Tryz.func128, Tryz.ntmps128
  go_wp2_with (go_at_call 146; refine (spell_any H.out).mono ?_; rw [spT_ok HK.out, erf_ok HK.out]; rintro e w' ⟨rfl, rfl⟩)
  go_loopw [6] (fun p w' => ∃ k : Nat, k ≤ d.length ∧ w' = w.iter (txt d) k ∧ p = .int .i64 (prd (d.take k))) (fun _ w' => d.length - w'.iterPos w.heap.size)
  case atStart => exact ⟨0, Nat.zero_le _, rfl, rfl⟩
  case round =>
    obtain ⟨k, hk, rfl, rfl⟩ := hrel
    by_cases hlt : k < d.length
    · have hnx := fun ty => next_dig HK.out w k hlt ty
      have hx := inr_mem HI.out (List.getElem_mem hlt)
      obtain ⟨g1, g2⟩ := hx
      have hp1 := prd_lo (inr_take HI.out k)
      have hp2 := prd_hi (inr_take HI.out k) 2 (by simp; omega)
      have HT : Hid (d.take (k + 1) = d.take k ++ [d[k]]) := take_snoc d k hlt
      have hm1 : 1 ≤ prd (d.take k) * d[k] := by
        have := Int.mul_le_mul hp1 g1 (by omega) (by omega)
        omega
      have hm2 : prd (d.take k) * d[k] ≤ 512 := by
        have := Int.mul_le_mul hp2 g2 (by omega) (by omega)
        omega
      go_wp2_with (go_at_call 147; refine (size_any _ _ g1 g2).mono ?_; rintro e w' ⟨rfl, rfl⟩)
      go_roundw
      case rel => exact ⟨k + 1, by omega, rfl, by rw [HT.out, prd_snoc]⟩
      case measure => simp; omega
    · have hk' : k = d.length := by omega
      subst hk'
      have hnx := fun ty => next_end (d := d) w ty
      rw [List.take_length]
      go_wp2
      go_ret2
      exact ⟨rfl, (Below.refl _ _).alloc (Nat.le_refl _) _⟩
set_option maxHeartbeats 400000 in
theorem cells_bad {v : Value} {d : List Int} {w : World} (h : Ints w v d) (hok : okd d = false) :
    Calls Tryz.prog 128 #[v] w fun e w' => e = .returned (.tuple #[.int .i64 0, .int .i64 1]) ∧ w = w' := by
  have H : Hid (Ints w v d) := h
  have HK : Hid (okd d = false) := hok
  clear h hok
  go_enter Tryz.func128, Tryz.ntmps128
  go_wp2_with (go_at_call 146; refine (spell_any H.out).mono ?_; rw [spT_bad HK.out, erf_bad HK.out]; rintro e w' ⟨rfl, rfl⟩)
  go_ret2
  exact ⟨rfl, rfl⟩
set_option maxHeartbeats 400000 in
theorem eqn_any {v v' : Value} {a b : List Int} {w : World} (ha : Ints w v a) (hb : Ints w v' b) :
    Calls Tryz.prog 63 #[v, v'] w fun e w' => e = .returned (.bool (a == b)) ∧ ∃ n, w' = w.drewN n := by
  by_cases hl : a.length = b.length
  · have HL : Hid (a.length = b.length) := hl
    rcases ha.cases with ⟨rfl, a1, c1, rfl⟩ | ⟨b1, o1, c1, rfl, h0, h1, h2, h3⟩
    · rcases hb.cases with ⟨rfl, a2, c2, rfl⟩ | ⟨b2, o2, c2, rfl, h0, h1, h2, h3⟩
      · clear ha hb hl HL
        go_enter Tryz.func63, Tryz.ntmps63
        go_wp2
        refine wp_loop_rounds 1 ?_
        rw [rounds_succ]
        go_wp2
        go_ret
        exact ⟨rfl, 0, rfl⟩
      · simp only [List.length_nil] at hl; omega
    · rcases hb.cases with ⟨rfl, a2, c2, rfl⟩ | ⟨b2, o2, c2, rfl, h0', h1', h2', h3'⟩
      · simp only [List.length_nil] at hl; omega
      · clear ha hb
        have hlb : (b.length : Int) = a.length := by omega
        have hne : ((a.length : Int) != (b.length : Int)) = false := by simp [hl]
        unfold big at h2 h2'
        clear hl hlb
        go_enter Tryz.func63, Tryz.ntmps63
        go_wp2
        go_loopw [5] (fun i w' => ∃ k m : Nat, k ≤ a.length ∧ i = .int .i64 k ∧ w' = w.drewN m ∧ Hid (a.take k = b.take k)) (fun i _ => a.length - (intOf i).toNat)
        case atStart => exact ⟨0, 0, Nat.zero_le _, rfl, rfl, rfl⟩
        case round =>
          obtain ⟨k, m, hk, rfl, rfl, hpre⟩ := hrel
          by_cases hlt : k < a.length
          · have hlt' : k < b.length := by have := HL.out; omega
            have hx := h3.out k hlt
            have hy := h3'.out k hlt'
            have T1 : Hid (a.take (k + 1) = a.take k ++ [a[k]]) := take_snoc a k hlt
            have T2 : Hid (b.take (k + 1) = b.take k ++ [b[k]]) := take_snoc b k hlt'
            by_cases he : a[k] = b[k]
            · have he' : (a[k] != b[k]) = false := by simp [he]
              have HE : Hid (a[k] = b[k]) := he
              clear he
              go_wp2
              go_quiet (fail)
              go_wp2
              go_roundw
              case rel => exact ⟨k + 1, m + nq, by omega, by go_num, rfl, by show _ = _; rw [T1.out, T2.out, hpre.out, HE.out]⟩
              case measure => simp [intOf]; omega
            · have he' : (a[k] != b[k]) = true := by simp [he]
              have HN : Hid (¬ a = b) := fun e => he (by subst e; rfl)
              clear he
              go_wp2
              go_quiet (fail)
              go_wp2
              go_ret
              exact ⟨by rw [beq_eq_false_iff_ne.2 HN.out]; rfl, m + nq, by rw [World.drewN_drewN]⟩
          · have hk' : k = a.length := by omega
            have HE : Hid (a = b) := by
              have := hpre.out
              rw [List.take_of_length_le (by omega), List.take_of_length_le (by have := HL.out; omega)] at this
              exact this
            go_wp2
            go_ret
            exact ⟨by rw [HE.out, beq_self_eq_true]; rfl, _, rfl⟩
  · have HN : Hid (¬ a = b) := fun e => hl (by rw [e])
    have hne : ((a.length : Int) != (b.length : Int)) = true := by simp; omega
    rcases ha.cases with ⟨rfl, a1, c1, rfl⟩ | ⟨b1, o1, c1, rfl, h0, h1, h2, h3⟩
    · rcases hb.cases with ⟨rfl, a2, c2, rfl⟩ | ⟨b2, o2, c2, rfl, h0', h1', h2', h3'⟩
      · exact absurd rfl HN.out
      · clear ha hb hl
        go_enter Tryz.func63, Tryz.ntmps63
        go_wp2
        go_ret
        exact ⟨by rw [beq_eq_false_iff_ne.2 HN.out]; rfl, 0, rfl⟩
    · rcases hb.cases with ⟨rfl, a2, c2, rfl⟩ | ⟨b2, o2, c2, rfl, h0', h1', h2', h3'⟩
      · clear ha hb hl
        go_enter Tryz.func63, Tryz.ntmps63
        go_wp2
        go_ret
        exact ⟨by rw [beq_eq_false_iff_ne.2 HN.out]; rfl, 0, rfl⟩
      · clear ha hb hl
        go_enter Tryz.func63, Tryz.ntmps63
        go_wp2
        go_ret
        exact ⟨by rw [beq_eq_false_iff_ne.2 HN.out]; rfl, 0, rfl⟩
def widAt (x y : Int) : Bool := x == y || x == 1
def wid (a b : List Int) : Bool := a.length == b.length && (a.zip b).all fun p => widAt p.1 p.2
theorem wid_len {a b : List Int} (h : ¬ a.length = b.length) : wid a b = false := by simp [wid, h]
theorem wid_bad {a b : List Int} (k : Nat) (h1 : k < a.length) (h2 : k < b.length) (h : widAt a[k] b[k] = false) : wid a b = false := by
  cases e : wid a b with
  | false => rfl
  | true =>
    simp only [wid, Bool.and_eq_true, List.all_eq_true] at e
    have := e.2 (a[k], b[k]) (by
      rw [List.mem_iff_getElem]
      exact ⟨k, by simp; omega, by simp⟩)
    rw [h] at this
    exact this.symm
theorem wid_ok {a b : List Int} (hl : a.length = b.length) (h : ∀ k (h1 : k < a.length) (h2 : k < b.length), widAt a[k] b[k] = true) : wid a b = true := by
  simp only [wid, hl, beq_self_eq_true, Bool.true_and, List.all_eq_true]
  intro p hp
  rw [List.mem_iff_getElem] at hp
  obtain ⟨k, hk, rfl⟩ := hp
  simp at hk
  simpa using h k (by omega) (by omega)
def wdr (a b : List Int) : Int := if okd a && okd b then (if wid a b then 0 else 4) else 1
def ia (xs : List Int) : Array Value := (xs.map (Value.int .i64)).toArray
def Blk (w : World) (B : Nat) (xs : List Int) : Prop := w.heap[B]? = some (.cells (ia xs) 3 (0, 0))
def zer (n : Nat) : List Int := List.replicate n 0
theorem ia_size (xs : List Int) : (ia xs).size = xs.length := by simp [ia]
theorem ia_get (xs : List Int) (j : Nat) (h : j < xs.length) : (ia xs)[j]? = some (.int .i64 xs[j]) := by simp [ia, h]
theorem Blk.cell {w : World} {B : Nat} {xs : List Int} (h : Blk w B xs) (j : Nat) (hj : j < xs.length) : w.cell? ⟨B, j, none⟩ = some (.int .i64 xs[j]) := by
  rw [cell_of_row w B j (ia xs) 3 (0, 0) h, ia_get xs j hj]
theorem Blk.frozen {w : World} {B : Nat} {xs : List Int} (h : Blk w B xs) (j : Nat) : w.frozen? ⟨B, j, none⟩ = false := frozen_of_row w B j (ia xs) 3 h
theorem Blk.lt {w : World} {B : Nat} {xs : List Int} (h : Blk w B xs) : B < w.heap.size := (Array.getElem?_eq_some_iff.1 h).1
theorem Blk.set {w : World} {B : Nat} {xs : List Int} (h : Blk w B xs) (j : Nat) (v : Int) : Blk (w.setCell ⟨B, j, none⟩ (.int .i64 v)) B (xs.set j v) := by
  have := heap_setCell_same w B j (ia xs) 3 (.int .i64 v) h
  show _ = _
  rw [this]
  simp [ia]
theorem Blk.setOther {w : World} {B : Nat} {xs : List Int} (h : Blk w B xs) (a : Addr) (v : Value) (hb : B ≠ a.block) : Blk (w.setCell a v) B xs :=
  (heap_setCell_other w a B v hb).trans h
theorem Blk.later {w w' : World} {B N : Nat} {xs : List Int} (h : Blk w B xs) (hb : Below N w w') (hN : B < N) : Blk w' B xs := (hb.block B hN).trans h
theorem Blk.drew {w : World} {B : Nat} {xs : List Int} (h : Blk w B xs) : Blk w.drew B xs := h
theorem Blk.alloc {w : World} {B : Nat} {xs : List Int} (h : Blk w B xs) (o : Obj) : Blk (w.alloc o) B xs := (Below.heap_alloc w o B h.lt).trans h
theorem Blk.new (w : World) (xs : List Int) : Blk (w.alloc (.cells (ia xs) 3)) w.heap.size xs := heap_alloc_new w _
theorem Blk.ints {w : World} {B : Nat} {xs : List Int} (h : Blk w B xs) (n c : Nat) (hn : n = xs.length) (hc : n ≤ c) (hm : n ≤ big) : Ints w (.slice (some ⟨B, 0, none⟩) n c) xs :=
  Ints.mk hn (by omega) (by omega) fun i hi => by rw [Nat.zero_add]; exact h.cell i hi
theorem madeCells_ia (n : Nat) : madeCells #[.int .i64 0] n = ia (zer n) := by
  apply Array.ext
  · simp [madeCells, ia, zer]
  · intro i h1 h2
    simp [madeCells, ia, zer, Nat.mod_one]
theorem info3' : (Tryz.prog.info? 3).map (fun i => (i.zero, i.size, i.bytes)) = some (some (.int .i64 0), 1, 8) := by kernel_rfl
theorem info3 : ∃ i, Tryz.prog.info? 3 = some i ∧ i.zero = some (.int .i64 0) ∧ i.size = 1 ∧ i.bytes = 8 := by
  have h := info3'
  cases e : Tryz.prog.info? 3 with
  | none => rw [e] at h; cases h
  | some i =>
    rw [e] at h
    simp only [Option.map_some, Option.some.injEq, Prod.mk.injEq] at h
    exact ⟨i, rfl, h.1, h.2.1, h.2.2⟩
theorem make_ints (w : World) (n : Nat) (h : n ≤ 1000000000) :
    (Instr.makeSlice 23 (.int .i64 n) (.int .i64 n)).run Tryz.prog w = .ok (.slice (some ⟨w.heap.size, 0, none⟩) n n) (w.alloc (.cells (ia (zer n)) 3)) := by
  obtain ⟨i, h1, h2, h3, h4⟩ := info3
  have := run_make (P := Tryz.prog) w 23 3 i (.int .i64 0) Tryz.underlying23 h1 h2 .i64 .i64 n n (by omega) (by omega) (by rw [h4]; omega) (by omega)
  rw [this, h3, Int.toNat_natCast, Nat.mul_one]
  rw [show (Value.cells (.int .i64 0)) = #[.int .i64 0] from rfl, madeCells_ia]
def stE (d : List Int) (k i : Nat) : Int := if i < k then prd ((d.take k).drop (i + 1)) else 0
def stA (d : List Int) (k : Nat) : List Int := (List.range d.length).map (stE d k)
def stI (d : List Int) (k j : Nat) : List Int := (List.range d.length).map fun i => if i < j then stE d (k + 1) i else stE d k i
def stp (d : List Int) : List Int := stA d d.length
theorem stI_length (d : List Int) (k j : Nat) : (stI d k j).length = d.length := by simp [stI]
theorem stA_zero (d : List Int) : stA d 0 = zer d.length := by
  apply List.ext_getElem
  · simp [stA, zer]
  · intro i h1 h2
    simp [stA, zer, stE]
theorem stI_zero (d : List Int) (k : Nat) : stI d k 0 = stA d k := by simp [stI, stA]
theorem stE_snoc (d : List Int) (k j : Nat) (hj : j < k) (hk : k < d.length) : stE d (k + 1) j = stE d k j * d[k] := by
  simp only [stE, hj, if_true, show j < k + 1 from by omega]
  rw [take_snoc d k hk, List.drop_append_of_le_length (by simp; omega), prd_snoc]
theorem stI_set (d : List Int) (k j : Nat) (hj : j < k) (hk : k < d.length) : (stI d k j).set j (stE d k j * d[k]) = stI d k (j + 1) := by
  apply List.ext_getElem
  · simp [stI]
  · intro i h1 h2
    simp only [List.getElem_set, stI, List.getElem_map, List.getElem_range]
    by_cases e : j = i
    · subst e
      simp [stE_snoc d k j hj hk]
    · rw [if_neg e]
      by_cases h : i < j
      · simp [h, show i < j + 1 from by omega]
      · simp [h, show ¬ i < j + 1 from by omega]
theorem stI_last (d : List Int) (k : Nat) : (stI d k k).set k 1 = stA d (k + 1) := by
  apply List.ext_getElem
  · simp [stI, stA]
  · intro i h1 h2
    simp only [List.getElem_set, stI, stA, List.getElem_map, List.getElem_range]
    by_cases e : k = i
    · subst e
      simp only [if_true, stE, show k < k + 1 from by omega]
      rw [List.drop_eq_nil_of_le (by simp; omega)]
      rfl
    · rw [if_neg e]
      by_cases h : i < k
      · simp [h]
      · simp [h, stE, show ¬ i < k + 1 from by omega]
theorem stI_get (d : List Int) (k j : Nat) (hj : j < k) (hk : k < d.length) (h : j < (stI d k j).length) : (stI d k j)[j] = stE d k j := by
  simp [stI]
theorem stE_bd {d : List Int} (hin : inr d = true) (k j : Nat) (hj : j < k) (hk : k ≤ 2) : 1 ≤ stE d k j ∧ stE d k j ≤ 64 := by
  simp only [stE, hj, if_true]
  have h : inr ((d.take k).drop (j + 1)) = true := by
    simp only [inr, List.all_eq_true, Bool.and_eq_true, decide_eq_true_eq] at hin ⊢
    exact fun x hx => hin x (List.mem_of_mem_take (List.mem_of_mem_drop hx))
  have := prd_lo h
  have := prd_hi h 2 (by simp; omega)
  omega
def It (w : World) (k : Nat) (s : ByteArray) (p : Nat) : Prop := w.heap[k]? = some (.stringIter s p)
theorem It.next {w : World} {I : Nat} {d : List Int} {k : Nat} (h : It w I (txt d) k) (hin : inr d = true) (hk : k < d.length) (ty : TypeId) :
    (Instr.next (.pointer (some ⟨I, 0, none⟩)) true ty).run Tryz.prog w = .ok (.tuple #[.bool true, .int .i64 k, .int .i32 (48 + d[k])]) (w.iterAt I (txt d) (k + 1)) := by
  have hx := inr_mem hin (List.getElem_mem hk)
  have hs : k < (txt d).size := by rw [size_txt]; exact hk
  obtain ⟨g1, g2⟩ := txt_get d k hk hx.1 hx.2 hs
  rw [Lib.run_next_ascii_at w I (txt d) k ty h hs g2, g1]
theorem It.done {w : World} {I : Nat} {d : List Int} (h : It w I (txt d) d.length) (ty : TypeId) :
    (Instr.next (.pointer (some ⟨I, 0, none⟩)) true ty).run Tryz.prog w = .ok (.tuple #[.bool false]) w :=
  Lib.run_next_end_at w I (txt d) d.length ty h (by rw [size_txt]; omega)
theorem It.lt {w : World} {I p : Nat} {s : ByteArray} (h : It w I s p) : I < w.heap.size := (Array.getElem?_eq_some_iff.1 h).1
theorem It.moved {w : World} {I p : Nat} {s : ByteArray} (h : It w I s p) (q : Nat) : It (w.iterAt I s q) I s q := by
  have := h.lt
  show _ = _
  simp [World.iterAt, this]
theorem Blk.moved {w : World} {B I : Nat} {xs : List Int} (h : Blk w B xs) (hi : I ≠ B) (s : ByteArray) (q : Nat) : Blk (w.iterAt I s q) B xs := by
  show _ = _
  simp only [World.iterAt, Array.getElem?_setIfInBounds]
  rw [if_neg hi]
  exact h
theorem Below.moved {w w' : World} {B I : Nat} (h : Below B w w') (hi : B ≤ I) (s : ByteArray) (q : Nat) : Below B w (w'.iterAt I s q) :=
  h.trans ⟨rfl, rfl, rfl, by simp [World.iterAt], fun k hk => by simp only [World.iterAt, Array.getElem?_setIfInBounds]; rw [if_neg (by omega)]⟩
theorem It.set {w : World} {I p : Nat} {s : ByteArray} (h : It w I s p) (a : Addr) (v : Value) (hi : I ≠ a.block) : It (w.setCell a v) I s p := (heap_setCell_other w a I v hi).trans h
theorem It.pos {w : World} {I p : Nat} {s : ByteArray} (h : It w I s p) : w.iterPos I = p := iterPos_of h
theorem It.new (w : World) (s : ByteArray) (p : Nat) : It (w.iter s p) w.heap.size s p := World.iter_heap w s p
theorem iter_alloc (w : World) (s : ByteArray) (p : Nat) : w.iter s p = w.alloc (.stringIter s p) := rfl
theorem two_ints (w : World) (x y : Int) : Ints (w.alloc (.cells #[.int .i64 x, .int .i64 y] 3)) (.slice (some ⟨w.heap.size, 0, none⟩) 2 2) [x, y] := by
  have := (Blk.new w [x, y]).ints 2 2 rfl (Nat.le_refl _) (by decide)
  exact this
def IntsL (w : World) (v : Value) (L : List (List Int)) : Prop :=
  L.length ≤ big ∧ ∃ (a : Option Addr) (c : Nat), v = .slice a L.length c ∧ L.length ≤ c ∧ ∀ i (h : i < L.length), ∃ b off x, a = some ⟨b, off, none⟩ ∧ w.cell? ⟨b, off + i, none⟩ = some x ∧ Ints w x L[i]
def Tens (w : World) (v0 v1 : Value) (t : List Int × List Int) : Prop := Ints w v0 t.1 ∧ Ints w v1 t.2
def TensL (w : World) (v : Value) (L : List (List Int × List Int)) : Prop :=
  L.length ≤ big ∧ ∃ (a : Option Addr) (c : Nat), v = .slice a L.length c ∧ L.length ≤ c ∧ ∀ i (h : i < L.length), ∃ b off x y, a = some ⟨b, off, none⟩ ∧ w.cell? ⟨b, off + i * 2, none⟩ = some x ∧ w.cell? ⟨b, off + i * 2 + 1, none⟩ = some y ∧ Tens w x y L[i]
def lsF : Int → List Nat → Int
  | n, [] => n
  | n, l :: r => if n < 1048576 then lsF (n + l) r else n
set_option maxHeartbeats 400000 in
theorem between_t (n lo hi : Int) (w : World) (h1 : lo ≤ n) (h2 : n ≤ hi) :
    Calls Tryz.prog 22 #[.int .i64 n, .int .i64 lo, .int .i64 hi] w fun e w' => e = .returned (.bool true) ∧ w = w' := by
  go_enter Tryz.func22, Tryz.ntmps22
  go_wp2
  go_ret
  exact ⟨rfl, rfl⟩
set_option maxHeartbeats 400000 in
theorem between_f (n lo hi : Int) (w : World) (h : n < lo ∨ hi < n) :
    Calls Tryz.prog 22 #[.int .i64 n, .int .i64 lo, .int .i64 hi] w fun e w' => e = .returned (.bool false) ∧ w = w' := by
  by_cases h1 : n < lo
  · clear h
    go_enter Tryz.func22, Tryz.ntmps22
    go_wp2
    go_ret
    exact ⟨rfl, rfl⟩
  · have h2 : hi < n := by omega
    clear h
    go_enter Tryz.func22, Tryz.ntmps22
    go_wp2
    go_ret
    exact ⟨by simp; omega, rfl⟩
set_option maxHeartbeats 400000 in
theorem rdims_any {v : Value} {d : List Int} {w : World} (h : Ints w v d) :
    Calls Tryz.prog 98 #[v] w fun e w' => e = .returned (.bool (okd d)) ∧ w = w' := by
  have hlen := h.len
  unfold big at hlen
  obtain ⟨a, c, rfl⟩ := h.shape
  by_cases hl : d.length < 1 ∨ 3 < d.length
  · have HB : Hid (okd d = false) := okd_len hl
    have hl' : (d.length : Int) < 1 ∨ 3 < (d.length : Int) := by omega
    have HL : Hid ((d.length : Int) < 1 ∨ 3 < (d.length : Int)) := hl'
    clear hl hl' h
    go_enter Tryz.func98, Tryz.ntmps98
    go_wp2_with (go_at_call 22; refine (between_f _ _ _ _ HL.out).mono ?_; rintro e w' ⟨rfl, rfl⟩)
    go_ret
    exact ⟨by rw [HB.out]; rfl, rfl⟩
  have hl1 : 1 ≤ d.length := by omega
  have hl2 : d.length ≤ 3 := by omega
  rcases h.cases with ⟨rfl, _⟩ | ⟨b, off, c, e, h0, h1, h2, HC⟩
  · simp at hl1
  cases e
  clear hl h h2
  go_enter Tryz.func98, Tryz.ntmps98
  go_wp2_with fail
  refine (between_t _ _ _ _ (by omega) (by omega)).mono ?_
  rintro e w' ⟨rfl, rfl⟩
  go_wp2
  go_loop [3, 4] (fun p i => ∃ k : Nat, k ≤ d.length ∧ i = .int .i64 k ∧ p = .int .i64 (prd (d.take k)) ∧ inr (d.take k) = true) (fun _ i => d.length - (intOf i).toNat)
  case atStart => exact ⟨0, Nat.zero_le _, rfl, rfl, rfl⟩
  case round =>
    obtain ⟨k, hk, rfl, rfl, hin⟩ := hrel
    by_cases hlt : k < d.length
    · have hx := HC.out k hlt
      have hp1 := prd_lo hin
      have hp2 := prd_hi hin 2 (by simp; omega)
      have HT : Hid (d.take (k + 1) = d.take k ++ [d[k]]) := take_snoc d k hlt
      by_cases hg : 1 ≤ d[k] ∧ d[k] ≤ 8
      · obtain ⟨g1, g2⟩ := hg
        have hm1 : 1 ≤ prd (d.take k) * d[k] := by
          have := Int.mul_le_mul hp1 g1 (by omega) (by omega)
          omega
        have hm2 : prd (d.take k) * d[k] ≤ 512 := by
          have := Int.mul_le_mul hp2 g2 (by omega) (by omega)
          omega
        go_wp2_with (go_at_call 22; refine (between_t _ _ _ _ g1 g2).mono ?_; rintro e w' ⟨rfl, rfl⟩)
        refine ⟨⟨k + 1, by omega, by go_num, ?_, ?_⟩, by simp [intOf]; omega⟩
        · rw [HT.out, prd_snoc]
        · rw [HT.out, inr_snoc, hin]; simp [g1, g2]
      · have HB : Hid (okd d = false) := okd_inr (inr_bad k hlt hg)
        have HG : Hid (d[k] < 1 ∨ 8 < d[k]) := by show _ ∨ _; omega
        clear hg
        go_wp2_with (go_at_call 22; refine (between_f _ _ _ _ HG.out).mono ?_; rintro e w' ⟨rfl, rfl⟩)
        go_ret
        exact ⟨by rw [HB.out]; rfl, rfl⟩
    · have hk' : k = d.length := by omega
      subst hk'
      rw [List.take_length] at hin ⊢
      have hp1 := prd_lo hin
      have hp2 := prd_hi hin 3 (by omega)
      by_cases hp : prd d ≤ 64
      · have HK : Hid (okd d = true) := okd_mk (by omega) (by omega) hin hp
        go_wp2
        go_ret
        exact ⟨by rw [HK.out]; simp [hp], rfl⟩
      · have HK : Hid (okd d = false) := okd_prd (by omega)
        go_wp2
        go_ret
        exact ⟨by rw [HK.out]; simp [hp], rfl⟩
set_option maxHeartbeats 400000 in
theorem rcells_ok {v : Value} {d : List Int} {w : World} (h : Ints w v d) (hok : okd d = true) :
    Calls Tryz.prog 43 #[v] w fun e w' => e = .returned (.int .i64 (prd d)) ∧ w = w' := by
  obtain ⟨hl1, hl2, hin, hp⟩ := okd_parts hok
  have HI : Hid (inr d = true) := hin
  rcases h.cases with ⟨rfl, _⟩ | ⟨b, off, c, rfl, h0, h1, h2, HC⟩
  · simp at hl1
  clear hok hin h h2
  go_enter Tryz.func43, Tryz.ntmps43
  go_wp2
  go_loop [3, 4] (fun p i => ∃ k : Nat, k ≤ d.length ∧ i = .int .i64 k ∧ p = .int .i64 (prd (d.take k))) (fun _ i => d.length - (intOf i).toNat)
  case atStart => exact ⟨0, Nat.zero_le _, rfl, rfl⟩
  case round =>
    obtain ⟨k, hk, rfl, rfl⟩ := hrel
    by_cases hlt : k < d.length
    · have hx := HC.out k hlt
      have hin := inr_take HI.out k
      have hp1 := prd_lo hin
      have hp2 := prd_hi hin 2 (by simp; omega)
      have HT : Hid (d.take (k + 1) = d.take k ++ [d[k]]) := take_snoc d k hlt
      obtain ⟨g1, g2⟩ := inr_mem HI.out (List.getElem_mem hlt)
      have hm1 : 1 ≤ prd (d.take k) * d[k] := by
        have := Int.mul_le_mul hp1 g1 (by omega) (by omega)
        omega
      have hm2 : prd (d.take k) * d[k] ≤ 512 := by
        have := Int.mul_le_mul hp2 g2 (by omega) (by omega)
        omega
      clear hin
      go_wp2
      exact ⟨⟨k + 1, by omega, by go_num, by rw [HT.out, prd_snoc]⟩, by simp [intOf]; omega⟩
    · have hk' : k = d.length := by omega
      subst hk'
      rw [List.take_length]
      go_wp2
      go_ret
      exact ⟨rfl, rfl⟩
theorem dig_inj {x y : Int} (hx : 1 ≤ x ∧ x ≤ 8) (hy : 1 ≤ y ∧ y ≤ 8) (h : dig x = dig y) : x = y := by
  have h2 := congrArg UInt8.toNat h
  simp only [dig, UInt8.toNat_ofNat'] at h2
  omega
theorem txt_inj {a b : List Int} (ha : inr a = true) (hb : inr b = true) (h : txt a = txt b) : a = b := by
  have h2 : a.map dig = b.map dig := by
    have := congrArg (fun t : ByteArray => t.data.toList) h
    simpa [txt] using this
  have hl : a.length = b.length := by simpa using congrArg List.length h2
  apply List.ext_getElem hl
  intro i h1 h3
  refine dig_inj (inr_mem ha (List.getElem_mem h1)) (inr_mem hb (List.getElem_mem h3)) ?_
  have := congrArg (fun l : List UInt8 => l[i]?) h2
  simpa [h1, h3] using this
theorem toList_inj {a b : ByteArray} (h : a.toList = b.toList) : a = b := by
  rw [ByteArray.toList_eq, ByteArray.toList_eq] at h
  cases a; cases b
  simpa using h
def smE (a b : List Int) : Int := if okd a && okd b then 0 else 1
def smB (a b : List Int) : Bool := okd a && (okd b && (a == b))
set_option maxHeartbeats 400000 in
theorem same_any {v v' : Value} {a b : List Int} {w : World} (ha : Ints w v a) (hb : Ints w v' b) :
    Calls Tryz.prog 159 #[v, v'] w fun e w' => e = .returned (.tuple #[.bool (smB a b), .int .i64 (smE a b)]) ∧ w = w' := by
  have HA : Hid (Ints w v a) := ha
  have HB : Hid (Ints w v' b) := hb
  clear ha hb
  cases ea : okd a with
  | false =>
    have H : Hid (okd a = false) := ea
    have F1 : Hid (smB a b = false) := by show _ = _; simp [smB, ea]
    have F2 : Hid (smE a b = 1) := by show _ = _; simp [smE, ea]
    clear ea
    go_enter Tryz.func159, Tryz.ntmps159
    go_wp2_with fail
    refine (spell_any HA.out).mono ?_
    rw [spT_bad H.out, erf_bad H.out]
    rintro e w' ⟨rfl, rfl⟩
    go_wp2
    go_ret2
    exact ⟨by rw [F1.out, F2.out]; rfl, rfl⟩
  | true =>
    have H : Hid (okd a = true) := ea
    cases eb : okd b with
    | false =>
      have H2 : Hid (okd b = false) := eb
      have F1 : Hid (smB a b = false) := by show _ = _; simp [smB, eb]
      have F2 : Hid (smE a b = 1) := by show _ = _; simp [smE, eb]
      clear ea eb
      go_enter Tryz.func159, Tryz.ntmps159
      go_wp2_with fail
      refine (spell_any HA.out).mono ?_
      rw [spT_ok H.out, erf_ok H.out]
      rintro e w' ⟨rfl, rfl⟩
      go_wp2_with fail
      refine (spell_any HB.out).mono ?_
      rw [spT_bad H2.out, erf_bad H2.out]
      rintro e w' ⟨rfl, rfl⟩
      go_wp2
      go_ret2
      exact ⟨by rw [F1.out, F2.out]; rfl, rfl⟩
    | true =>
      have H2 : Hid (okd b = true) := eb
      have F1 : Hid (smB a b = ((txt a).toList == (txt b).toList)) := by
        show _ = _
        simp only [smB, ea, eb, Bool.true_and]
        by_cases e : a = b
        · subst e; simp
        · have : ¬ (txt a).toList = (txt b).toList := fun h => e (txt_inj (okd_parts ea).2.2.1 (okd_parts eb).2.2.1 (toList_inj h))
          rw [beq_eq_false_iff_ne.2 e, beq_eq_false_iff_ne.2 this]
      have F2 : Hid (smE a b = 0) := by show _ = _; simp [smE, ea, eb]
      clear ea eb
      go_enter Tryz.func159, Tryz.ntmps159
      go_wp2_with fail
      refine (spell_any HA.out).mono ?_
      rw [spT_ok H.out, erf_ok H.out]
      rintro e w' ⟨rfl, rfl⟩
      go_wp2_with fail
      refine (spell_any HB.out).mono ?_
      rw [spT_ok H2.out, erf_ok H2.out]
      rintro e w' ⟨rfl, rfl⟩
      go_wp2
      go_ret2
      exact ⟨by rw [F1.out, F2.out]; rfl, rfl⟩
theorem own_ints {w : World} {base : Nat} {v : Value} {d : List Int} {n : Nat} {xs : List Value} (hx : xs = d.map (Value.int .i64)) (h : w.ownsRow base 3 1 v n xs) (hb : d.length ≤ big) : Ints w v d := by
  subst hx
  have hl := h.1
  simp at hl
  subst hl
  rcases h.2 with ⟨rfl, h0⟩ | ⟨g, cap, cur, rfl, _, hh, h1, h2, h3, h4⟩
  · have : d = [] := List.eq_nil_of_length_eq_zero h0
    subst this
    exact Ints.nil _
  · refine Ints.mk rfl h1 hb fun i hi => ?_
    rw [Nat.zero_add, cell_of_row w g i cur 3 (0, 0) hh, ← Array.getElem?_toList]
    have : cur.toList[i]? = (cur.toList.take (d.length * 1))[i]? := by rw [List.getElem?_take, if_pos (by omega)]
    rw [this, h4]
    simp [hi]
def tok (t : List Int × List Int) : Bool := okd t.1 && decide ((t.2.length : Int) = prd t.1)
def tkE (t : List Int × List Int) : Int := if tok t then 0 else 1
set_option maxHeartbeats 400000 in
theorem tensor_any {v0 v1 : Value} {t : List Int × List Int} {w : World} (h : Tens w v0 v1 t) :
    Calls Tryz.prog 149 #[.agg #[v0, v1]] w fun e w' => e = .returned (.int .i64 (tkE t)) ∧ Below w.heap.size w w' := by
  have hb : Below w.heap.size w (w.alloc (.cells #[v0, v1] 156)) := (Below.refl _ _).alloc (Nat.le_refl _) _
  have H0 : Hid (Ints (w.alloc (.cells #[v0, v1] 156)) v0 t.1) := h.1.later hb
  have hl := h.2.len
  unfold big at hl
  obtain ⟨a1, c1, rfl⟩ := h.2.shape
  have HB : Hid (Below w.heap.size w (w.alloc (.cells #[v0, .slice a1 t.2.length c1] 156))) := hb
  clear hb h
  cases ho : okd t.1 with
  | false =>
    have HO : Hid (okd t.1 = false) := ho
    have HT : Hid (tkE t = 1) := by show _ = _; simp [tkE, tok, ho]
    clear ho
    go_enter Tryz.func149, Tryz.ntmps149
    go_wp2_with (go_at_call 128; refine (cells_bad H0.out HO.out).mono ?_; rintro e w' ⟨rfl, rfl⟩)
    go_ret
    exact ⟨by rw [HT.out]; rfl, HB.out⟩
  | true =>
    have HO : Hid (okd t.1 = true) := ho
    by_cases hp : (t.2.length : Int) = prd t.1
    · have HT : Hid (tkE t = 0) := by show _ = _; simp [tkE, tok, ho, hp]
      have hne : ((t.2.length : Int) != prd t.1) = false := by simp [hp]
      clear ho hp
      go_enter Tryz.func149, Tryz.ntmps149
      go_wp2_with fail
      refine (cells_ok H0.out HO.out).mono ?_
      rintro e w' ⟨rfl, hb⟩
      have hc : w'.cell? ⟨w.heap.size, 1, none⟩ = some (.slice a1 t.2.length c1) := cell_later hb (by simp)
      have HB1 : Hid (Below w.heap.size w w') := Below.after HB.out hb
      clear hb
      go_wp2
      go_ret
      exact ⟨by rw [HT.out]; rfl, HB1.out⟩
    · have HT : Hid (tkE t = 1) := by show _ = _; simp [tkE, tok, ho, hp]
      have hne : ((t.2.length : Int) != prd t.1) = true := by simp [hp]
      clear ho hp
      go_enter Tryz.func149, Tryz.ntmps149
      go_wp2_with fail
      refine (cells_ok H0.out HO.out).mono ?_
      rintro e w' ⟨rfl, hb⟩
      have hc : w'.cell? ⟨w.heap.size, 1, none⟩ = some (.slice a1 t.2.length c1) := cell_later hb (by simp)
      have HB1 : Hid (Below w.heap.size w w') := Below.after HB.out hb
      clear hb
      go_wp2
      go_ret
      exact ⟨by rw [HT.out]; rfl, HB1.out⟩
theorem news_cells {w : World} {d : List Int} {b off : Nat} (HC : Hid (∀ i (h : i < d.length), w.cell? ⟨b, off + i, none⟩ = some (.int .i64 d[i]))) :
    ∀ j u, (d.map (Value.int .i64))[j]? = some u → w.cell? ((⟨b, off, none⟩ : Addr).add j) = some u := by
  intro j u hj
  simp only [List.getElem?_map, Option.map_eq_some_iff] at hj
  obtain ⟨x, hx, rfl⟩ := hj
  obtain ⟨hlt, rfl⟩ := List.getElem?_eq_some_iff.1 hx
  have := HC.out j hlt
  by_cases h0 : j = 0
  · subst h0; simpa [Addr.add] using this
  · simpa [Addr.add, h0] using this
theorem ints_one (d : List Int) : ∀ u ∈ d.map (Value.int .i64), u.oneCell' = true := by
  intro u hu
  simp only [List.mem_map] at hu
  obtain ⟨x, _, rfl⟩ := hu
  rfl
set_option maxHeartbeats 400000 in
theorem clone_any {v : Value} {d : List Int} {w : World} (h : Ints w v d) (h1 : 1 ≤ d.length) :
    Calls Tryz.prog 114 #[v] w fun e w' => ∃ v', e = .returned v' ∧ Ints w' v' d ∧ From w.heap.size v' ∧ Below w.heap.size w w' := by
  have hl := h.len
  rcases h.cases with ⟨rfl, a1, c1, rfl⟩ | ⟨b, off, c, rfl, h0, h2, h3, HC⟩
  · simp only [List.length_nil] at h1; omega
  obtain ⟨i3, hi, hz0, hz1, hz2⟩ := info3
  have HI : Hid (Tryz.prog.info? 3 = some i3) := hi
  have HZ0 : Hid (i3.zero = some (.int .i64 0)) := hz0
  have HZ1 : Hid (i3.size = 1) := hz1
  have HZ2 : Hid (i3.bytes = 8) := hz2
  have hnil := fun w => Lib.run_eql_slice_nil (P := Tryz.prog) w 23 3 (some ⟨b, off, none⟩) d.length c 0 0 Tryz.underlying23
  have HL : Hid (d.length ≤ big) := hl
  clear h hi hz0 hz1 hz2 h3
  unfold big at hl
  go_enter Tryz.func114, Tryz.ntmps114
  go_wp2_with (at_builtin; refine wpList_append_own _ rfl _ _ 23 rfl w.heap.size 3 i3 (.int .i64 0) 1 8 Tryz.underlying23 HI.out HZ0.out HZ1.out HZ2.out rfl (by decide) _ _ _ rfl (World.ownsRow_made w #[] 0 (Nat.le_refl _) (Nat.zero_le _) rfl) ⟨b, off, none⟩ d.length c (d.map (Value.int .i64)) rfl ?c0 ?c1 ?c2 ?c3 ?c4 ?c5 ?_)
  case c0 => simp
  case c1 => exact news_cells (fun i h => cell_later ((Below.refl _ _).alloc (Nat.le_refl _) _) (HC.out i h))
  case c2 => exact ints_one d
  case c3 => unfold maxLen; omega
  case c4 => omega
  case c5 => simp
  intro v1 w1 ho hg _
  have HO : Hid (Ints w1 v1 d) := own_ints rfl ho HL.out
  have HF : Hid (From w.heap.size v1) := fun k hk => (ho.lt k hk).1
  have HB : Hid (Below w.heap.size w w1) := ((Below.refl _ _).alloc (Nat.le_refl _) _).grown hg (by simp) (by intro k hk; simp [Value.ownBlock] at hk; omega)
  clear ho hg
  go_wp2
  go_ret
  exact ⟨_, rfl, HO.out, HF.out, HB.out⟩
set_option maxHeartbeats 400000 in
theorem copy_own {v : Value} {d : List Int} {w : World} (h : Ints w v d) :
    Calls Tryz.prog 64 #[v] w fun e w' => ∃ v', e = .returned v' ∧ w'.ownsRow w.heap.size 3 1 v' d.length (d.map (Value.int .i64)) ∧ Below w.heap.size w w' := by
  have hl := h.len
  have HL : Hid (d.length ≤ big) := hl
  unfold big at hl
  rcases h.cases with ⟨rfl, a1, c1, rfl⟩ | ⟨b, off, c, rfl, h0, h2, h3, HC⟩
  · clear h
    go_enter Tryz.func64, Tryz.ntmps64
    go_wp2
    refine wp_loop_rounds 1 ?_
    rw [rounds_succ]
    go_wp2
    go_ret
    exact ⟨_, rfl, World.ownsRow_nil _ _ _ _, Below.refl _ _⟩
  obtain ⟨i3, hi, hz0, hz1, hz2⟩ := info3
  have HI : Hid (Tryz.prog.info? 3 = some i3) := hi
  have HZ0 : Hid (i3.zero = some (.int .i64 0)) := hz0
  have HZ1 : Hid (i3.size = 1) := hz1
  have HZ2 : Hid (i3.bytes = 8) := hz2
  clear h hi hz0 hz1 hz2 h3
  go_enter Tryz.func64, Tryz.ntmps64
  go_wp2
  go_loopw [3, 4] (fun v i w' => ∃ k : Nat, k ≤ d.length ∧ i = .int .i64 k ∧ w'.ownsRow w.heap.size 3 1 v k ((d.take k).map (Value.int .i64)) ∧ Below w.heap.size w w') (fun _ i _ => d.length - (intOf i).toNat)
  case atStart => exact ⟨0, Nat.zero_le _, rfl, World.ownsRow_nil _ _ _ _, Below.refl _ _⟩
  case round =>
    obtain ⟨k, hk, rfl, hown, hbel⟩ := hrel
    have HB : Hid (Below w.heap.size w wr) := hbel
    have HO : Hid (wr.ownsRow w.heap.size 3 1 _ k ((d.take k).map (Value.int .i64))) := hown
    have hsz := hbel.size
    clear hbel hown
    by_cases hlt : k < d.length
    · have hc := cell_later HB.out (HC.out k hlt)
      have HT : Hid (d.take (k + 1) = d.take k ++ [d[k]]) := take_snoc d k hlt
      go_wp2_with (at_builtin; refine wpList_append_own _ rfl _ _ 23 rfl w.heap.size 3 i3 (.int .i64 0) 1 8 Tryz.underlying23 HI.out HZ0.out HZ1.out HZ2.out rfl (by decide) _ _ _ rfl (HO.out.alloc _) ⟨wr.heap.size, 0, none⟩ 1 1 [.int .i64 d[k]] rfl rfl ?c1 ?c2 ?c3 ?c4 ?c5 ?_)
      case c1 => exact cell_one_new _ _ _
      case c2 => intro u hu; simp at hu; subst hu; rfl
      case c3 => unfold maxLen; omega
      case c4 => omega
      case c5 => simp; omega
      intro v1 w1 ho hg _
      have HO1 : Hid (w1.ownsRow w.heap.size 3 1 v1 (k + 1) ((d.take (k + 1)).map (Value.int .i64))) := by
        show World.ownsRow _ _ _ _ _ _ _
        rw [HT.out, List.map_append, List.map_take]
        exact ho
      have HB1 : Hid (Below w.heap.size w w1) := (HB.out.alloc hsz _).grown hg (by simp; omega) (fun q hq => (HO.out.lt q hq).1)
      clear ho hg
      go_wp2
      go_roundw
      case rel => exact ⟨k + 1, by omega, by go_num, HO1.out, HB1.out⟩
      case measure => simp [intOf]; omega
    · have hk' : k = d.length := by omega
      subst hk'
      go_wp2
      go_ret
      have := HO.out
      rw [List.take_length] at this
      exact ⟨_, rfl, this, HB.out⟩
/-- n everywhere, the first j of them laid. -/
def fil (m j : Nat) (n : Int) : List Int := List.replicate j n ++ List.replicate (m - j) 0
theorem fil_length (m j : Nat) (n : Int) (h : j ≤ m) : (fil m j n).length = m := by simp [fil]; omega
theorem fil_zero (m : Nat) (n : Int) : fil m 0 n = zer m := by simp [fil, zer]
theorem fil_set (m j : Nat) (n : Int) (h : j < m) : (fil m j n).set j n = fil m (j + 1) n := by
  obtain ⟨q, hq⟩ : ∃ q, m - j = q + 1 := ⟨m - j - 1, by omega⟩
  have h2 : m - (j + 1) = q := by omega
  simp only [fil, hq, h2]
  rw [List.set_append_right _ _ (by simp)]
  simp only [List.length_replicate, Nat.sub_self, List.replicate_succ (n := q), List.set_cons_zero]
  rw [List.replicate_succ', List.append_assoc]
  rfl
theorem fil_all (m : Nat) (n : Int) : fil m m n = List.replicate m n := by simp [fil]
set_option maxHeartbeats 400000 in
theorem fill_bad {v : Value} {d : List Int} {w : World} (n : Int) (h : Ints w v d) (hok : okd d = false) :
    Calls Tryz.prog 115 #[v, .int .i64 n] w fun e w' => e = .returned (.tuple #[.agg #[.slice none 0 0, .slice none 0 0], .int .i64 1]) ∧ Below w.heap.size w w' := by
  have hb : Below w.heap.size w (w.alloc (.cells #[.slice none 0 0, .slice none 0 0] 156)) := (Below.refl _ _).alloc (Nat.le_refl _) _
  have H : Hid (Ints (w.alloc (.cells #[.slice none 0 0, .slice none 0 0] 156)) v d) := h.later hb
  have HB : Hid (Below w.heap.size w (w.alloc (.cells #[.slice none 0 0, .slice none 0 0] 156))) := hb
  have HK : Hid (okd d = false) := hok
  clear h hok hb
  go_enter Tryz.func115, Tryz.ntmps115
  go_wp2_with (go_at_call 128; refine (cells_bad H.out HK.out).mono ?_; rintro e w' ⟨rfl, rfl⟩)
  exact bodyPost_ret (v := .tuple #[.agg #[.slice none 0 0, .slice none 0 0], .int .i64 1]) (by simp [results, Tryz.results115, go_sem]) rfl ⟨rfl, HB.out⟩
set_option maxHeartbeats 400000 in
theorem fill_ok {v : Value} {d : List Int} {w : World} (n : Int) (h : Ints w v d) (hok : okd d = true) :
    Calls Tryz.prog 115 #[v, .int .i64 n] w fun e w' => ∃ a0 c0 b1, e = .returned (.tuple #[.agg #[.slice a0 d.length c0, .slice (some ⟨b1, 0, none⟩) (prd d).toNat (prd d).toNat], .int .i64 0]) ∧ Ints w' (.slice a0 d.length c0) d ∧ Blk w' b1 (List.replicate (prd d).toNat n) ∧ Below w.heap.size w w' := by
  have hb : Below w.heap.size w (w.alloc (.cells #[.slice none 0 0, .slice none 0 0] 156)) := (Below.refl _ _).alloc (Nat.le_refl _) _
  have H : Hid (Ints (w.alloc (.cells #[.slice none 0 0, .slice none 0 0] 156)) v d) := h.later hb
  have HB : Hid (Below w.heap.size w (w.alloc (.cells #[.slice none 0 0, .slice none 0 0] 156))) := hb
  have HK : Hid (okd d = true) := hok
  obtain ⟨hl1, hl2, hin, hp⟩ := okd_parts hok
  have hp1 := prd_lo hin
  have HC : Hid ((prd d).toNat = prd d) := by show _ = _; omega
  obtain ⟨m, hm⟩ : ∃ m : Nat, prd d = m := ⟨(prd d).toNat, by omega⟩
  have HM : Hid (prd d = m) := hm
  have hm1 : 1 ≤ m := by omega
  have hm2 : m ≤ 64 := by omega
  have hmk := fun w => make_ints w m (by omega)
  clear h hok hb hin hp hp1 hm
  go_enter Tryz.func115, Tryz.ntmps115
  go_wp2_with fail
  refine (cells_ok H.out HK.out).mono ?_
  rw [HM.out]
  rintro e w1 ⟨rfl, hb1⟩
  have hsz := hb1.size
  simp at hsz
  have HB1 : Hid (Below w.heap.size w w1) := Below.after HB.out hb1
  have HH : Hid (Ints w1 v d) := H.out.later hb1
  have hbox : Hid (w1.heap[w.heap.size]? = some (.cells #[.slice none 0 0, .slice none 0 0] 156 (0, 0))) := (hb1.block w.heap.size (by simp)).trans (heap_alloc_new w _)
  clear hb1
  go_wp2
  clear hmk
  have HST : Hid (Blk (w1.alloc (.cells (ia (zer m)) 3)) w1.heap.size (fil m 0 n)) := by
    show Blk _ _ _
    rw [fil_zero]
    exact Blk.new w1 _
  go_loopw [23] (fun i w' => ∃ j : Nat, j ≤ m ∧ i = .int .i64 j ∧ Blk w' w1.heap.size (fil m j n) ∧ Below w1.heap.size w1 w') (fun i _ => m - (intOf i).toNat)
  case atStart => exact ⟨0, by omega, rfl, HST.out, (Below.refl _ _).alloc (Nat.le_refl _) _⟩
  case round =>
    obtain ⟨j, hj, rfl, hB, hbel⟩ := hrel
    have HB3 : Hid (Blk wr w1.heap.size (fil m j n)) := hB
    have HBL3 : Hid (Below w1.heap.size w1 wr) := hbel
    clear hB hbel
    by_cases hltj : j < m
    · have hf := HB3.out.frozen j
      obtain ⟨x, hc⟩ : ∃ x, wr.cell? ⟨w1.heap.size, j, none⟩ = some x := ⟨_, HB3.out.cell j (by rw [fil_length _ _ _ hj]; exact hltj)⟩
      go_wp2
      refine ⟨⟨j + 1, by omega, by go_num, ?_, HBL3.out.setCell (Nat.le_refl _) _⟩, by simp [intOf]; omega⟩
      have := HB3.out.set j n
      rw [fil_set _ _ _ hltj] at this
      exact this
    · have hj' : j = m := by omega
      subst hj'
      have hws := HBL3.out.size
      go_wp2_with fail
      refine (clone_any (HH.out.later HBL3.out) hl1).mono ?_
      rintro e w2 ⟨v0, rfl, hi0, hf0, hb2⟩
      obtain ⟨va, vc, rfl⟩ := hi0.shape
      have HI0 : Hid (Ints w2 (.slice va d.length vc) d) := hi0
      have HF0 : Hid (From wr.heap.size (.slice va d.length vc)) := hf0
      have HB4 : Hid (Below w1.heap.size w1 w2) := Below.after HBL3.out hb2
      have HB5 : Hid (Blk w2 w1.heap.size (List.replicate j n)) := by
        have := HB3.out.later hb2 HB3.out.lt
        rw [fil_all] at this
        exact this
      have hbx : w2.heap[w.heap.size]? = some (.cells #[.slice none 0 0, .slice none 0 0] 156 (0, 0)) := (HB4.out.block _ (by omega)).trans hbox.out
      have hx0 := cell_of_row w2 w.heap.size 0 _ _ _ hbx
      have hx1 := cell_of_row w2 w.heap.size 1 _ _ _ hbx
      have hy0 := frozen_of_row w2 w.heap.size 0 _ _ hbx
      have hy1 := frozen_of_row w2 w.heap.size 1 _ _ hbx
      simp at hx0 hx1
      have hs1 := heap_setCell_same w2 w.heap.size 0 _ 156 (.slice va d.length vc) hbx
      have hs2 := heap_setCell_same _ w.heap.size 1 _ 156 (.slice (some ⟨w1.heap.size, 0, none⟩) j j) hs1
      have HR0 : Hid (((w2.setCell ⟨w.heap.size, 0, none⟩ (.slice va d.length vc)).setCell ⟨w.heap.size, 1, none⟩ (.slice (some ⟨w1.heap.size, 0, none⟩) j j)).cell? ⟨w.heap.size, 0, none⟩ = some (.slice va d.length vc)) := by
        show _ = _
        rw [cell_of_row _ w.heap.size 0 _ _ _ hs2]
        rfl
      have HR1 : Hid (((w2.setCell ⟨w.heap.size, 0, none⟩ (.slice va d.length vc)).setCell ⟨w.heap.size, 1, none⟩ (.slice (some ⟨w1.heap.size, 0, none⟩) j j)).cell? ⟨w.heap.size, 1, none⟩ = some (.slice (some ⟨w1.heap.size, 0, none⟩) j j)) := by
        show _ = _
        rw [cell_of_row _ w.heap.size 1 _ _ _ hs2]
        rfl
      clear hi0 hf0 hb2 hbx hs1 hs2
      go_wp2
      have HJ : Hid ((prd d).toNat = j) := by show _ = _; rw [HM.out]; rfl
      clear HM HC
      have hr0 := HR0.out
      have hr1 := HR1.out
      refine bodyPost_ret (v := .tuple #[.agg #[.slice va d.length vc, .slice (some ⟨w1.heap.size, 0, none⟩) j j], .int .i64 0]) (by simp [results, Tryz.results115, go_sem, hr0, hr1]) rfl ⟨va, vc, w1.heap.size, by rw [HJ.out], ?_, ?_, ?_⟩
      · exact (HI0.out.setCell _ _ (fun k hk => by have := HF0.out k hk; simp; omega)).setCell _ _ (fun k hk => by have := HF0.out k hk; simp; omega)
      · rw [HJ.out]
        exact (HB5.out.setOther _ _ (by simp; omega)).setOther _ _ (by simp; omega)
      · exact ((Below.after HB1.out HB4.out).setCell (Nat.le_refl _) _).setCell (Nat.le_refl _) _
end Go.Proofs.YtkojdigaoihkpaaGreatDoor

end
section
namespace Go.Proofs.YtkojdigaoihkpaaGreatDoor
set_option linter.unusedVariables false
set_option linter.unusedSimpArgs false
set_option maxRecDepth 100000

/-- The place of the first k numbers. -/
def atN (d p : List Int) : Nat → Int
  | 0 => 0
  | k + 1 => atN d p k * d.getD k 0 + p.getD k 0
def atV (d p : List Int) : Int := atN d p d.length
def pin (d p : List Int) (k : Nat) : Bool := decide (0 ≤ p.getD k 0) && decide (p.getD k 0 < d.getD k 0)
def pok (d p : List Int) : Bool := decide (p.length = d.length) && (List.range d.length).all (pin d p)
def aok (d p : List Int) : Bool := okd d && pok d p
/-- What is left of n ahead of dim k; the number there. -/
def whR (d : List Int) (n : Int) : Nat → Int
  | 0 => n
  | k + 1 => whR d n k % stE d d.length k
def whE (d : List Int) (n : Int) (k : Nat) : Int := whR d n k / stE d d.length k
def whA (d : List Int) (n : Int) (k : Nat) : List Int := (List.range d.length).map fun i => if i < k then whE d n i else 0
def whr (d : List Int) (n : Int) : List Int := (List.range d.length).map (whE d n)
/-- One more at place j. -/
def bump (p : List Int) (j : Nat) : List Int := p.set j (p.getD j 0 + 1)
/-- The page's own ways, from the last dim on. -/
def rsN (d : List Int) : Nat → Int
  | 0 => 1
  | k + 1 => rsN d k * d.getD (d.length - 1 - k) 0
def rwR (d : List Int) (n : Int) : Nat → Int
  | 0 => n
  | k + 1 => rwR d n k / d.getD (d.length - 1 - k) 0
def rwE (d : List Int) (n : Int) (i : Nat) : Int := rwR d n (d.length - 1 - i) % d.getD i 0
end Go.Proofs.YtkojdigaoihkpaaGreatDoor

end
section
namespace Go.Proofs.YtkojdigaoihkpaaGreatDoor
set_option linter.unusedVariables false
set_option linter.unusedSimpArgs false
set_option maxRecDepth 100000
open Go.RowKit

theorem pok_at {d p : List Int} (h : pok d p = true) (k : Nat) (hk : k < d.length) : 0 ≤ p.getD k 0 ∧ p.getD k 0 < d.getD k 0 := by
  simp only [pok, Bool.and_eq_true, List.all_eq_true] at h
  have := h.2 k (List.mem_range.2 hk)
  simpa [pin] using this
theorem pok_len {d p : List Int} (h : pok d p = true) : p.length = d.length := by
  simp only [pok, Bool.and_eq_true, decide_eq_true_eq] at h
  exact h.1
theorem pok_mk {d p : List Int} (hl : p.length = d.length) (h : ∀ k, k < d.length → 0 ≤ p.getD k 0 ∧ p.getD k 0 < d.getD k 0) : pok d p = true := by
  simp only [pok, hl, decide_true, Bool.true_and, List.all_eq_true]
  intro k hk
  have := h k (List.mem_range.1 hk)
  simpa [pin] using this
theorem aok_bad {d p : List Int} (k : Nat) (hk : k < d.length) (h : ¬ (0 ≤ p.getD k 0 ∧ p.getD k 0 < d.getD k 0)) : aok d p = false := by
  cases e : aok d p with
  | false => rfl
  | true =>
    simp only [aok, Bool.and_eq_true] at e
    exact absurd (pok_at e.2 k hk) h
theorem aok_len {d p : List Int} (h : ¬ p.length = d.length) : aok d p = false := by
  cases e : aok d p with
  | false => rfl
  | true =>
    simp only [aok, Bool.and_eq_true] at e
    exact absurd (pok_len e.2) h
theorem atN_bd {d p : List Int} (hin : inr d = true) (k : Nat) (hk : k ≤ d.length) (h : ∀ j, j < k → 0 ≤ p.getD j 0 ∧ p.getD j 0 < d.getD j 0) : 0 ≤ atN d p k ∧ atN d p k < prd (d.take k) := by
  induction k with
  | zero => exact ⟨Int.le_refl _, by simp [atN, prd]⟩
  | succ k ih =>
    obtain ⟨h1, h2⟩ := ih (by omega) fun j hj => h j (by omega)
    have hx := h k (by omega)
    have hd := inr_mem hin (List.getElem_mem (show k < d.length by omega))
    have e : d.getD k 0 = d[k] := by simp [show k < d.length by omega]
    rw [e] at hx
    rw [take_snoc d k (by omega), prd_snoc]
    show 0 ≤ atN d p k * d.getD k 0 + p.getD k 0 ∧ _ < _
    rw [atN, e]
    have h3 : 0 ≤ atN d p k * d[k] := Int.mul_nonneg h1 (by omega)
    have h4 : (atN d p k + 1) * d[k] ≤ prd (d.take k) * d[k] := Int.mul_le_mul_of_nonneg_right (by omega) (by omega)
    rw [Int.add_mul, Int.one_mul] at h4
    omega
def atE (d p : List Int) : Int := if aok d p then 0 else 1
def atR (d p : List Int) : Int := if aok d p then atV d p else 0
theorem stE_bd2 {d : List Int} (hin : inr d = true) (hl : d.length ≤ 3) (j : Nat) (hj : j < d.length) : 1 ≤ stE d d.length j ∧ stE d d.length j ≤ 64 := by
  simp only [stE, hj, if_true, List.take_length]
  have h : inr (d.drop (j + 1)) = true := by
    simp only [inr, List.all_eq_true, Bool.and_eq_true, decide_eq_true_eq] at hin ⊢
    exact fun x hx => hin x (List.mem_of_mem_drop hx)
  have := prd_lo h
  have := prd_hi h 2 (by simp; omega)
  omega
theorem whR_bd {d : List Int} (hin : inr d = true) (hl : d.length ≤ 3) {n : Int} (h0 : 0 ≤ n) (h1 : n < 64) (k : Nat) (hk : k ≤ d.length) : 0 ≤ whR d n k ∧ whR d n k < 64 := by
  induction k with
  | zero => exact ⟨h0, h1⟩
  | succ k ih =>
    obtain ⟨s1, s2⟩ := stE_bd2 hin hl k (by omega)
    rw [whR]
    have := Int.emod_nonneg (whR d n k) (b := stE d d.length k) (by omega)
    have := Int.emod_lt_of_pos (whR d n k) (b := stE d d.length k) (by omega)
    omega
theorem whA_length (d : List Int) (n : Int) (k : Nat) : (whA d n k).length = d.length := by simp [whA]
theorem whr_length (d : List Int) (n : Int) : (whr d n).length = d.length := by simp [whr]
theorem whA_zero (d : List Int) (n : Int) : whA d n 0 = zer d.length := by
  apply List.ext_getElem
  · simp [whA, zer]
  · intro i h1 h2
    simp [whA, zer]
theorem whA_all (d : List Int) (n : Int) : whA d n d.length = whr d n := by
  apply List.ext_getElem
  · simp [whA, whr]
  · intro i h1 h2
    have : i < d.length := by simpa [whA] using h1
    simp [whA, whr, this]
theorem whA_set (d : List Int) (n : Int) (k : Nat) : (whA d n k).set k (whE d n k) = whA d n (k + 1) := by
  apply List.ext_getElem
  · simp [whA]
  · intro i h1 h2
    simp only [List.getElem_set, whA, List.getElem_map, List.getElem_range]
    by_cases e : k = i
    · subst e; simp
    · rw [if_neg e]
      by_cases h : i < k
      · simp [h, show i < k + 1 from by omega]
      · simp [h, show ¬ i < k + 1 from by omega]
theorem stp_get (d : List Int) (k : Nat) (h : k < (stp d).length) : (stp d)[k] = stE d d.length k := by simp [stp, stA]
theorem stp_length (d : List Int) : (stp d).length = d.length := by simp [stp, stA]
theorem nx (w : World) (s : ByteArray) (k : Nat) (h : k < s.size) (x : Int) (hx : (s[k].toNat : Int) = x) (h1 : s[k].toNat < 128) (ty : TypeId) :
    (Instr.next (.pointer (some ⟨w.heap.size, 0, none⟩)) true ty).run Tryz.prog (w.iter s k) = .ok (.tuple #[.bool true, .int .i64 k, .int .i32 x]) (w.iter s (k + 1)) := by
  subst hx
  rw [run_next_ascii w s k ty h h1]
/-- What a text of deeds does to two numbers. -/
def Deed (s : ByteArray) (op : Int → Int → Int) : Prop := ∀ (x y : Int) (w : World),
  Calls Tryz.prog 162 #[.string s, .int .i64 x, .int .i64 y] w fun e w' => e = .returned (.int .i64 (op x y)) ∧ Below w.heap.size w w'
set_option maxHeartbeats 400000 in
theorem deed_add : Deed ⟨#[43]⟩ (fun x y => wrap64 (x + y)) := by
  intro x y w
  have h0 := fun ty => nx w ⟨#[43]⟩ 0 (by decide) 43 (by decide) (by decide) ty
  have h1 := fun ty => run_next_end (P := Tryz.prog) w ⟨#[43]⟩ 1 ty (by decide)
  go_enter Tryz.func162, Tryz.ntmps162
  go_wp2
  refine wp_loop_rounds 2 ?_
  rw [rounds_succ]
  go_wp2
  rw [rounds_succ]
  go_wp2
  go_ret
  exact ⟨rfl, (Below.refl _ _).alloc (Nat.le_refl _) _⟩
set_option maxHeartbeats 400000 in
theorem deed_neg : Deed ⟨#[45]⟩ (fun x y => wrap64 (-y)) := by
  intro x y w
  have h0 := fun ty => nx w ⟨#[45]⟩ 0 (by decide) 45 (by decide) (by decide) ty
  have h1 := fun ty => run_next_end (P := Tryz.prog) w ⟨#[45]⟩ 1 ty (by decide)
  go_enter Tryz.func162, Tryz.ntmps162
  go_wp2
  refine wp_loop_rounds 2 ?_
  rw [rounds_succ]
  go_wp2
  rw [rounds_succ]
  go_wp2
  go_ret
  exact ⟨rfl, (Below.refl _ _).alloc (Nat.le_refl _) _⟩
set_option maxHeartbeats 400000 in
theorem deed_mul : Deed ⟨#[42]⟩ (fun x y => wrap64 (x * y)) := by
  intro x y w
  have h0 := fun ty => nx w ⟨#[42]⟩ 0 (by decide) 42 (by decide) (by decide) ty
  have h1 := fun ty => run_next_end (P := Tryz.prog) w ⟨#[42]⟩ 1 ty (by decide)
  go_enter Tryz.func162, Tryz.ntmps162
  go_wp2
  refine wp_loop_rounds 2 ?_
  rw [rounds_succ]
  go_wp2
  rw [rounds_succ]
  go_wp2
  go_ret
  exact ⟨rfl, (Below.refl _ _).alloc (Nat.le_refl _) _⟩
set_option maxHeartbeats 400000 in
theorem deed_sub : Deed ⟨#[45, 43]⟩ (fun x y => wrap64 (x + wrap64 (-y))) := by
  intro x y w
  have h0 := fun ty => nx w ⟨#[45, 43]⟩ 0 (by decide) 45 (by decide) (by decide) ty
  have h1 := fun ty => nx w ⟨#[45, 43]⟩ 1 (by decide) 43 (by decide) (by decide) ty
  have h2 := fun ty => run_next_end (P := Tryz.prog) w ⟨#[45, 43]⟩ 2 ty (by decide)
  go_enter Tryz.func162, Tryz.ntmps162
  go_wp2
  refine wp_loop_rounds 3 ?_
  rw [rounds_succ]
  go_wp2
  rw [rounds_succ]
  go_wp2
  rw [rounds_succ]
  go_wp2
  go_ret
  exact ⟨rfl, (Below.refl _ _).alloc (Nat.le_refl _) _⟩
/-- A list of integers that a call has made: in blocks from B on, free to be written. -/
structure Own (w : World) (B : Nat) (v : Value) (d : List Int) : Prop where
  row : w.ownsRow B 3 1 v d.length (d.map (Value.int .i64))
  len : d.length ≤ big
theorem Own.ints {w : World} {B : Nat} {v : Value} {d : List Int} (h : Own w B v d) : Ints w v d := own_ints rfl h.row h.len
theorem Own.frm {w : World} {B : Nat} {v : Value} {d : List Int} (h : Own w B v d) : From B v := fun k hk => (h.row.lt k hk).1
theorem Own.lt {w : World} {B : Nat} {v : Value} {d : List Int} (h : Own w B v d) : ∀ k, v.ownBlock = some k → k < w.heap.size := fun k hk => (h.row.lt k hk).2
theorem Own.nil (w : World) (B : Nat) : Own w B (.slice none 0 0) [] := ⟨World.ownsRow_nil _ _ _ _, Nat.zero_le _⟩
theorem Own.at {w w' : World} {B : Nat} {v : Value} {d : List Int} (h : Own w B v d) (hk : ∀ k, v.ownBlock = some k → w'.heap[k]? = w.heap[k]?) : Own w' B v d := by
  refine ⟨⟨h.row.1, ?_⟩, h.len⟩
  rcases h.row.2 with h0 | ⟨g, cap, cur, rfl, hb, hh, h1, h2, h3, h4⟩
  · exact Or.inl h0
  · exact Or.inr ⟨g, cap, cur, rfl, hb, (hk g rfl).trans hh, h1, h2, h3, h4⟩
theorem Own.later {w w' : World} {B : Nat} {v : Value} {d : List Int} (hb : Below w.heap.size w w') (h : Own w B v d) : Own w' B v d :=
  h.at fun k hk => hb.block k (h.lt k hk)
theorem Own.mono {w : World} {B B' : Nat} {v : Value} {d : List Int} (h : Own w B v d) (hB : B' ≤ B) : Own w B' v d := ⟨Joins.ownsRow_le h.row hB, h.len⟩
theorem Own.setCell {w : World} {B : Nat} {v : Value} {d : List Int} (h : Own w B v d) (p : Addr) (u : Value) (hp : ∀ k, v.ownBlock = some k → k ≠ p.block) : Own (w.setCell p u) B v d :=
  h.at fun k hk => Below.heap_setCell _ _ _ _ (hp k hk)
theorem Blk.own {w : World} {b B n : Nat} {xs : List Int} (h : Blk w b xs) (hB : B ≤ b) (hn : n = xs.length) (hl : xs.length ≤ big) : Own w B (.slice (some ⟨b, 0, none⟩) n n) xs := by
  subst hn
  refine ⟨⟨by simp, Or.inr ⟨b, xs.length, ia xs, rfl, hB, h, Nat.le_refl _, ?_, ?_, ?_⟩⟩, hl⟩
  · exact Nat.le_trans hl big_max
  · simp [ia_size]
  · simp [ia, List.take_of_length_le]
/-- A tensor that a call has made. -/
structure OwnT (w : World) (B : Nat) (v0 v1 : Value) (t : List Int × List Int) : Prop where
  dims : Own w B v0 t.1
  data : Own w B v1 t.2
  apart : ∀ k, v0.ownBlock = some k → v1.ownBlock ≠ some k
theorem OwnT.later {w w' : World} {B : Nat} {v0 v1 : Value} {t : List Int × List Int} (hb : Below w.heap.size w w') (h : OwnT w B v0 v1 t) : OwnT w' B v0 v1 t := ⟨h.dims.later hb, h.data.later hb, h.apart⟩
theorem OwnT.mono {w : World} {B B' : Nat} {v0 v1 : Value} {t : List Int × List Int} (h : OwnT w B v0 v1 t) (hB : B' ≤ B) : OwnT w B' v0 v1 t := ⟨h.dims.mono hB, h.data.mono hB, h.apart⟩
theorem OwnT.nil (w : World) (B : Nat) : OwnT w B (.slice none 0 0) (.slice none 0 0) ([], []) := ⟨Own.nil _ _, Own.nil _ _, fun k hk => by simp [Value.ownBlock] at hk⟩
theorem Tens.later {w w' : World} {v0 v1 : Value} {t : List Int × List Int} (hb : Below w.heap.size w w') (h : Tens w v0 v1 t) : Tens w' v0 v1 t := ⟨h.1.later hb, h.2.later hb⟩
theorem OwnT.setCell {w : World} {B : Nat} {v0 v1 : Value} {t : List Int × List Int} (h : OwnT w B v0 v1 t) (p : Addr) (u : Value) (hp : p.block < B) : OwnT (w.setCell p u) B v0 v1 t :=
  ⟨h.dims.setCell p u fun k hk => by have := h.dims.frm k hk; omega, h.data.setCell p u fun k hk => by have := h.data.frm k hk; omega, h.apart⟩
/-- A box with two values. -/
def Box (w : World) (B : Nat) (x y : Value) : Prop := w.heap[B]? = some (.cells #[x, y] 156 (0, 0))
theorem Box.c0 {w : World} {B : Nat} {x y : Value} (h : Box w B x y) : w.cell? ⟨B, 0, none⟩ = some x := by rw [cell_of_row w B 0 _ 156 (0, 0) h]; rfl
theorem Box.c1 {w : World} {B : Nat} {x y : Value} (h : Box w B x y) : w.cell? ⟨B, 1, none⟩ = some y := by rw [cell_of_row w B 1 _ 156 (0, 0) h]; rfl
theorem Box.f {w : World} {B : Nat} {x y : Value} (h : Box w B x y) (j : Nat) : w.frozen? ⟨B, j, none⟩ = false := frozen_of_row w B j _ 156 h
theorem Box.lt {w : World} {B : Nat} {x y : Value} (h : Box w B x y) : B < w.heap.size := (Array.getElem?_eq_some_iff.1 h).1
theorem Box.later {w w' : World} {B : Nat} {x y : Value} (hb : Below w.heap.size w w') (h : Box w B x y) : Box w' B x y := (hb.block B h.lt).trans h
theorem Box.new (w : World) (x y : Value) : Box (w.alloc (.cells #[x, y] 156)) w.heap.size x y := heap_alloc_new w _
theorem Box.set {w : World} {B : Nat} {x y : Value} (h : Box w B x y) (u v : Value) : Box ((w.setCell ⟨B, 0, none⟩ u).setCell ⟨B, 1, none⟩ v) B u v := by
  have h1 := heap_setCell_same w B 0 _ 156 u h
  have h2 := heap_setCell_same _ B 1 _ 156 v h1
  show _ = _
  rw [h2]
  rfl
theorem Box.other {w : World} {B : Nat} {x y : Value} (h : Box w B x y) (p : Addr) (u : Value) (hp : B ≠ p.block) : Box (w.setCell p u) B x y := (Below.heap_setCell w p u B hp).trans h
theorem Box.alloc {w : World} {B : Nat} {x y : Value} (h : Box w B x y) (o : Obj) : Box (w.alloc o) B x y := (Below.heap_alloc w o B h.lt).trans h
abbrev Ten := List Int × List Int
def fitE (s t : Ten) : Int := if tok s && tok t then (if s.1 == t.1 then 0 else 4) else 1
theorem tok_okd {t : Ten} (h : tok t = true) : okd t.1 = true := by
  simp only [tok, Bool.and_eq_true] at h
  exact h.1
theorem tok_len {t : Ten} (h : tok t = true) : (t.2.length : Int) = prd t.1 := by
  simp only [tok, Bool.and_eq_true, decide_eq_true_eq] at h
  exact h.2
theorem tensor_to {v0 v1 : Value} {t : Ten} {w : World} (x : Int) (h : Tens w v0 v1 t) (hx : tkE t = x) :
    Calls Tryz.prog 149 #[.agg #[v0, v1]] w fun e w' => e = .returned (.int .i64 x) ∧ Below w.heap.size w w' := by
  subst hx
  exact tensor_any h
theorem same_to {v v' : Value} {a b : List Int} {w : World} (x : Bool) (y : Int) (ha : Ints w v a) (hb : Ints w v' b) (hx : smB a b = x) (hy : smE a b = y) :
    Calls Tryz.prog 159 #[v, v'] w fun e w' => e = .returned (.tuple #[.bool x, .int .i64 y]) ∧ w = w' := by
  subst hx hy
  exact same_any ha hb
set_option maxHeartbeats 1000000 in
theorem fit_any {a0 a1 b0 b1 : Value} {s t : Ten} {w : World} (ha : Tens w a0 a1 s) (hb' : Tens w b0 b1 t) :
    Calls Tryz.prog 161 #[.agg #[a0, a1], .agg #[b0, b1]] w fun e w' => e = .returned (.int .i64 (fitE s t)) ∧ Below w.heap.size w w' := by
  have hb : Below w.heap.size w ((w.alloc (.cells #[a0, a1] 156)).alloc (.cells #[b0, b1] 156)) := ((Below.refl _ _).alloc (Nat.le_refl _) _).alloc (by simp) _
  have HA : Hid (Tens ((w.alloc (.cells #[a0, a1] 156)).alloc (.cells #[b0, b1] 156)) a0 a1 s) := ha.later hb
  have HT : Hid (Tens ((w.alloc (.cells #[a0, a1] 156)).alloc (.cells #[b0, b1] 156)) b0 b1 t) := hb'.later hb
  have HB : Hid (Below w.heap.size w ((w.alloc (.cells #[a0, a1] 156)).alloc (.cells #[b0, b1] 156))) := hb
  clear ha hb' hb
  cases hs : tok s with
  | false =>
    have HF : Hid (fitE s t = 1) := by show _ = _; simp [fitE, hs]
    have HS : Hid (tkE s = 1) := by show _ = _; simp [tkE, hs]
    clear hs
    go_enter Tryz.func161, Tryz.ntmps161
    go_wp2
    refine wp_scope_jumps 0 (fun a' w' => Below w.heap.size w w' ∧ ∃ (u0 u1 u2 u3 u4 u5 u6 u7 u8 u9 u10 u11 u12 u13 u14 u15 u16 u17 u18 u19 u20 u21 u22 u23 : Value), a' = { tmps := #[u0, u1, u2, u3, u4, u5, u6, u7, u8, u9, u10, u11, u12, u13, u14, u15, u16, u17, u18, u19, u20, u21, u22, u23], defers := [] }) (fun _ _ => 0) rfl ?_ ?_
    · go_wp2_with fail
      refine (tensor_to 1 HA.out HS.out).mono ?_
      rintro e w1 ⟨rfl, hb1⟩
      have HB1 : Hid (Below w.heap.size w w1) := Below.after HB.out hb1
      clear hb1
      go_wp2
      go_step3
      exact ⟨rfl, HB1.out, _, _, _, _, _, _, _, _, _, _, _, _, _, _, _, _, _, _, _, _, _, _, _, _, rfl⟩
    · rintro a w' ⟨hbj, u0, u1, u2, u3, u4, u5, u6, u7, u8, u9, u10, u11, u12, u13, u14, u15, u16, u17, u18, u19, u20, u21, u22, u23, rfl⟩
      have HBJ : Hid (Below w.heap.size w w') := hbj
      clear hbj
      go_wp2
      rw [jump_ret]
      go_ret
      exact ⟨by rw [HF.out]; rfl, HBJ.out⟩
  | true =>
    have HS : Hid (tkE s = 0) := by show _ = _; simp [tkE, hs]
    cases ht : tok t with
    | false =>
      have HF : Hid (fitE s t = 1) := by show _ = _; simp [fitE, hs, ht]
      have HT2 : Hid (tkE t = 1) := by show _ = _; simp [tkE, ht]
      clear hs ht
      go_enter Tryz.func161, Tryz.ntmps161
      go_wp2
      refine wp_scope_jumps 0 (fun a' w' => Below w.heap.size w w' ∧ ∃ (u0 u1 u2 u3 u4 u5 u6 u7 u8 u9 u10 u11 u12 u13 u14 u15 u16 u17 u18 u19 u20 u21 u22 u23 : Value), a' = { tmps := #[u0, u1, u2, u3, u4, u5, u6, u7, u8, u9, u10, u11, u12, u13, u14, u15, u16, u17, u18, u19, u20, u21, u22, u23], defers := [] }) (fun _ _ => 0) rfl ?_ ?_
      · go_wp2_with fail
        refine (tensor_to 0 HA.out HS.out).mono ?_
        rintro e w1 ⟨rfl, hb1⟩
        have hc0 : w1.cell? ⟨w.heap.size + 1, 0, none⟩ = some b0 := cell_later hb1 (by simp)
        have hc1 : w1.cell? ⟨w.heap.size + 1, 1, none⟩ = some b1 := cell_later hb1 (by simp)
        have HB1 : Hid (Below w.heap.size w w1) := Below.after HB.out hb1
        have HTL : Hid (Tens w1 b0 b1 t) := HT.out.later hb1
        clear hb1
        go_wp2_with fail
        refine (tensor_to 1 HTL.out HT2.out).mono ?_
        rintro e w2 ⟨rfl, hb2⟩
        have HB2 : Hid (Below w.heap.size w w2) := Below.after HB1.out hb2
        clear hb2
        go_wp2
        go_step3
        exact ⟨rfl, HB2.out, _, _, _, _, _, _, _, _, _, _, _, _, _, _, _, _, _, _, _, _, _, _, _, _, rfl⟩
      · rintro a w' ⟨hbj, u0, u1, u2, u3, u4, u5, u6, u7, u8, u9, u10, u11, u12, u13, u14, u15, u16, u17, u18, u19, u20, u21, u22, u23, rfl⟩
        have HBJ : Hid (Below w.heap.size w w') := hbj
        clear hbj
        go_wp2
        rw [jump_ret]
        go_ret
        exact ⟨by rw [HF.out]; rfl, HBJ.out⟩
    | true =>
      have HT2 : Hid (tkE t = 0) := by show _ = _; simp [tkE, ht]
      have hso := tok_okd hs
      have hto := tok_okd ht
      have HE : Hid (smE s.1 t.1 = 0) := by show _ = _; simp [smE, hso, hto]
      by_cases hd : s.1 = t.1
      · have HF : Hid (fitE s t = 0) := by show _ = _; simp [fitE, hs, ht, hd]
        have HSB : Hid (smB s.1 t.1 = true) := by show _ = _; simp [smB, hso, hto, hd]
        clear hs ht hso hto hd
        go_enter Tryz.func161, Tryz.ntmps161
        go_wp2
        refine wp_scope_jumps 0 (fun _ _ => False) (fun _ _ => 0) rfl ?_ (fun _ _ h => h.elim)
        go_wp2_with fail
        refine (tensor_to 0 HA.out HS.out).mono ?_
        rintro e w1 ⟨rfl, hb1⟩
        have hc0 : w1.cell? ⟨w.heap.size + 1, 0, none⟩ = some b0 := cell_later hb1 (by simp)
        have hc1 : w1.cell? ⟨w.heap.size + 1, 1, none⟩ = some b1 := cell_later hb1 (by simp)
        have hc2 : w1.cell? ⟨w.heap.size, 0, none⟩ = some a0 := cell_later hb1 (by simp)
        have HB1 : Hid (Below w.heap.size w w1) := Below.after HB.out hb1
        have HTL : Hid (Tens w1 b0 b1 t) := HT.out.later hb1
        have HAL : Hid (Tens w1 a0 a1 s) := HA.out.later hb1
        clear hb1
        go_wp2_with fail
        refine (tensor_to 0 HTL.out HT2.out).mono ?_
        rintro e w2 ⟨rfl, hb2⟩
        have hd0 : w2.cell? ⟨w.heap.size + 1, 0, none⟩ = some b0 := cell_later hb2 hc0
        have hd2 : w2.cell? ⟨w.heap.size, 0, none⟩ = some a0 := cell_later hb2 hc2
        have HB2 : Hid (Below w.heap.size w w2) := Below.after HB1.out hb2
        have HT3 : Hid (Tens w2 b0 b1 t) := HTL.out.later hb2
        have HA3 : Hid (Tens w2 a0 a1 s) := HAL.out.later hb2
        clear hb2
        go_wp2_with fail
        refine (same_to true 0 HA3.out.1 HT3.out.1 HSB.out HE.out).mono ?_
        rintro e w3 ⟨rfl, rfl⟩
        go_wp2
        rw [jump_ret]
        go_ret
        exact ⟨by rw [HF.out]; rfl, HB2.out⟩
      · have HF : Hid (fitE s t = 4) := by show _ = _; simp [fitE, hs, ht, hd]
        have HSB : Hid (smB s.1 t.1 = false) := by show _ = _; simp [smB, hso, hto, hd]
        clear hs ht hso hto hd
        go_enter Tryz.func161, Tryz.ntmps161
        go_wp2
        refine wp_scope_jumps 1 (fun a' w' => Below w.heap.size w w' ∧ ∃ (u0 u1 u2 u3 u4 u5 u6 u7 u8 u9 u10 u11 u12 u13 u14 u15 u16 u17 u18 u19 u20 u21 u22 u23 : Value), a' = { tmps := #[u0, u1, u2, u3, u4, u5, u6, u7, u8, u9, u10, u11, u12, u13, u14, u15, u16, u17, u18, u19, u20, u21, u22, u23], defers := [] }) (fun _ _ => 0) rfl ?_ ?_
        · go_wp2_with fail
          refine (tensor_to 0 HA.out HS.out).mono ?_
          rintro e w1 ⟨rfl, hb1⟩
          have hc0 : w1.cell? ⟨w.heap.size + 1, 0, none⟩ = some b0 := cell_later hb1 (by simp)
          have hc1 : w1.cell? ⟨w.heap.size + 1, 1, none⟩ = some b1 := cell_later hb1 (by simp)
          have hc2 : w1.cell? ⟨w.heap.size, 0, none⟩ = some a0 := cell_later hb1 (by simp)
          have HB1 : Hid (Below w.heap.size w w1) := Below.after HB.out hb1
          have HTL : Hid (Tens w1 b0 b1 t) := HT.out.later hb1
          have HAL : Hid (Tens w1 a0 a1 s) := HA.out.later hb1
          clear hb1
          go_wp2_with fail
          refine (tensor_to 0 HTL.out HT2.out).mono ?_
          rintro e w2 ⟨rfl, hb2⟩
          have hd0 : w2.cell? ⟨w.heap.size + 1, 0, none⟩ = some b0 := cell_later hb2 hc0
          have hd2 : w2.cell? ⟨w.heap.size, 0, none⟩ = some a0 := cell_later hb2 hc2
          have HB2 : Hid (Below w.heap.size w w2) := Below.after HB1.out hb2
          have HT3 : Hid (Tens w2 b0 b1 t) := HTL.out.later hb2
          have HA3 : Hid (Tens w2 a0 a1 s) := HAL.out.later hb2
          clear hb2
          go_wp2_with fail
          refine (same_to false 0 HA3.out.1 HT3.out.1 HSB.out HE.out).mono ?_
          rintro e w3 ⟨rfl, rfl⟩
          go_wp2
          go_step3
          exact ⟨rfl, HB2.out, _, _, _, _, _, _, _, _, _, _, _, _, _, _, _, _, _, _, _, _, _, _, _, _, rfl⟩
        · rintro a w' ⟨hbj, u0, u1, u2, u3, u4, u5, u6, u7, u8, u9, u10, u11, u12, u13, u14, u15, u16, u17, u18, u19, u20, u21, u22, u23, rfl⟩
          have HBJ : Hid (Below w.heap.size w w') := hbj
          clear hbj
          go_wp2
          rw [jump_ret]
          go_ret
          exact ⟨by rw [HF.out]; rfl, HBJ.out⟩
set_option maxHeartbeats 400000 in
theorem clone_own {v : Value} {d : List Int} {w : World} (h : Ints w v d) (h1 : 1 ≤ d.length) :
    Calls Tryz.prog 114 #[v] w fun e w' => ∃ v', e = .returned v' ∧ Own w' w.heap.size v' d ∧ Below w.heap.size w w' := by
  have hl := h.len
  rcases h.cases with ⟨rfl, a1, c1, rfl⟩ | ⟨b, off, c, rfl, h0, h2, h3, HC⟩
  · simp only [List.length_nil] at h1; omega
  obtain ⟨i3, hi, hz0, hz1, hz2⟩ := info3
  have HI : Hid (Tryz.prog.info? 3 = some i3) := hi
  have HZ0 : Hid (i3.zero = some (.int .i64 0)) := hz0
  have HZ1 : Hid (i3.size = 1) := hz1
  have HZ2 : Hid (i3.bytes = 8) := hz2
  have hnil := fun w => Lib.run_eql_slice_nil (P := Tryz.prog) w 23 3 (some ⟨b, off, none⟩) d.length c 0 0 Tryz.underlying23
  have HL : Hid (d.length ≤ big) := hl
  clear h hi hz0 hz1 hz2 h3
  unfold big at hl
  go_enter Tryz.func114, Tryz.ntmps114
  go_wp2_with (at_builtin; refine wpList_append_own _ rfl _ _ 23 rfl w.heap.size 3 i3 (.int .i64 0) 1 8 Tryz.underlying23 HI.out HZ0.out HZ1.out HZ2.out rfl (by decide) _ _ _ rfl (World.ownsRow_made w #[] 0 (Nat.le_refl _) (Nat.zero_le _) rfl) ⟨b, off, none⟩ d.length c (d.map (Value.int .i64)) rfl ?c0 ?c1 ?c2 ?c3 ?c4 ?c5 ?_)
  case c0 => simp
  case c1 => exact news_cells (fun i h => cell_later ((Below.refl _ _).alloc (Nat.le_refl _) _) (HC.out i h))
  case c2 => exact ints_one d
  case c3 => unfold maxLen; omega
  case c4 => omega
  case c5 => simp
  intro v1 w1 ho hg _
  have HO : Hid (Own w1 w.heap.size v1 d) := ⟨by simpa using ho, HL.out⟩
  have HB : Hid (Below w.heap.size w w1) := ((Below.refl _ _).alloc (Nat.le_refl _) _).grown hg (by simp) (by intro k hk; simp [Value.ownBlock] at hk; omega)
  clear ho hg
  go_wp2
  go_ret
  exact ⟨_, rfl, HO.out, HB.out⟩
/-- F's answers, the first j of n laid. -/
def lay (F : Nat → Int) (n j : Nat) : List Int := (List.range n).map fun i => if i < j then F i else 0
theorem lay_length (F : Nat → Int) (n j : Nat) : (lay F n j).length = n := by simp [lay]
theorem lay_zero (F : Nat → Int) (n : Nat) : lay F n 0 = zer n := by
  apply List.ext_getElem
  · simp [lay, zer]
  · intro i h1 h2; simp [lay, zer]
theorem lay_set (F : Nat → Int) (n j : Nat) : (lay F n j).set j (F j) = lay F n (j + 1) := by
  apply List.ext_getElem
  · simp [lay]
  · intro i h1 h2
    simp only [List.getElem_set, lay, List.getElem_map, List.getElem_range]
    by_cases e : j = i
    · subst e; simp
    · rw [if_neg e]
      by_cases h : i < j
      · simp [h, show i < j + 1 from by omega]
      · simp [h, show ¬ i < j + 1 from by omega]
theorem lay_all (F : Nat → Int) (n : Nat) : lay F n n = (List.range n).map F := by
  apply List.ext_getElem
  · simp [lay]
  · intro i h1 h2
    have : i < n := by simpa [lay] using h1
    simp [lay, this]
theorem lay_zip (op : Int → Int → Int) (a b : List Int) (n : Nat) (ha : a.length = n) (hb : b.length = n) : lay (fun i => op (a.getD i 0) (b.getD i 0)) n n = List.zipWith op a b := by
  rw [lay_all]
  apply List.ext_getElem
  · simp; omega
  · intro i h1 h2
    have : i < n := by simpa using h1
    simp [ha, hb, this]
def eachR (op : Int → Int → Int) (s t : Ten) : Ten := if fitE s t = 0 then (s.1, List.zipWith op s.2 t.2) else ([], [])
theorem fit_zero {s t : Ten} (h : fitE s t = 0) : tok s = true ∧ tok t = true ∧ s.1 = t.1 := by
  cases hs : tok s with
  | false => simp [fitE, hs] at h
  | true =>
    cases ht : tok t with
    | false => simp [fitE, hs, ht] at h
    | true =>
      refine ⟨rfl, rfl, ?_⟩
      by_cases e : s.1 = t.1
      · exact e
      · simp [fitE, hs, ht, e] at h
theorem fit_to {a0 a1 b0 b1 : Value} {s t : Ten} {w : World} (x : Int) (ha : Tens w a0 a1 s) (hb' : Tens w b0 b1 t) (hx : fitE s t = x) :
    Calls Tryz.prog 161 #[.agg #[a0, a1], .agg #[b0, b1]] w fun e w' => e = .returned (.int .i64 x) ∧ Below w.heap.size w w' := by
  subst hx
  exact fit_any ha hb'
set_option maxHeartbeats 1000000 in
theorem each_bad {deeds : ByteArray} {a0 a1 b0 b1 : Value} {s t : Ten} {w : World} (ha : Tens w a0 a1 s) (hb' : Tens w b0 b1 t) (x : Int) (hx : fitE s t = x) (hx0 : (x != 0) = true) :
    Calls Tryz.prog 148 #[.string deeds, .agg #[a0, a1], .agg #[b0, b1]] w fun e w' => e = .returned (.tuple #[.agg #[.slice none 0 0, .slice none 0 0], .int .i64 x]) ∧ Below w.heap.size w w' := by
  have hb : Below w.heap.size w (((w.alloc (.cells #[a0, a1] 156)).alloc (.cells #[b0, b1] 156)).alloc (.cells #[.slice none 0 0, .slice none 0 0] 156)) := (((Below.refl _ _).alloc (Nat.le_refl _) _).alloc (by simp) _).alloc (by simp; omega) _
  have HA : Hid (Tens (((w.alloc (.cells #[a0, a1] 156)).alloc (.cells #[b0, b1] 156)).alloc (.cells #[.slice none 0 0, .slice none 0 0] 156)) a0 a1 s) := ha.later hb
  have HT : Hid (Tens (((w.alloc (.cells #[a0, a1] 156)).alloc (.cells #[b0, b1] 156)).alloc (.cells #[.slice none 0 0, .slice none 0 0] 156)) b0 b1 t) := hb'.later hb
  have HB : Hid (Below w.heap.size w (((w.alloc (.cells #[a0, a1] 156)).alloc (.cells #[b0, b1] 156)).alloc (.cells #[.slice none 0 0, .slice none 0 0] 156))) := hb
  have HBX : Hid (Box (((w.alloc (.cells #[a0, a1] 156)).alloc (.cells #[b0, b1] 156)).alloc (.cells #[.slice none 0 0, .slice none 0 0] 156)) (w.heap.size + 1 + 1) (.slice none 0 0) (.slice none 0 0)) := by
    have := Box.new ((w.alloc (.cells #[a0, a1] 156)).alloc (.cells #[b0, b1] 156)) (.slice none 0 0) (.slice none 0 0)
    simp only [World.size_alloc] at this
    exact this
  have HX : Hid (fitE s t = x) := hx
  clear ha hb' hb hx
  go_enter Tryz.func148, Tryz.ntmps148
  go_wp2_with fail
  refine (fit_to x HA.out HT.out HX.out).mono ?_
  rintro e w1 ⟨rfl, hb1⟩
  have HB1 : Hid (Below w.heap.size w w1) := Below.after HB.out hb1
  have hbx := HBX.out.later hb1
  have hx0' := hbx.c0
  have hx1 := hbx.c1
  have hf0 := hbx.f 0
  have hf1 := hbx.f 1
  have HBS : Hid (Box _ _ _ _) := hbx.set (.slice none 0 0) (.slice none 0 0)
  clear hb1 hbx
  go_wp2
  have hr0 := HBS.out.c0
  have hr1 := HBS.out.c1
  exact bodyPost_ret (v := .tuple #[.agg #[.slice none 0 0, .slice none 0 0], .int .i64 x]) (by simp [results, Tryz.results148, go_sem, hr0, hr1]) rfl ⟨rfl, (HB1.out.setCell (by simp; omega) _).setCell (by simp; omega) _⟩
set_option maxHeartbeats 2000000 in
theorem each_ok {deeds : ByteArray} {op : Int → Int → Int} (HD : Hid (Deed deeds op)) {a0 a1 b0 b1 : Value} {s t : Ten} {w : World} (ha : Tens w a0 a1 s) (hb' : Tens w b0 b1 t) (hx : fitE s t = 0) :
    Calls Tryz.prog 148 #[.string deeds, .agg #[a0, a1], .agg #[b0, b1]] w fun e w' => ∃ x0 x1, e = .returned (.tuple #[.agg #[x0, x1], .int .i64 0]) ∧ OwnT w' w.heap.size x0 x1 (s.1, List.zipWith op s.2 t.2) ∧ Below w.heap.size w w' := by
  obtain ⟨hs, ht, hd⟩ := fit_zero hx
  have hpo := okd_parts (tok_okd hs)
  have hp1 := prd_lo hpo.2.2.1
  have hl1 := tok_len hs
  have hl2 := tok_len ht
  rw [← hd] at hl2
  obtain ⟨n, hn⟩ : ∃ n : Nat, s.2.length = n := ⟨_, rfl⟩
  have hn2 : t.2.length = n := by omega
  have hn1 : 1 ≤ n := by omega
  have hn64 : n ≤ 64 := by omega
  have HN : Hid (s.2.length = n) := hn
  have HN2 : Hid (t.2.length = n) := hn2
  have HD1 : Hid (1 ≤ s.1.length) := hpo.1
  have hb : Below w.heap.size w (((w.alloc (.cells #[a0, a1] 156)).alloc (.cells #[b0, b1] 156)).alloc (.cells #[.slice none 0 0, .slice none 0 0] 156)) := (((Below.refl _ _).alloc (Nat.le_refl _) _).alloc (by simp) _).alloc (by simp; omega) _
  have HA : Hid (Tens (((w.alloc (.cells #[a0, a1] 156)).alloc (.cells #[b0, b1] 156)).alloc (.cells #[.slice none 0 0, .slice none 0 0] 156)) a0 a1 s) := ha.later hb
  have HT : Hid (Tens (((w.alloc (.cells #[a0, a1] 156)).alloc (.cells #[b0, b1] 156)).alloc (.cells #[.slice none 0 0, .slice none 0 0] 156)) b0 b1 t) := hb'.later hb
  have HB : Hid (Below w.heap.size w (((w.alloc (.cells #[a0, a1] 156)).alloc (.cells #[b0, b1] 156)).alloc (.cells #[.slice none 0 0, .slice none 0 0] 156))) := hb
  have HBX : Hid (Box (((w.alloc (.cells #[a0, a1] 156)).alloc (.cells #[b0, b1] 156)).alloc (.cells #[.slice none 0 0, .slice none 0 0] 156)) (w.heap.size + 1 + 1) (.slice none 0 0) (.slice none 0 0)) := by
    have := Box.new ((w.alloc (.cells #[a0, a1] 156)).alloc (.cells #[b0, b1] 156)) (.slice none 0 0) (.slice none 0 0)
    simp only [World.size_alloc] at this
    exact this
  have HBA : Hid (Box (((w.alloc (.cells #[a0, a1] 156)).alloc (.cells #[b0, b1] 156)).alloc (.cells #[.slice none 0 0, .slice none 0 0] 156)) w.heap.size a0 a1) := ((Box.new w a0 a1).alloc _).alloc _
  have HBB : Hid (Box (((w.alloc (.cells #[a0, a1] 156)).alloc (.cells #[b0, b1] 156)).alloc (.cells #[.slice none 0 0, .slice none 0 0] 156)) (w.heap.size + 1) b0 b1) := by
    have := (Box.new (w.alloc (.cells #[a0, a1] 156)) b0 b1).alloc (.cells #[.slice none 0 0, .slice none 0 0] 156)
    simp only [World.size_alloc] at this
    exact this
  have HX : Hid (fitE s t = 0) := hx
  rcases ha.2.cases with ⟨e, _⟩ | ⟨ab, ao, ac, ea, _, ha1, _, HCA⟩
  · rw [e] at hn; simp at hn; omega
  rcases hb'.2.cases with ⟨e, _⟩ | ⟨bb, bo, bc, eb, _, hb1, _, HCB⟩
  · rw [e] at hn2; simp at hn2; omega
  rw [hn] at ea ha1
  rw [hn2] at eb hb1
  subst ea eb
  have hmk := fun w => make_ints w n (by omega)
  clear ha hb' hb hx hs ht hd hpo hp1 hl1 hl2 hn hn2
  go_enter Tryz.func148, Tryz.ntmps148
  go_wp2_with fail
  refine (fit_to 0 HA.out HT.out HX.out).mono ?_
  rintro e w1 ⟨rfl, hb1'⟩
  have HB1 : Hid (Below w.heap.size w w1) := Below.after HB.out hb1'
  have hs1 := hb1'.size
  simp at hs1
  have HBX1 : Hid (Box w1 (w.heap.size + 1 + 1) (.slice none 0 0) (.slice none 0 0)) := HBX.out.later hb1'
  have hca0 : w1.cell? ⟨w.heap.size, 0, none⟩ = some a0 := (HBA.out.later hb1').c0
  have hca1 : w1.cell? ⟨w.heap.size, 1, none⟩ = some (.slice (some ⟨ab, ao, none⟩) n ac) := (HBA.out.later hb1').c1
  have hcb1 : w1.cell? ⟨w.heap.size + 1, 1, none⟩ = some (.slice (some ⟨bb, bo, none⟩) n bc) := (HBB.out.later hb1').c1
  have HA1 : Hid (Ints w1 a0 s.1) := (HA.out.later hb1').1
  have HCA1 : Hid (∀ i, i < n → w1.cell? ⟨ab, ao + i, none⟩ = some (.int .i64 (s.2.getD i 0))) := fun i h => by
    have h' : i < s.2.length := by rw [HN.out]; exact h
    rw [show s.2.getD i 0 = s.2[i] by simp [h']]
    exact cell_later HB1.out (HCA.out i h')
  have HCB1 : Hid (∀ i, i < n → w1.cell? ⟨bb, bo + i, none⟩ = some (.int .i64 (t.2.getD i 0))) := fun i h => by
    have h' : i < t.2.length := by rw [HN2.out]; exact h
    rw [show t.2.getD i 0 = t.2[i] by simp [h']]
    exact cell_later HB1.out (HCB.out i h')
  have hca1' : (w1.alloc (.cells (ia (zer n)) 3)).cell? ⟨w.heap.size, 1, none⟩ = some (.slice (some ⟨ab, ao, none⟩) n ac) := ((HBA.out.later hb1').alloc _).c1
  clear hb1' HA HT HB HBX HCA HCB HBA HBB
  go_wp2
  clear hmk
  have HST : Hid (Blk (w1.alloc (.cells (ia (zer n)) 3)) w1.heap.size (lay (fun i => op (s.2.getD i 0) (t.2.getD i 0)) n 0)) := by
    show Blk _ _ _
    rw [lay_zero]
    exact Blk.new w1 _
  go_loopw [26] (fun i w' => ∃ j : Nat, j ≤ n ∧ i = .int .i64 j ∧ Blk w' w1.heap.size (lay (fun i => op (s.2.getD i 0) (t.2.getD i 0)) n j) ∧ Below w1.heap.size w1 w') (fun i _ => n - (intOf i).toNat)
  case atStart => exact ⟨0, by omega, rfl, HST.out, (Below.refl _ _).alloc (Nat.le_refl _) _⟩
  case round =>
    obtain ⟨j, hj, rfl, hB, hbel⟩ := hrel
    have HB3 : Hid (Blk wr w1.heap.size (lay (fun i => op (s.2.getD i 0) (t.2.getD i 0)) n j)) := hB
    have HBL3 : Hid (Below w1.heap.size w1 wr) := hbel
    have hsr := HBL3.out.size
    have hbr := HB3.out.lt
    clear hB hbel
    by_cases hlt : j < n
    · have hcx := cell_later HBL3.out (HCA1.out j hlt)
      have hcy := cell_later HBL3.out (HCB1.out j hlt)
      have hcb := cell_later HBL3.out hcb1
      go_wp2_with fail
      refine (HD.out _ _ _).mono ?_
      rintro e w2 ⟨rfl, hb2⟩
      have HB4 : Hid (Blk w2 w1.heap.size (lay (fun i => op (s.2.getD i 0) (t.2.getD i 0)) n j)) := HB3.out.later hb2 hbr
      have HBL4 : Hid (Below w1.heap.size w1 w2) := Below.after HBL3.out hb2
      have hf := HB4.out.frozen j
      obtain ⟨z, hc⟩ : ∃ z, w2.cell? ⟨w1.heap.size, j, none⟩ = some z := ⟨_, HB4.out.cell j (by rw [lay_length]; exact hlt)⟩
      clear hb2
      go_wp2
      go_roundw
      case rel =>
        refine ⟨j + 1, by omega, by go_num, ?_, HBL4.out.setCell (Nat.le_refl _) _⟩
        have := HB4.out.set j (op (s.2.getD j 0) (t.2.getD j 0))
        rw [lay_set (fun i => op (s.2.getD i 0) (t.2.getD i 0))] at this
        exact this
      case measure => simp [intOf]; omega
    · have hj' : j = n := by omega
      subst hj'
      have hca := cell_later HBL3.out hca0
      go_wp2_with fail
      refine (clone_own (HA1.out.later HBL3.out) HD1.out).mono ?_
      rintro e w2 ⟨v0, rfl, ho0, hb2⟩
      have HO0 : Hid (Own w2 wr.heap.size v0 s.1) := ho0
      have HBL4 : Hid (Below w1.heap.size w1 w2) := Below.after HBL3.out hb2
      have HB5 : Hid (Blk w2 w1.heap.size (List.zipWith op s.2 t.2)) := by
        have := HB3.out.later hb2 hbr
        rw [lay_zip _ _ _ _ HN.out HN2.out] at this
        exact this
      have hbx := HBX1.out.later HBL4.out
      have hx0 := hbx.c0
      have hx1 := hbx.c1
      have hf0 := hbx.f 0
      have hf1 := hbx.f 1
      obtain ⟨va, vc, rfl⟩ := ho0.ints.shape
      have HBS : Hid (Box _ _ _ _) := hbx.set (.slice va s.1.length vc) (.slice (some ⟨w1.heap.size, 0, none⟩) j j)
      have hs2 := HBL4.out.size
      clear hb2 hbx ho0
      go_wp2
      have hr0 := HBS.out.c0
      have hr1 := HBS.out.c1
      refine bodyPost_ret (v := .tuple #[.agg #[.slice va s.1.length vc, .slice (some ⟨w1.heap.size, 0, none⟩) j j], .int .i64 0]) (by simp [results, Tryz.results148, go_sem, hr0, hr1]) rfl ⟨_, _, rfl, ?_, ?_⟩
      · have hzl : (List.zipWith op s.2 t.2).length = j := by simp [HN.out, HN2.out]
        have h1 : OwnT w2 (w.heap.size + 1 + 1 + 1) (.slice va s.1.length vc) (.slice (some ⟨w1.heap.size, 0, none⟩) j j) (s.1, List.zipWith op s.2 t.2) :=
          ⟨HO0.out.mono (by omega), HB5.out.own (by omega) hzl.symm (by rw [hzl]; unfold big; omega), fun k hk => by
            have h2 := HO0.out.frm k hk
            simp [Value.ownBlock]
            omega⟩
        exact ((h1.setCell _ _ (by simp)).setCell _ _ (by simp)).mono (by omega)
      · exact ((Below.after HB1.out HBL4.out).setCell (by simp; omega) _).setCell (by simp; omega) _
theorem each_any {deeds : ByteArray} {op : Int → Int → Int} (HD : Hid (Deed deeds op)) {a0 a1 b0 b1 : Value} {s t : Ten} {w : World} (ha : Tens w a0 a1 s) (hb' : Tens w b0 b1 t) :
    Calls Tryz.prog 148 #[.string deeds, .agg #[a0, a1], .agg #[b0, b1]] w fun e w' => ∃ x0 x1, e = .returned (.tuple #[.agg #[x0, x1], .int .i64 (fitE s t)]) ∧ OwnT w' w.heap.size x0 x1 (eachR op s t) ∧ Below w.heap.size w w' := by
  by_cases h : fitE s t = 0
  · rw [eachR, if_pos h, h]
    exact each_ok HD ha hb' h
  · rw [eachR, if_neg h]
    refine (each_bad ha hb' _ rfl (by simp [h])).mono ?_
    rintro e w' ⟨rfl, hb⟩
    exact ⟨_, _, rfl, OwnT.nil _ _, hb⟩
def opA (x y : Int) : Int := wrap64 (x + y)
def opS (x y : Int) : Int := wrap64 (x + wrap64 (-y))
def opM (x y : Int) : Int := wrap64 (x * y)
def opN (_x y : Int) : Int := wrap64 (-y)
theorem fit_fill {s : Ten} (n : Int) (h : okd s.1 = true) : fitE (s.1, List.replicate (prd s.1).toNat n) s = tkE s := by
  obtain ⟨_, _, hin, _⟩ := okd_parts h
  have hp := prd_lo hin
  have h1 : tok (s.1, List.replicate (prd s.1).toNat n) = true := by simp [tok, h]; omega
  simp only [fitE, h1, tkE, Bool.true_and]
  simp
theorem fit_none {s : Ten} : fitE ([], []) s = 1 := by
  have h1 : tok ([], []) = false := by decide
  simp [fitE, h1]
def sclR (n : Int) (s : Ten) : Ten := if tok s then (s.1, s.2.map fun y => wrap64 (n * y)) else ([], [])
theorem zip_rep (op : Int → Int → Int) (n : Int) (l : List Int) : List.zipWith op (List.replicate l.length n) l = l.map (op n) := by
  induction l with
  | nil => rfl
  | cons x l ih => simp [List.replicate_succ, ih]
theorem each_fill {s : Ten} (n : Int) (h : okd s.1 = true) : eachR opM (s.1, List.replicate (prd s.1).toNat n) s = sclR n s := by
  rw [eachR, fit_fill n h, sclR, tkE]
  cases ht : tok s with
  | false => simp
  | true =>
    have hl := tok_len ht
    have : (prd s.1).toNat = s.2.length := by omega
    simp only [if_true, this]
    rw [zip_rep]
    rfl
theorem each_none {s : Ten} : eachR opM ([], []) s = ([], []) := by rw [eachR, fit_none]; rfl
theorem copy_Own {v : Value} {d : List Int} {w : World} (h : Ints w v d) :
    Calls Tryz.prog 64 #[v] w fun e w' => ∃ v', e = .returned v' ∧ Own w' w.heap.size v' d ∧ Below w.heap.size w w' := by
  refine (copy_own h).mono ?_
  rintro e w' ⟨v', rfl, ho, hb⟩
  exact ⟨v', rfl, ⟨ho, h.len⟩, hb⟩
theorem Own.put {w : World} {B g n cap : Nat} {d : List Int} (h : Own w B (.slice (some ⟨g, 0, none⟩) n cap) d) (hn : d.length = n) (j : Nat) (hj : j < n) (x : Int) :
    w.cell? ⟨g, j, none⟩ = some (.int .i64 (d.getD j 0)) ∧ w.frozen? ⟨g, j, none⟩ = false ∧ Own (w.setCell ⟨g, j, none⟩ (.int .i64 x)) B (.slice (some ⟨g, 0, none⟩) n cap) (d.set j x) := by
  subst hn
  have h1 := h.row.cellAt j (by omega)
  have h2 := h.row.frozenAt j
  have h3 := (h.row.stored j (.int .i64 x)).1
  refine ⟨by rw [h1]; simp [hj], h2, ?_, by simpa using h.len⟩
  rw [List.map_set, List.length_set]
  exact h3
/-- All blocks but g are as they were. -/
structure But (g : Nat) (w w' : World) : Prop where
  os : w'.os = w.os
  tape : w'.tape = w.tape
  output : w'.output = w.output
  size : w'.heap.size = w.heap.size
  block : ∀ k, k ≠ g → w'.heap[k]? = w.heap[k]?
theorem But.refl (g : Nat) (w : World) : But g w w := ⟨rfl, rfl, rfl, rfl, fun _ _ => rfl⟩
theorem But.below {g N : Nat} {w0 w w' : World} (h : But g w w') (hb : Below N w0 w) (hN : N ≤ g) : Below N w0 w' :=
  hb.trans ⟨h.os, h.tape, h.output, by rw [h.size]; exact Nat.le_refl _, fun k hk => h.block k (by omega)⟩
theorem But.setCell {g j : Nat} {w w' : World} (h : But g w w') (u : Value) : But g w (w'.setCell ⟨g, j, none⟩ u) :=
  ⟨h.os, h.tape, h.output, by rw [← h.size]; simp, fun k hk => (heap_setCell_other _ _ _ _ hk).trans (h.block k hk)⟩
theorem But.drew {g : Nat} {w w' : World} (h : But g w w') : But g w w'.drew := ⟨h.os, h.tape, h.output, h.size, h.block⟩
theorem But.box {g : Nat} {w w' : World} (h : But g w w') {B : Nat} {x y : Value} (hb : Box w B x y) (hB : B ≠ g) : Box w' B x y := (h.block B hB).trans hb
theorem But.cell {g : Nat} {w w' : World} {p : Addr} (h : But g w w') (hp : p.block ≠ g) : w'.cell? p = w.cell? p := World.cell?_of_block (w := w) (h.block p.block hp)
theorem Own.drew {w : World} {B : Nat} {v : Value} {d : List Int} (h : Own w B v d) : Own w.drew B v d := h.at fun _ _ => rfl
/-- l, its first j numbers by F. -/
def mix (F : Nat → Int) (l : List Int) (j : Nat) : List Int := (List.range l.length).map fun i => if i < j then F i else l.getD i 0
theorem mix_length (F : Nat → Int) (l : List Int) (j : Nat) : (mix F l j).length = l.length := by simp [mix]
theorem mix_zero (F : Nat → Int) (l : List Int) : mix F l 0 = l := by
  apply List.ext_getElem
  · simp [mix]
  · intro i h1 h2; simp [mix, h2]
theorem mix_set (F : Nat → Int) (l : List Int) (j : Nat) : (mix F l j).set j (F j) = mix F l (j + 1) := by
  apply List.ext_getElem
  · simp [mix]
  · intro i h1 h2
    simp only [List.getElem_set, mix, List.getElem_map, List.getElem_range]
    by_cases e : j = i
    · subst e; simp
    · rw [if_neg e]
      by_cases h : i < j
      · simp [h, show i < j + 1 from by omega]
      · simp [h, show ¬ i < j + 1 from by omega]
theorem Ints.cellD {w : World} {b off n c : Nat} {d : List Int} (HC : Hid (∀ i (h : i < d.length), w.cell? ⟨b, off + i, none⟩ = some (.int .i64 d[i]))) (i : Nat) (h : i < d.length) : w.cell? ⟨b, off + i, none⟩ = some (.int .i64 (d.getD i 0)) := by
  rw [show d.getD i 0 = d[i] by simp [h]]
  exact HC.out i h
theorem Ints.shape3 {w : World} {v : Value} {d : List Int} (h : Ints w v d) : ∃ a n c, v = .slice a n c := by
  obtain ⟨a, c, rfl⟩ := h.shape
  exact ⟨_, _, _, rfl⟩
theorem eqn_to {v v' : Value} {a b : List Int} {w : World} (x : Bool) (ha : Ints w v a) (hb : Ints w v' b) (hx : (a == b) = x) :
    Calls Tryz.prog 63 #[v, v'] w fun e w' => e = .returned (.bool x) ∧ ∃ n, w' = w.drewN n := by
  subst hx
  exact eqn_any ha hb
theorem rdims_to {v : Value} {d : List Int} {w : World} (x : Bool) (h : Ints w v d) (hx : okd d = x) :
    Calls Tryz.prog 98 #[v] w fun e w' => e = .returned (.bool x) ∧ w = w' := by
  subst hx
  exact rdims_any h
theorem Ints.old {w : World} {v : Value} {d : List Int} (h : Ints w v d) (h1 : 1 ≤ d.length) : ∀ k, v.ownBlock = some k → k < w.heap.size := by
  intro k hk
  rcases h.cases with ⟨rfl, _⟩ | ⟨b, off, c, rfl, h0, _, _, hc⟩
  · simp at h1
  · simp [Value.ownBlock] at hk
    subst hk
    exact World.block_lt_of_cell? _ _ (hc.out 0 h0)
set_option maxHeartbeats 400000 in
theorem fill_own {v : Value} {d : List Int} {w : World} (n : Int) (h : Ints w v d) (hok : okd d = true) :
    Calls Tryz.prog 115 #[v, .int .i64 n] w fun e w' => ∃ x0 b1, e = .returned (.tuple #[.agg #[x0, .slice (some ⟨b1, 0, none⟩) (prd d).toNat (prd d).toNat], .int .i64 0]) ∧ Own w' w.heap.size x0 d ∧ Blk w' b1 (List.replicate (prd d).toNat n) ∧ (w.heap.size ≤ b1 ∧ ∀ k, x0.ownBlock = some k → k ≠ b1) ∧ Below w.heap.size w w' := by
  have hb : Below w.heap.size w (w.alloc (.cells #[.slice none 0 0, .slice none 0 0] 156)) := (Below.refl _ _).alloc (Nat.le_refl _) _
  have H : Hid (Ints (w.alloc (.cells #[.slice none 0 0, .slice none 0 0] 156)) v d) := h.later hb
  have HB : Hid (Below w.heap.size w (w.alloc (.cells #[.slice none 0 0, .slice none 0 0] 156))) := hb
  have HK : Hid (okd d = true) := hok
  obtain ⟨hl1, hl2, hin, hp⟩ := okd_parts hok
  have hp1 := prd_lo hin
  have HC : Hid ((prd d).toNat = prd d) := by show _ = _; omega
  obtain ⟨m, hm⟩ : ∃ m : Nat, prd d = m := ⟨(prd d).toNat, by omega⟩
  have HM : Hid (prd d = m) := hm
  have hm1 : 1 ≤ m := by omega
  have hm2 : m ≤ 64 := by omega
  have hmk := fun w => make_ints w m (by omega)
  clear h hok hb hin hp hp1 hm
  go_enter Tryz.func115, Tryz.ntmps115
  go_wp2_with fail
  refine (cells_ok H.out HK.out).mono ?_
  rw [HM.out]
  rintro e w1 ⟨rfl, hb1⟩
  have hsz := hb1.size
  simp at hsz
  have HB1 : Hid (Below w.heap.size w w1) := Below.after HB.out hb1
  have HH : Hid (Ints w1 v d) := H.out.later hb1
  have hbox : Hid (w1.heap[w.heap.size]? = some (.cells #[.slice none 0 0, .slice none 0 0] 156 (0, 0))) := (hb1.block w.heap.size (by simp)).trans (heap_alloc_new w _)
  clear hb1
  go_wp2
  clear hmk
  have HST : Hid (Blk (w1.alloc (.cells (ia (zer m)) 3)) w1.heap.size (fil m 0 n)) := by
    show Blk _ _ _
    rw [fil_zero]
    exact Blk.new w1 _
  go_loopw [23] (fun i w' => ∃ j : Nat, j ≤ m ∧ i = .int .i64 j ∧ Blk w' w1.heap.size (fil m j n) ∧ Below w1.heap.size w1 w') (fun i _ => m - (intOf i).toNat)
  case atStart => exact ⟨0, by omega, rfl, HST.out, (Below.refl _ _).alloc (Nat.le_refl _) _⟩
  case round =>
    obtain ⟨j, hj, rfl, hB, hbel⟩ := hrel
    have HB3 : Hid (Blk wr w1.heap.size (fil m j n)) := hB
    have HBL3 : Hid (Below w1.heap.size w1 wr) := hbel
    clear hB hbel
    by_cases hltj : j < m
    · have hf := HB3.out.frozen j
      obtain ⟨x, hc⟩ : ∃ x, wr.cell? ⟨w1.heap.size, j, none⟩ = some x := ⟨_, HB3.out.cell j (by rw [fil_length _ _ _ hj]; exact hltj)⟩
      go_wp2
      refine ⟨⟨j + 1, by omega, by go_num, ?_, HBL3.out.setCell (Nat.le_refl _) _⟩, by simp [intOf]; omega⟩
      have := HB3.out.set j n
      rw [fil_set _ _ _ hltj] at this
      exact this
    · have hj' : j = m := by omega
      subst hj'
      have hws := HBL3.out.size
      go_wp2_with fail
      refine (clone_own (HH.out.later HBL3.out) hl1).mono ?_
      rintro e w2 ⟨v0, rfl, ho0, hb2⟩
      have hi0 := ho0.ints
      have hf0 := ho0.frm
      obtain ⟨va, vc, rfl⟩ := hi0.shape
      have HI0 : Hid (Ints w2 (.slice va d.length vc) d) := hi0
      have HO0 : Hid (Own w2 wr.heap.size (.slice va d.length vc) d) := ho0
      have hlt0 := HB3.out.lt
      have HF0 : Hid (From wr.heap.size (.slice va d.length vc)) := hf0
      have HB4 : Hid (Below w1.heap.size w1 w2) := Below.after HBL3.out hb2
      have HB5 : Hid (Blk w2 w1.heap.size (List.replicate j n)) := by
        have := HB3.out.later hb2 HB3.out.lt
        rw [fil_all] at this
        exact this
      have hbx : w2.heap[w.heap.size]? = some (.cells #[.slice none 0 0, .slice none 0 0] 156 (0, 0)) := (HB4.out.block _ (by omega)).trans hbox.out
      have hx0 := cell_of_row w2 w.heap.size 0 _ _ _ hbx
      have hx1 := cell_of_row w2 w.heap.size 1 _ _ _ hbx
      have hy0 := frozen_of_row w2 w.heap.size 0 _ _ hbx
      have hy1 := frozen_of_row w2 w.heap.size 1 _ _ hbx
      simp at hx0 hx1
      have hs1 := heap_setCell_same w2 w.heap.size 0 _ 156 (.slice va d.length vc) hbx
      have hs2 := heap_setCell_same _ w.heap.size 1 _ 156 (.slice (some ⟨w1.heap.size, 0, none⟩) j j) hs1
      have HR0 : Hid (((w2.setCell ⟨w.heap.size, 0, none⟩ (.slice va d.length vc)).setCell ⟨w.heap.size, 1, none⟩ (.slice (some ⟨w1.heap.size, 0, none⟩) j j)).cell? ⟨w.heap.size, 0, none⟩ = some (.slice va d.length vc)) := by
        show _ = _
        rw [cell_of_row _ w.heap.size 0 _ _ _ hs2]
        rfl
      have HR1 : Hid (((w2.setCell ⟨w.heap.size, 0, none⟩ (.slice va d.length vc)).setCell ⟨w.heap.size, 1, none⟩ (.slice (some ⟨w1.heap.size, 0, none⟩) j j)).cell? ⟨w.heap.size, 1, none⟩ = some (.slice (some ⟨w1.heap.size, 0, none⟩) j j)) := by
        show _ = _
        rw [cell_of_row _ w.heap.size 1 _ _ _ hs2]
        rfl
      clear ho0 hi0 hf0 hb2 hbx hs1 hs2
      go_wp2
      have HJ : Hid ((prd d).toNat = j) := by show _ = _; rw [HM.out]; rfl
      clear HM HC
      have hr0 := HR0.out
      have hr1 := HR1.out
      refine bodyPost_ret (v := .tuple #[.agg #[.slice va d.length vc, .slice (some ⟨w1.heap.size, 0, none⟩) j j], .int .i64 0]) (by simp [results, Tryz.results115, go_sem, hr0, hr1]) rfl ⟨_, w1.heap.size, by rw [HJ.out], ?_, ?_, ⟨by omega, fun k hk => by have := HF0.out k hk; omega⟩, ?_⟩
      · exact (((HO0.out.setCell _ _ (fun k hk => by have := HF0.out k hk; simp; omega)).setCell _ _ (fun k hk => by have := HF0.out k hk; simp; omega))).mono (by omega)
      · rw [HJ.out]
        exact (HB5.out.setOther _ _ (by simp; omega)).setOther _ _ (by simp; omega)
      · exact ((Below.after HB1.out HB4.out).setCell (Nat.le_refl _) _).setCell (Nat.le_refl _) _
theorem It.nx {w : World} {I k : Nat} {s : ByteArray} (h : It w I s k) (hk : k < s.size) (x : Int) (hx : (s[k].toNat : Int) = x) (h1 : s[k].toNat < 128) (ty : TypeId) :
    (Instr.next (.pointer (some ⟨I, 0, none⟩)) true ty).run Tryz.prog w = .ok (.tuple #[.bool true, .int .i64 k, .int .i32 x]) (w.iterAt I s (k + 1)) := by
  subst hx
  rw [Lib.run_next_ascii_at w I s k ty h hk h1]
theorem It.nd {w : World} {I k : Nat} {s : ByteArray} (h : It w I s k) (hk : k = s.size) (ty : TypeId) :
    (Instr.next (.pointer (some ⟨I, 0, none⟩)) true ty).run Tryz.prog w = .ok (.tuple #[.bool false]) w :=
  Lib.run_next_end_at w I s k ty h (by omega)
theorem It.blk {w : World} {B I : Nat} {xs : List Int} {s : ByteArray} {p : Nat} (h : Blk w B xs) (hi : It w I s p) : I ≠ B := by
  rintro rfl
  have := h.symm.trans hi
  cases this
/-- What spells in which dims a place agrees. -/
def tieB (x : Int) : UInt8 := if x = 1 then 42 else 61
def tieT (d : List Int) : ByteArray := ⟨(d.map tieB).toArray⟩
theorem tieT_snoc (l : List Int) (x : Int) : tieT (l ++ [x]) = tieT l ++ ⟨#[tieB x]⟩ := by
  have h := ByteArray.mk_append_mk (l.map tieB) [tieB x]
  simp only [tieT, List.map_append, List.map_cons, List.map_nil]
  exact h.symm
theorem tieT_size (d : List Int) : (tieT d).size = d.length := by simp [tieT, ByteArray.size]
theorem tieT_get (d : List Int) (k : Nat) (h : k < d.length) (hs : k < (tieT d).size) : (tieT d)[k] = tieB d[k] := by
  show (tieT d).data[k] = _
  simp [tieT]
end Go.Proofs.YtkojdigaoihkpaaGreatDoor

end
section
namespace Go.Proofs.YtkojdigaoihkpaaGreatDoor
set_option linter.unusedVariables false
set_option linter.unusedSimpArgs false
set_option maxRecDepth 100000

/-- Where the turned one's number q comes from (m rows, n columns). -/
def tinv (m n q : Nat) : Nat := (q % m) * n + q / m
theorem tinv_lt {m n q : Nat} (h : q < m * n) : tinv m n q < m * n := by
  have hm : 0 < m := by
    rcases Nat.eq_zero_or_pos m with e | e
    · subst e; simp at h
    · exact e
  have h1 : q % m < m := Nat.mod_lt _ hm
  have h2 : q / m < n := Nat.div_lt_of_lt_mul h
  have h3 : (q % m + 1) * n ≤ m * n := Nat.mul_le_mul_right n h1
  rw [Nat.add_mul, Nat.one_mul] at h3
  unfold tinv
  omega
theorem tinv_back {m n q : Nat} (h : q < m * n) : tinv n m (tinv m n q) = q := by
  have hm : 0 < m := by
    rcases Nat.eq_zero_or_pos m with e | e
    · subst e; simp at h
    · exact e
  have h2 : q / m < n := Nat.div_lt_of_lt_mul h
  have e1 : tinv m n q % n = q / m := by
    unfold tinv
    rw [Nat.add_comm, Nat.add_mul_mod_self_right]
    exact Nat.mod_eq_of_lt h2
  have e2 : tinv m n q / n = q % m := by
    unfold tinv
    rw [Nat.add_comm, Nat.add_mul_div_right _ _ (by omega), Nat.div_eq_of_lt h2, Nat.zero_add]
  show (tinv m n q % n) * m + tinv m n q / n = q
  rw [e1, e2, Nat.mul_comm]
  exact Nat.div_add_mod q m
/-- Turned as far as j numbers. -/
def trn (m n : Nat) (l : List Int) (j : Nat) : List Int := (List.range (m * n)).map fun q => if tinv m n q < j then l.getD (tinv m n q) 0 else 0
def tns (m n : Nat) (l : List Int) : List Int := (List.range (m * n)).map fun q => l.getD (tinv m n q) 0
theorem trn_length (m n : Nat) (l : List Int) (j : Nat) : (trn m n l j).length = m * n := by simp [trn]
theorem tns_length (m n : Nat) (l : List Int) : (tns m n l).length = m * n := by simp [tns]
theorem trn_zero (m n : Nat) (l : List Int) : trn m n l 0 = List.replicate (m * n) 0 := by
  apply List.ext_getElem
  · simp [trn]
  · intro i h1 h2
    simp [trn]
theorem trn_all (m n : Nat) (l : List Int) : trn m n l (m * n) = tns m n l := by
  apply List.ext_getElem
  · simp [trn, tns]
  · intro i h1 h2
    have : i < m * n := by simpa [trn] using h1
    simp [trn, tns, tinv_lt this]
theorem trn_set (m n : Nat) (l : List Int) (j : Nat) (hj : j < m * n) : (trn m n l j).set (tinv n m j) (l.getD j 0) = trn m n l (j + 1) := by
  apply List.ext_getElem
  · simp [trn]
  · intro i h1 h2
    have hi : i < m * n := by simpa [trn] using h2
    have hb := tinv_back hi
    have hj' : j < n * m := by rw [Nat.mul_comm]; exact hj
    have hc := tinv_back hj'
    simp only [List.getElem_set, trn, List.getElem_map, List.getElem_range]
    by_cases e : tinv n m j = i
    · rw [if_pos e]
      have e2 : tinv m n i = j := by rw [← e, hc]
      rw [e2, if_pos (by omega)]
    · rw [if_neg e]
      have e2 : tinv m n i ≠ j := fun h => e (by rw [← h, hb])
      by_cases h3 : tinv m n i < j
      · rw [if_pos h3, if_pos (by omega)]
      · rw [if_neg h3, if_neg (by omega)]
/-- Two dims. -/
theorem two_of {d : List Int} (h : d.length = 2) : ∃ x y, d = [x, y] := by
  match d, h with
  | [x, y], _ => exact ⟨x, y, rfl⟩
theorem okd2 {x y : Int} (h : okd [x, y] = true) : 1 ≤ x ∧ x ≤ 8 ∧ 1 ≤ y ∧ y ≤ 8 := by
  obtain ⟨_, _, hin, _⟩ := okd_parts h
  obtain ⟨a, b⟩ := inr_mem hin (x := x) (by simp)
  obtain ⟨c, d⟩ := inr_mem hin (x := y) (by simp)
  exact ⟨a, b, c, d⟩
theorem okd2_mk {x y : Int} (h : 1 ≤ x ∧ x ≤ 8 ∧ 1 ≤ y ∧ y ≤ 8) : okd [x, y] = true := by
  obtain ⟨a, b, c, d⟩ := h
  refine okd_mk (by simp) (by simp) (by simp [inr, a, b, c, d]) ?_
  have : x * y ≤ 8 * 8 := Int.mul_le_mul b d (by omega) (by omega)
  simp [prd]
  omega
theorem whr2 (m n i : Nat) : whr [(m : Int), (n : Int)] i = [((i / n : Nat) : Int), ((i % n : Nat) : Int)] := by
  simp [whr, whE, whR, stE, prd, List.range_succ]
theorem cross_at (m n i : Nat) (hm : m ≤ 8) (hn : n ≤ 8) (hi : i < m * n) : aok [(n : Int), (m : Int)] [((i % n : Nat) : Int), ((i / n : Nat) : Int)] = true ∧ atV [(n : Int), (m : Int)] [((i % n : Nat) : Int), ((i / n : Nat) : Int)] = (tinv n m i : Nat) := by
  have hn0 : 0 < n := by
    rcases Nat.eq_zero_or_pos n with e | e
    · subst e; simp at hi
    · exact e
  have hm0 : 0 < m := by
    rcases Nat.eq_zero_or_pos m with e | e
    · subst e; simp at hi
    · exact e
  have h1 : i % n < n := Nat.mod_lt _ hn0
  have h2 : i / n < m := Nat.div_lt_of_lt_mul (by rw [Nat.mul_comm]; exact hi)
  constructor
  · rw [aok, okd2_mk (by omega)]
    simp only [Bool.true_and, pok, List.length_cons, List.length_nil, decide_true, List.all_eq_true]
    intro k hk
    have hk2 : k = 0 ∨ k = 1 := by have := List.mem_range.1 hk; omega
    rcases hk2 with rfl | rfl
    · simp only [pin, List.getD_cons_zero, Bool.and_eq_true, decide_eq_true_eq]; omega
    · simp only [pin, List.getD_cons_succ, List.getD_cons_zero, Bool.and_eq_true, decide_eq_true_eq]
      exact ⟨Int.natCast_nonneg _, Int.ofNat_lt.2 h2⟩
  · simp [atV, atN, tinv]
end Go.Proofs.YtkojdigaoihkpaaGreatDoor

end
section
namespace Go.Proofs.YtkojdigaoihkpaaGreatDoor
set_option linter.unusedVariables false
set_option linter.unusedSimpArgs false
set_option maxRecDepth 100000
open Go.ChangeShapes Go.WideShapes Go.ChangeAt Go.RowKit Go.Joins Go.Deep

theorem own : ownKnob Tryz.prog.godebug = none := by kernel_rfl
theorem laidOut : laidOutB Tryz.prog = true := by kernel_rfl
section
variable {H : Type} {enc : TypeId × Value → H} {w : World}

end
end Go.Proofs.YtkojdigaoihkpaaGreatDoor

end
section
namespace Go.Proofs.YtkojdigaoihkpaaGreatDoor
set_option linter.unusedVariables false
set_option linter.unusedSimpArgs false
set_option maxRecDepth 100000
open Go.RowKit

/-- A box with a tensor in it. -/
structure TB (w : World) (B : Nat) (x y : Value) (t : Ten) : Prop where
  box : Box w B x y
  ten : Tens w x y t
theorem Below.push {w0 w : World} (h : Below w0.heap.size w0 w) (o : Obj) : Below w0.heap.size w0 (w.alloc o) := h.alloc h.size o
set_option maxRecDepth 100000 in
theorem lit35 (g : Nat → Value) : (g 0 :: g 1 :: g 2 :: g 3 :: g 4 :: g 5 :: g 6 :: g 7 :: g 8 :: g 9 :: g 10 :: g 11 :: g 12 :: g 13 :: g 14 :: g 15 :: g 16 :: g 17 :: g 18 :: g 19 :: g 20 :: g 21 :: g 22 :: g 23 :: g 24 :: g 25 :: g 26 :: g 27 :: g 28 :: g 29 :: g 30 :: g 31 :: g 32 :: g 33 :: g 34 :: []).toArray = ((List.range 35).map g).toArray := by rfl
set_option maxRecDepth 100000 in
theorem act35 (a : Act) (hd : a.defers = []) (hs : a.tmps.size = 35) : ∃ g : Nat → Value, (∀ i, a.tmps.getD i undef = g i) ∧ a = { tmps := (g 0 :: g 1 :: g 2 :: g 3 :: g 4 :: g 5 :: g 6 :: g 7 :: g 8 :: g 9 :: g 10 :: g 11 :: g 12 :: g 13 :: g 14 :: g 15 :: g 16 :: g 17 :: g 18 :: g 19 :: g 20 :: g 21 :: g 22 :: g 23 :: g 24 :: g 25 :: g 26 :: g 27 :: g 28 :: g 29 :: g 30 :: g 31 :: g 32 :: g 33 :: g 34 :: []).toArray, defers := [] } := by
  refine ⟨fun i => a.tmps.getD i undef, fun _ => rfl, ?_⟩
  have h := lit35 (fun i => a.tmps.getD i undef)
  have e : a.tmps = ((List.range 35).map (fun i => a.tmps.getD i undef)).toArray := by
    apply Array.ext
    · simp [hs]
    · intro i h1 h2
      simp [h1]
  exact (show a = Act.mk a.tmps a.defers from rfl).trans (by rw [hd]; exact congrArg (fun t => Act.mk t []) (e.trans h.symm))
set_option maxRecDepth 100000 in
theorem lit58 (g : Nat → Value) : (g 0 :: g 1 :: g 2 :: g 3 :: g 4 :: g 5 :: g 6 :: g 7 :: g 8 :: g 9 :: g 10 :: g 11 :: g 12 :: g 13 :: g 14 :: g 15 :: g 16 :: g 17 :: g 18 :: g 19 :: g 20 :: g 21 :: g 22 :: g 23 :: g 24 :: g 25 :: g 26 :: g 27 :: g 28 :: g 29 :: g 30 :: g 31 :: g 32 :: g 33 :: g 34 :: g 35 :: g 36 :: g 37 :: g 38 :: g 39 :: g 40 :: g 41 :: g 42 :: g 43 :: g 44 :: g 45 :: g 46 :: g 47 :: g 48 :: g 49 :: g 50 :: g 51 :: g 52 :: g 53 :: g 54 :: g 55 :: g 56 :: g 57 :: []).toArray = ((List.range 58).map g).toArray := by rfl
set_option maxRecDepth 100000 in
theorem act58 (a : Act) (hd : a.defers = []) (hs : a.tmps.size = 58) : ∃ g : Nat → Value, (∀ i, a.tmps.getD i undef = g i) ∧ a = { tmps := (g 0 :: g 1 :: g 2 :: g 3 :: g 4 :: g 5 :: g 6 :: g 7 :: g 8 :: g 9 :: g 10 :: g 11 :: g 12 :: g 13 :: g 14 :: g 15 :: g 16 :: g 17 :: g 18 :: g 19 :: g 20 :: g 21 :: g 22 :: g 23 :: g 24 :: g 25 :: g 26 :: g 27 :: g 28 :: g 29 :: g 30 :: g 31 :: g 32 :: g 33 :: g 34 :: g 35 :: g 36 :: g 37 :: g 38 :: g 39 :: g 40 :: g 41 :: g 42 :: g 43 :: g 44 :: g 45 :: g 46 :: g 47 :: g 48 :: g 49 :: g 50 :: g 51 :: g 52 :: g 53 :: g 54 :: g 55 :: g 56 :: g 57 :: []).toArray, defers := [] } := by
  refine ⟨fun i => a.tmps.getD i undef, fun _ => rfl, ?_⟩
  have h := lit58 (fun i => a.tmps.getD i undef)
  have e : a.tmps = ((List.range 58).map (fun i => a.tmps.getD i undef)).toArray := by
    apply Array.ext
    · simp [hs]
    · intro i h1 h2
      simp [h1]
  exact (show a = Act.mk a.tmps a.defers from rfl).trans (by rw [hd]; exact congrArg (fun t => Act.mk t []) (e.trans h.symm))
theorem tok_pos {t : Ten} (h : tok t = true) : 1 ≤ t.2.length ∧ t.2.length ≤ 64 := by
  have h1 := tok_len h
  obtain ⟨_, _, hin, hp⟩ := okd_parts (tok_okd h)
  have := prd_lo hin
  omega
theorem fit_self {s : Ten} : fitE s s = tkE s := by
  simp [fitE, tkE]
theorem wrap_k (x : Int) : ∃ k : Int, wrap64 x = x + k * 18446744073709551616 := by
  refine ⟨-((x + 9223372036854775808) / 18446744073709551616), ?_⟩
  unfold wrap64
  omega
theorem wrap_addk (x k : Int) : wrap64 (x + k * 18446744073709551616) = wrap64 x := by
  unfold wrap64
  rw [show x + k * 18446744073709551616 + 9223372036854775808 = (x + 9223372036854775808) + k * 18446744073709551616 by omega, Int.add_mul_emod_self_right]
theorem wl (x y : Int) : wrap64 (wrap64 x + y) = wrap64 (x + y) := by
  obtain ⟨k, h⟩ := wrap_k x
  rw [h, show x + k * 18446744073709551616 + y = (x + y) + k * 18446744073709551616 by omega, wrap_addk]
theorem wr (x y : Int) : wrap64 (x + wrap64 y) = wrap64 (x + y) := by rw [Int.add_comm, wl, Int.add_comm]
theorem wrap_in {x : Int} (h : -9223372036854775808 ≤ x ∧ x ≤ 9223372036854775807) : wrap64 x = x := by unfold wrap64; omega
def sg (f : Nat → Int) : Nat → Int
  | 0 => 0
  | n + 1 => sg f n + f n
/-- b summed up along p, of the first j numbers. -/
def sums (p : Nat → Nat) (b : List Int) (m j : Nat) : List Int := (List.range m).map fun k => wrap64 (sg (fun i => if p i = k then b.getD i 0 else 0) j)
theorem sums_length (p : Nat → Nat) (b : List Int) (m j : Nat) : (sums p b m j).length = m := by simp [sums]
theorem sums_zero (p : Nat → Nat) (b : List Int) (m : Nat) : sums p b m 0 = List.replicate m 0 := by
  apply List.ext_getElem
  · simp [sums]
  · intro i h1 h2
    simp only [sums, List.getElem_map, List.getElem_replicate, sg]
    decide +kernel
theorem sums_set (p : Nat → Nat) (b : List Int) (m j : Nat) (hp : p j < m) : (sums p b m j).set (p j) (wrap64 ((sums p b m j).getD (p j) 0 + b.getD j 0)) = sums p b m (j + 1) := by
  apply List.ext_getElem
  · simp [sums]
  · intro k h1 h2
    have hk : k < m := by simpa [sums] using h2
    simp only [List.getElem_set, sums, List.getElem_map, List.getElem_range, sg]
    by_cases e : p j = k
    · subst e
      simp [hp, wl]
    · rw [if_neg e]
      simp [e]
/-- a laid out by p. -/
def laid (p : Nat → Nat) (a : List Int) (n : Nat) : List Int := (List.range n).map fun i => a.getD (p i) 0
theorem laid_length (p : Nat → Nat) (a : List Int) (n : Nat) : (laid p a n).length = n := by simp [laid]
theorem each_ok_eq {op : Int → Int → Int} {s t : Ten} (h : fitE s t = 0) : eachR op s t = (s.1, List.zipWith op s.2 t.2) := by rw [eachR, if_pos h]
theorem each_bad_eq {op : Int → Int → Int} {s t : Ten} {x : Int} (h : fitE s t = x) (hx : x ≠ 0) : eachR op s t = ([], []) := by rw [eachR, h, if_neg hx]
theorem fit_lens {s t : Ten} (h : fitE s t = 0) : t.2.length = s.2.length ∧ 1 ≤ s.2.length ∧ s.2.length ≤ 64 := by
  obtain ⟨hs, ht, hd⟩ := fit_zero h
  have h1 := tok_len hs
  have h2 := tok_len ht
  rw [← hd] at h2
  have h3 := tok_pos hs
  omega
theorem OwnT.set2 {w : World} {B p : Nat} {x y : Value} {t : Ten} (h : OwnT w B x y t) (u v : Value) (hp : p < B) : OwnT ((w.setCell ⟨p, 0, none⟩ u).setCell ⟨p, 1, none⟩ v) B x y t := (h.setCell _ _ hp).setCell _ _ hp
theorem Box.other2 {w : World} {B p : Nat} {x y : Value} (h : Box w B x y) (u v : Value) (hp : B ≠ p) : Box ((w.setCell ⟨p, 0, none⟩ u).setCell ⟨p, 1, none⟩ v) B x y := (h.other _ _ hp).other _ _ hp
/-- Behind a goto: the frame's size, where the answer's box is, and that it is empty. -/
def Jg (n k B : Nat) (w : World) (a : Act) (w' : World) : Prop :=
  a.defers = [] ∧ a.tmps.size = n ∧ a.tmps.getD k undef = .pointer (some ⟨B, 0, none⟩) ∧ Box w' B (.slice none 0 0) (.slice none 0 0) ∧ Below w.heap.size w w'
def trE (t : Ten) : Int := if tok t then (if t.1.length = 2 then 0 else 4) else 1
def trR (t : Ten) : Ten := if trE t = 0 then ([t.1.getD 1 0, t.1.getD 0 0], tns (t.1.getD 0 0).toNat (t.1.getD 1 0).toNat t.2) else ([], [])
/-- All that was there is as it was, but for block g. -/
structure Bu (g : Nat) (w w' : World) : Prop where
  os : w'.os = w.os
  tape : w'.tape = w.tape
  output : w'.output = w.output
  size : w.heap.size ≤ w'.heap.size
  block : ∀ k, k < w.heap.size → k ≠ g → w'.heap[k]? = w.heap[k]?
theorem Bu.refl (g : Nat) (w : World) : Bu g w w := ⟨rfl, rfl, rfl, Nat.le_refl _, fun _ _ _ => rfl⟩
theorem Bu.after {g : Nat} {w w1 w2 : World} (h : Bu g w w1) (hb : Below w1.heap.size w1 w2) : Bu g w w2 :=
  ⟨hb.os.trans h.os, hb.tape.trans h.tape, hb.output.trans h.output, Nat.le_trans h.size hb.size, fun k hk hg => (hb.block k (Nat.lt_of_lt_of_le hk h.size)).trans (h.block k hk hg)⟩
theorem Bu.setCell {g j : Nat} {w w' : World} (h : Bu g w w') (u : Value) : Bu g w (w'.setCell ⟨g, j, none⟩ u) :=
  ⟨h.os, h.tape, h.output, by simpa using h.size, fun k hk hg => (heap_setCell_other w' _ k u hg).trans (h.block k hk hg)⟩
theorem Bu.box {g : Nat} {w w' : World} (h : Bu g w w') {B : Nat} {x y : Value} (hb : Box w B x y) (hB : B ≠ g) : Box w' B x y := (h.block B hb.lt hB).trans hb
theorem Bu.cell {g : Nat} {w w' : World} {p : Addr} (h : Bu g w w') (hl : p.block < w.heap.size) (hp : p.block ≠ g) : w'.cell? p = w.cell? p := World.cell?_of_block (w := w) (h.block p.block hl hp)
theorem Bu.below {g N : Nat} {w0 w w' : World} (h : Bu g w w') (hb : Below N w0 w) (hN : N ≤ g) (hM : N ≤ w.heap.size) : Below N w0 w' :=
  hb.trans ⟨h.os, h.tape, h.output, h.size, fun k hk => h.block k (by omega) (by omega)⟩
theorem Bu.ints {g : Nat} {w w' : World} {v : Value} {d : List Int} (h : Bu g w w') (hd : Ints w v d) (hg : ∀ k, v.ownBlock = some k → k ≠ g) : Ints w' v d := by
  rcases hd with ⟨rfl, rfl⟩ | ⟨a, c, rfl, h1, h2, h3⟩
  · exact Ints.nil _
  · refine Or.inr ⟨a, c, rfl, h1, h2, fun i hi => ?_⟩
    obtain ⟨b, off, rfl, hc⟩ := h3 i hi
    refine ⟨b, off, rfl, ?_⟩
    rw [h.cell (p := ⟨b, off + i, none⟩) (World.block_lt_of_cell? _ _ hc) (hg b rfl)]
    exact hc
/-- The number at row i, column k of the product (n numbers in a row of a, q in a row of b). -/
def mxe (a b : List Int) (n q i k : Nat) : Int := wrap64 (sg (fun j => a.getD (i * n + j) 0 * b.getD (j * q + k) 0) n)
/-- The product of m by n and n by q. -/
def mxl (m n q : Nat) (a b : List Int) : List Int := (List.range (m * q)).map fun x => mxe a b n q (x / q) (x % q)
theorem mxl_length (m n q : Nat) (a b : List Int) : (mxl m n q a b).length = m * q := by simp [mxl]
theorem rc_lt {m q i k : Nat} (hi : i < m) (hk : k < q) : i * q + k < m * q := by
  have h : (i + 1) * q ≤ m * q := Nat.mul_le_mul_right q hi
  rw [Nat.add_mul, Nat.one_mul] at h
  omega
theorem row_lt {m q x : Nat} (h : x < m * q) : x / q < m ∧ x % q < q := by
  have hq : 0 < q := by
    rcases Nat.eq_zero_or_pos q with e | e
    · subst e; simp at h
    · exact e
  exact ⟨Nat.div_lt_of_lt_mul (by rw [Nat.mul_comm]; exact h), Nat.mod_lt _ hq⟩
/-- A matrix of p by q in memory, read: where its dims and its numbers lie. -/
structure MatC (w : World) (a0 a1 : Value) (p q N : Nat) (l : List Int) (db dof dc ab ao ac : Nat) : Prop where
  e0 : a0 = .slice (some ⟨db, dof, none⟩) 2 dc
  e1 : a1 = .slice (some ⟨ab, ao, none⟩) N ac
  hdc : 2 ≤ dc
  hac : N ≤ ac
  hdb : db < w.heap.size
  hab : ab < w.heap.size
  c0 : w.cell? ⟨db, dof, none⟩ = some (.int .i64 p)
  c1 : w.cell? ⟨db, dof + 1, none⟩ = some (.int .i64 q)
  cd : ∀ i, i < N → w.cell? ⟨ab, ao + i, none⟩ = some (.int .i64 (l.getD i 0))
theorem MatC.later {w w' : World} {a0 a1 : Value} {p q N : Nat} {l : List Int} {db dof dc ab ao ac : Nat} (hb : Below w.heap.size w w') (h : MatC w a0 a1 p q N l db dof dc ab ao ac) : MatC w' a0 a1 p q N l db dof dc ab ao ac :=
  ⟨h.e0, h.e1, h.hdc, h.hac, Nat.lt_of_lt_of_le h.hdb hb.size, Nat.lt_of_lt_of_le h.hab hb.size, cell_later hb h.c0, cell_later hb h.c1, fun i hi => cell_later hb (h.cd i hi)⟩
theorem Tens.mat {w : World} {a0 a1 : Value} {p q N : Nat} {l : List Int} (ha : Tens w a0 a1 ([(p : Int), (q : Int)], l)) (hl : l.length = N) (h1 : 1 ≤ N) :
    ∃ db dof dc ab ao ac, MatC w a0 a1 p q N l db dof dc ab ao ac := by
  rcases ha.2.cases with ⟨e, _⟩ | ⟨ab, ao, ac, ea, hab0, ha1, _, HCA⟩
  · simp only at e; rw [e] at hl; simp at hl; omega
  simp only at HCA hab0 ha1 ea
  have hab : ab < w.heap.size := World.block_lt_of_cell? _ _ (HCA.out 0 hab0)
  have hcd : ∀ i, i < N → w.cell? ⟨ab, ao + i, none⟩ = some (.int .i64 (l.getD i 0)) := fun i hi => Ints.cellD (n := 0) (c := 0) HCA i (by rw [hl]; exact hi)
  rw [hl] at ea ha1
  obtain ⟨db, dof, dc, ed, hdc, hd0, hd1⟩ : ∃ b off c, a0 = .slice (some ⟨b, off, none⟩) 2 c ∧ 2 ≤ c ∧ w.cell? ⟨b, off + 0, none⟩ = some (.int .i64 p) ∧ w.cell? ⟨b, off + 1, none⟩ = some (.int .i64 q) := by
    rcases ha.1.cases with ⟨e, _⟩ | ⟨b, off, c, e, h0, h1, h2, HC⟩
    · cases e
    · exact ⟨b, off, c, e, h1, HC.out 0 (by simp), HC.out 1 (by simp)⟩
  exact ⟨db, dof, dc, ab, ao, ac, ed, ea, hdc, ha1, World.block_lt_of_cell? _ _ hd0, hab, hd0, hd1, hcd⟩
theorem tok2 {p q : Nat} {l : List Int} (h : tok ([(p : Int), (q : Int)], l) = true) : 1 ≤ p ∧ p ≤ 8 ∧ 1 ≤ q ∧ q ≤ 8 ∧ l.length = p * q := by
  obtain ⟨hp1, hp8, hq1, hq8⟩ := okd2 (tok_okd h)
  refine ⟨by omega, by omega, by omega, by omega, ?_⟩
  have h := tok_len h
  have : prd [(p : Int), (q : Int)] = ((p * q : Nat) : Int) := by simp [prd]
  rw [this] at h
  exact Int.ofNat.inj h
theorem prd2 (p q : Nat) : (prd [(p : Int), (q : Int)]).toNat = p * q := by
  have : prd [(p : Int), (q : Int)] = ((p * q : Nat) : Int) := by simp [prd]
  rw [this, Int.toNat_natCast]
theorem nat2 {d : List Int} {l : List Int} (h : tok (d, l) = true) (h2 : d.length = 2) : ∃ p q : Nat, d = [(p : Int), (q : Int)] := by
  obtain ⟨x, y, rfl⟩ := two_of h2
  obtain ⟨hx1, _, hy1, _⟩ := okd2 (tok_okd h)
  exact ⟨x.toNat, y.toNat, by rw [Int.toNat_of_nonneg (by omega), Int.toNat_of_nonneg (by omega)]⟩
theorem mul64 {p q : Nat} (hp : p ≤ 8) (hq : q ≤ 8) : p * q ≤ 64 := Nat.le_trans (Nat.mul_le_mul hp hq) (by decide)
set_option maxHeartbeats 1000000 in
theorem mul_any {a0 a1 b0 b1 : Value} {s t : Ten} {w : World} (ha : Tens w a0 a1 s) (hb' : Tens w b0 b1 t) :
    Calls Tryz.prog 131 #[.agg #[a0, a1], .agg #[b0, b1]] w fun e w' => ∃ x0 x1, e = .returned (.tuple #[.agg #[x0, x1], .int .i64 (fitE s t)]) ∧ OwnT w' w.heap.size x0 x1 (eachR opM s t) ∧ Below w.heap.size w w' := by
  have hb : Below w.heap.size w (((w.alloc (.cells #[a0, a1] 156)).alloc (.cells #[b0, b1] 156)).alloc (.cells #[.slice none 0 0, .slice none 0 0] 156)) := (((Below.refl _ _).alloc (Nat.le_refl _) _).alloc (by simp) _).alloc (by simp; omega) _
  have HA : Hid (Tens (((w.alloc (.cells #[a0, a1] 156)).alloc (.cells #[b0, b1] 156)).alloc (.cells #[.slice none 0 0, .slice none 0 0] 156)) a0 a1 s) := ha.later hb
  have HT : Hid (Tens (((w.alloc (.cells #[a0, a1] 156)).alloc (.cells #[b0, b1] 156)).alloc (.cells #[.slice none 0 0, .slice none 0 0] 156)) b0 b1 t) := hb'.later hb
  have HB : Hid (Below w.heap.size w (((w.alloc (.cells #[a0, a1] 156)).alloc (.cells #[b0, b1] 156)).alloc (.cells #[.slice none 0 0, .slice none 0 0] 156))) := hb
  have HBX : Hid (Box (((w.alloc (.cells #[a0, a1] 156)).alloc (.cells #[b0, b1] 156)).alloc (.cells #[.slice none 0 0, .slice none 0 0] 156)) (w.heap.size + 1 + 1) (.slice none 0 0) (.slice none 0 0)) := by
    have := Box.new ((w.alloc (.cells #[a0, a1] 156)).alloc (.cells #[b0, b1] 156)) (.slice none 0 0) (.slice none 0 0)
    simp only [World.size_alloc] at this
    exact this
  clear ha hb' hb
  go_enter Tryz.func131, Tryz.ntmps131
  go_wp2_with fail
  refine (each_any (op := opM) deed_mul HA.out HT.out).mono ?_
  rintro e w1 ⟨x0, x1, rfl, ho, hb1⟩
  simp only [World.size_alloc] at ho
  have HO : Hid (OwnT w1 (w.heap.size + 1 + 1 + 1) x0 x1 (eachR opM s t)) := ho
  have HB1 : Hid (Below w.heap.size w w1) := Below.after HB.out hb1
  have hbx := HBX.out.later hb1
  have hx0' := hbx.c0
  have hx1 := hbx.c1
  have hf0 := hbx.f 0
  have hf1 := hbx.f 1
  obtain ⟨xa, xc, rfl⟩ := ho.dims.ints.shape
  obtain ⟨ya, yc, rfl⟩ := ho.data.ints.shape
  have HBS : Hid (Box _ _ _ _) := hbx.set (.slice xa (eachR opM s t).1.length xc) (.slice ya (eachR opM s t).2.length yc)
  clear hb1 hbx ho
  go_wp2
  have hr0 := HBS.out.c0
  have hr1 := HBS.out.c1
  refine bodyPost_ret (v := .tuple #[.agg #[.slice xa (eachR opM s t).1.length xc, .slice ya (eachR opM s t).2.length yc], .int .i64 (fitE s t)]) (by simp [results, Tryz.results131, go_sem, hr0, hr1]) rfl ⟨_, _, rfl, ?_, ?_⟩
  · exact ((HO.out.setCell _ _ (by simp)).setCell _ _ (by simp)).mono (by omega)
  · exact (HB1.out.setCell (by simp; omega) _).setCell (by simp; omega) _
theorem mul_to {a0 a1 b0 b1 : Value} {s t : Ten} {w : World} (x : Int) (ha : Tens w a0 a1 s) (hb' : Tens w b0 b1 t) (hx : fitE s t = x) :
    Calls Tryz.prog 131 #[.agg #[a0, a1], .agg #[b0, b1]] w fun e w' => ∃ x0 x1, e = .returned (.tuple #[.agg #[x0, x1], .int .i64 x]) ∧ OwnT w' w.heap.size x0 x1 (eachR opM s t) ∧ Below w.heap.size w w' := by
  subst hx
  exact mul_any ha hb'
end Go.Proofs.YtkojdigaoihkpaaGreatDoor

end
section
namespace Go.Proofs.YtkojdigaoihkpaaGreatDoor
set_option linter.unusedVariables false
set_option linter.unusedSimpArgs false
set_option maxRecDepth 100000
open Go.Shelf

def shelf105_ren : Go.Shelf.Ren := ⟨fun | 105 => 167 | 212 => 169 | 99 => 170 | 165 => 87 | 166 => 37 | 170 => 171 | 169 => 39 | 263 => 172 | 264 => 173 | 206 => 145 | 240 => 65 | 241 => 101 | 276 => 86 | 277 => 117 | n => n, fun | 9 => 9 | 3 => 3 | 4 => 4 | 20 => 20 | 0 => 0 | 46 => 57 | 109 => 201 | 5 => 5 | 72 => 77 | 76 => 80 | 51 => 163 | 146 => 166 | 53 => 145 | 148 => 205 | 70 => 75 | 37 => 28 | 75 => 79 | 127 => 116 | 164 => 128 | 80 => 83 | n => n, fun | n => n⟩
theorem shelf105 : Go.Proofs.Lays.n105 Tryz.prog shelf105_ren := {
  mixed := by kernel_rfl
  f99 := Tryz.func170.trans (congrArg some (by kernel_rfl))
  f105 := Tryz.func167.trans (congrArg some (by kernel_rfl))
  f165 := Tryz.func87.trans (congrArg some (by kernel_rfl))
  f166 := Tryz.func37.trans (congrArg some (by kernel_rfl))
  f169 := Tryz.func39.trans (congrArg some (by kernel_rfl))
  f170 := Tryz.func171.trans (congrArg some (by kernel_rfl))
  f206 := Tryz.func145.trans (congrArg some (by kernel_rfl))
  f212 := Tryz.func169.trans (congrArg some (by kernel_rfl))
  f240 := Tryz.func65.trans (congrArg some (by kernel_rfl))
  f241 := Tryz.func101.trans (congrArg some (by kernel_rfl))
  f263 := Tryz.func172.trans (congrArg some (by kernel_rfl))
  f264 := Tryz.func173.trans (congrArg some (by kernel_rfl))
  f276 := Tryz.func86.trans (congrArg some (by kernel_rfl))
  f277 := Tryz.func117.trans (congrArg some (by kernel_rfl))
  t0 := Tryz.underlying0
  a0 := Tryz.isAgg0
  z0 := Tryz.sizeOf0
  v0 := Tryz.zeroValue0
  t3 := Tryz.underlying3
  a3 := Tryz.isAgg3
  z3 := Tryz.sizeOf3
  v3 := Tryz.zeroValue3
  t4 := Tryz.underlying4
  a4 := Tryz.isAgg4
  z4 := Tryz.sizeOf4
  v4 := Tryz.zeroValue4
  t5 := Tryz.underlying5
  a5 := Tryz.isAgg5
  z5 := Tryz.sizeOf5
  v5 := Tryz.zeroValue5
  t9 := Tryz.underlying9
  a9 := Tryz.isAgg9
  z9 := Tryz.sizeOf9
  v9 := Tryz.zeroValue9
  t20 := Tryz.underlying20
  a20 := Tryz.isAgg20
  z20 := Tryz.sizeOf20
  v20 := Tryz.zeroValue20
  t37 := Tryz.underlying28
  a37 := Tryz.isAgg28
  z37 := Tryz.sizeOf28
  v37 := Tryz.zeroValue28
  t46 := Tryz.underlying57
  a46 := Tryz.isAgg57
  z46 := Tryz.sizeOf57
  v46 := Tryz.zeroValue57
  t51 := Tryz.underlying163
  a51 := Tryz.isAgg163
  z51 := Tryz.sizeOf163
  v51 := Tryz.zeroValue163
  t53 := Tryz.underlying145
  a53 := Tryz.isAgg145
  z53 := Tryz.sizeOf145
  v53 := Tryz.zeroValue145
  t70 := Tryz.underlying75
  a70 := Tryz.isAgg75
  z70 := Tryz.sizeOf75
  v70 := Tryz.zeroValue75
  t72 := Tryz.underlying77
  a72 := Tryz.isAgg77
  z72 := Tryz.sizeOf77
  v72 := Tryz.zeroValue77
  t75 := Tryz.underlying79
  a75 := Tryz.isAgg79
  z75 := Tryz.sizeOf79
  v75 := Tryz.zeroValue79
  t76 := Tryz.underlying80
  a76 := Tryz.isAgg80
  z76 := Tryz.sizeOf80
  v76 := Tryz.zeroValue80
  t109 := Tryz.underlying201
  a109 := Tryz.isAgg201
  z109 := Tryz.sizeOf201
  v109 := Tryz.zeroValue201
  t127 := Tryz.underlying116
  a127 := Tryz.isAgg116
  z127 := Tryz.sizeOf116
  v127 := Tryz.zeroValue116
  t146 := Tryz.underlying166
  a146 := Tryz.isAgg166
  z146 := Tryz.sizeOf166
  v146 := Tryz.zeroValue166
  t148 := Tryz.underlying205
  a148 := Tryz.isAgg205
  z148 := Tryz.sizeOf205
  v148 := Tryz.zeroValue205
  t164 := Tryz.underlying128
  a164 := Tryz.isAgg128
  z164 := Tryz.sizeOf128
  v164 := Tryz.zeroValue128 }
theorem shelfExtra : Builder.Extra Tryz.prog shelf105_ren := {
  sizeBuilder := by kernel_rfl
  liesBuilder := by kernel_rfl
  t5 := Tryz.underlying5
  a5 := Tryz.isAgg5
  z5 := Tryz.sizeOf5
  v5 := Tryz.zeroValue5
  infoByte := by kernel_rfl
  cellsByte := by kernel_rfl
  sizeByte := by kernel_rfl
  neB5 := by decide }
open Go.RowKit Go.Lib in
/-- **strings.Repeat: count ≥ 0, the result within one allocation: count copies of s.** (LAID: no walk: one application.) -/
theorem rep_shelf (s : ByteArray) (c : Nat) (w : World) (hc : c ≤ 9223372036854775807) (hlen : s.size * c ≤ 140737488355328) :
    Calls Tryz.prog 167 #[.string s, .int .i64 c] w fun e w' => e = .returned (.string ⟨(Lib.repeatL s.data.toList c).toArray⟩) ∧ Below w.heap.size w w' := Any.strings_Repeat shelf105 shelfExtra s c w hc hlen
def shelf108_ren : Go.Shelf.Ren := ⟨fun | 108 => 166 | n => n, fun | 28 => 23 | 3 => 3 | 0 => 0 | 4 => 4 | n => n, fun | n => n⟩
theorem shelf108 : Go.Proofs.Lays.n108 Tryz.prog shelf108_ren := {
  mixed := by kernel_rfl
  f108 := Tryz.func166.trans (congrArg some (by kernel_rfl))
  t0 := Tryz.underlying0
  a0 := Tryz.isAgg0
  z0 := Tryz.sizeOf0
  v0 := Tryz.zeroValue0
  t3 := Tryz.underlying3
  a3 := Tryz.isAgg3
  z3 := Tryz.sizeOf3
  v3 := Tryz.zeroValue3
  t4 := Tryz.underlying4
  a4 := Tryz.isAgg4
  z4 := Tryz.sizeOf4
  v4 := Tryz.zeroValue4
  t28 := Tryz.underlying23
  a28 := Tryz.isAgg23
  z28 := Tryz.sizeOf23
  v28 := Tryz.zeroValue23 }
open Go.Lib in
/-- slices.Index at []int: "Index returns the index of the first occurrence of v in s, or -1 if not present.": IT RETURNS 'Lib.idxOf (the elements) v'; the world is as it was. 'zs': what the cells behind the slice's address hold (its spare capacity too, if you have it); 'zs.take n': its elements. (LAID: no walk: one application.) -/
theorem idx_shelf (b off n c : Nat) (zs : List Int) (x : Int) (w : World) (hz : n ≤ zs.length) (hbig : n ≤ 9223372036854775807) (hc : ∀ j, j < zs.length → w.cell? ⟨b, off + j, none⟩ = some (.int .i64 (zs.getD j 0))) :
    Calls Tryz.prog 166 #[.slice (some ⟨b, off, none⟩) n c, .int .i64 x] w fun e w' => e = .returned (.int .i64 (Lib.idxOf (zs.take n) x)) ∧ w' = w := Any.slices_Index_int shelf108 b off n c zs x w hz hbig hc
def shelf113_ren : Go.Shelf.Ren := ⟨fun | 113 => 55 | n => n, fun | 28 => 23 | 3 => 3 | 4 => 4 | 9 => 9 | 20 => 20 | 0 => 0 | n => n, fun | n => n⟩
theorem shelf113 : Go.Proofs.Lays.n113 Tryz.prog shelf113_ren := {
  mixed := by kernel_rfl
  f113 := Tryz.func55.trans (congrArg some (by kernel_rfl))
  t0 := Tryz.underlying0
  a0 := Tryz.isAgg0
  z0 := Tryz.sizeOf0
  v0 := Tryz.zeroValue0
  t3 := Tryz.underlying3
  a3 := Tryz.isAgg3
  z3 := Tryz.sizeOf3
  v3 := Tryz.zeroValue3
  t4 := Tryz.underlying4
  a4 := Tryz.isAgg4
  z4 := Tryz.sizeOf4
  v4 := Tryz.zeroValue4
  t9 := Tryz.underlying9
  a9 := Tryz.isAgg9
  z9 := Tryz.sizeOf9
  v9 := Tryz.zeroValue9
  t20 := Tryz.underlying20
  a20 := Tryz.isAgg20
  z20 := Tryz.sizeOf20
  v20 := Tryz.zeroValue20
  t28 := Tryz.underlying23
  a28 := Tryz.isAgg23
  z28 := Tryz.sizeOf23
  v28 := Tryz.zeroValue23 }
open Go.Lib in
/-- slices.Max at []int: "Max returns the maximal value in x. It panics if x is empty.": OF A SLICE THAT IS NOT EMPTY IT RETURNS 'Lib.maxOf (the elements)'; the world is as it was. (Of an empty one it panics: no contract here.) (LAID: no walk: one application.) -/
theorem max_shelf (b off n c : Nat) (zs : List Int) (w : World) (hn : 0 < n) (hz : n ≤ zs.length) (hbig : n ≤ 9223372036854775807) (hc : ∀ j, j < zs.length → w.cell? ⟨b, off + j, none⟩ = some (.int .i64 (zs.getD j 0))) :
    Calls Tryz.prog 55 #[.slice (some ⟨b, off, none⟩) n c] w fun e w' => e = .returned (.int .i64 (Lib.maxOf (zs.take n))) ∧ w' = w := Any.slices_Max_int shelf113 b off n c zs w hn hz hbig hc
end Go.Proofs.YtkojdigaoihkpaaGreatDoor

end
