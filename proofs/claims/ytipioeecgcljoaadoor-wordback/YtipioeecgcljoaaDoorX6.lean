/- Contract: package word's Words. -/
import Derived.Test.YtipioeecgcljoaaDoorX5
namespace Go.Proofs.YtipioeecgcljoaaDoor
set_option linter.unusedVariables false
set_option linter.unusedSimpArgs false
set_option maxRecDepth 100000
open Go.RowKit

theorem put_to (B : Nat) (v : Value) (s : ByteArray) (l : List Tok) (a b : Nat) (w : World) (hO : w.ownsRow B 53 2 v l.length (cellsT l)) (hB : B ≤ w.heap.size) (hl : l.length ≤ 3000000) (hs : s.size ≤ 1000000) (hab : a ≤ b) (hb : b ≤ s.size) :
    Calls Tryd.prog 29 #[v, .string s, .int .i64 a, .int .i64 b] w fun e w' => ∃ v', e = .returned v' ∧ w'.ownsRow B 53 2 v' (putL l s a b).length (cellsT (putL l s a b)) ∧ w.grownBy w' v.ownBlock := by
  rw [putL]
  by_cases h : a = b
  · subst h
    rw [if_pos rfl]
    refine (put_same v s a w).mono ?_
    rintro e w2 ⟨rfl, rfl⟩
    exact ⟨v, rfl, hO, rfl, rfl, rfl, Nat.le_refl _, fun _ _ _ => rfl⟩
  · rw [if_neg h]
    exact put_new B v s l a b w hO hB hl hs (by omega) hb
theorem own_not_it {w : World} {B I p k n : Nat} {e : TypeId} {s : ByteArray} {v : Value} {xs : List Value} (h : w.ownsRow B e k v n xs) (hi : It w I s p) : ∀ g, v.ownBlock = some g → I ≠ g := by
  intro g hg
  rcases h.2 with ⟨rfl, _⟩ | ⟨g', cap, cur, rfl, _, hgg, _⟩
  · simp [Value.ownBlock] at hg
  · simp [Value.ownBlock] at hg
    subst hg
    rintro rfl
    rw [It, hgg] at hi
    cases hi
theorem It.grown {w w' : World} {B I p k n : Nat} {e : TypeId} {s : ByteArray} {v : Value} {xs : List Value} (hi : It w I s p) (h : w.ownsRow B e k v n xs) (hg : w.grownBy w' v.ownBlock) : It w' I s p :=
  (hg.block I hi.lt (fun e => own_not_it h hi I e.symm rfl)).trans hi
theorem own_moved {w : World} {B I p k n : Nat} {e : TypeId} {s : ByteArray} {v : Value} {xs : List Value} (h : w.ownsRow B e k v n xs) (hi : It w I s p) (q : Nat) : (w.iterAt I s q).ownsRow B e k v n xs := by
  refine ⟨h.1, ?_⟩
  have hne := own_not_it h hi
  rcases h.2 with h0 | ⟨g, cap, cur, rfl, h1, hh, h2⟩
  · exact Or.inl h0
  · exact Or.inr ⟨g, cap, cur, rfl, h1, (Lib.iterAt_other w I g s q (fun e => hne g rfl e.symm)).trans hh, h2⟩
set_option maxHeartbeats 8000000 in
theorem words_to (s : ByteArray) (w : World) (hs : s.size ≤ 1000000) (bq : Option Nat) (hbq : badW s = bq) :
    Calls Tryd.prog 13 #[.string s] w fun e w' => (∃ v, e = .returned (.tuple #[v, .int .i64 (bq.getD 0), .int .i64 (if bq.isNone then 0 else 5)]) ∧ Holds w' v (if bq.isNone then toksW s else []).length (cellsT (if bq.isNone then toksW s else []))) ∧ Below w.heap.size w w' := by
  have HQ0 : Hid (badN s (s.size + 1) 0 = bq) := hbq
  have HS : Hid (s.size ≤ 1000000) := hs
  clear hbq
  go_enter Tryd.func13, Tryd.ntmps13
  go_wp2_with fail
  refine wp_scope_jumps 0 (fun a' w' => ∃ (u0 u1 u2 u3 u4 u5 u6 u7 u8 u9 u10 u11 u12 u13 u14 u15 u16 u17 u18 u19 u20 u21 u22 u23 u24 u25 u26 u27 u28 u29 u30 u31 u32 u33 u34 u35 u36 u37 u38 u39 u40 u41 u42 u43 u44 u45 u46 u47 u48 u49 u50 u51 u52 u53 u54 u55 : Value), ((Below w.heap.size w w' ∧ ∃ q, bq = some q ∧ u3 = .int .i64 q) ∧ a' = { tmps := #[u0, u1, u2, u3, u4, u5, u6, u7, u8, u9, u10, u11, u12, u13, u14, u15, u16, u17, u18, u19, u20, u21, u22, u23, u24, u25, u26, u27, u28, u29, u30, u31, u32, u33, u34, u35, u36, u37, u38, u39, u40, u41, u42, u43, u44, u45, u46, u47, u48, u49, u50, u51, u52, u53, u54, u55], defers := [] })) (fun _ _ => 0) rfl ?_ ?_
  · go_wp2
    go_loopw [2, 5] (fun v fr w' => ∃ (p a f : Nat) (l : List Tok), p ≤ s.size ∧ fr = .int .i64 a ∧ Hid (WordI s p a l) ∧ Hid (s.size - p < f ∧ badN s f p = bq) ∧ Hid (w'.ownsRow w.heap.size 53 2 v l.length (cellsT l)) ∧ Hid (It w' w.heap.size s p) ∧ Hid (Below w.heap.size w w')) (fun _ _ w' => s.size - w'.iterPos w.heap.size)
    case atStart => exact ⟨0, 0, s.size + 1, [], Nat.zero_le _, rfl, WordI.start s, ⟨by omega, HQ0.out⟩, World.ownsRow_nil _ _ _ _, It.new _ _ _, (Below.refl _ _).alloc (Nat.le_refl _) _⟩
    case round =>
      obtain ⟨p, a, f, l, hp, rfl, HX, HF, HO, HI, HB⟩ := hrel
      have HP : Hid (wr.iterPos w.heap.size = p) := HI.out.pos
      have hap := HX.out.le
      have HLL : Hid (l.length ≤ 2 * s.size) := by
        have h1 := tokSt_len s p
        rw [HX.out.1] at h1
        show _ ≤ _
        omega
      by_cases hlt : p < s.size
      · obtain ⟨⟨r, k⟩, hrk⟩ : ∃ x, Utf8.decode s p = x := ⟨_, rfl⟩
        have hk1 := decode_lo s p
        have hk2 := decode_le s p hlt
        have hnx := fun ty => HI.out.nx hlt hrk ty
        rw [hrk] at hk1 hk2
        simp only at hk1 hk2
        have HRK : Hid (Utf8.decode s p = (r, k)) := hrk
        obtain ⟨g, hg⟩ : ∃ g, f = g + 1 := ⟨f - 1, by have := HF.out.1; omega⟩
        subst hg
        have HF2 : Hid ((if badR r k = true then some p else badN s g (p + k)) = bq) := by
          have h := HF.out.2
          rw [badN, if_pos hlt, hrk] at h
          exact h
        have HG : Hid (s.size - (p + k) < g) := by have := HF.out.1; show _ < _; omega
        obtain ⟨W1, hW1⟩ : ∃ W1, wr.iterAt w.heap.size s (p + k) = W1 := ⟨_, rfl⟩
        have HI1 : Hid (It W1 w.heap.size s (p + k)) := by show It _ _ _ _; rw [← hW1]; exact HI.out.moved _
        have HO1 : Hid (W1.ownsRow w.heap.size 53 2 u2 l.length (cellsT l)) := by show World.ownsRow _ _ _ _ _ _ _; rw [← hW1]; exact own_moved HO.out HI.out _
        have HB1 : Hid (Below w.heap.size w W1) := by show Below _ _ _; rw [← hW1]; exact Below.moved HB.out (Nat.le_refl _) _ _
        rw [hW1] at hnx
        clear hrk HF hW1 HO HI HB
        cases hl : letR r with
        | true =>
          have HL : Hid (letR r = true) := hl
          have HGD : Hid (letR r = true ∨ digR r = true ∨ r = 45 ∨ r = 61 ∨ r = 32 ∨ r = 9) := Or.inl hl
          have hr3 : ¬ r = 32 ∧ ¬ r = 9 ∧ ¬ r = 61 := by
            refine ⟨?_, ?_, ?_⟩ <;> (rintro rfl; simp [letR] at hl)
          obtain ⟨hr4, hr5, hr6⟩ := hr3
          clear hl
          have HX1 : Hid (WordI s (p + k) a l) := HX.out.rune hlt HRK.out (by omega) (by omega) (by omega)
          have HN : Hid (badN s g (p + k) = bq) := by have h := HF2.out; rw [if_neg (by rw [badR_not HGD.out]; decide)] at h; exact h
          clear HF2
          go_wp2_with (first
            | (go_at_call 25; refine (letter_to r _ true HL.out).mono ?_; rintro e w3 ⟨rfl, rfl⟩))
          go_roundw
          case rel => exact ⟨p + k, a, g, l, by omega, rfl, HX1.out, ⟨HG.out, HN.out⟩, HO1.out, HI1.out, HB1.out⟩
          case measure => rw [HI1.out.pos, HP.out]; omega
        | false =>
          have HL : Hid (letR r = false) := hl
          cases hd : digR r with
          | true =>
            have HDG : Hid (digR r = true) := hd
            have HGD : Hid (letR r = true ∨ digR r = true ∨ r = 45 ∨ r = 61 ∨ r = 32 ∨ r = 9) := Or.inr (Or.inl hd)
            have hr3 : ¬ r = 32 ∧ ¬ r = 9 ∧ ¬ r = 61 := by
              refine ⟨?_, ?_, ?_⟩ <;> (rintro rfl; simp [digR] at hd)
            obtain ⟨hr4, hr5, hr6⟩ := hr3
            clear hl hd
            have HX1 : Hid (WordI s (p + k) a l) := HX.out.rune hlt HRK.out (by omega) (by omega) (by omega)
            have HN : Hid (badN s g (p + k) = bq) := by have h := HF2.out; rw [if_neg (by rw [badR_not HGD.out]; decide)] at h; exact h
            clear HF2
            go_wp2_with (first
              | (go_at_call 25; refine (letter_to r _ false HL.out).mono ?_; rintro e w3 ⟨rfl, rfl⟩)
              | (go_at_call 24; refine (digit_to r _ true HDG.out).mono ?_; rintro e w3 ⟨rfl, rfl⟩))
            go_roundw
            case rel => exact ⟨p + k, a, g, l, by omega, rfl, HX1.out, ⟨HG.out, HN.out⟩, HO1.out, HI1.out, HB1.out⟩
            case measure => rw [HI1.out.pos, HP.out]; omega
          | false =>
            have HDG : Hid (digR r = false) := hd
            clear hl hd
            by_cases h45 : r = 45
            · have HGD : Hid (letR r = true ∨ digR r = true ∨ r = 45 ∨ r = 61 ∨ r = 32 ∨ r = 9) := Or.inr (Or.inr (Or.inl h45))
              have n45 : ((r : Int) == 45) = true := by rw [beq_iff_eq]; omega
              have hr4 : ¬ r = 32 := by omega
              have hr5 : ¬ r = 9 := by omega
              have hr6 : ¬ r = 61 := by omega
              clear h45
              have HX1 : Hid (WordI s (p + k) a l) := HX.out.rune hlt HRK.out (by omega) (by omega) (by omega)
              have HN : Hid (badN s g (p + k) = bq) := by have h := HF2.out; rw [if_neg (by rw [badR_not HGD.out]; decide)] at h; exact h
              clear HF2
              go_wp2_with (first
                | (go_at_call 25; refine (letter_to r _ false HL.out).mono ?_; rintro e w3 ⟨rfl, rfl⟩)
                | (go_at_call 24; refine (digit_to r _ false HDG.out).mono ?_; rintro e w3 ⟨rfl, rfl⟩))
              go_roundw
              case rel => exact ⟨p + k, a, g, l, by omega, rfl, HX1.out, ⟨HG.out, HN.out⟩, HO1.out, HI1.out, HB1.out⟩
              case measure => rw [HI1.out.pos, HP.out]; omega
            · have n45 : ((r : Int) == 45) = false := by rw [beq_eq_false_iff_ne]; omega
              by_cases h61 : r = 61
              · have HGD : Hid (letR r = true ∨ digR r = true ∨ r = 45 ∨ r = 61 ∨ r = 32 ∨ r = 9) := Or.inr (Or.inr (Or.inr (Or.inl h61)))
                have n61 : ((r : Int) != 61) = false := by rw [bne_eq_false_iff_eq]; omega
                have m61 : ((r : Int) == 61) = true := by rw [beq_iff_eq]; omega
                have hXX := HX.out.eq hlt HRK.out h61
                obtain ⟨hk3, hX3⟩ := hXX
                subst hk3
                have HX3 : Hid (WordI s (p + 1) (p + 1) (putL (putL l s a p) s p (p + 1))) := hX3
                have HN : Hid (badN s g (p + 1) = bq) := by have h := HF2.out; rw [if_neg (by rw [badR_not HGD.out]; decide)] at h; exact h
                have HL2 : Hid ((putL l s a p).length ≤ 2 * s.size + 1) := by have := HLL.out; have := putL_len l s a p; show _ ≤ _; omega
                clear HF2 hX3 h61
                go_wp2_with (first
                  | (go_at_call 25; refine (letter_to r _ false HL.out).mono ?_; rintro e w3 ⟨rfl, rfl⟩)
                  | (go_at_call 24; refine (digit_to r _ false HDG.out).mono ?_; rintro e w3 ⟨rfl, rfl⟩)
                  | (go_at_call 29; refine (put_to w.heap.size v4 s (putL l s a p) p (p + 1) _ HO4.out HB4.out.size (by have := HL2.out; omega) HS.out (by omega) (by omega)).mono ?_; rintro e w5 ⟨v5, rfl, ho5, hg5⟩; have HO5 : Hid (w5.ownsRow w.heap.size 53 2 v5 (putL (putL l s a p) s p (p + 1)).length (cellsT (putL (putL l s a p) s p (p + 1)))) := ho5; have HI5 : Hid (It w5 w.heap.size s (p + 1)) := HI4.out.grown HO4.out hg5; have HB5 : Hid (Below w.heap.size w w5) := HB4.out.grown hg5 HB4.out.size (fun q hq => (HO4.out.lt q hq).1); clear ho5 hg5)
                  | (go_at_call 29; refine (put_to w.heap.size u2 s l a p _ HO1.out HB1.out.size (by have := HLL.out; omega) HS.out (by omega) (by omega)).mono ?_; rintro e w4 ⟨v4, rfl, ho4, hg4⟩; have HO4 : Hid (w4.ownsRow w.heap.size 53 2 v4 (putL l s a p).length (cellsT (putL l s a p))) := ho4; have HI4 : Hid (It w4 w.heap.size s (p + 1)) := HI1.out.grown HO1.out hg4; have HB4 : Hid (Below w.heap.size w w4) := HB1.out.grown hg4 HB1.out.size (fun q hq => (HO1.out.lt q hq).1); clear ho4 hg4))
                go_roundw
                case rel => exact ⟨p + 1, p + 1, g, _, by omega, by go_num, HX3.out, ⟨HG.out, HN.out⟩, HO5.out, HI5.out, HB5.out⟩
                case measure => rw [HI5.out.pos, HP.out]; omega
              · have n61 : ((r : Int) != 61) = true := by rw [bne_iff_ne]; omega
                have m61 : ((r : Int) == 61) = false := by rw [beq_eq_false_iff_ne]; omega
                by_cases h329 : r = 32 ∨ r = 9
                · have HGD : Hid (letR r = true ∨ digR r = true ∨ r = 45 ∨ r = 61 ∨ r = 32 ∨ r = 9) := Or.inr (Or.inr (Or.inr (Or.inr h329)))
                  have hXX := HX.out.gap hlt HRK.out h329
                  obtain ⟨hk3, hX3⟩ := hXX
                  subst hk3
                  have HX3 : Hid (WordI s (p + 1) (p + 1) (putL l s a p)) := hX3
                  have HN : Hid (badN s g (p + 1) = bq) := by have h := HF2.out; rw [if_neg (by rw [badR_not HGD.out]; decide)] at h; exact h
                  clear HF2 hX3
                  by_cases h32 : r = 32
                  · have n32 : ((r : Int) != 32) = false := by rw [bne_eq_false_iff_eq]; omega
                    clear h32 h329
                    go_wp2_with (first
                      | (go_at_call 25; refine (letter_to r _ false HL.out).mono ?_; rintro e w3 ⟨rfl, rfl⟩)
                      | (go_at_call 24; refine (digit_to r _ false HDG.out).mono ?_; rintro e w3 ⟨rfl, rfl⟩)
                      | (go_at_call 29; refine (put_to w.heap.size u2 s l a p _ HO1.out HB1.out.size (by have := HLL.out; omega) HS.out (by omega) (by omega)).mono ?_; rintro e w4 ⟨v4, rfl, ho4, hg4⟩; have HO4 : Hid (w4.ownsRow w.heap.size 53 2 v4 (putL l s a p).length (cellsT (putL l s a p))) := ho4; have HI4 : Hid (It w4 w.heap.size s (p + 1)) := HI1.out.grown HO1.out hg4; have HB4 : Hid (Below w.heap.size w w4) := HB1.out.grown hg4 HB1.out.size (fun q hq => (HO1.out.lt q hq).1); clear ho4 hg4))
                    go_roundw
                    case rel => exact ⟨p + 1, p + 1, g, _, by omega, by go_num, HX3.out, ⟨HG.out, HN.out⟩, HO4.out, HI4.out, HB4.out⟩
                    case measure => rw [HI4.out.pos, HP.out]; omega
                  · have n32 : ((r : Int) != 32) = true := by rw [bne_iff_ne]; omega
                    have n9 : ((r : Int) != 9) = false := by rw [bne_eq_false_iff_eq]; omega
                    clear h32 h329
                    go_wp2_with (first
                      | (go_at_call 25; refine (letter_to r _ false HL.out).mono ?_; rintro e w3 ⟨rfl, rfl⟩)
                      | (go_at_call 24; refine (digit_to r _ false HDG.out).mono ?_; rintro e w3 ⟨rfl, rfl⟩)
                      | (go_at_call 29; refine (put_to w.heap.size u2 s l a p _ HO1.out HB1.out.size (by have := HLL.out; omega) HS.out (by omega) (by omega)).mono ?_; rintro e w4 ⟨v4, rfl, ho4, hg4⟩; have HO4 : Hid (w4.ownsRow w.heap.size 53 2 v4 (putL l s a p).length (cellsT (putL l s a p))) := ho4; have HI4 : Hid (It w4 w.heap.size s (p + 1)) := HI1.out.grown HO1.out hg4; have HB4 : Hid (Below w.heap.size w w4) := HB1.out.grown hg4 HB1.out.size (fun q hq => (HO1.out.lt q hq).1); clear ho4 hg4))
                    go_roundw
                    case rel => exact ⟨p + 1, p + 1, g, _, by omega, by go_num, HX3.out, ⟨HG.out, HN.out⟩, HO4.out, HI4.out, HB4.out⟩
                    case measure => rw [HI4.out.pos, HP.out]; omega
                · have n32 : ((r : Int) != 32) = true := by rw [bne_iff_ne]; omega
                  have n9 : ((r : Int) != 9) = true := by rw [bne_iff_ne]; omega
                  have HBQ : Hid (bq = some p) := by have h := HF2.out; rw [if_pos (badR_yes HL.out HDG.out h45 h61 (by omega) (by omega))] at h; exact h.symm
                  clear HF2 h45 h61 h329
                  go_wp2_with (first
                    | (go_at_call 25; refine (letter_to r _ false HL.out).mono ?_; rintro e w3 ⟨rfl, rfl⟩)
                    | (go_at_call 24; refine (digit_to r _ false HDG.out).mono ?_; rintro e w3 ⟨rfl, rfl⟩))
                  go_step3
                  exact ⟨rfl, _, _, _, _, _, _, _, _, _, _, _, _, _, _, _, _, _, _, _, _, _, _, _, _, _, _, _, _, _, _, _, _, _, _, _, _, _, _, _, _, _, _, _, _, _, _, _, _, _, _, _, _, _, _, _, _, ⟨HB1.out, p, HBQ.out, rfl⟩, rfl⟩
      · obtain rfl : p = s.size := by omega
        have HBQ : Hid (bq = none) := by
          obtain ⟨g, hg⟩ : ∃ g, f = g + 1 := ⟨f - 1, by have := HF.out.1; omega⟩
          have h := HF.out.2
          rw [hg, badN, if_neg hlt] at h
          exact h.symm
        have hnx := fun ty => HI.out.done hlt ty
        have HTW : Hid (putL l s a s.size = toksW s) := HX.out.last
        clear HF hlt
        go_wp2_with (first
          | (go_at_call 29; refine (put_to w.heap.size u2 s l a s.size _ HO.out HB.out.size (by have := HLL.out; omega) HS.out (by omega) (by omega)).mono ?_; rintro e w4 ⟨v4, rfl, ho4, hg4⟩; have HO4 : Hid (w4.ownsRow w.heap.size 53 2 v4 (putL l s a s.size).length (cellsT (putL l s a s.size))) := ho4; have HI4 : Hid (It w4 w.heap.size s s.size) := HI.out.grown HO.out hg4; have HB4 : Hid (Below w.heap.size w w4) := HB.out.grown hg4 HB.out.size (fun q hq => (HO.out.lt q hq).1); clear ho4 hg4))
        rw [jump_ret]
        go_ret3
        exact ⟨⟨_, by rw [HBQ.out]; rfl, by rw [HBQ.out]; show Holds _ _ (toksW s).length (cellsT (toksW s)); rw [← HTW.out]; exact Holds.own HO4.out⟩, HB4.out⟩
  · rintro a w' ⟨u0, u1, u2, u3, u4, u5, u6, u7, u8, u9, u10, u11, u12, u13, u14, u15, u16, u17, u18, u19, u20, u21, u22, u23, u24, u25, u26, u27, u28, u29, u30, u31, u32, u33, u34, u35, u36, u37, u38, u39, u40, u41, u42, u43, u44, u45, u46, u47, u48, u49, u50, u51, u52, u53, u54, u55, ⟨hbj, q, hq, rfl⟩, rfl⟩
    have HBJ : Hid (Below w.heap.size w w') := hbj
    clear hbj
    subst hq
    go_wp2
    rw [jump_ret]
    go_ret3
    exact ⟨⟨_, rfl, Holds.nil _⟩, HBJ.out⟩
end Go.Proofs.YtipioeecgcljoaaDoor
