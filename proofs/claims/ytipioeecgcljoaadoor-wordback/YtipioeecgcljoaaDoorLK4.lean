/- The law on words back: a loop. -/
import Derived.Test.YtipioeecgcljoaaDoorLK2
import Derived.Test.YtipioeecgcljoaaDoorLK3
namespace Go.Proofs.YtipioeecgcljoaaDoor
set_option linter.unusedVariables false
set_option linter.unusedSimpArgs false
set_option maxRecDepth 100000
open Go.RowKit

theorem words_good (s : ByteArray) (w : World) (hs : s.size ≤ 1000000) (hb : badW s = none) (n : Nat) (hn : (toksW s).length = n) :
    Calls Tryd.prog 13 #[.string s] w fun e w' => (∃ la lc, e = .returned (.tuple #[.slice la n lc, .int .i64 0, .int .i64 0]) ∧ Holds w' (.slice la n lc) (toksW s).length (cellsT (toksW s))) ∧ Below w.heap.size w w' := by
  refine (words_to s w hs none hb).mono ?_
  rintro e w' ⟨⟨v, rfl, hh⟩, hbl⟩
  have h : Holds w' v (toksW s).length (cellsT (toksW s)) := hh
  obtain ⟨a, c, rfl, h2⟩ := h
  subst hn
  exact ⟨⟨a, c, rfl, ⟨a, c, rfl, h2⟩⟩, hbl⟩
theorem words_ill (s : ByteArray) (w : World) (hs : s.size ≤ 1000000) (q : Nat) (hb : badW s = some q) :
    Calls Tryd.prog 13 #[.string s] w fun e w' => (∃ v, e = .returned (.tuple #[v, .int .i64 q, .int .i64 5])) ∧ Below w.heap.size w w' := by
  refine (words_to s w hs (some q) hb).mono ?_
  rintro e w' ⟨⟨v, rfl, _⟩, hbl⟩
  exact ⟨⟨v, rfl⟩, hbl⟩
set_option maxRecDepth 1000000 in
set_option maxHeartbeats 16000000 in
theorem bloop2 {B nS cS : Nat} {pS : Option Addr} {S : List ByteArray} {W : World} {Q : Exit → Act → World → Prop}
    (HLS : Hid (S.length = nS)) (HSZ : Hid (∀ i (h : i < S.length), S[i].size ≤ 7000)) (HCB : Hid (W.cell? ⟨B, 0, none⟩ = some (.slice pS nS cS)))
    (HRS : Hid (∀ j u, (cellsS S)[j]? = some u → ∃ b off, pS = some ⟨b, off, none⟩ ∧ W.cell? ⟨b, off + j, none⟩ = some u))
    (hexit : ∀ a' w' i, FrB2 B i a' → Below W.heap.size W w' → Q (.exit 2) a' w')
    (a : Act) (w : World) (ha : FrB2 B 0 a) (hb : Below W.heap.size W w) :
    Code.wp Tryd.prog (.loop (((Tryd.f5.body.map loopsIn).getD []).getD 1 .skip)) Q a w := by
  refine wp_loop (fun a' w' => (∃ i : Nat, i ≤ nS ∧ FrB2 B i a') ∧ Below W.heap.size W w') (fun a' _ => nS - slotNat a' 12) ⟨⟨0, by omega, ha⟩, hb⟩ ?_
  clear ha hb
  clear a w
  intro a w ⟨⟨i, hk, hf⟩, hb⟩
  obtain ⟨G, hg, e⟩ := act232 a hf.d hf.s
  obtain ⟨hz1, hz2, g1, g12⟩ := hf
  rw [hg] at g1 g12 
  clear hz1 hz2
  subst e
  clear hg
  rw [g1, g12]
  clear g1 g12 
  have HEX : Hid (∀ a' w' i, FrB2 B i a' → Below W.heap.size W w' → Q (.exit 2) a' w') := hexit
  have HB : Hid (Below W.heap.size W w) := hb
  have hcb := cell_later hb HCB.out
  clear hexit hb
  conv => arg 2; whnf
  by_cases hlt : i < nS
  · by_cases h8 : i < 8
    · have g8 : (i : Int) < 8 := by omega
      have hiS : i < S.length := by have := HLS.out; omega
      obtain ⟨pb, po, rfl, hx0⟩ := HRS.out i _ (cellsS_at S i hiS)
      have hx1 := cell_later HB.out hx0
      have hxs := HSZ.out i hiS
      obtain ⟨x, hx⟩ : ∃ x, S[i] = x := ⟨_, rfl⟩
      rw [hx] at hx0 hx1 hxs
      have HX0 : Hid (W.cell? ⟨pb, po + i, none⟩ = some (.string x)) := hx0
      clear hx hx0
      cases hbw : badW x with
      | some q =>
        have HW1 : Hid (∀ w, Calls Tryd.prog 13 #[.string x] w fun e w' => (∃ v, e = .returned (.tuple #[v, .int .i64 q, .int .i64 5])) ∧ Below w.heap.size w w') := fun w => words_ill x w (by omega) q hbw
        clear hbw
        go_wp2_with (first
          | (go_at_call 13; refine (HW1.out _).mono ?_; rintro e w2 ⟨⟨v, rfl⟩, hb2⟩; have HB2 : Hid (Below w.heap.size w w2) := hb2; have hc2 := cell_later hb2 hcb; have hx2 := cell_later hb2 hx1; clear hb2)
          | (go_at_call 10; refine (num_to _ _).mono ?_; rintro e w' ⟨rfl, rfl⟩))
        have HBZ : Hid (Below W.heap.size W w2) := Below.after HB.out HB2.out
        refine ⟨⟨⟨i + 1, by omega, rfl, rfl, rfl, ?_⟩, HBZ.out⟩, ?_⟩
        · show Value.int .i64 _ = _
          go_num
        · show nS - (intOf (Value.int .i64 _)).toNat < nS - (intOf (Value.int .i64 _)).toNat
          simp [intOf]
          omega
      | none =>
        obtain ⟨l, hl⟩ : ∃ l, toksW x = l := ⟨_, rfl⟩
        obtain ⟨ln, hln⟩ : ∃ n, l.length = n := ⟨_, rfl⟩
        have HTK : Hid (∀ t ∈ l, TokOK x t) := by show ∀ t ∈ l, TokOK x t; rw [← hl]; exact fine_toks hbw
        have hlb : ln ≤ 2 * x.size + 2 := by
          have h := tokSt_len x (x.size + 1)
          have e : (toksW x).length = ln := by rw [hl, hln]
          rw [toksW] at e
          omega
        have HW1 : Hid (∀ w, Calls Tryd.prog 13 #[.string x] w fun e w' => (∃ la lc, e = .returned (.tuple #[.slice la ln lc, .int .i64 0, .int .i64 0]) ∧ Holds w' (.slice la ln lc) l.length (cellsT l)) ∧ Below w.heap.size w w') := fun w => by
          have h := words_good x w (by omega) hbw ln (by rw [hl, hln])
          rw [hl] at h
          exact h
        have HLN : Hid (l.length = ln) := hln
        clear hbw hl hln
        by_cases h5 : 500 < x.size
        · have g5 : decide ((500 : Int) < (x.size : Int)) = true := by simp; omega
          have g5b : (500 : Int) < (x.size : Int) := by omega
          go_wp2_with (first
            | (go_at_call 13; refine (HW1.out _).mono ?_; rintro e w2 ⟨⟨la, lc, rfl, hh⟩, hb2⟩; have HB2 : Hid (Below w.heap.size w w2) := hb2; have hc2 := cell_later hb2 hcb; have hx2 := cell_later hb2 hx1; clear hb2 hh)
            | (go_at_call 10; refine (num_to _ _).mono ?_; rintro e w' ⟨rfl, rfl⟩))
          have HBZ : Hid (Below W.heap.size W w2) := Below.after HB.out HB2.out
          refine ⟨⟨⟨i + 1, by omega, rfl, rfl, rfl, ?_⟩, HBZ.out⟩, ?_⟩
          · show Value.int .i64 _ = _
            go_num
          · show nS - (intOf (Value.int .i64 _)).toNat < nS - (intOf (Value.int .i64 _)).toNat
            simp [intOf]
            omega
        · have g5 : decide ((500 : Int) < (x.size : Int)) = false := by simp; omega
          have g5b : ¬ (500 : Int) < (x.size : Int) := by omega
          go_wp2_with (first
            | (go_at_call 13; refine (HW1.out _).mono ?_; rintro e w2 ⟨⟨la, lc, rfl, hh⟩, hb2⟩; have HB2 : Hid (Below w.heap.size w w2) := hb2; have hc2 := cell_later hb2 hcb; have hx2 := cell_later hb2 hx1; have HH2 : Hid (Holds w2 (.slice la ln lc) l.length (cellsT l)) := hh; clear hb2 hh)
            | (go_at_call 10; refine (num_to _ _).mono ?_; rintro e w' ⟨rfl, rfl⟩))
          clear hcb hx1 hc2 hx2
          refine bloop3 (W := w2) (x := x) (by omega) (by omega) HLN HTK HH2 ?_ _ _ ⟨rfl, rfl, rfl, rfl, rfl, rfl, rfl⟩ (Below.refl _ _)
          intro a9 w9 sv k9 hf9 hbu hsz hb9
          obtain ⟨G9, hg9, e9⟩ := act232 a9 hf9.d hf9.s
          obtain ⟨hz1, hz2, g1, g12, g13, g16, g17⟩ := hf9
          rw [hg9] at g1 g12 g13 g16 g17 
          clear hz1 hz2
          subst e9
          clear hg9
          rw [g1, g12, g13, g16, g17]
          clear g1 g12 g13 g16 g17 
          have HB9 : Hid (Below w.heap.size w w9) := Below.after HB2.out hb9
          have HH9 : Hid (Holds w9 (.slice la ln lc) l.length (cellsT l)) := HH2.out.later hb9
          obtain ⟨hbw, hmf⟩ := hbu.words
          obtain ⟨m, hm⟩ : ∃ m, toksW sv = m := ⟨_, rfl⟩
          rw [hm] at hmf
          have hml : m.length = ln := by have h := congrArg List.length hmf; simp only [List.length_map] at h; rw [h]; exact HLN.out
          have HLM : Hid (l.length = ln ∧ m.length = ln ∧ m.map Prod.fst = l.map Prod.fst) := ⟨HLN.out, hml, hmf⟩
          have HW2 : Hid (∀ w, Calls Tryd.prog 13 #[.string sv] w fun e w' => (∃ ma mc, e = .returned (.tuple #[.slice ma ln mc, .int .i64 0, .int .i64 0]) ∧ Holds w' (.slice ma ln mc) m.length (cellsT m)) ∧ Below w.heap.size w w') := fun w => by
            have h := words_good sv w (by omega) hbw ln (by rw [hm, hml])
            rw [hm] at h
            exact h
          have gl : ((ln : Int) != (ln : Int)) = false := by simp
          clear hbw hmf hm hml hb9 hbu
          go_wp2_with (first
            | (go_at_call 13; refine (HW2.out _).mono ?_; rintro e w10 ⟨⟨ma, mc, rfl, hh⟩, hb10⟩; have HH10 : Hid (Holds w10 (.slice ma ln mc) m.length (cellsT m)) := hh; have HG10 : Hid (Holds w10 (.slice la ln lc) l.length (cellsT l)) := HH9.out.later hb10; have HB10 : Hid (Below w.heap.size w w10) := Below.after HB9.out hb10; clear hb10 hh)
            | (go_at_call 10; refine (num_to _ _).mono ?_; rintro e w' ⟨rfl, rfl⟩))
          refine bloop4 (W := w10) (x := x) hlt (by omega) (by omega) HLM HTK (cell_later (Below.after HB.out HB10.out) HCB.out) (cell_later (Below.after HB.out HB10.out) HX0.out) HG10 HH10 ?_ _ _ ⟨rfl, rfl, rfl, rfl, rfl, rfl, rfl⟩ (Below.refl _ _)
          intro a11 w11 k11 hf11 hb11
          obtain ⟨G11, hg11, e11⟩ := act232 a11 hf11.d hf11.s
          obtain ⟨hz1, hz2, g1, g12, g13, g18, g21⟩ := hf11
          rw [hg11] at g1 g12 g13 g18 g21 
          clear hz1 hz2
          subst e11
          clear hg11
          rw [g1, g12, g13, g18, g21]
          clear g1 g12 g13 g18 g21 
          have HBZ : Hid (Below W.heap.size W w11) := Below.after HB.out (Below.after HB10.out hb11)
          clear hb11
          go_wp2
          refine ⟨⟨⟨i + 1, by omega, rfl, rfl, rfl, ?_⟩, HBZ.out⟩, ?_⟩
          · show Value.int .i64 _ = _
            go_num
          · show nS - (intOf (Value.int .i64 _)).toNat < nS - (intOf (Value.int .i64 _)).toNat
            simp [intOf]
            omega
    · have g8 : ¬ (i : Int) < 8 := by omega
      go_wp2
      exact HEX.out _ _ i ⟨rfl, rfl, rfl, rfl⟩ HB.out
  · skip
    go_wp2
    exact HEX.out _ _ i ⟨rfl, rfl, rfl, rfl⟩ HB.out
end Go.Proofs.YtipioeecgcljoaaDoor
