/- Joined: K2, K3, K4. -/
import Derived.Test.YtheddpjaihhbdacGreatKA
namespace Go.Proofs.YtheddpjaihhbdacGreat
set_option linter.unusedVariables false
set_option linter.unusedSimpArgs false
set_option maxRecDepth 100000
open Go.RowKit

def loopsIn : Code → List Code
  | .loop c => c :: loopsIn c
  | .seq a b => loopsIn a ++ loopsIn b
  | .block _ c => loopsIn c
  | .scope c => loopsIn c
  | .cond _ a b => loopsIn a ++ loopsIn b
  | _ => []
def slotNat (a : Act) (i : Nat) : Nat := (intOf (a.tmps.getD i undef)).toNat
theorem TensL.rowN {w : World} {a : Option Addr} {n c : Nat} {L : List Ten} (h : TensL w (.slice a n c) L) (i : Nat) (hi : i < n) :
    ∃ (b off : Nat) (s : Ten) (xa : Option Addr) (xn xc : Nat) (ya : Option Addr) (yn yc : Nat), a = some ⟨b, off, none⟩ ∧ w.cell? ⟨b, off + i * 2, none⟩ = some (.slice xa xn xc) ∧ w.cell? ⟨b, off + i * 2 + 1, none⟩ = some (.slice ya yn yc) ∧ Hid (Tens w (.slice xa xn xc) (.slice ya yn yc) s) ∧ ∀ c', 1 ≤ c' → TensL w (.slice (some ⟨b, off + i * 2, none⟩) 1 c') [s] := by
  have h0 := h
  obtain ⟨_, a', c1, e, _, hrow⟩ := h
  simp only [Value.slice.injEq] at e
  obtain ⟨rfl, rfl, rfl⟩ := e
  obtain ⟨b, off, x, y, rfl, c0, c1, ht⟩ := hrow i hi
  obtain ⟨xa, xn, xc, rfl⟩ := ht.1.shape3
  obtain ⟨ya, yn, yc, rfl⟩ := ht.2.shape3
  exact ⟨b, off, L[i], xa, xn, xc, ya, yn, yc, rfl, c0, c1, ht, fun c' hc' => h0.cut i hi c' hc'⟩
theorem IntsL.rowN {w : World} {a : Option Addr} {n c : Nat} {L : List (List Int)} (h : IntsL w (.slice a n c) L) (i : Nat) (hi : i < n) :
    ∃ (b off : Nat) (d : List Int) (xa : Option Addr) (xn xc : Nat), a = some ⟨b, off, none⟩ ∧ w.cell? ⟨b, off + i, none⟩ = some (.slice xa xn xc) ∧ Hid (Ints w (.slice xa xn xc) d) := by
  obtain ⟨_, a', c1, e, _, hrow⟩ := h
  simp only [Value.slice.injEq] at e
  obtain ⟨rfl, rfl, rfl⟩ := e
  obtain ⟨b, off, x, rfl, c0, hx⟩ := hrow i hi
  obtain ⟨xa, xn, xc, rfl⟩ := hx.shape3
  exact ⟨b, off, L[i], xa, xn, xc, rfl, c0, hx⟩
theorem Ints.rowN {w : World} {a : Option Addr} {n c : Nat} {l : List Int} (h : Ints w (.slice a n c) l) (i : Nat) (hi : i < n) :
    ∃ (b off : Nat) (e : Int), a = some ⟨b, off, none⟩ ∧ w.cell? ⟨b, off + i, none⟩ = some (.int .i64 e) := by
  rcases h with ⟨e, _⟩ | ⟨a', c', e, h1, h2, h3⟩
  · simp only [Value.slice.injEq] at e
    omega
  · simp only [Value.slice.injEq] at e
    obtain ⟨rfl, rfl, rfl⟩ := e
    obtain ⟨b, off, rfl, hc⟩ := h3 i hi
    exact ⟨b, off, l[i], rfl, hc⟩
set_option maxRecDepth 1000000 in
set_option maxHeartbeats 16000000 in
theorem kloop5 {B nk ck nd cd nn cn nT cT kb ko db dO nb nO tb tO k i xn xc j x fn fc gn gc : Nat} {xa fa ga : Option Addr} {ek en : Int} {ks ns : List Int} {ds : List (List Int)} {T : List Ten} {d : List Int} {s : Ten} {W : World} {Q : Exit → Act → World → Prop}
    (hk : k < nk) (hi : i < nd) (hi5 : i < 5) (hj : j < nn) (hj5 : j < 5) (hx : x < nT) (hx5 : x < 5) (hcT : nT ≤ cT) (hnk : nk ≤ 17592186044416)
    (HKS : Hid (Ints W (.slice (some ⟨kb, ko, none⟩) nk ck) ks)) (HDS : Hid (IntsL W (.slice (some ⟨db, dO, none⟩) nd cd) ds)) (HNS : Hid (Ints W (.slice (some ⟨nb, nO, none⟩) nn cn) ns)) (HCB : Hid (W.cell? ⟨B, 0, none⟩ = some (.slice (some ⟨tb, tO, none⟩) nT cT))) (HTS : Hid (TensL W (.slice (some ⟨tb, tO, none⟩) nT cT) T)) (HCK : Hid (W.cell? ⟨kb, ko + k, none⟩ = some (.int .i64 ek))) (HCD : Hid (W.cell? ⟨db, dO + i, none⟩ = some (.slice xa xn xc))) (HD : Hid (Ints W (.slice xa xn xc) d)) (HCN : Hid (W.cell? ⟨nb, nO + j, none⟩ = some (.int .i64 en))) (HT0 : Hid (W.cell? ⟨tb, tO + x * 2, none⟩ = some (.slice fa fn fc))) (HT1 : Hid (W.cell? ⟨tb, tO + x * 2 + 1, none⟩ = some (.slice ga gn gc))) (HA : Hid (Tens W (.slice fa fn fc) (.slice ga gn gc) s))
    (hexit : ∀ a' w' y, FrK5 (some ⟨kb, ko, none⟩) (some ⟨db, dO, none⟩) (some ⟨nb, nO, none⟩) B nk ck nd cd nn cn k i j x y a' → Below W.heap.size W w' → Q (.exit 8) a' w')
    (a : Act) (w : World) (ha : FrK5 (some ⟨kb, ko, none⟩) (some ⟨db, dO, none⟩) (some ⟨nb, nO, none⟩) B nk ck nd cd nn cn k i j x 0 a) (hb : Below W.heap.size W w) :
    Code.wp Tryz.prog (.loop (((Tryz.f9.body.map loopsIn).getD []).getD 4 .skip)) Q a w := by
  refine wp_loop (fun a' w' => (∃ y : Nat, y ≤ 5 ∧ FrK5 (some ⟨kb, ko, none⟩) (some ⟨db, dO, none⟩) (some ⟨nb, nO, none⟩) B nk ck nd cd nn cn k i j x y a') ∧ Below W.heap.size W w') (fun a' _ => 5 - slotNat a' 11) ⟨⟨0, by omega, ha⟩, hb⟩ ?_
  clear ha hb
  clear a w
  intro a w ⟨⟨y, hc5, hf⟩, hb⟩
  obtain ⟨G, hg, e⟩ := act170 a hf.d hf.s
  obtain ⟨hz1, hz2, g1, g2, g5, g6, g7, g8, g9, g10, g11⟩ := hf
  rw [hg] at g1 g2 g5 g6 g7 g8 g9 g10 g11 
  clear hz1 hz2
  subst e
  clear hg
  rw [g1, g2, g5, g6, g7, g8, g9, g10, g11]
  clear g1 g2 g5 g6 g7 g8 g9 g10 g11 
  have HEX : Hid (∀ a' w' y, FrK5 (some ⟨kb, ko, none⟩) (some ⟨db, dO, none⟩) (some ⟨nb, nO, none⟩) B nk ck nd cd nn cn k i j x y a' → Below W.heap.size W w' → Q (.exit 8) a' w') := hexit
  have HB : Hid (Below W.heap.size W w) := hb
  have HKSw : Hid (Ints w (.slice (some ⟨kb, ko, none⟩) nk ck) ks) := HKS.out.later hb
  have HDSw : Hid (IntsL w (.slice (some ⟨db, dO, none⟩) nd cd) ds) := HDS.out.later hb
  have HNSw : Hid (Ints w (.slice (some ⟨nb, nO, none⟩) nn cn) ns) := HNS.out.later hb
  have HCBw : Hid (w.cell? ⟨B, 0, none⟩ = some (.slice (some ⟨tb, tO, none⟩) nT cT)) := cell_later hb HCB.out
  have HTSw : Hid (TensL w (.slice (some ⟨tb, tO, none⟩) nT cT) T) := HTS.out.later hb
  have HCKw : Hid (w.cell? ⟨kb, ko + k, none⟩ = some (.int .i64 ek)) := cell_later hb HCK.out
  have HCDw : Hid (w.cell? ⟨db, dO + i, none⟩ = some (.slice xa xn xc)) := cell_later hb HCD.out
  have HDw : Hid (Ints w (.slice xa xn xc) d) := HD.out.later hb
  have HCNw : Hid (w.cell? ⟨nb, nO + j, none⟩ = some (.int .i64 en)) := cell_later hb HCN.out
  have HT0w : Hid (w.cell? ⟨tb, tO + x * 2, none⟩ = some (.slice fa fn fc)) := cell_later hb HT0.out
  have HT1w : Hid (w.cell? ⟨tb, tO + x * 2 + 1, none⟩ = some (.slice ga gn gc)) := cell_later hb HT1.out
  have HAw : Hid (Tens w (.slice fa fn fc) (.slice ga gn gc) s) := HA.out.later hb
  clear hexit hb HKS HDS HNS HCB HTS HCK HCD HD HCN HT0 HT1 HA
  conv => arg 2; whnf
  by_cases hlt : y < nT
  · by_cases hlt5 : y < 5
    · skip
      obtain ⟨b0, o0, t, ha0, hn0, hc0, ya0, yn0, yc0, e0, hr0, hr1, HU, _⟩ := HTSw.out.rowN y hlt
      simp only [Option.some.injEq, Addr.mk.injEq, and_true] at e0
      obtain ⟨rfl, rfl⟩ := e0
      have hg5 : decide ((y : Int) < 5) = true := by simp; omega
      have hcb := HCBw.out
      go_upto_region 26 with fail
      refine kreg26 hk hi hj ⟨hi5, hj5⟩ hx hx5 hlt hlt5 HCKw.out HCNw.out HCDw.out HCBw.out HT0w.out HT1w.out hr0 hr1 HDw HAw HU ?_ _ ⟨rfl, rfl, rfl, rfl, rfl, rfl, rfl, rfl, rfl, rfl, rfl⟩
      intro a7 w7 hf7 h168 hb7
      obtain ⟨G7, hg7, e7⟩ := act170 a7 hf7.d hf7.s
      obtain ⟨hz1, hz2, g1, g2, g5, g6, g7, g8, g9, g10, g11⟩ := hf7
      rw [hg7] at g1 g2 g5 g6 g7 g8 g9 g10 g11 h168
      clear hz1 hz2
      subst e7
      clear hg7
      rw [g1, g2, g5, g6, g7, g8, g9, g10, g11, h168]
      clear g1 g2 g5 g6 g7 g8 g9 g10 g11 h168
      have HBZ : Hid (Below W.heap.size W w7) := Below.after HB.out hb7
      clear hb7 hr0 hr1 hcb
      go_wp2
      refine ⟨⟨⟨y + 1, by omega, rfl, rfl, rfl, rfl, rfl, rfl, rfl, rfl, rfl, rfl, ?_⟩, HBZ.out⟩, ?_⟩
      · show Value.int .i64 _ = _
        go_num
      · show 5 - (intOf (Value.int .i64 _)).toNat < 5 - (intOf (Value.int .i64 _)).toNat
        simp [intOf]
        omega
    · have hg5 : decide ((y : Int) < 5) = false := by simp; omega
      have hcb := HCBw.out
      go_wp2
      exact HEX.out _ _ y ⟨rfl, rfl, rfl, rfl, rfl, rfl, rfl, rfl, rfl, rfl, rfl⟩ HB.out
  · skip
    have hcb := HCBw.out
    go_wp2
    exact HEX.out _ _ y ⟨rfl, rfl, rfl, rfl, rfl, rfl, rfl, rfl, rfl, rfl, rfl⟩ HB.out
set_option maxRecDepth 1000000 in
set_option maxHeartbeats 16000000 in
theorem kloop4 {B nk ck nd cd nn cn nT cT kb ko db dO nb nO k i xn xc j : Nat} {pT xa : Option Addr} {ek en : Int} {ks ns : List Int} {ds : List (List Int)} {T : List Ten} {d : List Int} {W : World} {Q : Exit → Act → World → Prop}
    (hk : k < nk) (hi : i < nd) (hi5 : i < 5) (hj : j < nn) (hj5 : j < 5) (hcT : nT ≤ cT) (hnk : nk ≤ 17592186044416)
    (HKS : Hid (Ints W (.slice (some ⟨kb, ko, none⟩) nk ck) ks)) (HDS : Hid (IntsL W (.slice (some ⟨db, dO, none⟩) nd cd) ds)) (HNS : Hid (Ints W (.slice (some ⟨nb, nO, none⟩) nn cn) ns)) (HCB : Hid (W.cell? ⟨B, 0, none⟩ = some (.slice pT nT cT))) (HTS : Hid (TensL W (.slice pT nT cT) T)) (HCK : Hid (W.cell? ⟨kb, ko + k, none⟩ = some (.int .i64 ek))) (HCD : Hid (W.cell? ⟨db, dO + i, none⟩ = some (.slice xa xn xc))) (HD : Hid (Ints W (.slice xa xn xc) d)) (HCN : Hid (W.cell? ⟨nb, nO + j, none⟩ = some (.int .i64 en)))
    (hexit : ∀ a' w' x, FrK4 (some ⟨kb, ko, none⟩) (some ⟨db, dO, none⟩) (some ⟨nb, nO, none⟩) B nk ck nd cd nn cn k i j x a' → Below W.heap.size W w' → Q (.exit 6) a' w')
    (a : Act) (w : World) (ha : FrK4 (some ⟨kb, ko, none⟩) (some ⟨db, dO, none⟩) (some ⟨nb, nO, none⟩) B nk ck nd cd nn cn k i j 0 a) (hb : Below W.heap.size W w) :
    Code.wp Tryz.prog (.loop (((Tryz.f9.body.map loopsIn).getD []).getD 3 .skip)) Q a w := by
  refine wp_loop (fun a' w' => (∃ x : Nat, x ≤ 5 ∧ FrK4 (some ⟨kb, ko, none⟩) (some ⟨db, dO, none⟩) (some ⟨nb, nO, none⟩) B nk ck nd cd nn cn k i j x a') ∧ Below W.heap.size W w') (fun a' _ => 5 - slotNat a' 10) ⟨⟨0, by omega, ha⟩, hb⟩ ?_
  clear ha hb
  clear a w
  intro a w ⟨⟨x, hc5, hf⟩, hb⟩
  obtain ⟨G, hg, e⟩ := act170 a hf.d hf.s
  obtain ⟨hz1, hz2, g1, g2, g5, g6, g7, g8, g9, g10⟩ := hf
  rw [hg] at g1 g2 g5 g6 g7 g8 g9 g10 
  clear hz1 hz2
  subst e
  clear hg
  rw [g1, g2, g5, g6, g7, g8, g9, g10]
  clear g1 g2 g5 g6 g7 g8 g9 g10 
  have HEX : Hid (∀ a' w' x, FrK4 (some ⟨kb, ko, none⟩) (some ⟨db, dO, none⟩) (some ⟨nb, nO, none⟩) B nk ck nd cd nn cn k i j x a' → Below W.heap.size W w' → Q (.exit 6) a' w') := hexit
  have HB : Hid (Below W.heap.size W w) := hb
  have HKSw : Hid (Ints w (.slice (some ⟨kb, ko, none⟩) nk ck) ks) := HKS.out.later hb
  have HDSw : Hid (IntsL w (.slice (some ⟨db, dO, none⟩) nd cd) ds) := HDS.out.later hb
  have HNSw : Hid (Ints w (.slice (some ⟨nb, nO, none⟩) nn cn) ns) := HNS.out.later hb
  have HCBw : Hid (w.cell? ⟨B, 0, none⟩ = some (.slice pT nT cT)) := cell_later hb HCB.out
  have HTSw : Hid (TensL w (.slice pT nT cT) T) := HTS.out.later hb
  have HCKw : Hid (w.cell? ⟨kb, ko + k, none⟩ = some (.int .i64 ek)) := cell_later hb HCK.out
  have HCDw : Hid (w.cell? ⟨db, dO + i, none⟩ = some (.slice xa xn xc)) := cell_later hb HCD.out
  have HDw : Hid (Ints w (.slice xa xn xc) d) := HD.out.later hb
  have HCNw : Hid (w.cell? ⟨nb, nO + j, none⟩ = some (.int .i64 en)) := cell_later hb HCN.out
  clear hexit hb HKS HDS HNS HCB HTS HCK HCD HD HCN
  conv => arg 2; whnf
  by_cases hlt : x < nT
  · by_cases hlt5 : x < 5
    · skip
      obtain ⟨tb, tO, s, fa, fn, fc, ga, gn, gc, ea, hr0, hr1, HA0, HC⟩ := HTSw.out.rowN x hlt
      subst ea
      have HC1 : Hid (TensL w (.slice (some ⟨tb, tO + x * 2, none⟩) 1 (cT - x)) [s]) := HC _ (by omega)
      have HR0 : Hid (w.cell? ⟨tb, tO + x * 2, none⟩ = some (.slice fa fn fc)) := hr0
      have HR1 : Hid (w.cell? ⟨tb, tO + x * 2 + 1, none⟩ = some (.slice ga gn gc)) := hr1
      have hg5 : decide ((x : Int) < 5) = true := by simp; omega
      have hcb := HCBw.out
      clear HC hr0 hr1
      go_upto_region 19 with fail
      refine kreg19 (s := s) hk hi hj ⟨hi5, hj5⟩ hlt hlt5 hcT HCKw.out HCNw.out HCDw.out HCBw.out HDw HC1 ?_ _ ⟨rfl, rfl, rfl, rfl, rfl, rfl, rfl, rfl, rfl, rfl⟩
      intro a7 w7 hf7 h96 hb7
      obtain ⟨G7, hg7, e7⟩ := act170 a7 hf7.d hf7.s
      obtain ⟨hz1, hz2, g1, g2, g5, g6, g7, g8, g9, g10⟩ := hf7
      rw [hg7] at g1 g2 g5 g6 g7 g8 g9 g10 h96
      clear hz1 hz2
      subst e7
      clear hg7
      rw [g1, g2, g5, g6, g7, g8, g9, g10, h96]
      clear g1 g2 g5 g6 g7 g8 g9 g10 h96
      have HB7 : Hid (Below w.heap.size w w7) := hb7
      clear hb7 hcb
      go_upto_region 21 with fail
      refine kreg21 (s := s) hk hi hj ⟨hi5, hj5⟩ hlt hlt5 hcT (cell_later HB7.out HCKw.out) (cell_later HB7.out HCNw.out) (cell_later HB7.out HCBw.out) (cell_later HB7.out HR0.out) (cell_later HB7.out HR1.out) (HA0.out.later HB7.out) (HC1.out.later HB7.out) ?_ _ ⟨rfl, rfl, rfl, rfl, rfl, rfl, rfl, rfl, rfl, rfl⟩
      intro a8 w8 hf8 h129 hb8
      obtain ⟨G8, hg8, e8⟩ := act170 a8 hf8.d hf8.s
      obtain ⟨hz1, hz2, g1, g2, g5, g6, g7, g8, g9, g10⟩ := hf8
      rw [hg8] at g1 g2 g5 g6 g7 g8 g9 g10 h129
      clear hz1 hz2
      subst e8
      clear hg8
      rw [g1, g2, g5, g6, g7, g8, g9, g10, h129]
      clear g1 g2 g5 g6 g7 g8 g9 g10 h129
      have HB8 : Hid (Below w.heap.size w w8) := Below.after HB7.out hb8
      clear hb8 HB7
      go_wp2
      refine kloop5 (W := w8) (s := s) hk hi hi5 hj hj5 hlt hlt5 hcT hnk (HKSw.out.later HB8.out) (HDSw.out.later HB8.out) (HNSw.out.later HB8.out) (cell_later HB8.out HCBw.out) (HTSw.out.later HB8.out) (cell_later HB8.out HCKw.out) (cell_later HB8.out HCDw.out) (HDw.out.later HB8.out) (cell_later HB8.out HCNw.out) (cell_later HB8.out HR0.out) (cell_later HB8.out HR1.out) (HA0.out.later HB8.out) ?_ _ _ ⟨rfl, rfl, rfl, rfl, rfl, rfl, rfl, rfl, rfl, rfl, rfl⟩ (Below.refl _ _)
      intro a9 w9 y9 hf9 hb9
      obtain ⟨G9, hg9, e9⟩ := act170 a9 hf9.d hf9.s
      obtain ⟨hz1, hz2, g1, g2, g5, g6, g7, g8, g9, g10, g11⟩ := hf9
      rw [hg9] at g1 g2 g5 g6 g7 g8 g9 g10
      clear hz1 hz2 g11
      subst e9
      clear hg9
      rw [g1, g2, g5, g6, g7, g8, g9, g10]
      clear g1 g2 g5 g6 g7 g8 g9 g10
      have HBZ : Hid (Below W.heap.size W w9) := Below.after HB.out (Below.after HB8.out hb9)
      clear hb9
      go_wp2
      refine ⟨⟨⟨x + 1, by omega, rfl, rfl, rfl, rfl, rfl, rfl, rfl, rfl, rfl, ?_⟩, HBZ.out⟩, ?_⟩
      · show Value.int .i64 _ = _
        go_num
      · show 5 - (intOf (Value.int .i64 _)).toNat < 5 - (intOf (Value.int .i64 _)).toNat
        simp [intOf]
        omega
    · have hg5 : decide ((x : Int) < 5) = false := by simp; omega
      have hcb := HCBw.out
      go_wp2
      exact HEX.out _ _ x ⟨rfl, rfl, rfl, rfl, rfl, rfl, rfl, rfl, rfl, rfl⟩ HB.out
  · skip
    have hcb := HCBw.out
    go_wp2
    exact HEX.out _ _ x ⟨rfl, rfl, rfl, rfl, rfl, rfl, rfl, rfl, rfl, rfl⟩ HB.out
set_option maxRecDepth 1000000 in
set_option maxHeartbeats 16000000 in
theorem kloop3 {B nk ck nd cd nn cn nT cT kb ko db dO k i xn xc : Nat} {pn pT xa : Option Addr} {ek : Int} {ks ns : List Int} {ds : List (List Int)} {T : List Ten} {d : List Int} {W : World} {Q : Exit → Act → World → Prop}
    (hk : k < nk) (hi : i < nd) (hi5 : i < 5) (hcT : nT ≤ cT) (hnk : nk ≤ 17592186044416)
    (HKS : Hid (Ints W (.slice (some ⟨kb, ko, none⟩) nk ck) ks)) (HDS : Hid (IntsL W (.slice (some ⟨db, dO, none⟩) nd cd) ds)) (HNS : Hid (Ints W (.slice pn nn cn) ns)) (HCB : Hid (W.cell? ⟨B, 0, none⟩ = some (.slice pT nT cT))) (HTS : Hid (TensL W (.slice pT nT cT) T)) (HCK : Hid (W.cell? ⟨kb, ko + k, none⟩ = some (.int .i64 ek))) (HCD : Hid (W.cell? ⟨db, dO + i, none⟩ = some (.slice xa xn xc))) (HD : Hid (Ints W (.slice xa xn xc) d))
    (hexit : ∀ a' w' j, FrK3 (some ⟨kb, ko, none⟩) (some ⟨db, dO, none⟩) pn B nk ck nd cd nn cn k i j a' → Below W.heap.size W w' → Q (.exit 4) a' w')
    (a : Act) (w : World) (ha : FrK3 (some ⟨kb, ko, none⟩) (some ⟨db, dO, none⟩) pn B nk ck nd cd nn cn k i 0 a) (hb : Below W.heap.size W w) :
    Code.wp Tryz.prog (.loop (((Tryz.f9.body.map loopsIn).getD []).getD 2 .skip)) Q a w := by
  refine wp_loop (fun a' w' => (∃ j : Nat, j ≤ 5 ∧ FrK3 (some ⟨kb, ko, none⟩) (some ⟨db, dO, none⟩) pn B nk ck nd cd nn cn k i j a') ∧ Below W.heap.size W w') (fun a' _ => 5 - slotNat a' 9) ⟨⟨0, by omega, ha⟩, hb⟩ ?_
  clear ha hb
  clear a w
  intro a w ⟨⟨j, hc5, hf⟩, hb⟩
  obtain ⟨G, hg, e⟩ := act170 a hf.d hf.s
  obtain ⟨hz1, hz2, g1, g2, g5, g6, g7, g8, g9⟩ := hf
  rw [hg] at g1 g2 g5 g6 g7 g8 g9 
  clear hz1 hz2
  subst e
  clear hg
  rw [g1, g2, g5, g6, g7, g8, g9]
  clear g1 g2 g5 g6 g7 g8 g9 
  have HEX : Hid (∀ a' w' j, FrK3 (some ⟨kb, ko, none⟩) (some ⟨db, dO, none⟩) pn B nk ck nd cd nn cn k i j a' → Below W.heap.size W w' → Q (.exit 4) a' w') := hexit
  have HB : Hid (Below W.heap.size W w) := hb
  have HKSw : Hid (Ints w (.slice (some ⟨kb, ko, none⟩) nk ck) ks) := HKS.out.later hb
  have HDSw : Hid (IntsL w (.slice (some ⟨db, dO, none⟩) nd cd) ds) := HDS.out.later hb
  have HNSw : Hid (Ints w (.slice pn nn cn) ns) := HNS.out.later hb
  have HCBw : Hid (w.cell? ⟨B, 0, none⟩ = some (.slice pT nT cT)) := cell_later hb HCB.out
  have HTSw : Hid (TensL w (.slice pT nT cT) T) := HTS.out.later hb
  have HCKw : Hid (w.cell? ⟨kb, ko + k, none⟩ = some (.int .i64 ek)) := cell_later hb HCK.out
  have HCDw : Hid (w.cell? ⟨db, dO + i, none⟩ = some (.slice xa xn xc)) := cell_later hb HCD.out
  have HDw : Hid (Ints w (.slice xa xn xc) d) := HD.out.later hb
  clear hexit hb HKS HDS HNS HCB HTS HCK HCD HD
  conv => arg 2; whnf
  by_cases hlt : j < nn
  · by_cases hlt5 : j < 5
    · skip
      obtain ⟨nb, nO, en, ea, hr0⟩ := HNSw.out.rowN j hlt
      subst ea
      have HR0 : Hid (w.cell? ⟨nb, nO + j, none⟩ = some (.int .i64 en)) := hr0
      have hg5 : decide ((j : Int) < 5) = true := by simp; omega
      clear hr0
      go_upto_region 14 with fail
      refine kreg14 hk hi hlt ⟨hi5, hlt5⟩ HCKw.out HR0.out HCDw.out HDw ?_ _ ⟨rfl, rfl, rfl, rfl, rfl, rfl, rfl, rfl, rfl⟩
      intro a7 w7 hf7 h63 hb7
      obtain ⟨G7, hg7, e7⟩ := act170 a7 hf7.d hf7.s
      obtain ⟨hz1, hz2, g1, g2, g5, g6, g7, g8, g9⟩ := hf7
      rw [hg7] at g1 g2 g5 g6 g7 g8 g9 h63
      clear hz1 hz2
      subst e7
      clear hg7
      rw [g1, g2, g5, g6, g7, g8, g9, h63]
      clear g1 g2 g5 g6 g7 g8 g9 h63
      have HB8 : Hid (Below w.heap.size w w7) := hb7
      clear hb7
      go_wp2
      refine kloop4 (W := w7) hk hi hi5 hlt hlt5 hcT hnk (HKSw.out.later HB8.out) (HDSw.out.later HB8.out) (HNSw.out.later HB8.out) (cell_later HB8.out HCBw.out) (HTSw.out.later HB8.out) (cell_later HB8.out HCKw.out) (cell_later HB8.out HCDw.out) (HDw.out.later HB8.out) (cell_later HB8.out HR0.out) ?_ _ _ ⟨rfl, rfl, rfl, rfl, rfl, rfl, rfl, rfl, rfl, rfl⟩ (Below.refl _ _)
      intro a9 w9 y9 hf9 hb9
      obtain ⟨G9, hg9, e9⟩ := act170 a9 hf9.d hf9.s
      obtain ⟨hz1, hz2, g1, g2, g5, g6, g7, g8, g9, g10⟩ := hf9
      rw [hg9] at g1 g2 g5 g6 g7 g8 g9
      clear hz1 hz2 g10
      subst e9
      clear hg9
      rw [g1, g2, g5, g6, g7, g8, g9]
      clear g1 g2 g5 g6 g7 g8 g9
      have HBZ : Hid (Below W.heap.size W w9) := Below.after HB.out (Below.after HB8.out hb9)
      clear hb9
      go_wp2
      refine ⟨⟨⟨j + 1, by omega, rfl, rfl, rfl, rfl, rfl, rfl, rfl, rfl, ?_⟩, HBZ.out⟩, ?_⟩
      · show Value.int .i64 _ = _
        go_num
      · show 5 - (intOf (Value.int .i64 _)).toNat < 5 - (intOf (Value.int .i64 _)).toNat
        simp [intOf]
        omega
    · have hg5 : decide ((j : Int) < 5) = false := by simp; omega
      go_wp2
      exact HEX.out _ _ j ⟨rfl, rfl, rfl, rfl, rfl, rfl, rfl, rfl, rfl⟩ HB.out
  · skip
    go_wp2
    exact HEX.out _ _ j ⟨rfl, rfl, rfl, rfl, rfl, rfl, rfl, rfl, rfl⟩ HB.out
set_option maxRecDepth 1000000 in
set_option maxHeartbeats 16000000 in
theorem kloop2 {B nk ck nd cd nn cn nT cT kb ko k : Nat} {pd pn pT : Option Addr} {ek : Int} {ks ns : List Int} {ds : List (List Int)} {T : List Ten} {W : World} {Q : Exit → Act → World → Prop}
    (hk : k < nk) (hcT : nT ≤ cT) (hnk : nk ≤ 17592186044416)
    (HKS : Hid (Ints W (.slice (some ⟨kb, ko, none⟩) nk ck) ks)) (HDS : Hid (IntsL W (.slice pd nd cd) ds)) (HNS : Hid (Ints W (.slice pn nn cn) ns)) (HCB : Hid (W.cell? ⟨B, 0, none⟩ = some (.slice pT nT cT))) (HTS : Hid (TensL W (.slice pT nT cT) T)) (HCK : Hid (W.cell? ⟨kb, ko + k, none⟩ = some (.int .i64 ek)))
    (hexit : ∀ a' w' i, FrK2 (some ⟨kb, ko, none⟩) pd pn B nk ck nd cd nn cn k i a' → Below W.heap.size W w' → Q (.exit 2) a' w')
    (a : Act) (w : World) (ha : FrK2 (some ⟨kb, ko, none⟩) pd pn B nk ck nd cd nn cn k 0 a) (hb : Below W.heap.size W w) :
    Code.wp Tryz.prog (.loop (((Tryz.f9.body.map loopsIn).getD []).getD 1 .skip)) Q a w := by
  refine wp_loop (fun a' w' => (∃ i : Nat, i ≤ 5 ∧ FrK2 (some ⟨kb, ko, none⟩) pd pn B nk ck nd cd nn cn k i a') ∧ Below W.heap.size W w') (fun a' _ => 5 - slotNat a' 8) ⟨⟨0, by omega, ha⟩, hb⟩ ?_
  clear ha hb
  clear a w
  intro a w ⟨⟨i, hc5, hf⟩, hb⟩
  obtain ⟨G, hg, e⟩ := act170 a hf.d hf.s
  obtain ⟨hz1, hz2, g1, g2, g5, g6, g7, g8⟩ := hf
  rw [hg] at g1 g2 g5 g6 g7 g8 
  clear hz1 hz2
  subst e
  clear hg
  rw [g1, g2, g5, g6, g7, g8]
  clear g1 g2 g5 g6 g7 g8 
  have HEX : Hid (∀ a' w' i, FrK2 (some ⟨kb, ko, none⟩) pd pn B nk ck nd cd nn cn k i a' → Below W.heap.size W w' → Q (.exit 2) a' w') := hexit
  have HB : Hid (Below W.heap.size W w) := hb
  have HKSw : Hid (Ints w (.slice (some ⟨kb, ko, none⟩) nk ck) ks) := HKS.out.later hb
  have HDSw : Hid (IntsL w (.slice pd nd cd) ds) := HDS.out.later hb
  have HNSw : Hid (Ints w (.slice pn nn cn) ns) := HNS.out.later hb
  have HCBw : Hid (w.cell? ⟨B, 0, none⟩ = some (.slice pT nT cT)) := cell_later hb HCB.out
  have HTSw : Hid (TensL w (.slice pT nT cT) T) := HTS.out.later hb
  have HCKw : Hid (w.cell? ⟨kb, ko + k, none⟩ = some (.int .i64 ek)) := cell_later hb HCK.out
  clear hexit hb HKS HDS HNS HCB HTS HCK
  conv => arg 2; whnf
  by_cases hlt : i < nd
  · by_cases hlt5 : i < 5
    · skip
      obtain ⟨db, dO, d, xa, xn, xc, ea, hr0, HD0⟩ := HDSw.out.rowN i hlt
      subst ea
      have HR0 : Hid (w.cell? ⟨db, dO + i, none⟩ = some (.slice xa xn xc)) := hr0
      have hg5 : decide ((i : Int) < 5) = true := by simp; omega
      clear hr0
      go_wp2
      refine kloop3 (W := w) hk hlt hlt5 hcT hnk HKSw.out HDSw.out HNSw.out HCBw.out HTSw.out HCKw.out (HR0.out) (HD0.out) ?_ _ _ ⟨rfl, rfl, rfl, rfl, rfl, rfl, rfl, rfl, rfl⟩ (Below.refl _ _)
      intro a9 w9 y9 hf9 hb9
      obtain ⟨G9, hg9, e9⟩ := act170 a9 hf9.d hf9.s
      obtain ⟨hz1, hz2, g1, g2, g5, g6, g7, g8, g9⟩ := hf9
      rw [hg9] at g1 g2 g5 g6 g7 g8
      clear hz1 hz2 g9
      subst e9
      clear hg9
      rw [g1, g2, g5, g6, g7, g8]
      clear g1 g2 g5 g6 g7 g8
      have HBZ : Hid (Below W.heap.size W w9) := Below.after HB.out hb9
      clear hb9
      go_wp2
      refine ⟨⟨⟨i + 1, by omega, rfl, rfl, rfl, rfl, rfl, rfl, rfl, ?_⟩, HBZ.out⟩, ?_⟩
      · show Value.int .i64 _ = _
        go_num
      · show 5 - (intOf (Value.int .i64 _)).toNat < 5 - (intOf (Value.int .i64 _)).toNat
        simp [intOf]
        omega
    · have hg5 : decide ((i : Int) < 5) = false := by simp; omega
      go_wp2
      exact HEX.out _ _ i ⟨rfl, rfl, rfl, rfl, rfl, rfl, rfl, rfl⟩ HB.out
  · skip
    go_wp2
    exact HEX.out _ _ i ⟨rfl, rfl, rfl, rfl, rfl, rfl, rfl, rfl⟩ HB.out
set_option maxRecDepth 1000000 in
set_option maxHeartbeats 16000000 in
theorem kloop1 {B nk ck nd cd nn cn nT cT : Nat} {pk pd pn pT : Option Addr} {ks ns : List Int} {ds : List (List Int)} {T : List Ten} {W : World} {Q : Exit → Act → World → Prop}
    (hcT : nT ≤ cT) (hnk : nk ≤ 17592186044416)
    (HKS : Hid (Ints W (.slice pk nk ck) ks)) (HDS : Hid (IntsL W (.slice pd nd cd) ds)) (HNS : Hid (Ints W (.slice pn nn cn) ns)) (HCB : Hid (W.cell? ⟨B, 0, none⟩ = some (.slice pT nT cT))) (HTS : Hid (TensL W (.slice pT nT cT) T))
    (hexit : ∀ a' w' k, FrK1 pk pd pn B nk ck nd cd nn cn k a' → Below W.heap.size W w' → Q (.exit 0) a' w')
    (a : Act) (w : World) (ha : FrK1 pk pd pn B nk ck nd cd nn cn 0 a) (hb : Below W.heap.size W w) :
    Code.wp Tryz.prog (.loop (((Tryz.f9.body.map loopsIn).getD []).getD 0 .skip)) Q a w := by
  refine wp_loop (fun a' w' => (∃ k : Nat, k ≤ nk ∧ FrK1 pk pd pn B nk ck nd cd nn cn k a') ∧ Below W.heap.size W w') (fun a' _ => nk - slotNat a' 7) ⟨⟨0, by omega, ha⟩, hb⟩ ?_
  clear ha hb
  clear a w
  intro a w ⟨⟨k, hc5, hf⟩, hb⟩
  obtain ⟨G, hg, e⟩ := act170 a hf.d hf.s
  obtain ⟨hz1, hz2, g1, g2, g5, g6, g7⟩ := hf
  rw [hg] at g1 g2 g5 g6 g7 
  clear hz1 hz2
  subst e
  clear hg
  rw [g1, g2, g5, g6, g7]
  clear g1 g2 g5 g6 g7 
  have HEX : Hid (∀ a' w' k, FrK1 pk pd pn B nk ck nd cd nn cn k a' → Below W.heap.size W w' → Q (.exit 0) a' w') := hexit
  have HB : Hid (Below W.heap.size W w) := hb
  have HKSw : Hid (Ints w (.slice pk nk ck) ks) := HKS.out.later hb
  have HDSw : Hid (IntsL w (.slice pd nd cd) ds) := HDS.out.later hb
  have HNSw : Hid (Ints w (.slice pn nn cn) ns) := HNS.out.later hb
  have HCBw : Hid (w.cell? ⟨B, 0, none⟩ = some (.slice pT nT cT)) := cell_later hb HCB.out
  have HTSw : Hid (TensL w (.slice pT nT cT) T) := HTS.out.later hb
  clear hexit hb HKS HDS HNS HCB HTS
  conv => arg 2; whnf
  by_cases hlt : k < nk
  · skip
    obtain ⟨kb, ko, ek, ea, hr0⟩ := HKSw.out.rowN k hlt
    subst ea
    have HR0 : Hid (w.cell? ⟨kb, ko + k, none⟩ = some (.int .i64 ek)) := hr0
    clear hr0
    go_wp2
    refine kloop2 (W := w) hlt hcT hnk HKSw.out HDSw.out HNSw.out HCBw.out HTSw.out (HR0.out) ?_ _ _ ⟨rfl, rfl, rfl, rfl, rfl, rfl, rfl, rfl⟩ (Below.refl _ _)
    intro a9 w9 y9 hf9 hb9
    obtain ⟨G9, hg9, e9⟩ := act170 a9 hf9.d hf9.s
    obtain ⟨hz1, hz2, g1, g2, g5, g6, g7, g8⟩ := hf9
    rw [hg9] at g1 g2 g5 g6 g7
    clear hz1 hz2 g8
    subst e9
    clear hg9
    rw [g1, g2, g5, g6, g7]
    clear g1 g2 g5 g6 g7
    have HBZ : Hid (Below W.heap.size W w9) := Below.after HB.out hb9
    clear hb9
    go_wp2
    refine ⟨⟨⟨k + 1, by omega, rfl, rfl, rfl, rfl, rfl, rfl, ?_⟩, HBZ.out⟩, ?_⟩
    · show Value.int .i64 _ = _
      go_num
    · show nk - (intOf (Value.int .i64 _)).toNat < nk - (intOf (Value.int .i64 _)).toNat
      simp [intOf]
      omega
  · skip
    go_wp2
    exact HEX.out _ _ k ⟨rfl, rfl, rfl, rfl, rfl, rfl, rfl⟩ HB.out
end Go.Proofs.YtheddpjaihhbdacGreat
