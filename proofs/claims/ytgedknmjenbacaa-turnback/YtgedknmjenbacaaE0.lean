/- For RingEach: what is written over, and what stays; the page's Each under the program's names. -/
import Derived.Test.YtgedknmjenbacaaAc
namespace Go.Proofs.Ytgedknmjenbacaa
set_option linter.unusedVariables false
set_option linter.unusedSimpArgs false
open Go.RowKit

theorem Wr.later {w w' : World} {B : Nat} {v : Value} (hb : Below w.heap.size w w') (h : Wr w B v) : Wr w' B v := by
  rcases h with h | ⟨g, n, cap, cur, rfl, h1, h2, h3, h4, h5⟩
  · exact Or.inl h
  · exact Or.inr ⟨g, n, cap, cur, rfl, h1, h2, h3, (hb.block g (Array.getElem?_eq_some_iff.1 h4).1).trans h4, h5⟩
theorem Wr.mono {w : World} {B B' : Nat} {v : Value} (h : Wr w B v) (hB : B' ≤ B) : Wr w B' v := by
  rcases h with h | ⟨g, n, cap, cur, rfl, h1, h2, h3, h4, h5⟩
  · exact Or.inl h
  · exact Or.inr ⟨g, n, cap, cur, rfl, by omega, h2, h3, h4, h5⟩
theorem Wr.lt {w : World} {B : Nat} {v : Value} (h : Wr w B v) : ∀ k, v.ownBlock = some k → k < w.heap.size := by
  intro k hk
  rcases h with rfl | ⟨g, n, cap, cur, rfl, h1, h2, h3, h4, h5⟩
  · simp [Value.ownBlock] at hk
  · simp [Value.ownBlock] at hk
    subst hk
    exact (Array.getElem?_eq_some_iff.1 h4).1
set_option maxHeartbeats 400000 in
theorem spoil_wr {w : World} {B n0 n1 c0 c1 : Nat} {p0 p1 : Option Addr} (h0 : Wr w B (.slice p0 n0 c0)) (h1 : Wr w B (.slice p1 n1 c1)) (hB : B ≤ w.heap.size) :
    Calls Try.prog 13 #[.agg #[.slice p0 n0 c0, .slice p1 n1 c1]] w fun e w' => e = .returned (.tuple #[]) ∧ Below B w w' ∧ ∀ u, Wr w B u → Wr w' B u := by
  have HB : Hid (Below B w (w.alloc (.cells #[.slice p0 n0 c0, .slice p1 n1 c1] 31))) := (Below.refl _ _).alloc hB _
  have H0 : Hid (Wr (w.alloc (.cells #[.slice p0 n0 c0, .slice p1 n1 c1] 31)) B (.slice p0 n0 c0)) := h0.alloc _
  have H1 : Hid (Wr (w.alloc (.cells #[.slice p0 n0 c0, .slice p1 n1 c1] 31)) B (.slice p1 n1 c1)) := h1.alloc _
  have HN0 : Hid (∀ k, (Value.slice p0 n0 c0).ownBlock = some k → k < w.heap.size) := h0.lt
  have HBX : Hid (Box (w.alloc (.cells #[.slice p0 n0 c0, .slice p1 n1 c1] 31)) w.heap.size (.slice p0 n0 c0) (.slice p1 n1 c1)) := Box.new w _ _
  clear h0 h1
  go_enter Try.func13, Try.ntmps13
  go_wp2_with fail
  refine (numbers_any H0.out).mono ?_
  rintro e w1 ⟨rfl, hb1, hw1, ho1⟩
  have HW1 : Hid (Wr w1 B (.slice p1 n1 c1)) := hw1 _ H1.out
  have HU1 : Hid (∀ u, Wr w B u → Wr w1 B u) := fun u hu => hw1 u (hu.alloc _)
  have HB1 : Hid (Below B w w1) := HB.out.trans hb1
  have hbx1 : Box w1 w.heap.size _ _ := (ho1 w.heap.size (fun e => absurd (HN0.out _ e) (Nat.lt_irrefl _))).trans HBX.out
  have hc1 := hbx1.c1
  clear hb1 hw1 ho1 hbx1
  go_wp2_with fail
  refine (numbers_any HW1.out).mono ?_
  rintro e w2 ⟨rfl, hb2, hw2, _⟩
  have HB2 : Hid (Below B w w2) := HB1.out.trans hb2
  have HU2 : Hid (∀ u, Wr w B u → Wr w2 B u) := fun u hu => hw2 u (HU1.out u hu)
  clear hb2 hw2
  go_wp2
  go_end0
  exact ⟨rfl, HB2.out, HU2.out⟩
theorem opS_eq (x y : Int) : opS x y = wrap64 (x - y) := by
  unfold opS wrap64
  omega
theorem each_ok_eq {op : Int → Int → Int} {s t : Ten} (h : fitE s t = 0) : eachR op s t = (s.1, List.zipWith op s.2 t.2) := by rw [eachR, if_pos h]
theorem each_bad_eq {op : Int → Int → Int} {s t : Ten} {x : Int} (h : fitE s t = x) (hx : x ≠ 0) : eachR op s t = ([], []) := by rw [eachR, h, if_neg hx]
theorem opS_fun : (fun x y => wrap64 (x - y)) = opS := by
  funext x y
  exact (opS_eq x y).symm
theorem fit_lens {s t : Ten} (h : fitE s t = 0) : t.2.length = s.2.length ∧ 1 ≤ s.2.length ∧ s.2.length ≤ 64 := by
  obtain ⟨hs, ht, hd⟩ := fit_zero h
  have h1 := tok_len hs
  have h2 := tok_len ht
  rw [← hd] at h2
  have h3 := tok_pos hs
  omega
theorem OwnT.set2 {w : World} {B p : Nat} {x y : Value} {t : Ten} (h : OwnT w B x y t) (u v : Value) (hp : p < B) : OwnT ((w.setCell ⟨p, 0, none⟩ u).setCell ⟨p, 1, none⟩ v) B x y t := (h.setCell _ _ hp).setCell _ _ hp
theorem Box.other2 {w : World} {B p : Nat} {x y : Value} (h : Box w B x y) (u v : Value) (hp : B ≠ p) : Box ((w.setCell ⟨p, 0, none⟩ u).setCell ⟨p, 1, none⟩ v) B x y := (h.other _ _ hp).other _ _ hp
end Go.Proofs.Ytgedknmjenbacaa
