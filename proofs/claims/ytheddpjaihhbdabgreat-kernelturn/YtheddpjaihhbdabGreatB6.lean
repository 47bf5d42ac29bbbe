/- Contract: the page's Do, of whatever may be; what a node's errors and answers are, case by case. -/
import Derived.Test.YtheddpjaihhbdabGreatB4
import Derived.Test.YtheddpjaihhbdabGreatB5
import Derived.Test.YtheddpjaihhbdabGreatA5
namespace Go.Proofs.YtheddpjaihhbdabGreat
set_option linter.unusedVariables false
set_option linter.unusedSimpArgs false
set_option maxRecDepth 100000
open Go.RowKit

theorem rdo_to {vd v : Value} {d : List Int} {L : List Ten} {w : World} (k n : Int) (h : 3 ≤ k ∧ k ≤ 17) (hm : L.length = many k.toNat) (hd : Ints w vd d) (hl : TensL w v L) (hx : vE k.toNat n d (L.getD 0 no) (L.getD 1 no) = 0) :
    Calls Tryz.prog 24 #[.int .i64 k, .int .i64 n, vd, v] w fun e w' => ∃ x0 x1, e = .returned (.agg #[x0, x1]) ∧ OwnT w' w.heap.size x0 x1 (vR k.toNat n d (L.getD 0 no) (L.getD 1 no)) ∧ Below w.heap.size w w' := by
  have hk : k = 3 ∨ k = 4 ∨ k = 5 ∨ k = 6 ∨ k = 7 ∨ k = 8 ∨ k = 9 ∨ k = 10 ∨ k = 11 ∨ k = 12 ∨ k = 13 ∨ k = 14 ∨ k = 15 ∨ k = 16 ∨ k = 17 := by omega
  rcases hk with rfl | rfl | rfl | rfl | rfl | rfl | rfl | rfl | rfl | rfl | rfl | rfl | rfl | rfl | rfl
  · obtain rfl := len0 hm rfl
    exact rdo_k3 n hd hx
  · obtain ⟨s, t, rfl⟩ := len2 hm
    obtain ⟨P, off, c, x, y, p, q, rfl, hc, c0, c1, c2, c3, ht, hu⟩ := hl.two
    exact rdo_k4 n hc ht hu c0 c1 c2 c3 hd hx
  · obtain ⟨s, t, rfl⟩ := len2 hm
    obtain ⟨P, off, c, x, y, p, q, rfl, hc, c0, c1, c2, c3, ht, hu⟩ := hl.two
    exact rdo_k5 n hc ht hu c0 c1 c2 c3 hd hx
  · obtain ⟨s, t, rfl⟩ := len2 hm
    obtain ⟨P, off, c, x, y, p, q, rfl, hc, c0, c1, c2, c3, ht, hu⟩ := hl.two
    exact rdo_k6 n hc ht hu c0 c1 c2 c3 hd hx
  · obtain ⟨s, rfl⟩ := len1 hm
    obtain ⟨P, off, c, x, y, rfl, hc, c0, c1, ht⟩ := hl.one
    exact rdo_k7 n hc ht c0 c1 hd hx
  · obtain ⟨s, rfl⟩ := len1 hm
    obtain ⟨P, off, c, x, y, rfl, hc, c0, c1, ht⟩ := hl.one
    exact rdo_k8 n hc ht c0 c1 hd hx
  · obtain ⟨s, t, rfl⟩ := len2 hm
    obtain ⟨P, off, c, x, y, p, q, rfl, hc, c0, c1, c2, c3, ht, hu⟩ := hl.two
    exact rdo_k9 n hc ht hu c0 c1 c2 c3 hd hx
  · obtain ⟨s, rfl⟩ := len1 hm
    obtain ⟨P, off, c, x, y, rfl, hc, c0, c1, ht⟩ := hl.one
    exact rdo_k10 n hc ht c0 c1 hd hx
  · obtain ⟨s, rfl⟩ := len1 hm
    obtain ⟨P, off, c, x, y, rfl, hc, c0, c1, ht⟩ := hl.one
    exact rdo_k11 n hc ht c0 c1 hd hx
  · obtain ⟨s, rfl⟩ := len1 hm
    obtain ⟨P, off, c, x, y, rfl, hc, c0, c1, ht⟩ := hl.one
    exact rdo_k12 n hc ht c0 c1 hd hx
  · obtain ⟨s, rfl⟩ := len1 hm
    obtain ⟨P, off, c, x, y, rfl, hc, c0, c1, ht⟩ := hl.one
    exact rdo_k13 n hc ht c0 c1 hd hx
  · obtain ⟨s, rfl⟩ := len1 hm
    obtain ⟨P, off, c, x, y, rfl, hc, c0, c1, ht⟩ := hl.one
    exact rdo_k14 n hc ht c0 c1 hd hx
  · obtain ⟨s, rfl⟩ := len1 hm
    obtain ⟨P, off, c, x, y, rfl, hc, c0, c1, ht⟩ := hl.one
    exact rdo_k15 n hc ht c0 c1 hd hx
  · obtain ⟨s, t, rfl⟩ := len2 hm
    obtain ⟨P, off, c, x, y, p, q, rfl, hc, c0, c1, c2, c3, ht, hu⟩ := hl.two
    exact rdo_k16 n hc ht hu c0 c1 c2 c3 hd hx
  · obtain ⟨s, t, rfl⟩ := len2 hm
    obtain ⟨P, off, c, x, y, p, q, rfl, hc, c0, c1, c2, c3, ht, hu⟩ := hl.two
    exact rdo_k17 n hc ht hu c0 c1 c2 c3 hd hx
end Go.Proofs.YtheddpjaihhbdabGreat
