/- Contracts: ring's Add, the page's Num; a matrix in memory, read. -/
import Derived.Test.YtnphfepkjhlalaaD3
import Derived.Test.YtnphfepkjhlalaaMx
namespace Go.Proofs.Ytnphfepkjhlalaa
set_option linter.unusedVariables false
set_option linter.unusedSimpArgs false
open Go.RowKit

/-- A matrix of p by q in memory, read: where its dims and its numbers lie. -/
structure MatC (w : World) (a0 a1 : Value) (p q N : Nat) (l : List Int) (db dof dc ab ao ac : Nat) : Prop where
  e0 : a0 = .slice (some ⟨db, dof, none⟩) 2 dc
  e1 : a1 = .slice (some ⟨ab, ao, none⟩) N ac
  hdc : 2 ≤ dc
  hac : N ≤ ac
  hdb : db < w.heap.size
  hab : ab < w.heap.size
  c0 : w.cell? ⟨db, dof, none⟩ = some (.int .i64 p)
  c1 : w.cell? ⟨db, dof + 1, none⟩ = some (.int .i64 q)
  cd : ∀ i, i < N → w.cell? ⟨ab, ao + i, none⟩ = some (.int .i64 (l.getD i 0))
theorem MatC.later {w w' : World} {a0 a1 : Value} {p q N : Nat} {l : List Int} {db dof dc ab ao ac : Nat} (hb : Below w.heap.size w w') (h : MatC w a0 a1 p q N l db dof dc ab ao ac) : MatC w' a0 a1 p q N l db dof dc ab ao ac :=
  ⟨h.e0, h.e1, h.hdc, h.hac, Nat.lt_of_lt_of_le h.hdb hb.size, Nat.lt_of_lt_of_le h.hab hb.size, cell_later hb h.c0, cell_later hb h.c1, fun i hi => cell_later hb (h.cd i hi)⟩
theorem Tens.mat {w : World} {a0 a1 : Value} {p q N : Nat} {l : List Int} (ha : Tens w a0 a1 ([(p : Int), (q : Int)], l)) (hl : l.length = N) (h1 : 1 ≤ N) :
    ∃ db dof dc ab ao ac, MatC w a0 a1 p q N l db dof dc ab ao ac := by
  rcases ha.2.cases with ⟨e, _⟩ | ⟨ab, ao, ac, ea, hab0, ha1, _, HCA⟩
  · simp only at e; rw [e] at hl; simp at hl; omega
  simp only at HCA hab0 ha1 ea
  have hab : ab < w.heap.size := World.block_lt_of_cell? _ _ (HCA.out 0 hab0)
  have hcd : ∀ i, i < N → w.cell? ⟨ab, ao + i, none⟩ = some (.int .i64 (l.getD i 0)) := fun i hi => Ints.cellD (n := 0) (c := 0) HCA i (by rw [hl]; exact hi)
  rw [hl] at ea ha1
  obtain ⟨db, dof, dc, ed, hdc, hd0, hd1⟩ : ∃ b off c, a0 = .slice (some ⟨b, off, none⟩) 2 c ∧ 2 ≤ c ∧ w.cell? ⟨b, off + 0, none⟩ = some (.int .i64 p) ∧ w.cell? ⟨b, off + 1, none⟩ = some (.int .i64 q) := by
    rcases ha.1.cases with ⟨e, _⟩ | ⟨b, off, c, e, h0, h1, h2, HC⟩
    · cases e
    · exact ⟨b, off, c, e, h1, HC.out 0 (by simp), HC.out 1 (by simp)⟩
  exact ⟨db, dof, dc, ab, ao, ac, ed, ea, hdc, ha1, World.block_lt_of_cell? _ _ hd0, hab, hd0, hd1, hcd⟩
theorem tok2 {p q : Nat} {l : List Int} (h : tok ([(p : Int), (q : Int)], l) = true) : 1 ≤ p ∧ p ≤ 8 ∧ 1 ≤ q ∧ q ≤ 8 ∧ l.length = p * q := by
  obtain ⟨hp1, hp8, hq1, hq8⟩ := okd2 (tok_okd h)
  refine ⟨by omega, by omega, by omega, by omega, ?_⟩
  have h := tok_len h
  have : prd [(p : Int), (q : Int)] = ((p * q : Nat) : Int) := by simp [prd]
  rw [this] at h
  exact Int.ofNat.inj h
theorem prd2 (p q : Nat) : (prd [(p : Int), (q : Int)]).toNat = p * q := by
  have : prd [(p : Int), (q : Int)] = ((p * q : Nat) : Int) := by simp [prd]
  rw [this, Int.toNat_natCast]
theorem tok2_mk {p q : Nat} {l : List Int} (hp1 : 1 ≤ p) (hp8 : p ≤ 8) (hq1 : 1 ≤ q) (hq8 : q ≤ 8) (hl : l.length = p * q) : tok ([(p : Int), (q : Int)], l) = true := by
  have ho := okd2_mk (x := p) (y := q) ⟨by omega, by omega, by omega, by omega⟩
  simp [tok, ho, hl, prd]
theorem nat2 {d : List Int} {l : List Int} (h : tok (d, l) = true) (h2 : d.length = 2) : ∃ p q : Nat, d = [(p : Int), (q : Int)] := by
  obtain ⟨x, y, rfl⟩ := two_of h2
  obtain ⟨hx1, _, hy1, _⟩ := okd2 (tok_okd h)
  exact ⟨x.toNat, y.toNat, by rw [Int.toNat_of_nonneg (by omega), Int.toNat_of_nonneg (by omega)]⟩
theorem mul64 {p q : Nat} (hp : p ≤ 8) (hq : q ≤ 8) : p * q ≤ 64 := Nat.le_trans (Nat.mul_le_mul hp hq) (by decide)
end Go.Proofs.Ytnphfepkjhlalaa
