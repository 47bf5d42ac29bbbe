/- Carried: C22. -/
import Derived.Test.YtjfkhfahpjdidaaC19
namespace Go.Proofs.Ytjfkhfahpjdidaa
set_option linter.unusedVariables false
set_option linter.unusedSimpArgs false
set_option maxRecDepth 100000

def chkJ (d p : List Int) (k j : Nat) : Bool :=
  (pok d (bump p j) == decide ((bump p j).getD j 0 < d.getD j 0)) && (!pok d (bump p j) || atV d (bump p j) == (k : Int) + stE d d.length j) && (whE d k j == rwE d k j) && (rsN d (d.length - 1 - j) == stE d d.length j)
def chkK (d : List Int) (k : Nat) : Bool :=
  pok d (whr d k) && (atV d (whr d k) == (k : Int)) && (List.range d.length).all (chkJ d (whr d k) k)
def chk_2 (d : List Int) : Bool := (List.range (prd d).toNat).all (chkK d)
def all1 : Bool := (List.range 8).all fun a => chk_2 [(a : Int) + 1]
def all2 : Bool := (List.range 8).all fun a => (List.range 8).all fun b => chk_2 [(a : Int) + 1, (b : Int) + 1]
def all3 (a : Nat) : Bool := (List.range 8).all fun b => (List.range 8).all fun c => !decide (prd [(a : Int) + 1, (b : Int) + 1, (c : Int) + 1] ≤ 64) || chk_2 [(a : Int) + 1, (b : Int) + 1, (c : Int) + 1]
theorem all1_true : all1 = true := by decide +kernel
theorem all2_true : all2 = true := by decide +kernel
theorem all3_true0 : all3 0 = true := by decide +kernel
theorem all3_true1 : all3 1 = true := by decide +kernel
theorem all3_true2 : all3 2 = true := by decide +kernel
theorem all3_true3 : all3 3 = true := by decide +kernel
theorem all3_true4 : all3 4 = true := by decide +kernel
theorem all3_true5 : all3 5 = true := by decide +kernel
theorem all3_true6 : all3 6 = true := by decide +kernel
theorem all3_true7 : all3 7 = true := by decide +kernel
theorem all3_true (a : Nat) (h : a < 8) : all3 a = true := by
  have : a = 0 ∨ a = 1 ∨ a = 2 ∨ a = 3 ∨ a = 4 ∨ a = 5 ∨ a = 6 ∨ a = 7 := by omega
  rcases this with rfl | rfl | rfl | rfl | rfl | rfl | rfl | rfl
  · exact all3_true0
  · exact all3_true1
  · exact all3_true2
  · exact all3_true3
  · exact all3_true4
  · exact all3_true5
  · exact all3_true6
  · exact all3_true7
theorem nat_of {x : Int} (h1 : 1 ≤ x) (h2 : x ≤ 8) : ∃ a : Nat, a < 8 ∧ x = (a : Int) + 1 := ⟨(x - 1).toNat, by omega, by omega⟩
theorem chk_ok {d : List Int} (h : okd d = true) : chk_2 d = true := by
  obtain ⟨h1, h2, hin, hp⟩ := okd_parts h
  match d, h1, h2, hin, hp with
  | [x], _, _, hin, _ =>
    obtain ⟨g1, g2⟩ := inr_mem hin (x := x) (by simp)
    obtain ⟨a, ha, rfl⟩ := nat_of g1 g2
    exact List.all_eq_true.1 all1_true a (List.mem_range.2 ha)
  | [x, y], _, _, hin, _ =>
    obtain ⟨g1, g2⟩ := inr_mem hin (x := x) (by simp)
    obtain ⟨g3, g4⟩ := inr_mem hin (x := y) (by simp)
    obtain ⟨a, ha, rfl⟩ := nat_of g1 g2
    obtain ⟨b, hb, rfl⟩ := nat_of g3 g4
    exact List.all_eq_true.1 (List.all_eq_true.1 all2_true a (List.mem_range.2 ha)) b (List.mem_range.2 hb)
  | [x, y, z], _, _, hin, hp =>
    obtain ⟨g1, g2⟩ := inr_mem hin (x := x) (by simp)
    obtain ⟨g3, g4⟩ := inr_mem hin (x := y) (by simp)
    obtain ⟨g5, g6⟩ := inr_mem hin (x := z) (by simp)
    obtain ⟨a, ha, rfl⟩ := nat_of g1 g2
    obtain ⟨b, hb, rfl⟩ := nat_of g3 g4
    obtain ⟨c, hc, rfl⟩ := nat_of g5 g6
    have := List.all_eq_true.1 (List.all_eq_true.1 (all3_true a ha) b (List.mem_range.2 hb)) c (List.mem_range.2 hc)
    rw [decide_eq_true hp] at this
    simpa using this
  | [], h1, _, _, _ => simp at h1
  | _ :: _ :: _ :: _ :: _, _, h2, _, _ => simp at h2
theorem chk_k {d : List Int} (h : okd d = true) (k : Nat) (hk : (k : Int) < prd d) : pok d (whr d k) = true ∧ atV d (whr d k) = k ∧ ∀ j, j < d.length → chkJ d (whr d k) k j = true := by
  have := List.all_eq_true.1 (chk_ok h) k (List.mem_range.2 (by omega))
  simp only [chkK, Bool.and_eq_true, beq_iff_eq, List.all_eq_true] at this
  exact ⟨this.1.1, this.1.2, fun j hj => this.2 j (List.mem_range.2 hj)⟩
end Go.Proofs.Ytjfkhfahpjdidaa
