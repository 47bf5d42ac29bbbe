/- Carried: C04, C05. -/
import Derived.Test.YtjfkhfahpjdidaaC03
namespace Go.Proofs.Ytjfkhfahpjdidaa
set_option linter.unusedVariables false
set_option linter.unusedSimpArgs false
set_option maxRecDepth 100000
open Go.RowKit

theorem pok_at {d p : List Int} (h : pok d p = true) (k : Nat) (hk : k < d.length) : 0 ≤ p.getD k 0 ∧ p.getD k 0 < d.getD k 0 := by
  simp only [pok, Bool.and_eq_true, List.all_eq_true] at h
  have := h.2 k (List.mem_range.2 hk)
  simpa [pin] using this
theorem pok_len {d p : List Int} (h : pok d p = true) : p.length = d.length := by
  simp only [pok, Bool.and_eq_true, decide_eq_true_eq] at h
  exact h.1
theorem pok_mk {d p : List Int} (hl : p.length = d.length) (h : ∀ k, k < d.length → 0 ≤ p.getD k 0 ∧ p.getD k 0 < d.getD k 0) : pok d p = true := by
  simp only [pok, hl, decide_true, Bool.true_and, List.all_eq_true]
  intro k hk
  have := h k (List.mem_range.1 hk)
  simpa [pin] using this
theorem aok_bad {d p : List Int} (k : Nat) (hk : k < d.length) (h : ¬ (0 ≤ p.getD k 0 ∧ p.getD k 0 < d.getD k 0)) : aok d p = false := by
  cases e : aok d p with
  | false => rfl
  | true =>
    simp only [aok, Bool.and_eq_true] at e
    exact absurd (pok_at e.2 k hk) h
theorem aok_len {d p : List Int} (h : ¬ p.length = d.length) : aok d p = false := by
  cases e : aok d p with
  | false => rfl
  | true =>
    simp only [aok, Bool.and_eq_true] at e
    exact absurd (pok_len e.2) h
theorem atN_bd {d p : List Int} (hin : inr d = true) (k : Nat) (hk : k ≤ d.length) (h : ∀ j, j < k → 0 ≤ p.getD j 0 ∧ p.getD j 0 < d.getD j 0) : 0 ≤ atN d p k ∧ atN d p k < prd (d.take k) := by
  induction k with
  | zero => exact ⟨Int.le_refl _, by simp [atN, prd]⟩
  | succ k ih =>
    obtain ⟨h1, h2⟩ := ih (by omega) fun j hj => h j (by omega)
    have hx := h k (by omega)
    have hd := inr_mem hin (List.getElem_mem (show k < d.length by omega))
    have e : d.getD k 0 = d[k] := by simp [show k < d.length by omega]
    rw [e] at hx
    rw [take_snoc d k (by omega), prd_snoc]
    show 0 ≤ atN d p k * d.getD k 0 + p.getD k 0 ∧ _ < _
    rw [atN, e]
    have h3 : 0 ≤ atN d p k * d[k] := Int.mul_nonneg h1 (by omega)
    have h4 : (atN d p k + 1) * d[k] ≤ prd (d.take k) * d[k] := Int.mul_le_mul_of_nonneg_right (by omega) (by omega)
    rw [Int.add_mul, Int.one_mul] at h4
    omega
def atE (d p : List Int) : Int := if aok d p then 0 else 1
def atR (d p : List Int) : Int := if aok d p then atV d p else 0
theorem stE_bd2 {d : List Int} (hin : inr d = true) (hl : d.length ≤ 3) (j : Nat) (hj : j < d.length) : 1 ≤ stE d d.length j ∧ stE d d.length j ≤ 64 := by
  simp only [stE, hj, if_true, List.take_length]
  have h : inr (d.drop (j + 1)) = true := by
    simp only [inr, List.all_eq_true, Bool.and_eq_true, decide_eq_true_eq] at hin ⊢
    exact fun x hx => hin x (List.mem_of_mem_drop hx)
  have := prd_lo h
  have := prd_hi h 2 (by simp; omega)
  omega
theorem whR_bd {d : List Int} (hin : inr d = true) (hl : d.length ≤ 3) {n : Int} (h0 : 0 ≤ n) (h1 : n < 64) (k : Nat) (hk : k ≤ d.length) : 0 ≤ whR d n k ∧ whR d n k < 64 := by
  induction k with
  | zero => exact ⟨h0, h1⟩
  | succ k ih =>
    obtain ⟨s1, s2⟩ := stE_bd2 hin hl k (by omega)
    rw [whR]
    have := Int.emod_nonneg (whR d n k) (b := stE d d.length k) (by omega)
    have := Int.emod_lt_of_pos (whR d n k) (b := stE d d.length k) (by omega)
    omega
theorem whA_length (d : List Int) (n : Int) (k : Nat) : (whA d n k).length = d.length := by simp [whA]
theorem whr_length (d : List Int) (n : Int) : (whr d n).length = d.length := by simp [whr]
theorem whA_zero (d : List Int) (n : Int) : whA d n 0 = zer d.length := by
  apply List.ext_getElem
  · simp [whA, zer]
  · intro i h1 h2
    simp [whA, zer]
theorem whA_all (d : List Int) (n : Int) : whA d n d.length = whr d n := by
  apply List.ext_getElem
  · simp [whA, whr]
  · intro i h1 h2
    have : i < d.length := by simpa [whA] using h1
    simp [whA, whr, this]
theorem whA_set (d : List Int) (n : Int) (k : Nat) : (whA d n k).set k (whE d n k) = whA d n (k + 1) := by
  apply List.ext_getElem
  · simp [whA]
  · intro i h1 h2
    simp only [List.getElem_set, whA, List.getElem_map, List.getElem_range]
    by_cases e : k = i
    · subst e; simp
    · rw [if_neg e]
      by_cases h : i < k
      · simp [h, show i < k + 1 from by omega]
      · simp [h, show ¬ i < k + 1 from by omega]
theorem stp_get (d : List Int) (k : Nat) (h : k < (stp d).length) : (stp d)[k] = stE d d.length k := by simp [stp, stA]
theorem stp_length (d : List Int) : (stp d).length = d.length := by simp [stp, stA]
theorem nx (w : World) (s : ByteArray) (k : Nat) (h : k < s.size) (x : Int) (hx : (s[k].toNat : Int) = x) (h1 : s[k].toNat < 128) (ty : TypeId) :
    (Instr.next (.pointer (some ⟨w.heap.size, 0, none⟩)) true ty).run Try.prog (w.iter s k) = .ok (.tuple #[.bool true, .int .i64 k, .int .i32 x]) (w.iter s (k + 1)) := by
  subst hx
  rw [run_next_ascii w s k ty h h1]
/-- What a text of deeds does to two numbers. -/
def Deed (s : ByteArray) (op : Int → Int → Int) : Prop := ∀ (x y : Int) (w : World),
  Calls Try.prog 82 #[.string s, .int .i64 x, .int .i64 y] w fun e w' => e = .returned (.int .i64 (op x y)) ∧ Below w.heap.size w w'
set_option maxHeartbeats 400000 in
theorem deed_add : Deed ⟨#[43]⟩ (fun x y => wrap64 (x + y)) := by
  intro x y w
  have h0 := fun ty => nx w ⟨#[43]⟩ 0 (by decide) 43 (by decide) (by decide) ty
  have h1 := fun ty => run_next_end (P := Try.prog) w ⟨#[43]⟩ 1 ty (by decide)
  go_enter Try.func82, Try.ntmps82
  go_wp2
  refine wp_loop_rounds 2 ?_
  rw [rounds_succ]
  go_wp2
  rw [rounds_succ]
  go_wp2
  go_ret
  exact ⟨rfl, (Below.refl _ _).alloc (Nat.le_refl _) _⟩
set_option maxHeartbeats 400000 in
theorem deed_neg : Deed ⟨#[45]⟩ (fun x y => wrap64 (-y)) := by
  intro x y w
  have h0 := fun ty => nx w ⟨#[45]⟩ 0 (by decide) 45 (by decide) (by decide) ty
  have h1 := fun ty => run_next_end (P := Try.prog) w ⟨#[45]⟩ 1 ty (by decide)
  go_enter Try.func82, Try.ntmps82
  go_wp2
  refine wp_loop_rounds 2 ?_
  rw [rounds_succ]
  go_wp2
  rw [rounds_succ]
  go_wp2
  go_ret
  exact ⟨rfl, (Below.refl _ _).alloc (Nat.le_refl _) _⟩
set_option maxHeartbeats 400000 in
theorem deed_mul : Deed ⟨#[42]⟩ (fun x y => wrap64 (x * y)) := by
  intro x y w
  have h0 := fun ty => nx w ⟨#[42]⟩ 0 (by decide) 42 (by decide) (by decide) ty
  have h1 := fun ty => run_next_end (P := Try.prog) w ⟨#[42]⟩ 1 ty (by decide)
  go_enter Try.func82, Try.ntmps82
  go_wp2
  refine wp_loop_rounds 2 ?_
  rw [rounds_succ]
  go_wp2
  rw [rounds_succ]
  go_wp2
  go_ret
  exact ⟨rfl, (Below.refl _ _).alloc (Nat.le_refl _) _⟩
set_option maxHeartbeats 400000 in
theorem deed_sub : Deed ⟨#[45, 43]⟩ (fun x y => wrap64 (x + wrap64 (-y))) := by
  intro x y w
  have h0 := fun ty => nx w ⟨#[45, 43]⟩ 0 (by decide) 45 (by decide) (by decide) ty
  have h1 := fun ty => nx w ⟨#[45, 43]⟩ 1 (by decide) 43 (by decide) (by decide) ty
  have h2 := fun ty => run_next_end (P := Try.prog) w ⟨#[45, 43]⟩ 2 ty (by decide)
  go_enter Try.func82, Try.ntmps82
  go_wp2
  refine wp_loop_rounds 3 ?_
  rw [rounds_succ]
  go_wp2
  rw [rounds_succ]
  go_wp2
  rw [rounds_succ]
  go_wp2
  go_ret
  exact ⟨rfl, (Below.refl _ _).alloc (Nat.le_refl _) _⟩
/-- A list of integers that a call has made: in blocks from B on, free to be written. -/
structure Own (w : World) (B : Nat) (v : Value) (d : List Int) : Prop where
  row : w.ownsRow B 3 1 v d.length (d.map (Value.int .i64))
  len : d.length ≤ big
theorem Own.ints {w : World} {B : Nat} {v : Value} {d : List Int} (h : Own w B v d) : Ints w v d := own_ints rfl h.row h.len
theorem Own.frm {w : World} {B : Nat} {v : Value} {d : List Int} (h : Own w B v d) : From B v := fun k hk => (h.row.lt k hk).1
theorem Own.lt {w : World} {B : Nat} {v : Value} {d : List Int} (h : Own w B v d) : ∀ k, v.ownBlock = some k → k < w.heap.size := fun k hk => (h.row.lt k hk).2
theorem Own.nil (w : World) (B : Nat) : Own w B (.slice none 0 0) [] := ⟨World.ownsRow_nil _ _ _ _, Nat.zero_le _⟩
theorem Own.at {w w' : World} {B : Nat} {v : Value} {d : List Int} (h : Own w B v d) (hk : ∀ k, v.ownBlock = some k → w'.heap[k]? = w.heap[k]?) : Own w' B v d := by
  refine ⟨⟨h.row.1, ?_⟩, h.len⟩
  rcases h.row.2 with h0 | ⟨g, cap, cur, rfl, hb, hh, h1, h2, h3, h4⟩
  · exact Or.inl h0
  · exact Or.inr ⟨g, cap, cur, rfl, hb, (hk g rfl).trans hh, h1, h2, h3, h4⟩
theorem Own.later {w w' : World} {B : Nat} {v : Value} {d : List Int} (hb : Below w.heap.size w w') (h : Own w B v d) : Own w' B v d :=
  h.at fun k hk => hb.block k (h.lt k hk)
theorem Own.mono {w : World} {B B' : Nat} {v : Value} {d : List Int} (h : Own w B v d) (hB : B' ≤ B) : Own w B' v d := ⟨Joins.ownsRow_le h.row hB, h.len⟩
theorem Own.setCell {w : World} {B : Nat} {v : Value} {d : List Int} (h : Own w B v d) (p : Addr) (u : Value) (hp : ∀ k, v.ownBlock = some k → k ≠ p.block) : Own (w.setCell p u) B v d :=
  h.at fun k hk => Below.heap_setCell _ _ _ _ (hp k hk)
theorem Blk.own {w : World} {b B n : Nat} {xs : List Int} (h : Blk w b xs) (hB : B ≤ b) (hn : n = xs.length) (hl : xs.length ≤ big) : Own w B (.slice (some ⟨b, 0, none⟩) n n) xs := by
  subst hn
  refine ⟨⟨by simp, Or.inr ⟨b, xs.length, ia xs, rfl, hB, h, Nat.le_refl _, ?_, ?_, ?_⟩⟩, hl⟩
  · exact Nat.le_trans hl big_max
  · simp [ia_size]
  · simp [ia, List.take_of_length_le]
/-- A tensor that a call has made. -/
structure OwnT (w : World) (B : Nat) (v0 v1 : Value) (t : List Int × List Int) : Prop where
  dims : Own w B v0 t.1
  data : Own w B v1 t.2
  apart : ∀ k, v0.ownBlock = some k → v1.ownBlock ≠ some k
theorem OwnT.later {w w' : World} {B : Nat} {v0 v1 : Value} {t : List Int × List Int} (hb : Below w.heap.size w w') (h : OwnT w B v0 v1 t) : OwnT w' B v0 v1 t := ⟨h.dims.later hb, h.data.later hb, h.apart⟩
theorem OwnT.mono {w : World} {B B' : Nat} {v0 v1 : Value} {t : List Int × List Int} (h : OwnT w B v0 v1 t) (hB : B' ≤ B) : OwnT w B' v0 v1 t := ⟨h.dims.mono hB, h.data.mono hB, h.apart⟩
theorem OwnT.nil (w : World) (B : Nat) : OwnT w B (.slice none 0 0) (.slice none 0 0) ([], []) := ⟨Own.nil _ _, Own.nil _ _, fun k hk => by simp [Value.ownBlock] at hk⟩
theorem Tens.later {w w' : World} {v0 v1 : Value} {t : List Int × List Int} (hb : Below w.heap.size w w') (h : Tens w v0 v1 t) : Tens w' v0 v1 t := ⟨h.1.later hb, h.2.later hb⟩
theorem OwnT.setCell {w : World} {B : Nat} {v0 v1 : Value} {t : List Int × List Int} (h : OwnT w B v0 v1 t) (p : Addr) (u : Value) (hp : p.block < B) : OwnT (w.setCell p u) B v0 v1 t :=
  ⟨h.dims.setCell p u fun k hk => by have := h.dims.frm k hk; omega, h.data.setCell p u fun k hk => by have := h.data.frm k hk; omega, h.apart⟩
/-- A box with two values. -/
def Box (w : World) (B : Nat) (x y : Value) : Prop := w.heap[B]? = some (.cells #[x, y] 70 (0, 0))
theorem Box.c0 {w : World} {B : Nat} {x y : Value} (h : Box w B x y) : w.cell? ⟨B, 0, none⟩ = some x := by rw [cell_of_row w B 0 _ 70 (0, 0) h]; rfl
theorem Box.c1 {w : World} {B : Nat} {x y : Value} (h : Box w B x y) : w.cell? ⟨B, 1, none⟩ = some y := by rw [cell_of_row w B 1 _ 70 (0, 0) h]; rfl
theorem Box.f {w : World} {B : Nat} {x y : Value} (h : Box w B x y) (j : Nat) : w.frozen? ⟨B, j, none⟩ = false := frozen_of_row w B j _ 70 h
theorem Box.lt {w : World} {B : Nat} {x y : Value} (h : Box w B x y) : B < w.heap.size := (Array.getElem?_eq_some_iff.1 h).1
theorem Box.later {w w' : World} {B : Nat} {x y : Value} (hb : Below w.heap.size w w') (h : Box w B x y) : Box w' B x y := (hb.block B h.lt).trans h
theorem Box.new (w : World) (x y : Value) : Box (w.alloc (.cells #[x, y] 70)) w.heap.size x y := heap_alloc_new w _
theorem Box.set {w : World} {B : Nat} {x y : Value} (h : Box w B x y) (u v : Value) : Box ((w.setCell ⟨B, 0, none⟩ u).setCell ⟨B, 1, none⟩ v) B u v := by
  have h1 := heap_setCell_same w B 0 _ 70 u h
  have h2 := heap_setCell_same _ B 1 _ 70 v h1
  show _ = _
  rw [h2]
  rfl
theorem Box.other {w : World} {B : Nat} {x y : Value} (h : Box w B x y) (p : Addr) (u : Value) (hp : B ≠ p.block) : Box (w.setCell p u) B x y := (Below.heap_setCell w p u B hp).trans h
theorem Box.alloc {w : World} {B : Nat} {x y : Value} (h : Box w B x y) (o : Obj) : Box (w.alloc o) B x y := (Below.heap_alloc w o B h.lt).trans h
abbrev Ten := List Int × List Int
def fitE (s t : Ten) : Int := if tok s && tok t then (if s.1 == t.1 then 0 else 4) else 1
theorem tok_okd {t : Ten} (h : tok t = true) : okd t.1 = true := by
  simp only [tok, Bool.and_eq_true] at h
  exact h.1
theorem tok_len {t : Ten} (h : tok t = true) : (t.2.length : Int) = prd t.1 := by
  simp only [tok, Bool.and_eq_true, decide_eq_true_eq] at h
  exact h.2
theorem tensor_to {v0 v1 : Value} {t : Ten} {w : World} (x : Int) (h : Tens w v0 v1 t) (hx : tkE t = x) :
    Calls Try.prog 69 #[.agg #[v0, v1]] w fun e w' => e = .returned (.int .i64 x) ∧ Below w.heap.size w w' := by
  subst hx
  exact tensor_any h
theorem same_to {v v' : Value} {a b : List Int} {w : World} (x : Bool) (y : Int) (ha : Ints w v a) (hb : Ints w v' b) (hx : smB a b = x) (hy : smE a b = y) :
    Calls Try.prog 79 #[v, v'] w fun e w' => e = .returned (.tuple #[.bool x, .int .i64 y]) ∧ w = w' := by
  subst hx hy
  exact same_any ha hb
set_option maxHeartbeats 1000000 in
theorem fit_any {a0 a1 b0 b1 : Value} {s t : Ten} {w : World} (ha : Tens w a0 a1 s) (hb' : Tens w b0 b1 t) :
    Calls Try.prog 81 #[.agg #[a0, a1], .agg #[b0, b1]] w fun e w' => e = .returned (.int .i64 (fitE s t)) ∧ Below w.heap.size w w' := by
  have hb : Below w.heap.size w ((w.alloc (.cells #[a0, a1] 70)).alloc (.cells #[b0, b1] 70)) := ((Below.refl _ _).alloc (Nat.le_refl _) _).alloc (by simp) _
  have HA : Hid (Tens ((w.alloc (.cells #[a0, a1] 70)).alloc (.cells #[b0, b1] 70)) a0 a1 s) := ha.later hb
  have HT : Hid (Tens ((w.alloc (.cells #[a0, a1] 70)).alloc (.cells #[b0, b1] 70)) b0 b1 t) := hb'.later hb
  have HB : Hid (Below w.heap.size w ((w.alloc (.cells #[a0, a1] 70)).alloc (.cells #[b0, b1] 70))) := hb
  clear ha hb' hb
  cases hs : tok s with
  | false =>
    have HF : Hid (fitE s t = 1) := by show _ = _; simp [fitE, hs]
    have HS : Hid (tkE s = 1) := by show _ = _; simp [tkE, hs]
    clear hs
    go_enter Try.func81, Try.ntmps81
    go_wp2
    refine wp_scope_jumps 0 (fun a' w' => Below w.heap.size w w' ∧ ∃ (u0 u1 u2 u3 u4 u5 u6 u7 u8 u9 u10 u11 u12 u13 u14 u15 u16 u17 u18 u19 u20 u21 u22 u23 : Value), a' = { tmps := #[u0, u1, u2, u3, u4, u5, u6, u7, u8, u9, u10, u11, u12, u13, u14, u15, u16, u17, u18, u19, u20, u21, u22, u23], defers := [] }) (fun _ _ => 0) rfl ?_ ?_
    · go_wp2_with fail
      refine (tensor_to 1 HA.out HS.out).mono ?_
      rintro e w1 ⟨rfl, hb1⟩
      have HB1 : Hid (Below w.heap.size w w1) := Below.after HB.out hb1
      clear hb1
      go_wp2
      go_step3
      exact ⟨rfl, HB1.out, _, _, _, _, _, _, _, _, _, _, _, _, _, _, _, _, _, _, _, _, _, _, _, _, rfl⟩
    · rintro a w' ⟨hbj, u0, u1, u2, u3, u4, u5, u6, u7, u8, u9, u10, u11, u12, u13, u14, u15, u16, u17, u18, u19, u20, u21, u22, u23, rfl⟩
      have HBJ : Hid (Below w.heap.size w w') := hbj
      clear hbj
      go_wp2
      rw [jump_ret]
      go_ret
      exact ⟨by rw [HF.out]; rfl, HBJ.out⟩
  | true =>
    have HS : Hid (tkE s = 0) := by show _ = _; simp [tkE, hs]
    cases ht : tok t with
    | false =>
      have HF : Hid (fitE s t = 1) := by show _ = _; simp [fitE, hs, ht]
      have HT2 : Hid (tkE t = 1) := by show _ = _; simp [tkE, ht]
      clear hs ht
      go_enter Try.func81, Try.ntmps81
      go_wp2
      refine wp_scope_jumps 0 (fun a' w' => Below w.heap.size w w' ∧ ∃ (u0 u1 u2 u3 u4 u5 u6 u7 u8 u9 u10 u11 u12 u13 u14 u15 u16 u17 u18 u19 u20 u21 u22 u23 : Value), a' = { tmps := #[u0, u1, u2, u3, u4, u5, u6, u7, u8, u9, u10, u11, u12, u13, u14, u15, u16, u17, u18, u19, u20, u21, u22, u23], defers := [] }) (fun _ _ => 0) rfl ?_ ?_
      · go_wp2_with fail
        refine (tensor_to 0 HA.out HS.out).mono ?_
        rintro e w1 ⟨rfl, hb1⟩
        have hc0 : w1.cell? ⟨w.heap.size + 1, 0, none⟩ = some b0 := cell_later hb1 (by simp)
        have hc1 : w1.cell? ⟨w.heap.size + 1, 1, none⟩ = some b1 := cell_later hb1 (by simp)
        have HB1 : Hid (Below w.heap.size w w1) := Below.after HB.out hb1
        have HTL : Hid (Tens w1 b0 b1 t) := HT.out.later hb1
        clear hb1
        go_wp2_with fail
        refine (tensor_to 1 HTL.out HT2.out).mono ?_
        rintro e w2 ⟨rfl, hb2⟩
        have HB2 : Hid (Below w.heap.size w w2) := Below.after HB1.out hb2
        clear hb2
        go_wp2
        go_step3
        exact ⟨rfl, HB2.out, _, _, _, _, _, _, _, _, _, _, _, _, _, _, _, _, _, _, _, _, _, _, _, _, rfl⟩
      · rintro a w' ⟨hbj, u0, u1, u2, u3, u4, u5, u6, u7, u8, u9, u10, u11, u12, u13, u14, u15, u16, u17, u18, u19, u20, u21, u22, u23, rfl⟩
        have HBJ : Hid (Below w.heap.size w w') := hbj
        clear hbj
        go_wp2
        rw [jump_ret]
        go_ret
        exact ⟨by rw [HF.out]; rfl, HBJ.out⟩
    | true =>
      have HT2 : Hid (tkE t = 0) := by show _ = _; simp [tkE, ht]
      have hso := tok_okd hs
      have hto := tok_okd ht
      have HE : Hid (smE s.1 t.1 = 0) := by show _ = _; simp [smE, hso, hto]
      by_cases hd : s.1 = t.1
      · have HF : Hid (fitE s t = 0) := by show _ = _; simp [fitE, hs, ht, hd]
        have HSB : Hid (smB s.1 t.1 = true) := by show _ = _; simp [smB, hso, hto, hd]
        clear hs ht hso hto hd
        go_enter Try.func81, Try.ntmps81
        go_wp2
        refine wp_scope_jumps 0 (fun _ _ => False) (fun _ _ => 0) rfl ?_ (fun _ _ h => h.elim)
        go_wp2_with fail
        refine (tensor_to 0 HA.out HS.out).mono ?_
        rintro e w1 ⟨rfl, hb1⟩
        have hc0 : w1.cell? ⟨w.heap.size + 1, 0, none⟩ = some b0 := cell_later hb1 (by simp)
        have hc1 : w1.cell? ⟨w.heap.size + 1, 1, none⟩ = some b1 := cell_later hb1 (by simp)
        have hc2 : w1.cell? ⟨w.heap.size, 0, none⟩ = some a0 := cell_later hb1 (by simp)
        have HB1 : Hid (Below w.heap.size w w1) := Below.after HB.out hb1
        have HTL : Hid (Tens w1 b0 b1 t) := HT.out.later hb1
        have HAL : Hid (Tens w1 a0 a1 s) := HA.out.later hb1
        clear hb1
        go_wp2_with fail
        refine (tensor_to 0 HTL.out HT2.out).mono ?_
        rintro e w2 ⟨rfl, hb2⟩
        have hd0 : w2.cell? ⟨w.heap.size + 1, 0, none⟩ = some b0 := cell_later hb2 hc0
        have hd2 : w2.cell? ⟨w.heap.size, 0, none⟩ = some a0 := cell_later hb2 hc2
        have HB2 : Hid (Below w.heap.size w w2) := Below.after HB1.out hb2
        have HT3 : Hid (Tens w2 b0 b1 t) := HTL.out.later hb2
        have HA3 : Hid (Tens w2 a0 a1 s) := HAL.out.later hb2
        clear hb2
        go_wp2_with fail
        refine (same_to true 0 HA3.out.1 HT3.out.1 HSB.out HE.out).mono ?_
        rintro e w3 ⟨rfl, rfl⟩
        go_wp2
        rw [jump_ret]
        go_ret
        exact ⟨by rw [HF.out]; rfl, HB2.out⟩
      · have HF : Hid (fitE s t = 4) := by show _ = _; simp [fitE, hs, ht, hd]
        have HSB : Hid (smB s.1 t.1 = false) := by show _ = _; simp [smB, hso, hto, hd]
        clear hs ht hso hto hd
        go_enter Try.func81, Try.ntmps81
        go_wp2
        refine wp_scope_jumps 1 (fun a' w' => Below w.heap.size w w' ∧ ∃ (u0 u1 u2 u3 u4 u5 u6 u7 u8 u9 u10 u11 u12 u13 u14 u15 u16 u17 u18 u19 u20 u21 u22 u23 : Value), a' = { tmps := #[u0, u1, u2, u3, u4, u5, u6, u7, u8, u9, u10, u11, u12, u13, u14, u15, u16, u17, u18, u19, u20, u21, u22, u23], defers := [] }) (fun _ _ => 0) rfl ?_ ?_
        · go_wp2_with fail
          refine (tensor_to 0 HA.out HS.out).mono ?_
          rintro e w1 ⟨rfl, hb1⟩
          have hc0 : w1.cell? ⟨w.heap.size + 1, 0, none⟩ = some b0 := cell_later hb1 (by simp)
          have hc1 : w1.cell? ⟨w.heap.size + 1, 1, none⟩ = some b1 := cell_later hb1 (by simp)
          have hc2 : w1.cell? ⟨w.heap.size, 0, none⟩ = some a0 := cell_later hb1 (by simp)
          have HB1 : Hid (Below w.heap.size w w1) := Below.after HB.out hb1
          have HTL : Hid (Tens w1 b0 b1 t) := HT.out.later hb1
          have HAL : Hid (Tens w1 a0 a1 s) := HA.out.later hb1
          clear hb1
          go_wp2_with fail
          refine (tensor_to 0 HTL.out HT2.out).mono ?_
          rintro e w2 ⟨rfl, hb2⟩
          have hd0 : w2.cell? ⟨w.heap.size + 1, 0, none⟩ = some b0 := cell_later hb2 hc0
          have hd2 : w2.cell? ⟨w.heap.size, 0, none⟩ = some a0 := cell_later hb2 hc2
          have HB2 : Hid (Below w.heap.size w w2) := Below.after HB1.out hb2
          have HT3 : Hid (Tens w2 b0 b1 t) := HTL.out.later hb2
          have HA3 : Hid (Tens w2 a0 a1 s) := HAL.out.later hb2
          clear hb2
          go_wp2_with fail
          refine (same_to false 0 HA3.out.1 HT3.out.1 HSB.out HE.out).mono ?_
          rintro e w3 ⟨rfl, rfl⟩
          go_wp2
          go_step3
          exact ⟨rfl, HB2.out, _, _, _, _, _, _, _, _, _, _, _, _, _, _, _, _, _, _, _, _, _, _, _, _, rfl⟩
        · rintro a w' ⟨hbj, u0, u1, u2, u3, u4, u5, u6, u7, u8, u9, u10, u11, u12, u13, u14, u15, u16, u17, u18, u19, u20, u21, u22, u23, rfl⟩
          have HBJ : Hid (Below w.heap.size w w') := hbj
          clear hbj
          go_wp2
          rw [jump_ret]
          go_ret
          exact ⟨by rw [HF.out]; rfl, HBJ.out⟩
set_option maxHeartbeats 400000 in
theorem clone_own {v : Value} {d : List Int} {w : World} (h : Ints w v d) (h1 : 1 ≤ d.length) :
    Calls Try.prog 46 #[v] w fun e w' => ∃ v', e = .returned v' ∧ Own w' w.heap.size v' d ∧ Below w.heap.size w w' := by
  have hl := h.len
  rcases h.cases with ⟨rfl, a1, c1, rfl⟩ | ⟨b, off, c, rfl, h0, h2, h3, HC⟩
  · simp only [List.length_nil] at h1; omega
  obtain ⟨i3, hi, hz0, hz1, hz2⟩ := info3
  have HI : Hid (Try.prog.info? 3 = some i3) := hi
  have HZ0 : Hid (i3.zero = some (.int .i64 0)) := hz0
  have HZ1 : Hid (i3.size = 1) := hz1
  have HZ2 : Hid (i3.bytes = 8) := hz2
  have hnil := fun w => Lib.run_eql_slice_nil (P := Try.prog) w 23 3 (some ⟨b, off, none⟩) d.length c 0 0 Try.underlying23
  have HL : Hid (d.length ≤ big) := hl
  clear h hi hz0 hz1 hz2 h3
  unfold big at hl
  go_enter Try.func46, Try.ntmps46
  go_wp2_with (at_builtin; refine wpList_append_own _ rfl _ _ 23 rfl w.heap.size 3 i3 (.int .i64 0) 1 8 Try.underlying23 HI.out HZ0.out HZ1.out HZ2.out rfl (by decide) _ _ _ rfl (World.ownsRow_made w #[] 0 (Nat.le_refl _) (Nat.zero_le _) rfl) ⟨b, off, none⟩ d.length c (d.map (Value.int .i64)) rfl ?c0 ?c1 ?c2 ?c3 ?c4 ?c5 ?_)
  case c0 => simp
  case c1 => exact news_cells (fun i h => cell_later ((Below.refl _ _).alloc (Nat.le_refl _) _) (HC.out i h))
  case c2 => exact ints_one d
  case c3 => unfold maxLen; omega
  case c4 => omega
  case c5 => simp
  intro v1 w1 ho hg _
  have HO : Hid (Own w1 w.heap.size v1 d) := ⟨by simpa using ho, HL.out⟩
  have HB : Hid (Below w.heap.size w w1) := ((Below.refl _ _).alloc (Nat.le_refl _) _).grown hg (by simp) (by intro k hk; simp [Value.ownBlock] at hk; omega)
  clear ho hg
  go_wp2
  go_ret
  exact ⟨_, rfl, HO.out, HB.out⟩
/-- F's answers, the first j of n laid. -/
def lay (F : Nat → Int) (n j : Nat) : List Int := (List.range n).map fun i => if i < j then F i else 0
theorem lay_length (F : Nat → Int) (n j : Nat) : (lay F n j).length = n := by simp [lay]
theorem lay_zero (F : Nat → Int) (n : Nat) : lay F n 0 = zer n := by
  apply List.ext_getElem
  · simp [lay, zer]
  · intro i h1 h2; simp [lay, zer]
theorem lay_set (F : Nat → Int) (n j : Nat) : (lay F n j).set j (F j) = lay F n (j + 1) := by
  apply List.ext_getElem
  · simp [lay]
  · intro i h1 h2
    simp only [List.getElem_set, lay, List.getElem_map, List.getElem_range]
    by_cases e : j = i
    · subst e; simp
    · rw [if_neg e]
      by_cases h : i < j
      · simp [h, show i < j + 1 from by omega]
      · simp [h, show ¬ i < j + 1 from by omega]
theorem lay_all (F : Nat → Int) (n : Nat) : lay F n n = (List.range n).map F := by
  apply List.ext_getElem
  · simp [lay]
  · intro i h1 h2
    have : i < n := by simpa [lay] using h1
    simp [lay, this]
theorem lay_zip (op : Int → Int → Int) (a b : List Int) (n : Nat) (ha : a.length = n) (hb : b.length = n) : lay (fun i => op (a.getD i 0) (b.getD i 0)) n n = List.zipWith op a b := by
  rw [lay_all]
  apply List.ext_getElem
  · simp; omega
  · intro i h1 h2
    have : i < n := by simpa using h1
    simp [ha, hb, this]
def eachR (op : Int → Int → Int) (s t : Ten) : Ten := if fitE s t = 0 then (s.1, List.zipWith op s.2 t.2) else ([], [])
theorem fit_zero {s t : Ten} (h : fitE s t = 0) : tok s = true ∧ tok t = true ∧ s.1 = t.1 := by
  cases hs : tok s with
  | false => simp [fitE, hs] at h
  | true =>
    cases ht : tok t with
    | false => simp [fitE, hs, ht] at h
    | true =>
      refine ⟨rfl, rfl, ?_⟩
      by_cases e : s.1 = t.1
      · exact e
      · simp [fitE, hs, ht, e] at h
theorem fit_to {a0 a1 b0 b1 : Value} {s t : Ten} {w : World} (x : Int) (ha : Tens w a0 a1 s) (hb' : Tens w b0 b1 t) (hx : fitE s t = x) :
    Calls Try.prog 81 #[.agg #[a0, a1], .agg #[b0, b1]] w fun e w' => e = .returned (.int .i64 x) ∧ Below w.heap.size w w' := by
  subst hx
  exact fit_any ha hb'
set_option maxHeartbeats 1000000 in
theorem each_bad {deeds : ByteArray} {a0 a1 b0 b1 : Value} {s t : Ten} {w : World} (ha : Tens w a0 a1 s) (hb' : Tens w b0 b1 t) (x : Int) (hx : fitE s t = x) (hx0 : (x != 0) = true) :
    Calls Try.prog 68 #[.string deeds, .agg #[a0, a1], .agg #[b0, b1]] w fun e w' => e = .returned (.tuple #[.agg #[.slice none 0 0, .slice none 0 0], .int .i64 x]) ∧ Below w.heap.size w w' := by
  have hb : Below w.heap.size w (((w.alloc (.cells #[a0, a1] 70)).alloc (.cells #[b0, b1] 70)).alloc (.cells #[.slice none 0 0, .slice none 0 0] 70)) := (((Below.refl _ _).alloc (Nat.le_refl _) _).alloc (by simp) _).alloc (by simp; omega) _
  have HA : Hid (Tens (((w.alloc (.cells #[a0, a1] 70)).alloc (.cells #[b0, b1] 70)).alloc (.cells #[.slice none 0 0, .slice none 0 0] 70)) a0 a1 s) := ha.later hb
  have HT : Hid (Tens (((w.alloc (.cells #[a0, a1] 70)).alloc (.cells #[b0, b1] 70)).alloc (.cells #[.slice none 0 0, .slice none 0 0] 70)) b0 b1 t) := hb'.later hb
  have HB : Hid (Below w.heap.size w (((w.alloc (.cells #[a0, a1] 70)).alloc (.cells #[b0, b1] 70)).alloc (.cells #[.slice none 0 0, .slice none 0 0] 70))) := hb
  have HBX : Hid (Box (((w.alloc (.cells #[a0, a1] 70)).alloc (.cells #[b0, b1] 70)).alloc (.cells #[.slice none 0 0, .slice none 0 0] 70)) (w.heap.size + 1 + 1) (.slice none 0 0) (.slice none 0 0)) := by
    have := Box.new ((w.alloc (.cells #[a0, a1] 70)).alloc (.cells #[b0, b1] 70)) (.slice none 0 0) (.slice none 0 0)
    simp only [World.size_alloc] at this
    exact this
  have HX : Hid (fitE s t = x) := hx
  clear ha hb' hb hx
  go_enter Try.func68, Try.ntmps68
  go_wp2_with fail
  refine (fit_to x HA.out HT.out HX.out).mono ?_
  rintro e w1 ⟨rfl, hb1⟩
  have HB1 : Hid (Below w.heap.size w w1) := Below.after HB.out hb1
  have hbx := HBX.out.later hb1
  have hx0' := hbx.c0
  have hx1 := hbx.c1
  have hf0 := hbx.f 0
  have hf1 := hbx.f 1
  have HBS : Hid (Box _ _ _ _) := hbx.set (.slice none 0 0) (.slice none 0 0)
  clear hb1 hbx
  go_wp2
  have hr0 := HBS.out.c0
  have hr1 := HBS.out.c1
  exact bodyPost_ret (v := .tuple #[.agg #[.slice none 0 0, .slice none 0 0], .int .i64 x]) (by simp [results, Try.results68, go_sem, hr0, hr1]) rfl ⟨rfl, (HB1.out.setCell (by simp; omega) _).setCell (by simp; omega) _⟩
set_option maxHeartbeats 2000000 in
theorem each_ok {deeds : ByteArray} {op : Int → Int → Int} (HD : Hid (Deed deeds op)) {a0 a1 b0 b1 : Value} {s t : Ten} {w : World} (ha : Tens w a0 a1 s) (hb' : Tens w b0 b1 t) (hx : fitE s t = 0) :
    Calls Try.prog 68 #[.string deeds, .agg #[a0, a1], .agg #[b0, b1]] w fun e w' => ∃ x0 x1, e = .returned (.tuple #[.agg #[x0, x1], .int .i64 0]) ∧ OwnT w' w.heap.size x0 x1 (s.1, List.zipWith op s.2 t.2) ∧ Below w.heap.size w w' := by
  obtain ⟨hs, ht, hd⟩ := fit_zero hx
  have hpo := okd_parts (tok_okd hs)
  have hp1 := prd_lo hpo.2.2.1
  have hl1 := tok_len hs
  have hl2 := tok_len ht
  rw [← hd] at hl2
  obtain ⟨n, hn⟩ : ∃ n : Nat, s.2.length = n := ⟨_, rfl⟩
  have hn2 : t.2.length = n := by omega
  have hn1 : 1 ≤ n := by omega
  have hn64 : n ≤ 64 := by omega
  have HN : Hid (s.2.length = n) := hn
  have HN2 : Hid (t.2.length = n) := hn2
  have HD1 : Hid (1 ≤ s.1.length) := hpo.1
  have hb : Below w.heap.size w (((w.alloc (.cells #[a0, a1] 70)).alloc (.cells #[b0, b1] 70)).alloc (.cells #[.slice none 0 0, .slice none 0 0] 70)) := (((Below.refl _ _).alloc (Nat.le_refl _) _).alloc (by simp) _).alloc (by simp; omega) _
  have HA : Hid (Tens (((w.alloc (.cells #[a0, a1] 70)).alloc (.cells #[b0, b1] 70)).alloc (.cells #[.slice none 0 0, .slice none 0 0] 70)) a0 a1 s) := ha.later hb
  have HT : Hid (Tens (((w.alloc (.cells #[a0, a1] 70)).alloc (.cells #[b0, b1] 70)).alloc (.cells #[.slice none 0 0, .slice none 0 0] 70)) b0 b1 t) := hb'.later hb
  have HB : Hid (Below w.heap.size w (((w.alloc (.cells #[a0, a1] 70)).alloc (.cells #[b0, b1] 70)).alloc (.cells #[.slice none 0 0, .slice none 0 0] 70))) := hb
  have HBX : Hid (Box (((w.alloc (.cells #[a0, a1] 70)).alloc (.cells #[b0, b1] 70)).alloc (.cells #[.slice none 0 0, .slice none 0 0] 70)) (w.heap.size + 1 + 1) (.slice none 0 0) (.slice none 0 0)) := by
    have := Box.new ((w.alloc (.cells #[a0, a1] 70)).alloc (.cells #[b0, b1] 70)) (.slice none 0 0) (.slice none 0 0)
    simp only [World.size_alloc] at this
    exact this
  have HBA : Hid (Box (((w.alloc (.cells #[a0, a1] 70)).alloc (.cells #[b0, b1] 70)).alloc (.cells #[.slice none 0 0, .slice none 0 0] 70)) w.heap.size a0 a1) := ((Box.new w a0 a1).alloc _).alloc _
  have HBB : Hid (Box (((w.alloc (.cells #[a0, a1] 70)).alloc (.cells #[b0, b1] 70)).alloc (.cells #[.slice none 0 0, .slice none 0 0] 70)) (w.heap.size + 1) b0 b1) := by
    have := (Box.new (w.alloc (.cells #[a0, a1] 70)) b0 b1).alloc (.cells #[.slice none 0 0, .slice none 0 0] 70)
    simp only [World.size_alloc] at this
    exact this
  have HX : Hid (fitE s t = 0) := hx
  rcases ha.2.cases with ⟨e, _⟩ | ⟨ab, ao, ac, ea, _, ha1, _, HCA⟩
  · rw [e] at hn; simp at hn; omega
  rcases hb'.2.cases with ⟨e, _⟩ | ⟨bb, bo, bc, eb, _, hb1, _, HCB⟩
  · rw [e] at hn2; simp at hn2; omega
  rw [hn] at ea ha1
  rw [hn2] at eb hb1
  subst ea eb
  have hmk := fun w => make_ints w n (by omega)
  clear ha hb' hb hx hs ht hd hpo hp1 hl1 hl2 hn hn2
  go_enter Try.func68, Try.ntmps68
  go_wp2_with fail
  refine (fit_to 0 HA.out HT.out HX.out).mono ?_
  rintro e w1 ⟨rfl, hb1'⟩
  have HB1 : Hid (Below w.heap.size w w1) := Below.after HB.out hb1'
  have hs1 := hb1'.size
  simp at hs1
  have HBX1 : Hid (Box w1 (w.heap.size + 1 + 1) (.slice none 0 0) (.slice none 0 0)) := HBX.out.later hb1'
  have hca0 : w1.cell? ⟨w.heap.size, 0, none⟩ = some a0 := (HBA.out.later hb1').c0
  have hca1 : w1.cell? ⟨w.heap.size, 1, none⟩ = some (.slice (some ⟨ab, ao, none⟩) n ac) := (HBA.out.later hb1').c1
  have hcb1 : w1.cell? ⟨w.heap.size + 1, 1, none⟩ = some (.slice (some ⟨bb, bo, none⟩) n bc) := (HBB.out.later hb1').c1
  have HA1 : Hid (Ints w1 a0 s.1) := (HA.out.later hb1').1
  have HCA1 : Hid (∀ i, i < n → w1.cell? ⟨ab, ao + i, none⟩ = some (.int .i64 (s.2.getD i 0))) := fun i h => by
    have h' : i < s.2.length := by rw [HN.out]; exact h
    rw [show s.2.getD i 0 = s.2[i] by simp [h']]
    exact cell_later HB1.out (HCA.out i h')
  have HCB1 : Hid (∀ i, i < n → w1.cell? ⟨bb, bo + i, none⟩ = some (.int .i64 (t.2.getD i 0))) := fun i h => by
    have h' : i < t.2.length := by rw [HN2.out]; exact h
    rw [show t.2.getD i 0 = t.2[i] by simp [h']]
    exact cell_later HB1.out (HCB.out i h')
  have hca1' : (w1.alloc (.cells (ia (zer n)) 3)).cell? ⟨w.heap.size, 1, none⟩ = some (.slice (some ⟨ab, ao, none⟩) n ac) := ((HBA.out.later hb1').alloc _).c1
  clear hb1' HA HT HB HBX HCA HCB HBA HBB
  go_wp2
  clear hmk
  have HST : Hid (Blk (w1.alloc (.cells (ia (zer n)) 3)) w1.heap.size (lay (fun i => op (s.2.getD i 0) (t.2.getD i 0)) n 0)) := by
    show Blk _ _ _
    rw [lay_zero]
    exact Blk.new w1 _
  go_loopw [26] (fun i w' => ∃ j : Nat, j ≤ n ∧ i = .int .i64 j ∧ Blk w' w1.heap.size (lay (fun i => op (s.2.getD i 0) (t.2.getD i 0)) n j) ∧ Below w1.heap.size w1 w') (fun i _ => n - (intOf i).toNat)
  case atStart => exact ⟨0, by omega, rfl, HST.out, (Below.refl _ _).alloc (Nat.le_refl _) _⟩
  case round =>
    obtain ⟨j, hj, rfl, hB, hbel⟩ := hrel
    have HB3 : Hid (Blk wr w1.heap.size (lay (fun i => op (s.2.getD i 0) (t.2.getD i 0)) n j)) := hB
    have HBL3 : Hid (Below w1.heap.size w1 wr) := hbel
    have hsr := HBL3.out.size
    have hbr := HB3.out.lt
    clear hB hbel
    by_cases hlt : j < n
    · have hcx := cell_later HBL3.out (HCA1.out j hlt)
      have hcy := cell_later HBL3.out (HCB1.out j hlt)
      have hcb := cell_later HBL3.out hcb1
      go_wp2_with fail
      refine (HD.out _ _ _).mono ?_
      rintro e w2 ⟨rfl, hb2⟩
      have HB4 : Hid (Blk w2 w1.heap.size (lay (fun i => op (s.2.getD i 0) (t.2.getD i 0)) n j)) := HB3.out.later hb2 hbr
      have HBL4 : Hid (Below w1.heap.size w1 w2) := Below.after HBL3.out hb2
      have hf := HB4.out.frozen j
      obtain ⟨z, hc⟩ : ∃ z, w2.cell? ⟨w1.heap.size, j, none⟩ = some z := ⟨_, HB4.out.cell j (by rw [lay_length]; exact hlt)⟩
      clear hb2
      go_wp2
      go_roundw
      case rel =>
        refine ⟨j + 1, by omega, by go_num, ?_, HBL4.out.setCell (Nat.le_refl _) _⟩
        have := HB4.out.set j (op (s.2.getD j 0) (t.2.getD j 0))
        rw [lay_set (fun i => op (s.2.getD i 0) (t.2.getD i 0))] at this
        exact this
      case measure => simp [intOf]; omega
    · have hj' : j = n := by omega
      subst hj'
      have hca := cell_later HBL3.out hca0
      go_wp2_with fail
      refine (clone_own (HA1.out.later HBL3.out) HD1.out).mono ?_
      rintro e w2 ⟨v0, rfl, ho0, hb2⟩
      have HO0 : Hid (Own w2 wr.heap.size v0 s.1) := ho0
      have HBL4 : Hid (Below w1.heap.size w1 w2) := Below.after HBL3.out hb2
      have HB5 : Hid (Blk w2 w1.heap.size (List.zipWith op s.2 t.2)) := by
        have := HB3.out.later hb2 hbr
        rw [lay_zip _ _ _ _ HN.out HN2.out] at this
        exact this
      have hbx := HBX1.out.later HBL4.out
      have hx0 := hbx.c0
      have hx1 := hbx.c1
      have hf0 := hbx.f 0
      have hf1 := hbx.f 1
      obtain ⟨va, vc, rfl⟩ := ho0.ints.shape
      have HBS : Hid (Box _ _ _ _) := hbx.set (.slice va s.1.length vc) (.slice (some ⟨w1.heap.size, 0, none⟩) j j)
      have hs2 := HBL4.out.size
      clear hb2 hbx ho0
      go_wp2
      have hr0 := HBS.out.c0
      have hr1 := HBS.out.c1
      refine bodyPost_ret (v := .tuple #[.agg #[.slice va s.1.length vc, .slice (some ⟨w1.heap.size, 0, none⟩) j j], .int .i64 0]) (by simp [results, Try.results68, go_sem, hr0, hr1]) rfl ⟨_, _, rfl, ?_, ?_⟩
      · have hzl : (List.zipWith op s.2 t.2).length = j := by simp [HN.out, HN2.out]
        have h1 : OwnT w2 (w.heap.size + 1 + 1 + 1) (.slice va s.1.length vc) (.slice (some ⟨w1.heap.size, 0, none⟩) j j) (s.1, List.zipWith op s.2 t.2) :=
          ⟨HO0.out.mono (by omega), HB5.out.own (by omega) hzl.symm (by rw [hzl]; unfold big; omega), fun k hk => by
            have h2 := HO0.out.frm k hk
            simp [Value.ownBlock]
            omega⟩
        exact ((h1.setCell _ _ (by simp)).setCell _ _ (by simp)).mono (by omega)
      · exact ((Below.after HB1.out HBL4.out).setCell (by simp; omega) _).setCell (by simp; omega) _
theorem each_any {deeds : ByteArray} {op : Int → Int → Int} (HD : Hid (Deed deeds op)) {a0 a1 b0 b1 : Value} {s t : Ten} {w : World} (ha : Tens w a0 a1 s) (hb' : Tens w b0 b1 t) :
    Calls Try.prog 68 #[.string deeds, .agg #[a0, a1], .agg #[b0, b1]] w fun e w' => ∃ x0 x1, e = .returned (.tuple #[.agg #[x0, x1], .int .i64 (fitE s t)]) ∧ OwnT w' w.heap.size x0 x1 (eachR op s t) ∧ Below w.heap.size w w' := by
  by_cases h : fitE s t = 0
  · rw [eachR, if_pos h, h]
    exact each_ok HD ha hb' h
  · rw [eachR, if_neg h]
    refine (each_bad ha hb' _ rfl (by simp [h])).mono ?_
    rintro e w' ⟨rfl, hb⟩
    exact ⟨_, _, rfl, OwnT.nil _ _, hb⟩
def opA (x y : Int) : Int := wrap64 (x + y)
def opS (x y : Int) : Int := wrap64 (x + wrap64 (-y))
def opM (x y : Int) : Int := wrap64 (x * y)
def opN (_x y : Int) : Int := wrap64 (-y)
theorem fit_fill {s : Ten} (n : Int) (h : okd s.1 = true) : fitE (s.1, List.replicate (prd s.1).toNat n) s = tkE s := by
  obtain ⟨_, _, hin, _⟩ := okd_parts h
  have hp := prd_lo hin
  have h1 : tok (s.1, List.replicate (prd s.1).toNat n) = true := by simp [tok, h]; omega
  simp only [fitE, h1, tkE, Bool.true_and]
  simp
theorem fit_none {s : Ten} : fitE ([], []) s = 1 := by
  have h1 : tok ([], []) = false := by decide
  simp [fitE, h1]
def sclR (n : Int) (s : Ten) : Ten := if tok s then (s.1, s.2.map fun y => wrap64 (n * y)) else ([], [])
theorem zip_rep (op : Int → Int → Int) (n : Int) (l : List Int) : List.zipWith op (List.replicate l.length n) l = l.map (op n) := by
  induction l with
  | nil => rfl
  | cons x l ih => simp [List.replicate_succ, ih]
theorem each_fill {s : Ten} (n : Int) (h : okd s.1 = true) : eachR opM (s.1, List.replicate (prd s.1).toNat n) s = sclR n s := by
  rw [eachR, fit_fill n h, sclR, tkE]
  cases ht : tok s with
  | false => simp
  | true =>
    have hl := tok_len ht
    have : (prd s.1).toNat = s.2.length := by omega
    simp only [if_true, this]
    rw [zip_rep]
    rfl
theorem each_none {s : Ten} : eachR opM ([], []) s = ([], []) := by rw [eachR, fit_none]; rfl
theorem copy_Own {v : Value} {d : List Int} {w : World} (h : Ints w v d) :
    Calls Try.prog 38 #[v] w fun e w' => ∃ v', e = .returned v' ∧ Own w' w.heap.size v' d ∧ Below w.heap.size w w' := by
  refine (copy_own h).mono ?_
  rintro e w' ⟨v', rfl, ho, hb⟩
  exact ⟨v', rfl, ⟨ho, h.len⟩, hb⟩
theorem Own.put {w : World} {B g n cap : Nat} {d : List Int} (h : Own w B (.slice (some ⟨g, 0, none⟩) n cap) d) (hn : d.length = n) (j : Nat) (hj : j < n) (x : Int) :
    w.cell? ⟨g, j, none⟩ = some (.int .i64 (d.getD j 0)) ∧ w.frozen? ⟨g, j, none⟩ = false ∧ Own (w.setCell ⟨g, j, none⟩ (.int .i64 x)) B (.slice (some ⟨g, 0, none⟩) n cap) (d.set j x) := by
  subst hn
  have h1 := h.row.cellAt j (by omega)
  have h2 := h.row.frozenAt j
  have h3 := (h.row.stored j (.int .i64 x)).1
  refine ⟨by rw [h1]; simp [hj], h2, ?_, by simpa using h.len⟩
  rw [List.map_set, List.length_set]
  exact h3
/-- A list that may be written over, whatever it holds. -/
def Wr (w : World) (B : Nat) (v : Value) : Prop := v = .slice none 0 0 ∨ ∃ (g n cap : Nat) (cur : Array Value), v = .slice (some ⟨g, 0, none⟩) n cap ∧ B ≤ g ∧ n ≤ cap ∧ n ≤ big ∧ w.heap[g]? = some (.cells cur 3 (0, 0)) ∧ n ≤ cur.size
theorem Wr.setCell {w : World} {B : Nat} {v : Value} (h : Wr w B v) (k j : Nat) (u : Value) : Wr (w.setCell ⟨k, j, none⟩ u) B v := by
  rcases h with h | ⟨g, n, cap, cur, rfl, h1, h2, h3, h4, h5⟩
  · exact Or.inl h
  · by_cases e : g = k
    · subst e
      exact Or.inr ⟨g, n, cap, _, rfl, h1, h2, h3, heap_setCell_same w g j cur 3 u h4, by simpa using h5⟩
    · exact Or.inr ⟨g, n, cap, cur, rfl, h1, h2, h3, (heap_setCell_other w _ g u e).trans h4, h5⟩
theorem Wr.alloc {w : World} {B : Nat} {v : Value} (h : Wr w B v) (o : Obj) : Wr (w.alloc o) B v := by
  rcases h with h | ⟨g, n, cap, cur, rfl, h1, h2, h3, h4, h5⟩
  · exact Or.inl h
  · exact Or.inr ⟨g, n, cap, cur, rfl, h1, h2, h3, (Below.heap_alloc w o g (Array.getElem?_eq_some_iff.1 h4).1).trans h4, h5⟩
/-- All blocks but g are as they were. -/
structure But (g : Nat) (w w' : World) : Prop where
  os : w'.os = w.os
  tape : w'.tape = w.tape
  output : w'.output = w.output
  size : w'.heap.size = w.heap.size
  block : ∀ k, k ≠ g → w'.heap[k]? = w.heap[k]?
theorem But.refl (g : Nat) (w : World) : But g w w := ⟨rfl, rfl, rfl, rfl, fun _ _ => rfl⟩
theorem But.below {g N : Nat} {w0 w w' : World} (h : But g w w') (hb : Below N w0 w) (hN : N ≤ g) : Below N w0 w' :=
  hb.trans ⟨h.os, h.tape, h.output, by rw [h.size]; exact Nat.le_refl _, fun k hk => h.block k (by omega)⟩
theorem But.setCell {g j : Nat} {w w' : World} (h : But g w w') (u : Value) : But g w (w'.setCell ⟨g, j, none⟩ u) :=
  ⟨h.os, h.tape, h.output, by rw [← h.size]; simp, fun k hk => (heap_setCell_other _ _ _ _ hk).trans (h.block k hk)⟩
theorem But.drew {g : Nat} {w w' : World} (h : But g w w') : But g w w'.drew := ⟨h.os, h.tape, h.output, h.size, h.block⟩
theorem But.drewN {g : Nat} {w w' : World} (h : But g w w') (n : Nat) : But g w (w'.drewN n) := ⟨h.os, h.tape, h.output, h.size, h.block⟩
theorem But.box {g : Nat} {w w' : World} (h : But g w w') {B : Nat} {x y : Value} (hb : Box w B x y) (hB : B ≠ g) : Box w' B x y := (h.block B hB).trans hb
theorem But.cell {g : Nat} {w w' : World} {p : Addr} (h : But g w w') (hp : p.block ≠ g) : w'.cell? p = w.cell? p := World.cell?_of_block (w := w) (h.block p.block hp)
theorem Own.drewN {w : World} {B : Nat} {v : Value} {d : List Int} (h : Own w B v d) (n : Nat) : Own (w.drewN n) B v d := h.at fun _ _ => rfl
theorem Own.drew {w : World} {B : Nat} {v : Value} {d : List Int} (h : Own w B v d) : Own w.drew B v d := h.at fun _ _ => rfl
/-- l, its first j numbers by F. -/
def mix (F : Nat → Int) (l : List Int) (j : Nat) : List Int := (List.range l.length).map fun i => if i < j then F i else l.getD i 0
theorem mix_length (F : Nat → Int) (l : List Int) (j : Nat) : (mix F l j).length = l.length := by simp [mix]
theorem mix_zero (F : Nat → Int) (l : List Int) : mix F l 0 = l := by
  apply List.ext_getElem
  · simp [mix]
  · intro i h1 h2; simp [mix, h2]
theorem mix_set (F : Nat → Int) (l : List Int) (j : Nat) : (mix F l j).set j (F j) = mix F l (j + 1) := by
  apply List.ext_getElem
  · simp [mix]
  · intro i h1 h2
    simp only [List.getElem_set, mix, List.getElem_map, List.getElem_range]
    by_cases e : j = i
    · subst e; simp
    · rw [if_neg e]
      by_cases h : i < j
      · simp [h, show i < j + 1 from by omega]
      · simp [h, show ¬ i < j + 1 from by omega]
theorem Ints.cellD {w : World} {b off n c : Nat} {d : List Int} (HC : Hid (∀ i (h : i < d.length), w.cell? ⟨b, off + i, none⟩ = some (.int .i64 d[i]))) (i : Nat) (h : i < d.length) : w.cell? ⟨b, off + i, none⟩ = some (.int .i64 (d.getD i 0)) := by
  rw [show d.getD i 0 = d[i] by simp [h]]
  exact HC.out i h
theorem Ints.shape3 {w : World} {v : Value} {d : List Int} (h : Ints w v d) : ∃ a n c, v = .slice a n c := by
  obtain ⟨a, c, rfl⟩ := h.shape
  exact ⟨_, _, _, rfl⟩
theorem eqn_to {v v' : Value} {a b : List Int} {w : World} (x : Bool) (ha : Ints w v a) (hb : Ints w v' b) (hx : (a == b) = x) :
    Calls Try.prog 11 #[v, v'] w fun e w' => e = .returned (.bool x) ∧ ∃ n, w' = w.drewN n := by
  subst hx
  exact eqn_any ha hb
theorem rdims_to {v : Value} {d : List Int} {w : World} (x : Bool) (h : Ints w v d) (hx : okd d = x) :
    Calls Try.prog 12 #[v] w fun e w' => e = .returned (.bool x) ∧ w = w' := by
  subst hx
  exact rdims_any h
theorem Ints.upto {w w' : World} {B : Nat} {v : Value} {d : List Int} (hb : Below B w w') (h : Ints w v d) (hk : ∀ k, v.ownBlock = some k → k < B) : Ints w' v d := by
  rcases h with ⟨rfl, rfl⟩ | ⟨a, c, rfl, h1, h2, h3⟩
  · exact Ints.nil _
  · refine Or.inr ⟨a, c, rfl, h1, h2, fun i hi => ?_⟩
    obtain ⟨b, off, rfl, hc⟩ := h3 i hi
    refine ⟨b, off, rfl, ?_⟩
    rw [hb.cell (p := ⟨b, off + i, none⟩) (hk b rfl)]
    exact hc
theorem Ints.old {w : World} {v : Value} {d : List Int} (h : Ints w v d) (h1 : 1 ≤ d.length) : ∀ k, v.ownBlock = some k → k < w.heap.size := by
  intro k hk
  rcases h.cases with ⟨rfl, _⟩ | ⟨b, off, c, rfl, h0, _, _, hc⟩
  · simp at h1
  · simp [Value.ownBlock] at hk
    subst hk
    exact World.block_lt_of_cell? _ _ (hc.out 0 h0)
/-- What the page's Fill has laid behind j rounds. -/
structure Lay (w w1 wr : World) (v0 vj : Value) (d : List Int) (n : Int) (j : Nat) : Prop where
  box : wr.heap[w1.heap.size]? = some (.cells #[v0, vj] 70 (0, 0))
  res : wr.heap[w.heap.size]? = some (.cells #[.slice none 0 0, .slice none 0 0] 70 (0, 0))
  own : wr.ownsRow (w1.heap.size + 1) 3 1 vj j ((List.replicate j n).map (Value.int .i64))
  dims : Ints wr v0 d
  below : Below (w1.heap.size) w1 wr
  size : w1.heap.size + 1 ≤ wr.heap.size
theorem Lay.next {w w1 wr w2 : World} {v0 vj v' : Value} {d : List Int} {n : Int} {j : Nat} (h : Lay w w1 wr v0 vj d n j) (hw : w.heap.size < w1.heap.size) (hv : ∀ k, v0.ownBlock = some k → k < w1.heap.size)
    (o : Obj) (ho : w2.ownsRow (w1.heap.size + 1) 3 1 v' (j + 1) (List.replicate j (Value.int .i64 n) ++ [.int .i64 n])) (hg : (wr.alloc o).grownBy w2 vj.ownBlock) :
    Lay w w1 (w2.setCell ⟨w1.heap.size, 1, none⟩ v') v0 v' d n (j + 1) := by
  have hk : ∀ k, vj.ownBlock = some k → w1.heap.size + 1 ≤ k := fun k hk => (h.own.lt k hk).1
  have hbel : Below (w1.heap.size + 1) wr w2 := ((Below.refl _ _).alloc h.size o).grown hg (by have := h.size; simp; omega) hk
  have hb1 : w2.heap[w1.heap.size]? = some (.cells #[v0, vj] 70 (0, 0)) := (hbel.block _ (by omega)).trans h.box
  have hs := heap_setCell_same w2 w1.heap.size 1 _ 70 v' hb1
  refine ⟨?_, ?_, ?_, ?_, ?_, ?_⟩
  · rw [hs]; rfl
  · rw [heap_setCell_other _ _ _ _ (by simp; omega)]
    exact (hbel.block _ (by omega)).trans h.res
  · have e : (List.replicate (j + 1) n).map (Value.int .i64) = List.replicate j (Value.int .i64 n) ++ [.int .i64 n] := by
      rw [List.replicate_succ', List.map_append, List.map_replicate]; rfl
    rw [e]
    exact ownsRow_setCell_below ho (by simp) v'
  · exact (Ints.upto hbel h.dims (fun k hk => by have := hv k hk; omega)).setCell _ _ (fun k hk => by have := hv k hk; simp; omega)
  · exact (h.below.trans (hbel.mono (by omega))).setCell (Nat.le_refl _) _
  · have := hbel.size
    have := h.size
    simp [World.setCell]
    omega
set_option maxHeartbeats 400000 in
theorem fill_own {v : Value} {d : List Int} {w : World} (n : Int) (h : Ints w v d) (hok : okd d = true) :
    Calls Try.prog 47 #[v, .int .i64 n] w fun e w' => ∃ x0 b1, e = .returned (.tuple #[.agg #[x0, .slice (some ⟨b1, 0, none⟩) (prd d).toNat (prd d).toNat], .int .i64 0]) ∧ Own w' w.heap.size x0 d ∧ Blk w' b1 (List.replicate (prd d).toNat n) ∧ (w.heap.size ≤ b1 ∧ ∀ k, x0.ownBlock = some k → k ≠ b1) ∧ Below w.heap.size w w' := by
  have hb : Below w.heap.size w (w.alloc (.cells #[.slice none 0 0, .slice none 0 0] 70)) := (Below.refl _ _).alloc (Nat.le_refl _) _
  have H : Hid (Ints (w.alloc (.cells #[.slice none 0 0, .slice none 0 0] 70)) v d) := h.later hb
  have HB : Hid (Below w.heap.size w (w.alloc (.cells #[.slice none 0 0, .slice none 0 0] 70))) := hb
  have HK : Hid (okd d = true) := hok
  obtain ⟨hl1, hl2, hin, hp⟩ := okd_parts hok
  have hp1 := prd_lo hin
  have HC : Hid ((prd d).toNat = prd d) := by show _ = _; omega
  obtain ⟨m, hm⟩ : ∃ m : Nat, prd d = m := ⟨(prd d).toNat, by omega⟩
  have HM : Hid (prd d = m) := hm
  have hm1 : 1 ≤ m := by omega
  have hm2 : m ≤ 64 := by omega
  have hmk := fun w => make_ints w m (by omega)
  clear h hok hb hin hp hp1 hm
  go_enter Try.func47, Try.ntmps47
  go_wp2_with fail
  refine (cells_ok H.out HK.out).mono ?_
  rw [HM.out]
  rintro e w1 ⟨rfl, hb1⟩
  have hsz := hb1.size
  simp at hsz
  have HB1 : Hid (Below w.heap.size w w1) := Below.after HB.out hb1
  have HH : Hid (Ints w1 v d) := H.out.later hb1
  have hbox : Hid (w1.heap[w.heap.size]? = some (.cells #[.slice none 0 0, .slice none 0 0] 70 (0, 0))) := (hb1.block w.heap.size (by simp)).trans (heap_alloc_new w _)
  clear hb1
  go_wp2
  clear hmk
  have HST : Hid (Blk (w1.alloc (.cells (ia (zer m)) 3)) w1.heap.size (fil m 0 n)) := by
    show Blk _ _ _
    rw [fil_zero]
    exact Blk.new w1 _
  go_loopw [23] (fun i w' => ∃ j : Nat, j ≤ m ∧ i = .int .i64 j ∧ Blk w' w1.heap.size (fil m j n) ∧ Below w1.heap.size w1 w') (fun i _ => m - (intOf i).toNat)
  case atStart => exact ⟨0, by omega, rfl, HST.out, (Below.refl _ _).alloc (Nat.le_refl _) _⟩
  case round =>
    obtain ⟨j, hj, rfl, hB, hbel⟩ := hrel
    have HB3 : Hid (Blk wr w1.heap.size (fil m j n)) := hB
    have HBL3 : Hid (Below w1.heap.size w1 wr) := hbel
    clear hB hbel
    by_cases hltj : j < m
    · have hf := HB3.out.frozen j
      obtain ⟨x, hc⟩ : ∃ x, wr.cell? ⟨w1.heap.size, j, none⟩ = some x := ⟨_, HB3.out.cell j (by rw [fil_length _ _ _ hj]; exact hltj)⟩
      go_wp2
      refine ⟨⟨j + 1, by omega, by go_num, ?_, HBL3.out.setCell (Nat.le_refl _) _⟩, by simp [intOf]; omega⟩
      have := HB3.out.set j n
      rw [fil_set _ _ _ hltj] at this
      exact this
    · have hj' : j = m := by omega
      subst hj'
      have hws := HBL3.out.size
      go_wp2_with fail
      refine (clone_own (HH.out.later HBL3.out) hl1).mono ?_
      rintro e w2 ⟨v0, rfl, ho0, hb2⟩
      have hi0 := ho0.ints
      have hf0 := ho0.frm
      obtain ⟨va, vc, rfl⟩ := hi0.shape
      have HI0 : Hid (Ints w2 (.slice va d.length vc) d) := hi0
      have HO0 : Hid (Own w2 wr.heap.size (.slice va d.length vc) d) := ho0
      have hlt0 := HB3.out.lt
      have HF0 : Hid (From wr.heap.size (.slice va d.length vc)) := hf0
      have HB4 : Hid (Below w1.heap.size w1 w2) := Below.after HBL3.out hb2
      have HB5 : Hid (Blk w2 w1.heap.size (List.replicate j n)) := by
        have := HB3.out.later hb2 HB3.out.lt
        rw [fil_all] at this
        exact this
      have hbx : w2.heap[w.heap.size]? = some (.cells #[.slice none 0 0, .slice none 0 0] 70 (0, 0)) := (HB4.out.block _ (by omega)).trans hbox.out
      have hx0 := cell_of_row w2 w.heap.size 0 _ _ _ hbx
      have hx1 := cell_of_row w2 w.heap.size 1 _ _ _ hbx
      have hy0 := frozen_of_row w2 w.heap.size 0 _ _ hbx
      have hy1 := frozen_of_row w2 w.heap.size 1 _ _ hbx
      simp at hx0 hx1
      have hs1 := heap_setCell_same w2 w.heap.size 0 _ 70 (.slice va d.length vc) hbx
      have hs2 := heap_setCell_same _ w.heap.size 1 _ 70 (.slice (some ⟨w1.heap.size, 0, none⟩) j j) hs1
      have HR0 : Hid (((w2.setCell ⟨w.heap.size, 0, none⟩ (.slice va d.length vc)).setCell ⟨w.heap.size, 1, none⟩ (.slice (some ⟨w1.heap.size, 0, none⟩) j j)).cell? ⟨w.heap.size, 0, none⟩ = some (.slice va d.length vc)) := by
        show _ = _
        rw [cell_of_row _ w.heap.size 0 _ _ _ hs2]
        rfl
      have HR1 : Hid (((w2.setCell ⟨w.heap.size, 0, none⟩ (.slice va d.length vc)).setCell ⟨w.heap.size, 1, none⟩ (.slice (some ⟨w1.heap.size, 0, none⟩) j j)).cell? ⟨w.heap.size, 1, none⟩ = some (.slice (some ⟨w1.heap.size, 0, none⟩) j j)) := by
        show _ = _
        rw [cell_of_row _ w.heap.size 1 _ _ _ hs2]
        rfl
      clear ho0 hi0 hf0 hb2 hbx hs1 hs2
      go_wp2
      have HJ : Hid ((prd d).toNat = j) := by show _ = _; rw [HM.out]; rfl
      clear HM HC
      have hr0 := HR0.out
      have hr1 := HR1.out
      refine bodyPost_ret (v := .tuple #[.agg #[.slice va d.length vc, .slice (some ⟨w1.heap.size, 0, none⟩) j j], .int .i64 0]) (by simp [results, Try.results47, go_sem, hr0, hr1]) rfl ⟨_, w1.heap.size, by rw [HJ.out], ?_, ?_, ⟨by omega, fun k hk => by have := HF0.out k hk; omega⟩, ?_⟩
      · exact (((HO0.out.setCell _ _ (fun k hk => by have := HF0.out k hk; simp; omega)).setCell _ _ (fun k hk => by have := HF0.out k hk; simp; omega))).mono (by omega)
      · rw [HJ.out]
        exact (HB5.out.setOther _ _ (by simp; omega)).setOther _ _ (by simp; omega)
      · exact ((Below.after HB1.out HB4.out).setCell (Nat.le_refl _) _).setCell (Nat.le_refl _) _
theorem It.nx {w : World} {I k : Nat} {s : ByteArray} (h : It w I s k) (hk : k < s.size) (x : Int) (hx : (s[k].toNat : Int) = x) (h1 : s[k].toNat < 128) (ty : TypeId) :
    (Instr.next (.pointer (some ⟨I, 0, none⟩)) true ty).run Try.prog w = .ok (.tuple #[.bool true, .int .i64 k, .int .i32 x]) (w.iterAt I s (k + 1)) := by
  subst hx
  rw [Lib.run_next_ascii_at w I s k ty h hk h1]
theorem It.nd {w : World} {I k : Nat} {s : ByteArray} (h : It w I s k) (hk : k = s.size) (ty : TypeId) :
    (Instr.next (.pointer (some ⟨I, 0, none⟩)) true ty).run Try.prog w = .ok (.tuple #[.bool false]) w :=
  Lib.run_next_end_at w I s k ty h (by omega)
theorem It.blk {w : World} {B I : Nat} {xs : List Int} {s : ByteArray} {p : Nat} (h : Blk w B xs) (hi : It w I s p) : I ≠ B := by
  rintro rfl
  have := h.symm.trans hi
  cases this
/-- What spells in which dims a place agrees. -/
def tieB (x : Int) : UInt8 := if x = 1 then 42 else 61
def tieT (d : List Int) : ByteArray := ⟨(d.map tieB).toArray⟩
theorem tieT_snoc (l : List Int) (x : Int) : tieT (l ++ [x]) = tieT l ++ ⟨#[tieB x]⟩ := by
  have h := ByteArray.mk_append_mk (l.map tieB) [tieB x]
  simp only [tieT, List.map_append, List.map_cons, List.map_nil]
  exact h.symm
theorem tieT_size (d : List Int) : (tieT d).size = d.length := by simp [tieT, ByteArray.size]
theorem tieT_get (d : List Int) (k : Nat) (h : k < d.length) (hs : k < (tieT d).size) : (tieT d)[k] = tieB d[k] := by
  show (tieT d).data[k] = _
  simp [tieT]
end Go.Proofs.Ytjfkhfahpjdidaa
