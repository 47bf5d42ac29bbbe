/- Carried: C14. -/
import Derived.Test.YtjfkhfahpjdidaaC12
namespace Go.Proofs.Ytjfkhfahpjdidaa
set_option linter.unusedVariables false
set_option linter.unusedSimpArgs false
set_option maxRecDepth 100000
open Go.RowKit Go.Shelf

section
variable {P : Program} {ops : Array Oper} {Q : Exit → Act → World → Prop} {md : Region.Mode} {F : Fence} {n l : Nat}
theorem wpAnyIn_inv {I : Array Bool → Act → World → Prop}
    (step : ∀ listed a w, I listed a w → ∀ i ∈ Region.ready md ops listed, wpOpIn F n P ops Q i (fun a' w' => I (listed.setIfInBounds i true) a' w') a w)
    (fin : ∀ listed a w, I listed a w → Region.ready md ops listed = [] → Q .normal a w) :
    ∀ (fuel : Nat) (listed : Array Bool) (a : Act) (w : World), I listed a w → unl ops listed ≤ fuel → wpAnyIn F n P md ops Q fuel listed a w
  | 0, listed, a, w, h, hf => by
    have hr : Region.ready md ops listed = [] := by
      rw [List.eq_nil_iff_forall_not_mem]
      intro i hi
      obtain ⟨h1, h2, _⟩ := ready_at hi
      have := unl_less (ops := ops) h1 h2
      omega
    exact ⟨hr, fin listed a w h hr⟩
  | fuel + 1, listed, a, w, h, hf => ⟨fun hr => fin listed a w h hr, fun i hi => wpOpIn_mono (fun a' w' h' => wpAnyIn_inv step fin fuel _ a' w' h' (by
      obtain ⟨h1, h2, _⟩ := ready_at hi
      have := unl_less (ops := ops) h1 h2
      omega)) (step listed a w h i hi)⟩
theorem wpIn_region_inv {id : Nat} {a : Act} {w : World} {I : Array Bool → Act → World → Prop} (hm : P.follows .mixedOrders = true)
    (start : I (Array.replicate ops.size false) a w.drew)
    (step : ∀ listed a w, I listed a w → ∀ i ∈ Region.ready .any ops listed, wpOpIn F n P ops Q i (fun a' w' => I (listed.setIfInBounds i true) a' w') a w)
    (fin : ∀ listed a w, I listed a w → Region.ready .any ops listed = [] → Q .normal a w) : (Code.region id ops true).wpIn F n P Q a w :=
  wpIn_region_any hm (wpAnyIn_inv step fin _ _ _ _ start (by
    unfold unl
    exact Nat.le_trans (List.length_filter_le _ _) (by simp)))
theorem inOp_value {i : Nat} {d : Option Nat} {op : Op} {K : Act → World → Prop} {a : Act} {w w' : World} {v : Value} (h : OpAt ops i d op) (hn : ∀ c, op ≠ .defer c) (hr : ∀ o : Oper, o.op = op → (execOp a.eval o).run P w = .ok (.value v) w') (hK : K (a.put d v) w') : wpOpIn (Fence.wide.inRound l) n P ops Q i K a w := by
  obtain ⟨o, ho, rfl, hop, hg⟩ := h
  unfold wpOpIn
  rw [ho]
  simp only [Region.wanted, hg, if_true]
  refine ⟨fun f _ => trivial, ?_⟩
  rw [Oper.semAt_eq _ _ _ (fun c e => hn c (hop ▸ e)), hr o hop]
  exact hK
theorem inOp_skip {i : Nat} {d : Option Nat} {op : Op} {K : Act → World → Prop} {a : Act} {w w' : World} (h : OpAt ops i d op) (hn : ∀ c, op ≠ .defer c) (hr : ∀ o : Oper, o.op = op → (execOp a.eval o).run P w = .ok .skip w') (hK : K (a.put d undef) w') : wpOpIn (Fence.wide.inRound l) n P ops Q i K a w := by
  obtain ⟨o, ho, rfl, hop, hg⟩ := h
  unfold wpOpIn
  rw [ho]
  simp only [Region.wanted, hg, if_true]
  refine ⟨fun f _ => trivial, ?_⟩
  rw [Oper.semAt_eq _ _ _ (fun c e => hn c (hop ▸ e)), hr o hop]
  exact hK
theorem inOp_call {i f : Nat} {d : Option Nat} {op : Op} {K : Act → World → Prop} {a : Act} {w w' : World} {args : Array Value} (h : OpAt ops i d op) (hn : ∀ c, op ≠ .defer c) (hr : ∀ o : Oper, o.op = op → (execOp a.eval o).run P w = .ok (.enter f args) w')
    (hK : Calls P f args w' fun e w'' => ∃ v, e = .returned v ∧ K (a.put d v) w'') : wpOpIn (Fence.wide.inRound l) n P ops Q i K a w := by
  obtain ⟨o, ho, rfl, hop, hg⟩ := h
  unfold wpOpIn
  rw [ho]
  simp only [Region.wanted, hg, if_true]
  refine ⟨fun f _ => trivial, ?_⟩
  rw [Oper.semAt_eq _ _ _ (fun c e => hn c (hop ▸ e)), hr o hop]
  refine ⟨fun h => (by cases h), CallsIn.inRound l (callsIn_wide.2 ?_)⟩
  refine Calls.mono hK fun e w'' h => ?_
  obtain ⟨v, rfl, h⟩ := h
  exact h
end
theorem Boxed.later {W W' : World} {B : Nat} {t : TypeId} {v : Value} (hb : Below W.heap.size W W') (h : Boxed W B t v) : Boxed W' B t v := (hb.block B h.lt).trans h
theorem mk_size (l : List UInt8) : (ByteArray.mk l.toArray).size = l.length := by simp [ByteArray.size]
noncomputable def fops : Array Oper := opsOf ((((Try.f77.body.map regs).getD []).getD 5 (0, .skip)).2)
theorem fsize : fops.size = 12 := by decide +kernel
theorem fa0 : OpAt fops 0 (some 16) (.load 9 (.tmp 5)) := ⟨_, rfl, rfl, rfl, rfl⟩
theorem fa1 : OpAt fops 1 (some 17) (.move (.tmp 7)) := ⟨_, rfl, rfl, rfl, rfl⟩
theorem fa2 : OpAt fops 2 (some 18) (.call { callee := .value (.func 86), args := #[.const (.string ⟨#[120]⟩), .tmp 17], argTypes := #[9, 3] }) := ⟨_, rfl, rfl, rfl, rfl⟩
theorem fa3 : OpAt fops 3 (some 19) (.binOp .add 9 (.tmp 18) (.const (.string ⟨#[111]⟩)) 9) := ⟨_, rfl, rfl, rfl, rfl⟩
theorem fa4 : OpAt fops 4 (some 20) (.load 3 (.tmp 3)) := ⟨_, rfl, rfl, rfl, rfl⟩
theorem fa5 : OpAt fops 5 (some 21) (.move (.tmp 7)) := ⟨_, rfl, rfl, rfl, rfl⟩
theorem fa6 : OpAt fops 6 (some 22) (.binOp .sub 3 (.tmp 20) (.tmp 21) 3) := ⟨_, rfl, rfl, rfl, rfl⟩
theorem fa7 : OpAt fops 7 (some 23) (.binOp .sub 3 (.tmp 22) (.const (.int .i64 1)) 3) := ⟨_, rfl, rfl, rfl, rfl⟩
theorem fa8 : OpAt fops 8 (some 24) (.call { callee := .value (.func 86), args := #[.const (.string ⟨#[120]⟩), .tmp 23], argTypes := #[9, 3] }) := ⟨_, rfl, rfl, rfl, rfl⟩
theorem fa9 : OpAt fops 9 (some 25) (.binOp .add 9 (.tmp 19) (.tmp 24) 9) := ⟨_, rfl, rfl, rfl, rfl⟩
theorem fa10 : OpAt fops 10 (some 26) (.binOp .add 9 (.tmp 16) (.tmp 25) 9) := ⟨_, rfl, rfl, rfl, rfl⟩
theorem fa11 : OpAt fops 11 none (.store 9 (.tmp 5) (.tmp 26)) := ⟨_, rfl, rfl, rfl, rfl⟩
theorem fw2_1 : waitsFor fops 2 1 = true := by decide +kernel
theorem fw3_2 : waitsFor fops 3 2 = true := by decide +kernel
theorem fw6_4 : waitsFor fops 6 4 = true := by decide +kernel
theorem fw6_5 : waitsFor fops 6 5 = true := by decide +kernel
theorem fw7_6 : waitsFor fops 7 6 = true := by decide +kernel
theorem fw8_7 : waitsFor fops 8 7 = true := by decide +kernel
theorem fw9_3 : waitsFor fops 9 3 = true := by decide +kernel
theorem fw9_8 : waitsFor fops 9 8 = true := by decide +kernel
theorem fw10_0 : waitsFor fops 10 0 = true := by decide +kernel
theorem fw10_9 : waitsFor fops 10 9 = true := by decide +kernel
theorem fw11_10 : waitsFor fops 11 10 = true := by decide +kernel
theorem fw11_all : ∀ k, k < 11 → waitsFor fops 11 k = true := by decide +kernel
theorem fearlier : earlier fops = true := by decide +kernel
/-- What each operation yields. -/
def fval (t X Y : ByteArray) (q F : Nat) : Nat → Value
  | 0 => .string t
  | 1 => .int .i64 F
  | 2 => .string X
  | 3 => .string (X ++ ⟨#[111]⟩)
  | 4 => .int .i64 q
  | 5 => .int .i64 F
  | 6 => .int .i64 ((q : Int) - F)
  | 7 => .int .i64 ((q : Int) - F - 1)
  | 8 => .string Y
  | 9 => .string ((X ++ ⟨#[111]⟩) ++ Y)
  | _ => .string (t ++ ((X ++ ⟨#[111]⟩) ++ Y))
structure FInv (W : World) (B T : Nat) (t X Y : ByteArray) (q F : Nat) (listed : Array Bool) (a : Act) (w : World) : Prop where
  df : a.defers = []
  sz : a.tmps.size = 28
  s3 : a.tmps.getD 3 undef = .pointer (some ⟨B, 0, none⟩)
  s5 : a.tmps.getD 5 undef = .pointer (some ⟨T, 0, none⟩)
  s7 : a.tmps.getD 7 undef = .int .i64 F
  ls : listed.size = 12
  vs : ∀ k, k < 11 → listed.getD k false = true → a.tmps.getD (16 + k) undef = fval t X Y q F k
  last : listed.getD 11 false = true → ∀ k, k < 11 → listed.getD k false = true
  wd : ∃ w2, Below W.heap.size W w2 ∧ ((listed.getD 11 false = false ∧ w = w2) ∨ (listed.getD 11 false = true ∧ w = w2.setCell ⟨T, 0, none⟩ (.string (t ++ ((X ++ ⟨#[111]⟩) ++ Y)))))
theorem FInv.put {W : World} {B T : Nat} {t X Y : ByteArray} {q F : Nat} {listed : Array Bool} {a : Act} {w w' : World} (h : FInv W B T t X Y q F listed a w) (i : Nat) (hi : i < 11) (hl : listed.getD 11 false = false)
    (hb : Below w.heap.size w w') : FInv W B T t X Y q F (listed.setIfInBounds i true) (a.put (some (16 + i)) (fval t X Y q F i)) w' where
  df := h.df
  sz := by simp [Act.put, h.sz]
  s3 := by rw [put_get (by rw [h.sz]; omega), if_neg (by omega)]; exact h.s3
  s5 := by rw [put_get (by rw [h.sz]; omega), if_neg (by omega)]; exact h.s5
  s7 := by rw [put_get (by rw [h.sz]; omega), if_neg (by omega)]; exact h.s7
  ls := by simp [h.ls]
  vs := by
    intro k hk hlk
    rw [put_get (by rw [h.sz]; omega)]
    by_cases e : k = i
    · subst e
      rw [if_pos rfl]
    · rw [if_neg (by omega)]
      rw [getD_else (fun x => e x.symm)] at hlk
      exact h.vs k hk hlk
  last := by
    intro h1
    rw [getD_else (by omega), hl] at h1
    cases h1
  wd := by
    obtain ⟨w2, hb2, h1 | h1⟩ := h.wd
    · refine ⟨w', ?_, .inl ⟨by rw [getD_else (by omega)]; exact hl, rfl⟩⟩
      rw [h1.2] at hb
      exact Below.after hb2 hb
    · rw [hl] at h1
      cases h1.1
theorem FInv.early {W : World} {B T : Nat} {t X Y : ByteArray} {q F : Nat} {listed : Array Bool} {a : Act} {w : World} (h : FInv W B T t X Y q F listed a w) (hl : listed.getD 11 false = false) : Below W.heap.size W w := by
  obtain ⟨w2, hb2, h1 | h1⟩ := h.wd
  · rw [h1.2]; exact hb2
  · rw [hl] at h1; cases h1.1
theorem getD_ff {listed : Array Bool} {i : Nat} (h : listed.getD i true = false) : listed.getD i false = false := by
  rcases Nat.lt_or_ge i listed.size with h1 | h1
  · simp [h1] at h ⊢
    exact h
  · simp [Array.getElem?_eq_none h1] at h
section
variable {W : World} {B T : Nat} {t X Y : ByteArray} {q F : Nat} {listed : Array Bool} {a : Act} {w : World}
/-- What stands when an operation ahead of the store is to come up. -/
structure FNow (W : World) (B T : Nat) (t X Y : ByteArray) (q F : Nat) (listed : Array Bool) (a : Act) (w : World) : Prop where
  inv : FInv W B T t X Y q F listed a w
  open' : listed.getD 11 false = false
  bel : Below W.heap.size W w
theorem FInv.now (h : FInv W B T t X Y q F listed a w) {i : Nat} (hi : i < 11) (hr : i ∈ Region.ready .any fops listed) : FNow W B T t X Y q F listed a w := by
  have h1 := getD_ff (ready_at hr).2.1
  have h2 : listed.getD 11 false = false := by
    cases e : listed.getD 11 false with
    | false => rfl
    | true =>
      have := h.last e i hi
      rw [h1] at this
      cases this
  exact ⟨h, h2, h.early h2⟩
theorem FInv.dep (h : FInv W B T t X Y q F listed a w) {i k : Nat} (hk : k < 11) (hr : i ∈ Region.ready .any fops listed) (hw : waitsFor fops i k = true) : a.tmps.getD (16 + k) undef = fval t X Y q F k :=
  h.vs k hk (ready_dep hr hw)
theorem ev {a : Act} {k : Nat} {v : Value} (h : a.tmps.getD k undef = v) : a.eval (.tmp k) = v := h

set_option maxHeartbeats 1000000 in
theorem fstep {l n : Nat} {Q : Exit → Act → World → Prop} (hT : Boxed W T 9 (.string t)) (hB : Boxed W B 3 (.int .i64 q)) (hF : F < q) (hq : q ≤ 8) (ht : t.size ≤ 64) (hX : X = ⟨(List.replicate F 120).toArray⟩) (hY : Y = ⟨(List.replicate (q - F - 1) 120).toArray⟩)
    (h : FInv W B T t X Y q F listed a w) (i : Nat) (hr : i ∈ Region.ready .any fops listed) :
    wpOpIn (Fence.wide.inRound l) n Try.prog fops Q i (fun a' w' => FInv W B T t X Y q F (listed.setIfInBounds i true) a' w') a w := by
  have hi : i < 12 := by have := (ready_at hr).1; rw [fsize] at this; exact this
  have sX : X.size ≤ 8 := by rw [hX, mk_size, List.length_replicate]; omega
  have sY : Y.size ≤ 8 := by rw [hY, mk_size, List.length_replicate]; omega
  have s1 : (X ++ (⟨#[111]⟩ : ByteArray)).size ≤ 9 := by rw [ByteArray.size_append, show (⟨#[111]⟩ : ByteArray).size = 1 from rfl]; omega
  have s2 : ((X ++ (⟨#[111]⟩ : ByteArray)) ++ Y).size ≤ 17 := by rw [ByteArray.size_append]; omega
  have w1 : IntKind.i64.wrap ((q : Int) - (F : Int)) = (q : Int) - (F : Int) := wrap_small _ (by omega) (by omega)
  have w2 : IntKind.i64.wrap ((q : Int) - (F : Int) - 1) = (q : Int) - (F : Int) - 1 := wrap_small _ (by omega) (by omega)
  have c : i = 0 ∨ i = 1 ∨ i = 2 ∨ i = 3 ∨ i = 4 ∨ i = 5 ∨ i = 6 ∨ i = 7 ∨ i = 8 ∨ i = 9 ∨ i = 10 ∨ i = 11 := by omega
  rcases c with rfl | rfl | rfl | rfl | rfl | rfl | rfl | rfl | rfl | rfl | rfl | rfl
  · have N := h.now (by omega) hr
    have hc := (Boxed.later N.bel hT).cell
    refine inOp_value fa0 (fun c e => by cases e) (fun o ho => ?_) (h.put 0 (by omega) N.open' (Below.refl _ _))
    simp only [execOp, ho, ev h.s5]
    simp [go_sem, hc, fval]
  · have N := h.now (by omega) hr
    refine inOp_value fa1 (fun c e => by cases e) (fun o ho => ?_) (h.put 1 (by omega) N.open' (Below.refl _ _))
    simp only [execOp, ho, ev h.s7]
    simp [go_sem, fval]
  · have N := h.now (by omega) hr
    have d1 := h.dep (by omega) hr fw2_1
    refine inOp_call fa2 (fun c e => by cases e) (fun o ho => ?_) (w' := w) (f := 86) (args := #[.string ⟨#[120]⟩, .int .i64 F]) ?_
    · simp only [execOp, ho]
      simp [go_sem, ev d1, fval]
      simpa [fval] using d1
    · refine (rep_any F (by omega) w).mono ?_
      rintro e w' ⟨rfl, hb⟩
      have := h.put 2 (by omega) N.open' hb
      rw [fval, hX] at this
      exact ⟨_, rfl, by rw [hX]; exact this⟩
  · have N := h.now (by omega) hr
    have d1 := h.dep (by omega) hr fw3_2
    refine inOp_value fa3 (fun c e => by cases e) (fun o ho => ?_) (h.put 3 (by omega) N.open' (Below.refl _ _))
    simp only [execOp, ho, ev d1]
    simp [go_sem, fval]
    omega
  · have N := h.now (by omega) hr
    have hc := (Boxed.later N.bel hB).cell
    refine inOp_value fa4 (fun c e => by cases e) (fun o ho => ?_) (h.put 4 (by omega) N.open' (Below.refl _ _))
    simp only [execOp, ho, ev h.s3]
    simp [go_sem, hc, fval]
  · have N := h.now (by omega) hr
    refine inOp_value fa5 (fun c e => by cases e) (fun o ho => ?_) (h.put 5 (by omega) N.open' (Below.refl _ _))
    simp only [execOp, ho, ev h.s7]
    simp [go_sem, fval]
  · have N := h.now (by omega) hr
    have d1 := h.dep (by omega) hr fw6_4
    have d2 := h.dep (by omega) hr fw6_5
    refine inOp_value fa6 (fun c e => by cases e) (fun o ho => ?_) (h.put 6 (by omega) N.open' (Below.refl _ _))
    simp only [execOp, ho, ev d1, ev d2]
    simp [go_sem, fval, w1]
  · have N := h.now (by omega) hr
    have d1 := h.dep (by omega) hr fw7_6
    refine inOp_value fa7 (fun c e => by cases e) (fun o ho => ?_) (h.put 7 (by omega) N.open' (Below.refl _ _))
    simp only [execOp, ho, ev d1]
    simp [go_sem, fval, w2]
  · have N := h.now (by omega) hr
    have d1 := h.dep (by omega) hr fw8_7
    refine inOp_call fa8 (fun c e => by cases e) (fun o ho => ?_) (w' := w) (f := 86) (args := #[.string ⟨#[120]⟩, .int .i64 ((q : Int) - F - 1)]) ?_
    · simp only [execOp, ho]
      simp [go_sem, ev d1, fval]
      simpa [fval] using d1
    · have e0 : ((q : Int) - F - 1) = ((q - F - 1 : Nat) : Int) := by omega
      rw [e0]
      refine (rep_any (q - F - 1) (by omega) w).mono ?_
      rintro e w' ⟨rfl, hb⟩
      have := h.put 8 (by omega) N.open' hb
      rw [fval, hY] at this
      exact ⟨_, rfl, by rw [hY]; exact this⟩
  · have N := h.now (by omega) hr
    have d1 := h.dep (by omega) hr fw9_3
    have d2 := h.dep (by omega) hr fw9_8
    refine inOp_value fa9 (fun c e => by cases e) (fun o ho => ?_) (h.put 9 (by omega) N.open' (Below.refl _ _))
    simp only [execOp, ho, ev d1, ev d2]
    simp [go_sem, fval]
    omega
  · have N := h.now (by omega) hr
    have d1 := h.dep (by omega) hr fw10_0
    have d2 := h.dep (by omega) hr fw10_9
    refine inOp_value fa10 (fun c e => by cases e) (fun o ho => ?_) (h.put 10 (by omega) N.open' (Below.refl _ _))
    simp only [execOp, ho, ev d1, ev d2]
    simp [go_sem, fval]
    omega
  · have d1 := h.dep (by omega) hr fw11_10
    have h2 := getD_ff (ready_at hr).2.1
    have hbel := h.early h2
    have hb := Boxed.later hbel hT
    have hc := hb.cell
    have hf := hb.frozen
    refine inOp_skip fa11 (fun c e => by cases e) (w' := w.setCell ⟨T, 0, none⟩ (.string (t ++ ((X ++ ⟨#[111]⟩) ++ Y)))) (fun o ho => ?_) ?_
    · simp only [execOp, ho, ev d1, ev h.s5]
      simp [go_sem, fval, hc, hf]
    · refine ⟨h.df, h.sz, h.s3, h.s5, h.s7, by simp [h.ls], fun k hk hlk => ?_, fun _ k hk => ?_, w, hbel, .inr ⟨getD_now (by rw [h.ls]; omega) _, rfl⟩⟩
      · rw [getD_else (by omega)] at hlk
        exact h.vs k hk hlk
      · rw [getD_else (by omega)]
        exact ready_dep hr (fw11_all k hk)

theorem freg5 {l n : Nat} {Q : Exit → Act → World → Prop} (hT : Boxed W T 9 (.string t)) (hB : Boxed W B 3 (.int .i64 q)) (hF : F < q) (hq : q ≤ 8) (ht : t.size ≤ 64)
    (h1 : a.defers = []) (h2 : a.tmps.size = 28) (h3 : a.tmps.getD 3 undef = .pointer (some ⟨B, 0, none⟩)) (h5 : a.tmps.getD 5 undef = .pointer (some ⟨T, 0, none⟩)) (h7 : a.tmps.getD 7 undef = .int .i64 F)
    (hQ : ∀ a' w2, Below W.heap.size W w2 → Q .normal a' (w2.setCell ⟨T, 0, none⟩ (.string (t ++ ((⟨(List.replicate F 120).toArray⟩ ++ ⟨#[111]⟩) ++ ⟨(List.replicate (q - F - 1) 120).toArray⟩))))) :
    ((((Try.f77.body.map regs).getD []).getD 5 (0, .skip)).2).wpIn (Fence.wide.inRound l) n Try.prog Q a W := by
  have key : (Code.region 5 fops true).wpIn (Fence.wide.inRound l) n Try.prog Q a W := by
    refine wpIn_region_inv (I := FInv W B T t ⟨(List.replicate F 120).toArray⟩ ⟨(List.replicate (q - F - 1) 120).toArray⟩ q F) (by kernel_rfl) ?_ (fun listed a w h i hr => fstep hT hB hF hq ht rfl rfl h i hr) ?_
    · refine ⟨h1, h2, h3, h5, h7, by simp [fsize], fun k hk hl => ?_, fun hl => ?_, W.drew, (Below.refl _ _).drew, .inl ⟨?_, rfl⟩⟩
      · rw [fsize] at hl
        simp [show k < 12 by omega] at hl
      · rw [fsize] at hl
        simp at hl
      · rw [fsize]
        simp
    · intro listed a w h hr
      have hd := allDone fearlier (by rw [h.ls, fsize]) hr 11 (by rw [fsize]; omega)
      have hd2 : listed.getD 11 false = true := by
        have : 11 < listed.size := by rw [h.ls]; omega
        simp [this] at hd ⊢
        exact hd
      obtain ⟨w2, hb, e | e⟩ := h.wd
      · rw [hd2] at e
        cases e.1
      · rw [e.2]
        exact hQ a w2 hb
  exact key
end
end Go.Proofs.Ytjfkhfahpjdidaa
