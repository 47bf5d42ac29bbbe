/- Words as package word goes over them: rune by rune: plain data. -/
import Derived.Test.YtipioeecgcljoaaDoorW6
import Derived.Lib.SpaceUEq
import Derived.Lib.OthersKept
namespace Go.Proofs.YtipioeecgcljoaaDoor
set_option linter.unusedVariables false
set_option linter.unusedSimpArgs false
set_option maxRecDepth 100000
open Go.RowKit

/-- A text's iterator. -/
def It (w : World) (k : Nat) (s : ByteArray) (p : Nat) : Prop := w.heap[k]? = some (.stringIter s p)
theorem It.lt {w : World} {I p : Nat} {s : ByteArray} (h : It w I s p) : I < w.heap.size := (Array.getElem?_eq_some_iff.1 h).1
theorem It.moved {w : World} {I p : Nat} {s : ByteArray} (h : It w I s p) (q : Nat) : It (w.iterAt I s q) I s q := Lib.iterAt_heap w I s p q h
theorem It.pos {w : World} {I p : Nat} {s : ByteArray} (h : It w I s p) : w.iterPos I = p := iterPos_of h
theorem It.new (w : World) (s : ByteArray) (p : Nat) : It (w.iter s p) w.heap.size s p := World.iter_heap w s p
theorem It.nx {w : World} {I p : Nat} {s : ByteArray} (h : It w I s p) (hp : p < s.size) {r k : Nat} (hr : Utf8.decode s p = (r, k)) (ty : TypeId) :
    (Instr.next (.pointer (some ⟨I, 0, none⟩)) true ty).run Tryd.prog w = .ok (.tuple #[.bool true, .int .i64 p, .int .i32 r]) (w.iterAt I s (p + k)) := by
  have := Lib.run_next_any_at (P := Tryd.prog) w I s p ty h hp
  rw [hr] at this
  exact this
theorem It.done {w : World} {I p : Nat} {s : ByteArray} (h : It w I s p) (hp : ¬ p < s.size) (ty : TypeId) :
    (Instr.next (.pointer (some ⟨I, 0, none⟩)) true ty).run Tryd.prog w = .ok (.tuple #[.bool false]) w := Lib.run_next_end_at w I s p ty h hp
theorem It.below {w w' : World} {I p : Nat} {s : ByteArray} (h : It w I s p) (hb : Below w.heap.size w w') : It w' I s p := (hb.block I h.lt).trans h
theorem Below.moved {w w' : World} {B I : Nat} (h : Below B w w') (hi : B ≤ I) (s : ByteArray) (q : Nat) : Below B w (w'.iterAt I s q) := Lib.below_iterAt h hi s q
theorem jump_ret {l : Nat} {J : Act → World → Prop} {Q : Exit → Act → World → Prop} {a : Act} {w : World} : Exit.jump l J Q .ret a w = Q .ret a w := rfl

/- Names. -/
theorem nameN_over (s : ByteArray) : ∀ f p n, 7 ≤ n → nameN s f p n = false
  | 0, _, _, _ => rfl
  | f + 1, p, n, h => by
    rw [nameN]
    split
    · split
      · exact nameN_over s f _ _ (by omega)
      · rfl
    · simp; omega
theorem nameN_six (s : ByteArray) (f p : Nat) (h : p < s.size) : nameN s f p 6 = false := by
  cases f with
  | zero => rfl
  | succ f =>
    rw [nameN, if_pos h]
    split
    · exact nameN_over s f _ _ (by omega)
    · rfl

/- Runes and bytes. -/
theorem get_in (s : ByteArray) (i : Nat) (h : i < s.size) : s.get! i = s[i] := by
  show s.data[i]! = s.data[i]
  rw [getElem!_pos]
theorem dec_low {s : ByteArray} {p r k : Nat} (h : p < s.size) (hr : Utf8.decode s p = (r, k)) (hl : r < 128) : k = 1 ∧ (s[p]'h).toNat = r := by
  by_cases ha : (s[p]'h).toNat < 128
  · rw [decode_ascii s p h ha] at hr
    have h1 := congrArg Prod.fst hr
    have h2 := congrArg Prod.snd hr
    simp only at h1 h2
    omega
  · have := (decode_high s p h (by omega)).1
    rw [hr] at this
    simp only at this
    omega
theorem dec_high {s : ByteArray} {p r k : Nat} (h : p < s.size) (hr : Utf8.decode s p = (r, k)) (hl : 128 ≤ r) : 128 ≤ (s[p]'h).toNat := by
  apply Nat.le_of_not_lt
  intro ha
  rw [decode_ascii s p h ha] at hr
  have h1 := congrArg Prod.fst hr
  simp only at h1
  omega
theorem dec_conts {s : ByteArray} {p r k : Nat} (h : p < s.size) (hr : Utf8.decode s p = (r, k)) (hl : 128 ≤ r) (j : Nat) (hj : j < k) : p + j < s.size ∧ 128 ≤ byteE s (p + j) := by
  have h0 := dec_high h hr hl
  have hc := Lib.decodeN_conts (s.size - p) (s.get! p).toNat (s.get! (p + 1)).toNat (s.get! (p + 2)).toNat (s.get! (p + 3)).toNat
  rw [← Lib.decode_at, hr] at hc
  simp only at hc
  obtain ⟨c2, c3, c4, c5⟩ := hc
  have key : ∀ i, (s.get! (p + i)).toNat / 64 = 2 ∧ i < s.size - p → p + i < s.size ∧ 128 ≤ byteE s (p + i) := by
    intro i hi
    have hlt : p + i < s.size := by omega
    refine ⟨hlt, ?_⟩
    rw [byteE_lt hlt, ← get_in s (p + i) hlt]
    omega
  match j, hj with
  | 0, _ => exact ⟨h, by rw [Nat.add_zero, byteE_lt h]; exact h0⟩
  | 1, hj => exact key 1 (c2 (by omega))
  | 2, hj => exact key 2 (c3 (by omega))
  | 3, hj => exact key 3 (c4 (by omega))
  | j + 4, hj => omega

/- Words. -/
/-- What 'put' makes of the words so far. -/
def putL (l : List Tok) (s : ByteArray) (a b : Nat) : List Tok := if a = b then l else l ++ [(s.extract a b, a)]
/-- Where the walk by runes stands, said of the walk by bytes. -/
def WordI (s : ByteArray) (p a : Nat) (l : List Tok) : Prop := (tokSt s p).2 = l ∧ (((tokSt s p).1 = some a ∧ a < p) ∨ ((tokSt s p).1 = none ∧ a = p))
theorem WordI.le {s : ByteArray} {p a : Nat} {l : List Tok} (h : WordI s p a l) : a ≤ p := by rcases h.2 with h | h <;> omega
theorem WordI.start (s : ByteArray) : WordI s 0 0 [] := ⟨rfl, Or.inr ⟨rfl, rfl⟩⟩
theorem WordI.fin {s : ByteArray} {p a : Nat} {l : List Tok} (h : WordI s p a l) : endT s p (tokSt s p) = putL l s a p := by
  rw [endT, putL]
  rcases h.2 with ⟨h1, h2⟩ | ⟨h1, h2⟩
  · rw [h1, h.1, if_neg (by omega)]
  · rw [h1, h.1, if_pos h2]
theorem WordI.in1 {s : ByteArray} {p a : Nat} {l : List Tok} (h : WordI s p a l) (h1 : ¬ byteE s p = 32) (h2 : ¬ byteE s p = 9) (h3 : ¬ byteE s p = 61) : WordI s (p + 1) a l := by
  have e : tokSt s (p + 1) = tokStep s p (tokSt s p) := rfl
  rw [step_in h1 h2 h3] at e
  refine ⟨by rw [e]; exact h.1, Or.inl ?_⟩
  rw [e]
  rcases h.2 with ⟨g1, g2⟩ | ⟨g1, g2⟩
  · rw [g1]; exact ⟨rfl, by omega⟩
  · rw [g1]; exact ⟨by rw [g2], by omega⟩
theorem WordI.many {s : ByteArray} {a : Nat} {l : List Tok} : ∀ {k p : Nat}, WordI s p a l → (∀ j, j < k → 128 ≤ byteE s (p + j)) → WordI s (p + k) a l
  | 0, p, h, _ => h
  | k + 1, p, h, hk => by
    have h0 := hk 0 (by omega)
    rw [Nat.add_zero] at h0
    have := WordI.many (k := k) (h.in1 (by omega) (by omega) (by omega)) (fun j hj => by have := hk (j + 1) (by omega); rw [Nat.add_assoc, Nat.add_comm 1 j]; exact this)
    rw [show p + (k + 1) = p + 1 + k by omega]
    exact this
/-- A rune that ends no word. -/
theorem WordI.rune {s : ByteArray} {p a r k : Nat} {l : List Tok} (h : WordI s p a l) (hp : p < s.size) (hr : Utf8.decode s p = (r, k)) (h1 : ¬ r = 32) (h2 : ¬ r = 9) (h3 : ¬ r = 61) : WordI s (p + k) a l := by
  by_cases hl : r < 128
  · obtain ⟨rfl, hb⟩ := dec_low hp hr hl
    exact h.in1 (by rw [byteE_lt hp]; omega) (by rw [byteE_lt hp]; omega) (by rw [byteE_lt hp]; omega)
  · exact h.many (fun j hj => (dec_conts hp hr (by omega) j hj).2)
theorem WordI.gap {s : ByteArray} {p a r k : Nat} {l : List Tok} (h : WordI s p a l) (hp : p < s.size) (hr : Utf8.decode s p = (r, k)) (h1 : r = 32 ∨ r = 9) : k = 1 ∧ WordI s (p + 1) (p + 1) (putL l s a p) := by
  obtain ⟨rfl, hb⟩ := dec_low hp hr (by omega)
  have e : tokSt s (p + 1) = (none, endT s p (tokSt s p)) := by rw [tokSt, step_end (by rw [byteE_lt hp]; omega)]
  exact ⟨rfl, by rw [e, h.fin], Or.inr ⟨by rw [e], rfl⟩⟩
theorem one_61 {s : ByteArray} {p : Nat} (hp : p < s.size) (hb : (s[p]'hp).toNat = 61) : s.extract p (p + 1) = ⟨#[61]⟩ := by
  apply ByteArray.ext
  rw [ByteArray.data_extract]
  have h0 : p < s.data.size := hp
  have e : s.data[p] = 61 := by
    have : s.data[p].toNat = 61 := hb
    exact UInt8.toNat_inj.1 this
  apply Array.ext
  · simp; omega
  · intro i h1 h2
    simp at h1 h2 ⊢
    have : i = 0 := by omega
    subst this
    simpa using e
theorem WordI.eq {s : ByteArray} {p a r k : Nat} {l : List Tok} (h : WordI s p a l) (hp : p < s.size) (hr : Utf8.decode s p = (r, k)) (h1 : r = 61) : k = 1 ∧ WordI s (p + 1) (p + 1) (putL (putL l s a p) s p (p + 1)) := by
  obtain ⟨rfl, hb⟩ := dec_low hp hr (by omega)
  have e : tokSt s (p + 1) = (none, endT s p (tokSt s p) ++ [(⟨#[61]⟩, p)]) := by rw [tokSt, step_eq (by rw [byteE_lt hp]; omega)]
  refine ⟨rfl, ?_, Or.inr ⟨by rw [e], rfl⟩⟩
  rw [e, h.fin]
  generalize putL l s a p = m
  rw [putL, if_neg (by omega), one_61 hp (by omega)]
theorem WordI.last {s : ByteArray} {a : Nat} {l : List Tok} (h : WordI s s.size a l) : putL l s a s.size = toksW s := by
  rw [toksW, tokSt, step_end (Or.inl (byteE_end s)), ← h.fin]
theorem putL_len (l : List Tok) (s : ByteArray) (a b : Nat) : (putL l s a b).length ≤ l.length + 1 := by
  rw [putL]; split <;> simp
theorem badR_not {r k : Nat} (h : letR r = true ∨ digR r = true ∨ r = 45 ∨ r = 61 ∨ r = 32 ∨ r = 9) : badR r k = false := by
  have hn : ¬ r = 65533 := by
    rintro rfl
    rcases h with h | h | h | h | h | h
    · simp [letR] at h
    · simp [digR] at h
    all_goals omega
  rw [badR]
  rcases h with h | h | h | h | h | h <;> simp [h] <;> omega
theorem badR_yes {r k : Nat} (h1 : letR r = false) (h2 : digR r = false) (h3 : ¬ r = 45) (h4 : ¬ r = 61) (h5 : ¬ r = 32) (h6 : ¬ r = 9) : badR r k = true := by
  simp [badR, h1, h2, h3, h4, h5, h6]
end Go.Proofs.YtipioeecgcljoaaDoor
