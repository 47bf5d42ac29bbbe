/- Part 8 of the texts that the theorem leans on. -/
import Derived.Test.YtkojdigaoihkpaaGreatDoorA07
section
namespace Go.Proofs.YtkojdigaoihkpaaGreatDoor
set_option linter.unusedVariables false
set_option linter.unusedSimpArgs false
set_option maxRecDepth 100000
open Go.ChangeShapes Go.WideShapes Go.ChangeAt Go.RowKit Go.Joins Go.Deep

theorem cellsAskW : Tryz.prog.cellsOf 25 = 2 := by kernel_rfl
theorem cellsStrsW : Tryz.prog.cellsOf 22 = 1 := by kernel_rfl
theorem cellsStrW : Tryz.prog.cellsOf 9 = 1 := by kernel_rfl
theorem cellsNumsW : Tryz.prog.cellsOf 23 = 1 := by kernel_rfl
theorem cellsNumW : Tryz.prog.cellsOf 3 = 1 := by kernel_rfl
theorem bytesNumW : Tryz.prog.bytesOf 3 = 8 := by kernel_rfl
theorem bytesStrW : Tryz.prog.bytesOf 9 = 16 := by kernel_rfl
/-- Nothing in the reading takes more than the reach. -/
def SzdW {H : Type} (t : TypeId) (d : DataW H) : Prop := ∀ n ∈ d.weights Tryz.prog t, n ≤ reachBytes
theorem szdW_all {H : Type} {e : TypeId} : ∀ {l : List (DataW H)}, (∀ n ∈ DataW.weightsAll Tryz.prog e l, n ≤ reachBytes) → ∀ d ∈ l, SzdW e d
  | [], _, d, hd => by simp at hd
  | x :: r, h, d, hd => by
    simp only [DataW.weightsAll, List.mem_append] at h
    rcases List.mem_cons.1 hd with rfl | hd
    · exact fun n hn => h n (Or.inl hn)
    · exact szdW_all (fun n hn => h n (Or.inr hn)) d hd
theorem szdW_slice {H : Type} {t e : TypeId} {l s : List (DataW H)} (ht : Tryz.prog.underlying t = some (.slice e)) (h : SzdW t (.slice l s)) :
    (l.length + s.length) * Tryz.prog.bytesOf e ≤ reachBytes ∧ ∀ d ∈ l, SzdW e d := by
  simp only [SzdW, DataW.weights, ht] at h
  refine ⟨h _ (List.mem_cons_self ..), szdW_all fun n hn => h n (List.mem_cons_of_mem _ (List.mem_append.2 (Or.inl hn)))⟩
/-- A list of numbers, as an argument holds it. -/
structure Nums (w : World) (v : Value) (L : List Int) : Prop where
  row : Holds w v L.length (L.map (Value.int .i64))
  len : L.length ≤ 17592186043904
  each : ∀ x ∈ L, -9223372036854775808 ≤ x ∧ x ≤ 9223372036854775807
section
variable {H : Type} {enc : TypeId × Value → H} {w : World}
theorem open_StrsW {fuel : Nat} {v : Value} {x : DataW H × List MemPlace} (h : DataW.trod enc Tryz.prog w 0 (fun _ => true) true fuel 22 [v] = some x) (hs : SzdW 22 x.1) : ∃ L, Strs w v L := by
  rcases open_strs Tryz.underlying22 Tryz.underlying9 cellsStrW h with ⟨hcs, _⟩ | ⟨a, len, cap, m, Sx, hcs, _, hl, hm, hmm, hx, hcell⟩
  · simp at hcs
    subst hcs
    exact ⟨[], Holds.nil w, by simp, fun i hi => by simp at hi⟩
  · simp at hcs
    subst hcs
    simp only [if_true] at hmm
    have hz := szdW_slice Tryz.underlying22 (by rw [hx] at hs; exact hs)
    have hb : len ≤ 8796093022208 := by
      have := hz.1
      rw [bytesStrW] at this
      simp [reachBytes] at this
      omega
    refine ⟨(List.range len).map Sx, ⟨a, cap, by simp, fun j u hu => ?_⟩, by simp; omega, fun i hi => ?_⟩
    · have hj : j < len := by
        have := (List.getElem?_eq_some_iff.1 hu).1
        simpa [cellsS] using this
      have hc := (hcell j (by omega)).1
      obtain ⟨b, off, spot⟩ := a
      have hsp : spot = none := by
        have hc0 := World.cell?_spot (hcell 0 (by omega)).1
        simpa [Addr.add] using hc0
      subst hsp
      refine ⟨b, off, rfl, ?_⟩
      rw [addr_addW] at hc
      rw [hc]
      simp [cellsS, hj] at hu
      rw [hu]
    · have hi' : i < len := by simpa using hi
      have h1 := hz.2 (.lit (.string (Sx i).data.toList)) (by simp only [List.mem_map, List.mem_range]; exact ⟨i, hi', rfl⟩)
      have h2 := h1 _ (by simp only [DataW.weights]; exact List.mem_singleton.2 rfl)
      rw [len_list] at h2
      simp [reachBytes] at h2
      simp only [List.getElem_map, List.getElem_range]
      omega
theorem open_NumsW {fuel : Nat} {v : Value} {x : DataW H × List MemPlace} (h : DataW.trod enc Tryz.prog w 0 (fun _ => true) true fuel 23 [v] = some x) (hs : SzdW 23 x.1) : ∃ L, Nums w v L := by
  rcases open_ints Tryz.underlying23 Tryz.underlying3 cellsNumW h with ⟨hcs, _⟩ | ⟨a, len, cap, zs, hcs, _, hl, hm, hz, hx, hcell, hwf⟩
  · simp at hcs
    subst hcs
    exact ⟨[], Holds.nil w, by simp, fun i hi => by simp at hi⟩
  · simp at hcs
    subst hcs
    simp at hz
    have hb8 : len ≤ 17592186043904 := by
      have := (szdW_slice Tryz.underlying23 (by rw [hx] at hs; exact hs)).1
      rw [bytesNumW] at this
      simp [lits, reachBytes] at this
      omega
    have hlen : (zs.take len).length = len := by simp; omega
    refine ⟨zs.take len, ⟨a, cap, by rw [hlen], fun j u hu => ?_⟩, by omega, fun x hx => ?_⟩
    · have hj : j < len := by
        have := (List.getElem?_eq_some_iff.1 hu).1
        rw [List.length_map, hlen] at this
        exact this
      have hc := hcell j (by omega)
      obtain ⟨b, off, spot⟩ := a
      have hsp : spot = none := by
        have hc0 := World.cell?_spot (hcell 0 (by omega))
        simpa [Addr.add] using hc0
      subst hsp
      refine ⟨b, off, rfl, ?_⟩
      rw [addr_addW] at hc
      rw [hc]
      have hjz : j < zs.length := by omega
      simp [List.getElem?_take, hj, hjz] at hu
      rw [← hu]
      simp [List.getD, hjz]
    · have := hwf x (List.mem_of_mem_take hx)
      simp only [Lit.wf, IntKind.min, IntKind.max, IntKind.signed, IntKind.bits, Bool.and_eq_true, decide_eq_true_eq, if_true] at this
      omega
/-- The whole of it: what graduslaw7's argument lays in memory. -/
theorem open_Ask7 {base : Nat} {v : Value} {d : DataW H} {p : List MemPlace} (hv : Value.okWide Tryz.prog w .any base 25 v) (h : DataW.Trod enc Tryz.prog w 0 (fun _ => true) true 25 v d p) (hs : SzdW 25 d) :
    ∃ (f0 f1 : Value) (S : List ByteArray) (N : List Int), v = .agg #[f0, f1] ∧ Strs w f0 S ∧ Nums w f1 N := by
  obtain ⟨cs, rfl, hsz⟩ := okWide_struct Tryz.underlying25 hv
  obtain ⟨c0, c1, rfl⟩ : ∃ c0 c1, cs = #[c0, c1] := by
    have h2 := hsz.trans cellsAskW
    obtain ⟨l⟩ := cs
    match l, h2 with
    | [c0, c1], _ => exact ⟨c0, c1, rfl⟩
  obtain ⟨fuel, hf⟩ := h
  obtain ⟨y0, y1, n, hx, _, h0, h1⟩ := trod_struct2 Tryz.underlying25 hf
  simp only [Prod.mk.injEq] at hx
  obtain ⟨rfl, rfl⟩ := hx
  have h0' : DataW.trod enc Tryz.prog w 0 (fun _ => true) true n 22 [c0] = some y0 := by simpa [Value.cells, cellsStrsW] using h0
  have h1' : DataW.trod enc Tryz.prog w 0 (fun _ => true) true n 23 [c1] = some y1 := by simpa [Value.cells, cellsStrsW, cellsNumsW] using h1
  have hw : ∀ q, (q ∈ y0.1.weights Tryz.prog 22 ∨ q ∈ y1.1.weights Tryz.prog 23) → q ≤ reachBytes := by
    intro q hq
    refine hs q ?_
    simp only [DataW.weights, Tryz.underlying25, DataW.weightsEach, List.map_cons, List.map_nil, List.mem_append, List.append_nil]
    exact hq
  obtain ⟨S, hS⟩ := open_StrsW h0' (fun q hq => hw q (Or.inl hq))
  obtain ⟨N, hN⟩ := open_NumsW h1' (fun q hq => hw q (Or.inr hq))
  exact ⟨c0, c1, S, N, rfl, hS, hN⟩
end
end Go.Proofs.YtkojdigaoihkpaaGreatDoor

end
section
namespace Go.Proofs.YtkojdigaoihkpaaGreatDoor
set_option linter.unusedVariables false
set_option linter.unusedSimpArgs false
set_option maxRecDepth 100000
open Go.RowKit

/-- A byte of a word, if it is one of one byte. -/
def bytW (b : Nat) : Bool := (decide (97 ≤ b) && decide (b ≤ 122)) || (decide (48 ≤ b) && decide (b ≤ 57)) || decide (b = 45)
def greW (b c : Nat) : Bool := decide (128 ≤ b) && decide (b / 32 = 6) && decide (128 ≤ c) && decide (c / 64 = 2) && decide (945 ≤ b % 32 * 64 + c % 64) && decide (b % 32 * 64 + c % 64 ≤ 969)
def bytG (b : Nat) : Bool := decide (b = 61) || decide (b = 32) || decide (b = 9)
/-- Bytes of words, g: and of what stands between. -/
def okB (g : Bool) : List UInt8 → Bool
  | [] => true
  | [b] => bytW b.toNat || (g && bytG b.toNat)
  | b :: c :: r => if bytW b.toNat || (g && bytG b.toNat) then okB g (c :: r) else (greW b.toNat c.toNat && okB g r)
theorem okB_one (g : Bool) (b : UInt8) (r : List UInt8) (h : (bytW b.toNat || (g && bytG b.toNat)) = true) : okB g (b :: r) = okB g r := by
  cases r with
  | nil => exact h
  | cons c r => rw [okB, if_pos h]
theorem gre_not {b c : Nat} (h : greW b c = true) (g : Bool) : ¬ (bytW b || (g && bytG b)) = true := by
  simp only [greW, Bool.and_eq_true, decide_eq_true_eq] at h
  simp only [bytW, bytG, Bool.or_eq_true, Bool.and_eq_true, decide_eq_true_eq]
  omega
theorem okB_two (g : Bool) (b c : UInt8) (r : List UInt8) (h : greW b.toNat c.toNat = true) : okB g (b :: c :: r) = okB g r := by
  rw [okB, if_neg (gre_not h g), h, Bool.true_and]
theorem okB_append (g : Bool) (v : List UInt8) (hv : okB g v = true) : ∀ (n : Nat) (u : List UInt8), u.length ≤ n → okB g u = true → okB g (u ++ v) = true
  | _, [], _, _ => hv
  | 0, _ :: _, h, _ => by simp at h
  | n + 1, [b], _, hu => by
    rw [okB] at hu
    rw [List.cons_append, okB_one g b _ hu]
    exact hv
  | n + 1, b :: c :: r, hn, hu => by
    by_cases h : (bytW b.toNat || (g && bytG b.toNat)) = true
    · rw [okB_one g b _ h] at hu
      rw [List.cons_append, okB_one g b _ h]
      exact okB_append g v hv n (c :: r) (by simpa using hn) hu
    · rw [okB, if_neg h, Bool.and_eq_true] at hu
      rw [List.cons_append, List.cons_append, okB_two g b c _ hu.1]
      exact okB_append g v hv n r (by simp at hn; omega) hu.2
/-- The bytes of a good rune. -/
theorem rune_okB {s : ByteArray} {p r k : Nat} (hp : p < s.size) (hr : Utf8.decode s p = (r, k)) (h : letR r = true ∨ digR r = true ∨ r = 45) : okB false (s.extract p (p + k)).data.toList = true := by
  rw [Lib.extract_data]
  have hl : p < s.data.toList.length := by rw [len_list]; exact hp
  by_cases hlo : r < 128
  · obtain ⟨rfl, hb⟩ := dec_low hp hr hlo
    rw [List.drop_eq_getElem_cons hl, get_list s p hp hl, show p + 1 - p = 0 + 1 by omega, List.take_succ_cons, List.take_zero, okB, hb]
    simp only [Bool.false_and, Bool.or_false, bytW, Bool.or_eq_true, Bool.and_eq_true, decide_eq_true_eq]
    simp only [letR, digR, Bool.or_eq_true, Bool.and_eq_true, decide_eq_true_eq] at h
    omega
  · have hle : letR r = true := by
      rcases h with h | h | h
      · exact h
      · simp only [digR, Bool.and_eq_true, decide_eq_true_eq] at h; omega
      · omega
    simp only [letR, Bool.or_eq_true, Bool.and_eq_true, decide_eq_true_eq] at hle
    have h0 := dec_high hp hr (by omega)
    have hs := Lib.decodeN_shape (s.size - p) (s.get! p).toNat (s.get! (p + 1)).toNat (s.get! (p + 2)).toNat (s.get! (p + 3)).toNat
    rw [← Lib.decode_at, hr, get_in s p hp] at hs
    simp only [Prod.mk.injEq] at hs
    have hs2 : (s[p]'hp).toNat / 32 = 6 ∧ 1 < s.size - p ∧ (s.get! (p + 1)).toNat / 64 = 2 ∧ 128 ≤ (s[p]'hp).toNat % 32 * 64 + (s.get! (p + 1)).toNat % 64 ∧ r = (s[p]'hp).toNat % 32 * 64 + (s.get! (p + 1)).toNat % 64 ∧ k = 2 := by
      rcases hs with hs | hs | hs | hs | hs
      · omega
      · exact hs
      · omega
      · omega
      · omega
    obtain ⟨q1, q2, q3, q4, q5, rfl⟩ := hs2
    have hp1 : p + 1 < s.size := by omega
    have hl1 : p + 1 < s.data.toList.length := by rw [len_list]; exact hp1
    rw [get_in s (p + 1) hp1] at q3 q4 q5
    rw [List.drop_eq_getElem_cons hl, List.drop_eq_getElem_cons hl1, get_list s p hp hl, get_list s (p + 1) hp1 hl1, show p + 2 - p = 0 + 1 + 1 by omega, List.take_succ_cons, List.take_succ_cons, List.take_zero, okB_two]
    · rfl
    · simp only [greW, Bool.and_eq_true, decide_eq_true_eq]
      omega
/-- A word, as it stands in its line. -/
def TokOK (x : ByteArray) (t : Tok) : Prop := t.2 + t.1.size ≤ x.size ∧ x.extract t.2 (t.2 + t.1.size) = t.1 ∧ ((okB false t.1.data.toList = true ∧ 0 < t.1.size) ∨ t.1 = ⟨#[61]⟩)
theorem extract_join (s : ByteArray) (a p q : Nat) (h1 : a ≤ p) (h2 : p ≤ q) : (s.extract a q).data.toList = (s.extract a p).data.toList ++ (s.extract p q).data.toList := by
  rw [← List.append_nil (s.extract a q).data.toList]
  simp only [Lib.extract_data, List.append_nil]
  rw [show q - a = (p - a) + (q - p) by omega, List.take_add, List.drop_drop, show a + (p - a) = p by omega]
theorem putL_ok {x : ByteArray} {l : List Tok} {a p : Nat} (hl : ∀ t ∈ l, TokOK x t) (hap : a ≤ p) (hp : p ≤ x.size) (ha : okB false (x.extract a p).data.toList = true) : ∀ t ∈ putL l x a p, TokOK x t := by
  rw [putL]
  split
  · exact hl
  · intro t ht
    rcases List.mem_append.1 ht with ht | ht
    · exact hl t ht
    · simp only [List.mem_cons, List.not_mem_nil, or_false] at ht
      have hs : (x.extract a p).size = p - a := by rw [ByteArray.size_extract]; omega
      subst ht
      refine ⟨by show a + (x.extract a p).size ≤ _; omega, ?_, Or.inl ⟨ha, by show 0 < (x.extract a p).size; omega⟩⟩
      show x.extract a (a + (x.extract a p).size) = x.extract a p
      rw [hs, show a + (p - a) = p by omega]
theorem okB_none (x : ByteArray) (p : Nat) : okB false (x.extract p p).data.toList = true := by
  rw [Lib.extract_data, Nat.sub_self]; rfl
theorem toks_ok (x : ByteArray) : ∀ (f p a : Nat) (l : List Tok), p ≤ x.size → x.size - p < f → badN x f p = none → WordI x p a l → (∀ t ∈ l, TokOK x t) → okB false (x.extract a p).data.toList = true → ∀ t ∈ toksW x, TokOK x t := by
  intro f
  induction f with
  | zero => intro p a l hp hf; omega
  | succ f ih =>
    intro p a l hp hf hb hW hl ha
    have hap := hW.le
    by_cases hlt : p < x.size
    · obtain ⟨⟨r, k⟩, hrk⟩ : ∃ y, Utf8.decode x p = y := ⟨_, rfl⟩
      have hk1 := decode_lo x p
      have hk2 := decode_le x p hlt
      rw [badN, if_pos hlt, hrk] at hb
      rw [hrk] at hk1 hk2
      simp only at hb hk1 hk2
      by_cases hbr : badR r k = true
      · rw [if_pos hbr] at hb; cases hb
      · rw [if_neg hbr] at hb
        by_cases h61 : r = 61
        · obtain ⟨rfl, hW2⟩ := hW.eq hlt hrk h61
          refine ih (p + 1) (p + 1) _ hk2 (by omega) hb hW2 ?_ (okB_none x _)
          have h1 := putL_ok hl hap hp ha
          have hb1 := (dec_low hlt hrk (by omega)).2
          intro t ht
          rw [putL, if_neg (by omega)] at ht
          rcases List.mem_append.1 ht with ht | ht
          · exact h1 t ht
          · simp only [List.mem_cons, List.not_mem_nil, or_false] at ht
            have e := one_61 hlt (by omega)
            subst ht
            refine ⟨?_, ?_, Or.inr e⟩
            · show p + (x.extract p (p + 1)).size ≤ _
              rw [e]; exact hk2
            · show x.extract p (p + (x.extract p (p + 1)).size) = x.extract p (p + 1)
              rw [e]; exact e
        · by_cases hg : r = 32 ∨ r = 9
          · obtain ⟨rfl, hW2⟩ := hW.gap hlt hrk hg
            exact ih (p + 1) (p + 1) _ hk2 (by omega) hb hW2 (putL_ok hl hap hp ha) (okB_none x _)
          · have hgood : letR r = true ∨ digR r = true ∨ r = 45 := by
              cases e1 : letR r with
              | true => exact Or.inl rfl
              | false =>
                cases e2 : digR r with
                | true => exact Or.inr (Or.inl rfl)
                | false =>
                  by_cases e3 : r = 45
                  · exact Or.inr (Or.inr e3)
                  · exact absurd (badR_yes e1 e2 e3 h61 (by omega) (by omega)) hbr
            refine ih (p + k) a l hk2 (by omega) hb (hW.rune hlt hrk (by omega) (by omega) h61) hl ?_
            rw [extract_join x a p (p + k) hap (by omega)]
            exact okB_append false _ (rune_okB hlt hrk hgood) _ _ (Nat.le_refl _) ha
    · obtain rfl : p = x.size := by omega
      rw [← hW.last]
      exact putL_ok hl hap (Nat.le_refl _) ha
theorem fine_toks {x : ByteArray} (h : badW x = none) : ∀ t ∈ toksW x, TokOK x t :=
  toks_ok x (x.size + 1) 0 0 [] (Nat.zero_le _) (by omega) h (WordI.start x) (fun t ht => by simp at ht) (okB_none x 0)
theorem app_size (s u : ByteArray) : (s ++ u).size = s.size + u.size := by simp
end Go.Proofs.YtkojdigaoihkpaaGreatDoor

end
section
namespace Go.Proofs.YtkojdigaoihkpaaGreatDoor
set_option linter.unusedVariables false
set_option linter.unusedSimpArgs false
set_option maxRecDepth 100000
open Go.RowKit

set_option maxHeartbeats 8000000 in
theorem rwords_bad (s : ByteArray) (w : World) (hs : s.size ≤ 1000000) (hT : Lib.Utf8Tabs 0 1 w) (q : Nat) (hq : badW s = some q) :
    Calls Tryz.prog 30 #[.string s] w fun e w' => e = .returned (.tuple #[.slice none 0 0, .int .i64 q, .bool false]) ∧ Below w.heap.size w w' := by
  have HT : Hid (Lib.Utf8Tabs 0 1 w) := hT
  have HQ0 : Hid (badN s (s.size + 1) 0 = some q) := hq
  clear hT hq
  go_enter Tryz.func30, Tryz.ntmps30
  go_wp2
  go_loopw [5] (fun i w' => ∃ (p f : Nat), p ≤ s.size ∧ i = .int .i64 p ∧ Hid (s.size - p < f ∧ badN s f p = (some q)) ∧ Hid (Below w.heap.size w w')) (fun i _ => s.size - (intOf i).toNat)
  case atStart => exact ⟨0, s.size + 1, Nat.zero_le _, rfl, ⟨by omega, HQ0.out⟩, Below.refl _ _⟩
  case round =>
    obtain ⟨p, f, hp, rfl, HF, HB⟩ := hrel
    by_cases hlt : p < s.size
    · obtain ⟨⟨r, k⟩, hrk⟩ : ∃ x, Utf8.decode s p = x := ⟨_, rfl⟩
      have hk1 := decode_lo s p
      have hk2 := decode_le s p hlt
      rw [hrk] at hk1 hk2
      simp only at hk1 hk2
      obtain ⟨g, hg⟩ : ∃ g, f = g + 1 := ⟨f - 1, by have := HF.out.1; omega⟩
      subst hg
      have HF2 : Hid ((if badR r k = true then some p else badN s g (p + k)) = (some q)) := by
        have h := HF.out.2
        rw [badN, if_pos hlt, hrk] at h
        exact h
      have HG : Hid (s.size - (p + k) < g) := by have := HF.out.1; show _ < _; omega
      have HRK : Hid (Utf8.decode s p = (r, k)) := hrk
      obtain ⟨b, hb⟩ : ∃ b, s.extract p s.size = b := ⟨_, rfl⟩
      have HD : Hid (∀ (w : World), Lib.Utf8Tabs 0 1 w → Calls Tryz.prog 56 #[.string b] w fun e w' => e = .returned (.tuple #[.int .i32 r, .int .i64 k]) ∧ Below w.heap.size w w') := fun w hT => by
        have h := decode_to s p hlt w hT r k HRK.out
        rw [hb] at h
        exact h
      clear HF hrk
      by_cases h1 : r = 65533
      · have HL : Hid (letR r = false) := by show _ = _; rw [h1]; rfl
        have HDG : Hid (digR r = false) := by show _ = _; rw [h1]; rfl
        have H1 : Hid (r = 65533) := h1
        have e1 : ((r : Int) == 65533) = true := by rw [beq_iff_eq]; omega
        have n45 : ((r : Int) != 45) = true := by rw [bne_iff_ne]; omega
        have n61 : ((r : Int) != 61) = true := by rw [bne_iff_ne]; omega
        have n32 : ((r : Int) != 32) = true := by rw [bne_iff_ne]; omega
        have n9 : ((r : Int) != 9) = true := by rw [bne_iff_ne]; omega
        by_cases hk3 : k ≤ 1
        · have g3 : (k : Int) ≤ 1 := by omega
          clear h1
          have HQ : Hid (p = q) := by
            have h := HF2.out
            rw [if_pos (by rw [badR, H1.out]; simp [hk3])] at h
            show p = q
            simpa using h
          clear HF2
          go_wp2_with (first
              | (go_at_call 56; refine (HD.out _ (Utf8Tabs_below HT.out HB.out)).mono ?_; rintro e w1 ⟨rfl, hb1⟩; have HB1 : Hid (Below w.heap.size w w1) := Below.after HB.out hb1; clear hb1)
              | (go_at_call 57; refine (rletter_to r _ false HL.out).mono ?_; rintro e w2 ⟨rfl, rfl⟩))
          go_ret3
          exact ⟨by rw [HQ.out]; rfl, HB1.out⟩
        · have g3 : ¬ (k : Int) ≤ 1 := by omega
          clear h1
          have HQ : Hid (p = q) := by
            have h := HF2.out
            rw [if_pos (by rw [badR, HL.out, HDG.out, H1.out]; simp)] at h
            show p = q
            simpa using h
          clear HF2
          go_wp2_with (first
              | (go_at_call 56; refine (HD.out _ (Utf8Tabs_below HT.out HB.out)).mono ?_; rintro e w1 ⟨rfl, hb1⟩; have HB1 : Hid (Below w.heap.size w w1) := Below.after HB.out hb1; clear hb1)
              | (go_at_call 57; refine (rletter_to r _ false HL.out).mono ?_; rintro e w2 ⟨rfl, rfl⟩)
              | (go_at_call 58; refine (rdigit_to r _ false HDG.out).mono ?_; rintro e w2 ⟨rfl, rfl⟩))
          go_ret3
          exact ⟨by rw [HQ.out]; rfl, HB1.out⟩
      · have e1 : ((r : Int) == 65533) = false := by rw [beq_eq_false_iff_ne]; omega
        cases hl : letR r with
        | true =>
          have HL : Hid (letR r = true) := hl
          have HN : Hid (badN s g (p + k) = (some q)) := by
            have h := HF2.out
            rw [if_neg (by rw [badR, hl]; simp [h1])] at h
            exact h
          clear HF2
          go_wp2_with (first
              | (go_at_call 56; refine (HD.out _ (Utf8Tabs_below HT.out HB.out)).mono ?_; rintro e w1 ⟨rfl, hb1⟩; have HB1 : Hid (Below w.heap.size w w1) := Below.after HB.out hb1; clear hb1)
              | (go_at_call 57; refine (rletter_to r _ true HL.out).mono ?_; rintro e w2 ⟨rfl, rfl⟩))
          go_roundw
          case rel => exact ⟨p + k, g, by omega, by go_num, ⟨HG.out, HN.out⟩, HB1.out⟩
          case measure => simp [intOf]; omega
        | false =>
          have HL : Hid (letR r = false) := hl
          cases hd : digR r with
          | true =>
            have HDG : Hid (digR r = true) := hd
            have HN : Hid (badN s g (p + k) = (some q)) := by
              have h := HF2.out
              rw [if_neg (by rw [badR, hl, hd]; simp [h1])] at h
              exact h
            clear HF2
            go_wp2_with (first
                | (go_at_call 56; refine (HD.out _ (Utf8Tabs_below HT.out HB.out)).mono ?_; rintro e w1 ⟨rfl, hb1⟩; have HB1 : Hid (Below w.heap.size w w1) := Below.after HB.out hb1; clear hb1)
                | (go_at_call 57; refine (rletter_to r _ false HL.out).mono ?_; rintro e w2 ⟨rfl, rfl⟩)
                | (go_at_call 58; refine (rdigit_to r _ true HDG.out).mono ?_; rintro e w2 ⟨rfl, rfl⟩))
            go_roundw
            case rel => exact ⟨p + k, g, by omega, by go_num, ⟨HG.out, HN.out⟩, HB1.out⟩
            case measure => simp [intOf]; omega
          | false =>
            have HDG : Hid (digR r = false) := hd
            clear hl hd
            by_cases h45 : r = 45
            · have n45 : ((r : Int) != 45) = false := by rw [bne_eq_false_iff_eq]; omega
              have H9 : Hid (r = 45) := h45
              clear h45
              have HN : Hid (badN s g (p + k) = (some q)) := by
                have h := HF2.out
                rw [if_neg (by rw [badR, H9.out]; simp)] at h
                exact h
              clear HF2
              go_wp2_with (first
                  | (go_at_call 56; refine (HD.out _ (Utf8Tabs_below HT.out HB.out)).mono ?_; rintro e w1 ⟨rfl, hb1⟩; have HB1 : Hid (Below w.heap.size w w1) := Below.after HB.out hb1; clear hb1)
                  | (go_at_call 57; refine (rletter_to r _ false HL.out).mono ?_; rintro e w2 ⟨rfl, rfl⟩)
                  | (go_at_call 58; refine (rdigit_to r _ false HDG.out).mono ?_; rintro e w2 ⟨rfl, rfl⟩))
              go_roundw
              case rel => exact ⟨p + k, g, by omega, by go_num, ⟨HG.out, HN.out⟩, HB1.out⟩
              case measure => simp [intOf]; omega
            · have n45 : ((r : Int) != 45) = true := by rw [bne_iff_ne]; omega
              by_cases h61 : r = 61
              · have n61 : ((r : Int) != 61) = false := by rw [bne_eq_false_iff_eq]; omega
                have H9 : Hid (r = 61) := h61
                clear h61
                have HN : Hid (badN s g (p + k) = (some q)) := by
                  have h := HF2.out
                  rw [if_neg (by rw [badR, H9.out]; simp)] at h
                  exact h
                clear HF2
                go_wp2_with (first
                    | (go_at_call 56; refine (HD.out _ (Utf8Tabs_below HT.out HB.out)).mono ?_; rintro e w1 ⟨rfl, hb1⟩; have HB1 : Hid (Below w.heap.size w w1) := Below.after HB.out hb1; clear hb1)
                    | (go_at_call 57; refine (rletter_to r _ false HL.out).mono ?_; rintro e w2 ⟨rfl, rfl⟩)
                    | (go_at_call 58; refine (rdigit_to r _ false HDG.out).mono ?_; rintro e w2 ⟨rfl, rfl⟩))
                go_roundw
                case rel => exact ⟨p + k, g, by omega, by go_num, ⟨HG.out, HN.out⟩, HB1.out⟩
                case measure => simp [intOf]; omega
              · have n61 : ((r : Int) != 61) = true := by rw [bne_iff_ne]; omega
                by_cases h32 : r = 32
                · have n32 : ((r : Int) != 32) = false := by rw [bne_eq_false_iff_eq]; omega
                  have H9 : Hid (r = 32) := h32
                  clear h32
                  have HN : Hid (badN s g (p + k) = (some q)) := by
                    have h := HF2.out
                    rw [if_neg (by rw [badR, H9.out]; simp)] at h
                    exact h
                  clear HF2
                  go_wp2_with (first
                      | (go_at_call 56; refine (HD.out _ (Utf8Tabs_below HT.out HB.out)).mono ?_; rintro e w1 ⟨rfl, hb1⟩; have HB1 : Hid (Below w.heap.size w w1) := Below.after HB.out hb1; clear hb1)
                      | (go_at_call 57; refine (rletter_to r _ false HL.out).mono ?_; rintro e w2 ⟨rfl, rfl⟩)
                      | (go_at_call 58; refine (rdigit_to r _ false HDG.out).mono ?_; rintro e w2 ⟨rfl, rfl⟩))
                  go_roundw
                  case rel => exact ⟨p + k, g, by omega, by go_num, ⟨HG.out, HN.out⟩, HB1.out⟩
                  case measure => simp [intOf]; omega
                · have n32 : ((r : Int) != 32) = true := by rw [bne_iff_ne]; omega
                  by_cases h9 : r = 9
                  · have n9 : ((r : Int) != 9) = false := by rw [bne_eq_false_iff_eq]; omega
                    have H9 : Hid (r = 9) := h9
                    clear h9
                    have HN : Hid (badN s g (p + k) = (some q)) := by
                      have h := HF2.out
                      rw [if_neg (by rw [badR, H9.out]; simp)] at h
                      exact h
                    clear HF2
                    go_wp2_with (first
                        | (go_at_call 56; refine (HD.out _ (Utf8Tabs_below HT.out HB.out)).mono ?_; rintro e w1 ⟨rfl, hb1⟩; have HB1 : Hid (Below w.heap.size w w1) := Below.after HB.out hb1; clear hb1)
                        | (go_at_call 57; refine (rletter_to r _ false HL.out).mono ?_; rintro e w2 ⟨rfl, rfl⟩)
                        | (go_at_call 58; refine (rdigit_to r _ false HDG.out).mono ?_; rintro e w2 ⟨rfl, rfl⟩))
                    go_roundw
                    case rel => exact ⟨p + k, g, by omega, by go_num, ⟨HG.out, HN.out⟩, HB1.out⟩
                    case measure => simp [intOf]; omega
                  · have n9 : ((r : Int) != 9) = true := by rw [bne_iff_ne]; omega
                    have HQ : Hid (p = q) := by
                      have h := HF2.out
                      rw [if_pos (by rw [badR, HL.out, HDG.out]; simp [h45, h61, h32, h9])] at h
                      show p = q
                      simpa using h
                    clear HF2
                    go_wp2_with (first
                        | (go_at_call 56; refine (HD.out _ (Utf8Tabs_below HT.out HB.out)).mono ?_; rintro e w1 ⟨rfl, hb1⟩; have HB1 : Hid (Below w.heap.size w w1) := Below.after HB.out hb1; clear hb1)
                        | (go_at_call 57; refine (rletter_to r _ false HL.out).mono ?_; rintro e w2 ⟨rfl, rfl⟩)
                        | (go_at_call 58; refine (rdigit_to r _ false HDG.out).mono ?_; rintro e w2 ⟨rfl, rfl⟩))
                    go_ret3
                    exact ⟨by rw [HQ.out]; rfl, HB1.out⟩
    · exfalso
      have h := HF.out.2
      cases f with
      | zero => have := HF.out.1; omega
      | succ g => rw [badN, if_neg hlt] at h; simp at h
set_option maxHeartbeats 8000000 in
theorem rwords_ok (s : ByteArray) (w : World) (hs : s.size ≤ 1000000) (hT : Lib.Utf8Tabs 0 1 w) (hq : badW s = none) :
    Calls Tryz.prog 30 #[.string s] w fun e w' => ∃ v, e = .returned (.tuple #[v, .int .i64 0, .bool true]) ∧ HoldsC w' v (toksW s).length (cellsT (toksW s)) ∧ Below w.heap.size w w' := by
  have HT : Hid (Lib.Utf8Tabs 0 1 w) := hT
  have HQ0 : Hid (badN s (s.size + 1) 0 = none) := hq
  obtain ⟨iT, hi, hz0, hz1, hz2⟩ := infoK
  have HI : Hid (Tryz.prog.info? 106 = some iT) := hi
  have HZ0 : Hid (iT.zero = some (.agg #[.string ⟨#[]⟩, .int .i64 0])) := hz0
  have HZ1 : Hid (iT.size = 2) := hz1
  have HZ2 : Hid (iT.bytes = 24) := hz2
  clear hi hz0 hz1 hz2 hT hq
  go_enter Tryz.func30, Tryz.ntmps30
  go_wp2
  go_loopw [5] (fun i w' => ∃ (p f : Nat), p ≤ s.size ∧ i = .int .i64 p ∧ Hid (s.size - p < f ∧ badN s f p = none) ∧ Hid (Below w.heap.size w w')) (fun i _ => s.size - (intOf i).toNat)
  case atStart => exact ⟨0, s.size + 1, Nat.zero_le _, rfl, ⟨by omega, HQ0.out⟩, Below.refl _ _⟩
  case round =>
    obtain ⟨p, f, hp, rfl, HF, HB⟩ := hrel
    by_cases hlt : p < s.size
    · obtain ⟨⟨r, k⟩, hrk⟩ : ∃ x, Utf8.decode s p = x := ⟨_, rfl⟩
      have hk1 := decode_lo s p
      have hk2 := decode_le s p hlt
      rw [hrk] at hk1 hk2
      simp only at hk1 hk2
      obtain ⟨g, hg⟩ : ∃ g, f = g + 1 := ⟨f - 1, by have := HF.out.1; omega⟩
      subst hg
      have HF2 : Hid ((if badR r k = true then some p else badN s g (p + k)) = none) := by
        have h := HF.out.2
        rw [badN, if_pos hlt, hrk] at h
        exact h
      have HG : Hid (s.size - (p + k) < g) := by have := HF.out.1; show _ < _; omega
      have HRK : Hid (Utf8.decode s p = (r, k)) := hrk
      obtain ⟨b, hb⟩ : ∃ b, s.extract p s.size = b := ⟨_, rfl⟩
      have HD : Hid (∀ (w : World), Lib.Utf8Tabs 0 1 w → Calls Tryz.prog 56 #[.string b] w fun e w' => e = .returned (.tuple #[.int .i32 r, .int .i64 k]) ∧ Below w.heap.size w w') := fun w hT => by
        have h := decode_to s p hlt w hT r k HRK.out
        rw [hb] at h
        exact h
      clear HF hrk
      by_cases h1 : r = 65533
      · have HL : Hid (letR r = false) := by show _ = _; rw [h1]; rfl
        have HDG : Hid (digR r = false) := by show _ = _; rw [h1]; rfl
        have H1 : Hid (r = 65533) := h1
        have e1 : ((r : Int) == 65533) = true := by rw [beq_iff_eq]; omega
        have n45 : ((r : Int) != 45) = true := by rw [bne_iff_ne]; omega
        have n61 : ((r : Int) != 61) = true := by rw [bne_iff_ne]; omega
        have n32 : ((r : Int) != 32) = true := by rw [bne_iff_ne]; omega
        have n9 : ((r : Int) != 9) = true := by rw [bne_iff_ne]; omega
        by_cases hk3 : k ≤ 1
        · have g3 : (k : Int) ≤ 1 := by omega
          clear h1
          have h := HF2.out
          rw [if_pos (by rw [badR, H1.out]; simp [hk3])] at h
          simp at h
        · have g3 : ¬ (k : Int) ≤ 1 := by omega
          clear h1
          have h := HF2.out
          rw [if_pos (by rw [badR, HL.out, HDG.out, H1.out]; simp)] at h
          simp at h
      · have e1 : ((r : Int) == 65533) = false := by rw [beq_eq_false_iff_ne]; omega
        cases hl : letR r with
        | true =>
          have HL : Hid (letR r = true) := hl
          have HN : Hid (badN s g (p + k) = none) := by
            have h := HF2.out
            rw [if_neg (by rw [badR, hl]; simp [h1])] at h
            exact h
          clear HF2
          go_wp2_with (first
              | (go_at_call 56; refine (HD.out _ (Utf8Tabs_below HT.out HB.out)).mono ?_; rintro e w1 ⟨rfl, hb1⟩; have HB1 : Hid (Below w.heap.size w w1) := Below.after HB.out hb1; clear hb1)
              | (go_at_call 57; refine (rletter_to r _ true HL.out).mono ?_; rintro e w2 ⟨rfl, rfl⟩))
          go_roundw
          case rel => exact ⟨p + k, g, by omega, by go_num, ⟨HG.out, HN.out⟩, HB1.out⟩
          case measure => simp [intOf]; omega
        | false =>
          have HL : Hid (letR r = false) := hl
          cases hd : digR r with
          | true =>
            have HDG : Hid (digR r = true) := hd
            have HN : Hid (badN s g (p + k) = none) := by
              have h := HF2.out
              rw [if_neg (by rw [badR, hl, hd]; simp [h1])] at h
              exact h
            clear HF2
            go_wp2_with (first
                | (go_at_call 56; refine (HD.out _ (Utf8Tabs_below HT.out HB.out)).mono ?_; rintro e w1 ⟨rfl, hb1⟩; have HB1 : Hid (Below w.heap.size w w1) := Below.after HB.out hb1; clear hb1)
                | (go_at_call 57; refine (rletter_to r _ false HL.out).mono ?_; rintro e w2 ⟨rfl, rfl⟩)
                | (go_at_call 58; refine (rdigit_to r _ true HDG.out).mono ?_; rintro e w2 ⟨rfl, rfl⟩))
            go_roundw
            case rel => exact ⟨p + k, g, by omega, by go_num, ⟨HG.out, HN.out⟩, HB1.out⟩
            case measure => simp [intOf]; omega
          | false =>
            have HDG : Hid (digR r = false) := hd
            clear hl hd
            by_cases h45 : r = 45
            · have n45 : ((r : Int) != 45) = false := by rw [bne_eq_false_iff_eq]; omega
              have H9 : Hid (r = 45) := h45
              clear h45
              have HN : Hid (badN s g (p + k) = none) := by
                have h := HF2.out
                rw [if_neg (by rw [badR, H9.out]; simp)] at h
                exact h
              clear HF2
              go_wp2_with (first
                  | (go_at_call 56; refine (HD.out _ (Utf8Tabs_below HT.out HB.out)).mono ?_; rintro e w1 ⟨rfl, hb1⟩; have HB1 : Hid (Below w.heap.size w w1) := Below.after HB.out hb1; clear hb1)
                  | (go_at_call 57; refine (rletter_to r _ false HL.out).mono ?_; rintro e w2 ⟨rfl, rfl⟩)
                  | (go_at_call 58; refine (rdigit_to r _ false HDG.out).mono ?_; rintro e w2 ⟨rfl, rfl⟩))
              go_roundw
              case rel => exact ⟨p + k, g, by omega, by go_num, ⟨HG.out, HN.out⟩, HB1.out⟩
              case measure => simp [intOf]; omega
            · have n45 : ((r : Int) != 45) = true := by rw [bne_iff_ne]; omega
              by_cases h61 : r = 61
              · have n61 : ((r : Int) != 61) = false := by rw [bne_eq_false_iff_eq]; omega
                have H9 : Hid (r = 61) := h61
                clear h61
                have HN : Hid (badN s g (p + k) = none) := by
                  have h := HF2.out
                  rw [if_neg (by rw [badR, H9.out]; simp)] at h
                  exact h
                clear HF2
                go_wp2_with (first
                    | (go_at_call 56; refine (HD.out _ (Utf8Tabs_below HT.out HB.out)).mono ?_; rintro e w1 ⟨rfl, hb1⟩; have HB1 : Hid (Below w.heap.size w w1) := Below.after HB.out hb1; clear hb1)
                    | (go_at_call 57; refine (rletter_to r _ false HL.out).mono ?_; rintro e w2 ⟨rfl, rfl⟩)
                    | (go_at_call 58; refine (rdigit_to r _ false HDG.out).mono ?_; rintro e w2 ⟨rfl, rfl⟩))
                go_roundw
                case rel => exact ⟨p + k, g, by omega, by go_num, ⟨HG.out, HN.out⟩, HB1.out⟩
                case measure => simp [intOf]; omega
              · have n61 : ((r : Int) != 61) = true := by rw [bne_iff_ne]; omega
                by_cases h32 : r = 32
                · have n32 : ((r : Int) != 32) = false := by rw [bne_eq_false_iff_eq]; omega
                  have H9 : Hid (r = 32) := h32
                  clear h32
                  have HN : Hid (badN s g (p + k) = none) := by
                    have h := HF2.out
                    rw [if_neg (by rw [badR, H9.out]; simp)] at h
                    exact h
                  clear HF2
                  go_wp2_with (first
                      | (go_at_call 56; refine (HD.out _ (Utf8Tabs_below HT.out HB.out)).mono ?_; rintro e w1 ⟨rfl, hb1⟩; have HB1 : Hid (Below w.heap.size w w1) := Below.after HB.out hb1; clear hb1)
                      | (go_at_call 57; refine (rletter_to r _ false HL.out).mono ?_; rintro e w2 ⟨rfl, rfl⟩)
                      | (go_at_call 58; refine (rdigit_to r _ false HDG.out).mono ?_; rintro e w2 ⟨rfl, rfl⟩))
                  go_roundw
                  case rel => exact ⟨p + k, g, by omega, by go_num, ⟨HG.out, HN.out⟩, HB1.out⟩
                  case measure => simp [intOf]; omega
                · have n32 : ((r : Int) != 32) = true := by rw [bne_iff_ne]; omega
                  by_cases h9 : r = 9
                  · have n9 : ((r : Int) != 9) = false := by rw [bne_eq_false_iff_eq]; omega
                    have H9 : Hid (r = 9) := h9
                    clear h9
                    have HN : Hid (badN s g (p + k) = none) := by
                      have h := HF2.out
                      rw [if_neg (by rw [badR, H9.out]; simp)] at h
                      exact h
                    clear HF2
                    go_wp2_with (first
                        | (go_at_call 56; refine (HD.out _ (Utf8Tabs_below HT.out HB.out)).mono ?_; rintro e w1 ⟨rfl, hb1⟩; have HB1 : Hid (Below w.heap.size w w1) := Below.after HB.out hb1; clear hb1)
                        | (go_at_call 57; refine (rletter_to r _ false HL.out).mono ?_; rintro e w2 ⟨rfl, rfl⟩)
                        | (go_at_call 58; refine (rdigit_to r _ false HDG.out).mono ?_; rintro e w2 ⟨rfl, rfl⟩))
                    go_roundw
                    case rel => exact ⟨p + k, g, by omega, by go_num, ⟨HG.out, HN.out⟩, HB1.out⟩
                    case measure => simp [intOf]; omega
                  · have n9 : ((r : Int) != 9) = true := by rw [bne_iff_ne]; omega
                    have h := HF2.out
                    rw [if_pos (by rw [badR, HL.out, HDG.out]; simp [h45, h61, h32, h9])] at h
                    simp at h
    · obtain rfl : p = s.size := by omega
      clear HF hlt
      obtain ⟨wo, hwo⟩ : ∃ wo : World, wo = wr := ⟨_, rfl⟩
      rw [← hwo] at HB ⊢
      clear hwo
      go_wp2
      go_loopw [8, 9, 10] (fun v fr i w' => ∃ (k : Nat), k ≤ s.size + 1 ∧ i = .int .i64 k ∧ fr = fromV (tokSt s k).1 ∧ Hid (w'.ownsRow w.heap.size 106 2 v (tokSt s k).2.length (cellsT (tokSt s k).2)) ∧ Hid (Below w.heap.size w w')) (fun _ _ i _ => s.size + 1 - (intOf i).toNat)
      case atStart => exact ⟨0, Nat.zero_le _, rfl, rfl, World.ownsRow_nil _ _ _ _, HB.out⟩
      case round =>
        obtain ⟨k, hk, rfl, rfl, HO, HB⟩ := hrel
        have hsz : w.heap.size ≤ wr.heap.size := HB.out.size
        have hlen := tokSt_len s k
        have hfo := tokSt_lt s k
        obtain ⟨⟨fo, l⟩, hst⟩ : ∃ st, tokSt s k = st := ⟨_, rfl⟩
        have HST : Hid (tokSt s (k + 1) = tokStep s k (fo, l)) := by show _ = _; rw [tokSt, hst]
        rw [hst] at HO hlen hfo ⊢
        simp only at HO hlen hfo ⊢
        have HEQ : k = s.size + 1 → (fo, l) = tokSt s (s.size + 1) := fun e => by rw [← hst, e]
        clear hst
        by_cases hle : k ≤ s.size
        · have gle : (k : Int) ≤ (s.size : Int) := by omega
          by_cases hlt : k < s.size
          · have gk : ((k : Int) == (s.size : Int)) = false := by rw [beq_eq_false_iff_ne]; omega
            have hby := byteE_lt hlt
            obtain ⟨c, hc⟩ : ∃ c, s[k].toNat = c := ⟨_, rfl⟩
            have HBY : Hid (byteE s k = c) := by show _ = _; rw [hby, hc]
            clear hby
            by_cases h32 : c = 32
            · have n32 : ((c : Int) == 32) = true := by rw [beq_iff_eq]; omega
              have H9 : Hid (byteE s k = 32) := by show _ = _; rw [HBY.out, h32]
              clear h32
              cases fo with
              | none =>
                rw [show fromV none = .int .i64 (-1) from rfl]
                have HNX : Hid (tokSt s (k + 1) = (none, l)) := by
                  show _ = _
                  rw [HST.out, step_end (Or.inl H9.out)]
                  all_goals rfl
                go_wp2
                go_roundw
                case rel => exact ⟨k + 1, by omega, by go_num, by rw [HNX.out]; rfl, by rw [HNX.out]; exact HO.out, HB.out⟩
                case measure => simp [intOf]; omega
              | some z =>
                have hzk : z < k := hfo z rfl
                rw [show fromV (some z) = .int .i64 z from rfl]
                have HNX : Hid (tokSt s (k + 1) = (none, l ++ [(s.extract z k, z)])) := by
                  show _ = _
                  rw [HST.out, step_end (Or.inl H9.out)]
                  all_goals rfl
                go_wp2_with (at_builtin; refine wpList_append_lies _ rfl _ _ 65 rfl w.heap.size 106 iT (.agg #[.string ⟨#[]⟩, .int .i64 0]) 2 24 Tryz.underlying65 HI.out HZ0.out HZ1.out HZ2.out rfl (by decide) u8 (l.length) (cellsT l) rfl ?c0 ⟨wr.heap.size, 0, none⟩ 1 1 [.string (s.extract z k), .int .i64 z] rfl rfl ?c1 ?c2 (by decide) ?c3 ?c4 ?c5 (wr.heap.size + 1) ?c6 ?_)
                case c0 => exact World.ownsRow.alloc HO.out _
                case c1 => exact World.news_of_block (heap_alloc_new wr (.cells #[.string (s.extract z k), .int .i64 z] 106))
                case c2 => intro u hu; simp only [List.mem_cons, List.not_mem_nil, or_false] at hu; rcases hu with rfl | rfl <;> rfl
                case c3 => unfold maxLen; omega
                case c4 => omega
                case c5 => simp; omega
                case c6 => simp
                intro g cap w2 ho hg hat hlt2
                have hs2 := hg.size
                have HO2 : Hid (w2.ownsRow w.heap.size 106 2 (.slice (some ⟨g, 0, none⟩) (l.length + 1) cap) (l ++ [(s.extract z k, z)]).length (cellsT (l ++ [(s.extract z k, z)]))) := by show World.ownsRow _ _ _ _ _ _ _; rw [List.length_append, cellsT_snoc]; exact ho
                have HB2 : Hid (Below w.heap.size w w2) := (Below.push HB.out _).grown hg (by simp; omega) (fun q hq => (HO.out.lt q hq).1)
                clear ho hg hat
                go_wp2
                go_roundw
                case rel => exact ⟨k + 1, by omega, by go_num, by rw [HNX.out]; rfl, by rw [HNX.out]; exact HO2.out, HB2.out⟩
                case measure => simp [intOf]; omega
            · have n32 : ((c : Int) == 32) = false := by rw [beq_eq_false_iff_ne]; omega
              by_cases h9 : c = 9
              · have n9 : ((c : Int) == 9) = true := by rw [beq_iff_eq]; omega
                have H9 : Hid (byteE s k = 9) := by show _ = _; rw [HBY.out, h9]
                clear h9
                cases fo with
                | none =>
                  rw [show fromV none = .int .i64 (-1) from rfl]
                  have HNX : Hid (tokSt s (k + 1) = (none, l)) := by
                    show _ = _
                    rw [HST.out, step_end (Or.inr H9.out)]
                    all_goals rfl
                  go_wp2
                  go_roundw
                  case rel => exact ⟨k + 1, by omega, by go_num, by rw [HNX.out]; rfl, by rw [HNX.out]; exact HO.out, HB.out⟩
                  case measure => simp [intOf]; omega
                | some z =>
                  have hzk : z < k := hfo z rfl
                  rw [show fromV (some z) = .int .i64 z from rfl]
                  have HNX : Hid (tokSt s (k + 1) = (none, l ++ [(s.extract z k, z)])) := by
                    show _ = _
                    rw [HST.out, step_end (Or.inr H9.out)]
                    all_goals rfl
                  go_wp2_with (at_builtin; refine wpList_append_lies _ rfl _ _ 65 rfl w.heap.size 106 iT (.agg #[.string ⟨#[]⟩, .int .i64 0]) 2 24 Tryz.underlying65 HI.out HZ0.out HZ1.out HZ2.out rfl (by decide) u8 (l.length) (cellsT l) rfl ?c0 ⟨wr.heap.size, 0, none⟩ 1 1 [.string (s.extract z k), .int .i64 z] rfl rfl ?c1 ?c2 (by decide) ?c3 ?c4 ?c5 (wr.heap.size + 1) ?c6 ?_)
                  case c0 => exact World.ownsRow.alloc HO.out _
                  case c1 => exact World.news_of_block (heap_alloc_new wr (.cells #[.string (s.extract z k), .int .i64 z] 106))
                  case c2 => intro u hu; simp only [List.mem_cons, List.not_mem_nil, or_false] at hu; rcases hu with rfl | rfl <;> rfl
                  case c3 => unfold maxLen; omega
                  case c4 => omega
                  case c5 => simp; omega
                  case c6 => simp
                  intro g cap w2 ho hg hat hlt2
                  have hs2 := hg.size
                  have HO2 : Hid (w2.ownsRow w.heap.size 106 2 (.slice (some ⟨g, 0, none⟩) (l.length + 1) cap) (l ++ [(s.extract z k, z)]).length (cellsT (l ++ [(s.extract z k, z)]))) := by show World.ownsRow _ _ _ _ _ _ _; rw [List.length_append, cellsT_snoc]; exact ho
                  have HB2 : Hid (Below w.heap.size w w2) := (Below.push HB.out _).grown hg (by simp; omega) (fun q hq => (HO.out.lt q hq).1)
                  clear ho hg hat
                  go_wp2
                  go_roundw
                  case rel => exact ⟨k + 1, by omega, by go_num, by rw [HNX.out]; rfl, by rw [HNX.out]; exact HO2.out, HB2.out⟩
                  case measure => simp [intOf]; omega
              · have n9 : ((c : Int) == 9) = false := by rw [beq_eq_false_iff_ne]; omega
                by_cases h61 : c = 61
                · have n61 : ((c : Int) == 61) = true := by rw [beq_iff_eq]; omega
                  have H9 : Hid (byteE s k = 61) := by show _ = _; rw [HBY.out, h61]
                  clear h61
                  cases fo with
                  | none =>
                    rw [show fromV none = .int .i64 (-1) from rfl]
                    have HNX : Hid (tokSt s (k + 1) = (none, l ++ [(⟨#[61]⟩, k)])) := by
                      show _ = _
                      rw [HST.out, step_eq H9.out]
                      all_goals rfl
                    go_wp2_with (at_builtin; refine wpList_append_lies _ rfl _ _ 65 rfl w.heap.size 106 iT (.agg #[.string ⟨#[]⟩, .int .i64 0]) 2 24 Tryz.underlying65 HI.out HZ0.out HZ1.out HZ2.out rfl (by decide) u8 (l.length) (cellsT l) rfl ?c0 ⟨wr.heap.size, 0, none⟩ 1 1 [.string ⟨#[61]⟩, .int .i64 k] rfl rfl ?c1 ?c2 (by decide) ?c3 ?c4 ?c5 (wr.heap.size + 1) ?c6 ?_)
                    case c0 => exact World.ownsRow.alloc HO.out _
                    case c1 => exact World.news_of_block (heap_alloc_new wr (.cells #[.string ⟨#[61]⟩, .int .i64 k] 106))
                    case c2 => intro u hu; simp only [List.mem_cons, List.not_mem_nil, or_false] at hu; rcases hu with rfl | rfl <;> rfl
                    case c3 => unfold maxLen; omega
                    case c4 => omega
                    case c5 => simp; omega
                    case c6 => simp
                    intro g cap w2 ho hg hat hlt2
                    have hs2 := hg.size
                    have HO2 : Hid (w2.ownsRow w.heap.size 106 2 (.slice (some ⟨g, 0, none⟩) (l.length + 1) cap) (l ++ [((⟨#[61]⟩ : ByteArray), k)]).length (cellsT (l ++ [((⟨#[61]⟩ : ByteArray), k)]))) := by show World.ownsRow _ _ _ _ _ _ _; rw [List.length_append, cellsT_snoc]; exact ho
                    have HB2 : Hid (Below w.heap.size w w2) := (Below.push HB.out _).grown hg (by simp; omega) (fun q hq => (HO.out.lt q hq).1)
                    clear ho hg hat
                    go_wp2
                    go_roundw
                    case rel => exact ⟨k + 1, by omega, by go_num, by rw [HNX.out]; rfl, by rw [HNX.out]; exact HO2.out, HB2.out⟩
                    case measure => simp [intOf]; omega
                  | some z =>
                    have hzk : z < k := hfo z rfl
                    rw [show fromV (some z) = .int .i64 z from rfl]
                    have HNX : Hid (tokSt s (k + 1) = (none, l ++ [(s.extract z k, z)] ++ [(⟨#[61]⟩, k)])) := by
                      show _ = _
                      rw [HST.out, step_eq H9.out]
                      all_goals rfl
                    go_wp2_with (at_builtin; refine wpList_append_lies _ rfl _ _ 65 rfl w.heap.size 106 iT (.agg #[.string ⟨#[]⟩, .int .i64 0]) 2 24 Tryz.underlying65 HI.out HZ0.out HZ1.out HZ2.out rfl (by decide) u8 (l.length) (cellsT l) rfl ?c0 ⟨wr.heap.size, 0, none⟩ 1 1 [.string (s.extract z k), .int .i64 z] rfl rfl ?c1 ?c2 (by decide) ?c3 ?c4 ?c5 (wr.heap.size + 1) ?c6 ?_)
                    case c0 => exact World.ownsRow.alloc HO.out _
                    case c1 => exact World.news_of_block (heap_alloc_new wr (.cells #[.string (s.extract z k), .int .i64 z] 106))
                    case c2 => intro u hu; simp only [List.mem_cons, List.not_mem_nil, or_false] at hu; rcases hu with rfl | rfl <;> rfl
                    case c3 => unfold maxLen; omega
                    case c4 => omega
                    case c5 => simp; omega
                    case c6 => simp
                    intro g cap w2 ho hg hat hlt2
                    have hs2 := hg.size
                    have HO2 : Hid (w2.ownsRow w.heap.size 106 2 (.slice (some ⟨g, 0, none⟩) (l.length + 1) cap) (l.length + 1) (cellsT (l ++ [(s.extract z k, z)]))) := by show World.ownsRow _ _ _ _ _ _ _; rw [cellsT_snoc]; exact ho
                    have HB2 : Hid (Below w.heap.size w w2) := (Below.push HB.out _).grown hg (by simp; omega) (fun q hq => (HO.out.lt q hq).1)
                    have hw2 : w.heap.size ≤ w2.heap.size := HB2.out.size
                    clear ho hg hat
                    go_wp2_with (at_builtin; refine wpList_append_lies _ rfl _ _ 65 rfl w.heap.size 106 iT (.agg #[.string ⟨#[]⟩, .int .i64 0]) 2 24 Tryz.underlying65 HI.out HZ0.out HZ1.out HZ2.out rfl (by decide) (.slice (some ⟨g, 0, none⟩) (l.length + 1) cap) (l.length + 1) (cellsT (l ++ [(s.extract z k, z)])) rfl ?c0 ⟨w2.heap.size, 0, none⟩ 1 1 [.string ⟨#[61]⟩, .int .i64 k] rfl rfl ?c1 ?c2 (by decide) ?c3 ?c4 ?c5 (w2.heap.size + 1) ?c6 ?_)
                    case c0 => exact World.ownsRow.alloc HO2.out _
                    case c1 => exact World.news_of_block (heap_alloc_new w2 (.cells #[.string ⟨#[61]⟩, .int .i64 k] 106))
                    case c2 => intro u hu; simp only [List.mem_cons, List.not_mem_nil, or_false] at hu; rcases hu with rfl | rfl <;> rfl
                    case c3 => unfold maxLen; omega
                    case c4 => omega
                    case c5 => simp; omega
                    case c6 => simp
                    intro g3 cap3 w3 ho hg hat hlt3
                    have hs3 := hg.size
                    have HO3 : Hid (w3.ownsRow w.heap.size 106 2 (.slice (some ⟨g3, 0, none⟩) (l.length + 1 + 1) cap3) (l ++ [(s.extract z k, z)] ++ [((⟨#[61]⟩ : ByteArray), k)]).length (cellsT (l ++ [(s.extract z k, z)] ++ [((⟨#[61]⟩ : ByteArray), k)]))) := by show World.ownsRow _ _ _ _ _ _ _; rw [List.length_append, List.length_append, cellsT_snoc]; exact ho
                    have HB3 : Hid (Below w.heap.size w w3) := (Below.push HB2.out _).grown hg (by simp; omega) (fun q hq => (HO2.out.lt q hq).1)
                    clear ho hg hat
                    go_wp2
                    go_roundw
                    case rel => exact ⟨k + 1, by omega, by go_num, by rw [HNX.out]; rfl, by rw [HNX.out]; exact HO3.out, HB3.out⟩
                    case measure => simp [intOf]; omega
                · have n61 : ((c : Int) == 61) = false := by rw [beq_eq_false_iff_ne]; omega
                  cases fo with
                  | none =>
                    rw [show fromV none = .int .i64 (-1) from rfl]
                    have HNX : Hid (tokSt s (k + 1) = (some k, l)) := by
                      show _ = _
                      rw [HST.out, step_in (by rw [HBY.out]; exact h32) (by rw [HBY.out]; exact h9) (by rw [HBY.out]; exact h61)]
                      all_goals rfl
                    go_wp2
                    go_roundw
                    case rel => exact ⟨k + 1, by omega, by go_num, by rw [HNX.out]; rfl, by rw [HNX.out]; exact HO.out, HB.out⟩
                    case measure => simp [intOf]; omega
                  | some z =>
                    have hzk : z < k := hfo z rfl
                    rw [show fromV (some z) = .int .i64 z from rfl]
                    have HNX : Hid (tokSt s (k + 1) = (some z, l)) := by
                      show _ = _
                      rw [HST.out, step_in (by rw [HBY.out]; exact h32) (by rw [HBY.out]; exact h9) (by rw [HBY.out]; exact h61)]
                      all_goals rfl
                    go_wp2
                    go_roundw
                    case rel => exact ⟨k + 1, by omega, by go_num, by rw [HNX.out]; rfl, by rw [HNX.out]; exact HO.out, HB.out⟩
                    case measure => simp [intOf]; omega
          · have gk : ((k : Int) == (s.size : Int)) = true := by rw [beq_iff_eq]; omega
            have H9 : Hid (byteE s k = 32) := by show _ = _; rw [show k = s.size from by omega, byteE_end]
            cases fo with
            | none =>
              rw [show fromV none = .int .i64 (-1) from rfl]
              have HNX : Hid (tokSt s (k + 1) = (none, l)) := by
                show _ = _
                rw [HST.out, step_end (Or.inl H9.out)]
                all_goals rfl
              go_wp2
              go_roundw
              case rel => exact ⟨k + 1, by omega, by go_num, by rw [HNX.out]; rfl, by rw [HNX.out]; exact HO.out, HB.out⟩
              case measure => simp [intOf]; omega
            | some z =>
              have hzk : z < k := hfo z rfl
              rw [show fromV (some z) = .int .i64 z from rfl]
              have HNX : Hid (tokSt s (k + 1) = (none, l ++ [(s.extract z k, z)])) := by
                show _ = _
                rw [HST.out, step_end (Or.inl H9.out)]
                all_goals rfl
              go_wp2_with (at_builtin; refine wpList_append_lies _ rfl _ _ 65 rfl w.heap.size 106 iT (.agg #[.string ⟨#[]⟩, .int .i64 0]) 2 24 Tryz.underlying65 HI.out HZ0.out HZ1.out HZ2.out rfl (by decide) u8 (l.length) (cellsT l) rfl ?c0 ⟨wr.heap.size, 0, none⟩ 1 1 [.string (s.extract z k), .int .i64 z] rfl rfl ?c1 ?c2 (by decide) ?c3 ?c4 ?c5 (wr.heap.size + 1) ?c6 ?_)
              case c0 => exact World.ownsRow.alloc HO.out _
              case c1 => exact World.news_of_block (heap_alloc_new wr (.cells #[.string (s.extract z k), .int .i64 z] 106))
              case c2 => intro u hu; simp only [List.mem_cons, List.not_mem_nil, or_false] at hu; rcases hu with rfl | rfl <;> rfl
              case c3 => unfold maxLen; omega
              case c4 => omega
              case c5 => simp; omega
              case c6 => simp
              intro g cap w2 ho hg hat hlt2
              have hs2 := hg.size
              have HO2 : Hid (w2.ownsRow w.heap.size 106 2 (.slice (some ⟨g, 0, none⟩) (l.length + 1) cap) (l ++ [(s.extract z k, z)]).length (cellsT (l ++ [(s.extract z k, z)]))) := by show World.ownsRow _ _ _ _ _ _ _; rw [List.length_append, cellsT_snoc]; exact ho
              have HB2 : Hid (Below w.heap.size w w2) := (Below.push HB.out _).grown hg (by simp; omega) (fun q hq => (HO.out.lt q hq).1)
              clear ho hg hat
              go_wp2
              go_roundw
              case rel => exact ⟨k + 1, by omega, by go_num, by rw [HNX.out]; rfl, by rw [HNX.out]; exact HO2.out, HB2.out⟩
              case measure => simp [intOf]; omega
        · have gle : ¬ (k : Int) ≤ (s.size : Int) := by omega
          have HE : Hid ((fo, l) = tokSt s (s.size + 1)) := HEQ (by omega)
          go_wp2
          go_ret3
          have h := HO.out
          have e : l = toksW s := by rw [toksW, ← HE.out]
          rw [e] at h
          exact ⟨_, rfl, HoldsC.own h, HB.out⟩
theorem rlines_long (s : ByteArray) (w : World) (hs : 3000 < s.size) :
    Calls Tryz.prog 29 #[.string s] w fun e w' => e = .returned (.tuple #[.slice none 0 0, .bool false]) ∧ w = w' := by
  have g : (3000 : Int) < (s.size : Int) := by omega
  go_enter Tryz.func29, Tryz.ntmps29
  go_wp2
  go_ret2
  exact ⟨rfl, rfl⟩
set_option maxHeartbeats 8000000 in
theorem rlines_ok (s : ByteArray) (w : World) (hs : s.size ≤ 3000) :
    Calls Tryz.prog 29 #[.string s] w fun e w' => ∃ v, e = .returned (.tuple #[v, .bool true]) ∧ Holds w' v (linesL s).length (cellsS (linesL s)) ∧ Below w.heap.size w w' := by
  have g0 : ¬ (3000 : Int) < (s.size : Int) := by omega
  obtain ⟨iT, hi, hz0, hz1, hz2⟩ := infoS
  have HI : Hid (Tryz.prog.info? 9 = some iT) := hi
  have HZ0 : Hid (iT.zero = some (.string ⟨#[]⟩)) := hz0
  have HZ1 : Hid (iT.size = 1) := hz1
  have HZ2 : Hid (iT.bytes = 16) := hz2
  clear hi hz0 hz1 hz2
  go_enter Tryz.func29, Tryz.ntmps29
  go_wp2
  go_loopw [4, 5, 6] (fun v fr i w' => ∃ (k : Nat), k ≤ s.size + 1 ∧ i = .int .i64 k ∧ fr = .int .i64 ((linSt s k).1 : Nat) ∧ Hid (w'.ownsRow w.heap.size 9 1 v (linSt s k).2.length (cellsS (linSt s k).2)) ∧ Hid (Below w.heap.size w w')) (fun _ _ i _ => s.size + 1 - (intOf i).toNat)
  case atStart => exact ⟨0, Nat.zero_le _, rfl, rfl, World.ownsRow_nil _ _ _ _, Below.refl _ _⟩
  case round =>
    obtain ⟨k, hk, rfl, rfl, HO, HB⟩ := hrel
    have hsz : w.heap.size ≤ wr.heap.size := HB.out.size
    have hlen := linSt_len s k
    have hz := linSt_le s k
    obtain ⟨⟨z, l⟩, hst⟩ : ∃ st, linSt s k = st := ⟨_, rfl⟩
    have HST : Hid (linSt s (k + 1) = linStep s k (z, l)) := by show _ = _; rw [linSt, hst]
    rw [hst] at HO hlen hz ⊢
    simp only at HO hlen hz ⊢
    have HEQ : k = s.size + 1 → (z, l) = linSt s (s.size + 1) := fun e => by rw [← hst, e]
    clear hst
    by_cases hle : k ≤ s.size
    · have gle : (k : Int) ≤ (s.size : Int) := by omega
      by_cases hlt : k < s.size
      · have glt : (k : Int) < (s.size : Int) := by omega
        have gk : ((k : Int) == (s.size : Int)) = false := by rw [beq_eq_false_iff_ne]; omega
        have hby := byteE_lt hlt
        obtain ⟨c, hc⟩ : ∃ c, s[k].toNat = c := ⟨_, rfl⟩
        have HBY : Hid (byteE s k = c) := by show _ = _; rw [hby, hc]
        clear hby
        by_cases h10 : c = 10
        · have e10 : ((c : Int) != 10) = false := by rw [bne_eq_false_iff_eq]; omega
          have HNX0 : Hid (linSt s (k + 1) = (k + 1, l ++ [cutH (s.extract z k)])) := by
            show _ = _
            rw [HST.out, linStep, if_neg (fun h => h.2 (by rw [HBY.out, h10])), if_neg (fun h => by omega)]
          clear h10
          obtain ⟨x0, hx0⟩ : ∃ x0, s.extract z k = x0 := ⟨_, rfl⟩
          have HX0 : Hid (s.extract z k = x0) := hx0
          have hxs : x0.size ≤ 1000000 := by rw [← hx0, ByteArray.size_extract]; omega
          go_wp2
          clear hx0
          go_loop [7, 8] (fun x j => ∃ (y : ByteArray) (m : Nat), x = .string y ∧ j = .int .i64 m ∧ Hid (CutI x0 y m)) (fun x j => strLen x + 1 - (intOf j).toNat)
          case atStart => exact ⟨x0, 0, rfl, rfl, Or.inl ⟨rfl, Nat.zero_le _, Nat.zero_le _⟩⟩
          case round =>
            obtain ⟨y, m, rfl, rfl, HC⟩ := hrel
            by_cases hm : m < y.size
            · rcases HC.out with ⟨rfl, h1, h2⟩ | ⟨_, h1⟩
              case inr => omega
              by_cases h35 : y[m].toNat = 35
              · have e1 : ((y[m].toNat : Int) == 35) = true := by rw [beq_iff_eq]; omega
                have hc := cutN_hit hm h2 h35
                have HY : Hid (y.extract 0 m = cutH y) := by show _ = _; rw [cutH, hc]
                have HZ : Hid ((cutH y).size = m) := by show _ = _; rw [cutH_size, hc]
                clear HC h1 h2 hc h35
                go_wp2
                go_round
                case rel => exact ⟨cutH y, m + 1, by rw [HY.out], by go_num, Or.inr ⟨rfl, by rw [HZ.out]⟩⟩
                case measure => have := HZ.out; rw [HY.out]; simp [intOf, strLen]; omega
              · have e1 : ((y[m].toNat : Int) == 35) = false := by rw [beq_eq_false_iff_ne]; omega
                have hc := cutN_not hm h2 h35
                have HC2 : Hid (CutI y y (m + 1)) := Or.inl ⟨rfl, by omega, hc⟩
                clear HC h1 h2 hc h35
                go_wp2
                go_round
                case rel => exact ⟨y, m + 1, rfl, by go_num, HC2.out⟩
                case measure => simp [intOf, strLen]; omega
            · have HYE : Hid (y = cutH x0) := by
                rcases HC.out with ⟨e, h1, h2⟩ | ⟨e, _⟩
                · subst e; exact (cutH_all (by omega)).symm
                · exact e
              clear HC
              have HNX : Hid (linSt s (k + 1) = (k + 1, l ++ [y])) := by show _ = _; rw [HNX0.out, HX0.out, HYE.out]
              go_wp2_with (at_builtin; (refine wpList_append_lies _ rfl _ _ 22 rfl w.heap.size 9 iT (.string ⟨#[]⟩) 1 16 Tryz.underlying22 HI.out HZ0.out HZ1.out HZ2.out rfl (by decide) u4 (l.length) (cellsS l) rfl ?c0 ⟨wr.heap.size, 0, none⟩ 1 1 [.string y] rfl rfl ?c1 ?c2 (by decide) ?c3 ?c4 ?c5 (wr.heap.size + 1) ?c6 ?_))
              try case c0 => exact World.ownsRow.alloc HO.out _
              try case c1 => exact World.news_of_block (heap_alloc_new wr (.cells #[.string y] 9))
              try case c2 => first | rfl | (intro u hu; simp only [List.mem_cons, List.not_mem_nil, or_false] at hu; subst hu; rfl)
              try case c3 => unfold maxLen; omega
              try case c4 => first | omega | (simp; omega)
              try case c5 => first | omega | (simp; omega)
              try case c6 => first | rfl | simp
              intro g cap w2 ho hg hat hlt2
              have hs2 := hg.size
              have HO2 : Hid (w2.ownsRow w.heap.size 9 1 (.slice (some ⟨g, 0, none⟩) (l.length + 1) cap) (l ++ [y]).length (cellsS (l ++ [y]))) := by show World.ownsRow _ _ _ _ _ _ _; rw [List.length_append, cellsS_snoc]; exact ho
              have HB2 : Hid (Below w.heap.size w w2) := (Below.push HB.out _).grown hg (by simp; omega) (fun q hq => (HO.out.lt q hq).1)
              clear ho hg hat
              go_wp2
              go_roundw
              case rel => exact ⟨k + 1, by omega, by go_num, by rw [HNX.out]; first | done | rfl | go_num, by rw [HNX.out]; exact HO2.out, HB2.out⟩
              case measure => simp [intOf]; omega
        · have e10 : ((c : Int) != 10) = true := by rw [bne_iff_ne]; omega
          have HNX : Hid (linSt s (k + 1) = (z, l)) := by
            show _ = _
            rw [HST.out, linStep, if_pos ⟨hlt, by rw [HBY.out]; exact h10⟩]
          go_wp2
          go_roundw
          case rel => exact ⟨k + 1, by omega, by go_num, by rw [HNX.out]; first | done | rfl | go_num, by rw [HNX.out]; exact HO.out, HB.out⟩
          case measure => simp [intOf]; omega
      · have glt : ¬ (k : Int) < (s.size : Int) := by omega
        have gk : ((k : Int) == (s.size : Int)) = true := by rw [beq_iff_eq]; omega
        have HNX0 : Hid (linSt s (k + 1) = (if (cutH (s.extract z k)).size = 0 then (z, l) else (k + 1, l ++ [cutH (s.extract z k)]))) := by
          show _ = _
          rw [HST.out, linStep, if_neg (fun h => by omega)]
          by_cases e : (cutH (s.extract z k)).size = 0
          · rw [if_pos e, if_pos ⟨by omega, e⟩]
          · rw [if_neg e, if_neg (fun h => e h.2)]
        obtain ⟨x0, hx0⟩ : ∃ x0, s.extract z k = x0 := ⟨_, rfl⟩
        have HX0 : Hid (s.extract z k = x0) := hx0
        have hxs : x0.size ≤ 1000000 := by rw [← hx0, ByteArray.size_extract]; omega
        go_wp2
        clear hx0
        go_loop [7, 8] (fun x j => ∃ (y : ByteArray) (m : Nat), x = .string y ∧ j = .int .i64 m ∧ Hid (CutI x0 y m)) (fun x j => strLen x + 1 - (intOf j).toNat)
        case atStart => exact ⟨x0, 0, rfl, rfl, Or.inl ⟨rfl, Nat.zero_le _, Nat.zero_le _⟩⟩
        case round =>
          obtain ⟨y, m, rfl, rfl, HC⟩ := hrel
          by_cases hm : m < y.size
          · rcases HC.out with ⟨rfl, h1, h2⟩ | ⟨_, h1⟩
            case inr => omega
            by_cases h35 : y[m].toNat = 35
            · have e1 : ((y[m].toNat : Int) == 35) = true := by rw [beq_iff_eq]; omega
              have hc := cutN_hit hm h2 h35
              have HY : Hid (y.extract 0 m = cutH y) := by show _ = _; rw [cutH, hc]
              have HZ : Hid ((cutH y).size = m) := by show _ = _; rw [cutH_size, hc]
              clear HC h1 h2 hc h35
              go_wp2
              go_round
              case rel => exact ⟨cutH y, m + 1, by rw [HY.out], by go_num, Or.inr ⟨rfl, by rw [HZ.out]⟩⟩
              case measure => have := HZ.out; rw [HY.out]; simp [intOf, strLen]; omega
            · have e1 : ((y[m].toNat : Int) == 35) = false := by rw [beq_eq_false_iff_ne]; omega
              have hc := cutN_not hm h2 h35
              have HC2 : Hid (CutI y y (m + 1)) := Or.inl ⟨rfl, by omega, hc⟩
              clear HC h1 h2 hc h35
              go_wp2
              go_round
              case rel => exact ⟨y, m + 1, rfl, by go_num, HC2.out⟩
              case measure => simp [intOf, strLen]; omega
          · have HYE : Hid (y = cutH x0) := by
              rcases HC.out with ⟨e, h1, h2⟩ | ⟨e, _⟩
              · subst e; exact (cutH_all (by omega)).symm
              · exact e
            clear HC
            by_cases hy0 : y.size = 0
            · have HL : Hid (l = linesL s) := by
                show _ = _
                have h := HNX0.out
                rw [HX0.out, ← HYE.out, if_pos hy0, show k + 1 = s.size + 1 from by omega] at h
                rw [linesL, h]
              have HLE : Hid (y.toList = []) := by
                show _ = _
                rw [Lib.toList_data]
                exact List.eq_nil_of_length_eq_zero (by rw [len_list]; exact hy0)
              have e0 : (y.toList == []) = true := by rw [HLE.out]; rfl
              go_wp2
              go_ret2
              have h := HO.out
              rw [HL.out] at h
              exact ⟨_, rfl, Holds.own h, HB.out⟩
            · have e0 : (y.toList == []) = false := by
                cases e : y.toList == [] with
                | false => rfl
                | true =>
                  exfalso
                  have e1 : y.toList = [] := by simpa using e
                  rw [Lib.toList_data] at e1
                  have e2 := len_list y
                  rw [e1] at e2
                  simp at e2
                  omega
              have HNX : Hid (linSt s (k + 1) = (k + 1, l ++ [y])) := by
                show _ = _
                rw [HNX0.out, HX0.out, ← HYE.out, if_neg hy0]
              go_wp2_with (at_builtin; (refine wpList_append_lies _ rfl _ _ 22 rfl w.heap.size 9 iT (.string ⟨#[]⟩) 1 16 Tryz.underlying22 HI.out HZ0.out HZ1.out HZ2.out rfl (by decide) u4 (l.length) (cellsS l) rfl ?d0 ⟨wr.heap.size, 0, none⟩ 1 1 [.string y] rfl rfl ?d1 ?d2 (by decide) ?d3 ?d4 ?d5 (wr.heap.size + 1) ?d6 ?_))
              try case d0 => exact World.ownsRow.alloc HO.out _
              try case d1 => exact World.news_of_block (heap_alloc_new wr (.cells #[.string y] 9))
              try case d2 => first | rfl | (intro u hu; simp only [List.mem_cons, List.not_mem_nil, or_false] at hu; subst hu; rfl)
              try case d3 => unfold maxLen; omega
              try case d4 => first | omega | (simp; omega)
              try case d5 => first | omega | (simp; omega)
              try case d6 => first | rfl | simp
              intro g cap w2 ho hg hat hlt2
              have hs2 := hg.size
              have HO2 : Hid (w2.ownsRow w.heap.size 9 1 (.slice (some ⟨g, 0, none⟩) (l.length + 1) cap) (l ++ [y]).length (cellsS (l ++ [y]))) := by show World.ownsRow _ _ _ _ _ _ _; rw [List.length_append, cellsS_snoc]; exact ho
              have HB2 : Hid (Below w.heap.size w w2) := (Below.push HB.out _).grown hg (by simp; omega) (fun q hq => (HO.out.lt q hq).1)
              clear ho hg hat
              go_wp2
              go_roundw
              case rel => exact ⟨k + 1, by omega, by go_num, by rw [HNX.out]; first | done | rfl | go_num, by rw [HNX.out]; exact HO2.out, HB2.out⟩
              case measure => simp [intOf]; omega
    · have gle : ¬ (k : Int) ≤ (s.size : Int) := by omega
      have HE : Hid ((z, l) = linSt s (s.size + 1)) := HEQ (by omega)
      go_wp2
      go_ret2
      have h := HO.out
      have e : l = linesL s := by rw [linesL, ← HE.out]
      rw [e] at h
      exact ⟨_, rfl, Holds.own h, HB.out⟩
end Go.Proofs.YtkojdigaoihkpaaGreatDoor

end
section
namespace Go.Proofs.YtkojdigaoihkpaaGreatDoor
set_option linter.unusedVariables false
set_option linter.unusedSimpArgs false
set_option maxRecDepth 100000
open Go.RowKit

theorem nodeB_args {L : List Nod} {i : Nat} {t : Nod} (h : nodeB L i t = true) : argsB t.args i = true := by
  rw [nodeB, Bool.and_eq_true] at h
  exact h.1
theorem small_nil : Small [] := ⟨by decide, fun i h => by simp at h, fun i h => by simp at h, fun i h => by simp at h⟩
theorem rname8 : RName (Lib.Utf8Tabs 0 1) := ⟨fun hb h => Utf8Tabs_below h hb, fun {s w} hs hT q hq => rname_to s w hs hT q hq⟩
end Go.Proofs.YtkojdigaoihkpaaGreatDoor

end
section
namespace Go.Proofs.YtkojdigaoihkpaaGreatDoor
set_option linter.unusedVariables false
set_option linter.unusedSimpArgs false
set_option maxRecDepth 100000
open Go.RowKit

/-- The kinds' names. -/
def kindsL : List ByteArray := [⟨#[]⟩, ⟨#[105, 110]⟩, ⟨#[112, 97, 114, 97, 109]⟩, ⟨#[102, 105, 108, 108]⟩, ⟨#[97, 100, 100]⟩, ⟨#[115, 117, 98]⟩, ⟨#[109, 117, 108]⟩, ⟨#[110, 101, 103]⟩, ⟨#[115, 99, 97, 108, 101]⟩, ⟨#[109, 97, 116]⟩, ⟨#[116, 117, 114, 110]⟩, ⟨#[115, 104, 97, 112, 101]⟩, ⟨#[119, 105, 100, 101]⟩, ⟨#[115, 117, 109]⟩, ⟨#[114, 101, 108, 117]⟩, ⟨#[109, 97, 120]⟩]
/-- Where the first one of a list that is s stands, from i on; 0: nowhere. -/
def kindG (s : ByteArray) : List ByteArray → Nat → Nat
  | [], _ => 0
  | t :: r, i => if t = s then i else kindG s r (i + 1)
def kindF (s : ByteArray) : Nat := kindG s (kindsL.drop 1) 1
def kindN (k : Nat) : ByteArray := kindsL.getD k ⟨#[]⟩
def numbI (k : Nat) : Bool := decide (k = 3) || decide (k = 8) || decide (k = 15)
/-- As many names of nodes as asked for; their numbers, what is left. -/
def argsF (L : List Nod) : Nat → List ByteArray → Option (List Int × List ByteArray)
  | 0, T => some ([], T)
  | _ + 1, [] => none
  | k + 1, t :: T => if nameB t && decide (0 ≤ nmdN L t 0) then (argsF L k T).map fun p => (nmdN L t 0 :: p.1, p.2) else none
/-- A number, if the kind has one. -/
noncomputable def numbF (k : Nat) (T : List ByteArray) : Option (Int × List ByteArray) :=
  if numbI k then (match T with
    | [] => none
    | t :: r => if numK t.data.toList then some (numV t.data.toList, r) else none) else some (0, T)
noncomputable def dimsG : Nat → List ByteArray → Option (List Int × List ByteArray)
  | 0, T => some ([], T)
  | _ + 1, [] => some ([], [])
  | k + 1, t :: T => if numK t.data.toList then (dimsG k T).map fun p => (numV t.data.toList :: p.1, p.2) else none
noncomputable def dimsF (k : Nat) (T : List ByteArray) : Option (List Int × List ByteArray) :=
  if askI k then (match dimsG 3 T with
    | some ([], _) => none
    | o => o) else some ([], T)
def nod0 : Nod := ⟨⟨#[]⟩, 0, [], [], 0⟩
/-- A line's words as a node behind those of L: the error, the node. -/
noncomputable def lineF (L : List Nod) : List ByteArray → Int × Nod
  | t0 :: t1 :: t2 :: r =>
    if nameB t0 && decide (nmdN L t0 0 < 0) && decide (t1 = ⟨#[61]⟩) && decide (kindF t2 ≠ 0) then
      match argsF L (many (kindF t2)) r with
      | none => (5, nod0)
      | some (A, r1) =>
        match numbF (kindF t2) r1 with
        | none => (5, nod0)
        | some (n, r2) =>
          match dimsF (kindF t2) r2 with
          | none => (5, nod0)
          | some (d, r3) =>
            if r3 = [] then (if 24 ≤ L.length then (2, nod0) else (inE (kindF t2) n d L A, ⟨t0, kindF t2, A, inR (kindF t2) n d L A, n⟩)) else (5, nod0)
    else (5, nod0)
  | _ => (5, nod0)
/-- Line by line: the graph, the line, the error. -/
noncomputable def readN : List ByteArray → Nat → List Nod → List Nod × Int × Int
  | [], i, L => if grpB L then (L, 0, 0) else ([], i, 1)
  | x :: X, i, L =>
    if (badW x).isSome then ([], i, 5)
    else if toksW x = [] then readN X (i + 1) L
    else if (lineF L ((toksW x).map Prod.fst)).1 = 0 then readN X (i + 1) (L ++ [(lineF L ((toksW x).map Prod.fst)).2])
    else ([], i, (lineF L ((toksW x).map Prod.fst)).1)
noncomputable def readF (s : ByteArray) : List Nod × Int × Int := if 3000 < s.size then ([], 0, 2) else readN (linesL s) 0 []
/- Texts of graphs. -/
def itoaB (n : Int) : ByteArray := ⟨(Lib.itoa n).toArray⟩
def nameAt (L : List Nod) (a : Int) : ByteArray := match L[a.toNat]? with
  | some u => u.name
  | none => ⟨#[]⟩
/-- The words behind the kind. -/
def lineR (L : List Nod) (t : Nod) : List ByteArray :=
  t.args.map (nameAt L) ++ ((if numbI t.kind.toNat then [itoaB t.n] else []) ++ (if askI t.kind then t.dims.map itoaB else []))
def lineT (L : List Nod) (t : Nod) : List ByteArray := t.name :: ⟨#[61]⟩ :: kindN t.kind.toNat :: lineR L t
end Go.Proofs.YtkojdigaoihkpaaGreatDoor

end
section
namespace Go.Proofs.YtkojdigaoihkpaaGreatDoor
set_option linter.unusedVariables false
set_option linter.unusedSimpArgs false
set_option maxRecDepth 100000
open Go.RowKit

theorem kind_back : ∀ k : Nat, 1 ≤ k → k ≤ 15 → kindF (kindN k) = k := by
  have h : ∀ k : Nat, k < 16 → 1 ≤ k → kindF (kindN k) = k := by decide +kernel
  exact fun k h1 h2 => h k (by omega) h1
theorem nmd_none : ∀ (L : List Nod) (s : ByteArray) (k : Nat), (∀ i (h : i < L.length), ¬ L[i].name = s) → nmdN L s k = -1
  | [], _, _, _ => rfl
  | t :: r, s, k, h => by
    rw [nmdN, if_neg (show ¬ t.name = s from h 0 (by simp))]
    exact nmd_none r s (k + 1) fun i hi => by have := h (i + 1) (by simpa using hi); simpa using this
theorem grp_at {L : List Nod} (hg : grpB L = true) {i : Nat} (hi : i < L.length) : nameB L[i].name = true ∧ nmdN L L[i].name 0 = (i : Int) ∧ L[i].kind ≤ 15 ∧ (-1073741824 ≤ L[i].n ∧ L[i].n ≤ 1073741824) := by
  have h : grpI L i = true := by
    simp only [grpB, Bool.and_eq_true, List.all_eq_true] at hg
    exact hg.1.2 i (List.mem_range.2 hi)
  rw [grpI_at' hi] at h
  simp only [Bool.and_eq_true, decide_eq_true_eq] at h
  exact ⟨h.1.1.1, h.1.1.2, h.1.2, h.2⟩
theorem grp_names {L : List Nod} (hg : grpB L = true) {i j : Nat} (hi : i < L.length) (hj : j < i) : ¬ (L[j]'(by omega)).name = L[i].name := by
  intro e
  have h1 := nmd_le L L[i].name 0 j (by omega) e
  have h2 := (grp_at hg hi).2.1
  omega
theorem nmd_take_new {L : List Nod} (hg : grpB L = true) {i : Nat} (hi : i < L.length) : nmdN (L.take i) L[i].name 0 = -1 := by
  refine nmd_none _ _ _ fun j hj => ?_
  rw [List.length_take] at hj
  rw [List.getElem_take]
  exact grp_names hg hi (by omega)
theorem nmd_take_old {L : List Nod} (hg : grpB L = true) {i a : Nat} (hi : i ≤ L.length) (ha : a < i) : nmdN (L.take i) (L[a]'(by omega)).name 0 = (a : Int) := by
  have hl : (L.take i).length = i := by rw [List.length_take]; omega
  have := nmd_eq (L.take i) (L[a]'(by omega)).name 0 a (by omega) (by rw [List.getElem_take]) (fun j hj => by rw [List.getElem_take]; exact grp_names hg (by omega) hj)
  rw [this]
  simp
theorem args_back {L : List Nod} (hg : grpB L = true) {i : Nat} (hi : i ≤ L.length) (r : List ByteArray) : ∀ A : List Int, (∀ x ∈ A, 0 ≤ x ∧ x < (i : Int)) → argsF (L.take i) A.length (A.map (nameAt L) ++ r) = some (A, r)
  | [], _ => rfl
  | x :: A, h => by
    have ih := args_back hg hi r A (fun y hy => h y (by simp [hy]))
    obtain ⟨h0, h1⟩ := h x (by simp)
    obtain ⟨a, rfl⟩ : ∃ a : Nat, x = a := ⟨x.toNat, by omega⟩
    have hn : nameAt L (a : Int) = (L[a]'(by omega)).name := by
      rw [nameAt, Int.toNat_natCast, List.getElem?_eq_getElem (by omega)]
    rw [List.map_cons, List.cons_append, List.length_cons, argsF, hn, nmd_take_old hg hi (by omega), (grp_at hg (i := a) (by omega)).1, decide_eq_true (p := (0 : Int) ≤ (a : Int)) (by omega), ih]
    rfl
theorem itoaB_num {n : Int} (h1 : -1073741824 ≤ n) (h2 : n ≤ 1073741824) : numK (itoaB n).data.toList = true ∧ numV (itoaB n).data.toList = n := itoa_num n h1 h2
theorem dimsG_back : ∀ (k : Nat) (d : List Int), d.length ≤ k → (∀ x ∈ d, 1 ≤ x ∧ x ≤ 8) → dimsG k (d.map itoaB) = some (d, [])
  | 0, [], _, _ => rfl
  | 0, x :: d, h, _ => by simp at h
  | k + 1, [], _, _ => rfl
  | k + 1, x :: d, h, hx => by
    have ih := dimsG_back k d (by simpa using h) (fun y hy => hx y (by simp [hy]))
    obtain ⟨h1, h2⟩ := hx x (by simp)
    obtain ⟨e1, e2⟩ := itoaB_num (n := x) (by omega) (by omega)
    rw [List.map_cons, dimsG, e1, ih, e2]
    rfl
/-- What node i of a graph is shown as is read as it, behind those ahead. -/
theorem line_back {L : List Nod} (hg : grpB L = true) {i : Nat} (hi : i < L.length) : lineF (L.take i) (lineT L L[i]) = (0, L[i]) := by
  have hnb := nodesB_at (grp_nodes hg) i hi
  obtain ⟨hn, hnm, hk15, hn1, hn2⟩ := grp_at hg hi
  have hnew := nmd_take_new hg hi
  obtain ⟨hl1, hl24⟩ : 1 ≤ L.length ∧ L.length ≤ 24 := by
    simp only [grpB, Bool.and_eq_true, decide_eq_true_eq] at hg
    exact ⟨hg.1.1.1.1, hg.1.1.1.2⟩
  have hargs := fun x hx => argsB_lt (nodeB_args hnb) (x := x) hx
  have hokd := nodeB_okd hnb
  have hin := nodeB_in (L := L) (i := i) (by omega) L[i]
  rw [hnb] at hin
  have hm : may L[i].kind L[i].n (askD L[i]) (dimsAt L L[i].args) = true := by
    have h := hnb
    simp only [nodeB, Bool.and_eq_true] at h
    exact h.2.1
  have hfrm : frm L[i].kind L[i].n (askD L[i]) L[i].args.length = true := by
    have h := hm
    rw [may, Bool.and_eq_true, dimsAt_len] at h
    exact h.1
  obtain ⟨hk, hc, hd, hno⟩ := frm_parts1 hfrm
  generalize ht : L[i] = t at *
  obtain ⟨nm, kd, ar, ds, n⟩ := t
  simp only at hn hnm hk15 hn1 hn2 hnew hargs hokd hin hk hc hd hno
  obtain ⟨k, rfl⟩ : ∃ k : Nat, kd = k := ⟨kd.toNat, by omega⟩
  rw [Int.toNat_natCast] at hc hd hno
  have hkf := kind_back k (by omega) (by omega)
  have hll : (L.take i).length = i := by rw [List.length_take]; omega
  have h1 : numbF k ((if numbI k then [itoaB n] else []) ++ (if askI (k : Int) then ds.map itoaB else [])) = some (n, if askI (k : Int) then ds.map itoaB else []) := by
    unfold numbF
    cases hnk : numbI k with
    | true =>
      obtain ⟨e1, e2⟩ := itoaB_num hn1 hn2
      rw [if_pos rfl, if_pos rfl]
      show (if numK (itoaB n).data.toList = true then _ else none) = _
      rw [if_pos e1, e2]
      rfl
    | false =>
      have hz : n = 0 := by
        have h3 : ¬ k = 3 := fun e => by rw [e] at hnk; simp [numbI] at hnk
        have h8 : ¬ k = 8 := fun e => by rw [e] at hnk; simp [numbI] at hnk
        have h15 : ¬ k = 15 := fun e => by rw [e] at hnk; simp [numbI] at hnk
        rw [nok, if_neg (by omega), if_neg (by omega)] at hno
        exact of_decide_eq_true hno
      rw [hz]
      rfl
  have h2 : dimsF k (if askI (k : Int) then ds.map itoaB else []) = some (askD ⟨nm, (k : Int), ar, ds, n⟩, []) := by
    rw [dimsF, askD]
    cases ha : askI (k : Int) with
    | true =>
      obtain ⟨o1, o2, o3, _⟩ := okd_parts hokd
      have := dimsG_back 3 ds o2 (fun x hx => inr_mem o3 hx)
      simp only [if_true]
      rw [this]
      cases ds with
      | nil => simp at o1
      | cons x r => rfl
    | false => rfl
  have hin := hin.symm
  rw [Bool.and_eq_true, decide_eq_true_eq, decide_eq_true_eq] at hin
  show (if nameB nm && decide (nmdN (L.take i) nm 0 < 0) && decide ((⟨#[61]⟩ : ByteArray) = ⟨#[61]⟩) && decide (kindF (kindN k) ≠ 0) then _ else _) = _
  rw [hn, hnew, hkf, decide_eq_true (p := k ≠ 0) (by omega)]
  simp only [lineR, Int.toNat_natCast, hkf]
  rw [← hc, args_back hg (by omega) _ ar hargs]
  simp only [h1, h2]
  rw [if_neg (by omega : ¬ 24 ≤ (L.take i).length), hin.1, hin.2]
  rfl
end Go.Proofs.YtkojdigaoihkpaaGreatDoor

end
section
namespace Go.Proofs.YtkojdigaoihkpaaGreatDoor
set_option linter.unusedVariables false
set_option linter.unusedSimpArgs false
set_option maxRecDepth 100000
open Go.RowKit

end Go.Proofs.YtkojdigaoihkpaaGreatDoor

end
section
namespace Go.Proofs.YtkojdigaoihkpaaGreatDoor
set_option linter.unusedVariables false
set_option linter.unusedSimpArgs false
set_option maxRecDepth 100000
open Go.RowKit

end Go.Proofs.YtkojdigaoihkpaaGreatDoor

end
section
namespace Go.Proofs.YtkojdigaoihkpaaGreatDoor
set_option linter.unusedVariables false
set_option linter.unusedSimpArgs false
set_option maxRecDepth 100000
open Go.RowKit

def kdA : Array Value := #[.string ⟨#[]⟩, .string ⟨#[105, 110]⟩, .string ⟨#[112, 97, 114, 97, 109]⟩, .string ⟨#[102, 105, 108, 108]⟩, .string ⟨#[97, 100, 100]⟩, .string ⟨#[115, 117, 98]⟩, .string ⟨#[109, 117, 108]⟩, .string ⟨#[110, 101, 103]⟩, .string ⟨#[115, 99, 97, 108, 101]⟩, .string ⟨#[109, 97, 116]⟩, .string ⟨#[116, 117, 114, 110]⟩, .string ⟨#[115, 104, 97, 112, 101]⟩, .string ⟨#[119, 105, 100, 101]⟩, .string ⟨#[115, 117, 109]⟩, .string ⟨#[114, 101, 108, 117]⟩, .string ⟨#[109, 97, 120]⟩]
theorem kdA_at : ∀ k, k < 16 → kdA[k]? = some (.string (kindN k)) := by
  intro k hk
  have : k = 0 ∨ k = 1 ∨ k = 2 ∨ k = 3 ∨ k = 4 ∨ k = 5 ∨ k = 6 ∨ k = 7 ∨ k = 8 ∨ k = 9 ∨ k = 10 ∨ k = 11 ∨ k = 12 ∨ k = 13 ∨ k = 14 ∨ k = 15 := by omega
  rcases this with rfl | rfl | rfl | rfl | rfl | rfl | rfl | rfl | rfl | rfl | rfl | rfl | rfl | rfl | rfl | rfl <;> rfl
theorem kinds_to (w : World) : Calls Tryz.prog 24 #[] w fun e w' => e = .returned (.slice (some ⟨w.heap.size, 0, none⟩) 16 16) ∧ w' = w.alloc (.cells kdA 9) := by
  go_enter Tryz.func24, Tryz.ntmps24
  go_wp2
  go_ret
  exact ⟨rfl, rfl⟩
theorem kindG_at (s : ByteArray) : ∀ k, k < 16 → kindG s (kindsL.drop k) k = if kindN k = s then k else kindG s (kindsL.drop (k + 1)) (k + 1) := by
  intro k hk
  have h : kindsL.drop k = kindN k :: kindsL.drop (k + 1) := by
    have hl : k < kindsL.length := hk
    rw [List.drop_eq_getElem_cons hl, kindN, List.getD_eq_getElem?_getD, List.getElem?_eq_getElem hl]
    rfl
  rw [h, kindG]
theorem str_ne9 {a b : ByteArray} (h : ¬ a = b) : (a.toList == b.toList) = false := by
  rw [beq_eq_false_iff_ne]
  intro e
  rw [Lib.toList_data, Lib.toList_data] at e
  exact h (by cases a; cases b; simp only [ByteArray.mk.injEq]; exact Array.toList_inj.1 e)
set_option maxHeartbeats 4000000 in
theorem rkind_to (s : ByteArray) (w : World) (k : Nat) (hk : kindF s = k) : Calls Tryz.prog 59 #[.string s] w fun e w' => e = .returned (.int .i64 k) ∧ Below w.heap.size w w' := by
  have HK : Hid (kindG s (kindsL.drop 1) 1 = k) := hk
  obtain ⟨U, hU⟩ : ∃ U, U = w.alloc (.cells kdA 9) := ⟨_, rfl⟩
  have HUU : Hid (U = w.alloc (.cells kdA 9)) := hU
  have HB : Hid (Below w.heap.size w U) := by show Below _ _ _; rw [hU]; exact Below.push (Below.refl _ _) _
  have HC : Hid (∀ j, j < 16 → U.cell? ⟨w.heap.size, j, none⟩ = some (.string (kindN j))) := fun j hj => by
    rw [hU, cell_of_row _ w.heap.size j kdA _ _ (heap_alloc_new w _)]
    exact kdA_at j hj
  clear hk hU
  go_enter Tryz.func59, Tryz.ntmps59
  go_wp2_with (go_at_call 24; refine (kinds_to _).mono ?_; rintro e w2 ⟨rfl, rfl⟩; rw [← HUU.out])
  go_loop [4] (fun i => ∃ j : Nat, 1 ≤ j ∧ j ≤ 16 ∧ i = .int .i64 j ∧ Hid (kindG s (kindsL.drop j) j = k)) (fun i => 16 - (intOf i).toNat)
  case atStart => exact ⟨1, by omega, by omega, rfl, HK.out⟩
  case round =>
    obtain ⟨j, hj1, hj, rfl, HF⟩ := hrel
    by_cases hlt : j < 16
    · have hc := HC.out j hlt
      have g1 : (j : Int) < 16 := by omega
      have HS : Hid (kindG s (kindsL.drop j) j = if kindN j = s then j else kindG s (kindsL.drop (j + 1)) (j + 1)) := kindG_at s j hlt
      obtain ⟨t, ht⟩ : ∃ t, kindN j = t := ⟨_, rfl⟩
      have HT : Hid (kindN j = t) := ht
      rw [ht] at hc
      clear ht
      by_cases e : t = s
      · have HV : Hid (k = j) := by
          have h := HS.out
          rw [HF.out, HT.out, if_pos e] at h
          exact h
        have hb : (t.toList == s.toList) = true := by rw [e]; simp
        clear e
        go_wp2
        go_ret
        exact ⟨by rw [HV.out]; rfl, HB.out⟩
      · have HV : Hid (kindG s (kindsL.drop (j + 1)) (j + 1) = k) := by
          have h := HS.out
          rw [HF.out, HT.out, if_neg e] at h
          exact h.symm
        have hb := str_ne9 e
        clear e
        go_wp2
        go_round
        case rel => exact ⟨j + 1, by omega, by omega, by go_num, HV.out⟩
        case measure => simp [intOf]; omega
    · obtain rfl : j = 16 := by omega
      have HV : Hid (k = 0) := HF.out.symm
      go_wp2
      go_ret
      exact ⟨by rw [HV.out]; rfl, HB.out⟩
end Go.Proofs.YtkojdigaoihkpaaGreatDoor

end
section
namespace Go.Proofs.YtkojdigaoihkpaaGreatDoor
set_option linter.unusedVariables false
set_option linter.unusedSimpArgs false
set_option maxRecDepth 100000
open Go.RowKit

/-- Words only. -/
def HoldsW (w : World) (v : Value) (T : List ByteArray) : Prop :=
  ∃ a c, v = .slice a T.length c ∧ T.length ≤ c ∧ ∀ j (h : j < T.length), ∃ b off, a = some ⟨b, off, none⟩ ∧ w.cell? ⟨b, off + j * 2, none⟩ = some (.string T[j])
theorem cellsT_at : ∀ (T : List Tok) (j : Nat) (h : j < T.length), (cellsT T)[j * 2]? = some (.string T[j].1)
  | t :: r, 0, h => rfl
  | t :: r, j + 1, h => by
    have e : (j + 1) * 2 = j * 2 + 2 := by omega
    rw [cellsT, e]
    show (cellsT r)[j * 2]? = _
    rw [cellsT_at r j (by simpa using h)]
    rfl
theorem HoldsC.words {w : World} {v : Value} {T : List Tok} (h : HoldsC w v T.length (cellsT T)) : HoldsW w v (T.map Prod.fst) := by
  obtain ⟨a, c, rfl, hn, hc⟩ := h
  refine ⟨a, c, by rw [List.length_map], by rw [List.length_map]; exact hn, fun j hj => ?_⟩
  rw [List.length_map] at hj
  obtain ⟨b, off, e1, e2⟩ := hc (j * 2) _ (cellsT_at T j hj)
  exact ⟨b, off, e1, by rw [e2, List.getElem_map]⟩
/-- Without the first k of them. -/
theorem HoldsW.drop {w : World} {a : Option Addr} {n c : Nat} {T : List ByteArray} (h : HoldsW w (.slice a n c) T) (k : Nat) (hk : k ≤ T.length) : HoldsW w (.slice (if c = k then a else a.map (·.add (k * 2))) (n - k) (c - k)) (T.drop k) := by
  obtain ⟨a', c', e, hn, hc⟩ := h
  simp only [Value.slice.injEq] at e
  obtain ⟨rfl, rfl, rfl⟩ := e
  refine ⟨_, _, by rw [List.length_drop], by rw [List.length_drop]; omega, fun j hj => ?_⟩
  rw [List.length_drop] at hj
  obtain ⟨b, off, rfl, hx⟩ := hc (k + j) (by omega)
  rw [if_neg (by omega)]
  refine ⟨b, off + k * 2, by simp [Addr.add], ?_⟩
  rw [show off + k * 2 + j * 2 = off + (k + j) * 2 by omega, hx, List.getElem_drop]
theorem HoldsW.first {w : World} {a : Option Addr} {n c : Nat} {t : ByteArray} {r : List ByteArray} (h : HoldsW w (.slice a n c) (t :: r)) : ∃ b off, a = some ⟨b, off, none⟩ ∧ n = r.length + 1 ∧ n ≤ c ∧ w.cell? ⟨b, off, none⟩ = some (.string t) := by
  obtain ⟨a', c', e, hn, hc⟩ := h
  simp only [Value.slice.injEq] at e
  obtain ⟨rfl, rfl, rfl⟩ := e
  obtain ⟨b, off, e1, e2⟩ := hc 0 (by simp)
  exact ⟨b, off, e1, rfl, hn, e2⟩
theorem HoldsW.three {w : World} {a : Option Addr} {n c : Nat} {t0 t1 t2 : ByteArray} {r : List ByteArray} (h : HoldsW w (.slice a n c) (t0 :: t1 :: t2 :: r)) : ∃ b off, a = some ⟨b, off, none⟩ ∧ n = r.length + 3 ∧ n ≤ c ∧ w.cell? ⟨b, off, none⟩ = some (.string t0) ∧ w.cell? ⟨b, off + 2, none⟩ = some (.string t1) ∧ w.cell? ⟨b, off + 4, none⟩ = some (.string t2) := by
  obtain ⟨a', c', e, hn, hc⟩ := h
  simp only [Value.slice.injEq] at e
  obtain ⟨rfl, rfl, rfl⟩ := e
  obtain ⟨b, off, rfl, e2⟩ := hc 0 (by simp)
  obtain ⟨b1, o1, e3, e4⟩ := hc 1 (by simp)
  obtain ⟨b2, o2, e5, e6⟩ := hc 2 (by simp)
  simp only [Option.some.injEq, Addr.mk.injEq] at e3 e5
  obtain ⟨rfl, rfl, _⟩ := e3
  obtain ⟨rfl, rfl, _⟩ := e5
  exact ⟨_, _, rfl, rfl, hn, e2, e4, e6⟩
theorem HoldsW.shape {w : World} {v : Value} {T : List ByteArray} (h : HoldsW w v T) : ∃ a c, v = .slice a T.length c ∧ T.length ≤ c := by
  obtain ⟨a, c, e, hn, _⟩ := h
  exact ⟨a, c, e, hn⟩
/-- Behind the dims. -/
noncomputable def lineD (L : List Nod) (t0 : ByteArray) (k : Nat) (A : List Int) (n : Int) (d : List Int) (T : List ByteArray) : Int × Nod :=
  if T = [] then (if 24 ≤ L.length then (2, nod0) else (inE k n d L A, ⟨t0, k, A, inR k n d L A, n⟩)) else (5, nod0)
noncomputable def lineG (L : List Nod) (t0 : ByteArray) (k : Nat) (A : List Int) (n : Int) (d : List Int) (j : Nat) (T : List ByteArray) : Int × Nod :=
  match dimsG j T with
  | none => (5, nod0)
  | some (d', r) => if d ++ d' = [] then (5, nod0) else lineD L t0 k A n (d ++ d') r
/-- Behind the number. -/
noncomputable def lineC (L : List Nod) (t0 : ByteArray) (k : Nat) (A : List Int) (n : Int) (T : List ByteArray) : Int × Nod :=
  if askI k then lineG L t0 k A n [] 3 T else lineD L t0 k A n [] T
/-- Behind the names. -/
noncomputable def lineB (L : List Nod) (t0 : ByteArray) (k : Nat) (A : List Int) (T : List ByteArray) : Int × Nod :=
  if numbI k then (match T with
    | [] => (5, nod0)
    | t :: r => if numK t.data.toList then lineC L t0 k A (numV t.data.toList) r else (5, nod0)) else lineC L t0 k A 0 T
/-- With j names to come. -/
noncomputable def lineA (L : List Nod) (t0 : ByteArray) (k : Nat) (A : List Int) (j : Nat) (T : List ByteArray) : Int × Nod :=
  match argsF L j T with
  | none => (5, nod0)
  | some (A', r) => lineB L t0 k (A ++ A') r
theorem lineA_zero (L : List Nod) (t0 : ByteArray) (k : Nat) (A : List Int) (T : List ByteArray) : lineA L t0 k A 0 T = lineB L t0 k A T := by
  rw [lineA, argsF]
  simp
theorem lineA_nil (L : List Nod) (t0 : ByteArray) (k : Nat) (A : List Int) (j : Nat) : lineA L t0 k A (j + 1) [] = (5, nod0) := by
  rw [lineA, argsF]
theorem lineA_cons (L : List Nod) (t0 : ByteArray) (k : Nat) (A : List Int) (j : Nat) (t : ByteArray) (T : List ByteArray) :
    lineA L t0 k A (j + 1) (t :: T) = if nameB t && decide (0 ≤ nmdN L t 0) then lineA L t0 k (A ++ [nmdN L t 0]) j T else (5, nod0) := by
  by_cases hb : (nameB t && decide (0 ≤ nmdN L t 0)) = true
  · rw [lineA, argsF, if_pos hb, if_pos hb, lineA]
    cases argsF L j T with
    | none => rfl
    | some p => simp
  · rw [lineA, argsF, if_neg hb, if_neg hb]
theorem lineG_zero (L : List Nod) (t0 : ByteArray) (k : Nat) (A : List Int) (n : Int) (d : List Int) (T : List ByteArray) (hd : d ≠ []) : lineG L t0 k A n d 0 T = lineD L t0 k A n d T := by
  rw [lineG, dimsG]
  simp [hd]
theorem lineG_nil (L : List Nod) (t0 : ByteArray) (k : Nat) (A : List Int) (n : Int) (d : List Int) (j : Nat) : lineG L t0 k A n d j [] = if d = [] then (5, nod0) else lineD L t0 k A n d [] := by
  cases j with
  | zero => rw [lineG, dimsG]; simp
  | succ j => rw [lineG, dimsG]; simp
theorem lineG_cons (L : List Nod) (t0 : ByteArray) (k : Nat) (A : List Int) (n : Int) (d : List Int) (j : Nat) (t : ByteArray) (T : List ByteArray) :
    lineG L t0 k A n d (j + 1) (t :: T) = if numK t.data.toList then lineG L t0 k A n (d ++ [numV t.data.toList]) j T else (5, nod0) := by
  by_cases hb : numK t.data.toList = true
  · rw [lineG, dimsG, if_pos hb, if_pos hb, lineG]
    cases dimsG j T with
    | none => rfl
    | some p => simp
  · rw [lineG, dimsG, if_neg hb, if_neg hb]
theorem lineC_dims (L : List Nod) (t0 : ByteArray) (k : Nat) (A : List Int) (n : Int) (T : List ByteArray) : lineC L t0 k A n T = match dimsF k T with
    | none => (5, nod0)
    | some (d, r3) => lineD L t0 k A n d r3 := by
  rw [lineC, dimsF]
  split
  · rw [lineG]
    cases h : dimsG 3 T with
    | none => rfl
    | some p =>
      obtain ⟨d, r⟩ := p
      cases d with
      | nil => simp
      | cons x d => simp
  · rfl
theorem lineB_numb (L : List Nod) (t0 : ByteArray) (k : Nat) (A : List Int) (T : List ByteArray) : lineB L t0 k A T = match numbF k T with
    | none => (5, nod0)
    | some (n, r2) => lineC L t0 k A n r2 := by
  cases T with
  | nil =>
    simp only [lineB, numbF]
    split <;> rfl
  | cons t r =>
    simp only [lineB, numbF]
    by_cases h : numbI k = true
    · rw [if_pos h, if_pos h]
      by_cases h2 : numK t.data.toList = true
      · rw [if_pos h2, if_pos h2]
      · rw [if_neg h2, if_neg h2]
    · rw [if_neg h, if_neg h]
theorem lineB_no (L : List Nod) (t0 : ByteArray) (k : Nat) (A : List Int) (T : List ByteArray) (h : numbI k = false) : lineB L t0 k A T = lineC L t0 k A 0 T := by
  cases T with
  | nil => simp only [lineB, h]; rfl
  | cons t r => simp only [lineB, h]; rfl
theorem lineB_nil (L : List Nod) (t0 : ByteArray) (k : Nat) (A : List Int) (h : numbI k = true) : lineB L t0 k A [] = (5, nod0) := by
  simp only [lineB, h]
  rfl
theorem lineB_cons (L : List Nod) (t0 : ByteArray) (k : Nat) (A : List Int) (t : ByteArray) (T : List ByteArray) (h : numbI k = true) : lineB L t0 k A (t :: T) = if numK t.data.toList then lineC L t0 k A (numV t.data.toList) T else (5, nod0) := by
  simp only [lineB, h]
  rfl
/-- Is the line's head as it must be? -/
def headB (L : List Nod) (t0 t1 t2 : ByteArray) : Bool := nameB t0 && decide (nmdN L t0 0 < 0) && decide (t1 = ⟨#[61]⟩) && decide (kindF t2 ≠ 0)
theorem lineF_head (L : List Nod) (t0 t1 t2 : ByteArray) (r : List ByteArray) : lineF L (t0 :: t1 :: t2 :: r) = if headB L t0 t1 t2 then lineA L t0 (kindF t2) [] (many (kindF t2)) r else (5, nod0) := by
  rw [lineF, headB]
  split
  · rw [lineA]
    cases argsF L (many (kindF t2)) r with
    | none => rfl
    | some p =>
      obtain ⟨A, r1⟩ := p
      simp only [List.nil_append]
      rw [lineB_numb]
      cases numbF (kindF t2) r1 with
      | none => rfl
      | some q =>
        obtain ⟨n, r2⟩ := q
        simp only
        rw [lineC_dims]
        cases dimsF (kindF t2) r2 with
        | none => rfl
        | some u =>
          obtain ⟨d, r3⟩ := u
          simp only
          rw [lineD]
  · rfl
end Go.Proofs.YtkojdigaoihkpaaGreatDoor

end
section
namespace Go.Proofs.YtkojdigaoihkpaaGreatDoor
set_option linter.unusedVariables false
set_option linter.unusedSimpArgs false
set_option maxRecDepth 100000
open Go.RowKit

/-- What stands behind a kind's name. -/
def restL (k : Nat) : List Nat := if k = 1 ∨ k = 2 then [100] else if k = 3 then [110, 100] else if k = 4 ∨ k = 5 ∨ k = 6 ∨ k = 9 then [111, 111] else if k = 7 ∨ k = 10 ∨ k = 14 then [111] else if k = 8 ∨ k = 15 then [111, 110] else if k = 11 ∨ k = 12 ∨ k = 13 then [111, 100] else []
def restB (k : Nat) : ByteArray := ⟨((restL k).map fun c => UInt8.ofNat c).toArray⟩
def inKI (k : Int) : Bool := decide (1 ≤ k) && decide (k ≤ 15)
def nameI (k : Int) : ByteArray := if inKI k then kindN k.toNat else ⟨#[]⟩
def restI (k : Int) : ByteArray := if inKI k then restB k.toNat else ⟨#[]⟩
/-- Sign by sign: the names' numbers, the number, the dims. -/
noncomputable def partsL (L : List Nod) : List Nat → List Int → Int → List Int → List ByteArray → Option (List Int × Int × List Int)
  | [], A, n, D, T => if T = [] then some (A, n, D) else none
  | c :: R, A, n, D, [] => none
  | c :: R, A, n, D, t :: T =>
    if c = 111 then (if nmdN L t 0 < 0 then none else partsL L R (A ++ [nmdN L t 0]) n D T)
    else if c = 110 then (if numK t.data.toList then partsL L R A (numV t.data.toList) D T else none)
    else if c = 100 then (match dimsG (3 - D.length) (t :: T) with
      | none => none
      | some (d, r) => partsL L R A n (D ++ d) r)
    else partsL L R A n D (t :: T)
/-- What the parts make. -/
noncomputable def lineZ (L : List Nod) (t0 : ByteArray) (k : Nat) (o : Option (List Int × Int × List Int)) : Int × Nod := match o with
  | none => (5, nod0)
  | some (A, n, d) => if 24 ≤ L.length then (2, nod0) else (inE k n d L A, ⟨t0, k, A, inR k n d L A, n⟩)
theorem lineZ_nil (L : List Nod) (t0 : ByteArray) (k : Nat) (A : List Int) (n : Int) (D : List Int) (T : List ByteArray) : lineZ L t0 k (partsL L [] A n D T) = lineD L t0 k A n D T := by
  rw [partsL, lineD]
  split <;> rfl
theorem lineZ_dims (L : List Nod) (t0 : ByteArray) (k : Nat) (A : List Int) (n : Int) (T : List ByteArray) : lineZ L t0 k (partsL L [100] A n [] T) = lineG L t0 k A n [] 3 T := by
  cases T with
  | nil => rw [lineG_nil, if_pos rfl]; rfl
  | cons t T =>
    rw [partsL, if_neg (by decide), if_neg (by decide), if_pos rfl, lineG]
    have h3 : 3 - ([] : List Int).length = 3 := rfl
    rw [h3]
    cases h : dimsG 3 (t :: T) with
    | none => rfl
    | some p =>
      obtain ⟨d, r⟩ := p
      simp only [List.nil_append]
      have hd : d ≠ [] := by
        rw [dimsG] at h
        split at h
        · cases h2 : dimsG 2 T with
          | none => rw [h2] at h; simp at h
          | some q => rw [h2] at h; simp only [Option.map_some, Option.some.injEq, Prod.mk.injEq] at h; rw [← h.1]; simp
        · simp at h
      rw [if_neg hd, lineZ_nil]
theorem lineZ_numb (L : List Nod) (t0 : ByteArray) (k : Nat) (R : List Nat) (A : List Int) (n : Int) (D : List Int) (T : List ByteArray) : lineZ L t0 k (partsL L (110 :: R) A n D T) = match T with
    | [] => (5, nod0)
    | t :: T => if numK t.data.toList then lineZ L t0 k (partsL L R A (numV t.data.toList) D T) else (5, nod0) := by
  cases T with
  | nil => rfl
  | cons t T =>
    show lineZ L t0 k (partsL L (110 :: R) A n D (t :: T)) = (if numK t.data.toList then lineZ L t0 k (partsL L R A (numV t.data.toList) D T) else (5, nod0))
    rw [partsL, if_neg (by decide), if_pos rfl]
    by_cases h : numK t.data.toList = true
    · rw [if_pos h, if_pos h]
    · rw [if_neg h, if_neg h]
      rfl
theorem lineZ_name (L : List Nod) (hL : ∀ t, 0 ≤ nmdN L t 0 → nameB t = true) (t0 : ByteArray) (k : Nat) (R : List Nat) (A : List Int) (n : Int) (D : List Int) (T : List ByteArray) : lineZ L t0 k (partsL L (111 :: R) A n D T) = match T with
    | [] => (5, nod0)
    | t :: T => if nameB t && decide (0 ≤ nmdN L t 0) then lineZ L t0 k (partsL L R (A ++ [nmdN L t 0]) n D T) else (5, nod0) := by
  cases T with
  | nil => rfl
  | cons t T =>
    show lineZ L t0 k (partsL L (111 :: R) A n D (t :: T)) = (if nameB t && decide (0 ≤ nmdN L t 0) then lineZ L t0 k (partsL L R (A ++ [nmdN L t 0]) n D T) else (5, nod0))
    rw [partsL, if_pos rfl]
    by_cases h : nmdN L t 0 < 0
    · rw [if_pos h, if_neg (by simp; omega)]
      rfl
    · rw [if_neg h, if_pos (by rw [hL t (by omega)]; simp; omega)]
/-- All the kinds. -/
theorem lineZ_all (L : List Nod) (hL : ∀ t, 0 ≤ nmdN L t 0 → nameB t = true) (t0 : ByteArray) : ∀ (k : Nat), 1 ≤ k → k ≤ 15 → ∀ T, lineZ L t0 k (partsL L (restL k) [] 0 [] T) = lineA L t0 k [] (many k) T := by
  intro k h1 h2 T
  have hc : (k = 1 ∨ k = 2) ∨ k = 3 ∨ (k = 4 ∨ k = 5 ∨ k = 6 ∨ k = 9) ∨ (k = 7 ∨ k = 10 ∨ k = 14) ∨ (k = 8 ∨ k = 15) ∨ (k = 11 ∨ k = 12 ∨ k = 13) := by omega
  have e0 : ∀ k, lineZ L t0 k (partsL L [100] [] 0 [] T) = lineZ L t0 k (partsL L [100] [] 0 [] T) := fun _ => rfl
  rcases hc with hc | hc | hc | hc | hc | hc
  · have hr : restL k = [100] := by rcases hc with rfl | rfl <;> rfl
    have hm : many k = 0 := by rcases hc with rfl | rfl <;> rfl
    have hn : numbI k = false := by rcases hc with rfl | rfl <;> rfl
    have ha : askI k = true := by rcases hc with rfl | rfl <;> rfl
    rw [hr, hm, lineA_zero, lineB_no _ _ _ _ _ hn, lineC, if_pos ha, lineZ_dims]
  · subst hc
    have hn : numbI 3 = true := rfl
    have ha : askI ((3 : Nat) : Int) = true := rfl
    rw [show restL 3 = [110, 100] from rfl, show many 3 = 0 from rfl, lineA_zero, lineZ_numb]
    cases T with
    | nil => rw [lineB_nil _ _ _ _ hn]
    | cons t T =>
      rw [lineB_cons _ _ _ _ _ _ hn]
      simp only [lineC, ha, if_true, lineZ_dims]
  · have hr : restL k = [111, 111] := by rcases hc with rfl | rfl | rfl | rfl <;> rfl
    have hm : many k = 2 := by rcases hc with rfl | rfl | rfl | rfl <;> rfl
    have hn : numbI k = false := by rcases hc with rfl | rfl | rfl | rfl <;> rfl
    have ha : askI k = false := by rcases hc with rfl | rfl | rfl | rfl <;> rfl
    rw [hr, hm, lineZ_name L hL]
    cases T with
    | nil => rw [lineA_nil]
    | cons t T =>
      rw [lineA_cons]
      simp only [lineZ_name L hL]
      split
      · cases T with
        | nil => rw [lineA_nil]
        | cons u T =>
          rw [lineA_cons]
          simp only [lineZ_nil, lineA_zero, lineB_no _ _ _ _ _ hn, lineC, ha]
          rfl
      · rfl
  · have hr : restL k = [111] := by rcases hc with rfl | rfl | rfl <;> rfl
    have hm : many k = 1 := by rcases hc with rfl | rfl | rfl <;> rfl
    have hn : numbI k = false := by rcases hc with rfl | rfl | rfl <;> rfl
    have ha : askI k = false := by rcases hc with rfl | rfl | rfl <;> rfl
    rw [hr, hm, lineZ_name L hL]
    cases T with
    | nil => rw [lineA_nil]
    | cons t T =>
      rw [lineA_cons]
      simp only [lineZ_nil, lineA_zero, lineB_no _ _ _ _ _ hn, lineC, ha]
      rfl
  · have hr : restL k = [111, 110] := by rcases hc with rfl | rfl <;> rfl
    have hm : many k = 1 := by rcases hc with rfl | rfl <;> rfl
    have hn : numbI k = true := by rcases hc with rfl | rfl <;> rfl
    have ha : askI k = false := by rcases hc with rfl | rfl <;> rfl
    rw [hr, hm, lineZ_name L hL]
    cases T with
    | nil => rw [lineA_nil]
    | cons t T =>
      rw [lineA_cons]
      simp only [lineZ_numb, lineA_zero]
      split
      · cases T with
        | nil => rw [lineB_nil _ _ _ _ hn]
        | cons u T =>
          rw [lineB_cons _ _ _ _ _ _ hn]
          simp only [lineZ_nil, lineC, ha]
          rfl
      · rfl
  · have hr : restL k = [111, 100] := by rcases hc with rfl | rfl | rfl <;> rfl
    have hm : many k = 1 := by rcases hc with rfl | rfl | rfl <;> rfl
    have hn : numbI k = false := by rcases hc with rfl | rfl | rfl <;> rfl
    have ha : askI k = true := by rcases hc with rfl | rfl | rfl <;> rfl
    rw [hr, hm, lineZ_name L hL]
    cases T with
    | nil => rw [lineA_nil]
    | cons t T =>
      rw [lineA_cons]
      simp only [lineZ_dims, lineA_zero, lineB_no _ _ _ _ _ hn, lineC, ha, if_true]
/-- A line, by its head and its parts. -/
theorem lineF_parts (L : List Nod) (hL : ∀ t, 0 ≤ nmdN L t 0 → nameB t = true) (t0 t1 t2 : ByteArray) (r : List ByteArray) (hk : kindF t2 ≤ 15) :
    lineF L (t0 :: t1 :: t2 :: r) = if headB L t0 t1 t2 then lineZ L t0 (kindF t2) (partsL L (restL (kindF t2)) [] 0 [] r) else (5, nod0) := by
  rw [lineF_head]
  by_cases h : headB L t0 t1 t2 = true
  · rw [if_pos h, if_pos h]
    have h0 : kindF t2 ≠ 0 := by
      simp only [headB, Bool.and_eq_true, decide_eq_true_eq] at h
      exact h.2
    exact (lineZ_all L hL t0 _ (by omega) hk r).symm
  · rw [if_neg h, if_neg h]
theorem kindG_le (s : ByteArray) : ∀ (l : List ByteArray) (i : Nat), 0 < i → kindG s l i < i + l.length
  | [], i, hi => by simpa [kindG] using hi
  | t :: r, i, hi => by
    rw [kindG]
    split
    · simp
    · have := kindG_le s r (i + 1) (by omega)
      simp only [List.length_cons]
      omega
theorem kindF_le (s : ByteArray) : kindF s ≤ 15 := by
  have := kindG_le s (kindsL.drop 1) 1 (by omega)
  have hl : (kindsL.drop 1).length = 15 := rfl
  rw [kindF]
  omega
end Go.Proofs.YtkojdigaoihkpaaGreatDoor

end
section
namespace Go.Proofs.YtkojdigaoihkpaaGreatDoor
set_option linter.unusedVariables false
set_option linter.unusedSimpArgs false
set_option maxRecDepth 100000
open Go.RowKit

set_option maxHeartbeats 4000000 in
theorem spelled_to (k : Int) (w : World) : Calls Tryz.prog 46 #[.int .i64 k] w fun e w' => e = .returned (.tuple #[.string (nameI k), .string (restI k)]) ∧ w = w' := by
  have hc : k = 1 ∨ k = 2 ∨ k = 3 ∨ k = 4 ∨ k = 5 ∨ k = 6 ∨ k = 7 ∨ k = 8 ∨ k = 9 ∨ k = 10 ∨ k = 11 ∨ k = 12 ∨ k = 13 ∨ k = 14 ∨ k = 15 ∨ ((k < 1 ∨ 15 < k)) := by omega
  rcases hc with rfl | rfl | rfl | rfl | rfl | rfl | rfl | rfl | rfl | rfl | rfl | rfl | rfl | rfl | rfl | hc
  iterate 15 (· go_enter Tryz.func46, Tryz.ntmps46
                go_wp2
                go_ret2
                exact ⟨rfl, rfl⟩)
  · have hb : ∀ j : Int, 1 ≤ j → j ≤ 15 → (k == j) = false := fun j h1 h2 => by rw [beq_eq_false_iff_ne]; omega
    have b1 := hb 1 (by decide) (by decide)
    have b2 := hb 2 (by decide) (by decide)
    have b3 := hb 3 (by decide) (by decide)
    have b4 := hb 4 (by decide) (by decide)
    have b5 := hb 5 (by decide) (by decide)
    have b6 := hb 6 (by decide) (by decide)
    have b7 := hb 7 (by decide) (by decide)
    have b8 := hb 8 (by decide) (by decide)
    have b9 := hb 9 (by decide) (by decide)
    have b10 := hb 10 (by decide) (by decide)
    have b11 := hb 11 (by decide) (by decide)
    have b12 := hb 12 (by decide) (by decide)
    have b13 := hb 13 (by decide) (by decide)
    have b14 := hb 14 (by decide) (by decide)
    have b15 := hb 15 (by decide) (by decide)
    have HI : Hid (inKI k = false) := by
      show _ = _
      simp only [inKI, Bool.and_eq_false_iff, decide_eq_false_iff_not]
      omega
    clear hb hc
    go_enter Tryz.func46, Tryz.ntmps46
    go_wp2
    go_ret2
    refine ⟨?_, rfl⟩
    rw [nameI, restI, HI.out]
    rfl
set_option maxHeartbeats 4000000 in
theorem idxf_any {v : Value} {L : List Nod} {w : World} (h : NodesL w v L) (g : Nat) (s : ByteArray) (hg : g < w.heap.size) (hc : w.cell? ⟨g, 0, none⟩ = some (.string s)) (x : Int) (hx : nmdN L s 0 = x) :
    Calls Tryz.prog 93 #[v, .func (.func 94) #[] #[.pointer (some ⟨g, 0, none⟩)]] w fun e w' => e = .returned (.int .i64 x) ∧ Below w.heap.size w w' := by
  have HN : Hid (NodesL w v L) := h
  have HX : Hid (nmdN (L.drop 0) s 0 = x) := hx
  have HC : Hid (∀ w', Below w.heap.size w w' → w'.cell? ⟨g, 0, none⟩ = some (.string s)) := fun w' hb => (hb.cell (p := ⟨g, 0, none⟩) hg).trans hc
  obtain ⟨va, vc, rfl, hc1, hc2⟩ := h.shape
  unfold big at hc2
  clear h hx hc
  go_enter Tryz.func93, Tryz.ntmps93
  go_wp2
  go_loopw [8] (fun i w' => ∃ k : Nat, k ≤ L.length ∧ i = .int .i64 k ∧ Hid (nmdN (L.drop k) s k = x) ∧ Hid (Below w.heap.size w w')) (fun i _ => L.length - (intOf i).toNat)
  case atStart => exact ⟨0, Nat.zero_le _, rfl, HX.out, Below.refl _ _⟩
  case round =>
    obtain ⟨k, hk, rfl, HI, HB⟩ := hrel
    by_cases hlt : k < L.length
    · have HD : Hid (L.drop k = L[k] :: L.drop (k + 1)) := List.drop_eq_getElem_cons hlt
      obtain ⟨b, off, y0, y1, rfl, hnd⟩ := (HN.out.later HB.out).row k hlt
      obtain ⟨t, ht⟩ : ∃ t, L[k] = t := ⟨_, rfl⟩
      rw [ht] at hnd HD
      have d0 := hnd.c0
      have d1 := hnd.c1
      have d2 := hnd.c2
      have d3 := hnd.c3
      have d4 := hnd.c4
      have dg := HC.out _ HB.out
      have HB2 : Hid (∀ o, Below w.heap.size w (wr.alloc o)) := fun o => Below.push HB.out o
      obtain ⟨nm, hnm⟩ : ∃ z, t.name = z := ⟨_, rfl⟩
      rw [hnm] at d0
      have g1 : (k : Int) < L.length := by omega
      have hgw : g < wr.heap.size := Nat.lt_of_lt_of_le hg HB.out.size
      have dga : ∀ o, (wr.alloc o).cell? ⟨g, 0, none⟩ = some (.string s) := fun o => ((Below.push (Below.refl wr.heap.size wr) o).cell (p := ⟨g, 0, none⟩) hgw).trans dg
      clear hnd ht
      by_cases e : nm = s
      · have HV : Hid (x = (k : Int)) := by
          have h := HI.out
          rw [HD.out, nmdN, if_pos (hnm.trans e)] at h
          exact h.symm
        have hb : (nm.toList == s.toList) = true := by rw [e]; simp
        clear e HD hnm
        go_wp2
        go_ret
        exact ⟨by rw [HV.out]; rfl, HB2.out _⟩
      · have HV : Hid (nmdN (L.drop (k + 1)) s (k + 1) = x) := by
          have h := HI.out
          rw [HD.out, nmdN, if_neg (by rw [hnm]; exact e)] at h
          exact h
        have hb := str_ne9 e
        clear e HD hnm
        go_wp2
        go_roundw
        case rel => exact ⟨k + 1, by omega, by go_num, HV.out, HB2.out _⟩
        case measure => simp [intOf]; omega
    · have HV : Hid (x = -1) := by
        have h := HI.out
        rw [List.drop_of_length_le (by omega), nmdN] at h
        exact h.symm
      have g1 : ¬ (k : Int) < L.length := by omega
      go_wp2
      go_ret
      exact ⟨by rw [HV.out]; rfl, HB.out⟩
set_option maxHeartbeats 4000000 in
theorem place_any {v : Value} {L : List Nod} {w : World} (h : NodesL w v L) (s : ByteArray) (x : Int) (hx : nmdN L s 0 = x) :
    Calls Tryz.prog 76 #[v, .string s] w fun e w' => e = .returned (.int .i64 x) ∧ Below w.heap.size w w' := by
  have HB : Hid (Below w.heap.size w (w.alloc (.cells #[.string s] 9))) := Below.push (Below.refl _ _) _
  have HN : Hid (NodesL (w.alloc (.cells #[.string s] 9)) v L) := h.later HB.out
  have HC : Hid ((w.alloc (.cells #[.string s] 9)).cell? ⟨w.heap.size, 0, none⟩ = some (.string s)) := by show _ = _; simp
  have HX : Hid (nmdN L s 0 = x) := hx
  clear h hx
  go_enter Tryz.func76, Tryz.ntmps76
  go_wp2_with fail
  refine (idxf_any HN.out w.heap.size s (by simp) HC.out x HX.out).mono ?_
  rintro e w2 ⟨rfl, hb⟩
  have HB2 : Hid (Below w.heap.size w w2) := Below.after HB.out hb
  clear hb
  go_wp2
  go_ret
  exact ⟨rfl, HB2.out⟩
theorem nameI_eq (s : ByteArray) (k : Int) (h1 : 1 ≤ k) (h2 : k ≤ 15) : nameI k = kindN k.toNat := by
  have : inKI k = true := by simp only [inKI, Bool.and_eq_true, decide_eq_true_eq]; exact ⟨h1, h2⟩
  rw [nameI, this]
  rfl
theorem restI_eq (k : Int) (h1 : 1 ≤ k) (h2 : k ≤ 15) : restI k = restB k.toNat := by
  have : inKI k = true := by simp only [inKI, Bool.and_eq_true, decide_eq_true_eq]; exact ⟨h1, h2⟩
  rw [restI, this]
  rfl
set_option maxHeartbeats 4000000 in
theorem tkind_to (s : ByteArray) (w : World) (k : Nat) (hk : kindF s = k) (E : Int) (hE : (if k = 0 then 3 else 0) = E) : Calls Tryz.prog 23 #[.string s] w fun e w' => e = .returned (.tuple #[.int .i64 k, .int .i64 E]) ∧ w = w' := by
  have HK : Hid (kindG s (kindsL.drop 1) 1 = k) := hk
  have HE : Hid ((if k = 0 then 3 else 0) = E) := hE
  clear hk hE
  go_enter Tryz.func23, Tryz.ntmps23
  go_wp2
  go_loop [4] (fun i => ∃ j : Nat, 1 ≤ j ∧ j ≤ 16 ∧ i = .int .i64 j ∧ Hid (kindG s (kindsL.drop j) j = k)) (fun i => 16 - (intOf i).toNat)
  case atStart => exact ⟨1, by omega, by omega, rfl, HK.out⟩
  case round =>
    obtain ⟨j, hj1, hj, rfl, HF⟩ := hrel
    by_cases hlt : j < 16
    · have g1 : (j : Int) ≤ 15 := by omega
      have HS : Hid (kindG s (kindsL.drop j) j = if kindN j = s then j else kindG s (kindsL.drop (j + 1)) (j + 1)) := kindG_at s j hlt
      obtain ⟨t, ht⟩ : ∃ t, kindN j = t := ⟨_, rfl⟩
      have HT : Hid (kindN j = t) := ht
      obtain ⟨u, hu⟩ : ∃ u, restI (j : Int) = u := ⟨_, rfl⟩
      have HSP : Hid (∀ w, Calls Tryz.prog 46 #[.int .i64 (j : Int)] w fun e w' => e = .returned (.tuple #[.string t, .string u]) ∧ w = w') := fun w => by
        have h := spelled_to (j : Int) w
        rw [nameI_eq s _ (by omega) (by omega), Int.toNat_natCast, ht, hu] at h
        exact h
      clear ht hu
      by_cases e : t = s
      · have HV : Hid (k = j) := by
          have h := HS.out
          rw [HF.out, HT.out, if_pos e] at h
          exact h
        have hb : (t.toList == s.toList) = true := by rw [e]; simp
        clear e
        go_wp2_with (go_at_call 46; refine (HSP.out _).mono ?_; rintro e w2 ⟨rfl, rfl⟩)
        go_ret2
        exact ⟨by rw [← HE.out, HV.out, if_neg (show ¬ j = 0 by omega)]; rfl, rfl⟩
      · have HV : Hid (kindG s (kindsL.drop (j + 1)) (j + 1) = k) := by
          have h := HS.out
          rw [HF.out, HT.out, if_neg e] at h
          exact h.symm
        have hb := str_ne9 e
        clear e
        go_wp2_with (go_at_call 46; refine (HSP.out _).mono ?_; rintro e w2 ⟨rfl, rfl⟩)
        go_round
        case rel => exact ⟨j + 1, by omega, by omega, by go_num, HV.out⟩
        case measure => simp [intOf]; omega
    · obtain rfl : j = 16 := by omega
      have HV : Hid (k = 0) := HF.out.symm
      go_wp2
      go_ret2
      exact ⟨by rw [← HE.out, HV.out]; rfl, rfl⟩
end Go.Proofs.YtkojdigaoihkpaaGreatDoor

end
