/- What a node of any kind is to be, as functions of plain data. -/
import Derived.Test.YtheddpjaihhbdabGreatC29
namespace Go.Proofs.YtheddpjaihhbdabGreat
set_option linter.unusedVariables false
set_option linter.unusedSimpArgs false
open Go.RowKit

/-- The error that the layers below tell of a kind. -/
def vE (k : Nat) (n : Int) (d : List Int) (s t : Ten) : Int :=
  match k with
  | 3 => erf d
  | 4 => fitE s t
  | 5 => fitE s t
  | 6 => fitE s t
  | 7 => fitE s s
  | 8 => tkE s
  | 9 => muE s t
  | 10 => trE s
  | 11 => shE s d
  | 12 => wiE s d
  | 13 => suE s d
  | 14 => tkE s
  | 15 => fwE s n
  | 16 => fitE s t
  | 17 => pkE s t n
  | _ => 1
/-- What they tell. -/
def vR (k : Nat) (n : Int) (d : List Int) (s t : Ten) : Ten :=
  match k with
  | 3 => if okd d then (d, List.replicate (prd d).toNat n) else ([], [])
  | 4 => eachR opA s t
  | 5 => eachR opS s t
  | 6 => eachR opM s t
  | 7 => eachR opN s s
  | 8 => sclR n s
  | 9 => muR s t
  | 10 => trR s
  | 11 => shR s d
  | 12 => wiR s d
  | 13 => suR s d
  | 14 => eachR opG s s
  | 15 => mxR s n
  | 16 => eachR opG s t
  | 17 => pkR s t n
  | _ => ([], [])
def many (k : Nat) : Nat := if k ≤ 3 then 0 else if k = 4 ∨ k = 5 ∨ k = 6 ∨ k = 9 ∨ k = 16 ∨ k = 17 then 2 else 1
def asked (k : Nat) : Bool := decide (k ≤ 3 ∨ (11 ≤ k ∧ k ≤ 13))
def nok (k : Nat) (n : Int) : Bool := if k = 3 ∨ k = 8 then true else if k = 15 ∨ k = 17 then decide (1 ≤ n ∧ n ≤ 8) else decide (n = 0)
def dok (k : Nat) (d : List Int) : Bool := if asked k then okd d else decide (d.length = 0)
/-- Are a node's number, dims and how many it is made of of its kind's form? -/
def frmN (k : Nat) (n : Int) (d : List Int) (c : Nat) : Bool := decide (c = many k) && dok k d && nok k n
def frm (k n : Int) (d : List Int) (c : Nat) : Bool := decide (1 ≤ k ∧ k ≤ 17) && frmN k.toNat n d c
def frE (k n : Int) (d : List Int) (c : Nat) : Int := if frm k n d c then 0 else 1
def zT (p : List Int) : Ten := (p, List.replicate (prd p).toNat 0)
def no : Ten := ([], [])
theorem tok_zT {p : List Int} (h : okd p = true) : tok (zT p) = true := by
  have h1 := prd_lo (okd_parts h).2.2.1
  simp only [tok, zT, h, Bool.true_and, List.length_replicate, decide_eq_true_eq]
  omega
/-- Do's error and answer. -/
def doE (k n : Int) (d : List Int) (L : List Ten) : Int := if frm k n d L.length = true then vE k.toNat n d (L.getD 0 no) (L.getD 1 no) else 1
def doR (k n : Int) (d : List Int) (L : List Ten) : Ten := if frm k n d L.length = true then vR k.toNat n d (L.getD 0 no) (L.getD 1 no) else ([], [])
/-- Dims' error and answer. -/
def diE (k n : Int) (d : List Int) (L : List (List Int)) : Int :=
  if frm k n d L.length = true then (if k < 3 then 0 else if L.all okd = true then vE k.toNat n d ((L.map zT).getD 0 no) ((L.map zT).getD 1 no) else 1) else 1
def diR (k n : Int) (d : List Int) (L : List (List Int)) : List Int :=
  if frm k n d L.length = true then (if k < 3 then d else if L.all okd = true then (vR k.toNat n d ((L.map zT).getD 0 no) ((L.map zT).getD 1 no)).1 else []) else []
/-- May a node be; which dims, where they go together. -/
def may (k n : Int) (d : List Int) (L : List (List Int)) : Bool := frm k n d L.length && L.all okd
def inf (k : Nat) (n : Int) (d : List Int) (a b : List Int) : Bool :=
  match k with
  | 4 => a == b
  | 5 => a == b
  | 6 => a == b
  | 9 => decide (a.length = 2 ∧ b.length = 2 ∧ a.getD 1 0 = b.getD 0 0)
  | 10 => decide (a.length = 2)
  | 11 => prd d == prd a
  | 12 => wid a d
  | 13 => wid d a
  | 15 => decide (lastD a % n = 0)
  | 16 => a == b
  | 17 => decide (lastD a % n = 0 ∧ lesD a n = b)
  | _ => true
def inD (k : Nat) (n : Int) (d : List Int) (a b : List Int) : List Int :=
  match k with
  | 1 => d
  | 2 => d
  | 3 => d
  | 9 => [a.getD 0 0, b.getD 1 0]
  | 10 => [a.getD 1 0, a.getD 0 0]
  | 11 => d
  | 12 => d
  | 13 => d
  | 15 => lesD a n
  | _ => a
/-- The errors that the layers below tell hang on the dims alone. -/
theorem vE_inf {k : Nat} {n : Int} {d : List Int} {s t : Ten} (h3 : 3 ≤ k) (h17 : k ≤ 17) (hd : dok k d = true) (hn : nok k n = true) (hs : many k = 0 ∨ tok s = true) (ht : many k ≤ 1 ∨ tok t = true) :
    vE k n d s t = (if inf k n d s.1 t.1 then 0 else 4) ∧ vR k n d s t = (if inf k n d s.1 t.1 then (inD k n d s.1 t.1, (vR k n d s t).2) else ([], [])) := by
  have hk : k = 3 ∨ k = 4 ∨ k = 5 ∨ k = 6 ∨ k = 7 ∨ k = 8 ∨ k = 9 ∨ k = 10 ∨ k = 11 ∨ k = 12 ∨ k = 13 ∨ k = 14 ∨ k = 15 ∨ k = 16 ∨ k = 17 := by omega
  have hl : ∀ {a : List Int} {l : List Int}, tok (a, l) = true → (l.length : Int) = prd a := fun h => tok_len h
  rcases hk with rfl | rfl | rfl | rfl | rfl | rfl | rfl | rfl | rfl | rfl | rfl | rfl | rfl | rfl | rfl
  · have hd' : okd d = true := hd
    simp [vE, vR, inf, inD, erf, hd']
  · have h1 : tok s = true := by simpa [many] using hs
    have h2 : tok t = true := by simpa [many] using ht
    by_cases e : s.1 = t.1 <;> simp [vE, vR, inf, inD, eachR, fitE, h1, h2, e]
  · have h1 : tok s = true := by simpa [many] using hs
    have h2 : tok t = true := by simpa [many] using ht
    by_cases e : s.1 = t.1 <;> simp [vE, vR, inf, inD, eachR, fitE, h1, h2, e]
  · have h1 : tok s = true := by simpa [many] using hs
    have h2 : tok t = true := by simpa [many] using ht
    by_cases e : s.1 = t.1 <;> simp [vE, vR, inf, inD, eachR, fitE, h1, h2, e]
  · have h1 : tok s = true := by simpa [many] using hs
    simp [vE, vR, inf, inD, eachR, fitE, h1]
  · have h1 : tok s = true := by simpa [many] using hs
    simp [vE, vR, inf, inD, sclR, tkE, h1]
  · have h1 : tok s = true := by simpa [many] using hs
    have h2 : tok t = true := by simpa [many] using ht
    by_cases e : s.1.length = 2 ∧ t.1.length = 2 ∧ s.1.getD 1 0 = t.1.getD 0 0
    · have em : muE s t = 0 := by rw [muE, if_pos ⟨h1, h2⟩, if_pos e]
      have ei : inf 9 n d s.1 t.1 = true := by simp only [inf]; exact decide_eq_true e
      simp [vE, vR, muR, em, ei, inD]
    · have em : muE s t = 4 := by rw [muE, if_pos ⟨h1, h2⟩, if_neg e]
      have ei : inf 9 n d s.1 t.1 = false := by simp only [inf]; exact decide_eq_false e
      simp [vE, vR, muR, em, ei]
  · have h1 : tok s = true := by simpa [many] using hs
    by_cases e : s.1.length = 2
    · have em : trE s = 0 := by simp [trE, h1, e]
      simp [vE, vR, inf, inD, trR, em, e]
    · have em : trE s = 4 := by simp [trE, h1, e]
      simp [vE, vR, inf, inD, trR, em, e]
  · have h1 : tok s = true := by simpa [many] using hs
    have hd' : okd d = true := hd
    have hl := tok_len h1
    by_cases e : prd d = prd s.1
    · have em : shE s d = 0 := by simp [shE, h1, hd', hl, e]
      simp [vE, vR, inf, inD, shR, em, e]
    · have e' : ¬ prd s.1 = prd d := fun x => e x.symm
      have em : shE s d = 4 := by simp [shE, h1, hd', hl, e']
      simp [vE, vR, inf, inD, shR, em, e]
  · have h1 : tok s = true := by simpa [many] using hs
    have hd' : okd d = true := hd
    have h0 := tok_okd h1
    cases e : wid s.1 d with
    | true => have em : wiE s d = 0 := by simp [wiE, wdr, h1, hd', h0, e]
              simp [vE, vR, inf, inD, wiR, em, e]
    | false => have em : wiE s d = 4 := by simp [wiE, wdr, h1, hd', h0, e]
               simp [vE, vR, inf, inD, wiR, em, e]
  · have h1 : tok s = true := by simpa [many] using hs
    have hd' : okd d = true := hd
    have h0 := tok_okd h1
    cases e : wid d s.1 with
    | true => have em : suE s d = 0 := by simp [suE, wdr, h1, hd', h0, e]
              simp [vE, vR, inf, inD, suR, em, e]
    | false => have em : suE s d = 4 := by simp [suE, wdr, h1, hd', h0, e]
               simp [vE, vR, inf, inD, suR, em, e]
  · have h1 : tok s = true := by simpa [many] using hs
    simp [vE, vR, inf, inD, eachR, fitE, tkE, h1]
  · have h1 : tok s = true := by simpa [many] using hs
    have hn' : 1 ≤ n ∧ n ≤ 8 := by simpa [nok] using hn
    by_cases e : lastD s.1 % n = 0
    · have em : fwE s n = 0 := by rw [fwE, if_pos ⟨h1, hn'.1, hn'.2⟩, if_pos e]
      simp [vE, vR, inf, inD, mxR, em, e]
    · have em : fwE s n = 4 := by rw [fwE, if_pos ⟨h1, hn'.1, hn'.2⟩, if_neg e]
      simp [vE, vR, inf, inD, mxR, em, e]
  · have h1 : tok s = true := by simpa [many] using hs
    have h2 : tok t = true := by simpa [many] using ht
    by_cases e : s.1 = t.1 <;> simp [vE, vR, inf, inD, eachR, fitE, h1, h2, e]
  · have h1 : tok s = true := by simpa [many] using hs
    have h2 : tok t = true := by simpa [many] using ht
    have hn' : 1 ≤ n ∧ n ≤ 8 := by simpa [nok] using hn
    by_cases e : lastD s.1 % n = 0
    · have ef : fwE s n = 0 := by rw [fwE, if_pos ⟨h1, hn'.1, hn'.2⟩, if_pos e]
      by_cases e2 : lesD s.1 n = t.1
      · have em : pkE s t n = 0 := by simp [pkE, ef, h2, e2]
        simp [vE, vR, inf, inD, pkR, em, e, e2]
      · have e3 : ¬ t.1 = lesD s.1 n := fun x => e2 x.symm
        have em : pkE s t n = 4 := by simp [pkE, ef, h2, e3]
        simp [vE, vR, inf, inD, pkR, em, e, e2]
    · have ef : fwE s n = 4 := by rw [fwE, if_pos ⟨h1, hn'.1, hn'.2⟩, if_neg e]
      have em : pkE s t n = 4 := by simp [pkE, ef, h2]
      simp [vE, vR, inf, inD, pkR, em, e]
end Go.Proofs.YtheddpjaihhbdabGreat
