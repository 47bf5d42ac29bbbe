/- Contract: kernel's form. -/
import Derived.Test.YtheddpjaihhbdacGreatA1
namespace Go.Proofs.YtheddpjaihhbdacGreat
set_option linter.unusedVariables false
set_option linter.unusedSimpArgs false
set_option maxRecDepth 100000
open Go.RowKit

set_option maxRecDepth 100000 in
theorem lit52 (g : Nat → Value) : (g 0 :: g 1 :: g 2 :: g 3 :: g 4 :: g 5 :: g 6 :: g 7 :: g 8 :: g 9 :: g 10 :: g 11 :: g 12 :: g 13 :: g 14 :: g 15 :: g 16 :: g 17 :: g 18 :: g 19 :: g 20 :: g 21 :: g 22 :: g 23 :: g 24 :: g 25 :: g 26 :: g 27 :: g 28 :: g 29 :: g 30 :: g 31 :: g 32 :: g 33 :: g 34 :: g 35 :: g 36 :: g 37 :: g 38 :: g 39 :: g 40 :: g 41 :: g 42 :: g 43 :: g 44 :: g 45 :: g 46 :: g 47 :: g 48 :: g 49 :: g 50 :: g 51 :: []).toArray = ((List.range 52).map g).toArray := by rfl
set_option maxRecDepth 100000 in
theorem act52 (a : Act) (hd : a.defers = []) (hs : a.tmps.size = 52) : ∃ g : Nat → Value, (∀ i, a.tmps.getD i undef = g i) ∧ a = { tmps := (g 0 :: g 1 :: g 2 :: g 3 :: g 4 :: g 5 :: g 6 :: g 7 :: g 8 :: g 9 :: g 10 :: g 11 :: g 12 :: g 13 :: g 14 :: g 15 :: g 16 :: g 17 :: g 18 :: g 19 :: g 20 :: g 21 :: g 22 :: g 23 :: g 24 :: g 25 :: g 26 :: g 27 :: g 28 :: g 29 :: g 30 :: g 31 :: g 32 :: g 33 :: g 34 :: g 35 :: g 36 :: g 37 :: g 38 :: g 39 :: g 40 :: g 41 :: g 42 :: g 43 :: g 44 :: g 45 :: g 46 :: g 47 :: g 48 :: g 49 :: g 50 :: g 51 :: []).toArray, defers := [] } := by
  refine ⟨fun i => a.tmps.getD i undef, fun _ => rfl, ?_⟩
  have h := lit52 (fun i => a.tmps.getD i undef)
  have e : a.tmps = ((List.range 52).map (fun i => a.tmps.getD i undef)).toArray := by
    apply Array.ext
    · simp [hs]
    · intro i h1 h2
      simp [h1]
  exact (show a = Act.mk a.tmps a.defers from rfl).trans (by rw [hd]; exact congrArg (fun t => Act.mk t []) (e.trans h.symm))

def fgo : List UInt8 → Int → Int → List Int → Bool
  | [], c, n, d => decide (c = 0 ∧ d.length = 0 ∧ n = 0)
  | b :: r, c, n, d => if b = 111 then fgo r (c - 1) n d else if b = 100 then okd d && fgo r c n [] else if b = 102 then decide (1 ≤ n ∧ n ≤ 8) && fgo r c 0 d else fgo r c 0 d
def JB (n : Nat) (w : World) (q : Bool) (a : Act) (w' : World) : Prop := a.defers = [] ∧ a.tmps.size = n ∧ Below w.heap.size w w' ∧ Hid (q = false)
theorem drop_at {α : Type} (l : List α) (p : Nat) (h : p < l.length) : l.drop p = l[p] :: l.drop (p + 1) := by simp
def fB (q : Bool) : Int := if q then 0 else 1
set_option maxHeartbeats 4000000 in
theorem form_go {v : Value} {d : List Int} {w : World} (k n : Int) (c : Nat) (hc : c ≤ big) (hd : Ints w v d) (l : List UInt8) (hl : askL k = l) (hne : 1 ≤ l.length) (hb : ∀ b ∈ l, b = 111 ∨ b = 100 ∨ b = 102 ∨ b = 110) (h3 : l.length ≤ 3) (q : Bool) (hq : fgo l c n d = q) :
    Calls Tryz.prog 35 #[.int .i64 k, .int .i64 n, v, .int .i64 c] w fun e w' => e = .returned (.int .i64 (fB q)) ∧ Below w.heap.size w w' := by
  have HT : Hid (askT k = ⟨l.toArray⟩) := by show _ = _; rw [askT, hl]
  have HD : Hid (Ints w v d) := hd
  have HB : Hid (∀ b ∈ l, b = 111 ∨ b = 100 ∨ b = 102 ∨ b = 110) := hb
  have HQ : Hid (fgo l c n d = q) := hq
  obtain ⟨s, hs⟩ : ∃ s : ByteArray, s = ⟨l.toArray⟩ := ⟨_, rfl⟩
  have hsz : s.size = l.length := by rw [hs]; simp [ByteArray.size]
  have hsb : ∀ p (h : p < l.length) (h' : p < s.size), s[p] = l[p] := by subst hs; intro p h h'; simp [ByteArray.getElem_eq_getElem_data]
  have hs1 : ¬ s.toList = [] := by
    intro e
    rw [ByteArray.toList_eq, hs] at e
    simp at e
    rw [e] at hne
    simp at hne
  have hs2 : (s.toList == []) = false := by simpa using hs1
  have hs3 : (s.toList == (⟨#[]⟩ : ByteArray).toList) = false := by rw [ByteArray.toList_eq (⟨#[]⟩ : ByteArray)]; exact hs2
  have hs4 : s.toList.isEmpty = false := by simpa using hs1
  have HS : Hid (∀ p (h : p < l.length) (h' : p < s.size), s[p] = l[p]) := hsb
  rw [← hs] at HT
  unfold big at hc
  clear hd hb hq hl hs hsb
  go_enter Tryz.func35, Tryz.ntmps35
  go_wp2_with fail
  refine wp_scope_jumps 0 (JB 52 w q) (fun _ _ => 0) rfl ?_ ?_
  · go_wp2_with (go_at_call 54; refine (asks_any k w).mono ?_; rw [HT.out]; rintro e w' ⟨rfl, rfl⟩)
    go_loopw [1, 2, 3] (fun n' d' c' w' => ∃ (p : Nat) (m : Int) (e : List Int) (cc : Int), p ≤ l.length ∧ w' = w.iter s p ∧ n' = .int .i64 m ∧ Hid (Ints w d' e) ∧ c' = .int .i64 cc ∧ (cc ≤ c ∧ (c : Int) - p ≤ cc) ∧ Hid (fgo (l.drop p) cc m e = q)) (fun _ _ _ w' => l.length - w'.iterPos w.heap.size)
    case atStart => exact ⟨0, n, d, c, Nat.zero_le _, rfl, rfl, HD, rfl, ⟨Int.le_refl _, by omega⟩, HQ.out⟩
    case round =>
      obtain ⟨p, m, e, cc, hp, rfl, rfl, HE, rfl, ⟨hc1, hc2⟩, HF⟩ := hrel
      by_cases hlt : p < l.length
      · have hps : p < s.size := by omega
        have hF := HF.out
        rw [drop_at l p hlt] at hF
        have hbb := HB.out l[p] (List.getElem_mem hlt)
        have hsp := HS.out p hlt hps
        rcases hbb with hb | hb | hb | hb
        · rw [hb] at hF hsp
          have hnx := fun ty => nx w s p hps 111 (by rw [hsp]; rfl) (by rw [hsp]; decide) ty
          have HF2 : Hid (fgo (l.drop (p + 1)) (cc - 1) m e = q) := by show _ = _; rw [← hF, fgo, if_pos rfl]
          clear hF hsp hb HF
          go_wp2
          go_roundw
          case rel => exact ⟨p + 1, m, e, cc - 1, by omega, rfl, rfl, HE, by go_num, ⟨by omega, by omega⟩, HF2⟩
          case measure => first | (simp; done) | (simp; omega) | (rw [← iter_alloc]; simp; omega)
        · rw [hb] at hF hsp
          have hnx := fun ty => nx w s p hps 100 (by rw [hsp]; rfl) (by rw [hsp]; decide) ty
          cases hok : okd e with
          | true =>
            have HF2 : Hid (fgo (l.drop (p + 1)) cc m [] = q) := by show _ = _; rw [← hF, fgo, if_neg (by decide), if_pos rfl, hok, Bool.true_and]
            have HK : Hid (erf e = 0) := erf_ok hok
            clear hF hsp hb HF hok
            go_wp2_with (go_at_call 55; refine (check_any (HE.out.later ((Below.refl _ _).alloc (Nat.le_refl _) _))).mono ?_; rw [HK.out]; rintro e' w' ⟨rfl, rfl⟩)
            go_roundw
            case rel => exact ⟨p + 1, m, [], cc, by omega, rfl, rfl, Ints.nil w, rfl, ⟨by omega, by omega⟩, HF2⟩
            case measure => first | (simp; done) | (simp; omega) | (rw [← iter_alloc]; simp; omega)
          | false =>
            have HF2 : Hid (q = false) := by show _ = _; rw [← hF, fgo, if_neg (by decide), if_pos rfl, hok, Bool.false_and]
            have HK : Hid (erf e = 1) := erf_bad hok
            clear hF hsp hb HF hok
            go_wp2_with (go_at_call 55; refine (check_any (HE.out.later ((Below.refl _ _).alloc (Nat.le_refl _) _))).mono ?_; rw [HK.out]; rintro e' w' ⟨rfl, rfl⟩)
            go_step3
            exact ⟨rfl, rfl, rfl, (Below.refl _ _).alloc (Nat.le_refl _) _, HF2⟩
        · rw [hb] at hF hsp
          have hnx := fun ty => nx w s p hps 102 (by rw [hsp]; rfl) (by rw [hsp]; decide) ty
          by_cases hm : 1 ≤ m ∧ m ≤ 8
          · have HF2 : Hid (fgo (l.drop (p + 1)) cc 0 e = q) := by show _ = _; rw [← hF, fgo, if_neg (by decide), if_neg (by decide), if_pos rfl, decide_eq_true hm, Bool.true_and]
            obtain ⟨hm1, hm2⟩ := hm
            clear hF hsp hb HF
            go_wp2
            go_roundw
            case rel => exact ⟨p + 1, 0, e, cc, by omega, rfl, rfl, HE, rfl, ⟨by omega, by omega⟩, HF2⟩
            case measure => first | (simp; done) | (simp; omega) | (rw [← iter_alloc]; simp; omega)
          · have HF2 : Hid (q = false) := by show _ = _; rw [← hF, fgo, if_neg (by decide), if_neg (by decide), if_pos rfl, decide_eq_false hm, Bool.false_and]
            clear hF hsp hb HF
            by_cases hm1 : m < 1
            · clear hm
              go_wp2
              go_step3
              exact ⟨rfl, rfl, rfl, (Below.refl _ _).alloc (Nat.le_refl _) _, HF2⟩
            · have hm2 : 8 < m := by omega
              clear hm
              go_wp2
              go_step3
              exact ⟨rfl, rfl, rfl, (Below.refl _ _).alloc (Nat.le_refl _) _, HF2⟩
        · rw [hb] at hF hsp
          have hnx := fun ty => nx w s p hps 110 (by rw [hsp]; rfl) (by rw [hsp]; decide) ty
          have HF2 : Hid (fgo (l.drop (p + 1)) cc 0 e = q) := by show _ = _; rw [← hF, fgo, if_neg (by decide), if_neg (by decide), if_neg (by decide)]
          clear hF hsp hb HF
          go_wp2
          go_roundw
          case rel => exact ⟨p + 1, 0, e, cc, by omega, rfl, rfl, HE, rfl, ⟨by omega, by omega⟩, HF2⟩
          case measure => first | (simp; done) | (simp; omega) | (rw [← iter_alloc]; simp; omega)
      · obtain rfl : p = l.length := by omega
        have hF := HF.out
        rw [List.drop_eq_nil_of_le (by omega), fgo] at hF
        have hnx := fun ty => run_next_end (P := Tryz.prog) w s l.length ty (by omega)
        obtain ⟨ea, ec, rfl⟩ := HE.out.shape
        clear HE HF
        by_cases h1 : cc = 0
        · by_cases h2 : e.length = 0
          · by_cases h4 : m = 0
            · have HF2 : Hid (q = true) := by show _ = _; rw [← hF]; exact decide_eq_true ⟨h1, h2, h4⟩
              clear hF
              subst h1 h4
              rw [h2]
              go_wp2
              rw [jump_ret]
              go_ret
              exact ⟨by rw [HF2.out]; rfl, (Below.refl _ _).alloc (Nat.le_refl _) _⟩
            · have HF2 : Hid (q = false) := by show _ = _; rw [← hF]; exact decide_eq_false fun h => h4 h.2.2
              have g4 : (m != 0) = true := by simp [h4]
              clear hF
              subst h1
              rw [h2]
              go_wp2
              go_step3
              exact ⟨rfl, rfl, rfl, (Below.refl _ _).alloc (Nat.le_refl _) _, HF2⟩
          · have HF2 : Hid (q = false) := by show _ = _; rw [← hF]; exact decide_eq_false fun h => h2 h.2.1
            obtain ⟨en, hen⟩ : ∃ x, e.length = x := ⟨_, rfl⟩
            rw [hen] at h2 ⊢
            have g2 : ((en : Int) != 0) = true := by simp [h2]
            clear hF hen
            subst h1
            go_wp2
            go_step3
            exact ⟨rfl, rfl, rfl, (Below.refl _ _).alloc (Nat.le_refl _) _, HF2⟩
        · have HF2 : Hid (q = false) := by show _ = _; rw [← hF]; exact decide_eq_false fun h => h1 h.1
          have g1 : (cc != 0) = true := by simp [h1]
          clear hF
          go_wp2
          go_step3
          exact ⟨rfl, rfl, rfl, (Below.refl _ _).alloc (Nat.le_refl _) _, HF2⟩
  · rintro a w' ⟨hd, hs, hbe, HF⟩
    obtain ⟨G, hg, e⟩ := act52 a hd hs
    subst e
    have HBE : Hid (Below w.heap.size w w') := hbe
    clear hg hd hs hbe
    go_wp2
    rw [jump_ret]
    exact bodyPost_ret (v := .int .i64 1) (by simp [results, Tryz.results35, go_sem]) rfl ⟨by rw [HF.out]; rfl, HBE.out⟩
set_option maxHeartbeats 1000000 in
theorem form_none {v : Value} {w : World} (k n : Int) (c : Nat) (h : ¬ (1 ≤ k ∧ k ≤ 17)) :
    Calls Tryz.prog 35 #[.int .i64 k, .int .i64 n, v, .int .i64 c] w fun e w' => e = .returned (.int .i64 1) ∧ Below w.heap.size w w' := by
  have HT : Hid (askT k = ⟨#[]⟩) := by show _ = _; rw [askT, askL_none h]
  clear h
  go_enter Tryz.func35, Tryz.ntmps35
  go_wp2_with fail
  refine wp_scope_jumps 0 (JB 52 w false) (fun _ _ => 0) rfl ?_ ?_
  · go_wp2_with (go_at_call 54; refine (asks_any k w).mono ?_; rw [HT.out]; rintro e w' ⟨rfl, rfl⟩)
    go_step3
    exact ⟨rfl, rfl, rfl, Below.refl _ _, rfl⟩
  · rintro a w' ⟨hd, hs, hbe, HF⟩
    obtain ⟨G, hg, e⟩ := act52 a hd hs
    subst e
    have HBE : Hid (Below w.heap.size w w') := hbe
    clear hg hd hs hbe
    go_wp2
    rw [jump_ret]
    exact bodyPost_ret (v := .int .i64 1) (by simp [results, Tryz.results35, go_sem]) rfl ⟨rfl, HBE.out⟩
theorem frm_none {k n : Int} {d : List Int} {c : Nat} (h : ¬ (1 ≤ k ∧ k ≤ 17)) : frm k n d c = false := by rw [frm, decide_eq_false h, Bool.false_and]
theorem fgo_frm {k n : Int} {d : List Int} {c : Nat} (h : 1 ≤ k ∧ k ≤ 17) : fgo (askL k) c n d = frm k n d c ∧ 1 ≤ (askL k).length ∧ (askL k).length ≤ 3 ∧ ∀ b ∈ askL k, b = 111 ∨ b = 100 ∨ b = 102 ∨ b = 110 := by
  have hk : k = 1 ∨ k = 2 ∨ k = 3 ∨ k = 4 ∨ k = 5 ∨ k = 6 ∨ k = 7 ∨ k = 8 ∨ k = 9 ∨ k = 10 ∨ k = 11 ∨ k = 12 ∨ k = 13 ∨ k = 14 ∨ k = 15 ∨ k = 16 ∨ k = 17 := by omega
  have e0 : ((c : Int) = 0) = (c = 0) := by apply propext; omega
  have e1 : ((c : Int) - 1 = 0) = (c = 1) := by apply propext; omega
  have e2 : ((c : Int) - 1 - 1 = 0) = (c = 2) := by apply propext; omega
  rcases hk with rfl | rfl | rfl | rfl | rfl | rfl | rfl | rfl | rfl | rfl | rfl | rfl | rfl | rfl | rfl | rfl | rfl <;>
  refine ⟨?_, by decide, by decide, by decide⟩ <;>
  simp (decide := true) only [askL, frm, frmN, dok, nok, many, asked, if_true, if_false] <;>
  (rw [Bool.eq_iff_iff]; simp [fgo, e0, e1, e2, and_assoc, and_comm, and_left_comm])
theorem form_any {v : Value} {d : List Int} {w : World} (k n : Int) (c : Nat) (hc : c ≤ big) (hd : Ints w v d) (x : Int) (hx : frE k n d c = x) :
    Calls Tryz.prog 35 #[.int .i64 k, .int .i64 n, v, .int .i64 c] w fun e w' => e = .returned (.int .i64 x) ∧ Below w.heap.size w w' := by
  subst hx
  by_cases h : 1 ≤ k ∧ k ≤ 17
  · obtain ⟨h1, h2, h3, h4⟩ := fgo_frm (n := n) (d := d) (c := c) h
    exact form_go k n c hc hd (askL k) rfl h2 h4 h3 (frm k n d c) h1
  · rw [frE, frm_none h]
    exact form_none k n c h
end Go.Proofs.YtheddpjaihhbdacGreat
