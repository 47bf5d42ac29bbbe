/- Part 9 of the texts that the theorem leans on. -/
import Derived.Test.YtkojdigaoihkpaaGreatDoorA08
section
namespace Go.Proofs.YtkojdigaoihkpaaGreatDoor
set_option linter.unusedVariables false
set_option linter.unusedSimpArgs false
set_option maxRecDepth 100000
open Go.RowKit

theorem restL_signs (k : Nat) (hk : k ≤ 15) : ∀ c ∈ restL k, c = 111 ∨ c = 110 ∨ c = 100 := by
  have h : ∀ k : Nat, k < 16 → ∀ c ∈ restL k, c = 111 ∨ c = 110 ∨ c = 100 := by decide +kernel
  exact h k (by omega)
theorem restL_last (k : Nat) (hk : k ≤ 15) (p : Nat) (hp : p < (restL k).length) (h : (restL k)[p] = 100) : p + 1 = (restL k).length := by
  have key : ∀ k : Nat, k < 16 → ∀ p, p < 3 → (restL k)[p]? = some 100 → p + 1 = (restL k).length := by decide +kernel
  have hl : ∀ k : Nat, k < 16 → (restL k).length ≤ 2 := by decide +kernel
  have := hl k (by omega)
  exact key k (by omega) p (by omega) (by rw [List.getElem?_eq_getElem hp, h])
theorem restL_len (k : Nat) (hk : k ≤ 15) : (restL k).length ≤ 2 := by
  have hl : ∀ k : Nat, k < 16 → (restL k).length ≤ 2 := by decide +kernel
  exact hl k (by omega)
theorem restB_size (k : Nat) : (restB k).size = (restL k).length := by
  show ((restL k).map fun c => UInt8.ofNat c).toArray.size = _
  simp
theorem restB_at (k : Nat) (hk : k ≤ 15) (j : Nat) (h : j < (restB k).size) (h2 : j < (restL k).length) : ((restB k)[j]'h).toNat = (restL k)[j] := by
  have e : (restB k)[j]'h = UInt8.ofNat ((restL k)[j]) := by
    show (((restL k).map fun c => UInt8.ofNat c).toArray)[j]'(by simpa using h2) = _
    simp
  rw [e]
  have := restL_signs k hk _ (List.getElem_mem h2)
  rcases this with h | h | h <;> rw [h] <;> rfl
/-- The dims, from those that stand on. -/
noncomputable def dimsP (L : List Nod) (A : List Int) (n : Int) (D : List Int) (T : List ByteArray) : Option (List Int × Int × List Int) :=
  match dimsG (3 - D.length) T with
  | none => none
  | some (d, r) => partsL L [] A n (D ++ d) r
theorem dimsP_start (L : List Nod) (A : List Int) (n : Int) (t : ByteArray) (T : List ByteArray) : partsL L [100] A n [] (t :: T) = dimsP L A n [] (t :: T) := by
  rw [partsL, if_neg (by decide), if_neg (by decide), if_pos rfl, dimsP]
  cases dimsG (3 - ([] : List Int).length) (t :: T) with
  | none => rfl
  | some p => rfl
theorem dimsP_nil (L : List Nod) (A : List Int) (n : Int) (D : List Int) : dimsP L A n D [] = partsL L [] A n D [] := by
  rw [dimsP]
  cases 3 - D.length with
  | zero => simp [dimsG]
  | succ j => simp [dimsG]
theorem dimsP_full (L : List Nod) (A : List Int) (n : Int) (D : List Int) (T : List ByteArray) (h : D.length = 3) : dimsP L A n D T = partsL L [] A n D T := by
  rw [dimsP, h]
  simp [dimsG]
theorem dimsP_cons (L : List Nod) (A : List Int) (n : Int) (D : List Int) (t : ByteArray) (T : List ByteArray) (h : D.length < 3) : dimsP L A n D (t :: T) = if numK t.data.toList then dimsP L A n (D ++ [numV t.data.toList]) T else none := by
  rw [dimsP, show 3 - D.length = (2 - D.length) + 1 by omega, dimsG]
  by_cases hb : numK t.data.toList = true
  · rw [if_pos hb, if_pos hb, dimsP, show 3 - (D ++ [numV t.data.toList]).length = 2 - D.length by rw [List.length_append]; simp only [List.length_cons, List.length_nil]; omega]
    cases dimsG (2 - D.length) T with
    | none => rfl
    | some p => simp
  · rw [if_neg hb, if_neg hb]
/-- What the parts leave. -/
def PartsP (B : Nat) (w0 : World) (t0 : ByteArray) (k : Nat) (o : Option (List Int × Int × List Int)) (w' : World) : Prop :=
  ∃ x y n, BoxN w' B #[.string t0, .int .i64 k, x, y, .int .i64 n] ∧ (∃ a1 n1 c1, x = .slice a1 n1 c1) ∧ (∃ a1 n1 c1, y = .slice a1 n1 c1) ∧ Below B w0 w' ∧ ∀ A m D, o = some (A, m, D) → n = m ∧ Own w' (B + 1) x A ∧ Own w' (B + 1) y D
theorem PartsP.no {B : Nat} {w0 w' : World} {t0 : ByteArray} {k : Nat} {a1 a2 : Option Addr} {n1 n2 c1 c2 : Nat} {n : Int} (h : BoxN w' B #[.string t0, .int .i64 k, .slice a1 n1 c1, .slice a2 n2 c2, .int .i64 n]) (hb : Below B w0 w') : PartsP B w0 t0 k none w' :=
  ⟨_, _, _, h, ⟨_, _, _, rfl⟩, ⟨_, _, _, rfl⟩, hb, fun A m D e => by cases e⟩
theorem BoxN.iters {w : World} {B I p q : Nat} {s : ByteArray} {a : Array Value} (h : BoxN w B a) (hi : It w I s p) : BoxN (w.iterAt I s q) B a := by
  refine (Lib.iterAt_other w I B s q (fun e => ?_)).trans h
  subst e
  rw [It, h] at hi
  cases hi
def lenV : Value → Nat
  | .slice _ n _ => n
  | _ => 0
/-- Where the parts are, behind p signs. -/
def PartsI (w0 : World) (B I : Nat) (S : ByteArray) (RL : List Nat) (L : List Nod) (t0 : ByteArray) (k : Nat) (o : Option (List Int × Int × List Int)) (lv : Value) (w' : World) : Prop :=
  ∃ (p : Nat) (A : List Int) (n : Int) (D : List Int) (T : List ByteArray) (x y : Value), p ≤ RL.length ∧ (p < RL.length → D = [] ∧ y = .slice none 0 0) ∧ A.length ≤ p ∧ HoldsW w0 lv T ∧ (∀ t ∈ T, t.size ≤ 3000) ∧ It w' I S p ∧ BoxN w' B #[.string t0, .int .i64 k, x, y, .int .i64 n] ∧ Own w' (I + 1) x A ∧ Own w' (I + 1) y D ∧ Below B w0 w' ∧ partsL L (RL.drop p) A n D T = o
/-- Where they are among the dims. -/
def PartsJ (w0 : World) (B I M p : Nat) (S : ByteArray) (L : List Nod) (t0 : ByteArray) (k : Nat) (A : List Int) (n : Int) (x : Value) (o : Option (List Int × Int × List Int)) (lv : Value) (w' : World) : Prop :=
  ∃ (D : List Int) (T : List ByteArray) (y : Value), D.length ≤ 3 ∧ HoldsW w0 lv T ∧ (∀ t ∈ T, t.size ≤ 3000) ∧ It w' I S p ∧ BoxN w' B #[.string t0, .int .i64 k, x, y, .int .i64 n] ∧ Own w' (I + 1) x A ∧ Own w' M y D ∧ Below B w0 w' ∧ M ≤ w'.heap.size ∧ dimsP L A n D T = o
theorem lit102 (g : Nat → Value) : (g 0 :: g 1 :: g 2 :: g 3 :: g 4 :: g 5 :: g 6 :: g 7 :: g 8 :: g 9 :: g 10 :: g 11 :: g 12 :: g 13 :: g 14 :: g 15 :: g 16 :: g 17 :: g 18 :: g 19 :: g 20 :: g 21 :: g 22 :: g 23 :: g 24 :: g 25 :: g 26 :: g 27 :: g 28 :: g 29 :: g 30 :: g 31 :: g 32 :: g 33 :: g 34 :: g 35 :: g 36 :: g 37 :: g 38 :: g 39 :: g 40 :: g 41 :: g 42 :: g 43 :: g 44 :: g 45 :: g 46 :: g 47 :: g 48 :: g 49 :: g 50 :: g 51 :: g 52 :: g 53 :: g 54 :: g 55 :: g 56 :: g 57 :: g 58 :: g 59 :: g 60 :: g 61 :: g 62 :: g 63 :: g 64 :: g 65 :: g 66 :: g 67 :: g 68 :: g 69 :: g 70 :: g 71 :: g 72 :: g 73 :: g 74 :: g 75 :: g 76 :: g 77 :: g 78 :: g 79 :: g 80 :: g 81 :: g 82 :: g 83 :: g 84 :: g 85 :: g 86 :: g 87 :: g 88 :: g 89 :: g 90 :: g 91 :: g 92 :: g 93 :: g 94 :: g 95 :: g 96 :: g 97 :: g 98 :: g 99 :: g 100 :: g 101 :: []).toArray = ((List.range 102).map g).toArray := by rfl
theorem act102 (a : Act) (hd : a.defers = []) (hs : a.tmps.size = 102) : ∃ g : Nat → Value, (∀ i, a.tmps.getD i undef = g i) ∧ a = { tmps := (g 0 :: g 1 :: g 2 :: g 3 :: g 4 :: g 5 :: g 6 :: g 7 :: g 8 :: g 9 :: g 10 :: g 11 :: g 12 :: g 13 :: g 14 :: g 15 :: g 16 :: g 17 :: g 18 :: g 19 :: g 20 :: g 21 :: g 22 :: g 23 :: g 24 :: g 25 :: g 26 :: g 27 :: g 28 :: g 29 :: g 30 :: g 31 :: g 32 :: g 33 :: g 34 :: g 35 :: g 36 :: g 37 :: g 38 :: g 39 :: g 40 :: g 41 :: g 42 :: g 43 :: g 44 :: g 45 :: g 46 :: g 47 :: g 48 :: g 49 :: g 50 :: g 51 :: g 52 :: g 53 :: g 54 :: g 55 :: g 56 :: g 57 :: g 58 :: g 59 :: g 60 :: g 61 :: g 62 :: g 63 :: g 64 :: g 65 :: g 66 :: g 67 :: g 68 :: g 69 :: g 70 :: g 71 :: g 72 :: g 73 :: g 74 :: g 75 :: g 76 :: g 77 :: g 78 :: g 79 :: g 80 :: g 81 :: g 82 :: g 83 :: g 84 :: g 85 :: g 86 :: g 87 :: g 88 :: g 89 :: g 90 :: g 91 :: g 92 :: g 93 :: g 94 :: g 95 :: g 96 :: g 97 :: g 98 :: g 99 :: g 100 :: g 101 :: []).toArray, defers := [] } := by
  refine ⟨fun i => a.tmps.getD i undef, fun _ => rfl, ?_⟩
  have h := lit102 (fun i => a.tmps.getD i undef)
  have e : a.tmps = ((List.range 102).map (fun i => a.tmps.getD i undef)).toArray := by
    apply Array.ext
    · simp [hs]
    · intro i h1 h2
      simp [h1]
  exact (show a = Act.mk a.tmps a.defers from rfl).trans (by rw [hd]; exact congrArg (fun t => Act.mk t []) (e.trans h.symm))
set_option maxHeartbeats 32000000 in
theorem parts_any {w0 w : World} {u v : Value} {L : List Nod} {T : List ByteArray} (hb : Below w0.heap.size w0 w) (t0 : ByteArray) (k : Nat) (HX : BoxN w w0.heap.size #[.string t0, .int .i64 k, .slice none 0 0, .slice none 0 0, .int .i64 0]) (hu : HoldsW w0 u T) (h : NodesL w0 v L) (hts : ∀ t ∈ T, t.size ≤ 3000) (r : Nat) (hr : r ≤ 15) (o : Option (List Int × Int × List Int)) (ho : partsL L (restL r) [] 0 [] T = o) (E : Int) (hE : (if o.isSome then 0 else 5) = E) :
    Calls Tryz.prog 77 #[.pointer (some ⟨w0.heap.size, 0, none⟩), u, .string (restB r), v] w fun e w' => e = .returned (.int .i64 E) ∧ PartsP w0.heap.size w0 t0 k o w' := by
  obtain ⟨va, vc, rfl, _, hvb⟩ := h.shape
  obtain ⟨B, hB⟩ : ∃ B, w0.heap.size = B := ⟨_, rfl⟩
  have HBE : Hid (w0.heap.size = B) := hB
  have HNL : Hid (∀ w', Below B w0 w' → NodesL w' (.slice va L.length vc) L) := fun w' hb => h.later (by rw [hB]; exact hb)
  obtain ⟨S, hS⟩ : ∃ S, restB r = S := ⟨_, rfl⟩
  obtain ⟨RL, hRL⟩ : ∃ RL, restL r = RL := ⟨_, rfl⟩
  have hsz : S.size = RL.length := by rw [← hS, ← hRL]; exact restB_size r
  have hrl : RL.length ≤ 2 := by rw [← hRL]; exact restL_len r hr
  have HSB : Hid (∀ (p : Nat) (h : p < RL.length), ((S[p]'(by omega)).toNat = RL[p]) ∧ (RL[p] = 111 ∨ RL[p] = 110 ∨ RL[p] = 100) ∧ (RL[p] = 100 → p + 1 = RL.length)) := by
    subst hS hRL
    exact fun p hp => ⟨restB_at r hr p (by omega) hp, restL_signs r hr _ (List.getElem_mem hp), restL_last r hr p hp⟩
  have HO : Hid (partsL L RL [] 0 [] T = o) := by rw [← hRL]; exact ho
  have HE : Hid ((if o.isSome then 0 else 5) = E) := hE
  rw [hB] at hb HX ⊢
  rw [hS]
  have HU0 : Hid (HoldsW w0 u T) := hu
  have HT0 : Hid (∀ t ∈ T, t.size ≤ 3000) := hts
  obtain ⟨I, hI⟩ : ∃ I, w.heap.size = I := ⟨_, rfl⟩
  have hBI : B < I := by rw [← hI]; exact HX.lt
  have HIT0 : Hid (It (w.iter S 0) I S 0) := by rw [← hI]; exact It.new _ _ _
  have HX0 : Hid (BoxN (w.iter S 0) B #[.string t0, .int .i64 k, .slice none 0 0, .slice none 0 0, .int .i64 0]) := HX.alloc _
  have HB0 : Hid (Below B w0 (w.iter S 0)) := hb.alloc (by rw [hI]; omega) _
  obtain ⟨ua, uc, rfl, _⟩ := hu.shape
  clear hB hb HX hu h hts ho hS hRL hE
  go_enter Tryz.func77, Tryz.ntmps77
  go_wp2_with fail
  refine wp_scope_jumps 0 (fun a' w' => (o = none ∧ PartsP B w0 t0 k o w') ∧ a'.defers = [] ∧ a'.tmps.size = 102) (fun _ _ => 0) rfl ?_ ?_
  · go_wp2_with fail
    go_loopw [1] (fun lv w' => PartsI w0 B I S RL L t0 k o lv w') (fun _ w' => RL.length - w'.iterPos I)
    case atStart => exact ⟨0, [], 0, [], T, _, _, Nat.zero_le _, fun _ => ⟨rfl, rfl⟩, Nat.le_refl _, HU0.out, HT0.out, HIT0.out, HX0.out, Own.nil _ _, Own.nil _ _, HB0.out, HO.out⟩
    case round =>
      obtain ⟨p, A, n, D, T, x, y, hp, hDE, hAp, hw9, hts9, hit9, hxx9, hoa9, hod9, hbb9, hf9⟩ := hrel
      have HW : Hid (HoldsW w0 u1 T) := hw9
      have HTS : Hid (∀ t ∈ T, t.size ≤ 3000) := hts9
      have HIT : Hid (It wr I S p) := hit9
      have HXX : Hid (BoxN wr B #[.string t0, .int .i64 k, x, y, .int .i64 n]) := hxx9
      have HOA : Hid (Own wr (I + 1) x A) := hoa9
      have HOD : Hid (Own wr (I + 1) y D) := hod9
      have HBB : Hid (Below B w0 wr) := hbb9
      have HF : Hid (partsL L (RL.drop p) A n D T = o) := hf9
      clear hw9 hts9 hit9 hxx9 hoa9 hod9 hbb9 hf9
      have HPOS : Hid (wr.iterPos I = p) := HIT.out.pos
      obtain ⟨a, c, e1, hac⟩ := HW.out.shape
      subst e1
      obtain ⟨xa, xn, xc, e1⟩ := HOA.out.ints.shape3
      subst e1
      have hIs := HIT.out.lt
      by_cases hlt : p < RL.length
      · obtain ⟨rfl, rfl⟩ := hDE hlt
        obtain ⟨hby, hsgn, hlast⟩ := HSB.out p hlt
        obtain ⟨sg, hsg⟩ : ∃ sg, RL[p] = sg := ⟨_, rfl⟩
        rw [hsg] at hby hsgn hlast
        have HSG : Hid (sg = 111 ∨ sg = 110 ∨ sg = 100) := hsgn
        have HLA : Hid (sg = 100 → p + 1 = RL.length) := hlast
        have hnx : ∀ ty, (Instr.next (.pointer (some ⟨I, 0, none⟩)) true ty).run Tryz.prog wr = .ok (.tuple #[.bool true, .int .i64 p, .int .i32 (sg : Int)]) (wr.iterAt I S (p + 1)) := fun ty => HIT.out.nx (by omega) (sg : Int) (by rw [hby]) (by rw [hby]; rcases HSG.out with h | h | h <;> omega) ty
        obtain ⟨W1, hW1⟩ : ∃ W1, wr.iterAt I S (p + 1) = W1 := ⟨_, rfl⟩
        rw [hW1] at hnx
        have HI1 : Hid (It W1 I S (p + 1)) := by show It _ _ _ _; rw [← hW1]; exact HIT.out.moved _
        have HX1 : Hid (BoxN W1 B #[.string t0, .int .i64 k, .slice xa xn xc, .slice none 0 0, .int .i64 n]) := by show BoxN _ _ _; rw [← hW1]; exact HXX.out.iters HIT.out
        have HA1 : Hid (Own W1 (I + 1) (.slice xa xn xc) A) := by show Own _ _ _ _; rw [← hW1]; exact HOA.out.moved HIT.out
        have HB1 : Hid (Below B w0 W1) := by show Below _ _ _; rw [← hW1]; exact Lib.below_iterAt HBB.out (by omega) _ _
        have hI1 : I < W1.heap.size := HI1.out.lt
        have HDR : Hid (RL.drop p = sg :: RL.drop (p + 1)) := by show _ = _; rw [List.drop_eq_getElem_cons hlt, hsg]
        have HF1 : Hid (partsL L (sg :: RL.drop (p + 1)) A n [] T = o) := by have h := HF.out; rw [HDR.out] at h; exact h
        clear hby hsg hW1 HF HDR HIT HXX HOA HOD HBB hIs hsgn hlast hDE
        cases T with
        | nil =>
          have HV : Hid (o = none) := by have h := HF1.out; rw [partsL] at h; exact h.symm
          go_wp2
          go_step3
          exact ⟨rfl, ⟨HV.out, by rw [HV.out]; exact PartsP.no HX1.out HB1.out⟩, rfl, rfl⟩
        | cons t T =>
          obtain ⟨b, off, rfl, -, hlc, hc0⟩ := HW.out.first
          have HC1 : Hid (∀ w', Below B w0 w' → w'.cell? ⟨b, off, none⟩ = some (.string t)) := fun w' hb => cell_later (by rw [HBE.out]; exact hb) hc0
          have d0 := HC1.out _ HB1.out
          obtain ⟨nn, hnn⟩ : ∃ nn, (t :: T).length = nn := ⟨_, rfl⟩
          have HTW2 : Hid (HoldsW w0 (.slice (some ⟨b, off, none⟩) nn c) (t :: T)) := by rw [← hnn]; exact HW.out
          have hn1 : 1 ≤ nn := by rw [← hnn]; simp
          rw [hnn]
          have gz : ¬ (nn : Int) = 0 := by omega
          have bz : ((nn : Int) == 0) = false := by rw [beq_eq_false_iff_ne]; exact gz
          have g0 : (0 : Int) < (nn : Int) := by omega
          have gN : 0 < nn := by omega
          have gl : (1 : Int) ≤ (nn : Int) := by omega
          have HST : Hid (t.size ≤ 3000) := HTS.out t (by simp)
          have HTS2 : Hid (∀ t ∈ T, t.size ≤ 3000) := fun u hu => HTS.out u (by simp [hu])
          have HTD : Hid (HoldsW w0 (.slice (if c = 1 then some ⟨b, off, none⟩ else (some (⟨b, off, none⟩ : Addr)).map (·.add (1 * 2))) (nn - 1) (c - 1)) T) := HTW2.out.drop 1 (by simp)
          have HTD1 : Hid (c = 1 → HoldsW w0 (.slice (some ⟨b, off, none⟩) (nn - 1) 0) T) := fun hc => by have h := HTD.out; rw [if_pos hc, show c - 1 = 0 by omega] at h; exact h
          have HTD2 : Hid (¬ c = 1 → HoldsW w0 (.slice (some ⟨b, off + 2, none⟩) (nn - 1) (c - 1)) T) := fun hc => by have h := HTD.out; rw [if_neg hc] at h; simpa [Addr.add] using h
          rcases HSG.out with e | e | e
          · subst e
            clear HW HTS hc0
            obtain ⟨M, hM⟩ : ∃ M, I + 1 = M := ⟨_, rfl⟩
            have HMM : Hid (I + 1 = M) := hM
            have hIM : I < M := by omega
            rw [hM] at HA1
            clear hM
            obtain ⟨x, hx⟩ : ∃ x, nmdN L t 0 = x := ⟨_, rfl⟩
            have HX : Hid (nmdN L t 0 = x) := hx
            have HF2 : Hid ((if x < 0 then none else partsL L (RL.drop (p + 1)) (A ++ [x]) n [] T) = o) := by
              have h := HF1.out
              rw [partsL, if_pos rfl, hx] at h
              exact h
            clear hx HF1 hnn
            by_cases hx0 : x < 0
            · have HV : Hid (o = none) := by have h := HF2.out; rw [if_pos hx0] at h; exact h.symm
              go_wp2_with (go_at_call 76; refine (place_any (HNL.out _ HB1.out) t x HX.out).mono ?_; rintro e w2 ⟨rfl, hb2⟩; have HX2 : Hid (BoxN w2 B #[.string t0, .int .i64 k, .slice xa xn xc, .slice none 0 0, .int .i64 n]) := HX1.out.later hb2; have HB2 : Hid (Below B w0 w2) := HB1.out.trans (hb2.mono (by omega)); clear hb2)
              go_step3
              exact ⟨rfl, ⟨HV.out, by rw [HV.out]; exact PartsP.no HX2.out HB2.out⟩, rfl, rfl⟩
            · have HF3 : Hid (partsL L (RL.drop (p + 1)) (A ++ [x]) n [] T = o) := by have h := HF2.out; rw [if_neg hx0] at h; exact h
              clear HF2
              obtain ⟨iI, hi, hi0, hi1, hi2⟩ := info3
              have HI : Hid (Tryz.prog.info? 3 = some iI) := hi
              have HI0 : Hid (iI.zero = some (.int .i64 0)) := hi0
              have HI1' : Hid (iI.size = 1) := hi1
              have HI2 : Hid (iI.bytes = 8) := hi2
              clear hi hi0 hi1 hi2
              by_cases hc1 : c = 1
              · subst hc1
                go_upto_region 10 with (go_at_call 76; refine (place_any (HNL.out _ HB1.out) t x HX.out).mono ?_; rintro e w2 ⟨rfl, hb2⟩; have HX2 : Hid (BoxN w2 B #[.string t0, .int .i64 k, .slice xa xn xc, .slice none 0 0, .int .i64 n]) := HX1.out.later hb2; have HA2 : Hid (Own w2 M (.slice xa xn xc) A) := HA1.out.later hb2; have HB2 : Hid (Below B w0 w2) := HB1.out.trans (hb2.mono (by omega)); have HI2' : Hid (It w2 I S (p + 1)) := HI1.out.later hb2; have hs2 : M ≤ w2.heap.size := (by have h1 := HI2'.out.lt; have h2 := HMM.out; omega); clear hb2)
                have e2 : w2.cell? ⟨B, 2, none⟩ = some (.slice xa xn xc) := HX2.out.c 2
                have ef : w2.frozen? ⟨B, 2, none⟩ = false := HX2.out.f 2
                have e2a : (w2.alloc (.cells #[.int .i64 x] 3)).cell? ⟨B, 2, none⟩ = some (.slice xa xn xc) := (HX2.out.alloc _).c 2
                have HN1 : Hid (∀ j u, [Value.int .i64 x][j]? = some u → (w2.alloc (.cells #[.int .i64 x] 3)).drew.cell? ((⟨w2.heap.size, 0, none⟩ : Addr).add j) = some u) := cell_one_new w2 _ _
                have HA3 : Hid ((w2.alloc (.cells #[.int .i64 x] 3)).drew.ownsRow (M) 3 1 (.slice xa xn xc) A.length (A.map (Value.int .i64))) := HA2.out.row.alloc _
                have hln : A.length ≤ 1000 := by omega
                have HP : Hid (∀ v1 w1, w1.ownsRow (M) 3 1 v1 (A.length + 1) (A.map (Value.int .i64) ++ [.int .i64 x]) → (w2.alloc (.cells #[.int .i64 x] 3)).drew.grownBy w1 (Value.slice xa xn xc).ownBlock → Own w1 (M) v1 (A ++ [x]) ∧ Below (M) w2 w1 ∧ BoxN w1 B #[.string t0, .int .i64 k, .slice xa xn xc, .slice none 0 0, .int .i64 n] ∧ It w1 I S (p + 1)) := fun v1 w1 ho hg => by
                  have h1 : Below (M) w2 w1 := (((Below.refl (M) w2).alloc (by omega) _).drew).grown hg (by simp; omega) (fun q hq => (HA2.out.row.lt q hq).1)
                  refine ⟨⟨?_, ?_⟩, h1, (h1.block B (by omega)).trans HX2.out, (h1.block I (by omega)).trans HI2'.out⟩
                  · simp only [List.length_append, List.map_append, List.length_cons, List.length_nil, List.map_cons, List.map_nil] at ho ⊢
                    exact ho
                  · simp only [List.length_append, List.length_cons, List.length_nil]
                    unfold big
                    omega
                go_region_law (first
                  | (refine step_append_lies _ rfl (.tmp 41) (.tmp 43) 23 rfl (M) 3 iI (.int .i64 0) 1 8 Tryz.underlying23 HI.out HI0.out HI1'.out HI2.out rfl (by decide) (.slice xa xn xc) A.length (A.map (Value.int .i64)) (by simp [Act.eval, Act.put]) HA3.out ⟨w2.heap.size, 0, none⟩ 1 1 [.int .i64 x] (by simp [Act.eval, Act.put]) rfl HN1.out (by intro u hu; simp at hu; subst hu; rfl) (by decide) (by unfold maxLen; omega) (by omega) (by simp; omega) (w2.heap.size + 1) (by simp) ?_; intro g1 cap1 w1 ho hg _ _; obtain ⟨ho1, hb1, hx1, hi1⟩ := HP.out _ _ ho hg; have HO1 : Hid (Own w1 (M) _ (A ++ [x])) := ho1; have HBX : Hid (Below (M) w2 w1) := hb1; have HXW : Hid (BoxN w1 B _) := hx1; have HIW : Hid (It w1 I S (p + 1)) := hi1;  have ef1 : w1.frozen? ⟨B, 2, none⟩ = false := hx1.f 2; have ec1 : w1.cell? ⟨B, 2, none⟩ = some (.slice xa xn xc) := hx1.c 2; have hs1 : w2.heap.size ≤ w1.heap.size := hb1.size; clear ho hg ho1 hb1 hx1 hi1))
                all_goals go_wp2
                all_goals (
                  refine ⟨?_, ?_⟩
                  · (repeat apply Exists.intro)
                    refine ⟨?_, rfl⟩
                    exact ⟨p + 1, A ++ [x], n, [], T, .slice (some ⟨g1, 0, none⟩) (A.length + 1) cap1, .slice none 0 0, by omega, fun _ => ⟨rfl, rfl⟩, by simp; omega, (by first | exact HTD.out | exact HTD1.out (by assumption) | exact HTD2.out (by assumption)), HTS2.out, HIW.out.set _ _ (show I ≠ B by omega), HXW.out.set 2 (.slice (some ⟨g1, 0, none⟩) (A.length + 1) cap1), (by rw [HMM.out]; exact HO1.out.below ⟨B, 2, none⟩ _ (show B < M by omega)), Own.nil _ _, (HB2.out.trans (HBX.out.mono (by omega))).setCell (Nat.le_refl _) _, HF3.out⟩
                  · (have h1 := (HIW.out.set ⟨B, 2, none⟩ (.slice (some ⟨g1, 0, none⟩) (A.length + 1) cap1) (show I ≠ B by omega)).pos; have h2 := HPOS.out; rw [h1, h2]; omega))
              · have hc2 : ¬ 1 = c := fun e => hc1 e.symm
                go_upto_region 10 with (go_at_call 76; refine (place_any (HNL.out _ HB1.out) t x HX.out).mono ?_; rintro e w2 ⟨rfl, hb2⟩; have HX2 : Hid (BoxN w2 B #[.string t0, .int .i64 k, .slice xa xn xc, .slice none 0 0, .int .i64 n]) := HX1.out.later hb2; have HA2 : Hid (Own w2 M (.slice xa xn xc) A) := HA1.out.later hb2; have HB2 : Hid (Below B w0 w2) := HB1.out.trans (hb2.mono (by omega)); have HI2' : Hid (It w2 I S (p + 1)) := HI1.out.later hb2; have hs2 : M ≤ w2.heap.size := (by have h1 := HI2'.out.lt; have h2 := HMM.out; omega); clear hb2)
                have e2 : w2.cell? ⟨B, 2, none⟩ = some (.slice xa xn xc) := HX2.out.c 2
                have ef : w2.frozen? ⟨B, 2, none⟩ = false := HX2.out.f 2
                have e2a : (w2.alloc (.cells #[.int .i64 x] 3)).cell? ⟨B, 2, none⟩ = some (.slice xa xn xc) := (HX2.out.alloc _).c 2
                have HN1 : Hid (∀ j u, [Value.int .i64 x][j]? = some u → (w2.alloc (.cells #[.int .i64 x] 3)).drew.cell? ((⟨w2.heap.size, 0, none⟩ : Addr).add j) = some u) := cell_one_new w2 _ _
                have HA3 : Hid ((w2.alloc (.cells #[.int .i64 x] 3)).drew.ownsRow (M) 3 1 (.slice xa xn xc) A.length (A.map (Value.int .i64))) := HA2.out.row.alloc _
                have hln : A.length ≤ 1000 := by omega
                have HP : Hid (∀ v1 w1, w1.ownsRow (M) 3 1 v1 (A.length + 1) (A.map (Value.int .i64) ++ [.int .i64 x]) → (w2.alloc (.cells #[.int .i64 x] 3)).drew.grownBy w1 (Value.slice xa xn xc).ownBlock → Own w1 (M) v1 (A ++ [x]) ∧ Below (M) w2 w1 ∧ BoxN w1 B #[.string t0, .int .i64 k, .slice xa xn xc, .slice none 0 0, .int .i64 n] ∧ It w1 I S (p + 1)) := fun v1 w1 ho hg => by
                  have h1 : Below (M) w2 w1 := (((Below.refl (M) w2).alloc (by omega) _).drew).grown hg (by simp; omega) (fun q hq => (HA2.out.row.lt q hq).1)
                  refine ⟨⟨?_, ?_⟩, h1, (h1.block B (by omega)).trans HX2.out, (h1.block I (by omega)).trans HI2'.out⟩
                  · simp only [List.length_append, List.map_append, List.length_cons, List.length_nil, List.map_cons, List.map_nil] at ho ⊢
                    exact ho
                  · simp only [List.length_append, List.length_cons, List.length_nil]
                    unfold big
                    omega
                go_region_law (first
                  | (refine step_append_lies _ rfl (.tmp 41) (.tmp 43) 23 rfl (M) 3 iI (.int .i64 0) 1 8 Tryz.underlying23 HI.out HI0.out HI1'.out HI2.out rfl (by decide) (.slice xa xn xc) A.length (A.map (Value.int .i64)) (by simp [Act.eval, Act.put]) HA3.out ⟨w2.heap.size, 0, none⟩ 1 1 [.int .i64 x] (by simp [Act.eval, Act.put]) rfl HN1.out (by intro u hu; simp at hu; subst hu; rfl) (by decide) (by unfold maxLen; omega) (by omega) (by simp; omega) (w2.heap.size + 1) (by simp) ?_; intro g1 cap1 w1 ho hg _ _; obtain ⟨ho1, hb1, hx1, hi1⟩ := HP.out _ _ ho hg; have HO1 : Hid (Own w1 (M) _ (A ++ [x])) := ho1; have HBX : Hid (Below (M) w2 w1) := hb1; have HXW : Hid (BoxN w1 B _) := hx1; have HIW : Hid (It w1 I S (p + 1)) := hi1;  have ef1 : w1.frozen? ⟨B, 2, none⟩ = false := hx1.f 2; have ec1 : w1.cell? ⟨B, 2, none⟩ = some (.slice xa xn xc) := hx1.c 2; have hs1 : w2.heap.size ≤ w1.heap.size := hb1.size; clear ho hg ho1 hb1 hx1 hi1))
                all_goals go_wp2
                all_goals (
                  refine ⟨?_, ?_⟩
                  · (repeat apply Exists.intro)
                    refine ⟨?_, rfl⟩
                    exact ⟨p + 1, A ++ [x], n, [], T, .slice (some ⟨g1, 0, none⟩) (A.length + 1) cap1, .slice none 0 0, by omega, fun _ => ⟨rfl, rfl⟩, by simp; omega, (by first | exact HTD.out | exact HTD1.out (by assumption) | exact HTD2.out (by assumption)), HTS2.out, HIW.out.set _ _ (show I ≠ B by omega), HXW.out.set 2 (.slice (some ⟨g1, 0, none⟩) (A.length + 1) cap1), (by rw [HMM.out]; exact HO1.out.below ⟨B, 2, none⟩ _ (show B < M by omega)), Own.nil _ _, (HB2.out.trans (HBX.out.mono (by omega))).setCell (Nat.le_refl _) _, HF3.out⟩
                  · (have h1 := (HIW.out.set ⟨B, 2, none⟩ (.slice (some ⟨g1, 0, none⟩) (A.length + 1) cap1) (show I ≠ B by omega)).pos; have h2 := HPOS.out; rw [h1, h2]; omega))
          · subst e
            clear HW HTS hc0
            obtain ⟨q, hq⟩ : ∃ q, numK t.data.toList = q := ⟨_, rfl⟩
            obtain ⟨x, hx⟩ : ∃ x, numV t.data.toList = x := ⟨_, rfl⟩
            have HNC : Hid (∀ (w : World), Calls Tryz.prog 95 #[.string t] w fun e w' => e = .returned (.tuple #[.int .i64 x, .int .i64 (if q then 0 else 1)]) ∧ Below w.heap.size w w') := fun w => by
              have h := number_to t w
              rw [hx, hq] at h
              exact h
            have HF2 : Hid ((if q then partsL L (RL.drop (p + 1)) A x [] T else none) = o) := by
              have h := HF1.out
              rw [partsL, if_neg (by decide), if_pos rfl, hq, hx] at h
              exact h
            clear hq hx HF1 hnn
            cases q with
            | false =>
              have HV : Hid (o = none) := by have h := HF2.out; rw [if_neg (by simp)] at h; exact h.symm
              go_wp2_with (go_at_call 95; refine (HNC.out _).mono ?_; rintro e w2 ⟨rfl, hb2⟩; have HX2 : Hid (BoxN w2 B #[.string t0, .int .i64 k, .slice xa xn xc, .slice none 0 0, .int .i64 n]) := HX1.out.later hb2; have HB2 : Hid (Below B w0 w2) := HB1.out.trans (hb2.mono (by omega)); clear hb2)
              go_step3
              exact ⟨rfl, ⟨HV.out, by rw [HV.out]; exact PartsP.no HX2.out HB2.out⟩, rfl, rfl⟩
            | true =>
              have HF3 : Hid (partsL L (RL.drop (p + 1)) A x [] T = o) := by have h := HF2.out; rw [if_pos rfl] at h; exact h
              clear HF2
              go_upto_region 14 with (go_at_call 95; refine (HNC.out _).mono ?_; rintro e w2 ⟨rfl, hb2⟩; have HX2 : Hid (BoxN w2 B #[.string t0, .int .i64 k, .slice xa xn xc, .slice none 0 0, .int .i64 n]) := HX1.out.later hb2; have HA2 : Hid (Own w2 (I + 1) (.slice xa xn xc) A) := HA1.out.later hb2; have HB2 : Hid (Below B w0 w2) := HB1.out.trans (hb2.mono (by omega)); have HI2' : Hid (It w2 I S (p + 1)) := HI1.out.later hb2; clear hb2)
              have e2 : w2.cell? ⟨B, 4, none⟩ = some (.int .i64 n) := HX2.out.c 4
              have ef : w2.frozen? ⟨B, 4, none⟩ = false := HX2.out.f 4
              go_region
              all_goals (
                go_wp2
                go_roundw
                case rel => exact ⟨p + 1, A, x, [], T, .slice xa xn xc, .slice none 0 0, by omega, fun _ => ⟨rfl, rfl⟩, by omega, (by first | exact HTD.out | exact HTD1.out (by assumption) | exact HTD2.out (by assumption)), HTS2.out, HI2'.out.set ⟨B, 4, none⟩ (.int .i64 x) (show I ≠ B by omega), HX2.out.set 4 (.int .i64 x), (HA2.out.below ⟨B, 4, none⟩ (.int .i64 x) (show B < I + 1 by omega)).drew, Own.nil _ _, (HB2.out.setCell (p := ⟨B, 4, none⟩) (Nat.le_refl _) (.int .i64 x)).drew, HF3.out⟩
                case measure => (have h1 := (HI2'.out.set ⟨B, 4, none⟩ (.int .i64 x) (show I ≠ B by omega)).pos; have h2 := HPOS.out; show RL.length - (w2.setCell ⟨B, 4, none⟩ (.int .i64 x)).iterPos I < RL.length - wr.iterPos I; rw [h1, h2]; omega))
          · subst e
            clear HC1 HTW2 HTD HTD1 HTD2 gz g0 gN gl HST HTS2 d0 hc0
            have HPL : Hid (p + 1 = RL.length) := HLA.out rfl
            have HF2 : Hid (dimsP L A n [] (t :: T) = o) := by
              have h := HF1.out
              rw [HPL.out, List.drop_length, dimsP_start] at h
              exact h
            clear HF1
            rw [← hnn] at bz
            clear hn1
            obtain ⟨M, hM⟩ : ∃ M, W1.heap.size = M := ⟨_, rfl⟩
            have hIM : I < M := by omega
            have HAM : Hid (∀ q, (Value.slice xa xn xc).ownBlock = some q → q < M) := fun q hq => by rw [← hM]; exact HA1.out.lt q hq
            rw [← hnn]
            clear hnn
            obtain ⟨T0, hT0⟩ : ∃ T0, t :: T = T0 := ⟨_, rfl⟩
            rw [hT0] at bz HF2 HW HTS ⊢
            have hcell : ∃ b' o', (⟨b, off, none⟩ : Addr) = ⟨b', o', none⟩ ∧ W1.cell? ⟨b', o', none⟩ = some (.string t) := ⟨b, off, rfl, (by have h := HW.out; rw [← hT0] at h; obtain ⟨b1, o1, e, -, -, hc⟩ := h.first; simp only [Option.some.injEq, Addr.mk.injEq] at e; obtain ⟨rfl, rfl, _⟩ := e; exact cell_later (by rw [HBE.out]; exact HB1.out) hc)⟩
            obtain ⟨_, _, eaa, d0⟩ := hcell
            simp only [Addr.mk.injEq] at eaa
            obtain ⟨rfl, rfl, _⟩ := eaa
            have gT0 : 0 < T0.length := by rw [← hT0]; simp
            have gT1 : (0 : Int) < (T0.length : Int) := by omega
            have gT2 : ¬ (T0.length : Int) = 0 := by omega
            clear hT0
            go_wp2_with fail
            go_loopw [1] (fun lv w' => PartsJ w0 B I M (p + 1) S L t0 k A n (.slice xa xn xc) o lv w') (fun lv _ => lenV lv)
            case atStart => exact ⟨[], T0, _, Nat.zero_le _, HW.out, HTS.out, HI1.out, HX1.out, HA1.out, Own.nil _ _, HB1.out, by omega, HF2.out⟩
            case round =>
              clear HW HTS HI1 HX1 HA1 HB1 HF2 bz gT0 gT1 gT2 d0
              obtain ⟨D, T, y, hD3, hw9, hts9, hi9, hx9, ha9, hd9, hb9, hMs, hf9⟩ := hrel
              have HW : Hid (HoldsW w0 u1 T) := hw9
              have HTS : Hid (∀ t ∈ T, t.size ≤ 3000) := hts9
              have HI1 : Hid (It wr I S (p + 1)) := hi9
              have HX1 : Hid (BoxN wr B #[.string t0, .int .i64 k, .slice xa xn xc, y, .int .i64 n]) := hx9
              have HA1 : Hid (Own wr (I + 1) (.slice xa xn xc) A) := ha9
              have HD1 : Hid (Own wr M y D) := hd9
              have HB1 : Hid (Below B w0 wr) := hb9
              have HF1 : Hid (dimsP L A n D T = o) := hf9
              clear hw9 hts9 hi9 hx9 ha9 hd9 hb9 hf9
              obtain ⟨a, c, e1, hac⟩ := HW.out.shape
              subst e1
              obtain ⟨ya, yc, e1⟩ := HD1.out.ints.shape
              subst e1
              have e3 : wr.cell? ⟨B, 3, none⟩ = some (.slice ya D.length yc) := HX1.out.c 3
              by_cases hgo : T ≠ [] ∧ D.length < 3
              · obtain ⟨hne, hd3⟩ := hgo
                obtain ⟨t, T', rfl⟩ : ∃ t T', T = t :: T' := by
                  cases T with
                  | nil => exact absurd rfl hne
                  | cons t T' => exact ⟨t, T', rfl⟩
                clear hne
                obtain ⟨b, off, rfl, -, hlc, hc0⟩ := HW.out.first
                have HC1 : Hid (∀ w', Below B w0 w' → w'.cell? ⟨b, off, none⟩ = some (.string t)) := fun w' hb => cell_later (by rw [HBE.out]; exact hb) hc0
                have d0 := HC1.out _ HB1.out
                obtain ⟨nn, hnn⟩ : ∃ nn, (t :: T').length = nn := ⟨_, rfl⟩
                have HTW2 : Hid (HoldsW w0 (.slice (some ⟨b, off, none⟩) nn c) (t :: T')) := by rw [← hnn]; exact HW.out
                have hn1 : 1 ≤ nn := by rw [← hnn]; simp
                rw [hnn]
                have g0 : (0 : Int) < (nn : Int) := by omega
                have gN : 0 < nn := by omega
                have gl : (1 : Int) ≤ (nn : Int) := by omega
                have gd : (D.length : Int) < 3 := by omega
                have HST : Hid (t.size ≤ 3000) := HTS.out t (by simp)
                have HTS2 : Hid (∀ t ∈ T', t.size ≤ 3000) := fun u hu => HTS.out u (by simp [hu])
                have HTD : Hid (HoldsW w0 (.slice (if c = 1 then some ⟨b, off, none⟩ else (some (⟨b, off, none⟩ : Addr)).map (·.add (1 * 2))) (nn - 1) (c - 1)) T') := HTW2.out.drop 1 (by simp)
                have HTD1 : Hid (c = 1 → HoldsW w0 (.slice (some ⟨b, off, none⟩) (nn - 1) 0) T') := fun hc => by have h := HTD.out; rw [if_pos hc, show c - 1 = 0 by omega] at h; exact h
                have HTD2 : Hid (¬ c = 1 → HoldsW w0 (.slice (some ⟨b, off + 2, none⟩) (nn - 1) (c - 1)) T') := fun hc => by have h := HTD.out; rw [if_neg hc] at h; simpa [Addr.add] using h
                obtain ⟨q, hq⟩ : ∃ q, numK t.data.toList = q := ⟨_, rfl⟩
                obtain ⟨x, hx⟩ : ∃ x, numV t.data.toList = x := ⟨_, rfl⟩
                have HNC : Hid (∀ (w : World), Calls Tryz.prog 95 #[.string t] w fun e w' => e = .returned (.tuple #[.int .i64 x, .int .i64 (if q then 0 else 1)]) ∧ Below w.heap.size w w') := fun w => by
                  have h := number_to t w
                  rw [hx, hq] at h
                  exact h
                have HF2 : Hid ((if q then dimsP L A n (D ++ [x]) T' else none) = o) := by
                  have h := HF1.out
                  rw [dimsP_cons _ _ _ _ _ _ hd3, hq, hx] at h
                  exact h
                clear hq hx HF1 hnn HW HTS hc0
                cases q with
                | false =>
                  have HV : Hid (o = none) := by have h := HF2.out; rw [if_neg (by simp)] at h; exact h.symm
                  go_wp2_with (go_at_call 95; refine (HNC.out _).mono ?_; rintro e w2 ⟨rfl, hb2⟩; have HX2 : Hid (BoxN w2 B #[.string t0, .int .i64 k, .slice xa xn xc, .slice ya D.length yc, .int .i64 n]) := HX1.out.later hb2; have HB2 : Hid (Below B w0 w2) := HB1.out.trans (hb2.mono (by omega)); clear hb2)
                  go_step3
                  exact ⟨rfl, ⟨HV.out, by rw [HV.out]; exact PartsP.no HX2.out HB2.out⟩, rfl, rfl⟩
                | true =>
                  have HF3 : Hid (dimsP L A n (D ++ [x]) T' = o) := by have h := HF2.out; rw [if_pos rfl] at h; exact h
                  clear HF2
                  obtain ⟨iI, hi, hi0, hi1, hi2⟩ := info3
                  have HI : Hid (Tryz.prog.info? 3 = some iI) := hi
                  have HI0 : Hid (iI.zero = some (.int .i64 0)) := hi0
                  have HI1' : Hid (iI.size = 1) := hi1
                  have HI2 : Hid (iI.bytes = 8) := hi2
                  clear hi hi0 hi1 hi2
                  go_upto_region 19 with (go_at_call 95; refine (HNC.out _).mono ?_; rintro e w2 ⟨rfl, hb2⟩; have HX2 : Hid (BoxN w2 B #[.string t0, .int .i64 k, .slice xa xn xc, .slice ya D.length yc, .int .i64 n]) := HX1.out.later hb2; have HA2 : Hid (Own w2 M (.slice ya D.length yc) D) := HD1.out.later hb2; have HZ2 : Hid (Own w2 (I + 1) (.slice xa xn xc) A) := HA1.out.later hb2; have HB2 : Hid (Below B w0 w2) := HB1.out.trans (hb2.mono (by omega)); have HI2' : Hid (It w2 I S (p + 1)) := HI1.out.later hb2; have hs2 : M ≤ w2.heap.size := Nat.le_trans hMs hb2.size; clear hb2)
                  clear e3
                  have e2 : w2.cell? ⟨B, 3, none⟩ = some (.slice ya D.length yc) := HX2.out.c 3
                  have ef : w2.frozen? ⟨B, 3, none⟩ = false := HX2.out.f 3
                  have e2a : (w2.alloc (.cells #[.int .i64 x] 3)).cell? ⟨B, 3, none⟩ = some (.slice ya D.length yc) := (HX2.out.alloc _).c 3
                  have HN1 : Hid (∀ j u, [Value.int .i64 x][j]? = some u → (w2.alloc (.cells #[.int .i64 x] 3)).drew.cell? ((⟨w2.heap.size, 0, none⟩ : Addr).add j) = some u) := cell_one_new w2 _ _
                  have HA3 : Hid ((w2.alloc (.cells #[.int .i64 x] 3)).drew.ownsRow (M) 3 1 (.slice ya D.length yc) D.length (D.map (Value.int .i64))) := HA2.out.row.alloc _
                  have hln : D.length ≤ 1000 := by omega
                  have HP : Hid (∀ v1 w1, w1.ownsRow (M) 3 1 v1 (D.length + 1) (D.map (Value.int .i64) ++ [.int .i64 x]) → (w2.alloc (.cells #[.int .i64 x] 3)).drew.grownBy w1 (Value.slice ya D.length yc).ownBlock → Own w1 (M) v1 (D ++ [x]) ∧ Below (M) w2 w1 ∧ BoxN w1 B #[.string t0, .int .i64 k, .slice xa xn xc, .slice ya D.length yc, .int .i64 n] ∧ It w1 I S (p + 1) ∧ Own w1 (I + 1) (.slice xa xn xc) A) := fun v1 w1 ho hg => by
                    have h1 : Below (M) w2 w1 := (((Below.refl (M) w2).alloc (by omega) _).drew).grown hg (by simp; omega) (fun q hq => (HA2.out.row.lt q hq).1)
                    refine ⟨⟨?_, ?_⟩, h1, (h1.block B (by omega)).trans HX2.out, (h1.block I (by omega)).trans HI2'.out, HZ2.out.at (fun q hq => h1.block q (HAM.out q hq))⟩
                    · simp only [List.length_append, List.map_append, List.length_cons, List.length_nil, List.map_cons, List.map_nil] at ho ⊢
                      exact ho
                    · simp only [List.length_append, List.length_cons, List.length_nil]
                      unfold big
                      omega
                  go_region_law (first
                    | (refine step_append_lies _ rfl (.tmp 91) (.tmp 93) 23 rfl (M) 3 iI (.int .i64 0) 1 8 Tryz.underlying23 HI.out HI0.out HI1'.out HI2.out rfl (by decide) (.slice ya D.length yc) D.length (D.map (Value.int .i64)) (by simp [Act.eval, Act.put]) HA3.out ⟨w2.heap.size, 0, none⟩ 1 1 [.int .i64 x] (by simp [Act.eval, Act.put]) rfl HN1.out (by intro u hu; simp at hu; subst hu; rfl) (by decide) (by unfold maxLen; omega) (by omega) (by simp; omega) (w2.heap.size + 1) (by simp) ?_; intro g1 cap1 w1 ho hg _ _; obtain ⟨ho1, hb1, hx1, hi1, hz1⟩ := HP.out _ _ ho hg; have HO1 : Hid (Own w1 (M) _ (D ++ [x])) := ho1; have HBX : Hid (Below (M) w2 w1) := hb1; have HXW : Hid (BoxN w1 B _) := hx1; have HIW : Hid (It w1 I S (p + 1)) := hi1; have HZW : Hid (Own w1 (I + 1) _ A) := hz1; have ef1 : w1.frozen? ⟨B, 3, none⟩ = false := hx1.f 3; have ec1 : w1.cell? ⟨B, 3, none⟩ = some (.slice ya D.length yc) := hx1.c 3; have hs1 : w2.heap.size ≤ w1.heap.size := hb1.size; clear ho hg ho1 hb1 hx1 hi1 hz1))
                  all_goals go_wp2
                  all_goals (
                    go_roundw
                    case rel => exact ⟨D ++ [x], T', .slice (some ⟨g1, 0, none⟩) (D.length + 1) cap1, by simp; omega, (by first | exact HTD.out | exact HTD1.out (by assumption) | exact HTD2.out (by assumption)), HTS2.out, HIW.out.set _ _ (show I ≠ B by omega), HXW.out.set 3 (.slice (some ⟨g1, 0, none⟩) (D.length + 1) cap1), HZW.out.below ⟨B, 3, none⟩ _ (show B < I + 1 by omega), HO1.out.below ⟨B, 3, none⟩ _ (show B < M by omega), (HB2.out.trans (HBX.out.mono (by omega))).setCell (Nat.le_refl _) _, (by simp; omega), HF3.out⟩
                    case measure => (simp only [lenV]; omega))
              · have HFE : Hid (partsL L [] A n D T = o) := by
                  have h := HF1.out
                  by_cases hT : T = []
                  · subst hT
                    rw [dimsP_nil] at h
                    exact h
                  · have hl : D.length = 3 := by
                      have : ¬ D.length < 3 := fun hh => hgo ⟨hT, hh⟩
                      omega
                    rw [dimsP_full _ _ _ _ _ hl] at h
                    exact h
                have HFR : Hid (partsL L (RL.drop (p + 1)) A n D T = o) := by
                  show _ = _
                  rw [HPL.out, List.drop_length]
                  exact HFE.out
                have hstop : ¬ ((0 : Int) < (T.length : Int) ∧ (D.length : Int) < 3) := fun hh => hgo ⟨List.length_pos_iff.1 (by omega), by omega⟩
                clear hgo HF1 HFE
                by_cases g0 : (0 : Int) < (T.length : Int)
                · have gd : ¬ (D.length : Int) < 3 := fun hh => hstop ⟨g0, hh⟩
                  clear hstop
                  go_wp2
                  go_roundw
                  case rel => exact ⟨p + 1, A, n, D, T, .slice xa xn xc, .slice ya D.length yc, by (have := HPL.out; omega), fun h => by (have := HPL.out; omega), by omega, HW.out, HTS.out, HI1.out, HX1.out, HA1.out, HD1.out.mono (by omega), HB1.out, HFR.out⟩
                  case measure => (have h1 := HI1.out.pos; have h2 := HPOS.out; rw [h1, h2]; omega)
                · clear hstop
                  go_wp2
                  go_roundw
                  case rel => exact ⟨p + 1, A, n, D, T, .slice xa xn xc, .slice ya D.length yc, by (have := HPL.out; omega), fun h => by (have := HPL.out; omega), by omega, HW.out, HTS.out, HI1.out, HX1.out, HA1.out, HD1.out.mono (by omega), HB1.out, HFR.out⟩
                  case measure => (have h1 := HI1.out.pos; have h2 := HPOS.out; rw [h1, h2]; omega)
      · obtain rfl : p = RL.length := by omega
        obtain ⟨ya, yn, yc, e1⟩ := HOD.out.ints.shape3
        subst e1
        have hnx : ∀ ty, (Instr.next (.pointer (some ⟨I, 0, none⟩)) true ty).run Tryz.prog wr = .ok (.tuple #[.bool false]) wr := fun ty => HIT.out.nd (by omega) ty
        have HF2 : Hid ((if T = [] then some (A, n, D) else none) = o) := by have h := HF.out; rw [List.drop_length, partsL] at h; exact h
        clear HF hDE
        by_cases hT0 : T = []
        · subst hT0
          have HV : Hid (o = some (A, n, D)) := by have h := HF2.out; rw [if_pos rfl] at h; exact h.symm
          go_wp2
          rw [jump_ret]
          go_ret
          refine ⟨by rw [← HE.out, HV.out]; rfl, _, _, _, HXX.out, ⟨_, _, _, rfl⟩, ⟨_, _, _, rfl⟩, HBB.out, fun A' m D' e => ?_⟩
          rw [HV.out] at e
          simp only [Option.some.injEq, Prod.mk.injEq] at e
          obtain ⟨rfl, rfl, rfl⟩ := e
          exact ⟨rfl, HOA.out.mono (by omega), HOD.out.mono (by omega)⟩
        · have HV : Hid (o = none) := by have h := HF2.out; rw [if_neg hT0] at h; exact h.symm
          have gT : (0 : Int) < (T.length : Int) := by have : 0 < T.length := List.length_pos_iff.2 hT0; omega
          clear hT0
          go_wp2
          go_step3
          exact ⟨rfl, ⟨HV.out, by rw [HV.out]; exact PartsP.no HXX.out HBB.out⟩, rfl, rfl⟩
  · rintro a w' ⟨⟨hv, hpp⟩, hd, hs⟩
    obtain ⟨g, -, rfl⟩ := act102 a hd hs
    have HV : Hid (o = none) := hv
    have HPP : Hid (PartsP B w0 t0 k o w') := hpp
    clear hv hpp
    go_wp2
    rw [jump_ret]
    go_ret
    exact ⟨by rw [← HE.out, HV.out]; rfl, HPP.out⟩
end Go.Proofs.YtkojdigaoihkpaaGreatDoor

end
section
namespace Go.Proofs.YtkojdigaoihkpaaGreatDoor
set_option linter.unusedVariables false
set_option linter.unusedSimpArgs false
set_option maxRecDepth 100000
open Go.RowKit

def lenZ : Value → Nat
  | .slice _ n _ => n
  | _ => 0
/-- What a line's words tell. -/
def LineP (w : World) (E : Int) (N : Nod) (e : Ending) (w' : World) : Prop := ∃ s k x y n, e = .returned (.tuple #[.agg #[.string s, .int .i64 k, x, y, .int .i64 n], .int .i64 E]) ∧ (∃ a1 n1 c1, x = .slice a1 n1 c1) ∧ (∃ a1 n1 c1, y = .slice a1 n1 c1) ∧
      (E = 0 → s = N.name ∧ k = N.kind ∧ n = N.n ∧ Own w' w.heap.size x N.args ∧ Own w' w.heap.size y N.dims) ∧ Below w.heap.size w w'
/-- The cells of a box of zeros. -/
structure ZC (w : World) (B : Nat) : Prop where
  z0 : w.cell? ⟨B, 0, none⟩ = some (.string ⟨#[]⟩)
  z1 : w.cell? ⟨B, 1, none⟩ = some (.int .i64 0)
  z2 : w.cell? ⟨B, 2, none⟩ = some (.slice none 0 0)
  z3 : w.cell? ⟨B, 3, none⟩ = some (.slice none 0 0)
  z4 : w.cell? ⟨B, 4, none⟩ = some (.int .i64 0)
  f0 : w.frozen? ⟨B, 0, none⟩ = false
  f1 : w.frozen? ⟨B, 1, none⟩ = false
  f2 : w.frozen? ⟨B, 2, none⟩ = false
  f3 : w.frozen? ⟨B, 3, none⟩ = false
  f4 : w.frozen? ⟨B, 4, none⟩ = false
theorem BoxN.zc {w : World} {B : Nat} (h : BoxN w B #[.string ⟨#[]⟩, .int .i64 0, .slice none 0 0, .slice none 0 0, .int .i64 0]) : ZC w B := ⟨h.c 0, h.c 1, h.c 2, h.c 3, h.c 4, h.f 0, h.f 1, h.f 2, h.f 3, h.f 4⟩
set_option hygiene false in
/-- The way out with zeros: HZ: the box; HW: Below. -/
macro "line_out " k:term : tactic => `(tactic| (
  have BR : Hid (BoxN _ w.heap.size #[.string ⟨#[]⟩, .int .i64 0, .slice none 0 0, .slice none 0 0, .int .i64 0]) := (((((HZZ.out).set 0 (.string ⟨#[]⟩)).set 1 (.int .i64 0)).set 2 (.slice none 0 0)).set 3 (.slice none 0 0)).set 4 (.int .i64 0)
  have r0 := (BR.out.c 0).trans (show _ = some (.string ⟨#[]⟩) from rfl)
  have r1 := (BR.out.c 1).trans (show _ = some (.int .i64 0) from rfl)
  have r2 := (BR.out.c 2).trans (show _ = some (.slice none 0 0) from rfl)
  have r3 := (BR.out.c 3).trans (show _ = some (.slice none 0 0) from rfl)
  have r4 := (BR.out.c 4).trans (show _ = some (.int .i64 0) from rfl)
  refine bodyPost_ret (v := .tuple #[.agg #[.string ⟨#[]⟩, .int .i64 0, .slice none 0 0, .slice none 0 0, .int .i64 0], .int .i64 $k]) (by simp [results, Tryz.results31, go_sem, r0, r1, r2, r3, r4]) rfl ⟨_, _, _, _, _, (by first | rfl | rw [HE.out]), ⟨_, _, _, rfl⟩, ⟨_, _, _, rfl⟩, (fun h0 => absurd h0 (by first | decide | (rw [HE.out]; decide))), ?_⟩
  exact (((((HBB.out).setCell (Nat.le_refl _) _).setCell (Nat.le_refl _) _).setCell (Nat.le_refl _) _).setCell (Nat.le_refl _) _).setCell (Nat.le_refl _) _))
set_option hygiene false in
/-- The cells of a box of zeros, laid. -/
macro "line_z " h:term : tactic => `(tactic| (
  obtain ⟨z0, z1, z2, z3, z4, f0, f1, f2, f3, f4⟩ := BoxN.zc $h))
set_option maxHeartbeats 8000000 in
theorem rline_short {v u : Value} {L : List Nod} {T : List ByteArray} {w : World} (h : NodesL w v L) (hu : HoldsW w u T) (hn : T.length < 3) (N : Nod) :
    Calls Tryz.prog 31 #[v, u] w (LineP w 5 N) := by
  obtain ⟨va, vc, rfl, _, _⟩ := h.shape
  obtain ⟨ua, uc, rfl, _⟩ := hu.shape
  obtain ⟨U, hU⟩ : ∃ U, U = w.alloc (.cells #[.string ⟨#[]⟩, .int .i64 0, .slice none 0 0, .slice none 0 0, .int .i64 0] 55) := ⟨_, rfl⟩
  have HUU : Hid (U = w.alloc (.cells #[.string ⟨#[]⟩, .int .i64 0, .slice none 0 0, .slice none 0 0, .int .i64 0] 55)) := hU
  have HBB : Hid (Below w.heap.size w U) := by show Below _ _ _; rw [hU]; exact Below.push (Below.refl _ _) _
  have HZZ : Hid (BoxN U w.heap.size #[.string ⟨#[]⟩, .int .i64 0, .slice none 0 0, .slice none 0 0, .int .i64 0]) := by show BoxN _ _ _; rw [hU]; exact BoxN.new w _
  have g1 : (T.length : Int) < 3 := by omega
  line_z HZZ.out
  clear hU h hu
  go_enter Tryz.func31, Tryz.ntmps31
  go_upto_region 1 with fail
  rw [← HUU.out]
  go_wp2
  line_out 5
set_option maxHeartbeats 8000000 in
theorem rline_head {TB : World → Prop} (RN : RName TB) {v u : Value} {L : List Nod} {t0 t1 t2 : ByteArray} {r : List ByteArray} {w : World} (h : NodesL w v L) (hu : HoldsW w u (t0 :: t1 :: t2 :: r)) (hT : TB w) (h0 : t0.size ≤ 3000) (N : Nod) (hh : headB L t0 t1 t2 = false) :
    Calls Tryz.prog 31 #[v, u] w (LineP w 5 N) := by
  obtain ⟨va, vc, rfl, _, _⟩ := h.shape
  obtain ⟨ua, uc, rfl, _⟩ := hu.shape
  have HT : Hid (TB w) := hT
  have HNL : Hid (NodesL w (.slice va L.length vc) L) := h
  obtain ⟨b, off, rfl, -, hlc, hc0, hc1, hc2⟩ := hu.three
  obtain ⟨m, hm⟩ : ∃ m, (t0 :: t1 :: t2 :: r).length = m := ⟨_, rfl⟩
  have hm3 : 3 ≤ m := by rw [← hm]; simp
  rw [hm] at hlc ⊢
  obtain ⟨U, hU⟩ : ∃ U, U = w.alloc (.cells #[.string ⟨#[]⟩, .int .i64 0, .slice none 0 0, .slice none 0 0, .int .i64 0] 55) := ⟨_, rfl⟩
  have HUU : Hid (U = w.alloc (.cells #[.string ⟨#[]⟩, .int .i64 0, .slice none 0 0, .slice none 0 0, .int .i64 0] 55)) := hU
  have HB : Hid (Below w.heap.size w U) := by show Below _ _ _; rw [hU]; exact Below.push (Below.refl _ _) _
  have HZ : Hid (BoxN U w.heap.size #[.string ⟨#[]⟩, .int .i64 0, .slice none 0 0, .slice none 0 0, .int .i64 0]) := by show BoxN _ _ _; rw [hU]; exact BoxN.new w _
  have HC0 : Hid (∀ w', Below w.heap.size w w' → w'.cell? ⟨b, off, none⟩ = some (.string t0) ∧ w'.cell? ⟨b, off + 2, none⟩ = some (.string t1) ∧ w'.cell? ⟨b, off + 4, none⟩ = some (.string t2)) := fun w' hb => ⟨cell_later hb hc0, cell_later hb hc1, cell_later hb hc2⟩
  have g1 : ¬ (m : Int) < 3 := by omega
  have g2 : (0 : Int) < m := by omega
  have g3 : (1 : Int) < m := by omega
  have g4 : (2 : Int) < m := by omega
  have c0 := (HC0.out U HB.out).1
  clear hU h hu hT hc0 hc1 hc2 hm
  obtain ⟨q, hq⟩ : ∃ q, nameB t0 = q := ⟨_, rfl⟩
  have HQ : Hid (nameB t0 = q) := hq
  obtain ⟨x, hx⟩ : ∃ x, nmdN L t0 0 = x := ⟨_, rfl⟩
  have HX : Hid (nmdN L t0 0 = x) := hx
  obtain ⟨k, hk⟩ : ∃ k, kindF t2 = k := ⟨_, rfl⟩
  have HK : Hid (kindF t2 = k) := hk
  rw [headB, hq, hx, hk] at hh
  clear hq hx hk
  cases q with
  | false =>
    clear hh
    go_enter Tryz.func31, Tryz.ntmps31
    go_upto_region 1 with fail
    rw [← HUU.out]
    go_wp2_with (go_at_call 41; refine (RN.name (by omega) (RN.later HB.out HT.out) false HQ.out).mono ?_; rintro e w2 ⟨rfl, hb2⟩; have HZZ : Hid (BoxN w2 w.heap.size #[.string ⟨#[]⟩, .int .i64 0, .slice none 0 0, .slice none 0 0, .int .i64 0]) := HZ.out.later hb2; have HBB : Hid (Below w.heap.size w w2) := Below.after HB.out hb2; line_z HZZ.out; clear hb2)
    line_out 5
  | true =>
    by_cases hx : 0 ≤ x
    · clear hh
      go_enter Tryz.func31, Tryz.ntmps31
      go_upto_region 1 with fail
      rw [← HUU.out]
      go_wp2_with (first
        | (go_at_call 41; refine (RN.name (by omega) (RN.later HB.out HT.out) true HQ.out).mono ?_; rintro e w2 ⟨rfl, hb2⟩; have HZZ : Hid (BoxN w2 w.heap.size #[.string ⟨#[]⟩, .int .i64 0, .slice none 0 0, .slice none 0 0, .int .i64 0]) := HZ.out.later hb2; have HBB : Hid (Below w.heap.size w w2) := Below.after HB.out hb2; line_z HZZ.out; obtain ⟨d0, d1, d2⟩ := HC0.out _ HBB.out; clear hb2)
        | (go_at_call 42; refine (rnamed_any (HNL.out.later HBB.out) t0 x HX.out).mono ?_; rintro e w3 ⟨rfl, rfl⟩))
      line_out 5
    · by_cases h1 : t1 = ⟨#[61]⟩
      · have hk0 : k = 0 := by simpa [show x < 0 by omega, h1] using hh
        have HK0 : Hid (kindF t2 = 0) := by show _ = _; rw [HK.out, hk0]
        have e1 : (t1.toList == ByteArray.toList ⟨#[61]⟩) = true := by rw [h1]; simp
        clear hh hk0 HK
        go_enter Tryz.func31, Tryz.ntmps31
        go_upto_region 1 with fail
        rw [← HUU.out]
        go_wp2_with (first
          | (go_at_call 41; refine (RN.name (by omega) (RN.later HB.out HT.out) true HQ.out).mono ?_; rintro e w2 ⟨rfl, hb2⟩; have HZ2 : Hid (BoxN w2 w.heap.size #[.string ⟨#[]⟩, .int .i64 0, .slice none 0 0, .slice none 0 0, .int .i64 0]) := HZ.out.later hb2; have HB2 : Hid (Below w.heap.size w w2) := Below.after HB.out hb2; obtain ⟨d0, d1, d2⟩ := HC0.out _ HB2.out; clear hb2)
          | (go_at_call 42; refine (rnamed_any (HNL.out.later HB2.out) t0 x HX.out).mono ?_; rintro e w3 ⟨rfl, rfl⟩)
          | (go_at_call 59; refine (rkind_to t2 _ 0 HK0.out).mono ?_; rintro e w4 ⟨rfl, hb4⟩; have HZZ : Hid (BoxN w4 w.heap.size #[.string ⟨#[]⟩, .int .i64 0, .slice none 0 0, .slice none 0 0, .int .i64 0]) := HZ2.out.later hb4; have HBB : Hid (Below w.heap.size w w4) := Below.after HB2.out hb4; line_z HZZ.out; clear hb4))
        line_out 5
      · have e1 : (t1.toList == [61]) = false := by have h := str_ne9 h1; rw [Lib.toList_data (⟨#[61]⟩ : ByteArray)] at h; exact h
        clear hh
        go_enter Tryz.func31, Tryz.ntmps31
        go_upto_region 1 with fail
        rw [← HUU.out]
        go_wp2_with (first
          | (go_at_call 41; refine (RN.name (by omega) (RN.later HB.out HT.out) true HQ.out).mono ?_; rintro e w2 ⟨rfl, hb2⟩; have HZZ : Hid (BoxN w2 w.heap.size #[.string ⟨#[]⟩, .int .i64 0, .slice none 0 0, .slice none 0 0, .int .i64 0]) := HZ.out.later hb2; have HBB : Hid (Below w.heap.size w w2) := Below.after HB.out hb2; line_z HZZ.out; obtain ⟨d0, d1, d2⟩ := HC0.out _ HBB.out; clear hb2)
          | (go_at_call 42; refine (rnamed_any (HNL.out.later HBB.out) t0 x HX.out).mono ?_; rintro e w3 ⟨rfl, rfl⟩))
        line_out 5
end Go.Proofs.YtkojdigaoihkpaaGreatDoor

end
section
namespace Go.Proofs.YtkojdigaoihkpaaGreatDoor
set_option linter.unusedVariables false
set_option linter.unusedSimpArgs false
set_option maxRecDepth 100000
open Go.RowKit

/-- A line's words as what is asked of a node. -/
noncomputable def nodeF (L : List Nod) : List ByteArray → Option (ByteArray × Nat × List Int × Int × List Int)
  | t0 :: t1 :: t2 :: r => if headB L t0 t1 t2 then (partsL L (restL (kindF t2)) [] 0 [] r).map fun p => (t0, kindF t2, p.1, p.2.1, p.2.2) else none
  | _ => none
/-- What the node's words tell. -/
def NodeP (w : World) (o : Option (ByteArray × Nat × List Int × Int × List Int)) (e : Ending) (w' : World) : Prop :=
  ∃ s k x y n, e = .returned (.tuple #[.agg #[.string s, .int .i64 k, x, y, .int .i64 n], .int .i64 (if o.isSome then 0 else 5)]) ∧ (∃ a1 n1 c1, x = .slice a1 n1 c1) ∧ (∃ a1 n1 c1, y = .slice a1 n1 c1) ∧
    (∀ t0 k' A m D, o = some (t0, k', A, m, D) → s = t0 ∧ k = k' ∧ n = m ∧ Own w' w.heap.size x A ∧ Own w' w.heap.size y D) ∧ Below w.heap.size w w'
set_option maxHeartbeats 32000000 in
theorem node_any {w : World} {u v : Value} {L : List Nod} {T : List ByteArray} (h : NodesL w v L) (hu : HoldsW w u T) (hts : ∀ t ∈ T, t.size ≤ 3000) (o : Option (ByteArray × Nat × List Int × Int × List Int)) (ho : nodeF L T = o) :
    Calls Tryz.prog 51 #[u, v] w (NodeP w o) := by
  obtain ⟨va, vc, rfl, _, _⟩ := h.shape
  obtain ⟨ua, uc, rfl, huc⟩ := hu.shape
  obtain ⟨B, hB⟩ : ∃ B, w.heap.size = B := ⟨_, rfl⟩
  have HBE : Hid (w.heap.size = B) := hB
  have HNL0 : Hid (NodesL w (.slice va L.length vc) L) := h
  have HU0 : Hid (HoldsW w (.slice ua T.length uc) T) := hu
  have HT0 : Hid (∀ t ∈ T, t.size ≤ 3000) := hts
  have HO : Hid (nodeF L T = o) := ho
  obtain ⟨U, hU⟩ : ∃ U, U = w.alloc (.cells #[.string ⟨#[]⟩, .int .i64 0, .slice none 0 0, .slice none 0 0, .int .i64 0] 55) := ⟨_, rfl⟩
  have HUU : Hid (U = w.alloc (.cells #[.string ⟨#[]⟩, .int .i64 0, .slice none 0 0, .slice none 0 0, .int .i64 0] 55)) := hU
  have HB : Hid (Below w.heap.size w U) := by show Below _ _ _; rw [hU]; exact Below.push (Below.refl _ _) _
  have HZ : Hid (BoxN U w.heap.size #[.string ⟨#[]⟩, .int .i64 0, .slice none 0 0, .slice none 0 0, .int .i64 0]) := by show BoxN _ _ _; rw [hU]; exact BoxN.new w _
  rw [hB] at HB HZ
  clear hU h hu hts ho
  go_enter Tryz.func51, Tryz.ntmps51
  go_wp2_with fail
  rw [← HUU.out]
  clear hB
  refine wp_scope_jumps 0 (fun a' w' => (o = none ∧ Below B w w' ∧ ∃ c0 c1 c2 c3 c4, BoxN w' B #[c0, c1, c2, c3, c4]) ∧ a'.defers = [] ∧ a'.tmps.size = 58 ∧ a'.tmps.getD 4 undef = .pointer (some ⟨B, 0, none⟩)) (fun _ _ => 0) rfl ?_ ?_
  · by_cases hlen : T.length < 3
    · have HV : Hid (o = none) := by
        have h := HO.out
        match T, hlen, h with
        | [], _, h => rw [nodeF] at h; exact h.symm; all_goals simp
        | [_], _, h => rw [nodeF] at h; exact h.symm; all_goals simp
        | [_, _], _, h => rw [nodeF] at h; exact h.symm; all_goals simp
      have g1 : (T.length : Int) < 3 := by omega
      clear HO
      go_wp2
      go_step3
      exact ⟨rfl, ⟨HV.out, HB.out, _, _, _, _, _, HZ.out⟩, rfl, rfl, rfl⟩
    obtain ⟨t0, t1, t2, r, rfl⟩ : ∃ t0 t1 t2 r, T = t0 :: t1 :: t2 :: r := by
      match T, hlen with
      | [], h => simp at h
      | [_], h => simp at h
      | [_, _], h => simp at h
      | t0 :: t1 :: t2 :: r, _ => exact ⟨t0, t1, t2, r, rfl⟩
    clear hlen
    obtain ⟨b, off, rfl, -, hlc, hc0, hc1, hc2⟩ := HU0.out.three
    have HU3 : Hid (HoldsW w (.slice (if uc = 3 then some ⟨b, off, none⟩ else (some (⟨b, off, none⟩ : Addr)).map (·.add (3 * 2))) ((t0 :: t1 :: t2 :: r).length - 3) (uc - 3)) r) := HU0.out.drop 3 (by simp)
    have HTS0 : Hid (∀ t ∈ r, t.size ≤ 3000) := fun t ht => HT0.out t (by simp [ht])
    have hst : t0.size ≤ 3000 := HT0.out t0 (by simp)
    obtain ⟨m, hm⟩ : ∃ m, (t0 :: t1 :: t2 :: r).length = m := ⟨_, rfl⟩
    have hm3 : 3 ≤ m := by rw [← hm]; simp
    rw [hm] at hlc HU3 ⊢
    have HC : Hid (∀ w', Below B w w' → w'.cell? ⟨b, off, none⟩ = some (.string t0) ∧ w'.cell? ⟨b, off + 2, none⟩ = some (.string t1) ∧ w'.cell? ⟨b, off + 4, none⟩ = some (.string t2)) := fun w' hb => ⟨cell_later (by rw [HBE.out]; exact hb) hc0, cell_later (by rw [HBE.out]; exact hb) hc1, cell_later (by rw [HBE.out]; exact hb) hc2⟩
    have HNL : Hid (∀ w', Below B w w' → NodesL w' (.slice va L.length vc) L) := fun w' hb => HNL0.out.later (by rw [HBE.out]; exact hb)
    have HO2 : Hid ((if headB L t0 t1 t2 then (partsL L (restL (kindF t2)) [] 0 [] r).map fun p => (t0, kindF t2, p.1, p.2.1, p.2.2) else none) = o) := HO.out
    have HHD : Hid (headB L t0 t1 t2 = false → o = none) := fun hh => by have h := HO2.out; rw [hh] at h; exact h.symm
    have g1 : ¬ (m : Int) < 3 := by omega
    have g2 : (0 : Int) < m := by omega
    have g3 : (1 : Int) < m := by omega
    have g4 : (2 : Int) < m := by omega
    have g5 : (3 : Int) ≤ m := by omega
    obtain ⟨d0, d1, -⟩ := HC.out U HB.out
    have z0 : U.cell? ⟨B, 0, none⟩ = some (.string ⟨#[]⟩) := HZ.out.c 0
    have f0 : U.frozen? ⟨B, 0, none⟩ = false := HZ.out.f 0
    clear hm hc0 hc1 hc2 HU0 HO HT0
    by_cases h1 : t1 = ⟨#[61]⟩
    case neg =>
      have HV : Hid (o = none) := HHD.out (by simp [headB, h1])
      have q1 : (t1.toList == [61]) = false := by
        have := str_ne9 h1
        rw [Lib.toList_data (⟨#[61]⟩ : ByteArray)] at this
        exact this
      clear h1
      go_wp2
      go_step3
      exact ⟨rfl, ⟨HV.out, HB.out, _, _, _, _, _, HZ.out⟩, rfl, rfl, rfl⟩
    have q1 : (t1.toList == [61]) = true := by rw [h1, Lib.toList_data]; rfl
    have HT1 : Hid (t1 = ⟨#[61]⟩) := h1
    obtain ⟨V, hV⟩ : ∃ V, V = U.setCell ⟨B, 0, none⟩ (.string t0) := ⟨_, rfl⟩
    have HVV : Hid (V = U.setCell ⟨B, 0, none⟩ (.string t0)) := hV
    have HZ1 : Hid (BoxN V B #[.string t0, .int .i64 0, .slice none 0 0, .slice none 0 0, .int .i64 0]) := by show BoxN _ _ _; rw [hV]; exact HZ.out.set 0 (.string t0)
    have HB1 : Hid (Below B w V) := by show Below _ _ _; rw [hV]; exact HB.out.setCell (Nat.le_refl _) _
    have y0 : V.cell? ⟨B, 0, none⟩ = some (.string t0) := HZ1.out.c 0
    clear hV h1
    obtain ⟨q, hq⟩ : ∃ q, nameB t0 = q := ⟨_, rfl⟩
    have HQ : Hid (nameB t0 = q) := hq
    go_upto_region 4 with fail
    rw [← HVV.out]
    clear d0 d1 z0 f0 q1
    cases q with
    | false =>
      have HV : Hid (o = none) := HHD.out (by simp [headB, hq])
      clear hq
      go_wp2_with (go_at_call 54; refine (name_to t0 _ false HQ.out).mono ?_; rintro e w2 ⟨rfl, hb2⟩; have HZ2 : Hid (BoxN w2 B #[.string t0, .int .i64 0, .slice none 0 0, .slice none 0 0, .int .i64 0]) := HZ1.out.later hb2; have HB2 : Hid (Below B w w2) := HB1.out.trans (hb2.mono (Nat.le_of_lt HZ1.out.lt)); clear hb2)
      go_step3
      exact ⟨rfl, ⟨HV.out, HB2.out, _, _, _, _, _, HZ2.out⟩, rfl, rfl, rfl⟩
    | true =>
    obtain ⟨x0, hx⟩ : ∃ x, nmdN L t0 0 = x := ⟨_, rfl⟩
    have HX0 : Hid (nmdN L t0 0 = x0) := hx
    by_cases hx0 : 0 ≤ x0
    · have HV : Hid (o = none) := HHD.out (by simp [headB, hx, show ¬ x0 < 0 by omega])
      clear hq hx
      go_wp2_with (first
        | (go_at_call 54; refine (name_to t0 _ true HQ.out).mono ?_; rintro e w2 ⟨rfl, hb2⟩; have HZ2 : Hid (BoxN w2 B #[.string t0, .int .i64 0, .slice none 0 0, .slice none 0 0, .int .i64 0]) := HZ1.out.later hb2; have HB2 : Hid (Below B w w2) := HB1.out.trans (hb2.mono (Nat.le_of_lt HZ1.out.lt)); have y2 : w2.cell? ⟨B, 0, none⟩ = some (.string t0) := HZ2.out.c 0; clear hb2)
        | (go_at_call 76; refine (place_any (HNL.out _ HB2.out) t0 x0 HX0.out).mono ?_; rintro e w3 ⟨rfl, hb3⟩; have HZ3 : Hid (BoxN w3 B #[.string t0, .int .i64 0, .slice none 0 0, .slice none 0 0, .int .i64 0]) := HZ2.out.later hb3; have HB3 : Hid (Below B w w3) := HB2.out.trans (hb3.mono (Nat.le_of_lt HZ2.out.lt)); clear hb3))
      go_step3
      exact ⟨rfl, ⟨HV.out, HB3.out, _, _, _, _, _, HZ3.out⟩, rfl, rfl, rfl⟩
    obtain ⟨k, hk⟩ : ∃ k, kindF t2 = k := ⟨_, rfl⟩
    have HK : Hid (kindF t2 = k) := hk
    have hk15 : k ≤ 15 := by rw [← hk]; exact kindF_le t2
    have hx1 : x0 < 0 := by omega
    have hx2 : ¬ (0 : Int) ≤ x0 := hx0
    clear hx0
    go_upto_region 5 with (first
      | (go_at_call 54; refine (name_to t0 _ true HQ.out).mono ?_; rintro e w2 ⟨rfl, hb2⟩; have HZ2 : Hid (BoxN w2 B #[.string t0, .int .i64 0, .slice none 0 0, .slice none 0 0, .int .i64 0]) := HZ1.out.later hb2; have HB2 : Hid (Below B w w2) := HB1.out.trans (hb2.mono (Nat.le_of_lt HZ1.out.lt)); have y2 : w2.cell? ⟨B, 0, none⟩ = some (.string t0) := HZ2.out.c 0; clear hb2)
      | (go_at_call 76; refine (place_any (HNL.out _ HB2.out) t0 x0 HX0.out).mono ?_; rintro e w3 ⟨rfl, hb3⟩; have HZ3 : Hid (BoxN w3 B #[.string t0, .int .i64 0, .slice none 0 0, .slice none 0 0, .int .i64 0]) := HZ2.out.later hb3; have HB3 : Hid (Below B w w3) := HB2.out.trans (hb3.mono (Nat.le_of_lt HZ2.out.lt)); clear hb3))
    obtain ⟨d0, d1, d2⟩ := HC.out w3 HB3.out
    have z1 : w3.cell? ⟨B, 1, none⟩ = some (.int .i64 0) := HZ3.out.c 1
    have f1 : w3.frozen? ⟨B, 1, none⟩ = false := HZ3.out.f 1
    by_cases hk0 : k = 0
    · have HV : Hid (o = none) := HHD.out (by simp [headB, hk, hk0])
      subst hk0
      clear hq hx hk
      go_wp2_with (go_at_call 23; refine (tkind_to t2 _ 0 HK.out 3 rfl).mono ?_; rintro e w4 ⟨rfl, rfl⟩)
      go_step3
      exact ⟨rfl, ⟨HV.out, HB3.out.setCell (Nat.le_refl _) _, _, _, _, _, _, HZ3.out.set 1 (.int .i64 0)⟩, rfl, rfl, rfl⟩
    have HRES : Hid ((partsL L (restL k) [] 0 [] r).map (fun p => (t0, k, p.1, p.2.1, p.2.2)) = o) := by
      have h := HO2.out
      have hh : headB L t0 t1 t2 = true := by
        rw [headB, hq, hx, HT1.out, hk]
        simp [hx1, hk0]
      rw [hh, hk] at h
      exact h
    obtain ⟨X, hX⟩ : ∃ X, X = w3.setCell ⟨B, 1, none⟩ (.int .i64 (k : Int)) := ⟨_, rfl⟩
    have HXX : Hid (X = w3.setCell ⟨B, 1, none⟩ (.int .i64 (k : Int))) := hX
    have HZX : Hid (BoxN X B #[.string t0, .int .i64 k, .slice none 0 0, .slice none 0 0, .int .i64 0]) := by show BoxN _ _ _; rw [hX]; exact HZ3.out.set 1 (.int .i64 (k : Int))
    have HBX : Hid (Below B w X) := by show Below _ _ _; rw [hX]; exact HB3.out.setCell (Nat.le_refl _) _
    have y1 : X.cell? ⟨B, 1, none⟩ = some (.int .i64 (k : Int)) := HZX.out.c 1
    have HKI : Hid (∀ w, Calls Tryz.prog 23 #[.string t2] w fun e w' => e = .returned (.tuple #[.int .i64 k, .int .i64 0]) ∧ w = w') := fun w => by
      exact tkind_to t2 w k HK.out 0 (if_neg hk0)
    obtain ⟨RB, hRB⟩ : ∃ RB, restB k = RB := ⟨_, rfl⟩
    have HRB : Hid (restB k = RB) := hRB
    have HSP : Hid (∀ w, Calls Tryz.prog 46 #[.int .i64 (k : Int)] w fun e w' => e = .returned (.tuple #[.string (nameI k), .string RB]) ∧ w = w') := fun w => by
      have h := spelled_to (k : Int) w
      rw [restI_eq _ (by omega) (by omega), Int.toNat_natCast, hRB] at h
      exact h
    obtain ⟨p, hp⟩ : ∃ p, partsL L (restL k) [] 0 [] r = p := ⟨_, rfl⟩
    obtain ⟨PE, hPE⟩ : ∃ E : Int, (if p.isSome then 0 else 5) = E := ⟨_, rfl⟩
    have HPE : Hid ((if p.isSome then 0 else 5) = PE) := hPE
    rw [hp] at HRES
    have HP : Hid (partsL L (restL k) [] 0 [] r = p) := hp
    clear hX hk0 hq hx hk hRB hp hPE d0 d1
    go_upto_region 7 with (go_at_call 23; refine (HKI.out _).mono ?_; rintro e w4 ⟨rfl, rfl⟩)
    rw [← HXX.out]
    have HPA : Hid (∀ x, HoldsW w x r → Calls Tryz.prog 77 #[.pointer (some ⟨B, 0, none⟩), x, .string RB, .slice va L.length vc] X fun e w' => e = .returned (.int .i64 PE) ∧ PartsP B w t0 k p w') := fun x hx => by
      have h := parts_any (w0 := w) (w := X) (by rw [HBE.out]; exact HBX.out) t0 k (by rw [HBE.out]; exact HZX.out) hx HNL0.out HTS0.out k hk15 p HP.out PE HPE.out
      rw [HBE.out, HRB.out] at h
      exact h
    clear z1 f1 d2
    by_cases hc1 : uc = 3
    · subst hc1
      have HU4 : Hid (HoldsW w (.slice (some ⟨b, off, none⟩) 0 0) r) := by have h := HU3.out; rw [if_pos rfl, show m - 3 = 0 by omega] at h; exact h
      cases p with
      | none =>
        obtain rfl : 5 = PE := HPE.out
        have HV : Hid (o = none) := HRES.out.symm
        go_wp2_with (first
        | (go_at_call 46; refine (HSP.out _).mono ?_; rintro e w5 ⟨rfl, rfl⟩)
        | (go_at_call 77; refine (HPA.out _ HU4.out).mono ?_; rintro e w6 ⟨rfl, x6, y6, n6, hbx, ⟨xa, xn, xc, rfl⟩, ⟨ya, yn, yc, rfl⟩, hb6, hok⟩; have HZ6 : Hid (BoxN w6 B #[.string t0, .int .i64 k, .slice xa xn xc, .slice ya yn yc, .int .i64 n6]) := hbx; have HB6 : Hid (Below B w w6) := hb6; clear hbx hb6 hok))
        go_step3
        exact ⟨rfl, ⟨HV.out, HB6.out, _, _, _, _, _, HZ6.out⟩, rfl, rfl, rfl⟩
      | some q =>
        obtain ⟨A, n, d⟩ := q
        obtain rfl : 0 = PE := HPE.out
        have HV : Hid (o = some (t0, k, A, n, d)) := HRES.out.symm
        go_upto_region 9 with (first
        | (go_at_call 46; refine (HSP.out _).mono ?_; rintro e w5 ⟨rfl, rfl⟩)
        | (go_at_call 77; refine (HPA.out _ HU4.out).mono ?_; rintro e w6 ⟨rfl, x6, y6, n6, hbx, ⟨xa, xn, xc, rfl⟩, ⟨ya, yn, yc, rfl⟩, hb6, hok⟩; have HZ6 : Hid (BoxN w6 B #[.string t0, .int .i64 k, .slice xa xn xc, .slice ya yn yc, .int .i64 n6]) := hbx; have HB6 : Hid (Below B w w6) := hb6; obtain ⟨en, ho1, ho2⟩ := hok _ _ _ rfl; clear hbx hb6 hok))
        subst en
        have HOX : Hid (Own w6 (B + 1) (.slice xa xn xc) A) := ho1
        have HOY : Hid (Own w6 (B + 1) (.slice ya yn yc) d) := ho2
        have k0 : w6.cell? ⟨B, 0, none⟩ = some (.string t0) := HZ6.out.c 0
        have k1 : w6.cell? ⟨B, 1, none⟩ = some (.int .i64 k) := HZ6.out.c 1
        have k2 : w6.cell? ⟨B, 2, none⟩ = some (.slice xa xn xc) := HZ6.out.c 2
        have k3 : w6.cell? ⟨B, 3, none⟩ = some (.slice ya yn yc) := HZ6.out.c 3
        have k4 : w6.cell? ⟨B, 4, none⟩ = some (.int .i64 n6) := HZ6.out.c 4
        have f0 := HZ6.out.f 0
        have f1 := HZ6.out.f 1
        have f2 := HZ6.out.f 2
        have f3 := HZ6.out.f 3
        have f4 := HZ6.out.f 4
        clear ho1 ho2 y0 y1 y2
        go_wp2
        rw [jump_ret]
        have BR : Hid (BoxN _ B #[.string t0, .int .i64 k, .slice xa xn xc, .slice ya yn yc, .int .i64 n6]) := (((((HZ6.out).set 0 (.string t0)).set 1 (.int .i64 k)).set 2 (.slice xa xn xc)).set 3 (.slice ya yn yc)).set 4 (.int .i64 n6)
        have r0 := (BR.out.c 0).trans (show _ = some (.string t0) from rfl)
        have r1 := (BR.out.c 1).trans (show _ = some (.int .i64 k) from rfl)
        have r2 := (BR.out.c 2).trans (show _ = some (.slice xa xn xc) from rfl)
        have r3 := (BR.out.c 3).trans (show _ = some (.slice ya yn yc) from rfl)
        have r4 := (BR.out.c 4).trans (show _ = some (.int .i64 n6) from rfl)
        have ho := HV.out
        subst ho
        refine bodyPost_ret (v := .tuple #[.agg #[.string t0, .int .i64 k, .slice xa xn xc, .slice ya yn yc, .int .i64 n6], .int .i64 0]) (by simp [results, Tryz.results51, go_sem, r0, r1, r2, r3, r4]) rfl ⟨_, _, _, _, _, rfl, ⟨_, _, _, rfl⟩, ⟨_, _, _, rfl⟩, (fun t0' k' A' m' D' h => ?_), ?_⟩
        · simp only [Option.some.injEq, Prod.mk.injEq] at h
          obtain ⟨rfl, rfl, rfl, rfl, rfl⟩ := h
          rw [HBE.out]
          exact ⟨rfl, rfl, rfl, ((((((HOX.out.below ⟨B, 0, none⟩ _ (by show B < _; omega)).below ⟨B, 1, none⟩ _ (by show B < _; omega)).below ⟨B, 2, none⟩ _ (by show B < _; omega)).below ⟨B, 3, none⟩ _ (by show B < _; omega)).below ⟨B, 4, none⟩ _ (by show B < _; omega))).mono (by omega), ((((((HOY.out.below ⟨B, 0, none⟩ _ (by show B < _; omega)).below ⟨B, 1, none⟩ _ (by show B < _; omega)).below ⟨B, 2, none⟩ _ (by show B < _; omega)).below ⟨B, 3, none⟩ _ (by show B < _; omega)).below ⟨B, 4, none⟩ _ (by show B < _; omega))).mono (by omega)⟩
        · rw [HBE.out]
          exact (((((HB6.out.setCell (Nat.le_refl _) _).setCell (Nat.le_refl _) _).setCell (Nat.le_refl _) _).setCell (Nat.le_refl _) _).setCell (Nat.le_refl _) _)
    · have hc2 : ¬ 3 = uc := fun e => hc1 e.symm
      have HU4 : Hid (HoldsW w (.slice (some ⟨b, off + 6, none⟩) (m - 3) (uc - 3)) r) := by have h := HU3.out; rw [if_neg hc1] at h; show HoldsW _ _ _; simpa [Addr.add] using h
      cases p with
      | none =>
        obtain rfl : 5 = PE := HPE.out
        have HV : Hid (o = none) := HRES.out.symm
        go_wp2_with (first
        | (go_at_call 46; refine (HSP.out _).mono ?_; rintro e w5 ⟨rfl, rfl⟩)
        | (go_at_call 77; refine (HPA.out _ HU4.out).mono ?_; rintro e w6 ⟨rfl, x6, y6, n6, hbx, ⟨xa, xn, xc, rfl⟩, ⟨ya, yn, yc, rfl⟩, hb6, hok⟩; have HZ6 : Hid (BoxN w6 B #[.string t0, .int .i64 k, .slice xa xn xc, .slice ya yn yc, .int .i64 n6]) := hbx; have HB6 : Hid (Below B w w6) := hb6; clear hbx hb6 hok))
        go_step3
        exact ⟨rfl, ⟨HV.out, HB6.out, _, _, _, _, _, HZ6.out⟩, rfl, rfl, rfl⟩
      | some q =>
        obtain ⟨A, n, d⟩ := q
        obtain rfl : 0 = PE := HPE.out
        have HV : Hid (o = some (t0, k, A, n, d)) := HRES.out.symm
        go_upto_region 9 with (first
        | (go_at_call 46; refine (HSP.out _).mono ?_; rintro e w5 ⟨rfl, rfl⟩)
        | (go_at_call 77; refine (HPA.out _ HU4.out).mono ?_; rintro e w6 ⟨rfl, x6, y6, n6, hbx, ⟨xa, xn, xc, rfl⟩, ⟨ya, yn, yc, rfl⟩, hb6, hok⟩; have HZ6 : Hid (BoxN w6 B #[.string t0, .int .i64 k, .slice xa xn xc, .slice ya yn yc, .int .i64 n6]) := hbx; have HB6 : Hid (Below B w w6) := hb6; obtain ⟨en, ho1, ho2⟩ := hok _ _ _ rfl; clear hbx hb6 hok))
        subst en
        have HOX : Hid (Own w6 (B + 1) (.slice xa xn xc) A) := ho1
        have HOY : Hid (Own w6 (B + 1) (.slice ya yn yc) d) := ho2
        have k0 : w6.cell? ⟨B, 0, none⟩ = some (.string t0) := HZ6.out.c 0
        have k1 : w6.cell? ⟨B, 1, none⟩ = some (.int .i64 k) := HZ6.out.c 1
        have k2 : w6.cell? ⟨B, 2, none⟩ = some (.slice xa xn xc) := HZ6.out.c 2
        have k3 : w6.cell? ⟨B, 3, none⟩ = some (.slice ya yn yc) := HZ6.out.c 3
        have k4 : w6.cell? ⟨B, 4, none⟩ = some (.int .i64 n6) := HZ6.out.c 4
        have f0 := HZ6.out.f 0
        have f1 := HZ6.out.f 1
        have f2 := HZ6.out.f 2
        have f3 := HZ6.out.f 3
        have f4 := HZ6.out.f 4
        clear ho1 ho2 y0 y1 y2
        go_wp2
        rw [jump_ret]
        have BR : Hid (BoxN _ B #[.string t0, .int .i64 k, .slice xa xn xc, .slice ya yn yc, .int .i64 n6]) := (((((HZ6.out).set 0 (.string t0)).set 1 (.int .i64 k)).set 2 (.slice xa xn xc)).set 3 (.slice ya yn yc)).set 4 (.int .i64 n6)
        have r0 := (BR.out.c 0).trans (show _ = some (.string t0) from rfl)
        have r1 := (BR.out.c 1).trans (show _ = some (.int .i64 k) from rfl)
        have r2 := (BR.out.c 2).trans (show _ = some (.slice xa xn xc) from rfl)
        have r3 := (BR.out.c 3).trans (show _ = some (.slice ya yn yc) from rfl)
        have r4 := (BR.out.c 4).trans (show _ = some (.int .i64 n6) from rfl)
        have ho := HV.out
        subst ho
        refine bodyPost_ret (v := .tuple #[.agg #[.string t0, .int .i64 k, .slice xa xn xc, .slice ya yn yc, .int .i64 n6], .int .i64 0]) (by simp [results, Tryz.results51, go_sem, r0, r1, r2, r3, r4]) rfl ⟨_, _, _, _, _, rfl, ⟨_, _, _, rfl⟩, ⟨_, _, _, rfl⟩, (fun t0' k' A' m' D' h => ?_), ?_⟩
        · simp only [Option.some.injEq, Prod.mk.injEq] at h
          obtain ⟨rfl, rfl, rfl, rfl, rfl⟩ := h
          rw [HBE.out]
          exact ⟨rfl, rfl, rfl, ((((((HOX.out.below ⟨B, 0, none⟩ _ (by show B < _; omega)).below ⟨B, 1, none⟩ _ (by show B < _; omega)).below ⟨B, 2, none⟩ _ (by show B < _; omega)).below ⟨B, 3, none⟩ _ (by show B < _; omega)).below ⟨B, 4, none⟩ _ (by show B < _; omega))).mono (by omega), ((((((HOY.out.below ⟨B, 0, none⟩ _ (by show B < _; omega)).below ⟨B, 1, none⟩ _ (by show B < _; omega)).below ⟨B, 2, none⟩ _ (by show B < _; omega)).below ⟨B, 3, none⟩ _ (by show B < _; omega)).below ⟨B, 4, none⟩ _ (by show B < _; omega))).mono (by omega)⟩
        · rw [HBE.out]
          exact (((((HB6.out.setCell (Nat.le_refl _) _).setCell (Nat.le_refl _) _).setCell (Nat.le_refl _) _).setCell (Nat.le_refl _) _).setCell (Nat.le_refl _) _)
  · rintro a w' ⟨⟨hv, hbj, c0, c1, c2, c3, c4, hbx⟩, hd, hs, h4⟩
    have HBB : Hid (Below B w w') := hbj
    have HZZ : Hid (BoxN w' B #[c0, c1, c2, c3, c4]) := hbx
    have k0 : w'.cell? ⟨B, 0, none⟩ = some c0 := hbx.c 0
    have k1 : w'.cell? ⟨B, 1, none⟩ = some c1 := hbx.c 1
    have k2 : w'.cell? ⟨B, 2, none⟩ = some c2 := hbx.c 2
    have k3 : w'.cell? ⟨B, 3, none⟩ = some c3 := hbx.c 3
    have k4 : w'.cell? ⟨B, 4, none⟩ = some c4 := hbx.c 4
    have f0 := hbx.f 0
    have f1 := hbx.f 1
    have f2 := hbx.f 2
    have f3 := hbx.f 3
    have f4 := hbx.f 4
    obtain ⟨g, hg, rfl⟩ := act58 a hd hs
    have g4 : g 4 = .pointer (some ⟨B, 0, none⟩) := by rw [← hg 4]; exact h4
    rw [g4]
    subst hv
    clear hbj hbx hd hs h4 hg g4 HO
    go_wp2
    rw [jump_ret]
    have BR : Hid (BoxN _ B #[.string ⟨#[]⟩, .int .i64 0, .slice none 0 0, .slice none 0 0, .int .i64 0]) := (((((HZZ.out).set 0 (.string ⟨#[]⟩)).set 1 (.int .i64 0)).set 2 (.slice none 0 0)).set 3 (.slice none 0 0)).set 4 (.int .i64 0)
    have r0 := (BR.out.c 0).trans (show _ = some (.string ⟨#[]⟩) from rfl)
    have r1 := (BR.out.c 1).trans (show _ = some (.int .i64 0) from rfl)
    have r2 := (BR.out.c 2).trans (show _ = some (.slice none 0 0) from rfl)
    have r3 := (BR.out.c 3).trans (show _ = some (.slice none 0 0) from rfl)
    have r4 := (BR.out.c 4).trans (show _ = some (.int .i64 0) from rfl)
    refine bodyPost_ret (v := .tuple #[.agg #[.string ⟨#[]⟩, .int .i64 0, .slice none 0 0, .slice none 0 0, .int .i64 0], .int .i64 5]) (by simp [results, Tryz.results51, go_sem, r0, r1, r2, r3, r4]) rfl ⟨_, _, _, _, _, rfl, ⟨_, _, _, rfl⟩, ⟨_, _, _, rfl⟩, (fun _ _ _ _ _ h => by cases h), ?_⟩
    rw [HBE.out]
    exact (((((HBB.out.setCell (Nat.le_refl _) _).setCell (Nat.le_refl _) _).setCell (Nat.le_refl _) _).setCell (Nat.le_refl _) _).setCell (Nat.le_refl _) _)
end Go.Proofs.YtkojdigaoihkpaaGreatDoor

end
section
namespace Go.Proofs.YtkojdigaoihkpaaGreatDoor
set_option linter.unusedVariables false
set_option linter.unusedSimpArgs false
set_option maxRecDepth 100000
open Go.RowKit

/-- What the page's line tells. -/
structure LineC (TB : World → Prop) : Prop where
  line : ∀ {v u : Value} {L : List Nod} {T : List Tok} {w : World} (h : NodesL w v L) (hs : Small L) (hu : HoldsC w u T.length (cellsT T)) (hT : TB w) (hl : T.length ≤ 10000) (hts : ∀ t ∈ T, t.1.size ≤ 3000) (hL : L.length ≤ 24) (E : Int) (N : Nod) (hE : lineF L (T.map Prod.fst) = (E, N)),
    Calls Tryz.prog 31 #[v, u] w fun e w' => ∃ s k x y n, e = .returned (.tuple #[.agg #[.string s, .int .i64 k, x, y, .int .i64 n], .int .i64 E]) ∧ (∃ a1 n1 c1, x = .slice a1 n1 c1) ∧ (∃ a1 n1 c1, y = .slice a1 n1 c1) ∧
      (E = 0 → s = N.name ∧ k = N.kind ∧ n = N.n ∧ Own w' w.heap.size x N.args ∧ Own w' w.heap.size y N.dims) ∧ Below w.heap.size w w'
theorem argsF_len {L : List Nod} : ∀ {k : Nat} {T : List ByteArray} {A : List Int} {r : List ByteArray}, argsF L k T = some (A, r) → A.length = k
  | 0, T, A, r, h => by simp only [argsF, Option.some.injEq, Prod.mk.injEq] at h; rw [← h.1]; rfl
  | k + 1, [], A, r, h => by simp [argsF] at h
  | k + 1, t :: T, A, r, h => by
    rw [argsF] at h
    split at h
    · cases hp : argsF L k T with
      | none => rw [hp] at h; simp at h
      | some p =>
        rw [hp] at h
        simp only [Option.map_some, Option.some.injEq, Prod.mk.injEq] at h
        rw [← h.1, List.length_cons, argsF_len (r := p.2) (by rw [hp])]
    · simp at h
theorem inR_okd {k n : Int} {d : List Int} {L : List Nod} {A : List Int} (h : inE k n d L A = 0) : okd (inR k n d L A) = true := by
  cases ha : argsB A L.length with
  | false => rw [(inE_no ha).1] at h; simp at h
  | true =>
    obtain ⟨e1, e2⟩ := inE_yes (k := k) (n := n) (d := d) ha
    rw [e1] at h
    rw [e2]
    by_cases hm : may k n d (dimsAt L A) = true
    · obtain ⟨d1, d2⟩ := di_yes hm
      rw [d1] at h
      cases hi : inf k.toNat n d ((dimsAt L A).getD 0 []) ((dimsAt L A).getD 1 []) with
      | false => rw [hi] at h; simp at h
      | true =>
        rw [d2, hi, if_pos rfl]
        exact okd_inD hm hi
    · rw [(di_no hm).1] at h; simp at h
/-- What a line that is a node makes. -/
theorem lineF_ok {L : List Nod} {T : List ByteArray} {N : Nod} (h : lineF L T = (0, N)) : L.length < 24 ∧ N.args.length ≤ 2 ∧ N.dims.length ≤ 3 ∧ N.name ∈ T := by
  match T, h with
  | [], h => simp [lineF] at h
  | [_], h => simp [lineF] at h
  | [_, _], h => simp [lineF] at h
  | t0 :: t1 :: t2 :: r, h =>
    rw [lineF] at h
    split at h
    · cases h1 : argsF L (many (kindF t2)) r with
      | none => rw [h1] at h; simp at h
      | some p =>
        obtain ⟨A, r1⟩ := p
        rw [h1] at h
        simp only at h
        cases h2 : numbF (kindF t2) r1 with
        | none => rw [h2] at h; simp at h
        | some q =>
          obtain ⟨n, r2⟩ := q
          rw [h2] at h
          simp only at h
          cases h3 : dimsF (kindF t2) r2 with
          | none => rw [h3] at h; simp at h
          | some u =>
            obtain ⟨d, r3⟩ := u
            rw [h3] at h
            simp only at h
            split at h
            · split at h
              · simp at h
              · rename_i h24
                simp only [Prod.mk.injEq] at h
                obtain ⟨hE, rfl⟩ := h
                have ho := okd_parts (inR_okd hE)
                exact ⟨by omega, by rw [argsF_len h1]; exact many_le _, ho.2.1, by simp⟩
            · simp at h
    · simp at h
theorem small_snoc {L : List Nod} {N : Nod} (h : Small L) (hl : L.length ≤ 24) (ha : N.args.length ≤ 2) (hd : N.dims.length ≤ 3) (hn : N.name.size ≤ 3000) : Small (L ++ [N]) := by
  refine ⟨by rw [List.length_append]; simp; omega, fun i hi => ?_, fun i hi => ?_, fun i hi => ?_⟩ <;>
  · rw [List.length_append] at hi
    by_cases hlt : i < L.length
    · rw [List.getElem_append_left hlt]
      first | exact h.a i hlt | exact h.d i hlt | exact h.s i hlt
    · rw [List.getElem_append_right (by omega)]
      have : i - L.length = 0 := by simp at hi; omega
      simp only [this, List.getElem_cons_zero]
      omega
theorem toks_small {x : ByteArray} (hb : badW x = none) (hx : x.size ≤ 3000) : ∀ t ∈ toksW x, t.1.size ≤ 3000 := fun t ht => by
  have := (fine_toks hb t ht).1
  omega
theorem toks_len {x : ByteArray} (hx : x.size ≤ 3000) : (toksW x).length ≤ 10000 := by
  have := tokSt_len x (x.size + 1)
  rw [toksW]
  omega
theorem lines_each (s : ByteArray) (hs : s.size ≤ 3000) : ∀ x ∈ linesL s, x.size ≤ 3000 := by
  have key : ∀ k, ∀ x ∈ (linSt s k).2, x.size ≤ 3000 := by
    intro k
    induction k with
    | zero => intro x hx; simp [linSt] at hx
    | succ k ih =>
      intro x hx
      rw [linSt, linStep] at hx
      split at hx
      · exact ih x hx
      · split at hx
        · exact ih x hx
        · rcases List.mem_append.1 hx with hx | hx
          · exact ih x hx
          · simp only [List.mem_cons, List.not_mem_nil, or_false] at hx
            rw [hx, cutH_size]
            have h1 := cutN_le (s.extract (linSt s k).1 k)
            have h2 : (s.extract (linSt s k).1 k).size ≤ s.size := by simp; omega
            omega
  exact key _
/-- A list that a text's lines have made. -/
structure GoodL (L : List Nod) : Prop where
  len : L.length ≤ 24
  nodes : nodesB L = true
  names : ∀ i (h : i < L.length), nameB L[i].name = true
theorem GoodL.nil : GoodL [] := ⟨by decide, by decide, fun i h => by simp at h⟩
theorem GoodL.name {L : List Nod} (h : GoodL L) (t : ByteArray) (h0 : 0 ≤ nmdN L t 0) : nameB t = true := by
  by_cases he : ∃ i, ∃ (hi : i < L.length), L[i].name = t
  · obtain ⟨i, hi, rfl⟩ := he
    exact h.names i hi
  · rw [nmd_none L t 0 (fun i hi e => he ⟨i, hi, e⟩)] at h0
    omega
theorem nodesN_left (L : List Nod) (N : Nod) : ∀ k, k ≤ L.length → nodesN (L ++ [N]) k = nodesN L k
  | 0, _ => rfl
  | k + 1, hk => by
    have hlt : k < L.length := by omega
    rw [nodesN, nodesN, nodesN_left L N k (by omega), List.getElem?_append_left hlt, List.getElem?_eq_getElem hlt]
    simp only
    rw [nodeB_in (L := L ++ [N]) (i := k) (by simp; omega), nodeB_in (L := L) (i := k) (by omega), List.take_append_of_le_length (by omega)]
theorem inR_asked {k : Nat} {n : Int} {d : List Int} {L : List Nod} {A : List Int} (h : inE k n d L A = 0) : (if askI k then inR k n d L A else []) = d := by
  cases ha : argsB A L.length with
  | false => rw [(inE_no ha).1] at h; simp at h
  | true =>
    obtain ⟨e1, e2⟩ := inE_yes (k := (k : Int)) (n := n) (d := d) ha
    rw [e1] at h
    rw [e2]
    by_cases hm : may (k : Int) n d (dimsAt L A) = true
    · obtain ⟨d1, d2⟩ := di_yes hm
      rw [d1] at h
      cases hi : inf (k : Int).toNat n d ((dimsAt L A).getD 0 []) ((dimsAt L A).getD 1 []) with
      | false => rw [hi] at h; simp at h
      | true =>
        rw [d2, hi, if_pos rfl]
        have hf : frm (k : Int) n d (dimsAt L A).length = true := by
          have h := hm
          rw [may, Bool.and_eq_true] at h
          exact h.1
        obtain ⟨hk, _, hdk, _⟩ := frm_partsM hf
        rw [Int.toNat_natCast] at hdk ⊢
        have hc : (k = 1 ∨ k = 2 ∨ k = 3 ∨ k = 11 ∨ k = 12 ∨ k = 13) ∨ (k = 4 ∨ k = 5 ∨ k = 6 ∨ k = 7 ∨ k = 8 ∨ k = 9 ∨ k = 10 ∨ k = 14 ∨ k = 15 ∨ k = 16 ∨ k = 17) := by omega
        rcases hc with hc | hc
        · rcases hc with rfl | rfl | rfl | rfl | rfl | rfl <;> rfl
        · have hd : d = [] := by
            rcases hc with rfl | rfl | rfl | rfl | rfl | rfl | rfl | rfl | rfl | rfl | rfl <;>
            (simp only [dok] at hdk; split at hdk; (rename_i h9; exact absurd h9 (by decide)); simpa using hdk)
          subst hd
          rcases hc with rfl | rfl | rfl | rfl | rfl | rfl | rfl | rfl | rfl | rfl | rfl <;> rfl
    · rw [(di_no hm).1] at h; simp at h
theorem GoodL.snoc {L : List Nod} {N : Nod} (h : GoodL L) (hl : L.length < 24) (hn : nameB N.name = true) (k : Nat) (hk : N.kind = k) (d : List Int) (hE : inE k N.n d L N.args = 0) (hD : N.dims = inR k N.n d L N.args) : GoodL (L ++ [N]) := by
  have ha : askD N = d := by
    rw [askD, hk, hD]
    exact inR_asked hE
  refine ⟨by simp; omega, ?_, fun i hi => ?_⟩
  · have h1 := h.nodes
    rw [nodesB, Bool.and_eq_true] at h1 ⊢
    refine ⟨by simp; omega, ?_⟩
    rw [List.length_append, List.length_cons, List.length_nil, nodesN, nodesN_left L N _ (Nat.le_refl _), h1.2, List.getElem?_append_right (Nat.le_refl _)]
    simp only [Nat.sub_self, List.getElem?_cons_zero, Bool.true_and]
    rw [nodeB_in (by simp), ha, hk, List.take_append_of_le_length (Nat.le_refl _), List.take_length, hE, hD]
    simp
  · rw [List.length_append] at hi
    by_cases hlt : i < L.length
    · rw [List.getElem_append_left hlt]
      exact h.names i hlt
    · have e : i = L.length := by simp at hi; omega
      subst e
      rw [List.getElem_append_right (Nat.le_refl _)]
      simpa using hn
end Go.Proofs.YtkojdigaoihkpaaGreatDoor

end
section
namespace Go.Proofs.YtkojdigaoihkpaaGreatDoor
set_option linter.unusedVariables false
set_option linter.unusedSimpArgs false
set_option maxRecDepth 100000
open Go.RowKit

/-- A line's error. -/
noncomputable def moreE (L : List Nod) (x : ByteArray) : Int := if (badW x).isSome then 5 else if toksW x = [] then 0 else (lineF L ((toksW x).map Prod.fst)).1
/-- The list behind a line. -/
noncomputable def moreL (L : List Nod) (x : ByteArray) : List Nod := if toksW x = [] then L else L ++ [(lineF L ((toksW x).map Prod.fst)).2]
noncomputable def nodE (L : List Nod) (o : Option (ByteArray × Nat × List Int × Int × List Int)) : Int × Nod := match o with
  | none => (5, nod0)
  | some (t0, k, A, n, d) => if 24 ≤ L.length then (2, nod0) else (inE k n d L A, ⟨t0, k, A, inR k n d L A, n⟩)
theorem lineF_node (L : List Nod) (hL : GoodL L) (T : List ByteArray) : lineF L T = nodE L (nodeF L T) := by
  match T with
  | [] => rfl
  | [_] => rfl
  | [_, _] => rfl
  | t0 :: t1 :: t2 :: r =>
    rw [lineF_parts L (fun t h => hL.name t h) t0 t1 t2 r (kindF_le t2), nodeF]
    split
    · cases partsL L (restL (kindF t2)) [] 0 [] r with
      | none => rfl
      | some p => rfl
    · rfl
theorem nodeF_some {L : List Nod} {T : List ByteArray} {t0 : ByteArray} {k : Nat} {A : List Int} {n : Int} {d : List Int} (h : nodeF L T = some (t0, k, A, n, d)) : nameB t0 = true ∧ t0 ∈ T := by
  match T, h with
  | [], h => simp [nodeF] at h
  | [_], h => simp [nodeF] at h
  | [_, _], h => simp [nodeF] at h
  | a0 :: a1 :: a2 :: r, h =>
    rw [nodeF] at h
    split at h
    · rename_i hh
      simp only [headB, Bool.and_eq_true] at hh
      cases hp : partsL L (restL (kindF a2)) [] 0 [] r with
      | none => rw [hp] at h; simp at h
      | some p =>
        rw [hp] at h
        simp only [Option.map_some, Option.some.injEq, Prod.mk.injEq] at h
        rw [← h.1]
        exact ⟨hh.1.1.1, by simp⟩
    · simp at h
theorem partsL_args {L : List Nod} : ∀ (R : List Nat) (A : List Int) (n : Int) (D : List Int) (T : List ByteArray) (A' : List Int) (m : Int) (D' : List Int), partsL L R A n D T = some (A', m, D') → A'.length ≤ A.length + R.length
  | [], A, n, D, T, A', m, D', h => by
    rw [partsL] at h
    split at h
    · simp only [Option.some.injEq, Prod.mk.injEq] at h
      rw [← h.1]; simp
    · simp at h
  | c :: R, A, n, D, [], A', m, D', h => by simp [partsL] at h
  | c :: R, A, n, D, t :: T, A', m, D', h => by
    rw [partsL] at h
    split at h
    · split at h
      · simp at h
      · have := partsL_args R _ _ _ _ _ _ _ h
        simp only [List.length_append, List.length_cons, List.length_nil] at this ⊢
        omega
    · split at h
      · split at h
        · have := partsL_args R _ _ _ _ _ _ _ h
          simp only [List.length_cons] at this ⊢
          omega
        · simp at h
      · split at h
        · split at h
          · simp at h
          · have := partsL_args R _ _ _ _ _ _ _ h
            simp only [List.length_cons] at this ⊢
            omega
        · have := partsL_args R _ _ _ _ _ _ _ h
          simp only [List.length_cons] at this ⊢
          omega
theorem nodeF_args {L : List Nod} {T : List ByteArray} {t0 : ByteArray} {k : Nat} {A : List Int} {n : Int} {d : List Int} (h : nodeF L T = some (t0, k, A, n, d)) : A.length ≤ 2 := by
  match T, h with
  | [], h => simp [nodeF] at h
  | [_], h => simp [nodeF] at h
  | [_, _], h => simp [nodeF] at h
  | a0 :: a1 :: a2 :: r, h =>
    rw [nodeF] at h
    split at h
    · cases hp : partsL L (restL (kindF a2)) [] 0 [] r with
      | none => rw [hp] at h; simp at h
      | some p =>
        obtain ⟨A1, m1, D1⟩ := p
        have h9 := partsL_args _ _ _ _ _ _ _ _ hp
        have h8 := restL_len (kindF a2) (kindF_le a2)
        rw [hp] at h
        simp only [Option.map_some, Option.some.injEq, Prod.mk.injEq] at h
        rw [← h.2.2.1]
        simp only [List.length_nil] at h9
        omega
    · simp at h
/-- What a line more leaves. -/
def MoreP (B : Nat) (w : World) (E : Int) (L' : List Nod) (e : Ending) (w' : World) : Prop :=
  ∃ a n c, e = .returned (.tuple #[.slice a n c, .int .i64 E]) ∧ (E = 0 → ∃ xs, RowN w' B (.slice a n c) L' xs) ∧ Below B w w'
set_option maxHeartbeats 32000000 in
theorem more_any {w : World} {B : Nat} {v : Value} {L : List Nod} {xs : List Value} (hR : RowN w B v L xs) (hB : B ≤ w.heap.size) (hS : Small L) (hG : GoodL L) (s : ByteArray) (hs : s.size ≤ 3000) (E : Int) (hE : moreE L s = E) (L' : List Nod) (hL' : E = 0 → moreL L s = L') :
    Calls Tryz.prog 27 #[v, .string s] w (MoreP B w E L') := by
  have HR : Hid (RowN w B v L xs) := hR
  have HS : Hid (Small L) := hS
  have HG : Hid (GoodL L) := hG
  have HB0 : Hid (B ≤ w.heap.size) := hB
  have hlen := hG.len
  obtain ⟨va, vc, e1⟩ : ∃ a c, v = .slice a L.length c := by obtain ⟨a, c, e, _⟩ := (hR.nodesL (by unfold big; omega)).shape; exact ⟨a, c, e⟩
  subst e1
  have HNL : Hid (NodesL w (.slice va L.length vc) L) := hR.nodesL (by unfold big; omega)
  have HE : Hid (moreE L s = E) := hE
  have HL' : Hid (E = 0 → moreL L s = L') := hL'
  clear hR hS hG hE hL' hB
  cases hb : badW s with
  | some q =>
    have HV : Hid (E = 5) := by have h := HE.out; rw [moreE, hb] at h; exact h.symm
    have HW : Hid (∀ w, Calls Tryz.prog 50 #[.string s] w fun e w' => (∃ v, e = .returned (.tuple #[v, .int .i64 q, .int .i64 5]) ∧ HoldsC w' v 0 []) ∧ Below w.heap.size w w') := fun w => by
      have h := words_to s w (by omega) (some q) hb
      exact h
    clear hb
    go_enter Tryz.func27, Tryz.ntmps27
    go_wp2_with (go_at_call 50; refine (HW.out _).mono ?_; rintro e w2 ⟨⟨v2, rfl, hh⟩, hb2⟩; obtain ⟨a2, c2, rfl, _⟩ := hh; have HB2 : Hid (Below B w w2) := hb2.mono HB0.out; clear hb2)
    go_ret2
    exact ⟨_, _, _, (by first | (rw [HV.out]; done) | (rw [HV.out]; rfl)), fun h => by rw [HV.out] at h; simp at h, HB2.out⟩
  | none =>
    have HW : Hid (∀ w, Calls Tryz.prog 50 #[.string s] w fun e w' => (∃ v, e = .returned (.tuple #[v, .int .i64 0, .int .i64 0]) ∧ HoldsC w' v (toksW s).length (cellsT (toksW s))) ∧ Below w.heap.size w w') := fun w => by
      have h := words_to s w (by omega) none hb
      exact h
    have HTS : Hid (∀ t ∈ (toksW s).map Prod.fst, t.size ≤ 3000) := fun t ht => by
      obtain ⟨p, hp, rfl⟩ := List.mem_map.1 ht
      exact toks_small hb hs p hp
    have HE2 : Hid ((if toksW s = [] then 0 else (lineF L ((toksW s).map Prod.fst)).1) = E) := by have h := HE.out; rw [moreE, hb] at h; exact h
    have HL2 : Hid (E = 0 → (if toksW s = [] then L else L ++ [(lineF L ((toksW s).map Prod.fst)).2]) = L') := HL'.out
    have hTl := toks_len hs
    generalize toksW s = T at HW HTS HE2 HL2 hTl
    clear hb HE HL'
    by_cases hT0 : T = []
    · subst hT0
      have HV : Hid (E = 0 ∧ L = L') := by
        have h := HE2.out
        rw [if_pos rfl] at h
        exact ⟨h.symm, by have h2 := HL2.out h.symm; rw [if_pos rfl] at h2; exact h2⟩
      clear HE2 HL2
      go_enter Tryz.func27, Tryz.ntmps27
      go_wp2_with (go_at_call 50; refine (HW.out _).mono ?_; rintro e w2 ⟨⟨v2, rfl, hh⟩, hb2⟩; obtain ⟨a2, c2, rfl, _⟩ := hh; have HB2 : Hid (Below B w w2) := hb2.mono HB0.out; have HR2 : Hid (RowN w2 B (.slice va L.length vc) L xs) := HR.out.later hb2; clear hb2)
      go_ret2
      exact ⟨_, _, _, (by first | (rw [HV.out.1]; done) | (rw [HV.out.1]; rfl)), fun _ => ⟨xs, by rw [← HV.out.2]; exact HR2.out⟩, HB2.out⟩
    · obtain ⟨o, ho⟩ : ∃ o, nodeF L (T.map Prod.fst) = o := ⟨_, rfl⟩
      have HO : Hid (nodeF L (T.map Prod.fst) = o) := ho
      have HE3 : Hid ((lineF L (T.map Prod.fst)).1 = E) := by have h := HE2.out; rw [if_neg hT0] at h; exact h
      have HL3 : Hid (E = 0 → L ++ [(lineF L (T.map Prod.fst)).2] = L') := fun h => by have h2 := HL2.out h; rw [if_neg hT0] at h2; exact h2
      have gT : ¬ ((T.length : Int) = 0) := by have : 0 < T.length := List.length_pos_iff.2 hT0; omega
      have bT : ((T.length : Int) == 0) = false := by rw [beq_eq_false_iff_ne]; exact gT
      have HLF := lineF_node L HG.out (T.map Prod.fst)
      rw [ho] at HLF
      have HLN : Hid (lineF L (T.map Prod.fst) = nodE L o) := HLF
      clear HE2 HL2 hT0 ho HLF
      go_enter Tryz.func27, Tryz.ntmps27
      go_wp2_with (first
        | (go_at_call 50; refine (HW.out _).mono ?_; rintro e w2 ⟨⟨v2, rfl, hh⟩, hb2⟩; obtain ⟨a2, c2, e2, _⟩ := id hh; subst e2; have HH2 : Hid (HoldsW w2 (.slice a2 T.length c2) (T.map Prod.fst)) := hh.words; have HB2 : Hid (Below B w w2) := hb2.mono HB0.out; have HN2 : Hid (NodesL w2 (.slice va L.length vc) L) := HNL.out.later hb2; have HR2 : Hid (RowN w2 B (.slice va L.length vc) L xs) := HR.out.later hb2; have hs2 : B ≤ w2.heap.size := Nat.le_trans HB0.out hb2.size; clear hb2 hh)
        | fail)
      have HNC : Hid (Calls Tryz.prog 51 #[.slice a2 T.length c2, .slice va L.length vc] w2 (NodeP w2 o)) := node_any HN2.out HH2.out HTS.out o HO.out
      cases o with
      | none =>
        have HV : Hid (E = 5) := by have h := HE3.out; rw [HLN.out] at h; exact h.symm
        go_wp2_with (go_at_call 51; refine HNC.out.mono ?_; rintro e w3 ⟨sn, kn, xn, yn, nn, rfl, ⟨p1, p2, p3, rfl⟩, ⟨q1, q2, q3, rfl⟩, -, hb3⟩; have HB3 : Hid (Below B w w3) := HB2.out.trans (hb3.mono hs2); have hs3 : B ≤ w3.heap.size := Nat.le_trans hs2 hb3.size; clear hb3)
        go_ret2
        exact ⟨_, _, _, (by first | (rw [HV.out]; done) | (rw [HV.out]; rfl)), fun h => by rw [HV.out] at h; simp at h, HB3.out.alloc hs3 _⟩
      | some o =>
        obtain ⟨t0, k, A, n, d⟩ := o
        have HND : Hid (nameB t0 = true ∧ t0 ∈ T.map Prod.fst) := nodeF_some HO.out
        have hsz0 : t0.size ≤ 3000 := HTS.out t0 HND.out.2
        have HAL : Hid (A.length ≤ 100000000) := by show _ ≤ _; have := nodeF_args HO.out; omega
        by_cases h24 : 24 ≤ L.length
        · have hL : L.length = 24 := by omega
          have HV : Hid (E = 2) := by have h := HE3.out; rw [HLN.out] at h; simp only [nodE, if_pos h24] at h; exact h.symm
          have g24 : ((L.length : Int) == 24) = true := by rw [hL]; rfl
          clear h24
          go_wp2_with (go_at_call 51; refine HNC.out.mono ?_; rintro e w3 ⟨sn, kn, xn, yn, nn, rfl, ⟨p1, p2, p3, rfl⟩, ⟨q1, q2, q3, rfl⟩, -, hb3⟩; have HB3 : Hid (Below B w w3) := HB2.out.trans (hb3.mono hs2); have hs3 : B ≤ w3.heap.size := Nat.le_trans hs2 hb3.size; clear hb3)
          go_ret2
          exact ⟨_, _, _, (by first | (rw [HV.out]; done) | (rw [HV.out]; rfl)), fun h => by rw [HV.out] at h; simp at h, HB3.out.alloc hs3 _⟩
        · have HV : Hid (inE k n d L A = E ∧ (E = 0 → L ++ [⟨t0, k, A, inR k n d L A, n⟩] = L')) := by
            have h := HE3.out
            have h2 := HL3.out
            rw [HLN.out] at h h2
            simp only [nodE, if_neg h24] at h h2
            exact ⟨h, h2⟩
          have g24 : ((L.length : Int) == 24) = false := by rw [beq_eq_false_iff_ne]; omega
          obtain ⟨R, hRR⟩ : ∃ R, inR k n d L A = R := ⟨_, rfl⟩
          have HRR : Hid (inR k n d L A = R) := hRR
          rw [hRR] at HV
          clear h24 HE3 HL3 HLN hRR
          go_wp2_with (first
            | (go_at_call 51; refine HNC.out.mono ?_; rintro e w3 ⟨sn, kn, xn, yn, nn, rfl, ⟨p1, p2, p3, rfl⟩, ⟨q1, q2, q3, rfl⟩, hok, hb3⟩; obtain ⟨rfl, rfl, rfl, ho1, ho2⟩ := hok _ _ _ _ _ rfl; have HO1 : Hid (Own w3 w2.heap.size (.slice p1 p2 p3) A) := ho1; have HO2 : Hid (Own w3 w2.heap.size (.slice q1 q2 q3) d) := ho2; have HB3 : Hid (Below B w w3) := HB2.out.trans (hb3.mono hs2); have hs3 : B ≤ w3.heap.size := Nat.le_trans hs2 hb3.size; have HN3 : Hid (NodesL w3 (.slice va L.length vc) L) := HN2.out.later hb3; have HR3 : Hid (RowN w3 B (.slice va L.length vc) L xs) := HR2.out.later hb3; have HLT : Hid (∀ q, (Value.slice va L.length vc).ownBlock = some q → q < w2.heap.size) := fun q hq => (HR2.out.lt q hq).2; have HS23 : Hid (w2.heap.size ≤ w3.heap.size) := hb3.size; clear hok ho1 ho2 hb3)
            | fail)
          obtain ⟨bx, hbx⟩ : ∃ bx, w3.heap.size = bx := ⟨_, rfl⟩
          obtain ⟨V, hV⟩ : ∃ V, V = w3.alloc (.cells #[.string sn, .int .i64 (k : Int), .slice p1 p2 p3, .slice q1 q2 q3, .int .i64 nn] 55) := ⟨_, rfl⟩
          have HPV : Hid (Below w3.heap.size w3 V) := by show Below _ _ _; rw [hV]; exact Below.push (Below.refl _ _) _
          have HXV : Hid (BoxN V bx #[.string sn, .int .i64 (k : Int), .slice p1 p2 p3, .slice q1 q2 q3, .int .i64 nn]) := by show BoxN _ _ _; rw [hV, ← hbx]; exact BoxN.new w3 _
          have HVS : Hid (V.heap.size = bx + 1) := by show _ = _; rw [hV, ← hbx]; simp
          rw [← hV, hbx]
          have HIN : Hid (Calls Tryz.prog 52 #[.int .i64 (k : Int), .int .i64 nn, .slice q1 q2 q3, .slice va L.length vc, .slice p1 p2 p3] V fun e w' => ∃ x, e = .returned (.tuple #[x, .int .i64 E]) ∧ Own w' V.heap.size x R ∧ Below V.heap.size V w') :=
            infer8_any (k : Int) nn (HN3.out.later HPV.out) HS.out (HO2.out.later HPV.out).ints (HO1.out.later HPV.out).ints (by have := HO1.out.len; unfold big at this; have h9 := HAL.out; omega) true HG.out.nodes E R HV.out.1 HRR.out
          clear hV
          refine HIN.out.mono ?_
          rintro e w4 ⟨x4, rfl, ho4, hb4⟩
          obtain ⟨y1, y2, y3, rfl⟩ := ho4.ints.shape3
          have HO4 : Hid (Own w4 V.heap.size (.slice y1 y2 y3) R) := ho4
          have HB4 : Hid (Below w3.heap.size w3 w4) := HPV.out.trans (hb4.mono (by rw [HVS.out, hbx]; omega))
          have HX4 : Hid (BoxN w4 bx #[.string sn, .int .i64 (k : Int), .slice p1 p2 p3, .slice q1 q2 q3, .int .i64 nn]) := HXV.out.later hb4
          have z3 : w4.cell? ⟨bx, 3, none⟩ = some (.slice q1 q2 q3) := HX4.out.c 3
          have zf : w4.frozen? ⟨bx, 3, none⟩ = false := HX4.out.f 3
          obtain ⟨W, hW⟩ : ∃ W, W = w4.setCell ⟨bx, 3, none⟩ (.slice y1 y2 y3) := ⟨_, rfl⟩
          have HWW : Hid (W = w4.setCell ⟨bx, 3, none⟩ (.slice y1 y2 y3)) := hW
          have HXW : Hid (BoxN W bx #[.string sn, .int .i64 (k : Int), .slice p1 p2 p3, .slice y1 y2 y3, .int .i64 nn]) := by show BoxN _ _ _; rw [hW]; exact HX4.out.set 3 (.slice y1 y2 y3)
          have HBW : Hid (Below w3.heap.size w3 W) := by show Below _ _ _; rw [hW]; exact HB4.out.setCell (by show _ ≤ bx; omega) _
          have HOW : Hid (Own W (bx + 1) (.slice y1 y2 y3) R) := by
            show Own _ _ _ _
            rw [hW]
            have h := HO4.out
            rw [HVS.out] at h
            exact h.below ⟨bx, 3, none⟩ _ (by show bx < bx + 1; omega)
          clear hW ho4 hb4
          go_upto_region 10 with fail
          rw [← HWW.out]
          have b0 : W.cell? ⟨bx, 0, none⟩ = some (.string sn) := HXW.out.c 0
          have b1 : W.cell? ⟨bx, 1, none⟩ = some (.int .i64 (k : Int)) := HXW.out.c 1
          have b2 : W.cell? ⟨bx, 2, none⟩ = some (.slice p1 p2 p3) := HXW.out.c 2
          have b3 : W.cell? ⟨bx, 3, none⟩ = some (.slice y1 y2 y3) := HXW.out.c 3
          have b4 : W.cell? ⟨bx, 4, none⟩ = some (.int .i64 nn) := HXW.out.c 4
          have HRW : Hid (RowN W B (.slice va L.length vc) L xs) := HR3.out.later HBW.out
          have HEX : Hid (Elt W (Value.slice va L.length vc).ownBlock (.slice p1 p2 p3) A) := Elt.later HBW.out (HO1.out.elt fun q hq => HLT.out q hq)
          have HEY : Hid (Elt W (Value.slice va L.length vc).ownBlock (.slice y1 y2 y3) R) := HOW.out.elt fun q hq => by have h1 := HLT.out q hq; have h2 := HS23.out; omega
          have HBF : Hid (Below B w W) := HB3.out.trans (HBW.out.mono (by omega))
          have hsW : B ≤ W.heap.size := Nat.le_trans hs3 HBW.out.size
          clear z3 zf
          go_wp2_with (at_builtin; refine wpList_app_node W ⟨sn, (k : Int), A, R, nn⟩ _ _ rfl _ _ rfl B L xs _ rfl HRW.out _ rfl ?k0 HEX.out HEY.out ?k1 ?k2 ?k3 ?_)
          case k0 => rfl
          case k1 => (show sn.size ≤ _; omega)
          case k2 => omega
          case k3 => exact hsW
          intro g cap w5 xs5 hr5 hb5
          have HR5 : Hid (RowN w5 B (.slice (some ⟨g, 0, none⟩) (L.length + 1) cap) (L ++ [⟨sn, (k : Int), A, R, nn⟩]) xs5) := hr5
          have HB5 : Hid (Below B w w5) := HBF.out.trans hb5
          clear hr5 hb5
          go_wp2
          go_ret2
          exact ⟨_, _, _, rfl, fun h => ⟨xs5, by rw [← HV.out.2 h]; exact HR5.out⟩, HB5.out⟩
end Go.Proofs.YtkojdigaoihkpaaGreatDoor

end
section
namespace Go.Proofs.YtkojdigaoihkpaaGreatDoor
set_option linter.unusedVariables false
set_option linter.unusedSimpArgs false
set_option maxRecDepth 100000
open Go.RowKit

theorem lit37 (g : Nat → Value) : (g 0 :: g 1 :: g 2 :: g 3 :: g 4 :: g 5 :: g 6 :: g 7 :: g 8 :: g 9 :: g 10 :: g 11 :: g 12 :: g 13 :: g 14 :: g 15 :: g 16 :: g 17 :: g 18 :: g 19 :: g 20 :: g 21 :: g 22 :: g 23 :: g 24 :: g 25 :: g 26 :: g 27 :: g 28 :: g 29 :: g 30 :: g 31 :: g 32 :: g 33 :: g 34 :: g 35 :: g 36 :: []).toArray = ((List.range 37).map g).toArray := by rfl
theorem act37 (a : Act) (hd : a.defers = []) (hs : a.tmps.size = 37) : ∃ g : Nat → Value, (∀ i, a.tmps.getD i undef = g i) ∧ a = { tmps := (g 0 :: g 1 :: g 2 :: g 3 :: g 4 :: g 5 :: g 6 :: g 7 :: g 8 :: g 9 :: g 10 :: g 11 :: g 12 :: g 13 :: g 14 :: g 15 :: g 16 :: g 17 :: g 18 :: g 19 :: g 20 :: g 21 :: g 22 :: g 23 :: g 24 :: g 25 :: g 26 :: g 27 :: g 28 :: g 29 :: g 30 :: g 31 :: g 32 :: g 33 :: g 34 :: g 35 :: g 36 :: []).toArray, defers := [] } := by
  refine ⟨fun i => a.tmps.getD i undef, fun _ => rfl, ?_⟩
  have h := lit37 (fun i => a.tmps.getD i undef)
  have e : a.tmps = ((List.range 37).map (fun i => a.tmps.getD i undef)).toArray := by
    apply Array.ext
    · simp [hs]
    · intro i h1 h2
      simp [h1]
  exact (show a = Act.mk a.tmps a.defers from rfl).trans (by rw [hd]; exact congrArg (fun t => Act.mk t []) (e.trans h.symm))
theorem readN_step (x : ByteArray) (X : List ByteArray) (k : Nat) (L : List Nod) : readN (x :: X) k L = if moreE L x = 0 then readN X (k + 1) (moreL L x) else ([], (k : Int), moreE L x) := by
  rw [readN, moreE, moreL]
  by_cases hb : (badW x).isSome = true
  · rw [if_pos hb, if_pos hb, if_neg (by decide)]
  · rw [if_neg hb, if_neg hb]
    by_cases ht : toksW x = []
    · rw [if_pos ht, if_pos ht, if_pos rfl, if_pos ht]
    · rw [if_neg ht, if_neg ht, if_neg ht]
theorem more_good {L : List Nod} {x : ByteArray} (hG : GoodL L) (hS : Small L) (hx : x.size ≤ 3000) (hE : moreE L x = 0) : GoodL (moreL L x) ∧ Small (moreL L x) := by
  rw [moreE] at hE
  rw [moreL]
  by_cases hb : (badW x).isSome = true
  · rw [if_pos hb] at hE; simp at hE
  · rw [if_neg hb] at hE
    by_cases ht : toksW x = []
    · rw [if_pos ht]; exact ⟨hG, hS⟩
    · rw [if_neg ht] at hE ⊢
      obtain ⟨N, hN⟩ : ∃ N, lineF L ((toksW x).map Prod.fst) = (0, N) := ⟨_, by rw [← hE]⟩
      obtain ⟨h1, h2, h3, h4⟩ := lineF_ok hN
      have hb' : badW x = none := by cases h : badW x with
        | none => rfl
        | some q => rw [h] at hb; simp at hb
      have hn : N.name.size ≤ 3000 := by
        obtain ⟨p, hp, e⟩ := List.mem_map.1 h4
        rw [← e]
        exact toks_small hb' hx p hp
      rw [hN]
      refine ⟨?_, small_snoc hS (by omega) h2 h3 hn⟩
      have hF := lineF_node L hG ((toksW x).map Prod.fst)
      rw [hN] at hF
      cases ho : nodeF L ((toksW x).map Prod.fst) with
      | none => rw [ho, nodE] at hF; simp at hF
      | some o =>
        obtain ⟨t0, k, A, n, d⟩ := o
        rw [ho] at hF
        simp only [nodE, if_neg (show ¬ 24 ≤ L.length by omega), Prod.mk.injEq] at hF
        obtain ⟨hF1, rfl⟩ := hF
        exact hG.snoc h1 (nodeF_some ho).1 k rfl d hF1.symm rfl
/-- Where the reading is, behind k lines. -/
def ReadI (w1 : World) (B : Nat) (X : List ByteArray) (G : List Nod) (ln er : Int) (lv iv : Value) (w' : World) : Prop :=
  ∃ (k : Nat) (L : List Nod) (xs : List Value), k ≤ X.length ∧ iv = .int .i64 k ∧ RowN w' B lv L xs ∧ Small L ∧ GoodL L ∧ Below B w1 w' ∧ B ≤ w'.heap.size ∧ readN (X.drop k) k L = (G, ln, er)
set_option maxHeartbeats 16000000 in
theorem tread_any (s : ByteArray) (w : World) (m : Int) (hm : w.cell? ⟨2, 0, none⟩ = some (.int .i64 m)) (G : List Nod) (ln er : Int) (hr : readF s = (G, ln, er)) :
    Calls Tryz.prog 10 #[.string s] w fun e w' => ∃ v xs, e = .returned (.tuple #[v, .int .i64 ln, .int .i64 er]) ∧ RowN w' w.heap.size v G xs ∧ Small G ∧ Below w.heap.size w w' := by
  obtain ⟨B, hB⟩ : ∃ B, w.heap.size = B := ⟨_, rfl⟩
  have HBE : Hid (w.heap.size = B) := hB
  have HR : Hid (readF s = (G, ln, er)) := hr
  have HLN : Hid (∀ E : Int, (if s.size ≤ 3000 then 0 else 2) = E → Calls Tryz.prog 26 #[.string s] w fun e w' => (∃ v, e = .returned (.tuple #[v, .int .i64 E]) ∧ Holds w' v (if s.size ≤ 3000 then linesL s else []).length (cellsS (if s.size ≤ 3000 then linesL s else []))) ∧ Below w.heap.size w w') := fun E hE => by
    have h := lines_to s m w hm
    rw [hE] at h
    exact h
  rw [hB]
  clear hr hm hB
  go_enter Tryz.func10, Tryz.ntmps10
  go_wp2_with fail
  refine wp_scope_jumps 0 (fun a' w' => (G = [] ∧ Below B w w') ∧ a'.defers = [] ∧ a'.tmps.size = 37 ∧ a'.tmps.getD 3 undef = .int .i64 ln ∧ a'.tmps.getD 4 undef = .int .i64 er) (fun _ _ => 0) rfl ?_ ?_
  · by_cases hl : s.size ≤ 3000
    case neg =>
      have HV : Hid (G = [] ∧ ln = 0 ∧ er = 2) := by
        have h := HR.out
        rw [readF, if_pos (by omega)] at h
        simp only [Prod.mk.injEq] at h
        exact ⟨h.1.symm, h.2.1.symm, h.2.2.symm⟩
      have HLC : Hid (Calls Tryz.prog 26 #[.string s] w fun e w' => (∃ v, e = .returned (.tuple #[v, .int .i64 2]) ∧ Holds w' v 0 []) ∧ Below w.heap.size w w') := by
        have h := HLN.out 2 (if_neg hl)
        rw [if_neg hl] at h
        exact h
      obtain ⟨rfl, rfl, rfl⟩ := HV.out
      clear hl HR
      go_wp2_with (go_at_call 26; refine HLC.out.mono ?_; rintro e w1 ⟨⟨v1, rfl, hh⟩, hb1⟩; obtain ⟨a1, c1, rfl, _⟩ := hh; have HB1 : Hid (Below B w w1) := (by rw [HBE.out] at hb1; exact hb1); clear hb1)
      go_step3
      exact ⟨rfl, ⟨rfl, HB1.out⟩, rfl, rfl, rfl, rfl⟩
    case pos =>
      have HLC : Hid (Calls Tryz.prog 26 #[.string s] w fun e w' => (∃ v, e = .returned (.tuple #[v, .int .i64 0]) ∧ Holds w' v (linesL s).length (cellsS (linesL s))) ∧ Below w.heap.size w w') := by
        have h := HLN.out 0 (if_pos hl)
        rw [if_pos hl] at h
        exact h
      have HX0 : Hid (readN (linesL s) 0 [] = (G, ln, er)) := by
        have h := HR.out
        rw [readF, if_neg (by omega)] at h
        exact h
      have HEA : Hid (∀ x ∈ linesL s, x.size ≤ 3000) := lines_each s hl
      have hxl : (linesL s).length ≤ 3001 := by
        have := linSt_len s (s.size + 1)
        rw [linesL]
        omega
      generalize linesL s = X at HLC HX0 HEA hxl
      clear hl HR HLN
      go_wp2_with (go_at_call 26; refine HLC.out.mono ?_; rintro e w1 ⟨⟨v1, rfl, hh⟩, hb1⟩; have HH : Hid (Holds w1 v1 X.length (cellsS X)) := hh; obtain ⟨a1, c1, rfl, _⟩ := hh; have HB1 : Hid (Below B w w1) := (by rw [HBE.out] at hb1; exact hb1); have HS1 : Hid (B ≤ w1.heap.size) := (by have h := hb1.size; rw [HBE.out] at h; exact h); clear hb1)
      go_loopw [2, 3] (fun lv iv w' => ReadI w1 w1.heap.size X G ln er lv iv w') (fun _ iv _ => X.length - (intOf iv).toNat)
      case atStart => exact ⟨0, [], [], Nat.zero_le _, rfl, RowN.zero _ _, small_nil, GoodL.nil, Below.refl _ _, Nat.le_refl _, by rw [List.drop_zero]; exact HX0.out⟩
      case round =>
        obtain ⟨k, L, xs, hk, rfl, hr9, hs9, hg9, hb9, hsz9, hf9⟩ := hrel
        have HRL : Hid (RowN wr w1.heap.size u2 L xs) := hr9
        have HSL : Hid (Small L) := hs9
        have HGL : Hid (GoodL L) := hg9
        have HB : Hid (Below w1.heap.size w1 wr) := hb9
        have HSZ : Hid (w1.heap.size ≤ wr.heap.size) := hsz9
        have HF : Hid (readN (X.drop k) k L = (G, ln, er)) := hf9
        have hlen := hg9.len
        clear hr9 hs9 hg9 hb9 hsz9 hf9
        by_cases hlt : k < X.length
        · obtain ⟨a', c', e, hcc⟩ := HH.out.later HB.out
          simp only [Value.slice.injEq] at e
          obtain ⟨rfl, _, rfl⟩ := e
          obtain ⟨b, off, rfl, hc⟩ := hcc k _ (cellsS_at X k hlt)
          have HD : Hid (X.drop k = X[k] :: X.drop (k + 1)) := List.drop_eq_getElem_cons hlt
          have HXS : Hid (X[k].size ≤ 3000) := HEA.out _ (List.getElem_mem hlt)
          obtain ⟨x, hx⟩ : ∃ x, X[k] = x := ⟨_, rfl⟩
          rw [hx] at hc HD HXS
          have HF2 : Hid ((if moreE L x = 0 then readN (X.drop (k + 1)) (k + 1) (moreL L x) else ([], (k : Int), moreE L x)) = (G, ln, er)) := by have h := HF.out; rw [HD.out, readN_step] at h; exact h
          have HGD : Hid (moreE L x = 0 → GoodL (moreL L x) ∧ Small (moreL L x)) := more_good HGL.out HSL.out HXS.out
          obtain ⟨E, hE⟩ : ∃ E, moreE L x = E := ⟨_, rfl⟩
          obtain ⟨L', hL'⟩ : ∃ L', moreL L x = L' := ⟨_, rfl⟩
          have HMC : Hid (Calls Tryz.prog 27 #[u2, .string x] wr (MoreP w1.heap.size wr E L')) := more_any HRL.out HSZ.out HSL.out HGL.out x HXS.out E hE L' (fun _ => hL')
          rw [hE, hL'] at HF2 HGD
          have g1 : (k : Int) < X.length := by omega
          clear hcc hx HF HD hE hL'
          by_cases hE0 : E = 0
          · subst hE0
            have HF3 : Hid (readN (X.drop (k + 1)) (k + 1) L' = (G, ln, er)) := by have h := HF2.out; rw [if_pos rfl] at h; exact h
            obtain ⟨hg2, hs2⟩ := HGD.out rfl
            have HG2 : Hid (GoodL L') := hg2
            have HS2 : Hid (Small L') := hs2
            clear hg2 hs2 HF2 HGD
            go_wp2_with (go_at_call 27; refine HMC.out.mono ?_; rintro e w2 ⟨a2, n2, c2, rfl, hok, hb2⟩; obtain ⟨xs2, hr2⟩ := hok rfl; have HR2 : Hid (RowN w2 w1.heap.size (.slice a2 n2 c2) L' xs2) := hr2; have HB2 : Hid (Below w1.heap.size w1 w2) := HB.out.trans hb2; have HSZ2 : Hid (w1.heap.size ≤ w2.heap.size) := Nat.le_trans HSZ.out hb2.size; clear hok hr2 hb2)
            go_roundw
            case rel => exact ⟨k + 1, L', xs2, by omega, by go_num, HR2.out, HS2.out, HG2.out, HB2.out, HSZ2.out, HF3.out⟩
            case measure => simp [intOf]; omega
          · have HV : Hid (G = [] ∧ ln = (k : Int) ∧ er = E) := by
              have h := HF2.out
              rw [if_neg hE0] at h
              simp only [Prod.mk.injEq] at h
              exact ⟨h.1.symm, h.2.1.symm, h.2.2.symm⟩
            have hbE : (E != 0) = true := by rw [bne_iff_ne]; exact hE0
            obtain ⟨rfl, rfl, rfl⟩ := HV.out
            clear hE0 HF2 HGD
            go_wp2_with (go_at_call 27; refine HMC.out.mono ?_; rintro e w2 ⟨a2, n2, c2, rfl, hok, hb2⟩; have HB2 : Hid (Below w1.heap.size w1 w2) := HB.out.trans hb2; clear hok hb2)
            go_step3
            exact ⟨rfl, ⟨rfl, HB1.out.trans (HB2.out.mono HS1.out)⟩, rfl, rfl, rfl, rfl⟩
        · obtain rfl : k = X.length := by omega
          have HF2 : Hid ((if grpB L then (L, 0, 0) else ([], (X.length : Int), 1)) = (G, ln, er)) := by
            have h := HF.out
            rw [List.drop_length, readN] at h
            exact h
          have HNL : Hid (NodesL wr u2 L) := HRL.out.nodesL (by unfold big; omega)
          obtain ⟨q, hq⟩ : ∃ q, grpB L = q := ⟨_, rfl⟩
          have HCK : Hid (Calls Tryz.prog 28 #[u2] wr fun e w' => e = .returned (.int .i64 (if q then 0 else 1)) ∧ Below wr.heap.size wr w') := check8_any HNL.out HSL.out q hq
          obtain ⟨l1, l3, hu2⟩ : ∃ a c, u2 = .slice a L.length c := by obtain ⟨a, c, e, _⟩ := HNL.out.shape; exact ⟨a, c, e⟩
          subst hu2
          rw [hq] at HF2
          clear hq HF
          cases q with
          | true =>
            have HV : Hid (G = L ∧ ln = 0 ∧ er = 0) := by
              have h := HF2.out
              rw [if_pos rfl] at h
              simp only [Prod.mk.injEq] at h
              exact ⟨h.1.symm, h.2.1.symm, h.2.2.symm⟩
            go_wp2_with (go_at_call 28; refine HCK.out.mono ?_; rintro e w2 ⟨rfl, hb2⟩; have HB2 : Hid (Below w1.heap.size w1 w2) := Below.after HB.out hb2; have HR2 : Hid (RowN w2 w1.heap.size (.slice l1 L.length l3) L xs) := HRL.out.later hb2; clear hb2)
            rw [jump_ret]
            go_ret3
            obtain ⟨rfl, rfl, rfl⟩ := HV.out
            exact ⟨_, xs, rfl, ⟨Joins.ownsRow_le HR2.out.own HS1.out, HR2.out.elt⟩, HSL.out, HB1.out.trans (HB2.out.mono HS1.out)⟩
          | false =>
            have HV : Hid (G = [] ∧ ln = (X.length : Int) ∧ er = 1) := by
              have h := HF2.out
              rw [if_neg (by simp)] at h
              simp only [Prod.mk.injEq] at h
              exact ⟨h.1.symm, h.2.1.symm, h.2.2.symm⟩
            obtain ⟨rfl, rfl, rfl⟩ := HV.out
            go_wp2_with (go_at_call 28; refine HCK.out.mono ?_; rintro e w2 ⟨rfl, hb2⟩; have HB2 : Hid (Below w1.heap.size w1 w2) := Below.after HB.out hb2; clear hb2)
            go_step3
            exact ⟨rfl, ⟨rfl, HB1.out.trans (HB2.out.mono HS1.out)⟩, rfl, rfl, rfl, rfl⟩
  · rintro a w' ⟨⟨hg, hbj⟩, hd, hs, h3, h4⟩
    have HBJ : Hid (Below B w w') := hbj
    obtain ⟨g, hgg, rfl⟩ := act37 a hd hs
    have g3 : g 3 = .int .i64 ln := by rw [← hgg 3]; exact h3
    have g4 : g 4 = .int .i64 er := by rw [← hgg 4]; exact h4
    rw [g3, g4]
    subst hg
    clear hbj hd hs h3 h4 hgg g3 g4 HR
    go_wp2
    rw [jump_ret]
    go_ret3
    exact ⟨_, [], rfl, RowN.zero _ _, small_nil, HBJ.out⟩
end Go.Proofs.YtkojdigaoihkpaaGreatDoor

end
section
namespace Go.Proofs.YtkojdigaoihkpaaGreatDoor
set_option linter.unusedVariables false
set_option linter.unusedSimpArgs false
set_option maxRecDepth 100000
open Go.RowKit

theorem num9 (k : Int) (w : World) : Calls Tryz.prog 12 #[.int .i64 k] w fun e w' => e = .returned (.int .i64 k) ∧ w = w' := by
  go_enter Tryz.func12, Tryz.ntmps12
  go_wp2
  go_ret
  exact ⟨rfl, rfl⟩
def wak9 : List Nod := [⟨⟨#[97]⟩, 3, [], [1], 5⟩]
def wak9S : ByteArray := ⟨#[97, 32, 61, 32, 102, 105, 108, 108, 32, 53, 32, 49]⟩
theorem wak9_grp : grpB wak9 = true := by decide +kernel
theorem wak9_lines : linesL wak9S = [wak9S] := by decide +kernel
theorem wak9_bad : badW wak9S = none := by decide +kernel
theorem wak9_toks : (toksW wak9S).map Prod.fst = [⟨#[97]⟩, ⟨#[61]⟩, ⟨#[102, 105, 108, 108]⟩, ⟨#[53]⟩, ⟨#[49]⟩] := by decide +kernel
theorem wak9_line : lineT wak9 (wak9[0]'(by decide)) = [⟨#[97]⟩, ⟨#[61]⟩, ⟨#[102, 105, 108, 108]⟩, ⟨#[53]⟩, ⟨#[49]⟩] := by decide +kernel
theorem wak9_read : readF wak9S = (wak9, 0, 0) := by
  have hl := line_back wak9_grp (i := 0) (by decide)
  rw [wak9_line] at hl
  have hl2 : lineF [] [⟨#[97]⟩, ⟨#[61]⟩, ⟨#[102, 105, 108, 108]⟩, ⟨#[53]⟩, ⟨#[49]⟩] = ((0 : Int), wak9[0]'(by decide)) := hl
  rw [readF, if_neg (by decide), wak9_lines, readN, wak9_bad, if_neg (by decide)]
  have ht : ¬ toksW wak9S = [] := by
    intro e
    have h := wak9_toks
    rw [e] at h
    simp at h
  rw [if_neg ht, wak9_toks, hl2, if_pos rfl]
  show readN [] 1 ([] ++ [wak9[0]'(by decide)]) = _
  have e : ([] : List Nod) ++ [wak9[0]'(by decide)] = wak9 := rfl
  rw [e, readN, wak9_grp, if_pos rfl]
set_option maxHeartbeats 4000000 in
theorem wakes9 (w : World) (m : Int) (hm : w.cell? ⟨2, 0, none⟩ = some (.int .i64 m)) : Calls Tryz.prog 15 #[] w fun e w' => e = .returned (.bool true) ∧ Below w.heap.size w w' := by
  have HR : Hid (Calls Tryz.prog 10 #[.string wak9S] w fun e w' => ∃ v xs, e = .returned (.tuple #[v, .int .i64 0, .int .i64 0]) ∧ RowN w' w.heap.size v wak9 xs ∧ Small wak9 ∧ Below w.heap.size w w') := tread_any wak9S w m hm wak9 0 0 wak9_read
  go_enter Tryz.func15, Tryz.ntmps15
  go_wp2_with fail
  refine HR.out.mono ?_
  rintro e w2 ⟨v, xs, rfl, hr, -, hb⟩
  have hn := hr.nodesL (by decide)
  obtain ⟨va, vc, rfl, hv1, _⟩ := hn.shape
  obtain ⟨b, off, x, y, rfl, hnd⟩ := hn.row 0 (by decide)
  have d0 : w2.cell? ⟨b, off, none⟩ = some (.string ⟨#[97]⟩) := hnd.c0
  have d4 : w2.cell? ⟨b, off + 4, none⟩ = some (.int .i64 5) := hnd.c4
  have HB : Hid (Below w.heap.size w w2) := hb
  have hw : wak9.length = 1 := rfl
  rw [hw] at hv1 ⊢
  clear hr hn hnd hb hw
  go_wp2_with (go_at_call 12; refine (num9 _ _).mono ?_; rintro e w' ⟨rfl, rfl⟩)
  go_ret
  exact ⟨rfl, HB.out⟩
end Go.Proofs.YtkojdigaoihkpaaGreatDoor

end
section
namespace Go.Proofs.YtkojdigaoihkpaaGreatDoor
set_option linter.unusedVariables false
set_option linter.unusedSimpArgs false
set_option maxRecDepth 100000
open Go.RowKit

set_option maxHeartbeats 16000000 in
theorem rread_any (LC : LineC (Lib.Utf8Tabs 0 1)) (s : ByteArray) (w : World) (hT : Lib.Utf8Tabs 0 1 w) (G : List Nod) (ln er : Int) (hr : readF s = (G, ln, er)) :
    Calls Tryz.prog 11 #[.string s] w fun e w' => ∃ v xs, e = .returned (.tuple #[v, .int .i64 ln, .int .i64 er]) ∧ RowN w' w.heap.size v G xs ∧ Small G ∧ Below w.heap.size w w' := by
  have HR : Hid (readF s = (G, ln, er)) := hr
  have HTB : Hid (Lib.Utf8Tabs 0 1 w) := hT
  clear hr hT
  by_cases hl : 3000 < s.size
  · have HV : Hid (G = [] ∧ ln = 0 ∧ er = 2) := by
      have h := HR.out
      rw [readF, if_pos hl] at h
      simp only [Prod.mk.injEq] at h
      exact ⟨h.1.symm, h.2.1.symm, h.2.2.symm⟩
    go_enter Tryz.func11, Tryz.ntmps11
    go_wp2_with (go_at_call 29; refine (rlines_long s _ hl).mono ?_; rintro e w2 ⟨rfl, rfl⟩)
    go_ret3
    obtain ⟨rfl, rfl, rfl⟩ := HV.out
    exact ⟨_, [], rfl, RowN.zero _ _, small_nil, Below.refl _ _⟩
  · have hs : s.size ≤ 3000 := by omega
    have HX0 : Hid (readN (linesL s) 0 [] = (G, ln, er)) := by
      have h := HR.out
      rw [readF, if_neg hl] at h
      exact h
    have HEA : Hid (∀ x ∈ linesL s, x.size ≤ 3000) := lines_each s hs
    have hxl : (linesL s).length ≤ 3001 := by
      have := linSt_len s (s.size + 1)
      rw [linesL]
      omega
    go_enter Tryz.func11, Tryz.ntmps11
    go_wp2_with fail
    refine (rlines_ok s _ hs).mono ?_
    rintro e w1 ⟨v1, rfl, hh, hb1⟩
    generalize linesL s = X at HX0 HEA hxl hh
    have HH : Hid (Holds w1 v1 X.length (cellsS X)) := hh
    have HB1 : Hid (Below w.heap.size w w1) := hb1
    obtain ⟨a1, c1, rfl, _⟩ := hh
    clear hb1 hl hs
    go_wp2
    go_loopw [7, 8] (fun lv iv w' => ∃ (k : Nat) (L : List Nod) (xs : List Value), k ≤ X.length ∧ iv = .int .i64 k ∧ L.length ≤ 24 ∧ Hid (RowN w' w1.heap.size lv L xs) ∧ Hid (Small L) ∧ Hid (readN (X.drop k) k L = (G, ln, er)) ∧ Hid (Below w1.heap.size w1 w')) (fun _ iv _ => X.length - (intOf iv).toNat)
    case atStart => exact ⟨0, [], [], Nat.zero_le _, rfl, Nat.zero_le _, RowN.zero _ _, small_nil, by rw [List.drop_zero]; exact HX0.out, Below.refl _ _⟩
    case round =>
      obtain ⟨k, L, xs, hk, rfl, hL24, HRL, HSL, HF, HB⟩ := hrel
      by_cases hlt : k < X.length
      · obtain ⟨a', c', e, hcc⟩ := HH.out.later HB.out
        simp only [Value.slice.injEq] at e
        obtain ⟨rfl, _, rfl⟩ := e
        obtain ⟨b, off, rfl, hc⟩ := hcc k _ (cellsS_at X k hlt)
        have HD : Hid (X.drop k = X[k] :: X.drop (k + 1)) := List.drop_eq_getElem_cons hlt
        have HXS : Hid (X[k].size ≤ 3000) := HEA.out _ (List.getElem_mem hlt)
        obtain ⟨x, hx⟩ : ∃ x, X[k] = x := ⟨_, rfl⟩
        rw [hx] at hc HD HXS
        have HF2 : Hid (readN (x :: X.drop (k + 1)) k L = (G, ln, er)) := by have h := HF.out; rw [HD.out] at h; exact h
        have hxs := HXS.out
        have HTR : Hid (Lib.Utf8Tabs 0 1 wr) := Utf8Tabs_below HTB.out (Below.after HB1.out HB.out)
        have g1 : (k : Int) < X.length := by omega
        clear hcc hx HF HD
        cases hb : badW x with
        | some q =>
          have HV : Hid (G = [] ∧ ln = (k : Int) ∧ er = 5) := by
            have h := HF2.out
            rw [readN, hb, if_pos (show (some q).isSome = true from rfl)] at h
            simp only [Prod.mk.injEq] at h
            exact ⟨h.1.symm, h.2.1.symm, h.2.2.symm⟩
          have HBW : Hid (badW x = some q) := hb
          clear hb
          go_wp2_with (go_at_call 30; refine (rwords_bad x _ (by omega) HTR.out q HBW.out).mono ?_; rintro e w2 ⟨rfl, hb2⟩; have HB2 : Hid (Below w1.heap.size w1 w2) := Below.after HB.out hb2; clear hb2)
          go_ret3
          obtain ⟨rfl, rfl, rfl⟩ := HV.out
          exact ⟨_, [], rfl, RowN.zero _ _, small_nil, Below.after HB1.out HB2.out⟩
        | none =>
          have HBW : Hid (badW x = none) := hb
          have HTS : Hid (∀ t ∈ toksW x, t.1.size ≤ 3000) := toks_small hb hxs
          have HTL : Hid ((toksW x).length ≤ 10000) := toks_len hxs
          have HF3 : Hid ((if toksW x = [] then readN (X.drop (k + 1)) (k + 1) L else if (lineF L ((toksW x).map Prod.fst)).1 = 0 then readN (X.drop (k + 1)) (k + 1) (L ++ [(lineF L ((toksW x).map Prod.fst)).2]) else ([], (k : Int), (lineF L ((toksW x).map Prod.fst)).1)) = (G, ln, er)) := by
            have h := HF2.out
            rw [readN, hb, if_neg (by simp)] at h
            exact h
          clear hb
          go_wp2_with fail
          refine (rwords_ok x _ (by omega) HTR.out HBW.out).mono ?_
          rintro e w2 ⟨v2, rfl, hh2, hb2⟩
          generalize toksW x = T at HTS HTL HF3 hh2
          have HH2 : Hid (HoldsC w2 v2 T.length (cellsT T)) := hh2
          have HB2 : Hid (Below w1.heap.size w1 w2) := Below.after HB.out hb2
          have HR2 : Hid (RowN w2 w1.heap.size u7 L xs) := HRL.out.later hb2
          obtain ⟨a2, c2, rfl, _⟩ := hh2
          clear hb2 hc
          by_cases hT0 : T = []
          · subst hT0
            have HF4 : Hid (readN (X.drop (k + 1)) (k + 1) L = (G, ln, er)) := by have h := HF3.out; rw [if_pos rfl] at h; exact h
            go_wp2
            go_roundw
            case rel => exact ⟨k + 1, L, xs, by omega, by go_num, hL24, HR2.out, HSL.out, HF4.out, HB2.out⟩
            case measure => simp [intOf]; omega
          · obtain ⟨⟨E, N⟩, hEN⟩ : ∃ p, lineF L (T.map Prod.fst) = p := ⟨_, rfl⟩
            have HEN : Hid (lineF L (T.map Prod.fst) = (E, N)) := hEN
            have HF4 : Hid ((if E = 0 then readN (X.drop (k + 1)) (k + 1) (L ++ [N]) else ([], (k : Int), E)) = (G, ln, er)) := by
              have h := HF3.out
              rw [if_neg hT0, hEN] at h
              exact h
            have HTM : Hid (∀ t ∈ T.map Prod.fst, t.size ≤ 3000) := fun t ht => by
              obtain ⟨p, hp, rfl⟩ := List.mem_map.1 ht
              exact HTS.out p hp
            have HT2 : Hid (Lib.Utf8Tabs 0 1 w2) := Utf8Tabs_below HTB.out (Below.after HB1.out HB2.out)
            have HN2 : Hid (NodesL w2 u7 L) := HR2.out.nodesL (by unfold big; omega)
            obtain ⟨m, hm⟩ : ∃ m, T.length = m + 1 := ⟨T.length - 1, by have : 0 < T.length := List.length_pos_iff.2 hT0; omega⟩
            have g2 : ¬ ((T.length : Int) = 0) := by omega
            have hbq : ((T.length : Int) == 0) = false := by rw [beq_eq_false_iff_ne]; exact g2
            clear hT0 hEN hm
            go_wp2_with fail
            refine (LC.line HN2.out HSL.out HH2.out HT2.out HTL.out HTS.out hL24 E N HEN.out).mono ?_
            rintro e w3 ⟨sn, kn, xn, yn, nn, rfl, ⟨p1, p2, p3, rfl⟩, ⟨q1, q2, q3, rfl⟩, hok, hb3⟩
            have HOK : Hid (E = 0 → sn = N.name ∧ kn = N.kind ∧ nn = N.n ∧ Own w3 w2.heap.size (.slice p1 p2 p3) N.args ∧ Own w3 w2.heap.size (.slice q1 q2 q3) N.dims) := hok
            have HB3 : Hid (Below w1.heap.size w1 w3) := Below.after HB2.out hb3
            have HR3 : Hid (RowN w3 w1.heap.size u7 L xs) := HR2.out.later hb3
            have hsz2 : w2.heap.size ≤ w3.heap.size := hb3.size
            clear hok hb3
            by_cases hE : E = 0
            · subst hE
              obtain ⟨e1, e2, e3, ho1, ho2⟩ := HOK.out rfl
              subst e1 e2 e3
              have hlo := lineF_ok HEN.out
              have HLO : Hid (L.length < 24 ∧ N.args.length ≤ 2 ∧ N.dims.length ≤ 3 ∧ N.name.size ≤ 3000) := ⟨hlo.1, hlo.2.1, hlo.2.2.1, HTM.out _ hlo.2.2.2⟩
              have HF5 : Hid (readN (X.drop (k + 1)) (k + 1) (L ++ [N]) = (G, ln, er)) := by have h := HF4.out; rw [if_pos rfl] at h; exact h
              obtain ⟨V, hV⟩ : ∃ V, V = w3.alloc (.cells #[.string N.name, .int .i64 N.kind, .slice p1 p2 p3, .slice q1 q2 q3, .int .i64 N.n] 55) := ⟨_, rfl⟩
              have HVV : Hid (V = w3.alloc (.cells #[.string N.name, .int .i64 N.kind, .slice p1 p2 p3, .slice q1 q2 q3, .int .i64 N.n] 55)) := hV
              have HPV : Hid (Below w3.heap.size w3 V) := by show Below _ _ _; rw [hV]; exact Below.push (Below.refl _ _) _
              have b0 : V.cell? ⟨w3.heap.size, 0, none⟩ = some (.string N.name) := by rw [hV]; simp
              have b1 : V.cell? ⟨w3.heap.size, 1, none⟩ = some (.int .i64 N.kind) := by rw [hV]; simp
              have b2 : V.cell? ⟨w3.heap.size, 2, none⟩ = some (.slice p1 p2 p3) := by rw [hV]; simp
              have b3 : V.cell? ⟨w3.heap.size, 3, none⟩ = some (.slice q1 q2 q3) := by rw [hV]; simp
              have b4 : V.cell? ⟨w3.heap.size, 4, none⟩ = some (.int .i64 N.n) := by rw [hV]; simp
              have hltq : ∀ q, u7.ownBlock = some q → q < w2.heap.size := fun q hq => (HR2.out.lt q hq).2
              have HEX : Hid (Elt V u7.ownBlock (.slice p1 p2 p3) N.args) := Elt.later HPV.out (ho1.elt fun q hq => hltq q hq)
              have HEY : Hid (Elt V u7.ownBlock (.slice q1 q2 q3) N.dims) := Elt.later HPV.out (ho2.elt fun q hq => hltq q hq)
              have HRV : Hid (RowN V w1.heap.size u7 L xs) := HR3.out.later HPV.out
              have HBV : Hid (Below w1.heap.size w1 V) := Below.after HB3.out HPV.out
              have hns := HLO.out.2.2.2
              clear ho1 ho2 hV hltq hlo
              go_upto_region 13 with fail
              rw [← HVV.out]
              go_wp2_with (at_builtin; refine wpList_app_node V N _ _ rfl _ _ rfl w1.heap.size L xs _ rfl HRV.out _ rfl ?k0 HEX.out HEY.out ?k1 ?k2 ?k3 ?_)
              case k0 => rfl
              case k1 => omega
              case k2 => omega
              case k3 => exact HBV.out.size
              intro g cap w4 xs4 hr4 hb4
              have HR4 : Hid (RowN w4 w1.heap.size (.slice (some ⟨g, 0, none⟩) (L.length + 1) cap) (L ++ [N]) xs4) := hr4
              have HB4 : Hid (Below w1.heap.size w1 w4) := HBV.out.trans hb4
              have HS4 : Hid (Small (L ++ [N])) := small_snoc HSL.out hL24 HLO.out.2.1 HLO.out.2.2.1 HLO.out.2.2.2
              have hl24 := HLO.out.1
              clear hr4 hb4
              go_wp2
              go_roundw
              case rel => exact ⟨k + 1, L ++ [N], xs4, by omega, by go_num, by rw [List.length_append]; simp; omega, HR4.out, HS4.out, HF5.out, HB4.out⟩
              case measure => simp [intOf]; omega
            · have hbE : (E != 0) = true := by rw [bne_iff_ne]; exact hE
              have HV : Hid (G = [] ∧ ln = (k : Int) ∧ er = E) := by
                have h := HF4.out
                rw [if_neg hE] at h
                simp only [Prod.mk.injEq] at h
                exact ⟨h.1.symm, h.2.1.symm, h.2.2.symm⟩
              have HBX : Hid (Below w1.heap.size w1 (w3.alloc (.cells #[.string sn, .int .i64 kn, .slice p1 p2 p3, .slice q1 q2 q3, .int .i64 nn] 55))) := Below.push HB3.out _
              clear hE
              go_wp2
              go_ret3
              obtain ⟨rfl, rfl, rfl⟩ := HV.out
              exact ⟨_, [], rfl, RowN.zero _ _, small_nil, Below.after HB1.out HBX.out⟩
      · obtain rfl : k = X.length := by omega
        have HF2 : Hid ((if grpB L then (L, 0, 0) else ([], (X.length : Int), 1)) = (G, ln, er)) := by
          have h := HF.out
          rw [List.drop_length, readN] at h
          exact h
        have HTR : Hid (Lib.Utf8Tabs 0 1 wr) := Utf8Tabs_below HTB.out (Below.after HB1.out HB.out)
        have HNL : Hid (NodesL wr u7 L) := HRL.out.nodesL (by unfold big; omega)
        obtain ⟨q, hq⟩ : ∃ q, grpB L = q := ⟨_, rfl⟩
        have HQ : Hid (grpB L = q) := hq
        obtain ⟨l1, l2, l3, hu7⟩ : ∃ a n c, u7 = .slice a n c := by obtain ⟨a, c, e, _⟩ := HNL.out.shape; exact ⟨a, _, c, e⟩
        subst hu7
        rw [hq] at HF2
        clear hq HF
        cases q with
        | true =>
          have HV : Hid (G = L ∧ ln = 0 ∧ er = 0) := by
            have h := HF2.out
            rw [if_pos rfl] at h
            simp only [Prod.mk.injEq] at h
            exact ⟨h.1.symm, h.2.1.symm, h.2.2.symm⟩
          go_wp2_with (go_at_call 19; refine (rgraph_any rname8 HNL.out HSL.out HTR.out true HQ.out).mono ?_; rintro e w2 ⟨rfl, hb2⟩; have HB2 : Hid (Below w1.heap.size w1 w2) := Below.after HB.out hb2; have HR2 : Hid (RowN w2 w1.heap.size (.slice l1 l2 l3) L xs) := HRL.out.later hb2; clear hb2)
          go_ret3
          obtain ⟨rfl, rfl, rfl⟩ := HV.out
          exact ⟨_, xs, rfl, ⟨Joins.ownsRow_le HR2.out.own HB1.out.size, HR2.out.elt⟩, HSL.out, Below.after HB1.out HB2.out⟩
        | false =>
          have HV : Hid (G = [] ∧ ln = (X.length : Int) ∧ er = 1) := by
            have h := HF2.out
            rw [if_neg (by simp)] at h
            simp only [Prod.mk.injEq] at h
            exact ⟨h.1.symm, h.2.1.symm, h.2.2.symm⟩
          go_wp2_with (go_at_call 19; refine (rgraph_any rname8 HNL.out HSL.out HTR.out false HQ.out).mono ?_; rintro e w2 ⟨rfl, hb2⟩; have HB2 : Hid (Below w1.heap.size w1 w2) := Below.after HB.out hb2; clear hb2)
          go_ret3
          obtain ⟨rfl, rfl, rfl⟩ := HV.out
          exact ⟨_, [], rfl, RowN.zero _ _, small_nil, Below.after HB1.out HB2.out⟩
end Go.Proofs.YtkojdigaoihkpaaGreatDoor

end
