/- Part 9 of the texts that the theorem leans on. -/
import Derived.Test.YtkojdigaoihkpaaGreatDoorA08
section
namespace Go.Proofs.YtkojdigaoihkpaaGreatDoor
set_option linter.unusedVariables false
set_option linter.unusedSimpArgs false
set_option maxRecDepth 100000
open Go.RowKit

theorem OwnS.upto {w w' : World} {B M : Nat} {v : Value} {W : List ByteArray} (h : OwnS w B v W) (hb : Below M w w') (hk : ∀ q, v.ownBlock = some q → q < M) : OwnS w' B v W := by
  refine ⟨h.1, ?_⟩
  rcases h.2 with h0 | ⟨g, cap, cur, rfl, h1, hh, h2⟩
  · exact Or.inl h0
  · exact Or.inr ⟨g, cap, cur, rfl, h1, (hb.block g (hk g rfl)).trans hh, h2⟩
/-- Where a line's showing is, behind p signs. -/
def ShowI (W0 : World) (M I : Nat) (S : ByteArray) (RL : List Nat) (L : List Nod) (n : Int) (D : List Int) (F : List ByteArray × List Int) (lv av nv : Value) (w' : World) : Prop :=
  ∃ (p : Nat) (A : List Int) (W : List ByteArray) (N : List Int) (Bn : Nat), p ≤ RL.length ∧ W.length ≤ 3 + p ∧ N.length ≤ 4 * p ∧ cntO (RL.drop p) = A.length ∧ (∀ a ∈ A, 0 ≤ a ∧ a < (L.length : Int)) ∧ 0 < W.length ∧ I < Bn ∧ Bn ≤ w'.heap.size ∧ (∀ q, lv.ownBlock = some q → q < Bn) ∧ (cntO (RL.drop p) = 0 ∨ (N = [] ∧ nv = .slice none 0 0)) ∧ OwnS w' M lv W ∧ Ints W0 av A ∧ Own w' Bn nv N ∧ It w' I S p ∧ Below M W0 w' ∧ shwL L n D (RL.drop p) A W N = F
/-- Where it is among the numbers. -/
def ShowJ (W0 : World) (M : Nat) (W : List ByteArray) (N : List Int) (Bn : Nat) (nv : Value) (lv iv : Value) (w' : World) : Prop :=
  ∃ (j : Nat), j ≤ N.length ∧ iv = .int .i64 j ∧ OwnS w' M lv (W ++ (N.take j).map itoaB) ∧ Own w' Bn nv N ∧ Below M W0 w' ∧ M ≤ w'.heap.size
set_option maxHeartbeats 32000000 in
theorem shown_any {w : World} {v : Value} {L : List Nod} (h : NodesL w v L) (hg : grpB L = true) (i : Nat) (hi : i < L.length) {x y : Value} (hx : Ints w x L[i].args) (hy : Ints w y L[i].dims) (hP : PowT w) :
    Calls Tryz.prog 38 #[.agg #[.string L[i].name, .int .i64 L[i].kind, x, y, .int .i64 L[i].n], v] w fun e w' => e = .returned (.string (lineX L L[i] ++ nl)) ∧ Below w.heap.size w w' := by
  obtain ⟨k, hk, k1, k15, hAl, hA2, hD3, hAin, hDin, hn⟩ := grp_node hg hi
  have HX : Hid ((lineX L L[i]).size ≤ 105) := lineX_size hg hi
  have HF0 : Hid (∀ W N, shwL L L[i].n L[i].dims (restL k) L[i].args [L[i].name, ⟨#[61]⟩, kindN k] [] = (W, N) → lineT L L[i] = W ++ N.map itoaB ∧ ∀ n ∈ N, -1073741824 ≤ n ∧ n ≤ 1073741824) := fun W N h => lineT_shw hg hi k hk W N h
  have HLX : Hid (lineX L L[i] = joinG ⟨#[32]⟩ (lineT L L[i])) := rfl
  rw [hk]
  obtain ⟨nm, hnm⟩ : ∃ z, L[i].name = z := ⟨_, rfl⟩
  obtain ⟨A, hA⟩ : ∃ z, L[i].args = z := ⟨_, rfl⟩
  obtain ⟨D, hD⟩ : ∃ z, L[i].dims = z := ⟨_, rfl⟩
  obtain ⟨n, hn9⟩ : ∃ z, L[i].n = z := ⟨_, rfl⟩
  obtain ⟨LT, hLT⟩ : ∃ z, lineT L L[i] = z := ⟨_, rfl⟩
  obtain ⟨LX, hLX⟩ : ∃ z, lineX L L[i] = z := ⟨_, rfl⟩
  rw [hnm, hA, hD, hn9, hLT] at HF0
  rw [hLX] at HX
  rw [hLX, hLT] at HLX
  rw [hA] at hx hAl hA2 hAin
  rw [hD] at hy hD3
  rw [hnm, hn9, hLX]
  have HNL : Hid (NodesL w v L) := h
  obtain ⟨va, vc, rfl, hv1, hv2⟩ := h.shape
  unfold big at hv2
  obtain ⟨xa, xn, xc, rfl⟩ := hx.shape3
  obtain ⟨ya, yn, yc, rfl⟩ := hy.shape3
  obtain ⟨b0, hb0⟩ : ∃ b, w.heap.size = b := ⟨_, rfl⟩
  have HB0 : Hid (w.heap.size = b0) := hb0
  obtain ⟨W0, hW0⟩ : ∃ U, U = w.alloc (.cells #[.string nm, .int .i64 (k : Int), .slice xa xn xc, .slice ya yn yc, .int .i64 n] 55) := ⟨_, rfl⟩
  have HW0 : Hid (W0 = w.alloc (.cells #[.string nm, .int .i64 (k : Int), .slice xa xn xc, .slice ya yn yc, .int .i64 n] 55)) := hW0
  have hbw : Below w.heap.size w W0 := by rw [hW0]; exact Below.push (Below.refl _ _) _
  have HBW : Hid (Below w.heap.size w W0) := hbw
  have HBX : Hid (BoxN W0 b0 #[.string nm, .int .i64 (k : Int), .slice xa xn xc, .slice ya yn yc, .int .i64 n]) := by show BoxN _ _ _; rw [hW0, ← hb0]; exact BoxN.new w _
  have HN0 : Hid (NodesL W0 (.slice va L.length vc) L) := HNL.out.later hbw
  have HA0 : Hid (Ints W0 (.slice xa xn xc) A) := hx.later hbw
  have HD0 : Hid (Ints W0 (.slice ya yn yc) D) := hy.later hbw
  have HP0 : Hid (PowT W0) := hP.stays hbw
  have HM0 : Hid (W0.heap.size = b0 + 1) := by show _ = _; rw [hW0, ← hb0]; simp
  obtain ⟨M, hM⟩ : ∃ M, W0.heap.size = M := ⟨_, rfl⟩
  have HMM : Hid (W0.heap.size = M) := hM
  have hMb1 : b0 < M := by rw [← hM, HM0.out]; omega
  have hMb2 : M ≤ b0 + 1 := by rw [← hM, HM0.out]; omega
  obtain ⟨S, hS⟩ : ∃ S, restB k = S := ⟨_, rfl⟩
  obtain ⟨RL, hRL⟩ : ∃ RL, restL k = RL := ⟨_, rfl⟩
  have hsz : S.size = RL.length := by rw [← hS, ← hRL]; exact restB_size k
  have hrl : RL.length ≤ 2 := by rw [← hRL]; exact restL_len k k15
  have HCN : Hid (cntO RL = A.length) := by show _ = _; rw [← hRL, cnt_rest k k1 k15, hAl]
  have HSB : Hid (∀ (p : Nat) (h : p < RL.length), ((S[p]'(by omega)).toNat = RL[p]) ∧ (RL[p] = 111 ∨ RL[p] = 110 ∨ RL[p] = 100) ∧ (¬ RL[p] = 111 → cntO (RL.drop p) = 0)) := by
    subst hS hRL
    exact fun p hp => ⟨restB_at k k15 p (by omega) hp, restL_signs k k15 _ (List.getElem_mem hp), cnt_not k k15 p hp⟩
  have HSP : Hid (∀ w, Calls Tryz.prog 46 #[.int .i64 (k : Int)] w fun e w' => e = .returned (.tuple #[.string (kindN k), .string S]) ∧ w = w') := fun w => by
    have h := spelled_to (k : Int) w
    rw [restI_eq _ (by omega) (by omega), nameI_eq ⟨#[]⟩ _ (by omega) (by omega), Int.toNat_natCast, hS] at h
    exact h
  obtain ⟨kn, hkn⟩ : ∃ z, kindN k = z := ⟨_, rfl⟩
  rw [hkn] at HSP
  obtain ⟨F, hF⟩ : ∃ F, shwL L n D RL A [nm, ⟨#[61]⟩, kn] [] = F := ⟨_, rfl⟩
  have HF : Hid (shwL L n D RL A [nm, ⟨#[61]⟩, kn] [] = F) := hF
  have HFF : Hid (LT = F.1 ++ F.2.map itoaB ∧ ∀ n ∈ F.2, -1073741824 ≤ n ∧ n ≤ 1073741824) := HF0.out F.1 F.2 (by rw [hRL, hkn, hF])
  have HAI : Hid (∀ a ∈ A, 0 ≤ a ∧ a < (L.length : Int)) := hAin
  rw [hb0]
  have u0 : W0.cell? ⟨b0, 0, none⟩ = some (.string nm) := HBX.out.c 0
  have u1 : W0.cell? ⟨b0, 1, none⟩ = some (.int .i64 (k : Int)) := HBX.out.c 1
  have u2 : W0.cell? ⟨b0, 2, none⟩ = some (.slice xa xn xc) := HBX.out.c 2
  clear hbw hW0 h hx hy hP hb0 hM hS hRL hkn hF HF0 hnm hA hD hn9 hLT hLX hAin hDin hn hAl
  go_enter Tryz.func38, Tryz.ntmps38
  go_upto_region 1 with fail
  rw [← HW0.out, HB0.out]
  go_upto_region 2 with (go_at_call 46; refine (HSP.out _).mono ?_; rintro e w2 ⟨rfl, rfl⟩)
  have u0a : ∀ o, (W0.alloc o).cell? ⟨b0, 0, none⟩ = some (.string nm) := fun o => (HBX.out.alloc o).c 0
  have u2a : ∀ o, (W0.alloc o).cell? ⟨b0, 2, none⟩ = some (.slice xa xn xc) := fun o => (HBX.out.alloc o).c 2
  go_region
  rw [HMM.out]
  clear u0 u1 u2 u0a u2a
  obtain ⟨V1, hV1⟩ : ∃ V, V = (W0.alloc (.cells #[.string nm, .string ⟨#[61]⟩, .string kn] 9)).drew := ⟨_, rfl⟩
  have HO1 : Hid (OwnS V1 M (.slice (some ⟨M, 0, none⟩) 3 3) [nm, ⟨#[61]⟩, kn]) := by
    have h := OwnS.new W0 [nm, ⟨#[61]⟩, kn] 3 rfl (by simp)
    rw [HMM.out] at h
    show World.ownsRow _ _ _ _ _ _ _
    rw [hV1]
    exact h
  have HB1 : Hid (Below M W0 V1) := by show Below _ _ _; rw [hV1]; exact ((Below.refl M W0).alloc (by rw [HMM.out]; exact Nat.le_refl _) _).drew
  have HS1 : Hid (V1.heap.size = M + 1) := by show _ = _; rw [hV1, ← HMM.out]; simp
  rw [← hV1]
  clear hV1
  obtain ⟨I, hI⟩ : ∃ I, V1.heap.size = I := ⟨_, rfl⟩
  have hIM1 : M < I := by rw [← hI, HS1.out]; omega
  have hIM2 : I ≤ M + 1 := by rw [← hI, HS1.out]; omega
  have HII : Hid (V1.heap.size = I) := hI
  have HIT0 : Hid (It (V1.iter S 0) I S 0) := by rw [← hI]; exact It.new _ _ _
  have HO2 : Hid (OwnS (V1.iter S 0) M (.slice (some ⟨M, 0, none⟩) 3 3) [nm, ⟨#[61]⟩, kn]) := World.ownsRow.alloc HO1.out _
  have HB2 : Hid (Below M W0 (V1.iter S 0)) := HB1.out.alloc (by rw [hI]; omega) _
  have HS2 : Hid (I + 1 ≤ (V1.iter S 0).heap.size) := HIT0.out.lt
  clear hI
  go_wp2_with fail
  rw [HII.out]
  go_loopw [7, 8, 9] (fun lv av nv w' => ShowI W0 M I S RL L n D F lv av nv w') (fun _ _ _ w' => RL.length - w'.iterPos I)
  case atStart => exact ⟨0, A, [nm, ⟨#[61]⟩, kn], [], I + 1, Nat.zero_le _, by simp, by simp, by rw [List.drop_zero]; exact HCN.out, HAI.out, by simp, by omega, HS2.out, fun q hq => by simp [Value.ownBlock] at hq; omega, Or.inr ⟨rfl, rfl⟩, HO2.out, HA0.out, Own.nil _ _, HIT0.out, HB2.out, by rw [List.drop_zero]; exact HF.out⟩
  case round =>
    clear HO1 HB1 HS1 HII HIT0 HO2 HB2 HS2 HF HCN HAI
    obtain ⟨p, A, W, N, Bn, hp, hWl, hNl, hcn, hai, hW0, hIB, hBs, hq9, hdj, hos9, hia9, hon9, hit9, hbb9, hf9⟩ := hrel
    have HOS : Hid (OwnS wr M u7 W) := hos9
    have HIA : Hid (Ints W0 u8 A) := hia9
    have HON : Hid (Own wr Bn u9 N) := hon9
    have HIT : Hid (It wr I S p) := hit9
    have HBB : Hid (Below M W0 wr) := hbb9
    have HF : Hid (shwL L n D (RL.drop p) A W N = F) := hf9
    have HQ : Hid (∀ q, u7.ownBlock = some q → q < Bn) := hq9
    have HAI : Hid (∀ a ∈ A, 0 ≤ a ∧ a < (L.length : Int)) := hai
    have HPOS : Hid (wr.iterPos I = p) := HIT.out.pos
    obtain ⟨wa, wc, e1⟩ := HOS.out.shape
    subst e1
    obtain ⟨aa, an, ac, e1⟩ := HIA.out.shape3
    subst e1
    obtain ⟨na, nc, e1⟩ := HON.out.ints.shape
    subst e1
    clear hos9 hia9 hon9 hit9 hbb9 hf9 hq9 hai
    by_cases hlt : p < RL.length
    · obtain ⟨hby, hsgn, hcz⟩ := HSB.out p hlt
      obtain ⟨sg, hsg⟩ : ∃ sg, RL[p] = sg := ⟨_, rfl⟩
      rw [hsg] at hby hsgn hcz
      have HSG : Hid (sg = 111 ∨ sg = 110 ∨ sg = 100) := hsgn
      have HCZ : Hid (¬ sg = 111 → cntO (RL.drop p) = 0) := hcz
      have hnx : ∀ ty, (Instr.next (.pointer (some ⟨I, 0, none⟩)) true ty).run Tryz.prog wr = .ok (.tuple #[.bool true, .int .i64 p, .int .i32 (sg : Int)]) (wr.iterAt I S (p + 1)) := fun ty => HIT.out.nx (by omega) (sg : Int) (by rw [hby]) (by rw [hby]; rcases HSG.out with h | h | h <;> omega) ty
      obtain ⟨W1, hW1⟩ : ∃ W1, wr.iterAt I S (p + 1) = W1 := ⟨_, rfl⟩
      rw [hW1] at hnx
      have HI1 : Hid (It W1 I S (p + 1)) := by show It _ _ _ _; rw [← hW1]; exact HIT.out.moved _
      have HO1 : Hid (OwnS W1 M (.slice wa W.length wc) W) := by show World.ownsRow _ _ _ _ _ _ _; rw [← hW1]; exact own_moved HOS.out HIT.out _
      have HN1 : Hid (Own W1 Bn (.slice na N.length nc) N) := by show Own _ _ _ _; rw [← hW1]; exact HON.out.moved HIT.out
      have HB1 : Hid (Below M W0 W1) := by show Below _ _ _; rw [← hW1]; exact Lib.below_iterAt HBB.out (by omega) _ _
      have hB1 : Bn ≤ W1.heap.size := by rw [← hW1, Lib.iterAt_size]; exact hBs
      have HDR : Hid (RL.drop p = sg :: RL.drop (p + 1)) := by show _ = _; rw [List.drop_eq_getElem_cons hlt, hsg]
      have HF1 : Hid (shwL L n D (sg :: RL.drop (p + 1)) A W N = F) := by have h := HF.out; rw [HDR.out] at h; exact h
      rw [HDR.out] at hcn hdj
      have HCZ2 : Hid (¬ sg = 111 → cntO (RL.drop (p + 1)) = 0) := fun h => by
        have h2 := HCZ.out h
        rw [HDR.out] at h2
        simp only [cntO, List.countP_cons] at h2 ⊢
        omega
      clear hby hsg hW1 HF HDR HIT HOS HON HBB hBs hsgn hcz
      rcases HSG.out with e | e | e
      · subst e
        obtain ⟨a, A', rfl⟩ : ∃ a A', A = a :: A' := by
          cases A with
          | nil => simp [cntO] at hcn
          | cons a A' => exact ⟨a, A', rfl⟩
        have HCN2 : Hid (cntO (RL.drop (p + 1)) = A'.length) := by
          show _ = _
          simp only [cntO, List.countP_cons, List.length_cons] at hcn ⊢
          simp at hcn
          omega
        obtain ⟨rfl, en⟩ : N = [] ∧ Value.slice na N.length nc = .slice none 0 0 := by
          rcases hdj with h | h
          · simp [cntO] at h
          · exact h
        simp only [Value.slice.injEq] at en
        obtain ⟨rfl, _, rfl⟩ := en
        obtain ⟨ha0, ha1⟩ := HAI.out a (by simp)
        obtain ⟨j, rfl⟩ : ∃ j : Nat, a = j := ⟨a.toNat, by omega⟩
        obtain ⟨lb, loff, y0, y1, rfl, hnd⟩ := (HN0.out.later (by rw [HMM.out]; exact HB1.out) : NodesL W1 _ L).row j (by omega)
        obtain ⟨nj, hnj⟩ : ∃ z, (L[j]'(by omega)).name = z := ⟨_, rfl⟩
        have l0 := hnd.c0
        rw [hnj] at l0
        have HF2 : Hid (shwL L n D (RL.drop (p + 1)) A' (W ++ [nj]) [] = F) := by
          have h := HF1.out
          rw [shw_o, nameAt, Int.toNat_natCast, List.getElem?_eq_getElem (show j < L.length by omega)] at h
          simp only [hnj] at h
          exact h
        obtain ⟨ab, aoff, rfl, ean, hac, hc0, ht1, ht2⟩ := HIA.out.tail
        have d0 : W1.cell? ⟨ab, aoff, none⟩ = some (.int .i64 (j : Int)) := cell_later (by rw [HMM.out]; exact HB1.out) hc0
        have HT1 : Hid (Ints W0 (.slice (some ⟨ab, aoff, none⟩) (an - 1) 0) A' ∨ ¬ ac = 1) := by
          by_cases h : ac = 1
          · exact Or.inl (ht1 h)
          · exact Or.inr h
        have HT2' : Hid (¬ ac = 1 → Ints W0 (.slice (some ⟨ab, aoff + 1, none⟩) (an - 1) (ac - 1)) A') := ht2
        have gN : 0 < an := by omega
        have g0 : (0 : Int) < (an : Int) := by omega
        have gl : (1 : Int) ≤ (an : Int) := by omega
        have gac : an ≤ ac := by omega
        have gj : (j : Int) < (L.length : Int) := by omega
        have HEN : Hid (an = A'.length + 1) := ean
        obtain ⟨iS, hi, hi0, hi1, hi2⟩ := infoS
        have HJ : Hid (Tryz.prog.info? 9 = some iS) := hi
        have HJ0 : Hid (iS.zero = some (.string ⟨#[]⟩)) := hi0
        have HJ1 : Hid (iS.size = 1) := hi1
        have HJ2 : Hid (iS.bytes = 16) := hi2
        have HNW : Hid (∀ i u, [Value.string nj][i]? = some u → (W1.alloc (.cells #[.string nj] 9)).drew.cell? ((⟨W1.heap.size, 0, none⟩ : Addr).add i) = some u) := World.news_of_block (heap_alloc_new W1 (.cells #[.string nj] 9))
        have HA3 : Hid ((W1.alloc (.cells #[.string nj] 9)).drew.ownsRow M 9 1 (.slice wa W.length wc) W.length (cellsS W)) := World.ownsRow.alloc HO1.out _
        have hM1 : M ≤ W1.heap.size := by omega
        have HP : Hid (∀ v1 w1, w1.ownsRow M 9 1 v1 (W.length + 1) (cellsS W ++ [.string nj]) → (W1.alloc (.cells #[.string nj] 9)).drew.grownBy w1 (Value.slice wa W.length wc).ownBlock → OwnS w1 M v1 (W ++ [nj]) ∧ Below M W1 w1 ∧ It w1 I S (p + 1)) := fun v1 w1 ho hg => by
          have h1 : Below M W1 w1 := (((Below.refl M W1).alloc hM1 _).drew).grown hg (by simp; omega) (fun q hq => (World.ownsRow.lt HO1.out q hq).1)
          have hit : It (W1.alloc (.cells #[.string nj] 9)).drew I S (p + 1) := It.later (((Below.refl _ W1).alloc (Nat.le_refl _) _).drew) HI1.out
          refine ⟨?_, h1, hit.grown HA3.out hg⟩
          show World.ownsRow _ _ _ _ _ _ _
          rw [List.length_append, cellsS_snoc]
          exact ho
        clear hi hi0 hi1 hi2 hnd hnj hcn hdj ean hc0 ht1 ht2 HF1 HIA ha0 ha1 HN1
        by_cases hc1 : ac = 1
        · have HT1' : Hid (Ints W0 (.slice (some ⟨ab, aoff, none⟩) (an - 1) 0) A') := by
            rcases HT1.out with h | h
            · exact h
            · exact absurd hc1 h
          have han : an = 1 := by omega
          subst hc1
          subst han
          go_upto_region 8 with fail
          go_region_law (first
            | (refine step_append_lies _ rfl (.tmp 36) (.tmp 44) 22 rfl M 9 iS (.string ⟨#[]⟩) 1 16 Tryz.underlying22 HJ.out HJ0.out HJ1.out HJ2.out rfl (by decide) (.slice wa W.length wc) W.length (cellsS W) (by simp [Act.eval, Act.put]) HA3.out ⟨W1.heap.size, 0, none⟩ 1 1 [.string nj] (by simp [Act.eval, Act.put]) rfl HNW.out (by intro u hu; simp at hu; subst hu; rfl) (by decide) (by unfold maxLen; omega) (by omega) (by simp; omega) (W1.heap.size + 1) (by simp) ?_; intro g1 cap1 w1 ho hg _ _; obtain ⟨ho1, hb1, hi1⟩ := HP.out _ _ ho hg; have HOW : Hid (OwnS w1 M _ (W ++ [nj])) := ho1; have HBX1 : Hid (Below M W1 w1) := hb1; have HIW : Hid (It w1 I S (p + 1)) := hi1; have hIw : I < w1.heap.size := hi1.lt; clear ho hg ho1 hb1 hi1))
          all_goals go_wp2
          all_goals (
            refine ⟨?_, ?_⟩
            · (repeat apply Exists.intro)
              refine ⟨?_, rfl, rfl, rfl⟩
              exact ⟨p + 1, A', W ++ [nj], [], w1.heap.size, by omega, by simp; omega, by simp, HCN2.out, fun a ha => HAI.out a (by simp [ha]), by simp, hIw, Nat.le_refl _, HOW.out.lt, Or.inr ⟨rfl, rfl⟩, HOW.out, HT1'.out, Own.nil _ _, HIW.out, HB1.out.trans HBX1.out, HF2.out⟩
            · (have h1 := HIW.out.pos; have h2 := HPOS.out; rw [h1, h2]; omega))
        · have hc2 : ¬ 1 = ac := fun e => hc1 e.symm
          have HT2 : Hid (Ints W0 (.slice (some ⟨ab, aoff + 1, none⟩) (an - 1) (ac - 1)) A') := HT2'.out hc1
          go_upto_region 8 with fail
          go_region_law (first
            | (refine step_append_lies _ rfl (.tmp 36) (.tmp 44) 22 rfl M 9 iS (.string ⟨#[]⟩) 1 16 Tryz.underlying22 HJ.out HJ0.out HJ1.out HJ2.out rfl (by decide) (.slice wa W.length wc) W.length (cellsS W) (by simp [Act.eval, Act.put]) HA3.out ⟨W1.heap.size, 0, none⟩ 1 1 [.string nj] (by simp [Act.eval, Act.put]) rfl HNW.out (by intro u hu; simp at hu; subst hu; rfl) (by decide) (by unfold maxLen; omega) (by omega) (by simp; omega) (W1.heap.size + 1) (by simp) ?_; intro g1 cap1 w1 ho hg _ _; obtain ⟨ho1, hb1, hi1⟩ := HP.out _ _ ho hg; have HOW : Hid (OwnS w1 M _ (W ++ [nj])) := ho1; have HBX1 : Hid (Below M W1 w1) := hb1; have HIW : Hid (It w1 I S (p + 1)) := hi1; have hIw : I < w1.heap.size := hi1.lt; clear ho hg ho1 hb1 hi1))
          all_goals go_wp2
          all_goals (
            refine ⟨?_, ?_⟩
            · (repeat apply Exists.intro)
              refine ⟨?_, rfl, rfl, rfl⟩
              exact ⟨p + 1, A', W ++ [nj], [], w1.heap.size, by omega, by simp; omega, by simp, HCN2.out, fun a ha => HAI.out a (by simp [ha]), by simp, hIw, Nat.le_refl _, HOW.out.lt, Or.inr ⟨rfl, rfl⟩, HOW.out, HT2.out, Own.nil _ _, HIW.out, HB1.out.trans HBX1.out, HF2.out⟩
            · (have h1 := HIW.out.pos; have h2 := HPOS.out; rw [h1, h2]; omega))
      · subst e
        have HZ2 : Hid (cntO (RL.drop (p + 1)) = 0) := HCZ2.out (by decide)
        have HCA : Hid (cntO (RL.drop (p + 1)) = A.length) := by
          show _ = _
          simp only [cntO, List.countP_cons] at hcn ⊢
          simp at hcn
          omega
        have HF2 : Hid (shwL L n D (RL.drop (p + 1)) A W (N ++ [n]) = F) := by have h := HF1.out; rw [shw_n] at h; exact h
        have u4 : W1.cell? ⟨b0, 4, none⟩ = some (.int .i64 n) := (BoxN.later (by rw [HMM.out]; exact HB1.out) HBX.out : BoxN W1 _ _).c 4
        have HI3 : Hid (Ints (W1.alloc (.cells #[.int .i64 n] 3)) (.slice (some ⟨W1.heap.size, 0, none⟩) 1 1) [n]) := (Blk.new W1 [n]).ints 1 1 rfl (Nat.le_refl _) (by decide)
        have HR3 : Hid ((W1.alloc (.cells #[.int .i64 n] 3)).ownsRow Bn 3 1 (.slice na N.length nc) N.length (N.map (Value.int .i64))) := HN1.out.row.alloc _
        have HO3 : Hid (OwnS (W1.alloc (.cells #[.int .i64 n] 3)) M (.slice wa W.length wc) W) := World.ownsRow.alloc HO1.out _
        have HI4 : Hid (It (W1.alloc (.cells #[.int .i64 n] 3)) I S (p + 1)) := It.later ((Below.refl _ W1).alloc (Nat.le_refl _) _) HI1.out
        have HB4 : Hid (Below M W0 (W1.alloc (.cells #[.int .i64 n] 3))) := HB1.out.alloc (by omega) _
        clear hcn hdj HF1
        go_wp2_with (at_builtin; refine wpList_app_ints _ rfl _ _ rfl Bn N [n] _ _ N.length rfl rfl HR3.out rfl HI3.out ?n1 ?n2 ?_)
        case n1 => (first | omega | (simp; omega))
        case n2 => (first | omega | (simp; omega))
        intro ea en ec w2 ho hb
        have HOW : Hid (Own w2 Bn (.slice ea en ec) (N ++ [n])) := ho
        have HSW : Hid (OwnS w2 M (.slice wa W.length wc) W) := HO3.out.upto hb HQ.out
        have HIW : Hid (It w2 I S (p + 1)) := (hb.block I hIB).trans HI4.out
        have HBW2 : Hid (Below M W0 w2) := HB4.out.trans (hb.mono (by omega))
        have hsw : Bn ≤ w2.heap.size := Nat.le_trans (by simp; omega) hb.size
        clear ho hb
        go_wp2
        refine ⟨?_, ?_⟩
        · exact ⟨p + 1, A, W, N ++ [n], Bn, by omega, by omega, by simp; omega, HCA.out, HAI.out, hW0, hIB, hsw, HQ.out, Or.inl HZ2.out, HSW.out, HIA.out, HOW.out, HIW.out, HBW2.out, HF2.out⟩
        · (have h1 := HIW.out.pos; have h2 := HPOS.out; rw [h1, h2]; omega)
      · subst e
        have HZ2 : Hid (cntO (RL.drop (p + 1)) = 0) := HCZ2.out (by decide)
        have HCA : Hid (cntO (RL.drop (p + 1)) = A.length) := by
          show _ = _
          simp only [cntO, List.countP_cons] at hcn ⊢
          simp at hcn
          omega
        have HF2 : Hid (shwL L n D (RL.drop (p + 1)) A W (N ++ D) = F) := by have h := HF1.out; rw [shw_d] at h; exact h
        have u3 : W1.cell? ⟨b0, 3, none⟩ = some (.slice ya yn yc) := (BoxN.later (by rw [HMM.out]; exact HB1.out) HBX.out : BoxN W1 _ _).c 3
        have HI3 : Hid (Ints W1 (.slice ya yn yc) D) := HD0.out.later (by rw [HMM.out]; exact HB1.out)
        clear hcn hdj HF1
        go_wp2_with (at_builtin; refine wpList_app_ints _ rfl _ _ rfl Bn N D _ _ N.length rfl rfl HN1.out.row rfl HI3.out ?m1 ?m2 ?_)
        all_goals first | exact hB1 | omega | skip
        intro ea en ec w2 ho hb
        have HOW : Hid (Own w2 Bn (.slice ea en ec) (N ++ D)) := ho
        have HSW : Hid (OwnS w2 M (.slice wa W.length wc) W) := HO1.out.upto hb HQ.out
        have HIW : Hid (It w2 I S (p + 1)) := (hb.block I hIB).trans HI1.out
        have HBW2 : Hid (Below M W0 w2) := HB1.out.trans (hb.mono (by omega))
        have hsw : Bn ≤ w2.heap.size := Nat.le_trans hB1 hb.size
        clear ho hb
        go_wp2
        refine ⟨?_, ?_⟩
        · exact ⟨p + 1, A, W, N ++ D, Bn, by omega, by omega, by simp; omega, HCA.out, HAI.out, hW0, hIB, hsw, HQ.out, Or.inl HZ2.out, HSW.out, HIA.out, HOW.out, HIW.out, HBW2.out, HF2.out⟩
        · (have h1 := HIW.out.pos; have h2 := HPOS.out; rw [h1, h2]; omega)
    · obtain rfl : p = RL.length := by omega
      have hnx : ∀ ty, (Instr.next (.pointer (some ⟨I, 0, none⟩)) true ty).run Tryz.prog wr = .ok (.tuple #[.bool false]) wr := fun ty => HIT.out.nd (by omega) ty
      have HV : Hid (F = (W, N)) := by have h := HF.out; rw [List.drop_length, shwL] at h; exact h.symm
      clear HF
      have HLT : Hid (LT = W ++ N.map itoaB ∧ ∀ n ∈ N, -1073741824 ≤ n ∧ n ≤ 1073741824) := by have h := HFF.out; rw [HV.out] at h; exact h
      have hWs : W.length ≤ 5 := by omega
      have hNs : N.length ≤ 8 := by omega
      have hMs : M ≤ wr.heap.size := by omega
      clear HPOS hcn hdj HIA HQ HAI HIT HV hWl hNl hp hBs
      go_wp2_with fail
      go_loopw [7, 63] (fun lv iv w' => ShowJ W0 M W N Bn (.slice na N.length nc) lv iv w') (fun _ iv _ => N.length - (intOf iv).toNat)
      case atStart => exact ⟨0, Nat.zero_le _, rfl, by simpa using HOS.out, HON.out, HBB.out, hMs⟩
      case round =>
        clear HOS HON HBB hMs
        obtain ⟨j, hj, rfl, ho9, hn9, hb9, hs9⟩ := hrel
        obtain ⟨WW, hWW⟩ : ∃ z, W ++ (N.take j).map itoaB = z := ⟨_, rfl⟩
        have HWW : Hid (W ++ (N.take j).map itoaB = WW) := hWW
        rw [hWW] at ho9
        have hWl : WW.length ≤ 13 := by rw [← hWW]; simp; omega
        have hW1 : 0 < WW.length := by rw [← hWW]; simp; omega
        have HOS : Hid (OwnS wr M u7 WW) := ho9
        have HON : Hid (Own wr Bn (.slice na N.length nc) N) := hn9
        have HBB : Hid (Below M W0 wr) := hb9
        obtain ⟨va', vc', e1⟩ := HOS.out.shape
        subst e1
        clear ho9 hn9 hb9 hWW
        by_cases hlt : j < N.length
        · obtain ⟨nb, noff, rfl, -, hcc⟩ := HON.out.ints.addr (by omega)
          obtain ⟨nj, hnj⟩ : ∃ z, N[j] = z := ⟨_, rfl⟩
          have d0 := hcc j hlt
          rw [hnj] at d0
          have hbn := HLT.out.2 _ (List.getElem_mem hlt)
          rw [hnj] at hbn
          obtain ⟨tx, htx⟩ : ∃ z, itoaB nj = z := ⟨_, rfl⟩
          have HTK : Hid (W ++ (N.take (j + 1)).map itoaB = WW ++ [tx]) := by
            show _ = _
            rw [← HWW.out, List.take_succ_eq_append_getElem hlt, hnj, List.map_append, ← List.append_assoc, ← htx]
            rfl
          have HDG : Hid (∀ w, PowT w → Calls Tryz.prog 66 #[.int .i64 nj] w fun e w' => e = .returned (.tuple #[.string tx, .int .i64 0]) ∧ Below w.heap.size w w') := fun w hT => by
            have h := digits_ok nj w (by omega) (by omega) hT
            rw [show (⟨(Lib.itoa nj).toArray⟩ : ByteArray) = tx from htx] at h
            exact h
          have HPW : Hid (PowT wr) := HP0.out.stays (by rw [HMM.out]; exact HBB.out)
          have gj : (j : Int) < (N.length : Int) := by omega
          obtain ⟨iS, hi, hi0, hi1, hi2⟩ := infoS
          have HJ : Hid (Tryz.prog.info? 9 = some iS) := hi
          have HJ0 : Hid (iS.zero = some (.string ⟨#[]⟩)) := hi0
          have HJ1 : Hid (iS.size = 1) := hi1
          have HJ2 : Hid (iS.bytes = 16) := hi2
          clear hi hi0 hi1 hi2 hcc hnj htx hbn
          go_wp2_with (first
            | (go_at_call 66; refine (HDG.out _ HPW.out).mono ?_; rintro e w2 ⟨rfl, hb2⟩; have HO2 : Hid (OwnS (w2.alloc (.cells #[.string tx] 9)) M (.slice va' WW.length vc') WW) := World.ownsRow.alloc (HOS.out.later hb2) _; have HN2 : Hid ((w2.alloc (.cells #[.string tx] 9)).ownsRow Bn 3 1 (.slice (some ⟨nb, noff, none⟩) N.length nc) N.length (N.map (Value.int .i64))) := (HON.out.later hb2).row.alloc _; have HB2 : Hid (Below M W0 (w2.alloc (.cells #[.string tx] 9))) := (HBB.out.trans (hb2.mono hs9)).alloc (Nat.le_trans hs9 hb2.size) _; have hs2 : M ≤ w2.heap.size := Nat.le_trans hs9 hb2.size; clear hb2)
            | (at_builtin; refine wpList_append_own_at _ rfl _ _ 22 rfl M 9 iS (.string ⟨#[]⟩) 1 16 Tryz.underlying22 HJ.out HJ0.out HJ1.out HJ2.out rfl (by decide) _ WW.length (cellsS WW) rfl HO2.out ⟨w2.heap.size, 0, none⟩ 1 1 [.string tx] rfl rfl ?p1 ?p2 ?p3 ?p4 ?p5 ?_))
          case p1 => exact World.news_of_block (heap_alloc_new w2 (.cells #[.string tx] 9))
          case p2 => (intro u hu; simp at hu; subst hu; rfl)
          case p3 => (unfold maxLen; omega)
          case p4 => omega
          case p5 => (first | omega | (simp; omega))
          intro v1 w1 ho hg _ _
          have HOW : Hid (OwnS w1 M v1 (WW ++ [tx])) := by
            show World.ownsRow _ _ _ _ _ _ _
            rw [List.length_append, cellsS_snoc]
            exact ho
          have HNW : Hid (Own w1 Bn (.slice (some ⟨nb, noff, none⟩) N.length nc) N) := ⟨row_grown HN2.out hg (fun g h1 h2 => rows_apart HN2.out HO2.out (by decide) g h1 h2), HON.out.len⟩
          have HBW2 : Hid (Below M W0 w1) := HB2.out.grown hg (by simp; omega) (fun q hq => (World.ownsRow.lt HO2.out q hq).1)
          have hsw : M ≤ w1.heap.size := by have := HBW2.out.size; rw [HMM.out] at this; exact this
          clear ho hg
          go_wp2
          refine ⟨?_, ?_⟩
          · exact ⟨j + 1, by omega, by go_num, by rw [HTK.out]; exact HOW.out, HNW.out, HBW2.out, hsw⟩
          · (simp [intOf]; omega)
        · obtain rfl : j = N.length := by omega
          have HWL : Hid (WW = LT) := by
            show _ = _
            rw [← HWW.out, HLT.out.1, List.take_length]
          rw [HWL.out] at HOS hW1 hWl ⊢
          rcases HOS.out.2 with ⟨_, h0⟩ | ⟨g, cap, cur, e1, hg1, hg2, hg3, hg4, _, _⟩
          · omega
          · simp only [Value.slice.injEq] at e1
            obtain ⟨rfl, _, rfl⟩ := e1
            have hcells : ∀ (q : Nat) x, LT[q]? = some x → wr.cell? ⟨g, 0 + q, none⟩ = some (.string x) := fun q x hq => by
              have h := World.ownsRow.cells HOS.out (g := g) rfl q (.string x) (by simp [cellsS, hq])
              rw [addr_addW] at h
              exact h
            have hjl : (Lib.join (LT.map (·.data.toList)) [32]).length ≤ 105 := by
              have h1 := HX.out
              rw [HLX.out, ← join_g] at h1
              simpa [ByteArray.size] using h1
            have HJC : Hid (Calls Tryz.prog 67 #[.slice (some ⟨g, 0, none⟩) LT.length vc', .string ⟨#[32]⟩] wr fun e w' => e = .returned (.string LX) ∧ Below wr.heap.size wr w') := by
              have h := Tryz.strings_Join g 0 vc' LT ⟨#[32]⟩ wr hcells (Array.getElem?_eq_some_iff.1 hg2).1 (by omega) hg3 (by show (Lib.join _ [32]).length ≤ _; omega)
              rw [show (⟨(Lib.join (LT.map (·.data.toList)) (⟨#[32]⟩ : ByteArray).data.toList).toArray⟩ : ByteArray) = LX from (join_g LT).trans HLX.out.symm] at h
              exact h
            have gs : ¬ 9223372036854775807 < LX.size + 1 := by have := HX.out; omega
            have hbM : b0 ≤ M := by omega
            clear hg1 hg2 hg3 hg4 hcells hjl
            go_wp2_with (go_at_call 67; refine HJC.out.mono ?_; rintro e w3 ⟨rfl, hb3⟩; have HB3 : Hid (Below b0 W0 w3) := (HBB.out.mono hbM).trans (hb3.mono (by omega)); clear hb3)
            go_ret
            exact ⟨rfl, (by have h := HBW.out; rw [HB0.out] at h; exact h.trans HB3.out)⟩
end Go.Proofs.YtkojdigaoihkpaaGreatDoor

end
section
namespace Go.Proofs.YtkojdigaoihkpaaGreatDoor
set_option linter.unusedVariables false
set_option linter.unusedSimpArgs false
set_option maxRecDepth 100000
open Go.RowKit

theorem builder_later {w w' : World} {B b : Nat} {bs : List Value} (h : Lib.IsBuilderF 77 5 B b bs w) (hb : Below w.heap.size w w') : Lib.IsBuilderF 77 5 B b bs w' := by
  have key : ∀ p, Lib.BuilderAtF 77 5 B b p bs w → Lib.BuilderAtF 77 5 B b p bs w' := by
    rintro p ⟨h1, v, h2, h3, h4⟩
    refine ⟨h1, v, (hb.block b (Array.getElem?_eq_some_iff.1 h2).1).trans h2, ⟨h3.1, ?_⟩, h4⟩
    rcases h3.2 with h0 | ⟨g, cap, cur, fz, e1, e2, hh, e3⟩
    · exact Or.inl h0
    · exact Or.inr ⟨g, cap, cur, fz, e1, e2, (hb.block g (Array.getElem?_eq_some_iff.1 hh).1).trans hh, e3⟩
  exact h.imp (key _) (key _)
theorem builder_new (w : World) : Lib.IsBuilderF 77 5 w.heap.size w.heap.size [] (w.alloc (.cells #[.pointer none, .slice none 0 0] 77)) :=
  Or.inl ⟨Nat.le_refl _, .slice none 0 0, heap_alloc_new w _, ⟨rfl, Or.inl ⟨rfl, rfl⟩⟩, by simp [Value.ownBlock]⟩
theorem showN_step {L : List Nod} {k : Nat} (hk : k < L.length) : showN L (k + 1) = showN L k ++ (lineX L L[k] ++ nl) := by
  rw [showN, List.getElem?_eq_getElem hk]
  simp only
  rw [lineS_eq]
theorem byteCells_app (a b : ByteArray) : Lib.byteCells (a ++ b).data.toList = Lib.byteCells a.data.toList ++ Lib.byteCells b.data.toList := by
  rw [app_list]
  simp [Lib.byteCells]
/-- Where the showing is, behind k nodes. -/
def ShowK (w0 : World) (B : Nat) (L : List Nod) (iv : Value) (w' : World) : Prop :=
  ∃ k : Nat, k ≤ L.length ∧ iv = .int .i64 k ∧ Lib.IsBuilderF 77 5 B B (Lib.byteCells (showN L k).data.toList) w' ∧ Below B w0 w' ∧ B < w'.heap.size
set_option maxHeartbeats 16000000 in
theorem show_any {w : World} {v : Value} {L : List Nod} (h : NodesL w v L) (hs : Small L) (hP : PowT w) (q : Bool) (hq : grpB L = q) (R : ByteArray) (hR : (if q then showB L else ⟨#[]⟩) = R) (E : Int) (hE : (if q then 0 else 1) = E) :
    Calls Tryz.prog 18 #[v] w fun e w' => e = .returned (.tuple #[.string R, .int .i64 E]) ∧ Below w.heap.size w w' := by
  have HN : Hid (NodesL w v L) := h
  have HS : Hid (Small L) := hs
  have HPT : Hid (PowT w) := hP
  have HQ : Hid (grpB L = q) := hq
  obtain ⟨va, vc, rfl, hv1, hv2⟩ := h.shape
  unfold big at hv2
  obtain ⟨B, hB⟩ : ∃ B, w.heap.size = B := ⟨_, rfl⟩
  have HBE : Hid (w.heap.size = B) := hB
  obtain ⟨U, hU⟩ : ∃ U, U = w.alloc (.cells #[.pointer none, .slice none 0 0] 77) := ⟨_, rfl⟩
  have HUU : Hid (U = w.alloc (.cells #[.pointer none, .slice none 0 0] 77)) := hU
  have HBU : Hid (Below B w U) := by show Below _ _ _; rw [hU, ← hB]; exact Below.push (Below.refl _ _) _
  have HBL : Hid (Lib.IsBuilderF 77 5 B B [] U) := by show Lib.IsBuilderF _ _ _ _ _ _; rw [hU, ← hB]; exact builder_new w
  have HSU : Hid (B < U.heap.size) := by show _ < _; rw [hU, ← hB]; simp
  have HCK : Hid (∀ E0 : Int, (if q then 0 else 1) = E0 → Calls Tryz.prog 28 #[.slice va L.length vc] U fun e w' => e = .returned (.int .i64 E0) ∧ Below U.heap.size U w') := fun E0 hE0 => by
    have h9 := check8_any (HN.out.later (by rw [hB]; exact HBU.out) : NodesL U _ L) HS.out q HQ.out
    rw [hE0] at h9
    exact h9
  rw [hB]
  clear h hs hP hq hU hB
  cases q with
  | false =>
    obtain rfl : (⟨#[]⟩ : ByteArray) = R := hR
    obtain rfl : (1 : Int) = E := hE
    have HC1 := HCK.out 1 rfl
    have HC2 : Hid (Calls Tryz.prog 28 #[.slice va L.length vc] U fun e w' => e = .returned (.int .i64 1) ∧ Below U.heap.size U w') := HC1
    clear HC1
    go_enter Tryz.func18, Tryz.ntmps18
    go_upto_region 2 with fail
    rw [← HUU.out]
    go_wp2_with (go_at_call 28; refine HC2.out.mono ?_; rintro e w2 ⟨rfl, hb2⟩; have HB2 : Hid (Below B w w2) := HBU.out.trans (hb2.mono (Nat.le_of_lt HSU.out)); clear hb2)
    go_ret2
    exact ⟨rfl, HB2.out⟩
  | true =>
    obtain rfl : showB L = R := hR
    obtain rfl : (0 : Int) = E := hE
    have HG : Hid (grpB L = true) := HQ.out
    have HC2 : Hid (Calls Tryz.prog 28 #[.slice va L.length vc] U fun e w' => e = .returned (.int .i64 0) ∧ Below U.heap.size U w') := HCK.out 0 rfl
    obtain ⟨R, hR9⟩ : ∃ R, showB L = R := ⟨_, rfl⟩
    have HRR : Hid (showN L L.length = R) := hR9
    rw [hR9]
    clear hR9 HCK HQ
    go_enter Tryz.func18, Tryz.ntmps18
    go_upto_region 2 with fail
    rw [← HUU.out, HBE.out]
    go_wp2_with (go_at_call 28; refine HC2.out.mono ?_; rintro e w2 ⟨rfl, hb2⟩; have HB2 : Hid (Below B w w2) := HBU.out.trans (hb2.mono (Nat.le_of_lt HSU.out)); have HL2 : Hid (Lib.IsBuilderF 77 5 B B [] w2) := builder_later HBL.out hb2; have HS2 : Hid (B < w2.heap.size) := Nat.lt_of_lt_of_le HSU.out hb2.size; clear hb2)
    go_loopw [13] (fun iv w' => ShowK w B L iv w') (fun iv _ => L.length - (intOf iv).toNat)
    case atStart => exact ⟨0, Nat.zero_le _, rfl, HL2.out, HB2.out, HS2.out⟩
    case round =>
      obtain ⟨k, hk, rfl, hl9, hb9, hs9⟩ := hrel
      have HLB : Hid (Lib.IsBuilderF 77 5 B B (Lib.byteCells (showN L k).data.toList) wr) := hl9
      have HBB : Hid (Below B w wr) := hb9
      have HNW : Hid (NodesL wr (.slice va L.length vc) L) := HN.out.later (by rw [HBE.out]; exact hb9)
      have HPW : Hid (PowT wr) := HPT.out.stays (by rw [HBE.out]; exact hb9)
      clear hl9 hb9 HL2 HB2 HS2
      by_cases hlt : k < L.length
      · obtain ⟨b, off, y0, y1, rfl, hnd⟩ := HNW.out.row k hlt
        have d0 := hnd.c0
        have d1 := hnd.c1
        have d2 := hnd.c2
        have d3 := hnd.c3
        have d4 := hnd.c4
        obtain ⟨X, hX⟩ : ∃ X, lineX L L[k] ++ nl = X := ⟨_, rfl⟩
        have HXL : Hid (X.size ≤ 106) := by
          show _ ≤ _
          have h1 := lineX_size HG.out hlt
          rw [← hX, app_size]
          have : nl.size = 1 := rfl
          omega
        have HTK : Hid (showN L (k + 1) = showN L k ++ X) := by show _ = _; rw [showN_step hlt, hX]
        have HSN : Hid ((showN L k).size ≤ 2544) := showN_size HG.out k hk
        obtain ⟨ya0, yn0, yc0, rfl⟩ := hnd.a.shape3
        obtain ⟨ya1, yn1, yc1, rfl⟩ := hnd.d.shape3
        have HAA : Hid (Ints wr (.slice ya0 yn0 yc0) L[k].args) := hnd.a
        have HDD : Hid (Ints wr (.slice ya1 yn1 yc1) L[k].dims) := hnd.d
        obtain ⟨W, hW⟩ : ∃ W, W = wr.alloc (.cells #[.string L[k].name, .int .i64 L[k].kind, .slice ya0 yn0 yc0, .slice ya1 yn1 yc1, .int .i64 L[k].n] 55) := ⟨_, rfl⟩
        have HWW : Hid (W = wr.alloc (.cells #[.string L[k].name, .int .i64 L[k].kind, .slice ya0 yn0 yc0, .slice ya1 yn1 yc1, .int .i64 L[k].n] 55)) := hW
        have hbw : Below wr.heap.size wr W := by rw [hW]; exact Below.push (Below.refl _ _) _
        have HSC : Hid (Calls Tryz.prog 38 #[.agg #[.string L[k].name, .int .i64 L[k].kind, .slice ya0 yn0 yc0, .slice ya1 yn1 yc1, .int .i64 L[k].n], .slice (some ⟨b, off, none⟩) L.length vc] W fun e w' => e = .returned (.string X) ∧ Below W.heap.size W w') := by
          have h9 := shown_any (HNW.out.later hbw) HG.out k hlt (HAA.out.later hbw) (HDD.out.later hbw) (HPW.out.stays hbw)
          rw [hX] at h9
          exact h9
        have HLW : Hid (Lib.IsBuilderF 77 5 B B (Lib.byteCells (showN L k).data.toList) W) := builder_later HLB.out hbw
        have HBW : Hid (Below B w W) := HBB.out.trans (hbw.mono (Nat.le_of_lt hs9))
        have HSW : Hid (B < W.heap.size) := Nat.lt_of_lt_of_le hs9 hbw.size
        obtain ⟨nm, hnm⟩ : ∃ z, L[k].name = z := ⟨_, rfl⟩
        obtain ⟨kd, hkd⟩ : ∃ z, L[k].kind = z := ⟨_, rfl⟩
        obtain ⟨nn, hnn⟩ : ∃ z, L[k].n = z := ⟨_, rfl⟩
        have BX : Hid (BoxN W wr.heap.size #[.string L[k].name, .int .i64 L[k].kind, .slice ya0 yn0 yc0, .slice ya1 yn1 yc1, .int .i64 L[k].n]) := by show BoxN _ _ _; rw [hW]; exact BoxN.new wr _
        rw [hnm, hkd, hnn] at BX HSC HWW
        rw [hnm] at d0
        rw [hkd] at d1
        rw [hnn] at d4
        obtain ⟨bx, hbx⟩ : ∃ z, wr.heap.size = z := ⟨_, rfl⟩
        have HBXE : Hid (wr.heap.size = bx) := hbx
        rw [hbx] at BX
        have z0 : W.cell? ⟨bx, 0, none⟩ = some (.string nm) := BX.out.c 0
        have z1 : W.cell? ⟨bx, 1, none⟩ = some (.int .i64 kd) := BX.out.c 1
        have z2 : W.cell? ⟨bx, 2, none⟩ = some (.slice ya0 yn0 yc0) := BX.out.c 2
        have z3 : W.cell? ⟨bx, 3, none⟩ = some (.slice ya1 yn1 yc1) := BX.out.c 3
        have z4 : W.cell? ⟨bx, 4, none⟩ = some (.int .i64 nn) := BX.out.c 4
        have g1 : (k : Int) < L.length := by omega
        clear hX hW hbw hnd hnm hkd hnn hbx HAA HDD
        go_upto_region 7 with fail
        rw [← HWW.out, HBXE.out]
        have HWS : Hid (∀ w3, Below W.heap.size W w3 → Calls Tryz.prog 37 #[.pointer (some ⟨B, 0, none⟩), .string X] w3 fun e w' => e = .returned (.tuple #[.int .i64 X.size, .nilIface]) ∧ (Lib.BuilderAtF 77 5 B B (.pointer (some ⟨B, 0, none⟩)) (Lib.byteCells (showN L k).data.toList ++ Lib.strCells X) w' ∧ Below B w3 w')) := fun w3 hb3 =>
          Tryz.Builder_WriteString_f B B _ X w3 (builder_later HLW.out hb3) (by
            have h1 := HXL.out
            have h2 := HSN.out
            have h3 : (Lib.byteCells (showN L k).data.toList).length = (showN L k).size := by
              show (List.map _ _).length = _
              rw [List.length_map]
              exact len_list _
            omega) (by have := HSW.out; have := hb3.size; omega)
        go_wp2_with (first
          | (go_at_call 38; refine HSC.out.mono ?_; rintro e w3 ⟨rfl, hb3⟩; have HB3 : Hid (Below W.heap.size W w3) := hb3; have HBC : Hid (Below B w w3) := HBW.out.trans (hb3.mono (Nat.le_of_lt HSW.out)); have HS3 : Hid (B < w3.heap.size) := Nat.lt_of_lt_of_le HSW.out hb3.size; clear hb3)
          | (go_at_call 37; refine (HWS.out _ HB3.out).mono ?_; rintro e w4 ⟨rfl, hat, hb4⟩; have HL4 : Hid (Lib.IsBuilderF 77 5 B B (Lib.byteCells (showN L (k + 1)).data.toList) w4) := (by rw [HTK.out, byteCells_app]; exact Or.inr hat); have HB4 : Hid (Below B w w4) := HBC.out.trans hb4; have HS4 : Hid (B < w4.heap.size) := Nat.lt_of_lt_of_le HS3.out hb4.size; clear hat hb4))
        go_roundw
        case rel => exact ⟨k + 1, by omega, by go_num, HL4.out, HB4.out, HS4.out⟩
        case measure => simp [intOf]; omega
      · obtain rfl : k = L.length := by omega
        have HST : Hid (Calls Tryz.prog 39 #[.pointer (some ⟨B, 0, none⟩)] wr fun e w' => e = .returned (.string R) ∧ Below B wr w') := by
          have h9 := Tryz.Builder_String_any_f B B (showN L L.length).data.toList wr HLB.out (Nat.le_of_lt hs9)
          rw [HRR.out] at h9
          exact h9.mono fun e w' ⟨h1, _, h3⟩ => ⟨h1, h3⟩
        go_wp2_with (go_at_call 39; refine HST.out.mono ?_; rintro e w3 ⟨rfl, hb3⟩; have HB3 : Hid (Below B w w3) := HBB.out.trans hb3; clear hb3)
        go_ret2
        exact ⟨rfl, HB3.out⟩
end Go.Proofs.YtkojdigaoihkpaaGreatDoor

end
section
namespace Go.Proofs.YtkojdigaoihkpaaGreatDoor
set_option linter.unusedVariables false
set_option linter.unusedSimpArgs false
set_option maxRecDepth 100000
open Go.RowKit

theorem num9 (k : Int) (w : World) : Calls Tryz.prog 12 #[.int .i64 k] w fun e w' => e = .returned (.int .i64 k) ∧ w = w' := by
  go_enter Tryz.func12, Tryz.ntmps12
  go_wp2
  go_ret
  exact ⟨rfl, rfl⟩
def wak9 : List Nod := [⟨⟨#[97]⟩, 3, [], [1], 5⟩]
def wak9S : ByteArray := ⟨#[97, 32, 61, 32, 102, 105, 108, 108, 32, 53, 32, 49]⟩
theorem wak9_grp : grpB wak9 = true := by decide +kernel
theorem wak9_lines : linesL wak9S = [wak9S] := by decide +kernel
theorem wak9_bad : badW wak9S = none := by decide +kernel
theorem wak9_toks : (toksW wak9S).map Prod.fst = [⟨#[97]⟩, ⟨#[61]⟩, ⟨#[102, 105, 108, 108]⟩, ⟨#[53]⟩, ⟨#[49]⟩] := by decide +kernel
theorem wak9_line : lineT wak9 (wak9[0]'(by decide)) = [⟨#[97]⟩, ⟨#[61]⟩, ⟨#[102, 105, 108, 108]⟩, ⟨#[53]⟩, ⟨#[49]⟩] := by decide +kernel
theorem wak9_read : readF wak9S = (wak9, 0, 0) := by
  have hl := line_back wak9_grp (i := 0) (by decide)
  rw [wak9_line] at hl
  have hl2 : lineF [] [⟨#[97]⟩, ⟨#[61]⟩, ⟨#[102, 105, 108, 108]⟩, ⟨#[53]⟩, ⟨#[49]⟩] = ((0 : Int), wak9[0]'(by decide)) := hl
  rw [readF, if_neg (by decide), wak9_lines, readN, wak9_bad, if_neg (by decide)]
  have ht : ¬ toksW wak9S = [] := by
    intro e
    have h := wak9_toks
    rw [e] at h
    simp at h
  rw [if_neg ht, wak9_toks, hl2, if_pos rfl]
  show readN [] 1 ([] ++ [wak9[0]'(by decide)]) = _
  have e : ([] : List Nod) ++ [wak9[0]'(by decide)] = wak9 := rfl
  rw [e, readN, wak9_grp, if_pos rfl]
set_option maxHeartbeats 4000000 in
theorem wakes9 (w : World) (m : Int) (hm : w.cell? ⟨2, 0, none⟩ = some (.int .i64 m)) : Calls Tryz.prog 15 #[] w fun e w' => e = .returned (.bool true) ∧ Below w.heap.size w w' := by
  have HR : Hid (Calls Tryz.prog 10 #[.string wak9S] w fun e w' => ∃ v xs, e = .returned (.tuple #[v, .int .i64 0, .int .i64 0]) ∧ RowN w' w.heap.size v wak9 xs ∧ Small wak9 ∧ Below w.heap.size w w') := tread_any wak9S w m hm wak9 0 0 wak9_read
  go_enter Tryz.func15, Tryz.ntmps15
  go_wp2_with fail
  refine HR.out.mono ?_
  rintro e w2 ⟨v, xs, rfl, hr, -, hb⟩
  have hn := hr.nodesL (by decide)
  obtain ⟨va, vc, rfl, hv1, _⟩ := hn.shape
  obtain ⟨b, off, x, y, rfl, hnd⟩ := hn.row 0 (by decide)
  have d0 : w2.cell? ⟨b, off, none⟩ = some (.string ⟨#[97]⟩) := hnd.c0
  have d4 : w2.cell? ⟨b, off + 4, none⟩ = some (.int .i64 5) := hnd.c4
  have HB : Hid (Below w.heap.size w w2) := hb
  have hw : wak9.length = 1 := rfl
  rw [hw] at hv1 ⊢
  clear hr hn hnd hb hw
  go_wp2_with (go_at_call 12; refine (num9 _ _).mono ?_; rintro e w' ⟨rfl, rfl⟩)
  go_ret
  exact ⟨rfl, HB.out⟩
end Go.Proofs.YtkojdigaoihkpaaGreatDoor

end
section
namespace Go.Proofs.YtkojdigaoihkpaaGreatDoor
set_option linter.unusedVariables false
set_option linter.unusedSimpArgs false
set_option maxRecDepth 100000
open Go.RowKit

theorem nwF_ge : ∀ (L : List Nod) (n : Nat), n ≤ nwF n L
  | [], n => by simp [nwF]
  | t :: r, n => by
    rw [nwF]
    split
    · have := nwF_ge r (n + nodW t); omega
    · exact Nat.le_refl _
theorem nwF_each : ∀ (L : List Nod) (n : Nat), nwF n L ≤ 1200 → ∀ i (h : i < L.length), nodW L[i] ≤ 1200
  | t :: r, n, h, i, hi => by
    rw [nwF] at h
    split at h
    · cases i with
      | zero => have := nwF_ge r (n + nodW t); show nodW t ≤ 1200; omega
      | succ j => exact nwF_each r _ h j (by simpa using hi)
    · omega
theorem hvF_ge : ∀ (T : List (List Nod)) (n : Nat), n ≤ hvF n T
  | [], n => Nat.le_refl _
  | L :: r, n => by
    rw [hvF]
    split
    · have := hvF_ge r (n + nwF L.length L); omega
    · exact Nat.le_refl _
theorem hvF_each : ∀ (T : List (List Nod)) (n : Nat), hvF n T ≤ 1200 → ∀ i (h : i < T.length), nwF T[i].length T[i] ≤ 1200
  | L :: r, n, h, i, hi => by
    rw [hvF] at h
    split at h
    · cases i with
      | zero => have := hvF_ge r (n + nwF L.length L); show nwF L.length L ≤ 1200; omega
      | succ j => exact hvF_each r _ h j (by simpa using hi)
    · omega
theorem lsF_each : ∀ (l : List Nat) (x : Int), 0 ≤ x → lsF x l ≤ 1200 → ∀ a ∈ l, a ≤ 1200
  | b :: r, x, hx, h, a, ha => by
    rw [lsF] at h
    split at h
    · have hge := lsF_ge r (x + b)
      rcases List.mem_cons.1 ha with rfl | ha
      · omega
      · exact lsF_each r _ (by omega) h a ha
    · omega
structure Light (T : List (List Nod)) (N : List Int) (D : List (List Int)) : Prop where
  n : N.length ≤ 1200
  d : D.length ≤ 1200
  de : ∀ d ∈ D, d.length ≤ 1200
  t : ∀ i (h : i < T.length), T[i].length ≤ 1200
  te : ∀ i (h : i < T.length) k (g : k < T[i].length), nodW (T[i][k]) ≤ 1200
theorem hv_light {T : List (List Nod)} {N : List Int} {D : List (List Int)} (h : hv T N D ≤ 1200) : Light T N D := by
  have h1 := hvF_ge T (N.length + (lsF D.length (D.map List.length)).toNat)
  have h2 := hvF_each T _ h
  rw [hv] at h
  have h3 := lsF_ge (D.map List.length) D.length
  refine ⟨by omega, by omega, fun d hd => ?_, fun i hi => ?_, fun i hi k hk => ?_⟩
  · exact lsF_each (D.map List.length) D.length (by omega) (by omega) _ (List.mem_map_of_mem hd)
  · have := nwF_ge T[i] T[i].length
    have := h2 i hi
    omega
  · exact nwF_each T[i] _ (h2 i hi) k hk
theorem light_small {T : List (List Nod)} {N : List Int} {D : List (List Int)} (h : Light T N D) (i : Nat) (hi : i < T.length) : Small T[i] := by
  refine ⟨by have := h.t i hi; omega, fun k hk => ?_, fun k hk => ?_, fun k hk => ?_⟩ <;> (have := h.te i hi k hk; rw [nodW] at this; omega)
end Go.Proofs.YtkojdigaoihkpaaGreatDoor

end
section
namespace Go.Proofs.YtkojdigaoihkpaaGreatDoor
set_option linter.unusedVariables false
set_option linter.unusedSimpArgs false
set_option maxRecDepth 100000
open Go.RowKit

theorem ne_of_beq_false {a b : Int} (h : (a == b) = false) : ¬ a = b := by rw [beq_eq_false_iff_ne] at h; exact h
theorem widL_take (s : ByteArray) (k : Nat) (h : k < s.size) : widL (s.data.toList.take (k + 1)) = widL (s.data.toList.take k) ++ widC s[k] := by
  have hl : k < s.data.toList.length := by rw [len_list]; exact h
  rw [List.take_succ_eq_append_getElem hl, widL_app, get_list s k h hl]
  simp [widL]
theorem widL_bound (u : List UInt8) : (widL u).length ≤ 7 * u.length := by
  have h1 := widL_len u
  have h2 : u.countP (fun c => decide (c.toNat = 10)) ≤ u.length := List.countP_le_length
  omega
/-- What has been laid wide. -/
def widP (s : ByteArray) (k : Nat) : ByteArray := rem0 ++ nl ++ ⟨(widL (s.data.toList.take k)).toArray⟩
theorem widP_all (s : ByteArray) : widP s s.size = wideB s := by rw [widP, ← len_list, List.take_length]; rfl
theorem widP_zero (s : ByteArray) : widP s 0 = ⟨#[35, 32, 97, 32, 114, 101, 109, 97, 114, 107, 10]⟩ := by
  rw [widP, List.take_zero]
  rfl
theorem widP_size (s : ByteArray) (k : Nat) (h : k ≤ s.size) (h9 : s.size ≤ 900) : (widP s k).size ≤ 7000 := by
  have h1 := widL_bound (s.data.toList.take k)
  have h2 : (s.data.toList.take k).length ≤ k := List.length_take_le _ _
  rw [widP, app_size, app_size]
  have h3 : (⟨(widL (s.data.toList.take k)).toArray⟩ : ByteArray).size = (widL (s.data.toList.take k)).length := by simp [ByteArray.size]
  have h4 : rem0.size = 10 := rfl
  have h5 : nl.size = 1 := rfl
  omega
theorem widP_step (s : ByteArray) (k : Nat) (h : k < s.size) : widP s (k + 1) = widP s k ++ ⟨(widC s[k]).toArray⟩ := by
  rw [widP, widP, widL_take s k h]
  apply ext_list
  simp [app_list]
theorem one_byte (s : ByteArray) (k : Nat) (h : k < s.size) : s.extract k (k + 1) = ⟨#[s[k]]⟩ := by
  apply ext_list
  rw [ByteArray.data_extract]
  have hl : k < s.data.size := h
  apply List.ext_getElem
  · simp; omega
  · intro i h1 h2
    have : i = 0 := by simp at h2; omega
    subst this
    simp
    rfl
set_option maxRecDepth 1000000 in
set_option maxHeartbeats 16000000 in
theorem textBack9 {f0 f1 f2 : Value} {T : List (List Nod)} {N : List Int} {D : List (List Int)} {w : World} (h0 : NodesLL w f0 T) (h1 : Ints w f1 N) (h2 : IntsL w f2 D) (hP : PowT w) (m : Int) (hm : w.cell? ⟨2, 0, none⟩ = some (.int .i64 m)) :
    Calls Tryz.prog 5 #[.agg #[f0, f1, f2]] w fun e w' => e = .returned (.bool true) ∧ Below w.heap.size w w' := by
  have H0 : Hid (NodesLL w f0 T) := h0
  have H1 : Hid (Ints w f1 N) := h1
  have H2 : Hid (IntsL w f2 D) := h2
  have HPT : Hid (PowT w) := hP
  have HMX : Hid (w.cell? ⟨2, 0, none⟩ = some (.int .i64 m)) := hm
  obtain ⟨hTb, a0, k0, rfl, hTc, hTr⟩ := h0
  obtain ⟨a1, n1, k1, rfl⟩ := h1.shape3
  obtain ⟨a2, n2, k2, rfl⟩ : ∃ a n c, f2 = .slice a n c := by obtain ⟨_, a, c, e, _⟩ := h2; exact ⟨a, _, c, e⟩
  unfold big at hTb
  obtain ⟨U, hU⟩ : ∃ U, U = w.alloc (.cells #[.slice a0 T.length k0, .slice a1 n1 k1, .slice a2 n2 k2] 42) := ⟨_, rfl⟩
  have HUU : Hid (U = w.alloc (.cells #[.slice a0 T.length k0, .slice a1 n1 k1, .slice a2 n2 k2] 42)) := hU
  have hb : Below w.heap.size w U := by rw [hU]; exact Below.push (Below.refl _ _) _
  have HB : Hid (Below w.heap.size w U) := hb
  have HU0 : Hid (U.cell? ⟨w.heap.size, 0, none⟩ = some (.slice a0 T.length k0)) := by show _ = _; rw [hU]; simp
  have HT0 : Hid (NodesLL U (.slice a0 T.length k0) T) := H0.out.later hb
  have HPU : Hid (PowT U) := hP.stays hb
  have HMU : Hid (U.cell? ⟨2, 0, none⟩ = some (.int .i64 m)) := cell_later hb hm
  obtain ⟨bh, hbh⟩ : ∃ bh, decide (1200 < hv T N D) = bh := ⟨_, rfl⟩
  have HBH : Hid (decide (1200 < hv T N D) = bh) := hbh
  clear h1 h2 hb hTr hU hbh hP hm
  cases bh with
  | true =>
    go_enter Tryz.func5, Tryz.ntmps5
    go_wp2_with fail
    rw [← HUU.out]
    refine (heavy8_any (H0.out.later HB.out) (H1.out.later HB.out) (H2.out.later HB.out) true HBH.out).mono ?_
    rintro e w1 ⟨rfl, hb1⟩
    have HB1 : Hid (Below w.heap.size w w1) := Below.after HB.out hb1
    clear hb1
    go_wp2
    go_ret
    exact ⟨rfl, HB1.out⟩
  | false =>
    have HLI : Hid (Light T N D) := hv_light (by have := of_decide_eq_false HBH.out; omega)
    go_enter Tryz.func5, Tryz.ntmps5
    go_wp2_with fail
    rw [← HUU.out]
    refine (heavy8_any (H0.out.later HB.out) (H1.out.later HB.out) (H2.out.later HB.out) false HBH.out).mono ?_
    rintro e w1 ⟨rfl, hb1⟩
    have HB1 : Hid (Below U.heap.size U w1) := hb1
    clear hb1
    go_wp2
    go_loopw [3] (fun i w' => ∃ k : Nat, k ≤ T.length ∧ k ≤ 6 ∧ i = .int .i64 k ∧ Hid (Below U.heap.size U w')) (fun i _ => 6 - (intOf i).toNat)
    case atStart => exact ⟨0, Nat.zero_le _, by omega, rfl, HB1.out⟩
    case round =>
      obtain ⟨k, hk, hk6, rfl, HBR⟩ := hrel
      have c0 := cell_later HBR.out HU0.out
      have HMR : Hid (wr.cell? ⟨2, 0, none⟩ = some (.int .i64 m)) := cell_later HBR.out HMU.out
      by_cases hlt : k < T.length ∧ k < 6
      case neg =>
        by_cases hlt1 : k < T.length
        · have h6 : k = 6 := by omega
          subst h6
          have g1 : ((6 : Nat) : Int) < T.length := by omega
          clear hlt
          go_wp2_with (go_at_call 15; refine (wakes9 _ m HMR.out).mono ?_; rintro e w9 ⟨rfl, hb9⟩; have HB9 : Hid (Below w.heap.size w w9) := Below.after HB.out (Below.after HBR.out hb9); clear hb9)
          go_ret
          exact ⟨rfl, HB9.out⟩
        · have g1 : ¬ (k : Int) < T.length := by omega
          clear hlt
          go_wp2_with (go_at_call 15; refine (wakes9 _ m HMR.out).mono ?_; rintro e w9 ⟨rfl, hb9⟩; have HB9 : Hid (Below w.heap.size w w9) := Below.after HB.out (Below.after HBR.out hb9); clear hb9)
          go_ret
          exact ⟨rfl, HB9.out⟩
      case pos =>
      obtain ⟨hlt1, hlt6⟩ := hlt
      obtain ⟨b, off, x, rfl, hc, hnl⟩ := (HT0.out.later HBR.out).row k hlt1
      have HNL : Hid (NodesL wr x T[k]) := hnl
      have HSM : Hid (Small T[k]) := light_small HLI.out k hlt1
      obtain ⟨la, lc, rfl, hlc, hlb⟩ := hnl.shape
      have g1 : (k : Int) < T.length := by omega
      have g6 : (k : Int) < 6 := by omega
      have HCC : Hid (∀ w', Below wr.heap.size wr w' → w'.cell? ⟨w.heap.size, 0, none⟩ = some (.slice (some ⟨b, off, none⟩) T.length k0) ∧ w'.cell? ⟨b, off + k, none⟩ = some (.slice la T[k].length lc)) := fun w' hb => ⟨cell_later hb c0, cell_later hb hc⟩
      generalize T[k] = L at HNL HSM hc hlc HCC
      have HPR : Hid (PowT wr) := HPU.out.stays HBR.out
      clear hlb hnl
      cases hq : grpB L with
      | false =>
        have HSH : Hid (Calls Tryz.prog 18 #[.slice la L.length lc] wr fun e w' => e = .returned (.tuple #[.string ⟨#[]⟩, .int .i64 1]) ∧ Below wr.heap.size wr w') := show_any HNL.out HSM.out HPR.out false hq ⟨#[]⟩ rfl 1 rfl
        clear hq
        go_wp2_with (first
          | (go_at_call 18; refine HSH.out.mono ?_; rintro e w2 ⟨rfl, hb2⟩; have HB2 : Hid (Below U.heap.size U w2) := Below.after HBR.out hb2; clear hb2)
          | (go_at_call 12; refine (num9 _ _).mono ?_; rintro e w' ⟨rfl, rfl⟩))
        go_roundw
        case rel => exact ⟨k + 1, by omega, by omega, by go_num, HB2.out⟩
        case measure => simp [intOf]; omega
      | true =>
        obtain ⟨s, hs⟩ : ∃ s, showB L = s := ⟨_, rfl⟩
        have HG : Hid (grpB L = true) := hq
        have HSB : Hid (showB L = s) := hs
        have HSH : Hid (Calls Tryz.prog 18 #[.slice la L.length lc] wr fun e w' => e = .returned (.tuple #[.string s, .int .i64 0]) ∧ Below wr.heap.size wr w') := show_any HNL.out HSM.out HPR.out true hq s hs 0 rfl
        clear hq hs
        by_cases h9 : s.size ≤ 900
        case neg =>
          have g9 : (900 : Int) < (s.size : Int) := by omega
          clear h9
          go_wp2_with (first
            | (go_at_call 18; refine HSH.out.mono ?_; rintro e w2 ⟨rfl, hb2⟩; have HB2 : Hid (Below U.heap.size U w2) := Below.after HBR.out hb2; clear hb2)
            | (go_at_call 12; refine (num9 _ _).mono ?_; rintro e w' ⟨rfl, rfl⟩))
          go_roundw
          case rel => exact ⟨k + 1, by omega, by omega, by go_num, HB2.out⟩
          case measure => simp [intOf]; omega
        case pos =>
        have HRD1 : Hid (readF s = (L, 0, 0)) := by show _ = _; rw [← HSB.out]; exact read_show' HG.out
        have HRD2 : Hid (readF (wideB s) = (L, 0, 0)) := by
          show _ = _
          rw [← HSB.out]
          exact read_wide HG.out (wide_size HG.out (by rw [HSB.out]; exact h9))
        have g9 : ¬ (900 : Int) < (s.size : Int) := by omega
        go_wp2_with (first
          | (go_at_call 18; refine HSH.out.mono ?_; rintro e w2 ⟨rfl, hb2⟩; have HB2 : Hid (Below wr.heap.size wr w2) := hb2; obtain ⟨c1, c2⟩ := HCC.out w2 hb2; have HM2 : Hid (w2.cell? ⟨2, 0, none⟩ = some (.int .i64 m)) := cell_later hb2 HMR.out; clear hb2)
          | (go_at_call 12; refine (num9 _ _).mono ?_; rintro e w' ⟨rfl, rfl⟩))
        refine (tread_any s w2 m HM2.out L 0 0 HRD1.out).mono ?_
        rintro e w3 ⟨v3, xs3, rfl, hr3, -, hb3⟩
        have HN3 : Hid (NodesL w3 v3 L) := hr3.nodesL (by have := HNL.out.1; exact this)
        obtain ⟨a3, c3, e3, _⟩ := HN3.out.shape
        subst e3
        have HB3 : Hid (Below wr.heap.size wr w3) := Below.after HB2.out hb3
        obtain ⟨c4, c5⟩ := HCC.out w3 HB3.out
        clear hr3 hb3 c1 c2
        go_wp2_with (first
          | (go_at_call 12; refine (num9 _ _).mono ?_; rintro e w' ⟨rfl, rfl⟩)
          | (go_at_call 13; refine (eqNs_same HN3.out (HNL.out.later HB3.out)).mono ?_; rintro e w4 ⟨rfl, hb4⟩; have HB4 : Hid (Below wr.heap.size wr w4) := Below.after HB3.out hb4; clear hb4))
        go_loop [9, 10] (fun wv iv => ∃ j : Nat, j ≤ s.size ∧ iv = .int .i64 j ∧ wv = .string (widP s j)) (fun _ iv => s.size - (intOf iv).toNat)
        case atStart => exact ⟨0, Nat.zero_le _, rfl, by rw [widP_zero]⟩
        case round =>
          obtain ⟨j, hj, rfl, rfl⟩ := hrel
          have hps := widP_size s j hj h9
          by_cases hjl : j < s.size
          · have gj : (j : Int) < (s.size : Int) := by omega
            have HWS : Hid (widP s (j + 1) = widP s j ++ ⟨(widC s[j]).toArray⟩) := widP_step s j hjl
            go_wp2
            · rename_i h32
              have e32 := eq_of_beq h32
              exact ⟨⟨j + 1, by omega, by go_num, by rw [HWS.out, widC, if_pos (by omega)]⟩, by simp [intOf]; omega⟩
            · rename_i h32 h10
              have e32 := ne_of_beq_false h32
              have e10 := eq_of_beq h10
              exact ⟨⟨j + 1, by omega, by go_num, by rw [HWS.out, widC, if_neg (by omega), if_pos (by omega)]⟩, by simp [intOf]; omega⟩
            · rename_i h32 h10
              have e32 := ne_of_beq_false h32
              have e10 := ne_of_beq_false h10
              exact ⟨⟨j + 1, by omega, by go_num, by rw [HWS.out, widC, if_neg (by omega), if_neg (by omega), one_byte s j hjl]⟩, by simp [intOf]; omega⟩
          · obtain rfl : j = s.size := by omega
            rw [widP_all s] at hps ⊢
            obtain ⟨ws, hws⟩ : ∃ z, wideB s = z := ⟨_, rfl⟩
            rw [hws] at hps HRD2 ⊢
            have HM4 : Hid (w4.cell? ⟨2, 0, none⟩ = some (.int .i64 m)) := cell_later HB4.out HMR.out
            clear hws
            go_wp2_with fail
            refine (tread_any ws w4 m HM4.out L 0 0 HRD2.out).mono ?_
            rintro e w5 ⟨v5, xs5, rfl, hr5, -, hb5⟩
            have HN5 : Hid (NodesL w5 v5 L) := hr5.nodesL (by have := HNL.out.1; exact this)
            obtain ⟨a5, c7, e5, _⟩ := HN5.out.shape
            subst e5
            have HB5 : Hid (Below wr.heap.size wr w5) := Below.after HB4.out hb5
            have HSH5 : Hid (Calls Tryz.prog 18 #[.slice a5 L.length c7] w5 fun e w' => e = .returned (.tuple #[.string s, .int .i64 0]) ∧ Below w5.heap.size w5 w') := show_any HN5.out HSM.out (HPR.out.stays HB5.out) true HG.out s HSB.out 0 rfl
            clear hr5 hb5
            go_wp2_with (first
              | (go_at_call 18; refine HSH5.out.mono ?_; rintro e w6 ⟨rfl, hb6⟩; have HB6 : Hid (Below wr.heap.size wr w6) := Below.after HB5.out hb6; have HN6 : Hid (NodesL w6 (.slice a5 L.length c7) L) := HN5.out.later hb6; obtain ⟨c8, c9⟩ := HCC.out w6 HB6.out; clear hb6)
              | (go_at_call 12; refine (num9 _ _).mono ?_; rintro e w' ⟨rfl, rfl⟩)
              | (go_at_call 13; refine (eqNs_same HN6.out (HNL.out.later HB6.out)).mono ?_; rintro e w7 ⟨rfl, hb7⟩; have HB7 : Hid (Below U.heap.size U w7) := Below.after HBR.out (Below.after HB6.out hb7); clear hb7))
            first
              | (go_roundw
                 case rel => exact ⟨k + 1, by omega, by omega, by go_num, HB7.out⟩
                 case measure => (simp [intOf]; omega))
              | exact ⟨⟨k + 1, by omega, by omega, by go_num, HB7.out⟩, by simp [intOf]; omega⟩
end Go.Proofs.YtkojdigaoihkpaaGreatDoor

end
section
namespace Go.Proofs.YtkojdigaoihkpaaGreatDoor
set_option linter.unusedVariables false
set_option maxRecDepth 100000
open Go.ChangeShapes Go.WideShapes Go.ChangeAt Go.RowKit Go.Lib

theorem back9_met {W : World} (h : laidMetH Tryz.prog Rows.textBackRow.laid W) : PowT W := pow_met (Lib.laidMet.reads h (.tail _ (.tail _ (.head _))))
theorem maxlen_met {W : World} (hs : W.ShapedOpen Tryz.prog) : ∃ m, W.cell? ⟨2, 0, none⟩ = some (.int .i64 m) :=
  Go.Proofs.cell_of_shapedOpen_int (zero := #[.int .i64 0]) (t := 3) hs (of_decide_eq_true (by kernel_rfl)) (by kernel_rfl) rfl (by kernel_rfl) (by kernel_rfl) Tryz.underlying3
noncomputable def laidWorld9 (os : Os) : World :=
  { World.holding Tryz.prog os ⟨#[], #[], []⟩ with heap := (((((World.holding Tryz.prog os ⟨#[], #[], []⟩).heap.modify 4 (putV (cellsV (H := Unit) Rows.laid_math_bits_deBruijn32tab))).modify 5 (putV (cellsV (H := Unit) Rows.laid_math_bits_deBruijn64tab))).modify 3 (putV (cellsV (H := Unit) Rows.laid_internal_strconv_uint64pow10))).modify 1 (putV (cellsV (H := Unit) Rows.laid_unicode_utf8_acceptRanges))).modify 0 (putV (cellsV (H := Unit) Rows.laid_unicode_utf8_first)) }
theorem backW9_met (os : Os) : laidMet Tryz.prog Rows.textBackRow.laid ((laidWorld9 os).forCall (fun _ _ => 0) ⟨#[], #[.agg #[.slice none 0 0, .slice none 0 0, .slice none 0 0]], []⟩).memory :=
  laidMet_of_run' 8 (by kernel_rfl) (by kernel_rfl)
end Go.Proofs.YtkojdigaoihkpaaGreatDoor

end
