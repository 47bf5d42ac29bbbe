/- The law on parts: the walk. -/
import Derived.Test.YtipioeecgcljoaaDoorW13
import Derived.Laws.BytesString
namespace Go.Proofs.YtipioeecgcljoaaDoor
set_option linter.unusedVariables false
set_option linter.unusedSimpArgs false
set_option maxRecDepth 100000
open Go.RowKit

theorem infoN' : (Tryd.prog.info? 3).map (fun i => (i.zero, i.size, i.bytes)) = some (some (.int .i64 0), 1, 8) := by kernel_rfl
theorem infoN : ∃ i, Tryd.prog.info? 3 = some i ∧ i.zero = some (.int .i64 0) ∧ i.size = 1 ∧ i.bytes = 8 := by
  have h := infoN'
  cases e : Tryd.prog.info? 3 with
  | none => rw [e] at h; simp at h
  | some i => rw [e] at h; simp at h; exact ⟨i, rfl, h⟩
theorem infoB' : (Tryd.prog.info? 5).map (fun i => (i.zero, i.size, i.bytes)) = some (some (.int .u8 0), 1, 1) := by kernel_rfl
theorem infoB : ∃ i, Tryd.prog.info? 5 = some i ∧ i.zero = some (.int .u8 0) ∧ i.size = 1 ∧ i.bytes = 1 := by
  have h := infoB'
  cases e : Tryd.prog.info? 5 with
  | none => rw [e] at h; simp at h
  | some i => rw [e] at h; simp at h; exact ⟨i, rfl, h⟩
theorem made_at (j : Nat) (hj : j < 3001) : (madeCells (Value.int .u8 0).cells (3001 * 1))[j]? = some (.int .u8 0) := by
  generalize hn : 3001 * 1 = n
  have hj2 : j < n := by omega
  simp [madeCells, Value.cells, hj2, Nat.mod_one]
noncomputable def zeros : ByteArray := ⟨(List.replicate 3001 (0 : UInt8)).toArray⟩
theorem zeros_size : zeros.size = 3001 := by
  show (List.replicate 3001 (0 : UInt8)).toArray.size = 3001
  rw [List.size_toArray, List.length_replicate]
theorem zeros_le : zeros.size ≤ 1000000 := by rw [zeros_size]; decide
theorem zeros_bad : ¬ lFine zeros = true := by rw [lFine, zeros_size]; decide
theorem zeros_run {B : Nat} {w3 : World} (ho : w3.ownsRow B 5 1 (.slice (some ⟨B, 0, none⟩) 3001 3001) 3001 (madeCells (Value.int .u8 0).cells (3001 * 1)).toList) :
    (convert 49 9 (.slice (some ⟨B, 0, none⟩) 3001 3001)).run Tryd.prog w3 = .ok (.string zeros) w3 := by
  have h := run_convert_bytes_back (P := Tryd.prog) w3 49 9 5 ⟨B, 0, none⟩ 3001 (List.replicate 3001 0) Tryd.underlying49 Tryd.underlying5 Tryd.underlying9 (fun j hj => by
    refine ho.cells (g := B) rfl j _ ?_
    rw [List.length_replicate] at hj
    rw [List.getElem_replicate]
    rw [Array.getElem?_toList]
    exact made_at j hj)
  rw [List.length_replicate] at h
  exact h
set_option maxHeartbeats 40000000 in
theorem parts_any {Tb : World → Prop} (hC : WordC Tb) {f0 f1 : Value} {S : List ByteArray} {N : List Int} {w : World} (h0 : Strs w f0 S) (h1 : Nums w f1 N) (hT : Tb w)
    (hWK : ∀ w, Tb w → Calls Tryd.prog 21 #[] w fun e w' => e = .returned (.bool true) ∧ Below w.heap.size w w') :
    Calls Tryd.prog 3 #[.agg #[f0, f1]] w fun e w' => e = .returned (.bool true) ∧ Below w.heap.size w w' := by
  have HC : Hid (WordC Tb) := hC
  have HWK : Hid (∀ w, Tb w → Calls Tryd.prog 21 #[] w fun e w' => e = .returned (.bool true) ∧ Below w.heap.size w w') := hWK
  obtain ⟨iB, hj, hj0, hj1, hj2⟩ := infoB
  have HJ : Hid (Tryd.prog.info? 5 = some iB) := hj
  have HJ0 : Hid (iB.zero = some (.int .u8 0)) := hj0
  have HJ1 : Hid (iB.size = 1) := hj1
  have HJ2 : Hid (iB.bytes = 1) := hj2
  clear hWK hj hj0 hj1 hj2
  have HT : Hid (Tb w) := hT
  obtain ⟨⟨a1, c1, rfl, hn⟩, hnl, hne⟩ := h1
  have HN : Hid (∀ j u, (N.map (Value.int .i64))[j]? = some u → ∃ b off, a1 = some ⟨b, off, none⟩ ∧ w.cell? ⟨b, off + j, none⟩ = some u) := hn
  have HNE : Hid (∀ x ∈ N, -9223372036854775808 ≤ x ∧ x ≤ 9223372036854775807) := hne
  have HY : Hid (∀ {w : World}, Strs w f0 S → Calls Tryd.prog 7 #[.agg #[f0, .slice a1 N.length c1]] w fun e w' => (∃ b : Bool, e = .returned (.bool b) ∧ (b = false → (S.length ≤ 7000 ∧ ∀ i (h : i < S.length), S[i].size ≤ 7000) ∧ N.length ≤ 7000)) ∧ Below w.heap.size w w') := fun h => heavy_any h (by omega)
  obtain ⟨⟨p, c0, rfl, hr⟩, hlen, heach⟩ := h0
  have HS : Hid (Strs w (.slice p S.length c0) S) := ⟨⟨p, c0, rfl, hr⟩, hlen, heach⟩
  have HR0 : Hid (∀ j u, (cellsS S)[j]? = some u → ∃ b off, p = some ⟨b, off, none⟩ ∧ w.cell? ⟨b, off + j, none⟩ = some u) := hr
  clear hC hT hn hne hr heach hlen
  obtain ⟨iN, hi, hz0, hz1, hz2⟩ := infoN
  have HI : Hid (Tryd.prog.info? 3 = some iN) := hi
  have HZ0 : Hid (iN.zero = some (.int .i64 0)) := hz0
  have HZ1 : Hid (iN.size = 1) := hz1
  have HZ2 : Hid (iN.bytes = 8) := hz2
  clear hi hz0 hz1 hz2
  go_enter Tryd.func3, Tryd.ntmps3
  go_wp2_with fail
  have hbx : Below w.heap.size w (w.alloc (.cells #[.slice p S.length c0, .slice a1 N.length c1] 25)) := Below.push (Below.refl _ _) _
  refine (HY.out (HS.out.later hbx)).mono ?_
  rintro e V ⟨⟨bH, rfl, hH⟩, hb2⟩
  have HD0 : Hid (V.cell? ⟨w.heap.size, 0, none⟩ = some (.slice p S.length c0)) := cell_later hb2 (by simp)
  have HD1 : Hid (V.cell? ⟨w.heap.size, 1, none⟩ = some (.slice a1 N.length c1)) := cell_later hb2 (by simp)
  have HBV : Hid (Below w.heap.size w V) := Below.after hbx hb2
  have HTV : Hid (Tb V) := HC.out.later HT.out HBV.out
  have HR : Hid (∀ j u, (cellsS S)[j]? = some u → ∃ b off, p = some ⟨b, off, none⟩ ∧ V.cell? ⟨b, off + j, none⟩ = some u) := fun j u hu => by
    obtain ⟨b, off, h, hc⟩ := HR0.out j u hu
    exact ⟨b, off, h, cell_later HBV.out hc⟩
  clear hbx hb2
  cases bH with
  | true =>
    clear hH
    go_wp2
    go_ret
    exact ⟨rfl, HBV.out⟩
  | false =>
    obtain ⟨⟨hS, hE⟩, hN⟩ := hH rfl
    have HE : Hid (∀ i (h : i < S.length), S[i].size ≤ 7000) := hE
    clear hH hE
    obtain ⟨B, hB⟩ : ∃ B, w.heap.size = B := ⟨_, rfl⟩
    rw [hB] at HD0 HD1 ⊢
    have HBS : Hid (w.heap.size = B) := hB
    clear hB
    go_wp2
    go_loopw [3] (fun i wr => ∃ k : Nat, k ≤ S.length ∧ i = .int .i64 k ∧ Hid (Below V.heap.size V wr)) (fun i _ => S.length - (intOf i).toNat)
    case atStart => exact ⟨0, Nat.zero_le _, rfl, Below.refl _ _⟩
    case round =>
      obtain ⟨k, hk, rfl, HB⟩ := hrel
      have d0 := cell_later HB.out HD0.out
      by_cases hlt : k < S.length
      · by_cases h8 : k < 8
        · have g8 : (k : Int) < 8 := by omega
          obtain ⟨b, off, ea, hx0⟩ := HR.out k _ (cellsS_at S k hlt)
          subst ea
          have hx1 := cell_later HB.out hx0
          have hx7 := HE.out k hlt
          obtain ⟨x, hx⟩ : ∃ x, S[k] = x := ⟨_, rfl⟩
          rw [hx] at hx1 hx7
          clear hx hx0
          obtain ⟨qN, hqN⟩ : ∃ q, nameB x = q := ⟨_, rfl⟩
          have HQN : Hid (nameB x = qN) := hqN
          obtain ⟨eN, heN, hcN⟩ := err_cases (nameB x) 1 (by decide)
          have HEN : Hid ((if nameB x = true then (0 : Int) else 1) = eN) := heN
          have gN : ((eN : Int) == 0) = qN := by rw [← hqN]; rcases hcN with ⟨rfl, h⟩ | ⟨rfl, h⟩ <;> rw [h] <;> rfl
          clear hqN heN hcN
          obtain ⟨V1, hV1⟩ : ∃ V1, numV x.data.toList = V1 := ⟨_, rfl⟩
          have HLW : Hid ((wTok x).length ≤ 1000000000) := by have := toksW_len x; show _ ≤ _; omega
          have HLL : Hid ((lTxt x).length ≤ 1000000000) := by have := lTxt_len x; show _ ≤ _; omega
          clear hV1 V1
          obtain ⟨eU, heU, hcU⟩ := err_cases (numK x.data.toList) 1 (by decide)
          have HEU : Hid ((if numK x.data.toList = true then (0 : Int) else 1) = eU) := heU
          obtain ⟨eW, heW, hcW⟩ := err_cases (wFine x) 5 (by decide)
          have HEW : Hid ((if wFine x = true then (0 : Int) else 5) = eW) := heW
          obtain ⟨eL, heL, hcL⟩ := err_cases (lFine x) 2 (by decide)
          have HEL : Hid ((if lFine x = true then (0 : Int) else 2) = eL) := heL
          clear heU heW heL
          rcases hcU with ⟨rfl, hkU⟩ | ⟨rfl, hkU⟩
          all_goals
            have HKU : Hid (_ = _) := hkU
            clear hkU
            rcases hcW with ⟨rfl, hkW⟩ | ⟨rfl, hkW⟩
          all_goals
            have HKW : Hid (_ = _) := hkW
            clear hkW
            rcases hcL with ⟨rfl, hkL⟩ | ⟨rfl, hkL⟩
          all_goals
            have HKL : Hid (_ = _) := hkL
            clear hkL
          all_goals
            go_wp2_with (first
                | (go_at_call 10; refine (num_to _ _).mono ?_; rintro e w2 ⟨rfl, rfl⟩)
                | (go_at_call 8; refine (HC.out.number _ _ (by omega) (HC.out.later HTV.out HB.out)).mono ?_; rw [HEU.out]; rintro e w2 ⟨rfl, hb2⟩; have HB : Hid (Below V.heap.size V w2) := Below.after HB.out hb2; clear hb2)
                | (go_at_call 9; refine (rnumber_to _ _ (by omega)).mono ?_; rw [HKU.out]; rintro e w2 ⟨rfl, rfl⟩)
                | (go_at_call 11; refine (HC.out.name _ _ (by omega) (HC.out.later HTV.out HB.out)).mono ?_; rw [HEN.out]; rintro e w2 ⟨rfl, hb2⟩; have HB : Hid (Below V.heap.size V w2) := Below.after HB.out hb2; clear hb2)
                | (go_at_call 12; refine (rname_to _ _ (by omega) (HC.out.utf (HC.out.later HTV.out HB.out)) qN HQN.out).mono ?_; rintro e w2 ⟨rfl, hb2⟩; have HB : Hid (Below V.heap.size V w2) := Below.after HB.out hb2; clear hb2)
                | (go_at_call 13; refine (HC.out.words _ _ (by omega) (HC.out.later HTV.out HB.out)).mono ?_; rw [HEW.out]; rintro e w2 ⟨⟨v1, rfl, hh⟩, hb2⟩; have HV1 : Hid (Holds w2 v1 (wTok x).length (cellsT (wTok x))) := hh; have HB : Hid (Below V.heap.size V w2) := Below.after HB.out hb2; clear hh hb2)
                | (go_at_call 14; refine (rwords_to _ _ (by omega) (HC.out.utf (HC.out.later HTV.out HB.out))).mono ?_; rw [HKW.out]; rintro e w2 ⟨⟨v2, rfl, hh⟩, hb2⟩; have HV2 : Hid (Holds w2 v2 (wTok x).length (cellsT (wTok x))) := hh; have HV1 : Hid (Holds w2 v1 (wTok x).length (cellsT (wTok x))) := HV1.out.later hb2; have HB : Hid (Below V.heap.size V w2) := Below.after HB.out hb2; clear hh hb2)
                | (go_at_call 15; refine (eqtok_any HV1.out HV2.out HLW.out).mono ?_; rw [show decide (wTok x = wTok x) = true from decide_eq_true rfl]; rintro e w2 ⟨rfl, n2, rfl⟩; have HB : Hid (Below V.heap.size V _) := drewNW HB.out n2)
                | (go_at_call 16; refine (HC.out.lines _ _ (by omega) (HC.out.later HTV.out HB.out)).mono ?_; rw [HEL.out]; rintro e w2 ⟨⟨v3, rfl, hh⟩, hb2⟩; have HV3 : Hid (Holds w2 v3 (lTxt x).length (cellsS (lTxt x))) := hh; have HB : Hid (Below V.heap.size V w2) := Below.after HB.out hb2; clear hh hb2)
                | (go_at_call 17; refine (rlines_to _ _).mono ?_; rw [HKL.out]; rintro e w2 ⟨⟨v4, rfl, hh⟩, hb2⟩; have HV4 : Hid (Holds w2 v4 (lTxt x).length (cellsS (lTxt x))) := hh; have HV3 : Hid (Holds w2 v3 (lTxt x).length (cellsS (lTxt x))) := HV3.out.later hb2; have HB : Hid (Below V.heap.size V w2) := Below.after HB.out hb2; clear hh hb2)
                | (go_at_call 18; refine (eqstr_any HV3.out HV4.out HLL.out).mono ?_; rw [show decide (lTxt x = lTxt x) = true from decide_eq_true rfl]; rintro e w2 ⟨rfl, n3, rfl⟩; have HB : Hid (Below V.heap.size V _) := drewNW HB.out n3))
            go_roundw
            case rel => exact ⟨k + 1, by omega, by go_num, HB.out⟩
            case measure => simp [intOf]; omega
        · have g8 : ¬ (k : Int) < 8 := by omega
          have d1 := cell_later HB.out HD1.out
          have hsz : B < wr.heap.size := World.block_lt_of_cell? _ _ d1
          have d1x := cell_later (Below.push (Below.refl wr.heap.size wr) (.cells #[.int .i64 0, .int .i64 1, .int .i64 (-1), .int .i64 10, .int .i64 1073741824, .int .i64 (-1073741824), .int .i64 1073741825, .int .i64 (-1073741825)] 3)) d1
          cases a1 with
          | none =>
            have HN0 : N = [] := by
              cases N with
              | nil => rfl
              | cons y r => obtain ⟨b, off, e, _⟩ := HN.out 0 (.int .i64 y) rfl; simp at e
            subst HN0
            have HLC : Hid (∀ j u, (#[.int .i64 0, .int .i64 1, .int .i64 (-1), .int .i64 10, .int .i64 1073741824, .int .i64 (-1073741824), .int .i64 1073741825, .int .i64 (-1073741825)] : Array Value).toList[j]? = some u → (wr.alloc (.cells #[.int .i64 0, .int .i64 1, .int .i64 (-1), .int .i64 10, .int .i64 1073741824, .int .i64 (-1073741824), .int .i64 1073741825, .int .i64 (-1073741825)] 3)).cell? ((⟨wr.heap.size, 0, none⟩ : Addr).add j) = some u) := World.news_of_block (heap_alloc_new wr (.cells #[.int .i64 0, .int .i64 1, .int .i64 (-1), .int .i64 10, .int .i64 1073741824, .int .i64 (-1073741824), .int .i64 1073741825, .int .i64 (-1073741825)] 3))
            have HBW0 : Hid (Below V.heap.size V (wr.alloc (.cells #[.int .i64 0, .int .i64 1, .int .i64 (-1), .int .i64 10, .int .i64 1073741824, .int .i64 (-1073741824), .int .i64 1073741825, .int .i64 (-1073741825)] 3))) := Below.push HB.out _
            simp only [List.length_nil] at d1 d1x ⊢
            go_upto_region 20 with fail
            obtain ⟨W, hW⟩ : ∃ W, wr.alloc (.cells #[.int .i64 0, .int .i64 1, .int .i64 (-1), .int .i64 10, .int .i64 1073741824, .int .i64 (-1073741824), .int .i64 1073741825, .int .i64 (-1073741825)] 3) = W := ⟨_, rfl⟩
            obtain ⟨g, hgg⟩ : ∃ g, wr.heap.size = g := ⟨_, rfl⟩
            rw [hW] at HLC HBW0 ⊢
            rw [hgg] at HLC ⊢
            obtain ⟨NS, hNS⟩ : ∃ NS : List Int, [0, 1, -1, 10, 1073741824, -1073741824, 1073741825, -1073741825] = NS := ⟨_, rfl⟩
            have HNL : Hid (NS.length = 8) := by show _ = _; rw [← hNS]; rfl
            have HW : Hid (∀ j u, (NS.map (Value.int .i64))[j]? = some u → W.cell? ⟨g, j, none⟩ = some u) := fun j u hu => by
              have h := HLC.out j u (by rw [← hNS] at hu; simpa using hu)
              rw [addr_addW, Nat.zero_add] at h
              exact h
            have HNR : Hid (∀ x ∈ NS, -9223372036854775808 ≤ x ∧ x ≤ 9223372036854775807) := fun x hx => by
              rw [← hNS] at hx
              simp only [List.mem_cons, List.not_mem_nil, or_false] at hx
              omega
            have HBW : Hid (Below V.heap.size V W) := HBW0
            clear HLC HBW0 hW hgg hNS d1 d1x hsz
            go_wp2
            go_loopw [20] (fun i wr => ∃ k : Nat, k ≤ 8 ∧ i = .int .i64 k ∧ Hid (Below W.heap.size W wr)) (fun i _ => 8 - (intOf i).toNat)
            case atStart => exact ⟨0, Nat.zero_le _, rfl, Below.refl _ _⟩
            case round =>
              obtain ⟨k, hk, rfl, HB⟩ := hrel
              by_cases hlt : k < 8
              · have glt : (k : Int) < ((8 : Nat) : Int) := by omega
                by_cases h16 : k < 16
                · have g16 : (k : Int) < 16 := by omega
                  have hk2 : k < NS.length := by have := HNL.out; omega
                  have HCK : Hid (W.cell? ⟨g, k, none⟩ = some (.int .i64 NS[k])) := HW.out k _ (by simp [hk2])
                  obtain ⟨hylo, hyhi⟩ := HNR.out NS[k] (List.getElem_mem hk2)
                  obtain ⟨y, hy⟩ : ∃ y, NS[k] = y := ⟨_, rfl⟩
                  rw [hy] at HCK hylo hyhi
                  clear hy
                  have dk := cell_later HB.out HCK.out
                  by_cases hr : -1073741824 ≤ y ∧ y ≤ 1073741824
                  · have hbw : decide ((-1073741824 : Int) ≤ y ∧ y ≤ 1073741824) = true := decide_eq_true hr
                    have HRR : Hid (-1073741824 ≤ y ∧ y ≤ 1073741824) := hr
                    clear hr
                    go_wp2_with ((go_at_call 19; (refine (HC.out.digits y _ hylo hyhi (HC.out.later HTV.out (Below.after HBW.out HB.out))).mono ?_; rintro e w2 ⟨⟨t, he, ht⟩, hb2⟩; rw [if_pos HRR.out] at he ht; subst he; obtain ⟨ht1, ht2⟩ := ht; have HT1 : Hid (numK t.data.toList = true) := ht1; have HT2 : Hid (numV t.data.toList = y) := ht2; have hts : t.size ≤ 140737488355328 := (by have h9 := numK_size HT1.out; rw [len_list] at h9; omega); clear ht1 ht2; have dk := cell_later HB.out HCK.out; have HB : Hid (Below W.heap.size W w2) := Below.after HB.out hb2; have dk := cell_later HB.out HCK.out; clear hb2)))
                    go_quiet (first | (go_at_call 10; exact Calls.quiet_of_same ((num_to _ _).mono (fun _ _ h => ⟨h.1, h.2.symm⟩))) | (go_at_call 20; exact Calls.quiet_of_same ((between_to _ _ _ _ _ hbw).mono (fun _ _ h => ⟨h.1, h.2.symm⟩))))
                    go_wp2_with (first | (go_at_call 10; refine (num_to _ _).mono ?_; rintro e w2 ⟨rfl, rfl⟩) | (go_at_call 9; refine (rnumber_to _ _ (by omega)).mono ?_; rw [HT1.out, HT2.out]; rintro e w2 ⟨rfl, rfl⟩))
                    go_roundw
                    case rel => exact ⟨k + 1, by omega, by go_num, drewNW HB.out _⟩
                    case measure => simp [intOf]; omega
                  · have hbw : decide ((-1073741824 : Int) ≤ y ∧ y ≤ 1073741824) = false := decide_eq_false hr
                    have HRR : Hid (¬ (-1073741824 ≤ y ∧ y ≤ 1073741824)) := hr
                    clear hr
                    go_wp2_with ((go_at_call 19; (refine (HC.out.digits y _ hylo hyhi (HC.out.later HTV.out (Below.after HBW.out HB.out))).mono ?_; rintro e w2 ⟨⟨t, he, ht⟩, hb2⟩; rw [if_neg HRR.out] at he ht; subst he; subst ht; have dk := cell_later HB.out HCK.out; have HB : Hid (Below W.heap.size W w2) := Below.after HB.out hb2; have dk := cell_later HB.out HCK.out; clear hb2)))
                    go_quiet (first | (go_at_call 10; exact Calls.quiet_of_same ((num_to _ _).mono (fun _ _ h => ⟨h.1, h.2.symm⟩))) | (go_at_call 20; exact Calls.quiet_of_same ((between_to _ _ _ _ _ hbw).mono (fun _ _ h => ⟨h.1, h.2.symm⟩))))
                    go_wp2_with (first | (go_at_call 10; refine (num_to _ _).mono ?_; rintro e w2 ⟨rfl, rfl⟩) | (go_at_call 9; refine (rnumber_to _ _ (by omega)).mono ?_; rw [HT1.out, HT2.out]; rintro e w2 ⟨rfl, rfl⟩))
                    go_roundw
                    case rel => exact ⟨k + 1, by omega, by go_num, drewNW HB.out _⟩
                    case measure => simp [intOf]; omega
                · have g16 : ¬ (k : Int) < 16 := by omega
                  omega
              · have glt : ¬ (k : Int) < ((8 : Nat) : Int) := by omega
                have HVW : Hid (Below V.heap.size V wr) := (Below.after HBW.out HB.out)
                have HWW : Hid (Below w.heap.size w wr) := Below.after HBV.out HVW.out
                go_wp2_with (at_make; refine wpList_make_full _ rfl _ _ 49 rfl wr.heap.size 5 iB (.int .u8 0) 1 Tryd.underlying49 HJ.out HJ0.out HJ1.out .i64 .i64 3001 3001 3001 rfl rfl rfl rfl ?e8_1 ?e8_2 (Nat.le_refl _) ?_)
                case e8_1 => rw [HJ2.out]; decide
                case e8_2 => decide
                intro w3 ho hg
                have hcv : (convert 49 9 (.slice (some ⟨wr.heap.size, 0, none⟩) 3001 3001)).run Tryd.prog w3 = .ok (.string zeros) w3 := zeros_run ho
                have HB3 : Hid (Below wr.heap.size wr w3) := (Below.refl _ _).grown hg (Nat.le_refl _) (fun q hq => by simp at hq)
                have HT3 : Hid (Tb w3) := HC.out.later HTV.out (Below.after HVW.out HB3.out)
                have HW3 : Hid (Below w.heap.size w w3) := Below.after HWW.out HB3.out
                clear ho hg
                go_wp2_with (first
                  | (go_at_call 16; refine (HC.out.lines zeros _ zeros_le HT3.out).mono ?_; rw [if_neg zeros_bad]; rintro e w2 ⟨⟨v3, rfl, hh⟩, hb2⟩; have HT4 : Hid (Tb w2) := HC.out.later HT3.out hb2; have HW4 : Hid (Below w.heap.size w w2) := Below.after HW3.out hb2; clear hh hb2)
                  | (go_at_call 10; refine (num_to _ _).mono ?_; rintro e w2 ⟨rfl, rfl⟩)
                  | (go_at_call 21; refine (HWK.out _ HT4.out).mono ?_; rintro e w2 ⟨rfl, hb2⟩; have HW5 : Hid (Below w.heap.size w w2) := Below.after HW4.out hb2; clear hb2))
                go_ret
                exact ⟨rfl, HW5.out⟩
          | some ad =>
            have HNC : Hid (∀ j u, (N.map (Value.int .i64))[j]? = some u → wr.cell? (ad.add j) = some u) := fun j u hu => by
              obtain ⟨b2, o2, e2, hc2⟩ := HN.out j u hu
              simp only [Option.some.injEq] at e2
              subst e2
              rw [addr_addW]
              exact cell_later HB.out (cell_later HBV.out hc2)
            go_wp2_with (at_builtin; (refine wpList_append_own_at _ rfl _ _ 23 rfl wr.heap.size 3 iN (.int .i64 0) 1 8 Tryd.underlying23 HI.out HZ0.out HZ1.out HZ2.out rfl (by decide) (.slice (some ⟨wr.heap.size, 0, none⟩) 8 8) 8 ([0, 1, -1, 10, 1073741824, -1073741824, 1073741825, -1073741825].map (Value.int .i64)) rfl ?k5_0 ad N.length c1 (N.map (Value.int .i64)) rfl (by simp) ?k5_1 ?k5_2 ?k5_3 ?k5_4 ?k5_5 ?_))
            case k5_0 =>
              have := World.ownsRow_lit (base := wr.heap.size) (e := 3) (size := 1) wr #[.int .i64 0, .int .i64 1, .int .i64 (-1), .int .i64 10, .int .i64 1073741824, .int .i64 (-1073741824), .int .i64 1073741825, .int .i64 (-1073741825)] 8 (Nat.le_refl _) (by decide) rfl
              simpa using this
            case k5_1 =>
              first
                | (intro j a hj; exact cell_later (Below.push (Below.refl _ _) _) (HNC.out j (.int .i64 a) (by simp [hj])))
                | (intro j u hj; exact cell_later (Below.push (Below.refl _ _) _) (HNC.out j u hj))
            case k5_2 =>
              first
                | (intro a _; rfl)
                | (intro u hu; obtain ⟨z, _, rfl⟩ := List.mem_map.1 hu; rfl)
            case k5_3 => unfold maxLen; omega
            case k5_4 => omega
            try case k5_5 => simp
            intro v5 W ho hg hnil hat
            have hlt5 := ho.lt
            obtain ⟨g, cap, rfl, hbg, hgl⟩ := ho.form (by omega)
            obtain ⟨NS, hNS⟩ : ∃ NS : List Int, [0, 1, -1, 10, 1073741824, -1073741824, 1073741825, -1073741825] ++ N = NS := ⟨_, rfl⟩
            have HNL : Hid (NS.length = 8 + N.length) := by show _ = _; rw [← hNS]; simp; omega
            have HW : Hid (∀ j u, (NS.map (Value.int .i64))[j]? = some u → W.cell? ⟨g, j, none⟩ = some u) := fun j u hu => by
              have h := ho.cells (g := g) rfl j u (by rw [← hNS] at hu; simpa using hu)
              rw [addr_addW, Nat.zero_add] at h
              exact h
            have HNR : Hid (∀ x ∈ NS, -9223372036854775808 ≤ x ∧ x ≤ 9223372036854775807) := fun x hx => by
              rw [← hNS] at hx
              rcases List.mem_append.1 hx with h | h
              · simp only [List.mem_cons, List.not_mem_nil, or_false] at h
                omega
              · exact HNE.out x h
            have HBW : Hid (Below V.heap.size V W) := (Below.push HB.out _).grown hg (by have := HB.out.size; simp; omega) (fun q hq => by have := HB.out.size; simp [Value.ownBlock] at hq; omega)
            clear ho hg hnil hat hNS hbg hgl hlt5 d1 d1x hsz
            go_wp2
            go_loopw [20] (fun i wr => ∃ k : Nat, k ≤ (8 + N.length) ∧ i = .int .i64 k ∧ Hid (Below W.heap.size W wr)) (fun i _ => (8 + N.length) - (intOf i).toNat)
            case atStart => exact ⟨0, Nat.zero_le _, rfl, Below.refl _ _⟩
            case round =>
              obtain ⟨k, hk, rfl, HB⟩ := hrel
              by_cases hlt : k < (8 + N.length)
              · have glt : (k : Int) < (((8 + N.length) : Nat) : Int) := by omega
                by_cases h16 : k < 16
                · have g16 : (k : Int) < 16 := by omega
                  have hk2 : k < NS.length := by have := HNL.out; omega
                  have HCK : Hid (W.cell? ⟨g, k, none⟩ = some (.int .i64 NS[k])) := HW.out k _ (by simp [hk2])
                  obtain ⟨hylo, hyhi⟩ := HNR.out NS[k] (List.getElem_mem hk2)
                  obtain ⟨y, hy⟩ : ∃ y, NS[k] = y := ⟨_, rfl⟩
                  rw [hy] at HCK hylo hyhi
                  clear hy
                  have dk := cell_later HB.out HCK.out
                  by_cases hr : -1073741824 ≤ y ∧ y ≤ 1073741824
                  · have hbw : decide ((-1073741824 : Int) ≤ y ∧ y ≤ 1073741824) = true := decide_eq_true hr
                    have HRR : Hid (-1073741824 ≤ y ∧ y ≤ 1073741824) := hr
                    clear hr
                    go_wp2_with ((go_at_call 19; (refine (HC.out.digits y _ hylo hyhi (HC.out.later HTV.out (Below.after HBW.out HB.out))).mono ?_; rintro e w2 ⟨⟨t, he, ht⟩, hb2⟩; rw [if_pos HRR.out] at he ht; subst he; obtain ⟨ht1, ht2⟩ := ht; have HT1 : Hid (numK t.data.toList = true) := ht1; have HT2 : Hid (numV t.data.toList = y) := ht2; have hts : t.size ≤ 140737488355328 := (by have h9 := numK_size HT1.out; rw [len_list] at h9; omega); clear ht1 ht2; have dk := cell_later HB.out HCK.out; have HB : Hid (Below W.heap.size W w2) := Below.after HB.out hb2; have dk := cell_later HB.out HCK.out; clear hb2)))
                    go_quiet (first | (go_at_call 10; exact Calls.quiet_of_same ((num_to _ _).mono (fun _ _ h => ⟨h.1, h.2.symm⟩))) | (go_at_call 20; exact Calls.quiet_of_same ((between_to _ _ _ _ _ hbw).mono (fun _ _ h => ⟨h.1, h.2.symm⟩))))
                    go_wp2_with (first | (go_at_call 10; refine (num_to _ _).mono ?_; rintro e w2 ⟨rfl, rfl⟩) | (go_at_call 9; refine (rnumber_to _ _ (by omega)).mono ?_; rw [HT1.out, HT2.out]; rintro e w2 ⟨rfl, rfl⟩))
                    go_roundw
                    case rel => exact ⟨k + 1, by omega, by go_num, drewNW HB.out _⟩
                    case measure => simp [intOf]; omega
                  · have hbw : decide ((-1073741824 : Int) ≤ y ∧ y ≤ 1073741824) = false := decide_eq_false hr
                    have HRR : Hid (¬ (-1073741824 ≤ y ∧ y ≤ 1073741824)) := hr
                    clear hr
                    go_wp2_with ((go_at_call 19; (refine (HC.out.digits y _ hylo hyhi (HC.out.later HTV.out (Below.after HBW.out HB.out))).mono ?_; rintro e w2 ⟨⟨t, he, ht⟩, hb2⟩; rw [if_neg HRR.out] at he ht; subst he; subst ht; have dk := cell_later HB.out HCK.out; have HB : Hid (Below W.heap.size W w2) := Below.after HB.out hb2; have dk := cell_later HB.out HCK.out; clear hb2)))
                    go_quiet (first | (go_at_call 10; exact Calls.quiet_of_same ((num_to _ _).mono (fun _ _ h => ⟨h.1, h.2.symm⟩))) | (go_at_call 20; exact Calls.quiet_of_same ((between_to _ _ _ _ _ hbw).mono (fun _ _ h => ⟨h.1, h.2.symm⟩))))
                    go_wp2_with (first | (go_at_call 10; refine (num_to _ _).mono ?_; rintro e w2 ⟨rfl, rfl⟩) | (go_at_call 9; refine (rnumber_to _ _ (by omega)).mono ?_; rw [HT1.out, HT2.out]; rintro e w2 ⟨rfl, rfl⟩))
                    go_roundw
                    case rel => exact ⟨k + 1, by omega, by go_num, drewNW HB.out _⟩
                    case measure => simp [intOf]; omega
                · have g16 : ¬ (k : Int) < 16 := by omega
                  have HVW : Hid (Below V.heap.size V wr) := (Below.after HBW.out HB.out)
                  have HWW : Hid (Below w.heap.size w wr) := Below.after HBV.out HVW.out
                  go_wp2_with (at_make; refine wpList_make_full _ rfl _ _ 49 rfl wr.heap.size 5 iB (.int .u8 0) 1 Tryd.underlying49 HJ.out HJ0.out HJ1.out .i64 .i64 3001 3001 3001 rfl rfl rfl rfl ?e6_1 ?e6_2 (Nat.le_refl _) ?_)
                  case e6_1 => rw [HJ2.out]; decide
                  case e6_2 => decide
                  intro w3 ho hg
                  have hcv : (convert 49 9 (.slice (some ⟨wr.heap.size, 0, none⟩) 3001 3001)).run Tryd.prog w3 = .ok (.string zeros) w3 := zeros_run ho
                  have HB3 : Hid (Below wr.heap.size wr w3) := (Below.refl _ _).grown hg (Nat.le_refl _) (fun q hq => by simp at hq)
                  have HT3 : Hid (Tb w3) := HC.out.later HTV.out (Below.after HVW.out HB3.out)
                  have HW3 : Hid (Below w.heap.size w w3) := Below.after HWW.out HB3.out
                  clear ho hg
                  go_wp2_with (first
                    | (go_at_call 16; refine (HC.out.lines zeros _ zeros_le HT3.out).mono ?_; rw [if_neg zeros_bad]; rintro e w2 ⟨⟨v3, rfl, hh⟩, hb2⟩; have HT4 : Hid (Tb w2) := HC.out.later HT3.out hb2; have HW4 : Hid (Below w.heap.size w w2) := Below.after HW3.out hb2; clear hh hb2)
                    | (go_at_call 10; refine (num_to _ _).mono ?_; rintro e w2 ⟨rfl, rfl⟩)
                    | (go_at_call 21; refine (HWK.out _ HT4.out).mono ?_; rintro e w2 ⟨rfl, hb2⟩; have HW5 : Hid (Below w.heap.size w w2) := Below.after HW4.out hb2; clear hb2))
                  go_ret
                  exact ⟨rfl, HW5.out⟩
              · have glt : ¬ (k : Int) < (((8 + N.length) : Nat) : Int) := by omega
                have HVW : Hid (Below V.heap.size V wr) := (Below.after HBW.out HB.out)
                have HWW : Hid (Below w.heap.size w wr) := Below.after HBV.out HVW.out
                go_wp2_with (at_make; refine wpList_make_full _ rfl _ _ 49 rfl wr.heap.size 5 iB (.int .u8 0) 1 Tryd.underlying49 HJ.out HJ0.out HJ1.out .i64 .i64 3001 3001 3001 rfl rfl rfl rfl ?e7_1 ?e7_2 (Nat.le_refl _) ?_)
                case e7_1 => rw [HJ2.out]; decide
                case e7_2 => decide
                intro w3 ho hg
                have hcv : (convert 49 9 (.slice (some ⟨wr.heap.size, 0, none⟩) 3001 3001)).run Tryd.prog w3 = .ok (.string zeros) w3 := zeros_run ho
                have HB3 : Hid (Below wr.heap.size wr w3) := (Below.refl _ _).grown hg (Nat.le_refl _) (fun q hq => by simp at hq)
                have HT3 : Hid (Tb w3) := HC.out.later HTV.out (Below.after HVW.out HB3.out)
                have HW3 : Hid (Below w.heap.size w w3) := Below.after HWW.out HB3.out
                clear ho hg
                go_wp2_with (first
                  | (go_at_call 16; refine (HC.out.lines zeros _ zeros_le HT3.out).mono ?_; rw [if_neg zeros_bad]; rintro e w2 ⟨⟨v3, rfl, hh⟩, hb2⟩; have HT4 : Hid (Tb w2) := HC.out.later HT3.out hb2; have HW4 : Hid (Below w.heap.size w w2) := Below.after HW3.out hb2; clear hh hb2)
                  | (go_at_call 10; refine (num_to _ _).mono ?_; rintro e w2 ⟨rfl, rfl⟩)
                  | (go_at_call 21; refine (HWK.out _ HT4.out).mono ?_; rintro e w2 ⟨rfl, hb2⟩; have HW5 : Hid (Below w.heap.size w w2) := Below.after HW4.out hb2; clear hb2))
                go_ret
                exact ⟨rfl, HW5.out⟩
      · skip
        have d1 := cell_later HB.out HD1.out
        have hsz : B < wr.heap.size := World.block_lt_of_cell? _ _ d1
        have d1x := cell_later (Below.push (Below.refl wr.heap.size wr) (.cells #[.int .i64 0, .int .i64 1, .int .i64 (-1), .int .i64 10, .int .i64 1073741824, .int .i64 (-1073741824), .int .i64 1073741825, .int .i64 (-1073741825)] 3)) d1
        cases a1 with
        | none =>
          have HN0 : N = [] := by
            cases N with
            | nil => rfl
            | cons y r => obtain ⟨b, off, e, _⟩ := HN.out 0 (.int .i64 y) rfl; simp at e
          subst HN0
          have HLC : Hid (∀ j u, (#[.int .i64 0, .int .i64 1, .int .i64 (-1), .int .i64 10, .int .i64 1073741824, .int .i64 (-1073741824), .int .i64 1073741825, .int .i64 (-1073741825)] : Array Value).toList[j]? = some u → (wr.alloc (.cells #[.int .i64 0, .int .i64 1, .int .i64 (-1), .int .i64 10, .int .i64 1073741824, .int .i64 (-1073741824), .int .i64 1073741825, .int .i64 (-1073741825)] 3)).cell? ((⟨wr.heap.size, 0, none⟩ : Addr).add j) = some u) := World.news_of_block (heap_alloc_new wr (.cells #[.int .i64 0, .int .i64 1, .int .i64 (-1), .int .i64 10, .int .i64 1073741824, .int .i64 (-1073741824), .int .i64 1073741825, .int .i64 (-1073741825)] 3))
          have HBW0 : Hid (Below V.heap.size V (wr.alloc (.cells #[.int .i64 0, .int .i64 1, .int .i64 (-1), .int .i64 10, .int .i64 1073741824, .int .i64 (-1073741824), .int .i64 1073741825, .int .i64 (-1073741825)] 3))) := Below.push HB.out _
          simp only [List.length_nil] at d1 d1x ⊢
          go_upto_region 20 with fail
          obtain ⟨W, hW⟩ : ∃ W, wr.alloc (.cells #[.int .i64 0, .int .i64 1, .int .i64 (-1), .int .i64 10, .int .i64 1073741824, .int .i64 (-1073741824), .int .i64 1073741825, .int .i64 (-1073741825)] 3) = W := ⟨_, rfl⟩
          obtain ⟨g, hgg⟩ : ∃ g, wr.heap.size = g := ⟨_, rfl⟩
          rw [hW] at HLC HBW0 ⊢
          rw [hgg] at HLC ⊢
          obtain ⟨NS, hNS⟩ : ∃ NS : List Int, [0, 1, -1, 10, 1073741824, -1073741824, 1073741825, -1073741825] = NS := ⟨_, rfl⟩
          have HNL : Hid (NS.length = 8) := by show _ = _; rw [← hNS]; rfl
          have HW : Hid (∀ j u, (NS.map (Value.int .i64))[j]? = some u → W.cell? ⟨g, j, none⟩ = some u) := fun j u hu => by
            have h := HLC.out j u (by rw [← hNS] at hu; simpa using hu)
            rw [addr_addW, Nat.zero_add] at h
            exact h
          have HNR : Hid (∀ x ∈ NS, -9223372036854775808 ≤ x ∧ x ≤ 9223372036854775807) := fun x hx => by
            rw [← hNS] at hx
            simp only [List.mem_cons, List.not_mem_nil, or_false] at hx
            omega
          have HBW : Hid (Below V.heap.size V W) := HBW0
          clear HLC HBW0 hW hgg hNS d1 d1x hsz
          go_wp2
          go_loopw [20] (fun i wr => ∃ k : Nat, k ≤ 8 ∧ i = .int .i64 k ∧ Hid (Below W.heap.size W wr)) (fun i _ => 8 - (intOf i).toNat)
          case atStart => exact ⟨0, Nat.zero_le _, rfl, Below.refl _ _⟩
          case round =>
            obtain ⟨k, hk, rfl, HB⟩ := hrel
            by_cases hlt : k < 8
            · have glt : (k : Int) < ((8 : Nat) : Int) := by omega
              by_cases h16 : k < 16
              · have g16 : (k : Int) < 16 := by omega
                have hk2 : k < NS.length := by have := HNL.out; omega
                have HCK : Hid (W.cell? ⟨g, k, none⟩ = some (.int .i64 NS[k])) := HW.out k _ (by simp [hk2])
                obtain ⟨hylo, hyhi⟩ := HNR.out NS[k] (List.getElem_mem hk2)
                obtain ⟨y, hy⟩ : ∃ y, NS[k] = y := ⟨_, rfl⟩
                rw [hy] at HCK hylo hyhi
                clear hy
                have dk := cell_later HB.out HCK.out
                by_cases hr : -1073741824 ≤ y ∧ y ≤ 1073741824
                · have hbw : decide ((-1073741824 : Int) ≤ y ∧ y ≤ 1073741824) = true := decide_eq_true hr
                  have HRR : Hid (-1073741824 ≤ y ∧ y ≤ 1073741824) := hr
                  clear hr
                  go_wp2_with ((go_at_call 19; (refine (HC.out.digits y _ hylo hyhi (HC.out.later HTV.out (Below.after HBW.out HB.out))).mono ?_; rintro e w2 ⟨⟨t, he, ht⟩, hb2⟩; rw [if_pos HRR.out] at he ht; subst he; obtain ⟨ht1, ht2⟩ := ht; have HT1 : Hid (numK t.data.toList = true) := ht1; have HT2 : Hid (numV t.data.toList = y) := ht2; have hts : t.size ≤ 140737488355328 := (by have h9 := numK_size HT1.out; rw [len_list] at h9; omega); clear ht1 ht2; have dk := cell_later HB.out HCK.out; have HB : Hid (Below W.heap.size W w2) := Below.after HB.out hb2; have dk := cell_later HB.out HCK.out; clear hb2)))
                  go_quiet (first | (go_at_call 10; exact Calls.quiet_of_same ((num_to _ _).mono (fun _ _ h => ⟨h.1, h.2.symm⟩))) | (go_at_call 20; exact Calls.quiet_of_same ((between_to _ _ _ _ _ hbw).mono (fun _ _ h => ⟨h.1, h.2.symm⟩))))
                  go_wp2_with (first | (go_at_call 10; refine (num_to _ _).mono ?_; rintro e w2 ⟨rfl, rfl⟩) | (go_at_call 9; refine (rnumber_to _ _ (by omega)).mono ?_; rw [HT1.out, HT2.out]; rintro e w2 ⟨rfl, rfl⟩))
                  go_roundw
                  case rel => exact ⟨k + 1, by omega, by go_num, drewNW HB.out _⟩
                  case measure => simp [intOf]; omega
                · have hbw : decide ((-1073741824 : Int) ≤ y ∧ y ≤ 1073741824) = false := decide_eq_false hr
                  have HRR : Hid (¬ (-1073741824 ≤ y ∧ y ≤ 1073741824)) := hr
                  clear hr
                  go_wp2_with ((go_at_call 19; (refine (HC.out.digits y _ hylo hyhi (HC.out.later HTV.out (Below.after HBW.out HB.out))).mono ?_; rintro e w2 ⟨⟨t, he, ht⟩, hb2⟩; rw [if_neg HRR.out] at he ht; subst he; subst ht; have dk := cell_later HB.out HCK.out; have HB : Hid (Below W.heap.size W w2) := Below.after HB.out hb2; have dk := cell_later HB.out HCK.out; clear hb2)))
                  go_quiet (first | (go_at_call 10; exact Calls.quiet_of_same ((num_to _ _).mono (fun _ _ h => ⟨h.1, h.2.symm⟩))) | (go_at_call 20; exact Calls.quiet_of_same ((between_to _ _ _ _ _ hbw).mono (fun _ _ h => ⟨h.1, h.2.symm⟩))))
                  go_wp2_with (first | (go_at_call 10; refine (num_to _ _).mono ?_; rintro e w2 ⟨rfl, rfl⟩) | (go_at_call 9; refine (rnumber_to _ _ (by omega)).mono ?_; rw [HT1.out, HT2.out]; rintro e w2 ⟨rfl, rfl⟩))
                  go_roundw
                  case rel => exact ⟨k + 1, by omega, by go_num, drewNW HB.out _⟩
                  case measure => simp [intOf]; omega
              · have g16 : ¬ (k : Int) < 16 := by omega
                omega
            · have glt : ¬ (k : Int) < ((8 : Nat) : Int) := by omega
              have HVW : Hid (Below V.heap.size V wr) := (Below.after HBW.out HB.out)
              have HWW : Hid (Below w.heap.size w wr) := Below.after HBV.out HVW.out
              go_wp2_with (at_make; refine wpList_make_full _ rfl _ _ 49 rfl wr.heap.size 5 iB (.int .u8 0) 1 Tryd.underlying49 HJ.out HJ0.out HJ1.out .i64 .i64 3001 3001 3001 rfl rfl rfl rfl ?e12_1 ?e12_2 (Nat.le_refl _) ?_)
              case e12_1 => rw [HJ2.out]; decide
              case e12_2 => decide
              intro w3 ho hg
              have hcv : (convert 49 9 (.slice (some ⟨wr.heap.size, 0, none⟩) 3001 3001)).run Tryd.prog w3 = .ok (.string zeros) w3 := zeros_run ho
              have HB3 : Hid (Below wr.heap.size wr w3) := (Below.refl _ _).grown hg (Nat.le_refl _) (fun q hq => by simp at hq)
              have HT3 : Hid (Tb w3) := HC.out.later HTV.out (Below.after HVW.out HB3.out)
              have HW3 : Hid (Below w.heap.size w w3) := Below.after HWW.out HB3.out
              clear ho hg
              go_wp2_with (first
                | (go_at_call 16; refine (HC.out.lines zeros _ zeros_le HT3.out).mono ?_; rw [if_neg zeros_bad]; rintro e w2 ⟨⟨v3, rfl, hh⟩, hb2⟩; have HT4 : Hid (Tb w2) := HC.out.later HT3.out hb2; have HW4 : Hid (Below w.heap.size w w2) := Below.after HW3.out hb2; clear hh hb2)
                | (go_at_call 10; refine (num_to _ _).mono ?_; rintro e w2 ⟨rfl, rfl⟩)
                | (go_at_call 21; refine (HWK.out _ HT4.out).mono ?_; rintro e w2 ⟨rfl, hb2⟩; have HW5 : Hid (Below w.heap.size w w2) := Below.after HW4.out hb2; clear hb2))
              go_ret
              exact ⟨rfl, HW5.out⟩
        | some ad =>
          have HNC : Hid (∀ j u, (N.map (Value.int .i64))[j]? = some u → wr.cell? (ad.add j) = some u) := fun j u hu => by
            obtain ⟨b2, o2, e2, hc2⟩ := HN.out j u hu
            simp only [Option.some.injEq] at e2
            subst e2
            rw [addr_addW]
            exact cell_later HB.out (cell_later HBV.out hc2)
          go_wp2_with (at_builtin; (refine wpList_append_own_at _ rfl _ _ 23 rfl wr.heap.size 3 iN (.int .i64 0) 1 8 Tryd.underlying23 HI.out HZ0.out HZ1.out HZ2.out rfl (by decide) (.slice (some ⟨wr.heap.size, 0, none⟩) 8 8) 8 ([0, 1, -1, 10, 1073741824, -1073741824, 1073741825, -1073741825].map (Value.int .i64)) rfl ?k9_0 ad N.length c1 (N.map (Value.int .i64)) rfl (by simp) ?k9_1 ?k9_2 ?k9_3 ?k9_4 ?k9_5 ?_))
          case k9_0 =>
            have := World.ownsRow_lit (base := wr.heap.size) (e := 3) (size := 1) wr #[.int .i64 0, .int .i64 1, .int .i64 (-1), .int .i64 10, .int .i64 1073741824, .int .i64 (-1073741824), .int .i64 1073741825, .int .i64 (-1073741825)] 8 (Nat.le_refl _) (by decide) rfl
            simpa using this
          case k9_1 =>
            first
              | (intro j a hj; exact cell_later (Below.push (Below.refl _ _) _) (HNC.out j (.int .i64 a) (by simp [hj])))
              | (intro j u hj; exact cell_later (Below.push (Below.refl _ _) _) (HNC.out j u hj))
          case k9_2 =>
            first
              | (intro a _; rfl)
              | (intro u hu; obtain ⟨z, _, rfl⟩ := List.mem_map.1 hu; rfl)
          case k9_3 => unfold maxLen; omega
          case k9_4 => omega
          try case k9_5 => simp
          intro v5 W ho hg hnil hat
          have hlt5 := ho.lt
          obtain ⟨g, cap, rfl, hbg, hgl⟩ := ho.form (by omega)
          obtain ⟨NS, hNS⟩ : ∃ NS : List Int, [0, 1, -1, 10, 1073741824, -1073741824, 1073741825, -1073741825] ++ N = NS := ⟨_, rfl⟩
          have HNL : Hid (NS.length = 8 + N.length) := by show _ = _; rw [← hNS]; simp; omega
          have HW : Hid (∀ j u, (NS.map (Value.int .i64))[j]? = some u → W.cell? ⟨g, j, none⟩ = some u) := fun j u hu => by
            have h := ho.cells (g := g) rfl j u (by rw [← hNS] at hu; simpa using hu)
            rw [addr_addW, Nat.zero_add] at h
            exact h
          have HNR : Hid (∀ x ∈ NS, -9223372036854775808 ≤ x ∧ x ≤ 9223372036854775807) := fun x hx => by
            rw [← hNS] at hx
            rcases List.mem_append.1 hx with h | h
            · simp only [List.mem_cons, List.not_mem_nil, or_false] at h
              omega
            · exact HNE.out x h
          have HBW : Hid (Below V.heap.size V W) := (Below.push HB.out _).grown hg (by have := HB.out.size; simp; omega) (fun q hq => by have := HB.out.size; simp [Value.ownBlock] at hq; omega)
          clear ho hg hnil hat hNS hbg hgl hlt5 d1 d1x hsz
          go_wp2
          go_loopw [20] (fun i wr => ∃ k : Nat, k ≤ (8 + N.length) ∧ i = .int .i64 k ∧ Hid (Below W.heap.size W wr)) (fun i _ => (8 + N.length) - (intOf i).toNat)
          case atStart => exact ⟨0, Nat.zero_le _, rfl, Below.refl _ _⟩
          case round =>
            obtain ⟨k, hk, rfl, HB⟩ := hrel
            by_cases hlt : k < (8 + N.length)
            · have glt : (k : Int) < (((8 + N.length) : Nat) : Int) := by omega
              by_cases h16 : k < 16
              · have g16 : (k : Int) < 16 := by omega
                have hk2 : k < NS.length := by have := HNL.out; omega
                have HCK : Hid (W.cell? ⟨g, k, none⟩ = some (.int .i64 NS[k])) := HW.out k _ (by simp [hk2])
                obtain ⟨hylo, hyhi⟩ := HNR.out NS[k] (List.getElem_mem hk2)
                obtain ⟨y, hy⟩ : ∃ y, NS[k] = y := ⟨_, rfl⟩
                rw [hy] at HCK hylo hyhi
                clear hy
                have dk := cell_later HB.out HCK.out
                by_cases hr : -1073741824 ≤ y ∧ y ≤ 1073741824
                · have hbw : decide ((-1073741824 : Int) ≤ y ∧ y ≤ 1073741824) = true := decide_eq_true hr
                  have HRR : Hid (-1073741824 ≤ y ∧ y ≤ 1073741824) := hr
                  clear hr
                  go_wp2_with ((go_at_call 19; (refine (HC.out.digits y _ hylo hyhi (HC.out.later HTV.out (Below.after HBW.out HB.out))).mono ?_; rintro e w2 ⟨⟨t, he, ht⟩, hb2⟩; rw [if_pos HRR.out] at he ht; subst he; obtain ⟨ht1, ht2⟩ := ht; have HT1 : Hid (numK t.data.toList = true) := ht1; have HT2 : Hid (numV t.data.toList = y) := ht2; have hts : t.size ≤ 140737488355328 := (by have h9 := numK_size HT1.out; rw [len_list] at h9; omega); clear ht1 ht2; have dk := cell_later HB.out HCK.out; have HB : Hid (Below W.heap.size W w2) := Below.after HB.out hb2; have dk := cell_later HB.out HCK.out; clear hb2)))
                  go_quiet (first | (go_at_call 10; exact Calls.quiet_of_same ((num_to _ _).mono (fun _ _ h => ⟨h.1, h.2.symm⟩))) | (go_at_call 20; exact Calls.quiet_of_same ((between_to _ _ _ _ _ hbw).mono (fun _ _ h => ⟨h.1, h.2.symm⟩))))
                  go_wp2_with (first | (go_at_call 10; refine (num_to _ _).mono ?_; rintro e w2 ⟨rfl, rfl⟩) | (go_at_call 9; refine (rnumber_to _ _ (by omega)).mono ?_; rw [HT1.out, HT2.out]; rintro e w2 ⟨rfl, rfl⟩))
                  go_roundw
                  case rel => exact ⟨k + 1, by omega, by go_num, drewNW HB.out _⟩
                  case measure => simp [intOf]; omega
                · have hbw : decide ((-1073741824 : Int) ≤ y ∧ y ≤ 1073741824) = false := decide_eq_false hr
                  have HRR : Hid (¬ (-1073741824 ≤ y ∧ y ≤ 1073741824)) := hr
                  clear hr
                  go_wp2_with ((go_at_call 19; (refine (HC.out.digits y _ hylo hyhi (HC.out.later HTV.out (Below.after HBW.out HB.out))).mono ?_; rintro e w2 ⟨⟨t, he, ht⟩, hb2⟩; rw [if_neg HRR.out] at he ht; subst he; subst ht; have dk := cell_later HB.out HCK.out; have HB : Hid (Below W.heap.size W w2) := Below.after HB.out hb2; have dk := cell_later HB.out HCK.out; clear hb2)))
                  go_quiet (first | (go_at_call 10; exact Calls.quiet_of_same ((num_to _ _).mono (fun _ _ h => ⟨h.1, h.2.symm⟩))) | (go_at_call 20; exact Calls.quiet_of_same ((between_to _ _ _ _ _ hbw).mono (fun _ _ h => ⟨h.1, h.2.symm⟩))))
                  go_wp2_with (first | (go_at_call 10; refine (num_to _ _).mono ?_; rintro e w2 ⟨rfl, rfl⟩) | (go_at_call 9; refine (rnumber_to _ _ (by omega)).mono ?_; rw [HT1.out, HT2.out]; rintro e w2 ⟨rfl, rfl⟩))
                  go_roundw
                  case rel => exact ⟨k + 1, by omega, by go_num, drewNW HB.out _⟩
                  case measure => simp [intOf]; omega
              · have g16 : ¬ (k : Int) < 16 := by omega
                have HVW : Hid (Below V.heap.size V wr) := (Below.after HBW.out HB.out)
                have HWW : Hid (Below w.heap.size w wr) := Below.after HBV.out HVW.out
                go_wp2_with (at_make; refine wpList_make_full _ rfl _ _ 49 rfl wr.heap.size 5 iB (.int .u8 0) 1 Tryd.underlying49 HJ.out HJ0.out HJ1.out .i64 .i64 3001 3001 3001 rfl rfl rfl rfl ?e10_1 ?e10_2 (Nat.le_refl _) ?_)
                case e10_1 => rw [HJ2.out]; decide
                case e10_2 => decide
                intro w3 ho hg
                have hcv : (convert 49 9 (.slice (some ⟨wr.heap.size, 0, none⟩) 3001 3001)).run Tryd.prog w3 = .ok (.string zeros) w3 := zeros_run ho
                have HB3 : Hid (Below wr.heap.size wr w3) := (Below.refl _ _).grown hg (Nat.le_refl _) (fun q hq => by simp at hq)
                have HT3 : Hid (Tb w3) := HC.out.later HTV.out (Below.after HVW.out HB3.out)
                have HW3 : Hid (Below w.heap.size w w3) := Below.after HWW.out HB3.out
                clear ho hg
                go_wp2_with (first
                  | (go_at_call 16; refine (HC.out.lines zeros _ zeros_le HT3.out).mono ?_; rw [if_neg zeros_bad]; rintro e w2 ⟨⟨v3, rfl, hh⟩, hb2⟩; have HT4 : Hid (Tb w2) := HC.out.later HT3.out hb2; have HW4 : Hid (Below w.heap.size w w2) := Below.after HW3.out hb2; clear hh hb2)
                  | (go_at_call 10; refine (num_to _ _).mono ?_; rintro e w2 ⟨rfl, rfl⟩)
                  | (go_at_call 21; refine (HWK.out _ HT4.out).mono ?_; rintro e w2 ⟨rfl, hb2⟩; have HW5 : Hid (Below w.heap.size w w2) := Below.after HW4.out hb2; clear hb2))
                go_ret
                exact ⟨rfl, HW5.out⟩
            · have glt : ¬ (k : Int) < (((8 + N.length) : Nat) : Int) := by omega
              have HVW : Hid (Below V.heap.size V wr) := (Below.after HBW.out HB.out)
              have HWW : Hid (Below w.heap.size w wr) := Below.after HBV.out HVW.out
              go_wp2_with (at_make; refine wpList_make_full _ rfl _ _ 49 rfl wr.heap.size 5 iB (.int .u8 0) 1 Tryd.underlying49 HJ.out HJ0.out HJ1.out .i64 .i64 3001 3001 3001 rfl rfl rfl rfl ?e11_1 ?e11_2 (Nat.le_refl _) ?_)
              case e11_1 => rw [HJ2.out]; decide
              case e11_2 => decide
              intro w3 ho hg
              have hcv : (convert 49 9 (.slice (some ⟨wr.heap.size, 0, none⟩) 3001 3001)).run Tryd.prog w3 = .ok (.string zeros) w3 := zeros_run ho
              have HB3 : Hid (Below wr.heap.size wr w3) := (Below.refl _ _).grown hg (Nat.le_refl _) (fun q hq => by simp at hq)
              have HT3 : Hid (Tb w3) := HC.out.later HTV.out (Below.after HVW.out HB3.out)
              have HW3 : Hid (Below w.heap.size w w3) := Below.after HWW.out HB3.out
              clear ho hg
              go_wp2_with (first
                | (go_at_call 16; refine (HC.out.lines zeros _ zeros_le HT3.out).mono ?_; rw [if_neg zeros_bad]; rintro e w2 ⟨⟨v3, rfl, hh⟩, hb2⟩; have HT4 : Hid (Tb w2) := HC.out.later HT3.out hb2; have HW4 : Hid (Below w.heap.size w w2) := Below.after HW3.out hb2; clear hh hb2)
                | (go_at_call 10; refine (num_to _ _).mono ?_; rintro e w2 ⟨rfl, rfl⟩)
                | (go_at_call 21; refine (HWK.out _ HT4.out).mono ?_; rintro e w2 ⟨rfl, hb2⟩; have HW5 : Hid (Below w.heap.size w w2) := Below.after HW4.out hb2; clear hb2))
              go_ret
              exact ⟨rfl, HW5.out⟩
end Go.Proofs.YtipioeecgcljoaaDoor
