/- Contract: the page's Number. -/
import Derived.Test.YtipioeecgcljoaaDoorW1
namespace Go.Proofs.YtipioeecgcljoaaDoor
set_option linter.unusedVariables false
set_option linter.unusedSimpArgs false
set_option maxRecDepth 100000
open Go.RowKit

def digV (l : List UInt8) : Nat := l.foldl (fun a c => 10 * a + (c.toNat - 48)) 0
theorem digV_snoc (l : List UInt8) (c : UInt8) : digV (l ++ [c]) = 10 * digV l + (c.toNat - 48) := by simp [digV]
theorem digV_take (l : List UInt8) (k : Nat) (h : k < l.length) : digV (l.take (k + 1)) = 10 * digV (l.take k) + (l[k].toNat - 48) := by
  rw [List.take_succ_eq_append_getElem h, digV_snoc]
theorem digV_lt (l : List UInt8) (h : ∀ c ∈ l, c.toNat ≤ 57) : ∀ k, k ≤ l.length → digV (l.take k) < 10 ^ k
  | 0, _ => by simp [digV]
  | k + 1, hk => by
    have ih := digV_lt l h k (by omega)
    rw [digV_take l k (by omega)]
    have := h l[k] (List.getElem_mem (by omega))
    rw [Nat.pow_succ]
    omega
theorem digV_lt10 (l : List UInt8) (k : Nat) (hk : k ≤ l.length) (h10 : k ≤ 10) (h : ∀ j (hj : j < l.length), j < k → l[j].toNat ≤ 57) : digV (l.take k) < 10000000000 := by
  have h1 := digV_lt (l.take k) (fun c hc => by
    obtain ⟨j, hj, rfl⟩ := List.getElem_of_mem hc
    rw [List.getElem_take]
    rw [List.length_take] at hj
    exact h j (by omega) (by omega)) k (by rw [List.length_take]; omega)
  rw [List.take_take, Nat.min_self] at h1
  exact Nat.lt_of_lt_of_le h1 (Nat.pow_le_pow_right (by decide) h10)
/-- A number's digits. -/
def numD (l : List UInt8) : List UInt8 := match l with
  | [] => []
  | c :: r => if c.toNat = 45 then r else c :: r
def numP (l : List UInt8) : Prop := 1 ≤ (numD l).length ∧ (numD l).length ≤ 10 ∧ ¬ (((numD l).getD 0 0).toNat = 48 ∧ l ≠ [48]) ∧ (∀ c ∈ numD l, 48 ≤ c.toNat ∧ c.toNat ≤ 57) ∧ digV (numD l) ≤ 1073741824
open Classical in
noncomputable def numK (l : List UInt8) : Bool := decide (numP l)
open Classical in
noncomputable def numV (l : List UInt8) : Int := if numP l then (if (numD l).length < l.length then -(digV (numD l) : Int) else digV (numD l)) else 0
theorem num_not {l : List UInt8} (h : ¬ numP l) : numV l = 0 ∧ numK l = false := by
  constructor
  · rw [numV, if_neg h]
  · simp [numK, h]
theorem num_yes {l : List UInt8} (h : numP l) : numV l = (if (numD l).length < l.length then -(digV (numD l) : Int) else digV (numD l)) ∧ numK l = true := by
  constructor
  · rw [numV, if_pos h]
  · simp [numK, h]
theorem numD_plain {s : ByteArray} (h : 0 < s.size) (h45 : ¬ (s[0]'h).toNat = 45) : numD s.data.toList = s.data.toList := by
  obtain ⟨⟨l⟩⟩ := s
  cases l with
  | nil => rfl
  | cons c r =>
    have : ¬ c.toNat = 45 := by simpa [ByteArray.getElem_eq_getElem_data] using h45
    show (if c.toNat = 45 then r else c :: r) = c :: r
    rw [if_neg this]
theorem numD_neg {s : ByteArray} (h : 0 < s.size) (h45 : (s[0]'h).toNat = 45) : numD s.data.toList = (s.extract 1 s.size).data.toList := by
  rw [Lib.extract_data]
  obtain ⟨⟨l⟩⟩ := s
  cases l with
  | nil => simp [ByteArray.size] at h
  | cons c r =>
    have : c.toNat = 45 := by simpa [ByteArray.getElem_eq_getElem_data] using h45
    show (if c.toNat = 45 then r else c :: r) = _
    rw [if_pos this]
    simp [ByteArray.size]
theorem get_list (s : ByteArray) (k : Nat) (h : k < s.size) (h' : k < s.data.toList.length) : s.data.toList[k] = s[k] := by simp [ByteArray.getElem_eq_getElem_data]
theorem len_list (s : ByteArray) : s.data.toList.length = s.size := (Lib.size_eq s).symm
set_option maxHeartbeats 8000000 in
theorem rnumber_plain (s : ByteArray) (w : World) (h0 : 0 < s.size) (h45 : ¬ s[0].toNat = 45) :
    Calls Tryd.prog 9 #[.string s] w fun e w' => e = .returned (.tuple #[.int .i64 (numV s.data.toList), .bool (numK s.data.toList)]) ∧ w = w' := by
  have HDL : Hid (numD s.data.toList = s.data.toList) := numD_plain h0 h45
  have gq45 : ((s[0].toNat : Int) == 45) = false := by simp; omega
  go_enter Tryd.func9, Tryd.ntmps9
  go_upto_region 4 with fail
  have gz : (((s.size : Nat) : Int) == 0) = false := by rw [beq_eq_false_iff_ne]; omega
  by_cases h10 : 10 < s.size
  · have g10 : (10 : Int) < ((s.size : Nat) : Int) := by omega
    have HN : Hid (numV s.data.toList = 0 ∧ numK s.data.toList = false) := num_not (by
      intro h
      have h1 := h.2.1
      rw [HDL.out, len_list] at h1
      omega)
    go_wp2
    go_ret2
    exact ⟨by rw [HN.out.1, HN.out.2]; rfl, rfl⟩
  have g10 : ¬ (10 : Int) < ((s.size : Nat) : Int) := by omega
  have HD0 : Hid ((numD s.data.toList).getD 0 0 = s[0]) := by
    show _ = _
    rw [HDL.out, List.getD_eq_getElem?_getD, List.getElem?_eq_getElem (by rw [len_list]; exact h0), Option.getD_some]
    exact get_list s 0 (by exact h0) _
  by_cases h48 : s[0].toNat = 48
  · have gq48 : ((s[0].toNat : Int) == 48) = true := by simp; omega
    cases he : s.toList == [48] with
    | false =>
      have HN : Hid (numV s.data.toList = 0 ∧ numK s.data.toList = false) := num_not (by
        intro h
        refine h.2.2.1 ⟨by rw [HD0.out]; exact h48, fun e => ?_⟩
        rw [Lib.toList_data, e] at he
        simp at he)
      go_wp2
      go_ret2
      exact ⟨by rw [HN.out.1, HN.out.2]; rfl, rfl⟩
    | true =>
      have H48 : Hid (¬ (((numD s.data.toList).getD 0 0).toNat = 48 ∧ s.data.toList ≠ [48])) := fun h => h.2 (by rw [← Lib.toList_data]; simpa using he)
      have hsz10 : s.size ≤ 10 := by omega
      go_wp2
      go_loop [5, 6] (fun n i => ∃ k : Nat, k ≤ s.size ∧ i = .int .i64 k ∧ n = .int .i64 (digV (s.data.toList.take k)) ∧ Hid (∀ j (hj : j < s.data.toList.length), j < k → 48 ≤ s.data.toList[j].toNat ∧ s.data.toList[j].toNat ≤ 57)) (fun _ i => s.size - (intOf i).toNat)
      case atStart => exact ⟨0, Nat.zero_le _, rfl, rfl, fun j h1 h2 => by omega⟩
      case round =>
        obtain ⟨k, hk, rfl, rfl, HA⟩ := hrel
        have hv := digV_lt10 s.data.toList k (by rw [len_list]; exact hk) (by omega) (fun j h1 h2 => (HA.out j h1 h2).2)
        by_cases hlt : k < s.size
        · have hll : k < s.data.toList.length := by rw [len_list]; exact hlt
          have HG : Hid (s.data.toList[k] = s[k]) := get_list s k hlt hll
          have HV : Hid (digV (s.data.toList.take (k + 1)) = 10 * digV (s.data.toList.take k) + (s.data.toList[k].toNat - 48)) := digV_take _ _ hll
          obtain ⟨V, hV⟩ : ∃ V, digV (s.data.toList.take k) = V := ⟨_, rfl⟩
          rw [hV] at hv HV ⊢
          by_cases hlo : s[k].toNat < 48
          · have g1 : (s[k].toNat : Int) < 48 := by omega
            clear hV
            have HN : Hid (numV s.data.toList = 0 ∧ numK s.data.toList = false) := num_not (by
              intro h
              have h1 := h.2.2.2.1
              rw [HDL.out] at h1
              have := h1 _ (List.getElem_mem hll)
              rw [HG.out] at this
              omega)
            go_wp2
            go_ret2
            exact ⟨by rw [HN.out.1, HN.out.2]; rfl, rfl⟩
          · have g1 : ¬ (s[k].toNat : Int) < 48 := by omega
            by_cases hhi : 57 < s[k].toNat
            · have g2 : (57 : Int) < (s[k].toNat : Int) := by omega
              clear hV
              have HN : Hid (numV s.data.toList = 0 ∧ numK s.data.toList = false) := num_not (by
                intro h
                have h1 := h.2.2.2.1
                rw [HDL.out] at h1
                have := h1 _ (List.getElem_mem hll)
                rw [HG.out] at this
                omega)
              go_wp2
              go_ret2
              exact ⟨by rw [HN.out.1, HN.out.2]; rfl, rfl⟩
            · have g2 : ¬ (57 : Int) < (s[k].toNat : Int) := by omega
              obtain ⟨c, hc⟩ : ∃ c, s[k].toNat = c := ⟨_, rfl⟩
              have HC : Hid (s.data.toList[k].toNat = c) := by show _ = _; rw [HG.out, hc]
              rw [hc] at hlo hhi
              clear hV g1 g2
              have g1 : ¬ (c : Int) < 48 := by omega
              have g2 : ¬ (57 : Int) < (c : Int) := by omega
              have g3 : IntKind.u8.wrap ((c : Int) - 48) = (c : Int) - 48 := by simp [IntKind.wrap, IntKind.signed, IntKind.bits]; omega
              go_wp2
              go_round
              case rel =>
                refine ⟨k + 1, by omega, by go_num, ?_, fun j h1 h2 => ?_⟩
                · rw [HV.out, HC.out]
                  go_num
                · by_cases e : j = k
                  · subst e; rw [HC.out]; omega
                  · exact HA.out j h1 (by omega)
              case measure => simp [intOf]; omega
        · obtain rfl : k = s.size := by omega
          have HTK : Hid (s.data.toList.take s.size = s.data.toList) := by show _ = _; rw [← len_list]; exact List.take_length
          rw [HTK.out] at hv ⊢
          obtain ⟨V, hV⟩ : ∃ V, digV s.data.toList = V := ⟨_, rfl⟩
          have HVV : Hid (digV s.data.toList = V) := hV
          rw [hV] at hv ⊢
          clear hV
          by_cases hm : V ≤ 1073741824
          · have g1 : ¬ (1073741824 : Int) < (V : Int) := by omega
            have HN : Hid (numV s.data.toList = (V : Int) ∧ numK s.data.toList = true) := by
              have hp : numP s.data.toList := by
                refine ⟨?_, ?_, ?_, ?_, ?_⟩
                · rw [HDL.out, len_list]; omega
                · rw [HDL.out, len_list]; omega
                · exact H48.out
                · intro c hc
                  rw [HDL.out] at hc
                  obtain ⟨j, hj, rfl⟩ := List.getElem_of_mem hc
                  exact HA.out j hj (by rw [← len_list]; exact hj)
                · rw [HDL.out, HVV.out]; exact hm
              have h := num_yes hp
              rw [HDL.out, HVV.out, len_list] at h
              show _ ∧ _
              rw [h.1, h.2, if_neg (by omega)]
              exact ⟨rfl, rfl⟩
            skip
            go_wp2
            go_ret2
            exact ⟨by rw [HN.out.1, HN.out.2]; rfl, rfl⟩
          · have g1 : (1073741824 : Int) < (V : Int) := by omega
            have HN : Hid (numV s.data.toList = 0 ∧ numK s.data.toList = false) := num_not (by
              intro h
              have h1 := h.2.2.2.2
              rw [HDL.out, HVV.out] at h1
              omega)
            go_wp2
            go_ret2
            exact ⟨by rw [HN.out.1, HN.out.2]; rfl, rfl⟩
  have gq48 : ((s[0].toNat : Int) == 48) = false := by simp; omega
  have H48 : Hid (¬ (((numD s.data.toList).getD 0 0).toNat = 48 ∧ s.data.toList ≠ [48])) := fun h => h48 (by rw [← HD0.out]; exact h.1)
  have hsz10 : s.size ≤ 10 := by omega
  go_wp2
  go_loop [5, 6] (fun n i => ∃ k : Nat, k ≤ s.size ∧ i = .int .i64 k ∧ n = .int .i64 (digV (s.data.toList.take k)) ∧ Hid (∀ j (hj : j < s.data.toList.length), j < k → 48 ≤ s.data.toList[j].toNat ∧ s.data.toList[j].toNat ≤ 57)) (fun _ i => s.size - (intOf i).toNat)
  case atStart => exact ⟨0, Nat.zero_le _, rfl, rfl, fun j h1 h2 => by omega⟩
  case round =>
    obtain ⟨k, hk, rfl, rfl, HA⟩ := hrel
    have hv := digV_lt10 s.data.toList k (by rw [len_list]; exact hk) (by omega) (fun j h1 h2 => (HA.out j h1 h2).2)
    by_cases hlt : k < s.size
    · have hll : k < s.data.toList.length := by rw [len_list]; exact hlt
      have HG : Hid (s.data.toList[k] = s[k]) := get_list s k hlt hll
      have HV : Hid (digV (s.data.toList.take (k + 1)) = 10 * digV (s.data.toList.take k) + (s.data.toList[k].toNat - 48)) := digV_take _ _ hll
      obtain ⟨V, hV⟩ : ∃ V, digV (s.data.toList.take k) = V := ⟨_, rfl⟩
      rw [hV] at hv HV ⊢
      by_cases hlo : s[k].toNat < 48
      · have g1 : (s[k].toNat : Int) < 48 := by omega
        clear hV
        have HN : Hid (numV s.data.toList = 0 ∧ numK s.data.toList = false) := num_not (by
          intro h
          have h1 := h.2.2.2.1
          rw [HDL.out] at h1
          have := h1 _ (List.getElem_mem hll)
          rw [HG.out] at this
          omega)
        go_wp2
        go_ret2
        exact ⟨by rw [HN.out.1, HN.out.2]; rfl, rfl⟩
      · have g1 : ¬ (s[k].toNat : Int) < 48 := by omega
        by_cases hhi : 57 < s[k].toNat
        · have g2 : (57 : Int) < (s[k].toNat : Int) := by omega
          clear hV
          have HN : Hid (numV s.data.toList = 0 ∧ numK s.data.toList = false) := num_not (by
            intro h
            have h1 := h.2.2.2.1
            rw [HDL.out] at h1
            have := h1 _ (List.getElem_mem hll)
            rw [HG.out] at this
            omega)
          go_wp2
          go_ret2
          exact ⟨by rw [HN.out.1, HN.out.2]; rfl, rfl⟩
        · have g2 : ¬ (57 : Int) < (s[k].toNat : Int) := by omega
          obtain ⟨c, hc⟩ : ∃ c, s[k].toNat = c := ⟨_, rfl⟩
          have HC : Hid (s.data.toList[k].toNat = c) := by show _ = _; rw [HG.out, hc]
          rw [hc] at hlo hhi
          clear hV g1 g2
          have g1 : ¬ (c : Int) < 48 := by omega
          have g2 : ¬ (57 : Int) < (c : Int) := by omega
          have g3 : IntKind.u8.wrap ((c : Int) - 48) = (c : Int) - 48 := by simp [IntKind.wrap, IntKind.signed, IntKind.bits]; omega
          go_wp2
          go_round
          case rel =>
            refine ⟨k + 1, by omega, by go_num, ?_, fun j h1 h2 => ?_⟩
            · rw [HV.out, HC.out]
              go_num
            · by_cases e : j = k
              · subst e; rw [HC.out]; omega
              · exact HA.out j h1 (by omega)
          case measure => simp [intOf]; omega
    · obtain rfl : k = s.size := by omega
      have HTK : Hid (s.data.toList.take s.size = s.data.toList) := by show _ = _; rw [← len_list]; exact List.take_length
      rw [HTK.out] at hv ⊢
      obtain ⟨V, hV⟩ : ∃ V, digV s.data.toList = V := ⟨_, rfl⟩
      have HVV : Hid (digV s.data.toList = V) := hV
      rw [hV] at hv ⊢
      clear hV
      by_cases hm : V ≤ 1073741824
      · have g1 : ¬ (1073741824 : Int) < (V : Int) := by omega
        have HN : Hid (numV s.data.toList = (V : Int) ∧ numK s.data.toList = true) := by
          have hp : numP s.data.toList := by
            refine ⟨?_, ?_, ?_, ?_, ?_⟩
            · rw [HDL.out, len_list]; omega
            · rw [HDL.out, len_list]; omega
            · exact H48.out
            · intro c hc
              rw [HDL.out] at hc
              obtain ⟨j, hj, rfl⟩ := List.getElem_of_mem hc
              exact HA.out j hj (by rw [← len_list]; exact hj)
            · rw [HDL.out, HVV.out]; exact hm
          have h := num_yes hp
          rw [HDL.out, HVV.out, len_list] at h
          show _ ∧ _
          rw [h.1, h.2, if_neg (by omega)]
          exact ⟨rfl, rfl⟩
        skip
        go_wp2
        go_ret2
        exact ⟨by rw [HN.out.1, HN.out.2]; rfl, rfl⟩
      · have g1 : (1073741824 : Int) < (V : Int) := by omega
        have HN : Hid (numV s.data.toList = 0 ∧ numK s.data.toList = false) := num_not (by
          intro h
          have h1 := h.2.2.2.2
          rw [HDL.out, HVV.out] at h1
          omega)
        go_wp2
        go_ret2
        exact ⟨by rw [HN.out.1, HN.out.2]; rfl, rfl⟩
set_option maxHeartbeats 8000000 in
theorem rnumber_neg (s : ByteArray) (w : World) (hs : s.size ≤ 140737488355328) (h0 : 0 < s.size) (h45 : s[0].toNat = 45) :
    Calls Tryd.prog 9 #[.string s] w fun e w' => e = .returned (.tuple #[.int .i64 (numV s.data.toList), .bool (numK s.data.toList)]) ∧ w = w' := by
  obtain ⟨b, hb⟩ : ∃ b, s.extract 1 s.size = b := ⟨_, rfl⟩
  have HDL : Hid (numD s.data.toList = b.data.toList) := by show _ = _; rw [← hb]; exact numD_neg h0 h45
  have hbs : b.size < s.size := by rw [← hb, rest_size]; omega
  have gq45 : ((s[0].toNat : Int) == 45) = true := by simp; omega
  go_enter Tryd.func9, Tryd.ntmps9
  go_upto_region 4 with fail
  clear hb
  by_cases hz : b.size = 0
  · have gz : (((b.size : Nat) : Int) == 0) = true := by simp [hz]
    have HN : Hid (numV s.data.toList = 0 ∧ numK s.data.toList = false) := num_not (by
      intro h
      have h1 := h.1
      rw [HDL.out, len_list] at h1
      omega)
    go_wp2
    go_ret2
    exact ⟨by rw [HN.out.1, HN.out.2]; rfl, rfl⟩
  have hbp : 0 < b.size := by omega
  have gz : (((b.size : Nat) : Int) == 0) = false := by rw [beq_eq_false_iff_ne]; omega
  by_cases h10 : 10 < b.size
  · have g10 : (10 : Int) < ((b.size : Nat) : Int) := by omega
    have HN : Hid (numV s.data.toList = 0 ∧ numK s.data.toList = false) := num_not (by
      intro h
      have h1 := h.2.1
      rw [HDL.out, len_list] at h1
      omega)
    go_wp2
    go_ret2
    exact ⟨by rw [HN.out.1, HN.out.2]; rfl, rfl⟩
  have g10 : ¬ (10 : Int) < ((b.size : Nat) : Int) := by omega
  have HD0 : Hid ((numD s.data.toList).getD 0 0 = b[0]) := by
    show _ = _
    rw [HDL.out, List.getD_eq_getElem?_getD, List.getElem?_eq_getElem (by rw [len_list]; exact hbp), Option.getD_some]
    exact get_list b 0 (by exact hbp) _
  by_cases h48 : b[0].toNat = 48
  · have gq48 : ((b[0].toNat : Int) == 48) = true := by simp; omega
    have hne : (s.toList == [48]) = false := by
      rw [Lib.toList_data]
      cases e : s.data.toList == [48] with
      | false => rfl
      | true =>
        exfalso
        have e1 : s.data.toList = [48] := by simpa using e
        have e2 := len_list s
        rw [e1] at e2
        simp at e2
        omega
    have HN : Hid (numV s.data.toList = 0 ∧ numK s.data.toList = false) := num_not (by
      intro h
      refine h.2.2.1 ⟨by rw [HD0.out]; exact h48, fun e => ?_⟩
      have e2 := len_list s
      rw [e] at e2
      simp at e2
      omega)
    go_wp2
    go_ret2
    exact ⟨by rw [HN.out.1, HN.out.2]; rfl, rfl⟩
  have gq48 : ((b[0].toNat : Int) == 48) = false := by simp; omega
  have H48 : Hid (¬ (((numD s.data.toList).getD 0 0).toNat = 48 ∧ s.data.toList ≠ [48])) := fun h => h48 (by rw [← HD0.out]; exact h.1)
  have hsz10 : b.size ≤ 10 := by omega
  go_wp2
  go_loop [5, 6] (fun n i => ∃ k : Nat, k ≤ b.size ∧ i = .int .i64 k ∧ n = .int .i64 (digV (b.data.toList.take k)) ∧ Hid (∀ j (hj : j < b.data.toList.length), j < k → 48 ≤ b.data.toList[j].toNat ∧ b.data.toList[j].toNat ≤ 57)) (fun _ i => b.size - (intOf i).toNat)
  case atStart => exact ⟨0, Nat.zero_le _, rfl, rfl, fun j h1 h2 => by omega⟩
  case round =>
    obtain ⟨k, hk, rfl, rfl, HA⟩ := hrel
    have hv := digV_lt10 b.data.toList k (by rw [len_list]; exact hk) (by omega) (fun j h1 h2 => (HA.out j h1 h2).2)
    by_cases hlt : k < b.size
    · have hll : k < b.data.toList.length := by rw [len_list]; exact hlt
      have HG : Hid (b.data.toList[k] = b[k]) := get_list b k hlt hll
      have HV : Hid (digV (b.data.toList.take (k + 1)) = 10 * digV (b.data.toList.take k) + (b.data.toList[k].toNat - 48)) := digV_take _ _ hll
      obtain ⟨V, hV⟩ : ∃ V, digV (b.data.toList.take k) = V := ⟨_, rfl⟩
      rw [hV] at hv HV ⊢
      by_cases hlo : b[k].toNat < 48
      · have g1 : (b[k].toNat : Int) < 48 := by omega
        clear hV
        have HN : Hid (numV s.data.toList = 0 ∧ numK s.data.toList = false) := num_not (by
          intro h
          have h1 := h.2.2.2.1
          rw [HDL.out] at h1
          have := h1 _ (List.getElem_mem hll)
          rw [HG.out] at this
          omega)
        go_wp2
        go_ret2
        exact ⟨by rw [HN.out.1, HN.out.2]; rfl, rfl⟩
      · have g1 : ¬ (b[k].toNat : Int) < 48 := by omega
        by_cases hhi : 57 < b[k].toNat
        · have g2 : (57 : Int) < (b[k].toNat : Int) := by omega
          clear hV
          have HN : Hid (numV s.data.toList = 0 ∧ numK s.data.toList = false) := num_not (by
            intro h
            have h1 := h.2.2.2.1
            rw [HDL.out] at h1
            have := h1 _ (List.getElem_mem hll)
            rw [HG.out] at this
            omega)
          go_wp2
          go_ret2
          exact ⟨by rw [HN.out.1, HN.out.2]; rfl, rfl⟩
        · have g2 : ¬ (57 : Int) < (b[k].toNat : Int) := by omega
          obtain ⟨c, hc⟩ : ∃ c, b[k].toNat = c := ⟨_, rfl⟩
          have HC : Hid (b.data.toList[k].toNat = c) := by show _ = _; rw [HG.out, hc]
          rw [hc] at hlo hhi
          clear hV g1 g2
          have g1 : ¬ (c : Int) < 48 := by omega
          have g2 : ¬ (57 : Int) < (c : Int) := by omega
          have g3 : IntKind.u8.wrap ((c : Int) - 48) = (c : Int) - 48 := by simp [IntKind.wrap, IntKind.signed, IntKind.bits]; omega
          go_wp2
          go_round
          case rel =>
            refine ⟨k + 1, by omega, by go_num, ?_, fun j h1 h2 => ?_⟩
            · rw [HV.out, HC.out]
              go_num
            · by_cases e : j = k
              · subst e; rw [HC.out]; omega
              · exact HA.out j h1 (by omega)
          case measure => simp [intOf]; omega
    · obtain rfl : k = b.size := by omega
      have HTK : Hid (b.data.toList.take b.size = b.data.toList) := by show _ = _; rw [← len_list]; exact List.take_length
      rw [HTK.out] at hv ⊢
      obtain ⟨V, hV⟩ : ∃ V, digV b.data.toList = V := ⟨_, rfl⟩
      have HVV : Hid (digV b.data.toList = V) := hV
      rw [hV] at hv ⊢
      clear hV
      by_cases hm : V ≤ 1073741824
      · have g1 : ¬ (1073741824 : Int) < (V : Int) := by omega
        have HN : Hid (numV s.data.toList = -(V : Int) ∧ numK s.data.toList = true) := by
          have hp : numP s.data.toList := by
            refine ⟨?_, ?_, ?_, ?_, ?_⟩
            · rw [HDL.out, len_list]; omega
            · rw [HDL.out, len_list]; omega
            · exact H48.out
            · intro c hc
              rw [HDL.out] at hc
              obtain ⟨j, hj, rfl⟩ := List.getElem_of_mem hc
              exact HA.out j hj (by rw [← len_list]; exact hj)
            · rw [HDL.out, HVV.out]; exact hm
          have h := num_yes hp
          rw [HDL.out, HVV.out, len_list, len_list] at h
          show _ ∧ _
          rw [h.1, h.2, if_pos (by omega)]
          exact ⟨rfl, rfl⟩
        have hlen : ((b.size : Nat) : Int) < (s.size : Int) := by omega
        go_wp2
        go_ret2
        exact ⟨by rw [HN.out.1, HN.out.2]; rfl, rfl⟩
      · have g1 : (1073741824 : Int) < (V : Int) := by omega
        have HN : Hid (numV s.data.toList = 0 ∧ numK s.data.toList = false) := num_not (by
          intro h
          have h1 := h.2.2.2.2
          rw [HDL.out, HVV.out] at h1
          omega)
        go_wp2
        go_ret2
        exact ⟨by rw [HN.out.1, HN.out.2]; rfl, rfl⟩
theorem rnumber_to (s : ByteArray) (w : World) (hs : s.size ≤ 140737488355328) :
    Calls Tryd.prog 9 #[.string s] w fun e w' => e = .returned (.tuple #[.int .i64 (numV s.data.toList), .bool (numK s.data.toList)]) ∧ w = w' := by
  by_cases h0 : 0 < s.size
  · by_cases h45 : s[0].toNat = 45
    · exact rnumber_neg s w hs h0 h45
    · exact rnumber_plain s w h0 h45
  · have hl : s.data.toList = [] := List.eq_nil_of_length_eq_zero (by rw [len_list]; omega)
    have HN : Hid (numV s.data.toList = 0 ∧ numK s.data.toList = false) := num_not (by rw [hl]; intro h; have := h.1; simp [numD] at this)
    have hz : s.size = 0 := by omega
    clear hl h0
    go_enter Tryd.func9, Tryd.ntmps9
    go_wp2
    go_ret2
    exact ⟨by rw [HN.out.1, HN.out.2]; rfl, rfl⟩
end Go.Proofs.YtipioeecgcljoaaDoor
