/- Contracts: spell, size, Check, Cells. -/
import Derived.Test.YtgedknmjenbacaaInts
namespace Go.Proofs.Ytgedknmjenbacaa
set_option linter.unusedVariables false
open Go.RowKit

theorem jump_ret {l : Nat} {J : Act → World → Prop} {Q : Exit → Act → World → Prop} {a : Act} {w : World} : Exit.jump l J Q .ret a w = Q .ret a w := rfl
theorem jump_normal {l : Nat} {J : Act → World → Prop} {Q : Exit → Act → World → Prop} {a : Act} {w : World} : Exit.jump l J Q .normal a w = Q .normal a w := rfl

set_option maxHeartbeats 400000 in
theorem size_any (x : Int) (w : World) (h1 : 1 ≤ x) (h2 : x ≤ 8) :
    Calls Try.prog 50 #[.int .i32 (48 + x)] w fun e w' => e = .returned (.int .i64 x) ∧ w = w' := by
  go_enter Try.func50, Try.ntmps50
  go_wp2
  go_ret
  exact ⟨by go_num, rfl⟩

set_option maxHeartbeats 400000 in
theorem spell_some (b off c : Nat) (d : List Int) (w : World) (hc : d.length ≤ c)
    (HC : Hid (∀ i (h : i < d.length), w.cell? ⟨b, off + i, none⟩ = some (.int .i64 d[i]))) :
    Calls Try.prog 49 #[.slice (some ⟨b, off, none⟩) d.length c] w fun e w' => e = .returned (.tuple #[.string (spT d), .int .i64 (erf d)]) ∧ w = w' := by
  go_enter Try.func49, Try.ntmps49
  go_wp2
  refine wp_scope_jumps 0 (fun a' w' => (w' = w ∧ Hid (okd d = false)) ∧ ∃ (u0 u1 u2 u3 u4 u5 u6 u7 u8 u9 u10 u11 u12 u13 u14 u15 u16 u17 u18 u19 u20 u21 u22 u23 u24 u25 u26 u27 u28 u29 u30 u31 u32 u33 u34 u35 u36 u37 u38 u39 u40 : Value), a' = { tmps := #[u0, u1, u2, u3, u4, u5, u6, u7, u8, u9, u10, u11, u12, u13, u14, u15, u16, u17, u18, u19, u20, u21, u22, u23, u24, u25, u26, u27, u28, u29, u30, u31, u32, u33, u34, u35, u36, u37, u38, u39, u40], defers := [] }) (fun _ _ => 0) rfl ?_ ?_
  · by_cases h0 : d.length < 1
    · go_wp2
      go_step3
      exact ⟨rfl, ⟨rfl, okd_len (Or.inl h0)⟩, _, _, _, _, _, _, _, _, _, _, _, _, _, _, _, _, _, _, _, _, _, _, _, _, _, _, _, _, _, _, _, _, _, _, _, _, _, _, _, _, _, rfl⟩
    by_cases h3 : 3 < d.length
    · go_wp2
      go_step3
      exact ⟨rfl, ⟨rfl, okd_len (Or.inr h3)⟩, _, _, _, _, _, _, _, _, _, _, _, _, _, _, _, _, _, _, _, _, _, _, _, _, _, _, _, _, _, _, _, _, _, _, _, _, _, _, _, _, _, rfl⟩
    go_wp2
    go_loop [4, 5, 18] (fun t p i => ∃ k : Nat, k ≤ d.length ∧ i = .int .i64 k ∧ t = .string (txt (d.take k)) ∧ p = .int .i64 (prd (d.take k)) ∧ inr (d.take k) = true) (fun _ _ i => d.length - (intOf i).toNat)
    case atStart => exact ⟨0, Nat.zero_le _, rfl, rfl, rfl, rfl⟩
    case round =>
      obtain ⟨k, hk, rfl, rfl, rfl, hin⟩ := hrel
      by_cases hlt : k < d.length
      · have hx := HC.out k hlt
        have hp1 := prd_lo hin
        have hp2 := prd_hi hin 2 (by simp; omega)
        have ht := take_snoc d k hlt
        have HT : Hid (d.take (k + 1) = d.take k ++ [d[k]]) := ht
        clear ht
        by_cases hg : 1 ≤ d[k] ∧ d[k] ≤ 8
        · obtain ⟨g1, g2⟩ := hg
          have HE : Hid (Utf8.encode (48 + d[k]) = ⟨#[dig d[k]]⟩) := enc_dig d[k] g1 g2
          have hm1 : 1 ≤ prd (d.take k) * d[k] := by
            have := Int.mul_le_mul hp1 g1 (by omega) (by omega)
            omega
          have hm2 : prd (d.take k) * d[k] ≤ 512 := by
            have := Int.mul_le_mul hp2 g2 (by omega) (by omega)
            omega
          have hs1 : (txt (d.take k)).size ≤ 3 := by rw [size_txt]; simp; omega
          have hs2 : (Utf8.encode (48 + d[k])).size ≤ 1 := by rw [HE.out]; exact Nat.le_refl 1
          go_wp2
          refine ⟨⟨k + 1, by omega, by go_num, ?_, ?_, ?_⟩, by simp [intOf]; omega⟩
          · rw [HT.out, txt_snoc, HE.out]
          · rw [HT.out, prd_snoc]
          · rw [HT.out, inr_snoc, hin]; simp [g1, g2]
        · have hb := okd_inr (inr_bad k hlt hg)
          have HB : Hid (okd d = false) := hb
          clear hb
          by_cases g1 : d[k] < 1
          · go_wp2
            go_step3
            exact ⟨rfl, ⟨rfl, HB⟩, _, _, _, _, _, _, _, _, _, _, _, _, _, _, _, _, _, _, _, _, _, _, _, _, _, _, _, _, _, _, _, _, _, _, _, _, _, _, _, _, _, rfl⟩
          · have g2 : 8 < d[k] := by omega
            go_wp2
            go_step3
            exact ⟨rfl, ⟨rfl, HB⟩, _, _, _, _, _, _, _, _, _, _, _, _, _, _, _, _, _, _, _, _, _, _, _, _, _, _, _, _, _, _, _, _, _, _, _, _, _, _, _, _, _, rfl⟩
      · have hk' : k = d.length := by omega
        subst hk'
        rw [List.take_length] at hin ⊢
        have hp1 := prd_lo hin
        have hp2 := prd_hi hin 3 (by omega)
        by_cases hp : prd d ≤ 64
        · have hok := okd_mk (by omega) (by omega) hin hp
          have HK : Hid (okd d = true) := hok
          clear hok
          go_wp2
          rw [jump_ret]
          go_ret2
          exact ⟨by rw [spT_ok HK.out, erf_ok HK.out]; rfl, rfl⟩
        · have HB : Hid (okd d = false) := okd_prd (by omega)
          go_wp2
          go_step3
          exact ⟨rfl, ⟨rfl, HB⟩, _, _, _, _, _, _, _, _, _, _, _, _, _, _, _, _, _, _, _, _, _, _, _, _, _, _, _, _, _, _, _, _, _, _, _, _, _, _, _, _, _, rfl⟩
  · rintro a w' ⟨⟨rfl, hbad⟩, u0, u1, u2, u3, u4, u5, u6, u7, u8, u9, u10, u11, u12, u13, u14, u15, u16, u17, u18, u19, u20, u21, u22, u23, u24, u25, u26, u27, u28, u29, u30, u31, u32, u33, u34, u35, u36, u37, u38, u39, u40, rfl⟩
    go_wp2
    rw [jump_ret]
    go_ret2
    exact ⟨by rw [spT_bad hbad.out, erf_bad hbad.out]; rfl, rfl⟩

set_option maxHeartbeats 400000 in
theorem spell_none (a : Option Addr) (c : Nat) (w : World) :
    Calls Try.prog 49 #[.slice a 0 c] w fun e w' => e = .returned (.tuple #[.string ⟨#[]⟩, .int .i64 1]) ∧ w = w' := by
  go_enter Try.func49, Try.ntmps49
  go_wp2
  refine wp_scope_jumps 0 (fun a' w' => (w' = w) ∧ ∃ (u0 u1 u2 u3 u4 u5 u6 u7 u8 u9 u10 u11 u12 u13 u14 u15 u16 u17 u18 u19 u20 u21 u22 u23 u24 u25 u26 u27 u28 u29 u30 u31 u32 u33 u34 u35 u36 u37 u38 u39 u40 : Value), a' = { tmps := #[u0, u1, u2, u3, u4, u5, u6, u7, u8, u9, u10, u11, u12, u13, u14, u15, u16, u17, u18, u19, u20, u21, u22, u23, u24, u25, u26, u27, u28, u29, u30, u31, u32, u33, u34, u35, u36, u37, u38, u39, u40], defers := [] }) (fun _ _ => 0) rfl ?_ ?_
  · go_wp2
    go_step3
    exact ⟨rfl, rfl, _, _, _, _, _, _, _, _, _, _, _, _, _, _, _, _, _, _, _, _, _, _, _, _, _, _, _, _, _, _, _, _, _, _, _, _, _, _, _, _, _, rfl⟩
  · rintro a w' ⟨rfl, u0, u1, u2, u3, u4, u5, u6, u7, u8, u9, u10, u11, u12, u13, u14, u15, u16, u17, u18, u19, u20, u21, u22, u23, u24, u25, u26, u27, u28, u29, u30, u31, u32, u33, u34, u35, u36, u37, u38, u39, u40, rfl⟩
    go_wp2
    rw [jump_ret]
    go_ret2
    exact ⟨rfl, rfl⟩

theorem spell_any {v : Value} {d : List Int} {w : World} (h : Ints w v d) :
    Calls Try.prog 49 #[v] w fun e w' => e = .returned (.tuple #[.string (spT d), .int .i64 (erf d)]) ∧ w = w' := by
  rcases h.cases with ⟨rfl, a, c, rfl⟩ | ⟨b, off, c, rfl, h0, h1, h2, h3⟩
  · exact spell_none a c w
  · exact spell_some b off c d w h1 h3

set_option maxHeartbeats 400000 in
theorem check_any {v : Value} {d : List Int} {w : World} (h : Ints w v d) :
    Calls Try.prog 51 #[v] w fun e w' => e = .returned (.int .i64 (erf d)) ∧ w = w' := by
  have H : Hid (Ints w v d) := h
  clear h
  go_enter Try.func51, Try.ntmps51
  go_wp2_with (go_at_call 49; refine (spell_any H.out).mono ?_; rintro e w' ⟨rfl, rfl⟩)
  go_ret
  exact ⟨rfl, rfl⟩

theorem txt_get (d : List Int) (k : Nat) (h : k < d.length) (h1 : 1 ≤ d[k]) (h2 : d[k] ≤ 8) (hs : k < (txt d).size) : ((txt d)[k].toNat : Int) = 48 + d[k] ∧ (txt d)[k].toNat < 128 := by
  have e : (txt d)[k] = dig d[k] := by simp [txt, ByteArray.getElem_eq_getElem_data]
  rw [e]
  have : (dig d[k]).toNat = 48 + d[k].toNat := by
    simp only [dig, UInt8.toNat_ofNat']
    omega
  rw [this]
  omega

theorem next_dig {d : List Int} (hok : okd d = true) (w : World) (k : Nat) (h : k < d.length) (ty : TypeId) :
    (Instr.next (.pointer (some ⟨w.heap.size, 0, none⟩)) true ty).run Try.prog (w.iter (txt d) k) = .ok (.tuple #[.bool true, .int .i64 k, .int .i32 (48 + d[k])]) (w.iter (txt d) (k + 1)) := by
  obtain ⟨_, _, hin, _⟩ := okd_parts hok
  have hx := inr_mem hin (List.getElem_mem h)
  have hs : k < (txt d).size := by rw [size_txt]; exact h
  obtain ⟨g1, g2⟩ := txt_get d k h hx.1 hx.2 hs
  rw [run_next_ascii w (txt d) k ty hs g2, g1]
theorem next_end {d : List Int} (w : World) (ty : TypeId) :
    (Instr.next (.pointer (some ⟨w.heap.size, 0, none⟩)) true ty).run Try.prog (w.iter (txt d) d.length) = .ok (.tuple #[.bool false]) (w.iter (txt d) d.length) := run_next_end w (txt d) d.length ty (by rw [size_txt]; omega)

set_option maxHeartbeats 400000 in
theorem cells_ok {v : Value} {d : List Int} {w : World} (h : Ints w v d) (hok : okd d = true) :
    Calls Try.prog 46 #[v] w fun e w' => e = .returned (.tuple #[.int .i64 (prd d), .int .i64 0]) ∧ Below w.heap.size w w' := by
  have H : Hid (Ints w v d) := h
  have HK : Hid (okd d = true) := hok
  obtain ⟨hl1, hl2, hin, hp⟩ := okd_parts hok
  have HI : Hid (inr d = true) := hin
  clear h hok hin
  go_enter Try.func46, Try.ntmps46
  go_wp2_with (go_at_call 49; refine (spell_any H.out).mono ?_; rw [spT_ok HK.out, erf_ok HK.out]; rintro e w' ⟨rfl, rfl⟩)
  go_loopw [6] (fun p w' => ∃ k : Nat, k ≤ d.length ∧ w' = w.iter (txt d) k ∧ p = .int .i64 (prd (d.take k))) (fun _ w' => d.length - w'.iterPos w.heap.size)
  case atStart => exact ⟨0, Nat.zero_le _, rfl, rfl⟩
  case round =>
    obtain ⟨k, hk, rfl, rfl⟩ := hrel
    by_cases hlt : k < d.length
    · have hnx := fun ty => next_dig HK.out w k hlt ty
      have hx := inr_mem HI.out (List.getElem_mem hlt)
      obtain ⟨g1, g2⟩ := hx
      have hp1 := prd_lo (inr_take HI.out k)
      have hp2 := prd_hi (inr_take HI.out k) 2 (by simp; omega)
      have HT : Hid (d.take (k + 1) = d.take k ++ [d[k]]) := take_snoc d k hlt
      have hm1 : 1 ≤ prd (d.take k) * d[k] := by
        have := Int.mul_le_mul hp1 g1 (by omega) (by omega)
        omega
      have hm2 : prd (d.take k) * d[k] ≤ 512 := by
        have := Int.mul_le_mul hp2 g2 (by omega) (by omega)
        omega
      go_wp2_with (go_at_call 50; refine (size_any _ _ g1 g2).mono ?_; rintro e w' ⟨rfl, rfl⟩)
      go_roundw
      case rel => exact ⟨k + 1, by omega, rfl, by rw [HT.out, prd_snoc]⟩
      case measure => simp; omega
    · have hk' : k = d.length := by omega
      subst hk'
      have hnx := fun ty => next_end (d := d) w ty
      rw [List.take_length]
      go_wp2
      go_ret2
      exact ⟨rfl, (Below.refl _ _).alloc (Nat.le_refl _) _⟩

set_option maxHeartbeats 400000 in
theorem cells_bad {v : Value} {d : List Int} {w : World} (h : Ints w v d) (hok : okd d = false) :
    Calls Try.prog 46 #[v] w fun e w' => e = .returned (.tuple #[.int .i64 0, .int .i64 1]) ∧ w = w' := by
  have H : Hid (Ints w v d) := h
  have HK : Hid (okd d = false) := hok
  clear h hok
  go_enter Try.func46, Try.ntmps46
  go_wp2_with (go_at_call 49; refine (spell_any H.out).mono ?_; rw [spT_bad HK.out, erf_bad HK.out]; rintro e w' ⟨rfl, rfl⟩)
  go_ret2
  exact ⟨rfl, rfl⟩
end Go.Proofs.Ytgedknmjenbacaa

