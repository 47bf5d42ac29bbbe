/- Carried: C02. -/
import Derived.Test.YtjfkhfahpjdidaaC01
namespace Go.Proofs.Ytjfkhfahpjdidaa
set_option linter.unusedVariables false
set_option linter.unusedSimpArgs false
set_option maxRecDepth 100000
open Go.RowKit

def Ints (w : World) (v : Value) (d : List Int) : Prop :=
  (v = .slice none 0 0 ∧ d = []) ∨ ∃ (a : Addr) (c : Nat), v = .slice (some a) d.length c ∧ d.length ≤ c ∧ d.length ≤ big ∧
    ∀ i (h : i < d.length), ∃ b off, a = ⟨b, off, none⟩ ∧ w.cell? ⟨b, off + i, none⟩ = some (.int .i64 d[i])
theorem Ints.cases {w : World} {v : Value} {d : List Int} (h : Ints w v d) :
    (d = [] ∧ ∃ a c, v = .slice a 0 c) ∨ ∃ b off c, v = .slice (some ⟨b, off, none⟩) d.length c ∧ 0 < d.length ∧ d.length ≤ c ∧ d.length ≤ big ∧
      Hid (∀ i (h : i < d.length), w.cell? ⟨b, off + i, none⟩ = some (.int .i64 d[i])) := by
  rcases h with ⟨rfl, rfl⟩ | ⟨a, c, rfl, h1, h2, h3⟩
  · exact Or.inl ⟨rfl, _, _, rfl⟩
  · by_cases h0 : 0 < d.length
    · obtain ⟨b, off, rfl, _⟩ := h3 0 h0
      refine Or.inr ⟨b, off, c, rfl, h0, h1, h2, ?_⟩
      intro i hi
      obtain ⟨b', off', e, hc⟩ := h3 i hi
      cases e
      exact hc
    · have : d = [] := List.eq_nil_of_length_eq_zero (by omega)
      subst this
      exact Or.inl ⟨rfl, _, _, rfl⟩
theorem Ints.mk {w : World} {d : List Int} {b off c n : Nat} (hn : n = d.length) (h1 : d.length ≤ c) (h2 : d.length ≤ big) (h : ∀ i (h : i < d.length), w.cell? ⟨b, off + i, none⟩ = some (.int .i64 d[i])) :
    Ints w (.slice (some ⟨b, off, none⟩) n c) d := by
  subst hn
  exact Or.inr ⟨_, c, rfl, h1, h2, fun i hi => ⟨b, off, rfl, h i hi⟩⟩
theorem Ints.nil (w : World) : Ints w (.slice none 0 0) [] := Or.inl ⟨rfl, rfl⟩
theorem Ints.later {w w' : World} {v : Value} {d : List Int} (hb : Below w.heap.size w w') (h : Ints w v d) : Ints w' v d := by
  rcases h with ⟨rfl, rfl⟩ | ⟨a, c, rfl, h1, h2, h3⟩
  · exact Ints.nil _
  · refine Or.inr ⟨a, c, rfl, h1, h2, fun i hi => ?_⟩
    obtain ⟨b, off, e, hc⟩ := h3 i hi
    exact ⟨b, off, e, cell_later hb hc⟩
theorem Ints.shape {w : World} {v : Value} {d : List Int} (h : Ints w v d) : ∃ a c, v = .slice a d.length c := by
  rcases h.cases with ⟨rfl, a1, c1, rfl⟩ | ⟨b1, o1, c1, rfl, _⟩
  · exact ⟨_, _, rfl⟩
  · exact ⟨_, _, rfl⟩
theorem Ints.len {w : World} {v : Value} {d : List Int} (h : Ints w v d) : d.length ≤ big := by
  rcases h.cases with ⟨rfl, a1, c1, rfl⟩ | ⟨b1, o1, c1, rfl, _, h1, h2, _⟩
  · exact Nat.zero_le _
  · omega
theorem Ints.drewN {w : World} {v : Value} {d : List Int} (h : Ints w v d) (n : Nat) : Ints (w.drewN n) v d :=
  h.later ((Below.refl _ w).trans ⟨rfl, rfl, rfl, Nat.le_refl _, fun _ _ => rfl⟩)
theorem Below.after {w w1 w2 : World} (h1 : Below w.heap.size w w1) (h2 : Below w1.heap.size w1 w2) : Below w.heap.size w w2 :=
  h1.trans (h2.mono h1.size)
theorem Below.drewN {w w' : World} {B : Nat} (h : Below B w w') (n : Nat) : Below B w (w'.drewN n) :=
  h.trans ⟨rfl, rfl, rfl, Nat.le_refl _, fun _ _ => rfl⟩
/-- The value lies in blocks from B on. -/
def From (B : Nat) (v : Value) : Prop := ∀ k, v.ownBlock = some k → B ≤ k
theorem Ints.setCell {w : World} {v : Value} {d : List Int} (h : Ints w v d) (p : Addr) (u : Value) (hp : ∀ k, v.ownBlock = some k → k ≠ p.block) : Ints (w.setCell p u) v d := by
  rcases h with ⟨rfl, rfl⟩ | ⟨a, c, rfl, h1, h2, h3⟩
  · exact Ints.nil _
  · refine Or.inr ⟨a, c, rfl, h1, h2, fun i hi => ?_⟩
    obtain ⟨b, off, rfl, hc⟩ := h3 i hi
    refine ⟨b, off, rfl, ?_⟩
    rw [World.cell?_of_block (w := w)]
    · exact hc
    · exact Below.heap_setCell _ _ _ _ (hp b rfl)
theorem quiet_eq {P : Program} {f : FuncId} {args : Array Value} {w : World} {n : Nat} {v : Value}
    (h : Calls P f args (w.drewN n) fun e w' => e = .returned v ∧ w.drewN n = w') : Calls P f args (w.drewN n) fun e w'' => e = .returned v ∧ ∃ m, w'' = w.drewN m :=
  h.mono fun _ _ ⟨he, hm⟩ => ⟨he, n, hm.symm⟩
theorem jump_ret {l : Nat} {J : Act → World → Prop} {Q : Exit → Act → World → Prop} {a : Act} {w : World} : Exit.jump l J Q .ret a w = Q .ret a w := rfl
set_option maxHeartbeats 400000 in
theorem size_any (x : Int) (w : World) (h1 : 1 ≤ x) (h2 : x ≤ 8) :
    Calls Try.prog 67 #[.int .i32 (48 + x)] w fun e w' => e = .returned (.int .i64 x) ∧ w = w' := by
  go_enter Try.func67, Try.ntmps67
  go_wp2
  go_ret
  exact ⟨by go_num, rfl⟩
set_option maxHeartbeats 400000 in
theorem spell_some (b off c : Nat) (d : List Int) (w : World) (hc : d.length ≤ c)
    (HC : Hid (∀ i (h : i < d.length), w.cell? ⟨b, off + i, none⟩ = some (.int .i64 d[i]))) :
    Calls Try.prog 66 #[.slice (some ⟨b, off, none⟩) d.length c] w fun e w' => e = .returned (.tuple #[.string (spT d), .int .i64 (erf d)]) ∧ w = w' := by
  go_enter Try.func66, Try.ntmps66
  go_wp2
  refine wp_scope_jumps 0 (fun a' w' => (w' = w ∧ Hid (okd d = false)) ∧ ∃ (u0 u1 u2 u3 u4 u5 u6 u7 u8 u9 u10 u11 u12 u13 u14 u15 u16 u17 u18 u19 u20 u21 u22 u23 u24 u25 u26 u27 u28 u29 u30 u31 u32 u33 u34 u35 u36 u37 u38 u39 u40 : Value), a' = { tmps := #[u0, u1, u2, u3, u4, u5, u6, u7, u8, u9, u10, u11, u12, u13, u14, u15, u16, u17, u18, u19, u20, u21, u22, u23, u24, u25, u26, u27, u28, u29, u30, u31, u32, u33, u34, u35, u36, u37, u38, u39, u40], defers := [] }) (fun _ _ => 0) rfl ?_ ?_
  · by_cases h0 : d.length < 1
    · go_wp2
      go_step3
      exact ⟨rfl, ⟨rfl, okd_len (Or.inl h0)⟩, _, _, _, _, _, _, _, _, _, _, _, _, _, _, _, _, _, _, _, _, _, _, _, _, _, _, _, _, _, _, _, _, _, _, _, _, _, _, _, _, _, rfl⟩
    by_cases h3 : 3 < d.length
    · go_wp2
      go_step3
      exact ⟨rfl, ⟨rfl, okd_len (Or.inr h3)⟩, _, _, _, _, _, _, _, _, _, _, _, _, _, _, _, _, _, _, _, _, _, _, _, _, _, _, _, _, _, _, _, _, _, _, _, _, _, _, _, _, _, rfl⟩
    go_wp2
    go_loop [4, 5, 18] (fun t p i => ∃ k : Nat, k ≤ d.length ∧ i = .int .i64 k ∧ t = .string (txt (d.take k)) ∧ p = .int .i64 (prd (d.take k)) ∧ inr (d.take k) = true) (fun _ _ i => d.length - (intOf i).toNat)
    case atStart => exact ⟨0, Nat.zero_le _, rfl, rfl, rfl, rfl⟩
    case round =>
      obtain ⟨k, hk, rfl, rfl, rfl, hin⟩ := hrel
      by_cases hlt : k < d.length
      · have hx := HC.out k hlt
        have hp1 := prd_lo hin
        have hp2 := prd_hi hin 2 (by simp; omega)
        have ht := take_snoc d k hlt
        have HT : Hid (d.take (k + 1) = d.take k ++ [d[k]]) := ht
        clear ht
        by_cases hg : 1 ≤ d[k] ∧ d[k] ≤ 8
        · obtain ⟨g1, g2⟩ := hg
          have HE : Hid (Utf8.encode (48 + d[k]) = ⟨#[dig d[k]]⟩) := enc_dig d[k] g1 g2
          have hm1 : 1 ≤ prd (d.take k) * d[k] := by
            have := Int.mul_le_mul hp1 g1 (by omega) (by omega)
            omega
          have hm2 : prd (d.take k) * d[k] ≤ 512 := by
            have := Int.mul_le_mul hp2 g2 (by omega) (by omega)
            omega
          have hs1 : (txt (d.take k)).size ≤ 3 := by rw [size_txt]; simp; omega
          have hs2 : (Utf8.encode (48 + d[k])).size ≤ 1 := by rw [HE.out]; exact Nat.le_refl 1
          go_wp2
          refine ⟨⟨k + 1, by omega, by go_num, ?_, ?_, ?_⟩, by simp [intOf]; omega⟩
          · rw [HT.out, txt_snoc, HE.out]
          · rw [HT.out, prd_snoc]
          · rw [HT.out, inr_snoc, hin]; simp [g1, g2]
        · have hb := okd_inr (inr_bad k hlt hg)
          have HB : Hid (okd d = false) := hb
          clear hb
          by_cases g1 : d[k] < 1
          · go_wp2
            go_step3
            exact ⟨rfl, ⟨rfl, HB⟩, _, _, _, _, _, _, _, _, _, _, _, _, _, _, _, _, _, _, _, _, _, _, _, _, _, _, _, _, _, _, _, _, _, _, _, _, _, _, _, _, _, rfl⟩
          · have g2 : 8 < d[k] := by omega
            go_wp2
            go_step3
            exact ⟨rfl, ⟨rfl, HB⟩, _, _, _, _, _, _, _, _, _, _, _, _, _, _, _, _, _, _, _, _, _, _, _, _, _, _, _, _, _, _, _, _, _, _, _, _, _, _, _, _, _, rfl⟩
      · have hk' : k = d.length := by omega
        subst hk'
        rw [List.take_length] at hin ⊢
        have hp1 := prd_lo hin
        have hp2 := prd_hi hin 3 (by omega)
        by_cases hp : prd d ≤ 64
        · have hok := okd_mk (by omega) (by omega) hin hp
          have HK : Hid (okd d = true) := hok
          clear hok
          go_wp2
          rw [jump_ret]
          go_ret2
          exact ⟨by rw [spT_ok HK.out, erf_ok HK.out]; rfl, rfl⟩
        · have HB : Hid (okd d = false) := okd_prd (by omega)
          go_wp2
          go_step3
          exact ⟨rfl, ⟨rfl, HB⟩, _, _, _, _, _, _, _, _, _, _, _, _, _, _, _, _, _, _, _, _, _, _, _, _, _, _, _, _, _, _, _, _, _, _, _, _, _, _, _, _, _, rfl⟩
  · rintro a w' ⟨⟨rfl, hbad⟩, u0, u1, u2, u3, u4, u5, u6, u7, u8, u9, u10, u11, u12, u13, u14, u15, u16, u17, u18, u19, u20, u21, u22, u23, u24, u25, u26, u27, u28, u29, u30, u31, u32, u33, u34, u35, u36, u37, u38, u39, u40, rfl⟩
    go_wp2
    rw [jump_ret]
    go_ret2
    exact ⟨by rw [spT_bad hbad.out, erf_bad hbad.out]; rfl, rfl⟩
set_option maxHeartbeats 400000 in
theorem spell_none (a : Option Addr) (c : Nat) (w : World) :
    Calls Try.prog 66 #[.slice a 0 c] w fun e w' => e = .returned (.tuple #[.string ⟨#[]⟩, .int .i64 1]) ∧ w = w' := by
  go_enter Try.func66, Try.ntmps66
  go_wp2
  refine wp_scope_jumps 0 (fun a' w' => (w' = w) ∧ ∃ (u0 u1 u2 u3 u4 u5 u6 u7 u8 u9 u10 u11 u12 u13 u14 u15 u16 u17 u18 u19 u20 u21 u22 u23 u24 u25 u26 u27 u28 u29 u30 u31 u32 u33 u34 u35 u36 u37 u38 u39 u40 : Value), a' = { tmps := #[u0, u1, u2, u3, u4, u5, u6, u7, u8, u9, u10, u11, u12, u13, u14, u15, u16, u17, u18, u19, u20, u21, u22, u23, u24, u25, u26, u27, u28, u29, u30, u31, u32, u33, u34, u35, u36, u37, u38, u39, u40], defers := [] }) (fun _ _ => 0) rfl ?_ ?_
  · go_wp2
    go_step3
    exact ⟨rfl, rfl, _, _, _, _, _, _, _, _, _, _, _, _, _, _, _, _, _, _, _, _, _, _, _, _, _, _, _, _, _, _, _, _, _, _, _, _, _, _, _, _, _, rfl⟩
  · rintro a w' ⟨rfl, u0, u1, u2, u3, u4, u5, u6, u7, u8, u9, u10, u11, u12, u13, u14, u15, u16, u17, u18, u19, u20, u21, u22, u23, u24, u25, u26, u27, u28, u29, u30, u31, u32, u33, u34, u35, u36, u37, u38, u39, u40, rfl⟩
    go_wp2
    rw [jump_ret]
    go_ret2
    exact ⟨rfl, rfl⟩
theorem spell_any {v : Value} {d : List Int} {w : World} (h : Ints w v d) :
    Calls Try.prog 66 #[v] w fun e w' => e = .returned (.tuple #[.string (spT d), .int .i64 (erf d)]) ∧ w = w' := by
  rcases h.cases with ⟨rfl, a, c, rfl⟩ | ⟨b, off, c, rfl, h0, h1, h2, h3⟩
  · exact spell_none a c w
  · exact spell_some b off c d w h1 h3
theorem txt_get (d : List Int) (k : Nat) (h : k < d.length) (h1 : 1 ≤ d[k]) (h2 : d[k] ≤ 8) (hs : k < (txt d).size) : ((txt d)[k].toNat : Int) = 48 + d[k] ∧ (txt d)[k].toNat < 128 := by
  have e : (txt d)[k] = dig d[k] := by simp [txt, ByteArray.getElem_eq_getElem_data]
  rw [e]
  have : (dig d[k]).toNat = 48 + d[k].toNat := by
    simp only [dig, UInt8.toNat_ofNat']
    omega
  rw [this]
  omega
theorem next_dig {d : List Int} (hok : okd d = true) (w : World) (k : Nat) (h : k < d.length) (ty : TypeId) :
    (Instr.next (.pointer (some ⟨w.heap.size, 0, none⟩)) true ty).run Try.prog (w.iter (txt d) k) = .ok (.tuple #[.bool true, .int .i64 k, .int .i32 (48 + d[k])]) (w.iter (txt d) (k + 1)) := by
  obtain ⟨_, _, hin, _⟩ := okd_parts hok
  have hx := inr_mem hin (List.getElem_mem h)
  have hs : k < (txt d).size := by rw [size_txt]; exact h
  obtain ⟨g1, g2⟩ := txt_get d k h hx.1 hx.2 hs
  rw [run_next_ascii w (txt d) k ty hs g2, g1]
theorem next_end {d : List Int} (w : World) (ty : TypeId) :
    (Instr.next (.pointer (some ⟨w.heap.size, 0, none⟩)) true ty).run Try.prog (w.iter (txt d) d.length) = .ok (.tuple #[.bool false]) (w.iter (txt d) d.length) := run_next_end w (txt d) d.length ty (by rw [size_txt]; omega)
set_option maxHeartbeats 400000 in
theorem cells_ok {v : Value} {d : List Int} {w : World} (h : Ints w v d) (hok : okd d = true) :
    Calls Try.prog 51 #[v] w fun e w' => e = .returned (.tuple #[.int .i64 (prd d), .int .i64 0]) ∧ Below w.heap.size w w' := by
  have H : Hid (Ints w v d) := h
  have HK : Hid (okd d = true) := hok
  obtain ⟨hl1, hl2, hin, hp⟩ := okd_parts hok
  have HI : Hid (inr d = true) := hin
  clear h hok hin
  go_enter Try.func51, Try.ntmps51
  go_wp2_with (go_at_call 66; refine (spell_any H.out).mono ?_; rw [spT_ok HK.out, erf_ok HK.out]; rintro e w' ⟨rfl, rfl⟩)
  go_loopw [6] (fun p w' => ∃ k : Nat, k ≤ d.length ∧ w' = w.iter (txt d) k ∧ p = .int .i64 (prd (d.take k))) (fun _ w' => d.length - w'.iterPos w.heap.size)
  case atStart => exact ⟨0, Nat.zero_le _, rfl, rfl⟩
  case round =>
    obtain ⟨k, hk, rfl, rfl⟩ := hrel
    by_cases hlt : k < d.length
    · have hnx := fun ty => next_dig HK.out w k hlt ty
      have hx := inr_mem HI.out (List.getElem_mem hlt)
      obtain ⟨g1, g2⟩ := hx
      have hp1 := prd_lo (inr_take HI.out k)
      have hp2 := prd_hi (inr_take HI.out k) 2 (by simp; omega)
      have HT : Hid (d.take (k + 1) = d.take k ++ [d[k]]) := take_snoc d k hlt
      have hm1 : 1 ≤ prd (d.take k) * d[k] := by
        have := Int.mul_le_mul hp1 g1 (by omega) (by omega)
        omega
      have hm2 : prd (d.take k) * d[k] ≤ 512 := by
        have := Int.mul_le_mul hp2 g2 (by omega) (by omega)
        omega
      go_wp2_with (go_at_call 67; refine (size_any _ _ g1 g2).mono ?_; rintro e w' ⟨rfl, rfl⟩)
      go_roundw
      case rel => exact ⟨k + 1, by omega, rfl, by rw [HT.out, prd_snoc]⟩
      case measure => simp; omega
    · have hk' : k = d.length := by omega
      subst hk'
      have hnx := fun ty => next_end (d := d) w ty
      rw [List.take_length]
      go_wp2
      go_ret2
      exact ⟨rfl, (Below.refl _ _).alloc (Nat.le_refl _) _⟩
set_option maxHeartbeats 400000 in
theorem cells_bad {v : Value} {d : List Int} {w : World} (h : Ints w v d) (hok : okd d = false) :
    Calls Try.prog 51 #[v] w fun e w' => e = .returned (.tuple #[.int .i64 0, .int .i64 1]) ∧ w = w' := by
  have H : Hid (Ints w v d) := h
  have HK : Hid (okd d = false) := hok
  clear h hok
  go_enter Try.func51, Try.ntmps51
  go_wp2_with (go_at_call 66; refine (spell_any H.out).mono ?_; rw [spT_bad HK.out, erf_bad HK.out]; rintro e w' ⟨rfl, rfl⟩)
  go_ret2
  exact ⟨rfl, rfl⟩
set_option maxHeartbeats 400000 in
theorem eqn_any {v v' : Value} {a b : List Int} {w : World} (ha : Ints w v a) (hb : Ints w v' b) :
    Calls Try.prog 11 #[v, v'] w fun e w' => e = .returned (.bool (a == b)) ∧ ∃ n, w' = w.drewN n := by
  by_cases hl : a.length = b.length
  · have HL : Hid (a.length = b.length) := hl
    rcases ha.cases with ⟨rfl, a1, c1, rfl⟩ | ⟨b1, o1, c1, rfl, h0, h1, h2, h3⟩
    · rcases hb.cases with ⟨rfl, a2, c2, rfl⟩ | ⟨b2, o2, c2, rfl, h0, h1, h2, h3⟩
      · clear ha hb hl HL
        go_enter Try.func11, Try.ntmps11
        go_wp2
        refine wp_loop_rounds 1 ?_
        rw [rounds_succ]
        go_wp2
        go_ret
        exact ⟨rfl, 0, rfl⟩
      · simp only [List.length_nil] at hl; omega
    · rcases hb.cases with ⟨rfl, a2, c2, rfl⟩ | ⟨b2, o2, c2, rfl, h0', h1', h2', h3'⟩
      · simp only [List.length_nil] at hl; omega
      · clear ha hb
        have hlb : (b.length : Int) = a.length := by omega
        have hne : ((a.length : Int) != (b.length : Int)) = false := by simp [hl]
        unfold big at h2 h2'
        clear hl hlb
        go_enter Try.func11, Try.ntmps11
        go_wp2
        go_loopw [5] (fun i w' => ∃ k m : Nat, k ≤ a.length ∧ i = .int .i64 k ∧ w' = w.drewN m ∧ Hid (a.take k = b.take k)) (fun i _ => a.length - (intOf i).toNat)
        case atStart => exact ⟨0, 0, Nat.zero_le _, rfl, rfl, rfl⟩
        case round =>
          obtain ⟨k, m, hk, rfl, rfl, hpre⟩ := hrel
          by_cases hlt : k < a.length
          · have hlt' : k < b.length := by have := HL.out; omega
            have hx := h3.out k hlt
            have hy := h3'.out k hlt'
            have T1 : Hid (a.take (k + 1) = a.take k ++ [a[k]]) := take_snoc a k hlt
            have T2 : Hid (b.take (k + 1) = b.take k ++ [b[k]]) := take_snoc b k hlt'
            by_cases he : a[k] = b[k]
            · have he' : (a[k] != b[k]) = false := by simp [he]
              have HE : Hid (a[k] = b[k]) := he
              clear he
              go_wp2
              go_quiet (fail)
              go_wp2
              go_roundw
              case rel => exact ⟨k + 1, m + nq, by omega, by go_num, rfl, by show _ = _; rw [T1.out, T2.out, hpre.out, HE.out]⟩
              case measure => simp [intOf]; omega
            · have he' : (a[k] != b[k]) = true := by simp [he]
              have HN : Hid (¬ a = b) := fun e => he (by subst e; rfl)
              clear he
              go_wp2
              go_quiet (fail)
              go_wp2
              go_ret
              exact ⟨by rw [beq_eq_false_iff_ne.2 HN.out]; rfl, m + nq, by rw [World.drewN_drewN]⟩
          · have hk' : k = a.length := by omega
            have HE : Hid (a = b) := by
              have := hpre.out
              rw [List.take_of_length_le (by omega), List.take_of_length_le (by have := HL.out; omega)] at this
              exact this
            go_wp2
            go_ret
            exact ⟨by rw [HE.out, beq_self_eq_true]; rfl, _, rfl⟩
  · have HN : Hid (¬ a = b) := fun e => hl (by rw [e])
    have hne : ((a.length : Int) != (b.length : Int)) = true := by simp; omega
    rcases ha.cases with ⟨rfl, a1, c1, rfl⟩ | ⟨b1, o1, c1, rfl, h0, h1, h2, h3⟩
    · rcases hb.cases with ⟨rfl, a2, c2, rfl⟩ | ⟨b2, o2, c2, rfl, h0', h1', h2', h3'⟩
      · exact absurd rfl HN.out
      · clear ha hb hl
        go_enter Try.func11, Try.ntmps11
        go_wp2
        go_ret
        exact ⟨by rw [beq_eq_false_iff_ne.2 HN.out]; rfl, 0, rfl⟩
    · rcases hb.cases with ⟨rfl, a2, c2, rfl⟩ | ⟨b2, o2, c2, rfl, h0', h1', h2', h3'⟩
      · clear ha hb hl
        go_enter Try.func11, Try.ntmps11
        go_wp2
        go_ret
        exact ⟨by rw [beq_eq_false_iff_ne.2 HN.out]; rfl, 0, rfl⟩
      · clear ha hb hl
        go_enter Try.func11, Try.ntmps11
        go_wp2
        go_ret
        exact ⟨by rw [beq_eq_false_iff_ne.2 HN.out]; rfl, 0, rfl⟩
def widAt (x y : Int) : Bool := x == y || x == 1
def wid (a b : List Int) : Bool := a.length == b.length && (a.zip b).all fun p => widAt p.1 p.2
theorem wid_len {a b : List Int} (h : ¬ a.length = b.length) : wid a b = false := by simp [wid, h]
theorem wid_bad {a b : List Int} (k : Nat) (h1 : k < a.length) (h2 : k < b.length) (h : widAt a[k] b[k] = false) : wid a b = false := by
  cases e : wid a b with
  | false => rfl
  | true =>
    simp only [wid, Bool.and_eq_true, List.all_eq_true] at e
    have := e.2 (a[k], b[k]) (by
      rw [List.mem_iff_getElem]
      exact ⟨k, by simp; omega, by simp⟩)
    rw [h] at this
    exact this.symm
theorem wid_ok {a b : List Int} (hl : a.length = b.length) (h : ∀ k (h1 : k < a.length) (h2 : k < b.length), widAt a[k] b[k] = true) : wid a b = true := by
  simp only [wid, hl, beq_self_eq_true, Bool.true_and, List.all_eq_true]
  intro p hp
  rw [List.mem_iff_getElem] at hp
  obtain ⟨k, hk, rfl⟩ := hp
  simp at hk
  simpa using h k (by omega) (by omega)
def wdr (a b : List Int) : Int := if okd a && okd b then (if wid a b then 0 else 4) else 1
def ia (xs : List Int) : Array Value := (xs.map (Value.int .i64)).toArray
def Blk (w : World) (B : Nat) (xs : List Int) : Prop := w.heap[B]? = some (.cells (ia xs) 3 (0, 0))
def zer (n : Nat) : List Int := List.replicate n 0
theorem ia_size (xs : List Int) : (ia xs).size = xs.length := by simp [ia]
theorem ia_get (xs : List Int) (j : Nat) (h : j < xs.length) : (ia xs)[j]? = some (.int .i64 xs[j]) := by simp [ia, h]
theorem Blk.cell {w : World} {B : Nat} {xs : List Int} (h : Blk w B xs) (j : Nat) (hj : j < xs.length) : w.cell? ⟨B, j, none⟩ = some (.int .i64 xs[j]) := by
  rw [cell_of_row w B j (ia xs) 3 (0, 0) h, ia_get xs j hj]
theorem Blk.frozen {w : World} {B : Nat} {xs : List Int} (h : Blk w B xs) (j : Nat) : w.frozen? ⟨B, j, none⟩ = false := frozen_of_row w B j (ia xs) 3 h
theorem Blk.lt {w : World} {B : Nat} {xs : List Int} (h : Blk w B xs) : B < w.heap.size := (Array.getElem?_eq_some_iff.1 h).1
theorem Blk.set {w : World} {B : Nat} {xs : List Int} (h : Blk w B xs) (j : Nat) (v : Int) : Blk (w.setCell ⟨B, j, none⟩ (.int .i64 v)) B (xs.set j v) := by
  have := heap_setCell_same w B j (ia xs) 3 (.int .i64 v) h
  show _ = _
  rw [this]
  simp [ia]
theorem Blk.setOther {w : World} {B : Nat} {xs : List Int} (h : Blk w B xs) (a : Addr) (v : Value) (hb : B ≠ a.block) : Blk (w.setCell a v) B xs :=
  (heap_setCell_other w a B v hb).trans h
theorem Blk.later {w w' : World} {B N : Nat} {xs : List Int} (h : Blk w B xs) (hb : Below N w w') (hN : B < N) : Blk w' B xs := (hb.block B hN).trans h
theorem Blk.drewN {w : World} {B : Nat} {xs : List Int} (h : Blk w B xs) (n : Nat) : Blk (w.drewN n) B xs := h
theorem Blk.drew {w : World} {B : Nat} {xs : List Int} (h : Blk w B xs) : Blk w.drew B xs := h
theorem Blk.alloc {w : World} {B : Nat} {xs : List Int} (h : Blk w B xs) (o : Obj) : Blk (w.alloc o) B xs := (Below.heap_alloc w o B h.lt).trans h
theorem Blk.new (w : World) (xs : List Int) : Blk (w.alloc (.cells (ia xs) 3)) w.heap.size xs := heap_alloc_new w _
theorem Blk.ints {w : World} {B : Nat} {xs : List Int} (h : Blk w B xs) (n c : Nat) (hn : n = xs.length) (hc : n ≤ c) (hm : n ≤ big) : Ints w (.slice (some ⟨B, 0, none⟩) n c) xs :=
  Ints.mk hn (by omega) (by omega) fun i hi => by rw [Nat.zero_add]; exact h.cell i hi
theorem madeCells_ia (n : Nat) : madeCells #[.int .i64 0] n = ia (zer n) := by
  apply Array.ext
  · simp [madeCells, ia, zer]
  · intro i h1 h2
    simp [madeCells, ia, zer, Nat.mod_one]
theorem info3' : (Try.prog.info? 3).map (fun i => (i.zero, i.size, i.bytes)) = some (some (.int .i64 0), 1, 8) := by kernel_rfl
theorem info3 : ∃ i, Try.prog.info? 3 = some i ∧ i.zero = some (.int .i64 0) ∧ i.size = 1 ∧ i.bytes = 8 := by
  have h := info3'
  cases e : Try.prog.info? 3 with
  | none => rw [e] at h; cases h
  | some i =>
    rw [e] at h
    simp only [Option.map_some, Option.some.injEq, Prod.mk.injEq] at h
    exact ⟨i, rfl, h.1, h.2.1, h.2.2⟩
theorem make_ints (w : World) (n : Nat) (h : n ≤ 1000000000) :
    (Instr.makeSlice 23 (.int .i64 n) (.int .i64 n)).run Try.prog w = .ok (.slice (some ⟨w.heap.size, 0, none⟩) n n) (w.alloc (.cells (ia (zer n)) 3)) := by
  obtain ⟨i, h1, h2, h3, h4⟩ := info3
  have := run_make (P := Try.prog) w 23 3 i (.int .i64 0) Try.underlying23 h1 h2 .i64 .i64 n n (by omega) (by omega) (by rw [h4]; omega) (by omega)
  rw [this, h3, Int.toNat_natCast, Nat.mul_one]
  rw [show (Value.cells (.int .i64 0)) = #[.int .i64 0] from rfl, madeCells_ia]
def stE (d : List Int) (k i : Nat) : Int := if i < k then prd ((d.take k).drop (i + 1)) else 0
def stA (d : List Int) (k : Nat) : List Int := (List.range d.length).map (stE d k)
def stI (d : List Int) (k j : Nat) : List Int := (List.range d.length).map fun i => if i < j then stE d (k + 1) i else stE d k i
def stp (d : List Int) : List Int := stA d d.length
theorem stI_length (d : List Int) (k j : Nat) : (stI d k j).length = d.length := by simp [stI]
theorem stA_zero (d : List Int) : stA d 0 = zer d.length := by
  apply List.ext_getElem
  · simp [stA, zer]
  · intro i h1 h2
    simp [stA, zer, stE]
theorem stI_zero (d : List Int) (k : Nat) : stI d k 0 = stA d k := by simp [stI, stA]
theorem stE_snoc (d : List Int) (k j : Nat) (hj : j < k) (hk : k < d.length) : stE d (k + 1) j = stE d k j * d[k] := by
  simp only [stE, hj, if_true, show j < k + 1 from by omega]
  rw [take_snoc d k hk, List.drop_append_of_le_length (by simp; omega), prd_snoc]
theorem stI_set (d : List Int) (k j : Nat) (hj : j < k) (hk : k < d.length) : (stI d k j).set j (stE d k j * d[k]) = stI d k (j + 1) := by
  apply List.ext_getElem
  · simp [stI]
  · intro i h1 h2
    simp only [List.getElem_set, stI, List.getElem_map, List.getElem_range]
    by_cases e : j = i
    · subst e
      simp [stE_snoc d k j hj hk]
    · rw [if_neg e]
      by_cases h : i < j
      · simp [h, show i < j + 1 from by omega]
      · simp [h, show ¬ i < j + 1 from by omega]
theorem stI_last (d : List Int) (k : Nat) : (stI d k k).set k 1 = stA d (k + 1) := by
  apply List.ext_getElem
  · simp [stI, stA]
  · intro i h1 h2
    simp only [List.getElem_set, stI, stA, List.getElem_map, List.getElem_range]
    by_cases e : k = i
    · subst e
      simp only [if_true, stE, show k < k + 1 from by omega]
      rw [List.drop_eq_nil_of_le (by simp; omega)]
      rfl
    · rw [if_neg e]
      by_cases h : i < k
      · simp [h]
      · simp [h, stE, show ¬ i < k + 1 from by omega]
theorem stI_get (d : List Int) (k j : Nat) (hj : j < k) (hk : k < d.length) (h : j < (stI d k j).length) : (stI d k j)[j] = stE d k j := by
  simp [stI]
theorem stE_bd {d : List Int} (hin : inr d = true) (k j : Nat) (hj : j < k) (hk : k ≤ 2) : 1 ≤ stE d k j ∧ stE d k j ≤ 64 := by
  simp only [stE, hj, if_true]
  have h : inr ((d.take k).drop (j + 1)) = true := by
    simp only [inr, List.all_eq_true, Bool.and_eq_true, decide_eq_true_eq] at hin ⊢
    exact fun x hx => hin x (List.mem_of_mem_take (List.mem_of_mem_drop hx))
  have := prd_lo h
  have := prd_hi h 2 (by simp; omega)
  omega
def It (w : World) (k : Nat) (s : ByteArray) (p : Nat) : Prop := w.heap[k]? = some (.stringIter s p)
theorem It.next {w : World} {I : Nat} {d : List Int} {k : Nat} (h : It w I (txt d) k) (hin : inr d = true) (hk : k < d.length) (ty : TypeId) :
    (Instr.next (.pointer (some ⟨I, 0, none⟩)) true ty).run Try.prog w = .ok (.tuple #[.bool true, .int .i64 k, .int .i32 (48 + d[k])]) (w.iterAt I (txt d) (k + 1)) := by
  have hx := inr_mem hin (List.getElem_mem hk)
  have hs : k < (txt d).size := by rw [size_txt]; exact hk
  obtain ⟨g1, g2⟩ := txt_get d k hk hx.1 hx.2 hs
  rw [Lib.run_next_ascii_at w I (txt d) k ty h hs g2, g1]
theorem It.done {w : World} {I : Nat} {d : List Int} (h : It w I (txt d) d.length) (ty : TypeId) :
    (Instr.next (.pointer (some ⟨I, 0, none⟩)) true ty).run Try.prog w = .ok (.tuple #[.bool false]) w :=
  Lib.run_next_end_at w I (txt d) d.length ty h (by rw [size_txt]; omega)
theorem It.lt {w : World} {I p : Nat} {s : ByteArray} (h : It w I s p) : I < w.heap.size := (Array.getElem?_eq_some_iff.1 h).1
theorem It.moved {w : World} {I p : Nat} {s : ByteArray} (h : It w I s p) (q : Nat) : It (w.iterAt I s q) I s q := by
  have := h.lt
  show _ = _
  simp [World.iterAt, this]
theorem Blk.moved {w : World} {B I : Nat} {xs : List Int} (h : Blk w B xs) (hi : I ≠ B) (s : ByteArray) (q : Nat) : Blk (w.iterAt I s q) B xs := by
  show _ = _
  simp only [World.iterAt, Array.getElem?_setIfInBounds]
  rw [if_neg hi]
  exact h
theorem Below.moved {w w' : World} {B I : Nat} (h : Below B w w') (hi : B ≤ I) (s : ByteArray) (q : Nat) : Below B w (w'.iterAt I s q) :=
  h.trans ⟨rfl, rfl, rfl, by simp [World.iterAt], fun k hk => by simp only [World.iterAt, Array.getElem?_setIfInBounds]; rw [if_neg (by omega)]⟩
theorem It.set {w : World} {I p : Nat} {s : ByteArray} (h : It w I s p) (a : Addr) (v : Value) (hi : I ≠ a.block) : It (w.setCell a v) I s p := (heap_setCell_other w a I v hi).trans h
theorem It.pos {w : World} {I p : Nat} {s : ByteArray} (h : It w I s p) : w.iterPos I = p := iterPos_of h
theorem It.new (w : World) (s : ByteArray) (p : Nat) : It (w.iter s p) w.heap.size s p := World.iter_heap w s p
theorem iter_alloc (w : World) (s : ByteArray) (p : Nat) : w.iter s p = w.alloc (.stringIter s p) := rfl
theorem two_ints (w : World) (x y : Int) : Ints (w.alloc (.cells #[.int .i64 x, .int .i64 y] 3)) (.slice (some ⟨w.heap.size, 0, none⟩) 2 2) [x, y] := by
  have := (Blk.new w [x, y]).ints 2 2 rfl (Nat.le_refl _) (by decide)
  exact this
def IntsL (w : World) (v : Value) (L : List (List Int)) : Prop :=
  L.length ≤ big ∧ ∃ (a : Option Addr) (c : Nat), v = .slice a L.length c ∧ L.length ≤ c ∧ ∀ i (h : i < L.length), ∃ b off x, a = some ⟨b, off, none⟩ ∧ w.cell? ⟨b, off + i, none⟩ = some x ∧ Ints w x L[i]
theorem IntsL.later {w w' : World} {v : Value} {L : List (List Int)} (hb : Below w.heap.size w w') (h : IntsL w v L) : IntsL w' v L := by
  obtain ⟨h0, a, c, rfl, h1, h2⟩ := h
  refine ⟨h0, a, c, rfl, h1, fun i hi => ?_⟩
  obtain ⟨b, off, x, e, h3, h4⟩ := h2 i hi
  exact ⟨b, off, x, e, cell_later hb h3, h4.later hb⟩
def Tens (w : World) (v0 v1 : Value) (t : List Int × List Int) : Prop := Ints w v0 t.1 ∧ Ints w v1 t.2
def TensL (w : World) (v : Value) (L : List (List Int × List Int)) : Prop :=
  L.length ≤ big ∧ ∃ (a : Option Addr) (c : Nat), v = .slice a L.length c ∧ L.length ≤ c ∧ ∀ i (h : i < L.length), ∃ b off x y, a = some ⟨b, off, none⟩ ∧ w.cell? ⟨b, off + i * 2, none⟩ = some x ∧ w.cell? ⟨b, off + i * 2 + 1, none⟩ = some y ∧ Tens w x y L[i]
theorem TensL.later {w w' : World} {v : Value} {L : List (List Int × List Int)} (hb : Below w.heap.size w w') (h : TensL w v L) : TensL w' v L := by
  obtain ⟨h0, a, c, rfl, h1, h2⟩ := h
  refine ⟨h0, a, c, rfl, h1, fun i hi => ?_⟩
  obtain ⟨b, off, x, y, e, h3, h4, h5⟩ := h2 i hi
  exact ⟨b, off, x, y, e, cell_later hb h3, cell_later hb h4, h5.1.later hb, h5.2.later hb⟩
def lsF : Int → List Nat → Int
  | n, [] => n
  | n, l :: r => if n < 1048576 then lsF (n + l) r else n
theorem lsF_on (x : Int) (l : List Nat) (k : Nat) (h : k < l.length) (hx : x < 1048576) : lsF x (l.drop k) = lsF (x + l[k]) (l.drop (k + 1)) := by
  rw [List.drop_eq_getElem_cons h, lsF, if_pos hx]
theorem lsF_off (x : Int) (l : List Nat) (hx : ¬ x < 1048576) : lsF x l = x := by
  cases l with
  | nil => rfl
  | cons a r => rw [lsF, if_neg hx]
theorem lsF_end (x : Int) (l : List Nat) (k : Nat) (h : l.length ≤ k) : lsF x (l.drop k) = x := by
  rw [List.drop_eq_nil_of_le h, lsF]
set_option maxHeartbeats 400000 in
theorem between_t (n lo hi : Int) (w : World) (h1 : lo ≤ n) (h2 : n ≤ hi) :
    Calls Try.prog 28 #[.int .i64 n, .int .i64 lo, .int .i64 hi] w fun e w' => e = .returned (.bool true) ∧ w = w' := by
  go_enter Try.func28, Try.ntmps28
  go_wp2
  go_ret
  exact ⟨rfl, rfl⟩
set_option maxHeartbeats 400000 in
theorem between_f (n lo hi : Int) (w : World) (h : n < lo ∨ hi < n) :
    Calls Try.prog 28 #[.int .i64 n, .int .i64 lo, .int .i64 hi] w fun e w' => e = .returned (.bool false) ∧ w = w' := by
  by_cases h1 : n < lo
  · clear h
    go_enter Try.func28, Try.ntmps28
    go_wp2
    go_ret
    exact ⟨rfl, rfl⟩
  · have h2 : hi < n := by omega
    clear h
    go_enter Try.func28, Try.ntmps28
    go_wp2
    go_ret
    exact ⟨by simp; omega, rfl⟩
set_option maxHeartbeats 400000 in
theorem rdims_any {v : Value} {d : List Int} {w : World} (h : Ints w v d) :
    Calls Try.prog 12 #[v] w fun e w' => e = .returned (.bool (okd d)) ∧ w = w' := by
  have hlen := h.len
  unfold big at hlen
  obtain ⟨a, c, rfl⟩ := h.shape
  by_cases hl : d.length < 1 ∨ 3 < d.length
  · have HB : Hid (okd d = false) := okd_len hl
    have hl' : (d.length : Int) < 1 ∨ 3 < (d.length : Int) := by omega
    have HL : Hid ((d.length : Int) < 1 ∨ 3 < (d.length : Int)) := hl'
    clear hl hl' h
    go_enter Try.func12, Try.ntmps12
    go_wp2_with (go_at_call 28; refine (between_f _ _ _ _ HL.out).mono ?_; rintro e w' ⟨rfl, rfl⟩)
    go_ret
    exact ⟨by rw [HB.out]; rfl, rfl⟩
  have hl1 : 1 ≤ d.length := by omega
  have hl2 : d.length ≤ 3 := by omega
  rcases h.cases with ⟨rfl, _⟩ | ⟨b, off, c, e, h0, h1, h2, HC⟩
  · simp at hl1
  cases e
  clear hl h h2
  go_enter Try.func12, Try.ntmps12
  go_wp2_with fail
  refine (between_t _ _ _ _ (by omega) (by omega)).mono ?_
  rintro e w' ⟨rfl, rfl⟩
  go_wp2
  go_loop [3, 4] (fun p i => ∃ k : Nat, k ≤ d.length ∧ i = .int .i64 k ∧ p = .int .i64 (prd (d.take k)) ∧ inr (d.take k) = true) (fun _ i => d.length - (intOf i).toNat)
  case atStart => exact ⟨0, Nat.zero_le _, rfl, rfl, rfl⟩
  case round =>
    obtain ⟨k, hk, rfl, rfl, hin⟩ := hrel
    by_cases hlt : k < d.length
    · have hx := HC.out k hlt
      have hp1 := prd_lo hin
      have hp2 := prd_hi hin 2 (by simp; omega)
      have HT : Hid (d.take (k + 1) = d.take k ++ [d[k]]) := take_snoc d k hlt
      by_cases hg : 1 ≤ d[k] ∧ d[k] ≤ 8
      · obtain ⟨g1, g2⟩ := hg
        have hm1 : 1 ≤ prd (d.take k) * d[k] := by
          have := Int.mul_le_mul hp1 g1 (by omega) (by omega)
          omega
        have hm2 : prd (d.take k) * d[k] ≤ 512 := by
          have := Int.mul_le_mul hp2 g2 (by omega) (by omega)
          omega
        go_wp2_with (go_at_call 28; refine (between_t _ _ _ _ g1 g2).mono ?_; rintro e w' ⟨rfl, rfl⟩)
        refine ⟨⟨k + 1, by omega, by go_num, ?_, ?_⟩, by simp [intOf]; omega⟩
        · rw [HT.out, prd_snoc]
        · rw [HT.out, inr_snoc, hin]; simp [g1, g2]
      · have HB : Hid (okd d = false) := okd_inr (inr_bad k hlt hg)
        have HG : Hid (d[k] < 1 ∨ 8 < d[k]) := by show _ ∨ _; omega
        clear hg
        go_wp2_with (go_at_call 28; refine (between_f _ _ _ _ HG.out).mono ?_; rintro e w' ⟨rfl, rfl⟩)
        go_ret
        exact ⟨by rw [HB.out]; rfl, rfl⟩
    · have hk' : k = d.length := by omega
      subst hk'
      rw [List.take_length] at hin ⊢
      have hp1 := prd_lo hin
      have hp2 := prd_hi hin 3 (by omega)
      by_cases hp : prd d ≤ 64
      · have HK : Hid (okd d = true) := okd_mk (by omega) (by omega) hin hp
        go_wp2
        go_ret
        exact ⟨by rw [HK.out]; simp [hp], rfl⟩
      · have HK : Hid (okd d = false) := okd_prd (by omega)
        go_wp2
        go_ret
        exact ⟨by rw [HK.out]; simp [hp], rfl⟩
set_option maxHeartbeats 400000 in
theorem rcells_ok {v : Value} {d : List Int} {w : World} (h : Ints w v d) (hok : okd d = true) :
    Calls Try.prog 39 #[v] w fun e w' => e = .returned (.int .i64 (prd d)) ∧ w = w' := by
  obtain ⟨hl1, hl2, hin, hp⟩ := okd_parts hok
  have HI : Hid (inr d = true) := hin
  rcases h.cases with ⟨rfl, _⟩ | ⟨b, off, c, rfl, h0, h1, h2, HC⟩
  · simp at hl1
  clear hok hin h h2
  go_enter Try.func39, Try.ntmps39
  go_wp2
  go_loop [3, 4] (fun p i => ∃ k : Nat, k ≤ d.length ∧ i = .int .i64 k ∧ p = .int .i64 (prd (d.take k))) (fun _ i => d.length - (intOf i).toNat)
  case atStart => exact ⟨0, Nat.zero_le _, rfl, rfl⟩
  case round =>
    obtain ⟨k, hk, rfl, rfl⟩ := hrel
    by_cases hlt : k < d.length
    · have hx := HC.out k hlt
      have hin := inr_take HI.out k
      have hp1 := prd_lo hin
      have hp2 := prd_hi hin 2 (by simp; omega)
      have HT : Hid (d.take (k + 1) = d.take k ++ [d[k]]) := take_snoc d k hlt
      obtain ⟨g1, g2⟩ := inr_mem HI.out (List.getElem_mem hlt)
      have hm1 : 1 ≤ prd (d.take k) * d[k] := by
        have := Int.mul_le_mul hp1 g1 (by omega) (by omega)
        omega
      have hm2 : prd (d.take k) * d[k] ≤ 512 := by
        have := Int.mul_le_mul hp2 g2 (by omega) (by omega)
        omega
      clear hin
      go_wp2
      exact ⟨⟨k + 1, by omega, by go_num, by rw [HT.out, prd_snoc]⟩, by simp [intOf]; omega⟩
    · have hk' : k = d.length := by omega
      subst hk'
      rw [List.take_length]
      go_wp2
      go_ret
      exact ⟨rfl, rfl⟩
theorem dig_inj {x y : Int} (hx : 1 ≤ x ∧ x ≤ 8) (hy : 1 ≤ y ∧ y ≤ 8) (h : dig x = dig y) : x = y := by
  have h2 := congrArg UInt8.toNat h
  simp only [dig, UInt8.toNat_ofNat'] at h2
  omega
theorem txt_inj {a b : List Int} (ha : inr a = true) (hb : inr b = true) (h : txt a = txt b) : a = b := by
  have h2 : a.map dig = b.map dig := by
    have := congrArg (fun t : ByteArray => t.data.toList) h
    simpa [txt] using this
  have hl : a.length = b.length := by simpa using congrArg List.length h2
  apply List.ext_getElem hl
  intro i h1 h3
  refine dig_inj (inr_mem ha (List.getElem_mem h1)) (inr_mem hb (List.getElem_mem h3)) ?_
  have := congrArg (fun l : List UInt8 => l[i]?) h2
  simpa [h1, h3] using this
theorem toList_inj {a b : ByteArray} (h : a.toList = b.toList) : a = b := by
  rw [ByteArray.toList_eq, ByteArray.toList_eq] at h
  cases a; cases b
  simpa using h
def smE (a b : List Int) : Int := if okd a && okd b then 0 else 1
def smB (a b : List Int) : Bool := okd a && (okd b && (a == b))
set_option maxHeartbeats 400000 in
theorem same_any {v v' : Value} {a b : List Int} {w : World} (ha : Ints w v a) (hb : Ints w v' b) :
    Calls Try.prog 79 #[v, v'] w fun e w' => e = .returned (.tuple #[.bool (smB a b), .int .i64 (smE a b)]) ∧ w = w' := by
  have HA : Hid (Ints w v a) := ha
  have HB : Hid (Ints w v' b) := hb
  clear ha hb
  cases ea : okd a with
  | false =>
    have H : Hid (okd a = false) := ea
    have F1 : Hid (smB a b = false) := by show _ = _; simp [smB, ea]
    have F2 : Hid (smE a b = 1) := by show _ = _; simp [smE, ea]
    clear ea
    go_enter Try.func79, Try.ntmps79
    go_wp2_with fail
    refine (spell_any HA.out).mono ?_
    rw [spT_bad H.out, erf_bad H.out]
    rintro e w' ⟨rfl, rfl⟩
    go_wp2
    go_ret2
    exact ⟨by rw [F1.out, F2.out]; rfl, rfl⟩
  | true =>
    have H : Hid (okd a = true) := ea
    cases eb : okd b with
    | false =>
      have H2 : Hid (okd b = false) := eb
      have F1 : Hid (smB a b = false) := by show _ = _; simp [smB, eb]
      have F2 : Hid (smE a b = 1) := by show _ = _; simp [smE, eb]
      clear ea eb
      go_enter Try.func79, Try.ntmps79
      go_wp2_with fail
      refine (spell_any HA.out).mono ?_
      rw [spT_ok H.out, erf_ok H.out]
      rintro e w' ⟨rfl, rfl⟩
      go_wp2_with fail
      refine (spell_any HB.out).mono ?_
      rw [spT_bad H2.out, erf_bad H2.out]
      rintro e w' ⟨rfl, rfl⟩
      go_wp2
      go_ret2
      exact ⟨by rw [F1.out, F2.out]; rfl, rfl⟩
    | true =>
      have H2 : Hid (okd b = true) := eb
      have F1 : Hid (smB a b = ((txt a).toList == (txt b).toList)) := by
        show _ = _
        simp only [smB, ea, eb, Bool.true_and]
        by_cases e : a = b
        · subst e; simp
        · have : ¬ (txt a).toList = (txt b).toList := fun h => e (txt_inj (okd_parts ea).2.2.1 (okd_parts eb).2.2.1 (toList_inj h))
          rw [beq_eq_false_iff_ne.2 e, beq_eq_false_iff_ne.2 this]
      have F2 : Hid (smE a b = 0) := by show _ = _; simp [smE, ea, eb]
      clear ea eb
      go_enter Try.func79, Try.ntmps79
      go_wp2_with fail
      refine (spell_any HA.out).mono ?_
      rw [spT_ok H.out, erf_ok H.out]
      rintro e w' ⟨rfl, rfl⟩
      go_wp2_with fail
      refine (spell_any HB.out).mono ?_
      rw [spT_ok H2.out, erf_ok H2.out]
      rintro e w' ⟨rfl, rfl⟩
      go_wp2
      go_ret2
      exact ⟨by rw [F1.out, F2.out]; rfl, rfl⟩
theorem own_ints {w : World} {base : Nat} {v : Value} {d : List Int} {n : Nat} {xs : List Value} (hx : xs = d.map (Value.int .i64)) (h : w.ownsRow base 3 1 v n xs) (hb : d.length ≤ big) : Ints w v d := by
  subst hx
  have hl := h.1
  simp at hl
  subst hl
  rcases h.2 with ⟨rfl, h0⟩ | ⟨g, cap, cur, rfl, _, hh, h1, h2, h3, h4⟩
  · have : d = [] := List.eq_nil_of_length_eq_zero h0
    subst this
    exact Ints.nil _
  · refine Ints.mk rfl h1 hb fun i hi => ?_
    rw [Nat.zero_add, cell_of_row w g i cur 3 (0, 0) hh, ← Array.getElem?_toList]
    have : cur.toList[i]? = (cur.toList.take (d.length * 1))[i]? := by rw [List.getElem?_take, if_pos (by omega)]
    rw [this, h4]
    simp [hi]
def tok (t : List Int × List Int) : Bool := okd t.1 && decide ((t.2.length : Int) = prd t.1)
def tkE (t : List Int × List Int) : Int := if tok t then 0 else 1
set_option maxHeartbeats 400000 in
theorem tensor_any {v0 v1 : Value} {t : List Int × List Int} {w : World} (h : Tens w v0 v1 t) :
    Calls Try.prog 69 #[.agg #[v0, v1]] w fun e w' => e = .returned (.int .i64 (tkE t)) ∧ Below w.heap.size w w' := by
  have hb : Below w.heap.size w (w.alloc (.cells #[v0, v1] 70)) := (Below.refl _ _).alloc (Nat.le_refl _) _
  have H0 : Hid (Ints (w.alloc (.cells #[v0, v1] 70)) v0 t.1) := h.1.later hb
  have hl := h.2.len
  unfold big at hl
  obtain ⟨a1, c1, rfl⟩ := h.2.shape
  have HB : Hid (Below w.heap.size w (w.alloc (.cells #[v0, .slice a1 t.2.length c1] 70))) := hb
  clear hb h
  cases ho : okd t.1 with
  | false =>
    have HO : Hid (okd t.1 = false) := ho
    have HT : Hid (tkE t = 1) := by show _ = _; simp [tkE, tok, ho]
    clear ho
    go_enter Try.func69, Try.ntmps69
    go_wp2_with (go_at_call 51; refine (cells_bad H0.out HO.out).mono ?_; rintro e w' ⟨rfl, rfl⟩)
    go_ret
    exact ⟨by rw [HT.out]; rfl, HB.out⟩
  | true =>
    have HO : Hid (okd t.1 = true) := ho
    by_cases hp : (t.2.length : Int) = prd t.1
    · have HT : Hid (tkE t = 0) := by show _ = _; simp [tkE, tok, ho, hp]
      have hne : ((t.2.length : Int) != prd t.1) = false := by simp [hp]
      clear ho hp
      go_enter Try.func69, Try.ntmps69
      go_wp2_with fail
      refine (cells_ok H0.out HO.out).mono ?_
      rintro e w' ⟨rfl, hb⟩
      have hc : w'.cell? ⟨w.heap.size, 1, none⟩ = some (.slice a1 t.2.length c1) := cell_later hb (by simp)
      have HB1 : Hid (Below w.heap.size w w') := Below.after HB.out hb
      clear hb
      go_wp2
      go_ret
      exact ⟨by rw [HT.out]; rfl, HB1.out⟩
    · have HT : Hid (tkE t = 1) := by show _ = _; simp [tkE, tok, ho, hp]
      have hne : ((t.2.length : Int) != prd t.1) = true := by simp [hp]
      clear ho hp
      go_enter Try.func69, Try.ntmps69
      go_wp2_with fail
      refine (cells_ok H0.out HO.out).mono ?_
      rintro e w' ⟨rfl, hb⟩
      have hc : w'.cell? ⟨w.heap.size, 1, none⟩ = some (.slice a1 t.2.length c1) := cell_later hb (by simp)
      have HB1 : Hid (Below w.heap.size w w') := Below.after HB.out hb
      clear hb
      go_wp2
      go_ret
      exact ⟨by rw [HT.out]; rfl, HB1.out⟩
theorem news_cells {w : World} {d : List Int} {b off : Nat} (HC : Hid (∀ i (h : i < d.length), w.cell? ⟨b, off + i, none⟩ = some (.int .i64 d[i]))) :
    ∀ j u, (d.map (Value.int .i64))[j]? = some u → w.cell? ((⟨b, off, none⟩ : Addr).add j) = some u := by
  intro j u hj
  simp only [List.getElem?_map, Option.map_eq_some_iff] at hj
  obtain ⟨x, hx, rfl⟩ := hj
  obtain ⟨hlt, rfl⟩ := List.getElem?_eq_some_iff.1 hx
  have := HC.out j hlt
  by_cases h0 : j = 0
  · subst h0; simpa [Addr.add] using this
  · simpa [Addr.add, h0] using this
theorem ints_one (d : List Int) : ∀ u ∈ d.map (Value.int .i64), u.oneCell' = true := by
  intro u hu
  simp only [List.mem_map] at hu
  obtain ⟨x, _, rfl⟩ := hu
  rfl
set_option maxHeartbeats 400000 in
theorem clone_any {v : Value} {d : List Int} {w : World} (h : Ints w v d) (h1 : 1 ≤ d.length) :
    Calls Try.prog 46 #[v] w fun e w' => ∃ v', e = .returned v' ∧ Ints w' v' d ∧ From w.heap.size v' ∧ Below w.heap.size w w' := by
  have hl := h.len
  rcases h.cases with ⟨rfl, a1, c1, rfl⟩ | ⟨b, off, c, rfl, h0, h2, h3, HC⟩
  · simp only [List.length_nil] at h1; omega
  obtain ⟨i3, hi, hz0, hz1, hz2⟩ := info3
  have HI : Hid (Try.prog.info? 3 = some i3) := hi
  have HZ0 : Hid (i3.zero = some (.int .i64 0)) := hz0
  have HZ1 : Hid (i3.size = 1) := hz1
  have HZ2 : Hid (i3.bytes = 8) := hz2
  have hnil := fun w => Lib.run_eql_slice_nil (P := Try.prog) w 23 3 (some ⟨b, off, none⟩) d.length c 0 0 Try.underlying23
  have HL : Hid (d.length ≤ big) := hl
  clear h hi hz0 hz1 hz2 h3
  unfold big at hl
  go_enter Try.func46, Try.ntmps46
  go_wp2_with (at_builtin; refine wpList_append_own _ rfl _ _ 23 rfl w.heap.size 3 i3 (.int .i64 0) 1 8 Try.underlying23 HI.out HZ0.out HZ1.out HZ2.out rfl (by decide) _ _ _ rfl (World.ownsRow_made w #[] 0 (Nat.le_refl _) (Nat.zero_le _) rfl) ⟨b, off, none⟩ d.length c (d.map (Value.int .i64)) rfl ?c0 ?c1 ?c2 ?c3 ?c4 ?c5 ?_)
  case c0 => simp
  case c1 => exact news_cells (fun i h => cell_later ((Below.refl _ _).alloc (Nat.le_refl _) _) (HC.out i h))
  case c2 => exact ints_one d
  case c3 => unfold maxLen; omega
  case c4 => omega
  case c5 => simp
  intro v1 w1 ho hg _
  have HO : Hid (Ints w1 v1 d) := own_ints rfl ho HL.out
  have HF : Hid (From w.heap.size v1) := fun k hk => (ho.lt k hk).1
  have HB : Hid (Below w.heap.size w w1) := ((Below.refl _ _).alloc (Nat.le_refl _) _).grown hg (by simp) (by intro k hk; simp [Value.ownBlock] at hk; omega)
  clear ho hg
  go_wp2
  go_ret
  exact ⟨_, rfl, HO.out, HF.out, HB.out⟩
set_option maxHeartbeats 400000 in
theorem copy_own {v : Value} {d : List Int} {w : World} (h : Ints w v d) :
    Calls Try.prog 38 #[v] w fun e w' => ∃ v', e = .returned v' ∧ w'.ownsRow w.heap.size 3 1 v' d.length (d.map (Value.int .i64)) ∧ Below w.heap.size w w' := by
  have hl := h.len
  have HL : Hid (d.length ≤ big) := hl
  unfold big at hl
  rcases h.cases with ⟨rfl, a1, c1, rfl⟩ | ⟨b, off, c, rfl, h0, h2, h3, HC⟩
  · clear h
    go_enter Try.func38, Try.ntmps38
    go_wp2
    refine wp_loop_rounds 1 ?_
    rw [rounds_succ]
    go_wp2
    go_ret
    exact ⟨_, rfl, World.ownsRow_nil _ _ _ _, Below.refl _ _⟩
  obtain ⟨i3, hi, hz0, hz1, hz2⟩ := info3
  have HI : Hid (Try.prog.info? 3 = some i3) := hi
  have HZ0 : Hid (i3.zero = some (.int .i64 0)) := hz0
  have HZ1 : Hid (i3.size = 1) := hz1
  have HZ2 : Hid (i3.bytes = 8) := hz2
  clear h hi hz0 hz1 hz2 h3
  go_enter Try.func38, Try.ntmps38
  go_wp2
  go_loopw [3, 4] (fun v i w' => ∃ k : Nat, k ≤ d.length ∧ i = .int .i64 k ∧ w'.ownsRow w.heap.size 3 1 v k ((d.take k).map (Value.int .i64)) ∧ Below w.heap.size w w') (fun _ i _ => d.length - (intOf i).toNat)
  case atStart => exact ⟨0, Nat.zero_le _, rfl, World.ownsRow_nil _ _ _ _, Below.refl _ _⟩
  case round =>
    obtain ⟨k, hk, rfl, hown, hbel⟩ := hrel
    have HB : Hid (Below w.heap.size w wr) := hbel
    have HO : Hid (wr.ownsRow w.heap.size 3 1 _ k ((d.take k).map (Value.int .i64))) := hown
    have hsz := hbel.size
    clear hbel hown
    by_cases hlt : k < d.length
    · have hc := cell_later HB.out (HC.out k hlt)
      have HT : Hid (d.take (k + 1) = d.take k ++ [d[k]]) := take_snoc d k hlt
      go_wp2_with (at_builtin; refine wpList_append_own _ rfl _ _ 23 rfl w.heap.size 3 i3 (.int .i64 0) 1 8 Try.underlying23 HI.out HZ0.out HZ1.out HZ2.out rfl (by decide) _ _ _ rfl (HO.out.alloc _) ⟨wr.heap.size, 0, none⟩ 1 1 [.int .i64 d[k]] rfl rfl ?c1 ?c2 ?c3 ?c4 ?c5 ?_)
      case c1 => exact cell_one_new _ _ _
      case c2 => intro u hu; simp at hu; subst hu; rfl
      case c3 => unfold maxLen; omega
      case c4 => omega
      case c5 => simp; omega
      intro v1 w1 ho hg _
      have HO1 : Hid (w1.ownsRow w.heap.size 3 1 v1 (k + 1) ((d.take (k + 1)).map (Value.int .i64))) := by
        show World.ownsRow _ _ _ _ _ _ _
        rw [HT.out, List.map_append, List.map_take]
        exact ho
      have HB1 : Hid (Below w.heap.size w w1) := (HB.out.alloc hsz _).grown hg (by simp; omega) (fun q hq => (HO.out.lt q hq).1)
      clear ho hg
      go_wp2
      go_roundw
      case rel => exact ⟨k + 1, by omega, by go_num, HO1.out, HB1.out⟩
      case measure => simp [intOf]; omega
    · have hk' : k = d.length := by omega
      subst hk'
      go_wp2
      go_ret
      have := HO.out
      rw [List.take_length] at this
      exact ⟨_, rfl, this, HB.out⟩
/-- n everywhere, the first j of them laid. -/
def fil (m j : Nat) (n : Int) : List Int := List.replicate j n ++ List.replicate (m - j) 0
theorem fil_length (m j : Nat) (n : Int) (h : j ≤ m) : (fil m j n).length = m := by simp [fil]; omega
theorem fil_zero (m : Nat) (n : Int) : fil m 0 n = zer m := by simp [fil, zer]
theorem fil_set (m j : Nat) (n : Int) (h : j < m) : (fil m j n).set j n = fil m (j + 1) n := by
  obtain ⟨q, hq⟩ : ∃ q, m - j = q + 1 := ⟨m - j - 1, by omega⟩
  have h2 : m - (j + 1) = q := by omega
  simp only [fil, hq, h2]
  rw [List.set_append_right _ _ (by simp)]
  simp only [List.length_replicate, Nat.sub_self, List.replicate_succ (n := q), List.set_cons_zero]
  rw [List.replicate_succ', List.append_assoc]
  rfl
theorem fil_all (m : Nat) (n : Int) : fil m m n = List.replicate m n := by simp [fil]
set_option maxHeartbeats 400000 in
theorem fill_bad {v : Value} {d : List Int} {w : World} (n : Int) (h : Ints w v d) (hok : okd d = false) :
    Calls Try.prog 47 #[v, .int .i64 n] w fun e w' => e = .returned (.tuple #[.agg #[.slice none 0 0, .slice none 0 0], .int .i64 1]) ∧ Below w.heap.size w w' := by
  have hb : Below w.heap.size w (w.alloc (.cells #[.slice none 0 0, .slice none 0 0] 70)) := (Below.refl _ _).alloc (Nat.le_refl _) _
  have H : Hid (Ints (w.alloc (.cells #[.slice none 0 0, .slice none 0 0] 70)) v d) := h.later hb
  have HB : Hid (Below w.heap.size w (w.alloc (.cells #[.slice none 0 0, .slice none 0 0] 70))) := hb
  have HK : Hid (okd d = false) := hok
  clear h hok hb
  go_enter Try.func47, Try.ntmps47
  go_wp2_with (go_at_call 51; refine (cells_bad H.out HK.out).mono ?_; rintro e w' ⟨rfl, rfl⟩)
  exact bodyPost_ret (v := .tuple #[.agg #[.slice none 0 0, .slice none 0 0], .int .i64 1]) (by simp [results, Try.results47, go_sem]) rfl ⟨rfl, HB.out⟩
set_option maxHeartbeats 400000 in
theorem fill_ok {v : Value} {d : List Int} {w : World} (n : Int) (h : Ints w v d) (hok : okd d = true) :
    Calls Try.prog 47 #[v, .int .i64 n] w fun e w' => ∃ a0 c0 b1, e = .returned (.tuple #[.agg #[.slice a0 d.length c0, .slice (some ⟨b1, 0, none⟩) (prd d).toNat (prd d).toNat], .int .i64 0]) ∧ Ints w' (.slice a0 d.length c0) d ∧ Blk w' b1 (List.replicate (prd d).toNat n) ∧ Below w.heap.size w w' := by
  have hb : Below w.heap.size w (w.alloc (.cells #[.slice none 0 0, .slice none 0 0] 70)) := (Below.refl _ _).alloc (Nat.le_refl _) _
  have H : Hid (Ints (w.alloc (.cells #[.slice none 0 0, .slice none 0 0] 70)) v d) := h.later hb
  have HB : Hid (Below w.heap.size w (w.alloc (.cells #[.slice none 0 0, .slice none 0 0] 70))) := hb
  have HK : Hid (okd d = true) := hok
  obtain ⟨hl1, hl2, hin, hp⟩ := okd_parts hok
  have hp1 := prd_lo hin
  have HC : Hid ((prd d).toNat = prd d) := by show _ = _; omega
  obtain ⟨m, hm⟩ : ∃ m : Nat, prd d = m := ⟨(prd d).toNat, by omega⟩
  have HM : Hid (prd d = m) := hm
  have hm1 : 1 ≤ m := by omega
  have hm2 : m ≤ 64 := by omega
  have hmk := fun w => make_ints w m (by omega)
  clear h hok hb hin hp hp1 hm
  go_enter Try.func47, Try.ntmps47
  go_wp2_with fail
  refine (cells_ok H.out HK.out).mono ?_
  rw [HM.out]
  rintro e w1 ⟨rfl, hb1⟩
  have hsz := hb1.size
  simp at hsz
  have HB1 : Hid (Below w.heap.size w w1) := Below.after HB.out hb1
  have HH : Hid (Ints w1 v d) := H.out.later hb1
  have hbox : Hid (w1.heap[w.heap.size]? = some (.cells #[.slice none 0 0, .slice none 0 0] 70 (0, 0))) := (hb1.block w.heap.size (by simp)).trans (heap_alloc_new w _)
  clear hb1
  go_wp2
  clear hmk
  have HST : Hid (Blk (w1.alloc (.cells (ia (zer m)) 3)) w1.heap.size (fil m 0 n)) := by
    show Blk _ _ _
    rw [fil_zero]
    exact Blk.new w1 _
  go_loopw [23] (fun i w' => ∃ j : Nat, j ≤ m ∧ i = .int .i64 j ∧ Blk w' w1.heap.size (fil m j n) ∧ Below w1.heap.size w1 w') (fun i _ => m - (intOf i).toNat)
  case atStart => exact ⟨0, by omega, rfl, HST.out, (Below.refl _ _).alloc (Nat.le_refl _) _⟩
  case round =>
    obtain ⟨j, hj, rfl, hB, hbel⟩ := hrel
    have HB3 : Hid (Blk wr w1.heap.size (fil m j n)) := hB
    have HBL3 : Hid (Below w1.heap.size w1 wr) := hbel
    clear hB hbel
    by_cases hltj : j < m
    · have hf := HB3.out.frozen j
      obtain ⟨x, hc⟩ : ∃ x, wr.cell? ⟨w1.heap.size, j, none⟩ = some x := ⟨_, HB3.out.cell j (by rw [fil_length _ _ _ hj]; exact hltj)⟩
      go_wp2
      refine ⟨⟨j + 1, by omega, by go_num, ?_, HBL3.out.setCell (Nat.le_refl _) _⟩, by simp [intOf]; omega⟩
      have := HB3.out.set j n
      rw [fil_set _ _ _ hltj] at this
      exact this
    · have hj' : j = m := by omega
      subst hj'
      have hws := HBL3.out.size
      go_wp2_with fail
      refine (clone_any (HH.out.later HBL3.out) hl1).mono ?_
      rintro e w2 ⟨v0, rfl, hi0, hf0, hb2⟩
      obtain ⟨va, vc, rfl⟩ := hi0.shape
      have HI0 : Hid (Ints w2 (.slice va d.length vc) d) := hi0
      have HF0 : Hid (From wr.heap.size (.slice va d.length vc)) := hf0
      have HB4 : Hid (Below w1.heap.size w1 w2) := Below.after HBL3.out hb2
      have HB5 : Hid (Blk w2 w1.heap.size (List.replicate j n)) := by
        have := HB3.out.later hb2 HB3.out.lt
        rw [fil_all] at this
        exact this
      have hbx : w2.heap[w.heap.size]? = some (.cells #[.slice none 0 0, .slice none 0 0] 70 (0, 0)) := (HB4.out.block _ (by omega)).trans hbox.out
      have hx0 := cell_of_row w2 w.heap.size 0 _ _ _ hbx
      have hx1 := cell_of_row w2 w.heap.size 1 _ _ _ hbx
      have hy0 := frozen_of_row w2 w.heap.size 0 _ _ hbx
      have hy1 := frozen_of_row w2 w.heap.size 1 _ _ hbx
      simp at hx0 hx1
      have hs1 := heap_setCell_same w2 w.heap.size 0 _ 70 (.slice va d.length vc) hbx
      have hs2 := heap_setCell_same _ w.heap.size 1 _ 70 (.slice (some ⟨w1.heap.size, 0, none⟩) j j) hs1
      have HR0 : Hid (((w2.setCell ⟨w.heap.size, 0, none⟩ (.slice va d.length vc)).setCell ⟨w.heap.size, 1, none⟩ (.slice (some ⟨w1.heap.size, 0, none⟩) j j)).cell? ⟨w.heap.size, 0, none⟩ = some (.slice va d.length vc)) := by
        show _ = _
        rw [cell_of_row _ w.heap.size 0 _ _ _ hs2]
        rfl
      have HR1 : Hid (((w2.setCell ⟨w.heap.size, 0, none⟩ (.slice va d.length vc)).setCell ⟨w.heap.size, 1, none⟩ (.slice (some ⟨w1.heap.size, 0, none⟩) j j)).cell? ⟨w.heap.size, 1, none⟩ = some (.slice (some ⟨w1.heap.size, 0, none⟩) j j)) := by
        show _ = _
        rw [cell_of_row _ w.heap.size 1 _ _ _ hs2]
        rfl
      clear hi0 hf0 hb2 hbx hs1 hs2
      go_wp2
      have HJ : Hid ((prd d).toNat = j) := by show _ = _; rw [HM.out]; rfl
      clear HM HC
      have hr0 := HR0.out
      have hr1 := HR1.out
      refine bodyPost_ret (v := .tuple #[.agg #[.slice va d.length vc, .slice (some ⟨w1.heap.size, 0, none⟩) j j], .int .i64 0]) (by simp [results, Try.results47, go_sem, hr0, hr1]) rfl ⟨va, vc, w1.heap.size, by rw [HJ.out], ?_, ?_, ?_⟩
      · exact (HI0.out.setCell _ _ (fun k hk => by have := HF0.out k hk; simp; omega)).setCell _ _ (fun k hk => by have := HF0.out k hk; simp; omega)
      · rw [HJ.out]
        exact (HB5.out.setOther _ _ (by simp; omega)).setOther _ _ (by simp; omega)
      · exact ((Below.after HB1.out HB4.out).setCell (Nat.le_refl _) _).setCell (Nat.le_refl _) _
end Go.Proofs.Ytjfkhfahpjdidaa
