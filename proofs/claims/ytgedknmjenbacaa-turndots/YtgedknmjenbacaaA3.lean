/- TurnDots: its inner loop. -/
import Derived.Test.YtgedknmjenbacaaA2
namespace Go.Proofs.Ytgedknmjenbacaa
set_option linter.unusedVariables false
set_option linter.unusedSimpArgs false
open Go.RowKit

set_option maxRecDepth 1000000 in
set_option maxHeartbeats 8000000 in
theorem aloop2 {B i Ba n c : Nat} {da : Option Addr} {a0 a1 : Value} {t : Ten} {L : List (List Int)} {W : World} {Q : Exit → Act → World → Prop}
    (hn20 : n ≤ 20)
    (HE : Hid (TB W Ba a0 a1 t ∧ IntsL W (.slice da n c) L))
    (hexit : ∀ a' w', FrA2 B i Ba (.slice da n c) a' → Below W.heap.size W w' → Q (.exit 2) a' w')
    (a : Act) (w : World) (ha : FrA2 B i Ba (.slice da n c) a) (hs : a.tmps.getD 10 undef = .int .i64 0) (hb : Below W.heap.size W w) :
    Code.wp Try.prog (.loop (((Try.f4.body.map loopsIn).getD []).getD 1 .skip)) Q a w := by
  refine wp_loop (fun a' w' => FrA2 B i Ba (.slice da n c) a' ∧ (∃ k : Nat, k ≤ n ∧ a'.tmps.getD 10 undef = .int .i64 k) ∧ Below W.heap.size W w') (fun a' _ => n - slotNat a' 10) ⟨ha, ⟨0, by omega, hs⟩, hb⟩ ?_
  clear hs ha hb
  clear a w
  intro a w ⟨hf, ⟨k, hk, hs⟩, hb⟩
  obtain ⟨G, hg, e⟩ := act176 a hf.d hf.s
  obtain ⟨hz1, hz2, g1, g3, g4, g9⟩ := hf
  rw [hg] at g1 g3 g4 g9 hs
  clear hz1 hz2
  subst e
  clear hg
  rw [g1, g3, g4, g9, hs]
  have HEX : Hid (∀ a' w', FrA2 B i Ba (.slice da n c) a' → Below W.heap.size W w' → Q (.exit 2) a' w') := hexit
  have HB : Hid (Below W.heap.size W w) := hb
  have HTB : Hid (TB w Ba a0 a1 t) := HE.out.1.later hb
  have HLS : Hid (IntsL w (.slice da n c) L) := HE.out.2.later hb
  obtain ⟨hnL, hnc⟩ := HE.out.2.len
  have HNL : Hid (n = L.length) := hnL
  clear hexit hb hnL g1 g3 g4 g9 hs
  conv => arg 2; whnf
  by_cases hlt : k < n
  · obtain ⟨db, dof, xa, xn, xc, rfl, hr, HX⟩ := HLS.out.row k (by have := HNL.out; omega)
    obtain ⟨d, hd⟩ : ∃ d, L[k]'(by have := HNL.out; omega) = d := ⟨_, rfl⟩
    rw [hd] at HX
    clear hd
    obtain ⟨aa, an, ac, rfl⟩ := HTB.out.ten.1.shape3
    obtain ⟨ba, bn, bc, rfl⟩ := HTB.out.ten.2.shape3
    have HR : Hid (w.cell? ⟨db, dof + k, none⟩ = some (.slice xa xn xc)) := hr
    clear hr
    go_upto_region 16 with fail
    refine areg16 (d := d) hlt hn20 hnc HTB HR.out HX ?_ _ ⟨rfl, rfl, rfl, rfl, rfl, rfl⟩ rfl
    intro a5 w5 hf5 h10 h12 ⟨Bw, y0, y1, h11, htw⟩ hb5
    obtain ⟨G5, hg5, e5⟩ := act176 a5 hf5.d hf5.s
    obtain ⟨hz1, hz2, g1, g3, g4, g9⟩ := hf5
    rw [hg5] at g1 g3 g4 g9 h10 h11 h12
    clear hz1 hz2
    subst e5
    clear hg5
    rw [g1, g3, g4, g9, h10, h11, h12]
    clear g1 g3 g4 g9 h10 h11 h12
    rename_i K1 hK1
    refine hK1 _ _ ?_
    clear hK1
    have HTW : Hid (TB w5 Bw y0 y1 (wiR t d)) := htw
    have HB5 : Hid (Below w.heap.size w w5) := hb5
    have HTA : Hid (TB w5 Ba _ _ t) := HTB.out.later hb5
    clear htw hb5
    refine wp_seq ?_
    refine wp_cut (fun a' w' => FrA2 B i Ba (.slice (some ⟨db, dof, none⟩) n c) a' ∧ a'.tmps.getD 10 undef = .int .i64 k ∧ Below w.heap.size w w') ?_ ?_
    · clear HTW HTA HB5
      clear w5
      intro a5 w5 ⟨hf5, h10, hb5⟩
      obtain ⟨G5, hg5, e5⟩ := act176 a5 hf5.d hf5.s
      obtain ⟨hz1, hz2, g1, g3, g4, g9⟩ := hf5
      rw [hg5] at g1 g3 g4 g9 h10
      clear hz1 hz2
      subst e5
      clear hg5
      rw [g1, g3, g4, g9, h10]
      clear g1 g3 g4 g9 h10
      have HB5 : Hid (Below w.heap.size w w5) := hb5
      have HTA5 : Hid (TB w5 Ba (.slice aa an ac) (.slice ba bn bc) t) := HTB.out.later hb5
      have HR5 : Hid (w5.cell? ⟨db, dof + k, none⟩ = some (.slice xa xn xc)) := cell_later hb5 HR.out
      have HX5 : Hid (Ints w5 (.slice xa xn xc) d) := HX.out.later hb5
      clear hb5
      go_upto_region 28 with fail
      refine areg28 (d := d) hlt hn20 hnc HTA5 HR5.out HX5 ?_ _ ⟨rfl, rfl, rfl, rfl, rfl, rfl⟩ rfl
      intro a6 w6 hf6 h10 h12 ⟨Bs, y0, y1, h21, hts⟩ hb6
      obtain ⟨G6, hg6, e6⟩ := act176 a6 hf6.d hf6.s
      obtain ⟨hz1, hz2, g1, g3, g4, g9⟩ := hf6
      rw [hg6] at g1 g3 g4 g9 h10 h21 h12
      clear hz1 hz2
      subst e6
      clear hg6
      rw [g1, g3, g4, g9, h10, h21, h12]
      clear g1 g3 g4 g9 h10 h21 h12
      rename_i K2 hK2
      refine hK2 _ _ ?_
      clear hK2
      have HB6 : Hid (Below W.heap.size W w6) := Below.after HB.out (Below.after HB5.out hb6)
      have HTS : Hid (TB w6 Bs y0 y1 (shR t d)) := hts
      have HTA6 : Hid (TB w6 Ba (.slice aa an ac) (.slice ba bn bc) t) := HTA5.out.later hb6
      clear hts hb6 HTA5 HR5 HX5 HB5
      by_cases hx : shE t d = 0
      · obtain ⟨hs1, hs2⟩ := shape_back hx
        have HS1 : Hid (shE (shR t d) t.1 = 0) := hs1
        have HS2 : Hid (shR (shR t d) t.1 = t) := hs2
        obtain ⟨ya, yn, yc, rfl⟩ := HTS.out.ten.1.shape3
        obtain ⟨za, zn, zc, rfl⟩ := HTS.out.ten.2.shape3
        rw [hx]
        clear hx hs1 hs2
        have c0 := HTA6.out.box.c0
        have c2 := HTS.out.box.c0
        have c3 := HTS.out.box.c1
        go_wp2_with (go_at_call 11; refine (num_any _ _).mono ?_; rintro e w' ⟨rfl, rfl⟩)
        refine (shape_to 0 t HTS.out.ten HTA6.out.ten.1 HS1.out HS2.out).mono ?_
        rintro e w7 ⟨u0, u1, rfl, ho, hb7⟩
        obtain ⟨ua, un, uc, rfl⟩ := ho.dims.ints.shape3
        obtain ⟨va, vn, vc, rfl⟩ := ho.data.ints.shape3
        have hv : Below w7.heap.size w7 (w7.alloc (.cells #[.slice ua un uc, .slice va vn vc] 31)) := Below.push (Below.refl _ _) _
        have HL7 : Hid (Live (w7.alloc (.cells #[.slice ua un uc, .slice va vn vc] 31)) [(w7.heap.size, .slice ua un uc, .slice va vn vc, t), (Ba, _, _, t)]) := ⟨⟨Box.new _ _ _, ho.tens.later hv⟩, (HTA6.out.later hb7).later hv, trivial⟩
        have HB7 : Hid (Below W.heap.size W (w7.alloc (.cells #[.slice ua un uc, .slice va vn vc] 31))) := Below.after (Below.after HB6.out hb7) hv
        clear ho hb7 hv c0 c2 c3
        have e1 := HL7.out.1.box.c0
        have e2 := HL7.out.1.box.c1
        have e3 := HL7.out.2.1.box.c0
        have e4 := HL7.out.2.1.box.c1
        go_wp2_with (go_at_call 11; refine (num_any _ _).mono ?_; rintro e w' ⟨rfl, rfl⟩)
        refine (eqt_to HL7.out.1.ten HL7.out.2.1.ten rfl).mono ?_
        rintro e w8 ⟨rfl, hb8⟩
        have HB8 : Hid (Below W.heap.size W w8) := Below.after HB7.out hb8
        clear hb8 e1 e2 e3 e4
        go_wp2
        refine ⟨⟨⟨rfl, rfl, rfl, rfl, rfl, rfl⟩, ⟨k + 1, by omega, ?_⟩, HB8.out⟩, ?_⟩
        · show Value.int .i64 _ = _
          go_num
        · show n - (intOf (Value.int .i64 _)).toNat < n - (intOf (Value.int .i64 _)).toNat
          simp [intOf]
          omega
      · have hne : (shE t d == 0) = false := by simp [hx]
        obtain ⟨x, hxx⟩ : ∃ x, shE t d = x := ⟨_, rfl⟩
        rw [hxx] at hne ⊢
        clear hx hxx
        go_wp2_with (go_at_call 11; refine (num_any _ _).mono ?_; rintro e w' ⟨rfl, rfl⟩)
        refine ⟨⟨⟨rfl, rfl, rfl, rfl, rfl, rfl⟩, ⟨k + 1, by omega, ?_⟩, HB6.out⟩, ?_⟩
        · show Value.int .i64 _ = _
          go_num
        · show n - (intOf (Value.int .i64 _)).toNat < n - (intOf (Value.int .i64 _)).toNat
          simp [intOf]
          omega
    · intro J K' hJ hK'
      have HJ : Hid _ := hJ
      have HK' : Hid _ := hK'
      clear hJ hK'
      by_cases hx : wiE t d = 0
      · obtain ⟨ya, yn, yc, rfl⟩ := HTW.out.ten.1.shape3
        obtain ⟨za, zn, zc, rfl⟩ := HTW.out.ten.2.shape3
        have HWI : Hid (wiE t d = 0) := hx
        have hwt := wi_tok hx
        obtain ⟨hl1, hl64⟩ := tok_pos hwt
        have HWT : Hid (tok (wiR t d) = true) := hwt
        obtain ⟨m, hm⟩ : ∃ m, (wiR t d).2.length = m := ⟨_, rfl⟩
        rw [hm] at hl1 hl64
        have HML : Hid ((wiR t d).2.length = m) := hm
        rw [hx]
        clear hx hwt hm
        have c0 := HTA.out.box.c0
        have c1 := HTA.out.box.c1
        have c2 := HTW.out.box.c0
        have c3 := HTW.out.box.c1
        go_wp2_with (go_at_call 11; refine (num_any _ _).mono ?_; rintro e w' ⟨rfl, rfl⟩)
        refine (copyT_any HTW.out.ten).mono ?_
        rintro e w6 ⟨b0, b1, rfl, ho, hb6⟩
        obtain ⟨pa, pn, pc, rfl⟩ := ho.dims.ints.shape3
        obtain ⟨g, cap, eg, hcap, hg1, hg2⟩ := ho.data.form (by rw [HML.out]; omega)
        rw [HML.out] at eg hcap
        subst eg
        have hs6 := hb6.size
        have hv : Below w6.heap.size w6 (w6.alloc (.cells #[.slice pa pn pc, .slice (some ⟨g, 0, none⟩) m cap] 31)) := Below.push (Below.refl _ _) _
        have HBB : Hid (Box (w6.alloc (.cells #[.slice pa pn pc, .slice (some ⟨g, 0, none⟩) m cap] 31)) w6.heap.size (.slice pa pn pc) (.slice (some ⟨g, 0, none⟩) m cap)) := Box.new _ _ _
        have HOD : Hid (Own (w6.alloc (.cells #[.slice pa pn pc, .slice (some ⟨g, 0, none⟩) m cap] 31)) w5.heap.size (.slice pa pn pc) (wiR t d).1) := ho.dims.later hv
        have HAP : Hid (∀ k, (Value.slice pa pn pc).ownBlock = some k → k ≠ g) := fun k hk e => ho.apart k hk (by rw [e]; rfl)
        have HOL : Hid (∃ l : List Int, l.length = m ∧ Own (w6.alloc (.cells #[.slice pa pn pc, .slice (some ⟨g, 0, none⟩) m cap] 31)) w5.heap.size (.slice (some ⟨g, 0, none⟩) m cap) l) := ⟨_, HML.out, ho.data.later hv⟩
        have HTA6 : Hid (TB (w6.alloc (.cells #[.slice pa pn pc, .slice (some ⟨g, 0, none⟩) m cap] 31)) Ba _ _ t) := (HTA.out.later hb6).later hv
        have HTW6 : Hid (TB (w6.alloc (.cells #[.slice pa pn pc, .slice (some ⟨g, 0, none⟩) m cap] 31)) Bw _ _ (wiR t d)) := (HTW.out.later hb6).later hv
        have HB6 : Hid (Below w5.heap.size w5 (w6.alloc (.cells #[.slice pa pn pc, .slice (some ⟨g, 0, none⟩) m cap] 31))) := Below.after hb6 hv
        clear ho hb6 hv c0 c1 c2 c3
        go_wp2
        refine aloop3 (O := w5.heap.size) hl64 hcap (by omega) HBB HOL ?_ _ ⟨rfl, rfl, rfl, rfl, rfl, rfl, rfl, rfl, rfl⟩ rfl
        intro a7 w7 hf7 hbu7 ⟨l, hl, hol⟩
        obtain ⟨G7, hg7, e7⟩ := act176 a7 hf7.d hf7.s
        obtain ⟨hz1, hz2, g1, g3, g4, g9, g10, g11, g13⟩ := hf7
        rw [hg7] at g1 g3 g4 g9 g10 g11 g13
        clear hz1 hz2
        subst e7
        clear hg7
        rw [g1, g3, g4, g9, g10, g11, g13]
        clear g1 g3 g4 g9 g10 g11 g13
        have hb7 : Below w5.heap.size w5 w7 := hbu7.below HB6.out hg1
        have HB7 : Hid (Below w5.heap.size w5 w7) := hb7
        have hbt : tok ((wiR t d).1, l) = true := tok_mk (tok_okd HWT.out) (by rw [hl, ← HML.out]; exact tok_len HWT.out)
        have hbd : ((wiR t d).1, l).1 = d := by rw [wiR_ok HWI.out]
        obtain ⟨f1, f2, f3⟩ := dots_law HWI.out hbt hbd
        have HSU : Hid (suE ((wiR t d).1, l) t.1 = 0) := su_any HWI.out hbt hbd
        have HF1 : Hid (fitE (wiR t d) ((wiR t d).1, l) = 0) := f1
        have HF2 : Hid (fitE t (suR ((wiR t d).1, l) t.1) = 0) := f2
        obtain ⟨x, hx⟩ : ∃ x, dotV (wiR t d) ((wiR t d).1, l) = x := ⟨_, rfl⟩
        have HD1 : Hid (dotV (wiR t d) ((wiR t d).1, l) = x) := hx
        have HD2 : Hid (dotV t (suR ((wiR t d).1, l) t.1) = x) := by show _ = _; rw [← f3]; exact hx
        have HL7 : Hid (Live w7 [(w6.heap.size, .slice pa pn pc, .slice (some ⟨g, 0, none⟩) m cap, ((wiR t d).1, l)), (Ba, _, _, t), (Bw, _, _, wiR t d)]) :=
          ⟨⟨hbu7.box HBB.out (by omega), ⟨(HOD.out.at fun k hk => hbu7.block k (HAP.out k hk)).ints, hol.ints⟩⟩, HTA.out.later hb7, HTW.out.later hb7, trivial⟩
        clear hbu7 hl hol hb7 hbt hbd f1 f2 f3 hx HTA6 HTW6 HOL HOD HBB HAP HB6
        have c0 := HL7.out.1.box.c0
        have c1 := HL7.out.1.box.c1
        have c2 := HL7.out.2.1.box.c0
        go_wp2_with fail
        refine (sumd_to 0 _ HL7.out.1.ten HL7.out.2.1.ten.1 HSU.out rfl).mono ?_
        rintro e w8 ⟨u0, u1, rfl, ho, hb8⟩
        obtain ⟨ua, un, uc, rfl⟩ := ho.dims.ints.shape3
        obtain ⟨va, vn, vc, rfl⟩ := ho.data.ints.shape3
        have HL8 : Hid (Live (w8.alloc (.cells #[.slice ua un uc, .slice va vn vc] 31)) _) := (HL7.out.later hb8).push ho.tens
        have HB8 : Hid (Below w5.heap.size w5 (w8.alloc (.cells #[.slice ua un uc, .slice va vn vc] 31))) := Below.push (Below.after HB7.out hb8) _
        clear ho hb8 c0 c1 c2
        have c0 := HL8.out.2.1.box.c0
        have c1 := HL8.out.2.1.box.c1
        have c2 := HL8.out.2.2.2.1.box.c0
        have c3 := HL8.out.2.2.2.1.box.c1
        go_wp2_with fail
        refine (dot_to 0 x HL8.out.2.2.2.1.ten HL8.out.2.1.ten HF1.out HD1.out).mono ?_
        rintro e w9 ⟨rfl, hb9⟩
        have HL9 : Hid (Live w9 _) := HL8.out.later hb9
        have HB9 : Hid (Below w5.heap.size w5 w9) := Below.after HB8.out hb9
        clear hb9 c0 c1 c2 c3
        have c0 := HL9.out.1.box.c0
        have c1 := HL9.out.1.box.c1
        have c2 := HL9.out.2.2.1.box.c0
        have c3 := HL9.out.2.2.1.box.c1
        go_wp2_with fail
        refine (dot_to 0 x HL9.out.2.2.1.ten HL9.out.1.ten HF2.out HD2.out).mono ?_
        rintro e w10 ⟨rfl, hb10⟩
        have HB10 : Hid (Below w5.heap.size w5 w10) := Below.after HB9.out hb10
        clear hb10 c0 c1 c2 c3
        go_wp2_with (go_at_call 11; refine (num_any _ _).mono ?_; rintro e w' ⟨rfl, rfl⟩)
        exact HK'.out _ _ (Met.intro (HJ.out _ _ ⟨⟨rfl, rfl, rfl, rfl, rfl, rfl⟩, rfl, Below.after HB5.out HB10.out⟩))
      · have hne : (wiE t d == 0) = false := by simp [hx]
        obtain ⟨x, hxx⟩ : ∃ x, wiE t d = x := ⟨_, rfl⟩
        rw [hxx] at hne ⊢
        clear hx hxx
        go_wp2_with (go_at_call 11; refine (num_any _ _).mono ?_; rintro e w' ⟨rfl, rfl⟩)
        exact HK'.out _ _ (Met.intro (HJ.out _ _ ⟨⟨rfl, rfl, rfl, rfl, rfl, rfl⟩, rfl, HB5.out⟩))
  · go_wp2
    exact HEX.out _ _ ⟨rfl, rfl, rfl, rfl, rfl, rfl⟩ HB.out
end Go.Proofs.Ytgedknmjenbacaa
