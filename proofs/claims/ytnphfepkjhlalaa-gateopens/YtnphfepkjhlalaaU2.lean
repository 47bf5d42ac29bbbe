/- GateDots: its loop over n. -/
import Derived.Test.YtnphfepkjhlalaaU1b
import Derived.Test.YtnphfepkjhlalaaU1c
namespace Go.Proofs.Ytnphfepkjhlalaa
set_option linter.unusedVariables false
set_option linter.unusedSimpArgs false
open Go.RowKit

structure FrU3 (B i Ba n : Nat) (a : Act) : Prop where
  d : a.defers = []
  s : a.tmps.size = 249
  f1 : a.tmps.getD 1 undef = .pointer (some ⟨B, 0, none⟩)
  f3 : a.tmps.getD 3 undef = .int .i64 i
  f4 : a.tmps.getD 4 undef = .pointer (some ⟨Ba, 0, none⟩)
  f12 : a.tmps.getD 12 undef = .int .i64 n
theorem fwE_tok {t : Ten} (h : tkE t = 0) : tok t = true := by
  unfold tkE at h
  split at h
  · assumption
  · simp at h
theorem Own.getD {w : World} {v : Value} {d : List Int} {n : Nat} (h : Ints w v d) (hn : d.length = n) (h1 : 1 ≤ n) :
    ∃ b o c, v = .slice (some ⟨b, o, none⟩) n c ∧ n ≤ c ∧ ∀ k, k < n → w.cell? ⟨b, o + k, none⟩ = some (.int .i64 (d.getD k 0)) := by
  subst hn
  rcases h.cases with ⟨e, _⟩ | ⟨b, o, c, e, _, hc, _, HC⟩
  · rw [e] at h1; simp at h1
  · exact ⟨b, o, c, e, hc, fun k hk => Ints.cellD (n := 0) (c := 0) HC k hk⟩
set_option maxRecDepth 1000000 in
set_option maxHeartbeats 16000000 in
theorem uloop3 {B i Ba : Nat} {a0 a1 : Value} {t : Ten} {W : World} {Q : Exit → Act → World → Prop}
    (HT : Hid (TB W Ba a0 a1 t)) (HK : Hid (tkE t = 0))
    (hexit : ∀ a' w' n, FrU3 B i Ba n a' → Below W.heap.size W w' → Q (.exit 4) a' w')
    (a : Act) (w : World) (ha : FrU3 B i Ba 1 a) (hb : Below W.heap.size W w) :
    Code.wp Try.prog (.loop (((Try.f4.body.map loopsIn).getD []).getD 2 .skip)) Q a w := by
  refine wp_loop (fun a' w' => (∃ n : Nat, 1 ≤ n ∧ n ≤ 9 ∧ FrU3 B i Ba n a') ∧ Below W.heap.size W w') (fun a' _ => 9 - slotNat a' 12) ⟨⟨1, by omega, by omega, ha⟩, hb⟩ ?_
  clear ha hb
  clear a w
  intro a w ⟨⟨n, hn1, hn9, hf⟩, hb⟩
  obtain ⟨G, hg, e⟩ := act249 a hf.d hf.s
  obtain ⟨hz1, hz2, g1, g3, g4, g12⟩ := hf
  rw [hg] at g1 g3 g4 g12 
  clear hz1 hz2
  subst e
  clear hg
  rw [g1, g3, g4, g12]
  clear g1 g3 g4 g12
  have HEX : Hid (∀ a' w' n, FrU3 B i Ba n a' → Below W.heap.size W w' → Q (.exit 4) a' w') := hexit
  have HB : Hid (Below W.heap.size W w) := hb
  have HTW : Hid (TB w Ba a0 a1 t) := HT.out.later hb
  clear hexit hb HT
  obtain ⟨aa, an, ac, rfl⟩ := HTW.out.ten.1.shape3
  obtain ⟨ab, bn, bc, rfl⟩ := HTW.out.ten.2.shape3
  conv => arg 2; whnf
  by_cases hlt : n ≤ 8
  · have c0 := HTW.out.box.c0
    have c1 := HTW.out.box.c1
    obtain ⟨e0, he0⟩ : ∃ e, fwE t n = e := ⟨_, rfl⟩
    obtain ⟨u, hu⟩ : ∃ u, mxR t n = u := ⟨_, rfl⟩
    have HMX : Hid (fwE t n = e0 ∧ mxR t n = u) := ⟨he0, hu⟩
    clear he0 hu
    go_wp2_with fail
    refine (max_to (n : Int) e0 u HTW.out.ten HMX.out.1 HMX.out.2).mono ?_
    rintro e w2 ⟨x0, x1, rfl, ho, hb2⟩
    obtain ⟨xa, xn, xc, rfl⟩ := ho.dims.ints.shape3
    obtain ⟨ya, yn, yc, rfl⟩ := ho.data.ints.shape3
    have HL1 : Hid (Live (w2.alloc (.cells #[.slice xa xn xc, .slice ya yn yc] 28)) [(w2.heap.size, .slice xa xn xc, .slice ya yn yc, u), (Ba, .slice aa an ac, .slice ab bn bc, t)]) := Live.push (L := [(Ba, .slice aa an ac, .slice ab bn bc, t)]) ⟨HTW.out.later hb2, trivial⟩ ho.tens
    have HB1 : Hid (Below w.heap.size w (w2.alloc (.cells #[.slice xa xn xc, .slice ya yn yc] 28))) := Below.push hb2 _
    clear ho hb2 c0 c1
    by_cases hx : e0 = 0
    · subst hx
      obtain ⟨d, l, m, hM, hd, hl, hm, h1n, hm1, hlm, hl64, hl1, hok⟩ := max_law HMX.out.1
      rw [HMX.out.2] at hM
      subst hM
      have HMF : Hid (fwE t n = 0 ∧ mxR t n = (d, l) ∧ d = lesD t.1 n ∧ l = maxs n m t.2 ∧ t.2.length = m * n ∧ (∀ l' : List Int, l'.length = m → tok (d, l') = true)) := ⟨HMX.out.1, HMX.out.2, hd, hl, hm, hok⟩
      have HLM : Hid (l.length = m) := hlm
      have hm64 : m ≤ 64 := by omega
      clear hd hl hm hlm hl64 hl1 hok HMX
      have c0 := HL1.out.1.box.c0
      have c1 := HL1.out.1.box.c1
      go_wp2_with (go_at_call 11; refine (num_any _ _).mono ?_; rintro e w' ⟨rfl, rfl⟩)
      refine (copyT_any HL1.out.1.ten).mono ?_
      rintro e w3 ⟨p0, p1, rfl, ho, hb3⟩
      obtain ⟨pa, pn, pc, rfl⟩ := ho.dims.ints.shape3
      obtain ⟨g, cap, hg0, hcap, hg1, hg2⟩ := ho.data.form (by show 1 ≤ l.length; rw [HLM.out]; exact hm1)
      rw [show ((d, l) : Ten).2.length = m from HLM.out] at hg0 hcap
      subst hg0
      have HBB : Hid (Box (w3.alloc (.cells #[.slice pa pn pc, .slice (some ⟨g, 0, none⟩) m cap] 28)) w3.heap.size (.slice pa pn pc) (.slice (some ⟨g, 0, none⟩) m cap)) := Box.new _ _ _
      have hv : Below w3.heap.size w3 (w3.alloc (.cells #[.slice pa pn pc, .slice (some ⟨g, 0, none⟩) m cap] 28)) := Below.push (Below.refl _ _) _
      have HOL : Hid (∃ l : List Int, l.length = m ∧ Own (w3.alloc (.cells #[.slice pa pn pc, .slice (some ⟨g, 0, none⟩) m cap] 28)) (w2.alloc (.cells #[.slice xa xn xc, .slice ya yn yc] 28)).heap.size (.slice (some ⟨g, 0, none⟩) m cap) l) := ⟨l, HLM.out, ho.data.later hv⟩
      have HOD : Hid (Own (w3.alloc (.cells #[.slice pa pn pc, .slice (some ⟨g, 0, none⟩) m cap] 28)) (w2.alloc (.cells #[.slice xa xn xc, .slice ya yn yc] 28)).heap.size (.slice pa pn pc) d) := ho.dims.later hv
      have HAP : Hid (∀ k, (Value.slice pa pn pc).ownBlock = some k → k ≠ g) := fun k hk e => ho.apart k hk (by rw [e]; rfl)
      have HL3 : Hid (Live (w3.alloc (.cells #[.slice pa pn pc, .slice (some ⟨g, 0, none⟩) m cap] 28)) [(w2.heap.size, .slice xa xn xc, .slice ya yn yc, (d, l)), (Ba, .slice aa an ac, .slice ab bn bc, t)]) := (HL1.out.later hb3).later hv
      have HB3 : Hid (Below w.heap.size w (w3.alloc (.cells #[.slice pa pn pc, .slice (some ⟨g, 0, none⟩) m cap] 28))) := Below.after (Below.after HB1.out hb3) hv
      have hgw : w.heap.size ≤ g := by have := HB1.out.size; omega
      have HGL : Hid (w2.heap.size ≠ g ∧ Ba ≠ g ∧ Below (w2.alloc (.cells #[.slice xa xn xc, .slice ya yn yc] 28)).heap.size (w2.alloc (.cells #[.slice xa xn xc, .slice ya yn yc] 28)) (w3.alloc (.cells #[.slice pa pn pc, .slice (some ⟨g, 0, none⟩) m cap] 28))) := by
        refine ⟨?_, ?_, Below.after hb3 hv⟩
        · have : w2.heap.size < (w2.alloc (.cells #[.slice xa xn xc, .slice ya yn yc] 28)).heap.size := by simp
          omega
        · have := HTW.out.box.lt
          omega
      clear ho hb3 hv c0 c1
      go_wp2
      refine uloop4 (O := (w2.alloc (.cells #[.slice xa xn xc, .slice ya yn yc] 28)).heap.size) hm64 hcap (by omega) HBB HOL ?_ _ ⟨rfl, rfl, rfl, rfl, rfl, rfl, rfl, rfl, rfl⟩
      intro a7 w7 k7 hf7 hbu7 ⟨l', hl', hol⟩
      obtain ⟨G7, hg7, e7⟩ := act249 a7 hf7.d hf7.s
      obtain ⟨hz1, hz2, g1, g3, g4, g12, g13, g15, g16⟩ := hf7
      rw [hg7] at g1 g3 g4 g12 g13 g15 g16 
      clear hz1 hz2
      subst e7
      clear hg7
      rw [g1, g3, g4, g12, g13, g15, g16]
      clear g1 g3 g4 g12 g13 g15 g16
      have hb7 : Below (w2.alloc (.cells #[.slice xa xn xc, .slice ya yn yc] 28)).heap.size (w2.alloc (.cells #[.slice xa xn xc, .slice ya yn yc] 28)) w7 := hbu7.below HGL.out.2.2 (by simpa using hg1)
      have hb7w : Below w.heap.size w w7 := hbu7.below HB3.out hgw
      obtain ⟨pl, ql, h1, h2, h3, h4, h5, h6, h7, h8, h9⟩ := pick_law (l' := l') HMF.out.1 HMF.out.2.1 HMF.out.2.2.1 HMF.out.2.2.2.1 HMF.out.2.2.2.2.1 hn1 hl' HMF.out.2.2.2.2.2
      obtain ⟨x, hx⟩ : ∃ x, dotV (t.1, pl) t = x := ⟨_, rfl⟩
      have HP1 : Hid (pkE t (d, l') n = 0 ∧ pkR t (d, l') n = (t.1, pl)) := ⟨h1, h2⟩
      have HP2 : Hid (fitE (t.1, pl) t = 0 ∧ dotV (t.1, pl) t = x) := ⟨h3, hx⟩
      have HP3 : Hid (fitE (d, l') (d, l) = 0 ∧ dotV (d, l') (d, l) = x) := ⟨h4, by rw [← h5]; exact hx⟩
      have HP4 : Hid (pkE t (d, l) n = 0 ∧ pkR t (d, l) n = (t.1, ql)) := ⟨h6, h7⟩
      have HP5 : Hid (ql.length = t.2.length ∧ ∀ k, k < t.2.length → ql.getD k 0 = 0 ∨ ql.getD k 0 = t.2.getD k 0) := ⟨h8, h9⟩
      have HL7 : Hid (Live w7 [(w3.heap.size, .slice pa pn pc, .slice (some ⟨g, 0, none⟩) m cap, (d, l')), (w2.heap.size, .slice xa xn xc, .slice ya yn yc, (d, l)), (Ba, .slice aa an ac, .slice ab bn bc, t)]) :=
        ⟨⟨hbu7.box HBB.out (by omega), ⟨(HOD.out.at fun k hk => hbu7.block k (HAP.out k hk)).ints, hol.ints⟩⟩, HL1.out.later hb7⟩
      have HB7 : Hid (Below w.heap.size w w7) := hb7w
      clear hbu7 hl' hol hb7 hb7w h1 h2 h3 h4 h5 h6 h7 h8 h9 hx HOL HOD HBB HAP HGL HL3 HB3 HL1 HMF HLM HB1 hgw hg1 hg2
      have c0 := HL7.out.1.box.c0
      have c1 := HL7.out.1.box.c1
      have c2 := HL7.out.2.2.1.box.c0
      have c3 := HL7.out.2.2.1.box.c1
      go_wp2_with fail
      refine (pick_to (n : Int) 0 _ HL7.out.2.2.1.ten HL7.out.1.ten HP1.out.1 HP1.out.2).mono ?_
      rintro e w8 ⟨u0, u1, rfl, ho, hb8⟩
      obtain ⟨ua, un, uc, rfl⟩ := ho.dims.ints.shape3
      obtain ⟨va, vn, vc, rfl⟩ := ho.data.ints.shape3
      have HL8 : Hid (Live (w8.alloc (.cells #[.slice ua un uc, .slice va vn vc] 28)) _) := (HL7.out.later hb8).push ho.tens
      have HB8 : Hid (Below w.heap.size w (w8.alloc (.cells #[.slice ua un uc, .slice va vn vc] 28))) := Below.push (Below.after HB7.out hb8) _
      clear ho hb8 c0 c1 c2 c3
      have c0 := HL8.out.1.box.c0
      have c1 := HL8.out.1.box.c1
      have c2 := HL8.out.2.2.2.1.box.c0
      have c3 := HL8.out.2.2.2.1.box.c1
      go_wp2_with fail
      refine (dot_to 0 x HL8.out.1.ten HL8.out.2.2.2.1.ten HP2.out.1 HP2.out.2).mono ?_
      rintro e w9 ⟨rfl, hb9⟩
      have HL9 : Hid (Live w9 _) := HL8.out.2.later hb9
      have HB9 : Hid (Below w.heap.size w w9) := Below.after HB8.out hb9
      clear hb9 c0 c1 c2 c3 HL8 HB8
      have c0 := HL9.out.1.box.c0
      have c1 := HL9.out.1.box.c1
      have c2 := HL9.out.2.1.box.c0
      have c3 := HL9.out.2.1.box.c1
      go_wp2_with fail
      refine (dot_to 0 x HL9.out.1.ten HL9.out.2.1.ten HP3.out.1 HP3.out.2).mono ?_
      rintro e w10 ⟨rfl, hb10⟩
      have HL10 : Hid (Live w10 _) := HL9.out.2.later hb10
      have HB10 : Hid (Below w.heap.size w w10) := Below.after HB9.out hb10
      clear hb10 c0 c1 c2 c3 HL9 HB9
      have c0 := HL10.out.1.box.c0
      have c1 := HL10.out.1.box.c1
      have c2 := HL10.out.2.1.box.c0
      have c3 := HL10.out.2.1.box.c1
      go_wp2_with fail
      refine (pick_to (n : Int) 0 _ HL10.out.2.1.ten HL10.out.1.ten HP4.out.1 HP4.out.2).mono ?_
      rintro e w11 ⟨u0, u1, rfl, ho, hb11⟩
      have hpos := tok_pos (fwE_tok HK.out)
      obtain ⟨L, hL⟩ : ∃ L, t.2.length = L := ⟨_, rfl⟩
      rw [hL] at hpos
      obtain ⟨ta, tn, tc, rfl⟩ := ho.dims.ints.shape3
      obtain ⟨sb, so, sc, rfl, hsc, hcs⟩ := Own.getD (n := L) ho.data.ints (by show ql.length = L; rw [HP5.out.1]; exact hL) hpos.1
      obtain ⟨kb, ko, kc, hke, hkc, hck⟩ := Own.getD (n := L) HL10.out.2.1.ten.2 hL hpos.1
      simp only [Value.slice.injEq] at hke
      obtain ⟨rfl, rfl, rfl⟩ := hke
      have hv : Below w11.heap.size w11 (w11.alloc (.cells #[.slice ta tn tc, .slice (some ⟨sb, so, none⟩) bn sc] 28)) := Below.push (Below.refl _ _) _
      have HL11 : Hid (Live (w11.alloc (.cells #[.slice ta tn tc, .slice (some ⟨sb, so, none⟩) bn sc] 28)) [(w11.heap.size, .slice ta tn tc, .slice (some ⟨sb, so, none⟩) bn sc, (t.1, ql)), (Ba, .slice aa an ac, .slice (some ⟨kb, ko, none⟩) bn bc, t)]) := Live.push (L := [(Ba, .slice aa an ac, .slice (some ⟨kb, ko, none⟩) bn bc, t)]) (HL10.out.2.later hb11) ho.tens
      have HB11 : Hid (Below w.heap.size w (w11.alloc (.cells #[.slice ta tn tc, .slice (some ⟨sb, so, none⟩) bn sc] 28))) := Below.push (Below.after HB10.out hb11) _
      have HCA : Hid (∀ k, k < bn → (w11.alloc (.cells #[.slice ta tn tc, .slice (some ⟨sb, so, none⟩) bn sc] 28)).cell? ⟨kb, ko + k, none⟩ = some (.int .i64 (t.2.getD k 0))) := fun k hk => cell_later (Below.after hb11 hv) (hck k hk)
      have HCX : Hid (∀ k, k < bn → (w11.alloc (.cells #[.slice ta tn tc, .slice (some ⟨sb, so, none⟩) bn sc] 28)).cell? ⟨sb, so + k, none⟩ = some (.int .i64 (ql.getD k 0))) := fun k hk => cell_later hv (hcs k hk)
      have HVV : Hid (∀ k, k < bn → ql.getD k 0 = 0 ∨ ql.getD k 0 = t.2.getD k 0) := fun k hk => HP5.out.2 k (by omega)
      clear ho hb11 hv c0 c1 c2 c3 HL10 HB10 hL hcs hck
      have c0 := HL11.out.1.box.c0
      have c1 := HL11.out.1.box.c1
      have c2 := HL11.out.2.1.box.c0
      have c3 := HL11.out.2.1.box.c1
      go_wp2_with (go_at_call 11; refine (num_any _ _).mono ?_; rintro e w' ⟨rfl, rfl⟩)
      refine uloop5 (al := t.2) (xl := ql) hpos.2 hkc hsc c3 c1 HCA HCX HVV ?_ _ ⟨rfl, rfl, rfl, rfl, rfl, rfl, rfl, rfl⟩
      intro a9 w9 k9 hf9 hb9
      clear c0 c1 c2 c3
      obtain ⟨G9, hg9, e9⟩ := act249 a9 hf9.d hf9.s
      obtain ⟨hz1, hz2, g1, g3, g4, g12, g23, g25⟩ := hf9
      rw [hg9] at g1 g3 g4 g12 g23 g25 
      clear hz1 hz2
      subst e9
      clear hg9
      rw [g1, g3, g4, g12, g23, g25]
      clear g1 g3 g4 g12 g23 g25
      have HB12 : Hid (Below W.heap.size W w9) := Below.after HB.out (Below.after HB11.out hb9)
      clear hb9
      go_wp2
      refine ⟨⟨⟨n + 1, by omega, by omega, rfl, rfl, rfl, rfl, rfl, ?_⟩, HB12.out⟩, ?_⟩
      · show Value.int .i64 _ = _
        go_num
      · show 9 - (intOf (Value.int .i64 _)).toNat < 9 - (intOf (Value.int .i64 _)).toNat
        simp [intOf]
        omega
    · have hne : (e0 == 0) = false := by simp [hx]
      clear hx
      go_wp2_with (go_at_call 11; refine (num_any _ _).mono ?_; rintro e w' ⟨rfl, rfl⟩)
      refine ⟨⟨⟨n + 1, by omega, by omega, rfl, rfl, rfl, rfl, rfl, ?_⟩, Below.after HB.out HB1.out⟩, ?_⟩
      · show Value.int .i64 _ = _
        go_num
      · show 9 - (intOf (Value.int .i64 _)).toNat < 9 - (intOf (Value.int .i64 _)).toNat
        simp [intOf]
        omega
  · go_wp2
    exact HEX.out _ _ n ⟨rfl, rfl, rfl, rfl, rfl, rfl⟩ HB.out
end Go.Proofs.Ytnphfepkjhlalaa
