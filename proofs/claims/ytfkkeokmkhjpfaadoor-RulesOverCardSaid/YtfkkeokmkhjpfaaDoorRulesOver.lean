/- For any config, rows, rule, and numbers of somebody and something: where a rule is put in that denies, all of whom it speaks are denied; where one is put in that allows, nobody is told otherwise than before of whom it does not speak, and nobody is denied who was not. Condition: the table of objects holds at the call's start what the program's text lays there (the tied card). -/
import Derived.Test.YtfkkeokmkhjpfaaDoorRuLive
import Derived.Test.YtfkkeokmkhjpfaaDoorLaw
import Derived.Test.YtfkkeokmkhjpfaaDoorOpenOp
import Derived.Test.YtfkkeokmkhjpfaaDoorOpenCfg
import Derived.Test.YtfkkeokmkhjpfaaDoorOpenRow
import Derived.Deep.DeepCutAuto
namespace Go.Proofs.YtfkkeokmkhjpfaaDoor.rulesOver
open Go.ChangeShapes Go.WideShapes Go.ChangeAt Go.RowKit Pt Opn Tb

/-- Does the rule of o speak of them, as the statement says it? -/
def Aside (o : O) (who what : Nat) : Prop := (o.a ≠ 0 ∧ o.a ≠ who) ∨ (o.b ≠ 0 ∧ o.b ≠ what)
theorem sp_key {a b who what : Nat} (_ : a ≤ 65535) (hb : b ≤ 65535) : sp (a * 65536 + b) who what = true ↔ (a = 0 ∨ a = who) ∧ (b = 0 ∨ b = what) := by
  unfold sp
  rw [show (a * 65536 + b) / 65536 = a by omega, show (a * 65536 + b) % 65536 = b by omega, decide_eq_true_iff]
theorem sayL_in {c : Cf} {l : List R} {a b : Nat} (h : sayL c l a b ≠ 9) : IsRu c l ∧ 1 ≤ a ∧ a ≤ 65535 ∧ 1 ≤ b ∧ b ≤ 65535 ∧ sayL c l a b = says l a b := by
  unfold sayL at h ⊢
  by_cases hg : IsRu c l ∧ 1 ≤ a ∧ a ≤ 65535 ∧ 1 ≤ b ∧ b ≤ 65535
  · rw [if_pos hg]; exact ⟨hg.1, hg.2.1, hg.2.2.1, hg.2.2.2.1, hg.2.2.2.2, rfl⟩
  · rw [if_neg hg] at h; exact absurd rfl h
/-- What an addition does that is done, to what is told. -/
theorem facts (c : Cf) (l : List R) (o : O) (who what : Nat) (hk : o.k = 9) (_ : doUE c l = 0) (hx : (doUR c l o).2.1 = 0) (hs : sayL c l who what ≠ 9) :
    (o.c = 1 ∨ o.c = 2) ∧ (Aside o who what → sayL c (doUR c l o).1 who what = sayL c l who what) ∧ (¬ Aside o who what → o.c = 2 → sayL c (doUR c l o).1 who what = 2) ∧
    (¬ Aside o who what → o.c = 1 → (sayL c (doUR c l o).1 who what = 1 ∧ sayL c l who what ≠ 2) ∨ (sayL c l who what = 2 ∧ (sayL c (doUR c l o).1 who what = 2 ∨ ((doUR c l o).2.2 = 2 ∧ sayL c (doUR c l o).1 who what = 1)))) := by
  obtain ⟨ht, g1, g2, g3, g4, e1⟩ := sayL_in hs
  by_cases hb : chk c o = 0
  · have hta := doUR_tab o ht
    rcases fits_three ht.2.1 hb with ⟨_, f1, f2, f3⟩ | ⟨k2, _⟩ | ⟨k2, _⟩
    · have e2 : sayL c (doUR c l o).1 who what = says (doUR c l o).1 who what := by unfold sayL; rw [if_pos ⟨hta, g1, g2, g3, g4⟩]
      rw [e1, e2]
      have hd := doUR_done ht hb
      rw [hk, doneU_put] at hd
      have hrow : (doUR c l o).1 = put l (o.a * 65536 + o.b) o.c ∧ ∀ u, Tb.get l (o.a * 65536 + o.b) = some u → (doUR c l o).2.2 = ((u : Nat) : Int) := by
        cases hg : Tb.get l (o.a * 65536 + o.b) with
        | some u => rw [hg] at hd; rw [hd]; exact ⟨rfl, fun v hv => by cases hv; rfl⟩
        | none =>
          rw [hg] at hd
          simp only at hd
          by_cases hc : c.cap.toNat ≤ l.length
          · rw [if_pos hc] at hd
            rw [hd] at hx
            exact absurd hx (by simp)
          · rw [if_neg hc] at hd
            rw [hd]
            exact ⟨rfl, fun v hv => by cases hv⟩
      rw [hrow.1]
      have hK : o.a * 65536 + o.b < 4294967296 := by omega
      have hok := ht.2.2.2.2
      refine ⟨f3, fun ha => says_other hok hK f3 who what (by
        cases hs : sp (o.a * 65536 + o.b) who what with
        | false => rfl
        | true =>
          have := (sp_key f1 f2).1 hs
          unfold Aside at ha; omega), fun ha hc => ?_, fun ha hc => ?_⟩
      · rw [hc]
        exact says_deny hok hK who what ((sp_key f1 f2).2 (by unfold Aside at ha; omega))
      · rw [hc]
        obtain ⟨h1, h2⟩ := says_allow ht.2.2.2.1 hok hK who what ((sp_key f1 f2).2 (by unfold Aside at ha; omega))
        by_cases e : says l who what = 2
        · refine .inr ⟨e, ?_⟩
          rcases h2 e with h | ⟨h3, h4⟩
          · exact .inl h
          · exact .inr ⟨by rw [hrow.2 2 h3]; rfl, h4⟩
        · exact .inl ⟨h1 e, e⟩
    · omega
    · omega
  · rw [doUR_bad ht hb] at hx
    exact absurd hx hb

set_option maxRecDepth 100000 in
set_option maxHeartbeats 8000000 in
theorem walk (c : Cf) (A : Option Addr) (d : Nat) (l : List R) (o : O) (ho : Wf o) (who what : Nat) (hwho : who < 4294967296) (hwhat : what < 4294967296) (_ : l.length ≤ d ∧ d ≤ 9223372036854775807) (hA : A = none → l.length = 0 ∧ d = 0) (hw64 : ∀ x ∈ l, x.1 < 18446744073709551616) (w : World) (hp : Obs w) (h : IsR w A l) :
    Calls Tryd.prog 8 #[cfv c, .slice A l.length d, opv o, .int .u32 who, .int .u32 what] w (Ret (.bool true) w) := by
  have HL := Lib.hid h
  have HP := Lib.hid hp
  by_cases hn : 100 < l.length
  · have hn2 : (100 : Int) < (l.length : Int) := by omega
    clear h hA hp hw64
    generalize l.length = N at *
    unfold cfv opv
    go_enter Tryd.func8, Tryd.ntmps8
    go_wp2_with fail
    refine (ualive_any _ (HP.out.below (below_two _ _ _))).mono ?_
    rintro e w1 ⟨rfl, hb1⟩
    go_wp2
    go_ret
    exact Ret.mk rfl (below_then (below_two _ _ _) hb1)
  · have hn2 : ¬ (100 : Int) < (l.length : Int) := by omega
    by_cases hk : o.k = 9
    · have hk2 : (o.k : Int) = 9 := by omega
      have HDo := Lib.hid (fun W hW hl => udo_any c A l d o ho hA (by omega) hw64 W hW hl)
      have HSay := Lib.hid (fun W hW hl => usays_any c A l d who what hwho hwhat hA (by omega) hw64 W hW hl)
      have hsm : ∀ x ∈ (doUR c l o).1, x.1 < 18446744073709551616 := fun x hx => by
        rcases doUE_cases c l with ⟨_, ht⟩ | ⟨_, ht⟩
        · have := ((doUR_tab o ht).2.2.2.2 x hx).1; omega
        · rw [doUR_none o ht] at hx; cases hx
      have HSa := Lib.hid (fun B k (m : List R) hB hm hw W hW hl => usays_any c B m k who what hwho hwhat hB hm hw W hW hl)
      have HF := Lib.hid (facts c l o who what hk)
      have hlen := doUR_len c l o
      generalize doUE c l = er at *
      generalize doUR c l o = s at *
      obtain ⟨rows, x, y⟩ := s
      simp only at hlen hsm HF
      have hl100 : rows.length ≤ 101 := by omega
      have HSM := Lib.hid hsm
      have HO := Lib.hid ho
      clear h hp hA ho hlen hw64 hsm
      unfold Did4 resv at HDo
      simp only at HDo
      generalize sayL c l who what = was at *
      have hHSa := fun B k hB W hW hl => HSa.out B k rows hB (by omega) HSM.out W hW hl
      generalize sayL c rows who what = now at *
      have HSb := Lib.hid hHSa
      clear HSa hHSa HSM
      have hDo := HDo.out
      unfold cfv opv at *
      simp only [hk2] at hDo ⊢
      have HDo1 := Lib.hid hDo
      clear HDo hDo
      go_enter Tryd.func8, Tryd.ntmps8
      go_wp2_with fail
      refine (ualive_any _ (HP.out.below (below_two _ _ _))).mono ?_
      rintro e w1 ⟨rfl, hb1⟩
      obtain ⟨hc1, hf1⟩ := bcell hb1
      go_wp2_with fail
      have hb0 := below_then (below_two _ _ _) hb1
      refine (HDo1.out w1 (HP.out.below hb0) (HL.out.below hb0)).mono ?_
      rintro e w2 ⟨u, rfl, hM2, hb2⟩
      obtain ⟨Aa, da, rfl, hda, hAa, hLa⟩ := MadeX.form rowL_len hM2
      have HLa := Lib.hid hLa
      have HAa := Lib.hid hAa
      replace hb1 := below_then hb1 hb2
      have hs2 := hb1.size
      have hv2 : w.heap.size + 1 < w2.heap.size := by simp at hs2; omega
      have hu2 : w.heap.size < w2.heap.size := by omega
      clear hc1 hf1 hM2 hLa hAa hb0 hb2 hs2
      obtain ⟨hc1, hf1⟩ := bcell hb1
      go_wp2_with fail
      obtain ⟨g, hg⟩ : ∃ g, w2.heap.size = g := ⟨_, rfl⟩
      have bb := below_one w2 (.cells #[.int .i64 x, .int .u32 y, .slice none 0 0] 29)
      have HT := Lib.hid (heap_alloc_new w2 (.cells #[.int .i64 x, .int .u32 y, .slice none 0 0] 29))
      have HB3 := Lib.hid (below_then (below_then (below_two _ _ _) hb1) bb)
      refine (HSay.out _ (HP.out.below HB3.out) (HL.out.below HB3.out)).mono ?_
      rintro e w4 ⟨rfl, hb4⟩
      have HT4 := Lib.hid ((hb4.block _ (Array.getElem?_eq_some_iff.1 HT.out).1).trans HT.out)
      rw [hg] at HT4 ⊢
      replace hb1 := below_then (below_then hb1 bb) hb4
      have HLa4 := Lib.hid (HLa.out.below (below_then bb hb4))
      have HB4 := Lib.hid (below_then HB3.out hb4)
      have HP4 := Lib.hid (HP.out.below HB4.out)
      clear hc1 hf1 bb HT HB3 hb4 HLa
      replace hu2 : w.heap.size < w4.heap.size := by have := hb1.size; simp at this; omega
      replace hv2 : w.heap.size + 1 < w4.heap.size := by have := hb1.size; simp at this; omega
      obtain ⟨r0, -, r1, -, -, -⟩ := res_cells HT4.out
      obtain ⟨hc1, hf1⟩ := bcell hb1
      by_cases he : er = 0
      · by_cases hx : x = 0
        · by_cases hw9 : was = 9
          · subst he hx hw9
            clear hb1
            go_wp2
            go_ret
            exact Ret.mk rfl HB4.out
          · obtain ⟨k0, k1, k2, k3⟩ := HF.out he hx hw9
            have hw9' : ¬ (was : Int) = 9 := by omega
            subst he hx
            have K1 := Lib.hid k1
            have K2 := Lib.hid k2
            have K3 := Lib.hid k3
            clear HF k1 k2 k3
            have HRL := Lib.hid (HSb.out Aa da HAa.out w4 HP4.out HLa4.out)
            go_wp2_with fail
            refine HRL.out.mono ?_
            rintro e w5 ⟨rfl, hb5⟩
            replace r1 := (hb5.cell (World.block_lt_of_cell? _ _ r1)).trans r1
            replace hb1 := below_then hb1 hb5
            have HB5 := Lib.hid (below_then HB4.out hb5)
            clear hc1 hf1 hb5 r0
            replace hu2 : w.heap.size < w5.heap.size := by have := hb1.size; simp at this; omega
            replace hv2 : w.heap.size + 1 < w5.heap.size := by have := hb1.size; simp at this; omega
            obtain ⟨hc1, hf1⟩ := bcell hb1
            clear hb1 HRL HSb HSay HDo1 HP4 HT4 HB4 HLa4 HL HP
            by_cases ha : Aside o who what
            · have k1 := K1.out ha
              subst k1
              rcases (by unfold Aside at ha; omega : (¬ (o.a : Int) = 0 ∧ ¬ (o.a : Int) = (who : Int)) ∨ ((o.a : Int) = 0 ∧ ¬ (o.b : Int) = 0 ∧ ¬ (o.b : Int) = (what : Int)) ∨ (¬ (o.a : Int) = 0 ∧ (o.a : Int) = (who : Int) ∧ ¬ (o.b : Int) = 0 ∧ ¬ (o.b : Int) = (what : Int))) with ⟨p1, p2⟩ | ⟨p1, p3, p4⟩ | ⟨p1, p2, p3, p4⟩
              · have n1 : (((o.a : Int) : Int) != 0) = true := bne_iff_ne.2 p1
                have n2 : (((o.a : Int) : Int) != (who : Int)) = true := bne_iff_ne.2 p2
                clear ha K1 K2 K3
                go_wp2
                go_ret
                exact Ret.mk (by simp) HB5.out
              · have n1 : (((o.a : Int) : Int) != 0) = false := by rw [p1]; exact bne_self_eq_false _
                have n3 : (((o.b : Int) : Int) != 0) = true := bne_iff_ne.2 p3
                have n4 : (((o.b : Int) : Int) != (what : Int)) = true := bne_iff_ne.2 p4
                clear ha K1 K2 K3
                go_wp2
                go_ret
                exact Ret.mk (by simp) HB5.out
              · have n1 : (((o.a : Int) : Int) != 0) = true := bne_iff_ne.2 p1
                have n2 : (((o.a : Int) : Int) != (who : Int)) = false := by rw [p2]; exact bne_self_eq_false _
                have n3 : (((o.b : Int) : Int) != 0) = true := bne_iff_ne.2 p3
                have n4 : (((o.b : Int) : Int) != (what : Int)) = true := bne_iff_ne.2 p4
                clear ha K1 K2 K3
                go_wp2
                go_ret
                exact Ret.mk (by simp) HB5.out
            · have hA2 := Lib.hid ha
              rcases (by unfold Aside at ha; omega : ((o.a : Int) = 0 ∨ (¬ (o.a : Int) = 0 ∧ (o.a : Int) = (who : Int)))) with p1 | ⟨p1, p2⟩
              all_goals rcases (by unfold Aside at ha; omega : ((o.b : Int) = 0 ∨ (¬ (o.b : Int) = 0 ∧ (o.b : Int) = (what : Int)))) with p3 | ⟨p3, p4⟩
              all_goals
                try (have n1 : (((o.a : Int) : Int) != 0) = false := by rw [p1]; exact bne_self_eq_false _)
                try (have n1 : (((o.a : Int) : Int) != 0) = true := bne_iff_ne.2 p1)
                try (have n2 : (((o.a : Int) : Int) != (who : Int)) = false := by rw [p2]; exact bne_self_eq_false _)
                try (have n3 : (((o.b : Int) : Int) != 0) = false := by rw [p3]; exact bne_self_eq_false _)
                try (have n3 : (((o.b : Int) : Int) != 0) = true := bne_iff_ne.2 p3)
                try (have n4 : (((o.b : Int) : Int) != (what : Int)) = false := by rw [p4]; exact bne_self_eq_false _)
                rcases k0 with kc | kc
                · have kc2 : (o.c : Int) = 1 := by omega
                  rcases K3.out hA2.out kc with ⟨m1, m2⟩ | ⟨m1, m2 | ⟨m2, m3⟩⟩
                  · have q1 : (now : Int) = 1 := by omega
                    have q2 : ((was : Int) != 2) = true := bne_iff_ne.2 (by omega)
                    have q3 : ¬ (was : Int) = 2 := by omega
                    clear ha K1 K2 K3 kc m1 m2
                    go_wp2
                    go_ret
                    exact Ret.mk (by simp) HB5.out
                  · have q1 : (now : Int) = 2 := by omega
                    have q3 : (was : Int) = 2 := by omega
                    clear ha K1 K2 K3 kc m1 m2
                    go_wp2
                    go_ret
                    exact Ret.mk (by simp) HB5.out
                  · have q1 : (now : Int) = 1 := by omega
                    have q3 : (was : Int) = 2 := by omega
                    clear ha K1 K2 K3 kc m1 m3
                    go_wp2
                    go_ret
                    exact Ret.mk (by simp) HB5.out
                · have kc2 : (o.c : Int) = 2 := by omega
                  have m1 := K2.out hA2.out kc
                  have q1 : (now : Int) = 2 := by omega
                  clear ha K1 K2 K3 kc m1
                  go_wp2
                  go_ret
                  exact Ret.mk (by simp) HB5.out
        · have hx2 : (x != 0) = true := bne_iff_ne.2 hx
          subst he
          clear hb1
          go_wp2
          go_ret
          exact Ret.mk rfl HB4.out
      · have he2 : (er != 0) = true := bne_iff_ne.2 he
        clear hb1
        go_wp2
        go_ret
        exact Ret.mk rfl HB4.out
    · have hk2 : ¬ (o.k : Int) = 9 := by omega
      clear h hA hp hw64
      generalize l.length = N at *
      unfold cfv opv
      go_enter Tryd.func8, Tryd.ntmps8
      go_wp2_with fail
      refine (ualive_any _ (HP.out.below (below_two _ _ _))).mono ?_
      rintro e w1 ⟨rfl, hb1⟩
      obtain ⟨hc1, hf1⟩ := bcell hb1
      go_wp2
      go_ret
      exact Ret.mk rfl (below_then (below_two _ _ _) hb1)

set_option maxRecDepth 100000 in
theorem lifted (os : Os) (started : os.Started) (H : Type) (enc : TypeId × Value → H) :
    ReturnsInHanded {} Tryd.checked os 8 .any (fun w args => (Rows.rulesOverSpec.pre enc Tryd.prog Tryd.f8 [] false w args ∧ laidMetH Tryd.prog laidL w) ∧ sizedMet enc Tryd.prog Tryd.f8 (OpenSpec.ofChange Rows.rulesOverSpec) false w args)
      (Rows.rulesOverSpec.post enc Tryd.prog Tryd.f8 false true false false) := by
  refine returnsInHanded_of_change_and (C := Tryd.checked) (X := fun w _ => laidMetH Tryd.prog laidL w) (fun _ _ _ hh h => h.of_heap hh) own started (by kernel_rfl) Tryd.func8
    (ChangeSpec.witness_shaped (enc := enc) (C := Tryd.checked) (os := os) (X := fun w _ => laidMetH Tryd.prog laidL w) false (World.doorLaid Tryd.prog 400 os) #[.agg #[.int .u8 0, .int .i64 0, .int .i64 0, .int .u8 0, .int .i64 0, .int .i64 0, .int .i64 0, .int .i64 0, .int .i64 0, .int .i64 0, .int .u64 0, .int .u64 0], .slice none 0 0, .agg #[.int .u8 0, .int .u32 0, .int .u32 0, .int .u32 0], .int .u32 0, .int .u32 0] 8 rfl (World.shaped_of_RefB (by kernel_rfl) (by kernel_rfl)) (by kernel_rfl) (by kernel_rfl) (by kernel_rfl) (door_met os _)) ?_
  intro W base args ds gs before hval0 hW _ _ hL _
  refine law_of laidOut (by kernel_rfl) (by kernel_rfl) Tryd.underlying4 rfl ?_ hW fun p hA => ?_
  · intro ds hd
    match ds, hd with
    | [_, _, _, _, _], _ => rfl
  have hval' : ∀ (j : Nat) t v, Tryd.f8.params[j]? = some t → args[j]? = some v → Value.okWide Tryd.prog W .any base t v := hval0
  rw [Tryd.params8] at hA hval'
  obtain ⟨v0, vs0, d0, ds0, p0, q0, hargs, rfl, rfl, h0, r0⟩ := trodAll_cons hA
  obtain ⟨v1, vs1, d1, ds1, p1, q1, rfl, rfl, rfl, h1, r1⟩ := trodAll_cons r0
  obtain ⟨v2, vs2, d2, ds2, p2, q2, rfl, rfl, rfl, h2, r2⟩ := trodAll_cons r1
  obtain ⟨v3, vs3, d3, ds3, p3, q3, rfl, rfl, rfl, h3, r3⟩ := trodAll_cons r2
  obtain ⟨v4, vs4, d4, ds4, p4, q4, rfl, rfl, rfl, h4, r4⟩ := trodAll_cons r3
  obtain ⟨rfl, rfl, rfl⟩ := trodAll_nil r4
  obtain rfl : args = #[v0, v1, v2, v3, v4] := by cases args; simp_all
  obtain ⟨c, rfl⟩ := open_cfg (hval' 0 _ v0 rfl rfl) h0
  obtain ⟨A, d, l, hwB, rfl, hd, hAn, hl⟩ := open_tabB (hval' 1 _ v1 rfl rfl) h1
  obtain ⟨o, ho, rfl⟩ := open_op (hval' 2 _ v2 rfl rfl) h2
  obtain ⟨z3, rfl, _, _, w3⟩ := open_int (k := .u32) Tryd.underlying27 (hval' 3 _ v3 rfl rfl) h3
  obtain ⟨who, rfl, hwho⟩ := u32_nat w3
  obtain ⟨z4, rfl, _, _, w4⟩ := open_int (k := .u32) Tryd.underlying27 (hval' 4 _ v4 rfl rfl) h4
  obtain ⟨what, rfl, hwhat⟩ := u32_nat w4
  exact walk c A d l o ho who what hwho hwhat hd hAn (fun x hx => (hwB x hx).1) W (of_laid hL) hl

theorem row : Rows.RulesOverSaid :=
  OpenClaim.holds_of_wide 8 Tryd.f8 rfl rfl rfl rfl rfl rfl rfl ⟨rfl, rfl, rfl, rfl, rfl⟩ rfl rfl rfl rfl rfl (by kernel_rfl) Tryd.func8 (by kernel_rfl)
    (of_decide_eq_true (by kernel_rfl)) (by unfold Func.isWrapper; first | (rw [if_pos (by decide +kernel)]; kernel_rfl) | (rw [if_neg (by decide +kernel)]; exact ⟨rfl, rfl⟩))
    (fun os started H enc _ => lifted os started H enc)

theorem card : Rows.RulesOverCardSaid :=
  Claim7.holds_tied_plain_at .later [] [.data] true Rows.rulesOverCard.stood.harness false
    row (fun _ h => by cases h) (by kernel_rfl) (fun _ h => by cases h) rulesOver_row_tie rfl ⟨rfl, rfl⟩ (by kernel_rfl) rfl
    (fun f fn hf hfn => by
      obtain rfl : f = 8 := Option.some.inj ((show Tryd.prog.funcNamed "bascule/basculelaw08.RulesOver" = some 8 by kernel_rfl).symm.trans hf) |>.symm
      obtain rfl : fn = Tryd.f8 := (Option.some.inj (Tryd.func8.symm.trans hfn)).symm
      exact ⟨by kernel_rfl, fun j t ht => by
        rw [Tryd.params8] at ht
        have hm : t ∈ [33, 25, 35, 27] := by simpa using Array.mem_of_getElem? ht
        have hall : ([33, 25, 35, 27].all fun u => !Tryd.prog.wantsStandIn u) = true := by kernel_rfl
        exact (show Tryd.prog.wantsStandIn t = false by simpa using List.all_eq_true.1 hall t hm)⟩)
    (by kernel_rfl)
#print axioms card

end Go.Proofs.YtfkkeokmkhjpfaaDoor.rulesOver
