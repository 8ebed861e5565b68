/- For any config, rows and operation: what Do answers may be rules wherever the rows that came in may be, a refused operation and a check leave the rows as they were, no other rule is turned, and rows that may not be rules get no rows at all. Condition: the table of objects holds at the call's start what the program's text lays there (the tied card). -/
import Derived.Test.YtfkkeokmkhjpfaaDoorRuLive
import Derived.Test.YtfkkeokmkhjpfaaDoorLaw
import Derived.Test.YtfkkeokmkhjpfaaDoorOpenOp
import Derived.Test.YtfkkeokmkhjpfaaDoorOpenCfg
import Derived.Test.YtfkkeokmkhjpfaaDoorOpenRow
import Derived.Deep.DeepCutAuto
import Derived.Deep.RegionHeld3
namespace Go.Proofs.YtfkkeokmkhjpfaaDoor.rulesStay
open Go.ChangeShapes Go.WideShapes Go.ChangeAt Go.RowKit Pt Opn Tb

theorem fnd_some (l : List R) (k : Nat) : decide (fnd l k ≥ 0) = (Tb.get l k).isSome := by
  rcases fnd_get l k with ⟨h1, h2⟩ | ⟨i, _, h1, _, h2⟩ <;> rw [h1, h2] <;> simp
theorem key_or (a b : Nat) (ha : a ≤ 65535) (hb : b ≤ 65535) : bits .or .u64 (IntKind.u64.wrap (IntKind.u64.wrap (a : Int) * 65536)) (IntKind.u64.wrap (b : Int)) = ((a * 65536 + b : Nat) : Int) := by
  rw [show IntKind.u64.wrap (a : Int) = (a : Int) by rw [IntKind.wrap_u64]; omega, show IntKind.u64.wrap (b : Int) = (b : Int) by rw [IntKind.wrap_u64]; omega, show IntKind.u64.wrap ((a : Int) * 65536) = (a : Int) * 65536 by rw [IntKind.wrap_u64]; omega]
  rw [show (a : Int) * 65536 = ((a * 65536 : Nat) : Int) by omega, u64_or_nat _ _ (by omega) (by omega)]
  congr 1
  have := Nat.two_pow_add_eq_or_of_lt (i := 16) (b := b) (by omega) a
  rw [show 2 ^ 16 * a = a * 65536 by omega] at this
  exact this.symm
theorem facts (c : Cf) (l : List R) (o : O) : (doUE c l ≠ 0 → (doUR c l o).1 = [] ∧ ruB c l = false) ∧ (doUE c l = 0 → ruB c (doUR c l o).1 = true ∧ (((doUR c l o).2.1 ≠ 0 ∨ o.k = 11) → (doUR c l o).1 = l) ∧ ((doUR c l o).2.1 = 0 → o.k ≠ 11 → cut (doUR c l o).1 (o.a * 65536 + o.b) = cut l (o.a * 65536 + o.b) ∧ ((Tb.get (doUR c l o).1 (o.a * 65536 + o.b)).isSome = true ↔ o.k = 9) ∧ o.a ≤ 65535 ∧ o.b ≤ 65535)) := by
  rcases doUE_cases c l with ⟨h, ht⟩ | ⟨h, ht⟩
  · exact ⟨fun h' => absurd h h', fun _ => ⟨ruB_true (doUR_tab o ht), doUR_left o ht, fun hx hk => doUR_own o ht hx hk⟩⟩
  · exact ⟨fun _ => ⟨by rw [doUR_none o ht], ruB_false ht⟩, fun h' => absurd h' h⟩

set_option maxRecDepth 100000 in
set_option maxHeartbeats 8000000 in
theorem walk (c : Cf) (A : Option Addr) (d : Nat) (l : List R) (o : O) (ho : Wf o) (_ : l.length ≤ d ∧ d ≤ 9223372036854775807) (hA : A = none → l.length = 0 ∧ d = 0) (hw64 : ∀ x ∈ l, x.1 < 18446744073709551616) (w : World) (hp : Obs w) (h : IsR w A l) :
    Calls Tryd.prog 6 #[cfv c, .slice A l.length d, opv o] w (Ret (.bool true) w) := by
  have HL := Lib.hid h
  have HP := Lib.hid hp
  by_cases hn : 100 < l.length
  · have hn2 : (100 : Int) < (l.length : Int) := by omega
    clear h hA hp
    generalize l.length = N at *
    unfold cfv opv
    go_enter Tryd.func6, Tryd.ntmps6
    go_wp2_with fail
    refine (ualive_any _ (HP.out.below (below_two _ _ _))).mono ?_
    rintro e w1 ⟨rfl, hb1⟩
    go_wp2
    go_ret
    exact Ret.mk rfl (below_then (below_two _ _ _) hb1)
  · have hn2 : ¬ (100 : Int) < (l.length : Int) := by omega
    have HDo := Lib.hid (fun W hW hl => udo_any c A l d o ho hA (by omega) hw64 W hW hl)
    have HIs := Lib.hid (fun W hl => uIs_any c A l d (by omega) hw64 W hl)
    have hsm : doUE c l = 0 → ∀ x ∈ (doUR c l o).1, x.1 < 18446744073709551616 := fun he x hx => by
      rcases doUE_cases c l with ⟨_, ht⟩ | ⟨h, _⟩
      · have := ((doUR_tab o ht).2.2.2.2 x hx).1; omega
      · exact absurd he h
    have HI2 := Lib.hid (fun B k (m : List R) hm hw W hl => uIs_any c B m k hm hw W hl)
    have HSR := Lib.hid (fun B k (m : List R) hm W hl hB => rSameRows_any B A m l k d hm W hl hB)
    have HSM := Lib.hid (fun A B (m : List R) c' d' hm W hA hB => rSameRows_any A B m m c' d' hm W hA hB)
    simp only [decide_true] at HSM
    have HFi := Lib.hid (fun B k (m : List R) hm K W hl => rFind_any B m k hm K W hl)
    have HWo := Lib.hid (fun B k (m : List R) hm K W hl => rWithout_any B m k hm K W hl)
    have hlen := doUR_len c l o
    obtain ⟨F1, F2⟩ := facts c l o
    generalize doUE c l = er at *
    generalize doUR c l o = s at *
    obtain ⟨rows, x, y⟩ := s
    simp only at hlen F1 F2 hsm
    have hl100 : rows.length ≤ 101 := by omega
    have HO := Lib.hid ho
    clear h hp hA hn ho hlen hw64
    unfold Did4 at HDo
    unfold resv at HDo
    simp only at HDo
    unfold cfv opv at *
    by_cases he : er = 0
    · obtain ⟨f1, f2, f3⟩ := F2 he
      have HF := Lib.hid f2
      have HG := Lib.hid f3
      have HM := Lib.hid (hsm he)
      subst he
      clear F1 F2 f2 f3 HIs hsm
      go_enter Tryd.func6, Tryd.ntmps6
      go_wp2_with fail
      refine (ualive_any _ (HP.out.below (below_two _ _ _))).mono ?_
      rintro e w1 ⟨rfl, hb1⟩
      obtain ⟨hc1, hf1⟩ := bcell hb1
      go_wp2_with fail
      have hb0 := below_then (below_two _ _ _) hb1
      refine (HDo.out w1 (HP.out.below hb0) (HL.out.below hb0)).mono ?_
      rintro e w2 ⟨u, rfl, hM2, hb2⟩
      obtain ⟨Aa, da, rfl, hda, hAa, hLa⟩ := MadeX.form rowL_len hM2
      have HLa := Lib.hid hLa
      replace hb1 := below_then hb1 hb2
      have hs2 := hb1.size
      have hv2 : w.heap.size + 1 < w2.heap.size := by simp at hs2; omega
      have hu2 : w.heap.size < w2.heap.size := by omega
      clear hc1 hf1 hM2 hLa hb0 hb2 hs2
      obtain ⟨hc1, hf1⟩ := bcell hb1
      go_wp2_with fail
      refine (HI2.out Aa da rows (by omega) HM.out _ (HLa.out.below (below_one _ _))).mono ?_
      rw [f1]
      rintro e w3 ⟨rfl, hb3⟩
      obtain ⟨hc3, hf3⟩ := bcell hb3
      have HB := Lib.hid (below_then (below_then (below_then (below_two _ _ _) hb1) (below_one _ _)) hb3)
      have HL3 := Lib.hid (HL.out.below HB.out)
      have HLa3 := Lib.hid (HLa.out.below (below_then (below_one _ _) hb3))
      by_cases hx : x ≠ 0 ∨ o.k = 11
      · have HE := Lib.hid (HF.out hx)
        clear HFi HWo HSM HG
        go_wp2_with (go_at_call 12; refine (HSR.out _ _ rows (by omega) _ HLa3.out HL3.out).mono ?_; rintro e w4 ⟨rfl, hb4⟩)
        all_goals first
          | (go_ret; exact Ret.mk (by simp [HE.out]) (below_then HB.out hb4))
          | (exfalso; omega)
      · have hx0 : x = 0 := by omega
        have hk11 : ¬ (o.k : Int) = 11 := by omega
        obtain ⟨g1, g2, g3, g4⟩ := HG.out hx0 (by omega)
        subst hx0
        clear HF HSR HG
        have HKO := Lib.hid (key_or o.a o.b g3 g4)
        have HGF := Lib.hid (show decide (fnd rows (o.a * 65536 + o.b) ≥ 0) = (decide ((o.k : Int) = 9)) by
          rw [fnd_some, Bool.eq_iff_iff, g2, decide_eq_true_iff]; omega)
        obtain ⟨K, hK⟩ : ∃ K, o.a * 65536 + o.b = K := ⟨_, rfl⟩
        rw [hK] at HKO HGF g1
        obtain ⟨N2, hN2⟩ : ∃ n, rows.length = n := ⟨_, rfl⟩
        have hFa := fun B k W hl => HFi.out B k rows (by omega) K W hl
        have hWa := fun B k W hl => HWo.out B k rows (by omega) K W hl
        have HWl := Lib.hid (fun W hl => HWo.out A d l (by omega) K W hl)
        rw [g1] at hWa
        simp only [hN2] at hFa hWa
        have HFa := Lib.hid hFa
        have HWa := Lib.hid hWa
        have hm : (cut l K).length ≤ 101 := by have := cut_length l K; omega
        rw [hN2] at *
        have HN2 := Lib.hid hN2
        generalize cut l K = m at *
        generalize fnd rows K = fz at *
        obtain ⟨kz, hkz⟩ : ∃ z, decide ((o.k : Int) = 9) = z := ⟨_, rfl⟩
        have HKZ := Lib.hid hkz
        rw [hkz] at HGF
        clear HFi HWo hFa hWa g1 g2 g3 g4 hK hkz HI2 HM hN2
        go_wp2_with fail
        simp only [HKO.out]
        have mixed : Tryd.prog.follows Departure.mixedOrders = true := by kernel_rfl
        obtain ⟨q, hq⟩ : ∃ q, w.heap.size = q := ⟨_, rfl⟩
        have o0 : w3.cell? ⟨w.heap.size + 1, 0, none⟩ = some (.int .u8 (o.k : Nat)) := (hc3 _ _ (by simp; omega)).trans (((below_one w2 _).cell (by show w.heap.size + 1 < _; omega)).trans ((hc1 _ _ (by simp)).trans (by simp [go_sem])))
        have hv3 : w.heap.size + 1 < w3.heap.size := World.block_lt_of_cell? _ _ o0
        clear hc1 hf1 hc3 hf3 hb1 hb3 hv2 hu2 HLa
        rw [hq] at o0 hv3 ⊢
        have HQ := Lib.hid hq
        clear hq
        go_cut [6] (fun s6 wx => s6 = .bool true ∧ Hid (Below w3.heap.size w3 wx))
        case first =>
          go_region_held3 (fun X => w3.heap.size ≤ X.heap.size ∧ ∀ b o, b < w3.heap.size → X.cell? ⟨b, o, none⟩ = w3.cell? ⟨b, o, none⟩)
            (first
              | with_reducible exact keep0 w3
              | with_reducible exact keep_below hb8 (keep_below hb7 (keep_below hb6 (keep_below hb5 (keep0 w3))))
              | with_reducible exact keep_below hb7 (keep_below hb6 (keep_below hb5 (keep0 w3)))
              | with_reducible exact keep_below hb6 (keep_below hb5 (keep0 w3))
              | with_reducible exact keep_below hb5 (keep0 w3)
              | fail)
            (first
              | ((with_reducible refine (HWa.out _ da _ (HLa3.out.keep ?_)).mono ?_); (with_reducible exact keep0 w3); rintro e w5 ⟨ua, rfl, hMa, hb5⟩; obtain ⟨A5, d5, rfl, hd5, hA5, hL5⟩ := MadeX.form rowL_len hMa; have H5 := Lib.hid hL5; clear hMa hL5)
              | ((with_reducible refine (HWl.out _ (HL3.out.keep ?_)).mono ?_); (with_reducible exact keep_below hb5 (keep0 w3)); rintro e w6 ⟨ul, rfl, hMl, hb6⟩; obtain ⟨A6, d6, rfl, hd6, hA6, hL6⟩ := MadeX.form rowL_len hMl; have H6 := Lib.hid hL6; clear hMl hL6)
              | ((with_reducible refine (HSM.out _ _ m _ _ (by omega) _ (H5.out.below hb6) H6.out).mono ?_); rintro e w7 ⟨rfl, hb7⟩)
              | ((with_reducible refine (HFa.out _ da _ (HLa3.out.keep ?_)).mono ?_); (with_reducible exact keep_below hb7 (keep_below hb6 (keep_below hb5 (keep0 w3)))); rintro e w8 ⟨rfl, hb8⟩))
          all_goals
            go_wp2_with fail
            go_meet
            refine ⟨congrArg Value.bool ?_, Lib.hid (below_then (below_then (below_then (below_then (below_drew w3) hb5) hb6) hb7) hb8)⟩
            rw [HGF.out, ← HKZ.out]
            by_cases hh : (o.k : Int) = 9 <;> simp [hh]
        case rest =>
          obtain ⟨rfl, HBX⟩ := hcut
          go_wp2
          go_ret
          exact Ret.mk rfl (below_then HB.out HBX.out)
    · obtain ⟨rfl, f1⟩ := F1 he
      clear F1 F2 HI2 HSR HSM HFi HWo hsm
      go_enter Tryd.func6, Tryd.ntmps6
      go_wp2_with fail
      refine (ualive_any _ (HP.out.below (below_two _ _ _))).mono ?_
      rintro e w1 ⟨rfl, hb1⟩
      obtain ⟨hc1, hf1⟩ := bcell hb1
      go_wp2_with fail
      have hb0 := below_then (below_two _ _ _) hb1
      refine (HDo.out w1 (HP.out.below hb0) (HL.out.below hb0)).mono ?_
      rintro e w2 ⟨u, rfl, hM2, hb2⟩
      obtain ⟨Aa, da, rfl, hda, hAa, hLa⟩ := MadeX.form rowL_len hM2
      simp only [List.length_nil]
      replace hb1 := below_then hb1 hb2
      have hs2 := hb1.size
      have hv2 : w.heap.size + 1 < w2.heap.size := by simp at hs2; omega
      have hu2 : w.heap.size < w2.heap.size := by omega
      clear hc1 hf1 hM2 hLa hb0 hb2 hs2
      obtain ⟨hc1, hf1⟩ := bcell hb1
      have HB := Lib.hid (below_then (below_two _ _ _) hb1)
      go_wp2_with fail
      refine (HIs.out _ ((HL.out.below HB.out).below (below_one _ _))).mono ?_
      rw [f1]
      rintro e w3 ⟨rfl, hb3⟩
      go_wp2
      go_ret
      exact Ret.mk rfl (below_then (below_then HB.out (below_one _ _)) hb3)

set_option maxRecDepth 100000 in
theorem lifted (os : Os) (started : os.Started) (H : Type) (enc : TypeId × Value → H) :
    ReturnsInHanded {} Tryd.checked os 6 .any (fun w args => (Rows.rulesStaySpec.pre enc Tryd.prog Tryd.f6 [] false w args ∧ laidMetH Tryd.prog laidL w) ∧ sizedMet enc Tryd.prog Tryd.f6 (OpenSpec.ofChange Rows.rulesStaySpec) false w args)
      (Rows.rulesStaySpec.post enc Tryd.prog Tryd.f6 false true false false) := by
  refine returnsInHanded_of_change_and (C := Tryd.checked) (X := fun w _ => laidMetH Tryd.prog laidL w) (fun _ _ _ hh h => h.of_heap hh) own started (by kernel_rfl) Tryd.func6
    (ChangeSpec.witness_shaped (enc := enc) (C := Tryd.checked) (os := os) (X := fun w _ => laidMetH Tryd.prog laidL w) false (World.doorLaid Tryd.prog 400 os) #[.agg #[.int .u8 0, .int .i64 0, .int .i64 0, .int .u8 0, .int .i64 0, .int .i64 0, .int .i64 0, .int .i64 0, .int .i64 0, .int .i64 0, .int .u64 0, .int .u64 0], .slice none 0 0, .agg #[.int .u8 0, .int .u32 0, .int .u32 0, .int .u32 0]] 8 rfl (World.shaped_of_RefB (by kernel_rfl) (by kernel_rfl)) (by kernel_rfl) (by kernel_rfl) (by kernel_rfl) (door_met os _)) ?_
  intro W base args ds gs before hval0 hW _ _ hL _
  refine law_of laidOut (by kernel_rfl) (by kernel_rfl) Tryd.underlying4 rfl ?_ hW fun p hA => ?_
  · intro ds hd
    match ds, hd with
    | [_, _, _], _ => rfl
  have hval' : ∀ (j : Nat) t v, Tryd.f6.params[j]? = some t → args[j]? = some v → Value.okWide Tryd.prog W .any base t v := hval0
  rw [Tryd.params6] at hA hval'
  obtain ⟨v0, vs0, d0, ds0, p0, q0, hargs, rfl, rfl, h0, r0⟩ := trodAll_cons hA
  obtain ⟨v1, vs1, d1, ds1, p1, q1, rfl, rfl, rfl, h1, r1⟩ := trodAll_cons r0
  obtain ⟨v2, vs2, d2, ds2, p2, q2, rfl, rfl, rfl, h2, r2⟩ := trodAll_cons r1
  obtain ⟨rfl, rfl, rfl⟩ := trodAll_nil r2
  obtain rfl : args = #[v0, v1, v2] := by cases args; simp_all
  obtain ⟨c, rfl⟩ := open_cfg (hval' 0 _ v0 rfl rfl) h0
  obtain ⟨A, d, l, hwB, rfl, hd, hAn, hl⟩ := open_tabB (hval' 1 _ v1 rfl rfl) h1
  obtain ⟨o, ho, rfl⟩ := open_op (hval' 2 _ v2 rfl rfl) h2
  exact walk c A d l o ho hd hAn (fun x hx => (hwB x hx).1) W (of_laid hL) hl

theorem row : Rows.RulesStaySaid :=
  OpenClaim.holds_of_wide 6 Tryd.f6 rfl rfl rfl rfl rfl rfl rfl ⟨rfl, rfl, rfl, rfl, rfl⟩ rfl rfl rfl rfl rfl (by kernel_rfl) Tryd.func6 (by kernel_rfl)
    (of_decide_eq_true (by kernel_rfl)) (by unfold Func.isWrapper; first | (rw [if_pos (by decide +kernel)]; kernel_rfl) | (rw [if_neg (by decide +kernel)]; exact ⟨rfl, rfl⟩))
    (fun os started H enc _ => lifted os started H enc)

theorem card : Rows.RulesStayCardSaid :=
  Claim7.holds_tied_plain_at .later [] [.data] true Rows.rulesStayCard.stood.harness false
    row (fun _ h => by cases h) (by kernel_rfl) (fun _ h => by cases h) rulesStay_row_tie rfl ⟨rfl, rfl⟩ (by kernel_rfl) rfl
    (fun f fn hf hfn => by
      obtain rfl : f = 6 := Option.some.inj ((show Tryd.prog.funcNamed "bascule/basculelaw08.RulesStay" = some 6 by kernel_rfl).symm.trans hf) |>.symm
      obtain rfl : fn = Tryd.f6 := (Option.some.inj (Tryd.func6.symm.trans hfn)).symm
      exact ⟨by kernel_rfl, fun j t ht => by
        rw [Tryd.params6] at ht
        have hm : t ∈ [33, 25, 35] := by simpa using Array.mem_of_getElem? ht
        have hall : ([33, 25, 35].all fun u => !Tryd.prog.wantsStandIn u) = true := by kernel_rfl
        exact (show Tryd.prog.wantsStandIn t = false by simpa using List.all_eq_true.1 hall t hm)⟩)
    (by kernel_rfl)
#print axioms card

end Go.Proofs.YtfkkeokmkhjpfaaDoor.rulesStay
