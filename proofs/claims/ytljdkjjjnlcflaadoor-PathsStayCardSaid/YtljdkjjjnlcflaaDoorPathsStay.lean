/- For any config, rows and operation: what Do answers may be a tree's wherever the rows that came in may be, a refused operation and a reading leave the rows as they were, and rows that may not be a tree's get no rows at all. Condition: the table of objects holds at the call's start what the program's text lays there (the tied card). -/
import Derived.Test.YtljdkjjjnlcflaaDoorPaLive
import Derived.Test.YtljdkjjjnlcflaaDoorLaw
import Derived.Test.YtljdkjjjnlcflaaDoorOpenOp
import Derived.Test.YtljdkjjjnlcflaaDoorOpenCfg
import Derived.Test.YtljdkjjjnlcflaaDoorOpenRow
import Derived.Deep.DeepCutAuto
import Derived.Deep.RegionHeld3
namespace Go.Proofs.YtljdkjjjnlcflaaDoor.pathsStay
open Go.ChangeShapes Go.WideShapes Go.ChangeAt Go.RowKit Pt Opn Tb

theorem facts (c : Cf) (l : List R) (o : O) (ho : Wf o) : (doPE c l ≠ 0 → (doPR c l o).1 = [] ∧ ptB c l = false) ∧ (doPE c l = 0 → ptB c (doPR c l o).1 = true ∧ (((doPR c l o).2.1 ≠ 0 ∨ o.k = 14) → (doPR c l o).1 = l)) := by
  rcases doPE_cases c l with ⟨h, ht⟩ | ⟨h, ht⟩
  · exact ⟨fun h' => absurd h h', fun _ => ⟨ptB_true (doPR_tab o ho ht), doPR_left o ht⟩⟩
  · exact ⟨fun _ => ⟨by rw [doPR_none o ht], ptB_false ht⟩, fun h' => absurd h' h⟩

set_option maxRecDepth 100000 in
set_option maxHeartbeats 8000000 in
theorem walk (c : Cf) (A : Option Addr) (d : Nat) (l : List R) (o : O) (ho : Wf o) (_ : l.length ≤ d ∧ d ≤ 9223372036854775807) (hA : A = none → l.length = 0 ∧ d = 0) (hw64 : ∀ x ∈ l, x.1 < 18446744073709551616) (w : World) (hp : Obs w) (h : IsR w A l) :
    Calls Tryd.prog 6 #[cfv c, .slice A l.length d, opv o] w (Ret (.bool true) w) := by
  have HL := Lib.hid h
  have HP := Lib.hid hp
  by_cases hn : 100 < l.length
  · have hn2 : (100 : Int) < (l.length : Int) := by omega
    clear h hA hp
    generalize l.length = N at *
    unfold cfv opv
    go_enter Tryd.func6, Tryd.ntmps6
    go_wp2_with fail
    refine (palive_any _ (HP.out.below (below_two _ _ _))).mono ?_
    rintro e w1 ⟨rfl, hb1⟩
    go_wp2
    go_ret
    exact Ret.mk rfl (below_then (below_two _ _ _) hb1)
  · have hn2 : ¬ (100 : Int) < (l.length : Int) := by omega
    have HDo := Lib.hid (fun W hW hl => pdo_any c A l d o ho hA (by omega) hw64 W hW hl)
    have HIs := Lib.hid (fun W hl => paIs_any c A l d (by omega) hw64 W hl)
    have hsm : doPE c l = 0 → ∀ x ∈ (doPR c l o).1, x.1 < 18446744073709551616 := fun he x hx => by
      rcases doPE_cases c l with ⟨_, ht⟩ | ⟨h, _⟩
      · have := ((doPR_tab o ho ht).2.2.2.2 x hx).1.1; unfold IsPa at this; omega
      · exact absurd he h
    have HI2 := Lib.hid (fun B k (m : List R) hm hw W hl => paIs_any c B m k hm hw W hl)
    have HSR := Lib.hid (fun B k (m : List R) hm W hl hB => rSameRows_any B A m l k d hm W hl hB)
    have hlen := doPR_len c l o
    obtain ⟨F1, F2⟩ := facts c l o ho
    generalize doPE c l = er at *
    generalize doPR c l o = s at *
    obtain ⟨rows, x, y⟩ := s
    simp only at hlen F1 F2 hsm
    have hl100 : rows.length ≤ 104 := by omega
    have HO := Lib.hid ho
    clear h hp hA hn ho hlen hw64
    unfold Did4 at HDo
    unfold resv at HDo
    simp only at HDo
    unfold cfv opv at *
    by_cases he : er = 0
    · obtain ⟨f1, f2⟩ := F2 he
      have HF := Lib.hid f2
      have HM := Lib.hid (hsm he)
      subst he
      clear F1 F2 f2 HIs hsm
      go_enter Tryd.func6, Tryd.ntmps6
      go_wp2_with fail
      refine (palive_any _ (HP.out.below (below_two _ _ _))).mono ?_
      rintro e w1 ⟨rfl, hb1⟩
      obtain ⟨hc1, hf1⟩ := bcell hb1
      go_wp2_with fail
      have hb0 := below_then (below_two _ _ _) hb1
      refine (HDo.out w1 (HP.out.below hb0) (HL.out.below hb0)).mono ?_
      rintro e w2 ⟨u, rfl, hM2, hb2⟩
      obtain ⟨Aa, da, rfl, hda, hAa, hLa⟩ := MadeX.form rowL_len hM2
      have HLa := Lib.hid hLa
      replace hb1 := below_then hb1 hb2
      have hs2 := hb1.size
      have hv2 : w.heap.size + 1 < w2.heap.size := by simp at hs2; omega
      have hu2 : w.heap.size < w2.heap.size := by omega
      clear hc1 hf1 hM2 hLa hb0 hb2 hs2
      obtain ⟨hc1, hf1⟩ := bcell hb1
      go_wp2_with fail
      refine (HI2.out Aa da rows (by omega) HM.out _ (HLa.out.below (below_one _ _))).mono ?_
      rw [f1]
      rintro e w3 ⟨rfl, hb3⟩
      obtain ⟨hc3, hf3⟩ := bcell hb3
      have HB := Lib.hid (below_then (below_then (below_then (below_two _ _ _) hb1) (below_one _ _)) hb3)
      have HL3 := Lib.hid (HL.out.below HB.out)
      have HLa3 := Lib.hid (HLa.out.below (below_then (below_one _ _) hb3))
      by_cases hx : x = 0
      · by_cases hk : (o.k : Int) = 14
        · have HE := Lib.hid (HF.out (.inr (by omega)))
          subst hx
          have hk2 : ((o.k : Int) != 14) = false := by rw [hk]; rfl
          go_wp2_with (go_at_call 12; refine (HSR.out _ _ rows (by omega) _ HLa3.out HL3.out).mono ?_; rintro e w4 ⟨rfl, hb4⟩)
          go_ret
          exact Ret.mk (by simp [HE.out]) (below_then HB.out hb4)
        · subst hx
          have hk2 : ((o.k : Int) != 14) = true := bne_iff_ne.2 hk
          go_wp2
          go_ret
          exact Ret.mk rfl HB.out
      · have HE := Lib.hid (HF.out (.inl hx))
        have hx2 : (x == 0) = false := beq_eq_false_iff_ne.2 hx
        go_wp2_with (go_at_call 12; refine (HSR.out _ _ rows (by omega) _ HLa3.out HL3.out).mono ?_; rintro e w4 ⟨rfl, hb4⟩)
        go_ret
        exact Ret.mk (by simp [HE.out]) (below_then HB.out hb4)
    · obtain ⟨rfl, f1⟩ := F1 he
      clear F1 F2 HI2 HSR hsm
      go_enter Tryd.func6, Tryd.ntmps6
      go_wp2_with fail
      refine (palive_any _ (HP.out.below (below_two _ _ _))).mono ?_
      rintro e w1 ⟨rfl, hb1⟩
      obtain ⟨hc1, hf1⟩ := bcell hb1
      go_wp2_with fail
      have hb0 := below_then (below_two _ _ _) hb1
      refine (HDo.out w1 (HP.out.below hb0) (HL.out.below hb0)).mono ?_
      rintro e w2 ⟨u, rfl, hM2, hb2⟩
      obtain ⟨Aa, da, rfl, hda, hAa, hLa⟩ := MadeX.form rowL_len hM2
      simp only [List.length_nil]
      replace hb1 := below_then hb1 hb2
      have hs2 := hb1.size
      have hv2 : w.heap.size + 1 < w2.heap.size := by simp at hs2; omega
      have hu2 : w.heap.size < w2.heap.size := by omega
      clear hc1 hf1 hM2 hLa hb0 hb2 hs2
      obtain ⟨hc1, hf1⟩ := bcell hb1
      have HB := Lib.hid (below_then (below_two _ _ _) hb1)
      go_wp2_with fail
      refine (HIs.out _ ((HL.out.below HB.out).below (below_one _ _))).mono ?_
      rw [f1]
      rintro e w3 ⟨rfl, hb3⟩
      go_wp2
      go_ret
      exact Ret.mk rfl (below_then (below_then HB.out (below_one _ _)) hb3)

set_option maxRecDepth 100000 in
theorem lifted (os : Os) (started : os.Started) (H : Type) (enc : TypeId × Value → H) :
    ReturnsInHanded {} Tryd.checked os 6 .any (fun w args => (Rows.pathsStaySpec.pre enc Tryd.prog Tryd.f6 [] false w args ∧ laidMetH Tryd.prog laidL w) ∧ sizedMet enc Tryd.prog Tryd.f6 (OpenSpec.ofChange Rows.pathsStaySpec) false w args)
      (Rows.pathsStaySpec.post enc Tryd.prog Tryd.f6 false true false false) := by
  refine returnsInHanded_of_change_and (C := Tryd.checked) (X := fun w _ => laidMetH Tryd.prog laidL w) (fun _ _ _ hh h => h.of_heap hh) own started (by kernel_rfl) Tryd.func6
    (ChangeSpec.witness_shaped (enc := enc) (C := Tryd.checked) (os := os) (X := fun w _ => laidMetH Tryd.prog laidL w) false (World.doorLaid Tryd.prog 400 os) #[.agg #[.int .u8 0, .int .i64 0, .int .i64 0, .int .u8 0, .int .i64 0, .int .i64 0, .int .i64 0, .int .i64 0, .int .i64 0, .int .i64 0, .int .u64 0, .int .u64 0], .slice none 0 0, .agg #[.int .u8 0, .int .u32 0, .int .u32 0, .int .u32 0]] 8 rfl (World.shaped_of_RefB (by kernel_rfl) (by kernel_rfl)) (by kernel_rfl) (by kernel_rfl) (by kernel_rfl) (door_met os _)) ?_
  intro W base args ds gs before hval0 hW _ _ hL _
  refine law_of laidOut (by kernel_rfl) (by kernel_rfl) Tryd.underlying4 rfl ?_ hW fun p hA => ?_
  · intro ds hd
    match ds, hd with
    | [_, _, _], _ => rfl
  have hval' : ∀ (j : Nat) t v, Tryd.f6.params[j]? = some t → args[j]? = some v → Value.okWide Tryd.prog W .any base t v := hval0
  rw [Tryd.params6] at hA hval'
  obtain ⟨v0, vs0, d0, ds0, p0, q0, hargs, rfl, rfl, h0, r0⟩ := trodAll_cons hA
  obtain ⟨v1, vs1, d1, ds1, p1, q1, rfl, rfl, rfl, h1, r1⟩ := trodAll_cons r0
  obtain ⟨v2, vs2, d2, ds2, p2, q2, rfl, rfl, rfl, h2, r2⟩ := trodAll_cons r1
  obtain ⟨rfl, rfl, rfl⟩ := trodAll_nil r2
  obtain rfl : args = #[v0, v1, v2] := by cases args; simp_all
  obtain ⟨c, rfl⟩ := open_cfg (hval' 0 _ v0 rfl rfl) h0
  obtain ⟨A, d, l, hwB, rfl, hd, hAn, hl⟩ := open_tabB (hval' 1 _ v1 rfl rfl) h1
  obtain ⟨o, ho, rfl⟩ := open_op (hval' 2 _ v2 rfl rfl) h2
  exact walk c A d l o ho hd hAn (fun x hx => (hwB x hx).1) W (of_laid hL) hl

theorem row : Rows.PathsStaySaid :=
  OpenClaim.holds_of_wide 6 Tryd.f6 rfl rfl rfl rfl rfl rfl rfl ⟨rfl, rfl, rfl, rfl, rfl⟩ rfl rfl rfl rfl rfl (by kernel_rfl) Tryd.func6 (by kernel_rfl)
    (of_decide_eq_true (by kernel_rfl)) (by unfold Func.isWrapper; first | (rw [if_pos (by decide +kernel)]; kernel_rfl) | (rw [if_neg (by decide +kernel)]; exact ⟨rfl, rfl⟩))
    (fun os started H enc _ => lifted os started H enc)

theorem card : Rows.PathsStayCardSaid :=
  Claim7.holds_tied_plain_at .later [] [.data] true Rows.pathsStayCard.stood.harness false
    row (fun _ h => by cases h) (by kernel_rfl) (fun _ h => by cases h) pathsStay_row_tie rfl ⟨rfl, rfl⟩ (by kernel_rfl) rfl
    (fun f fn hf hfn => by
      obtain rfl : f = 6 := Option.some.inj ((show Tryd.prog.funcNamed "bascule/basculelaw09.PathsStay" = some 6 by kernel_rfl).symm.trans hf) |>.symm
      obtain rfl : fn = Tryd.f6 := (Option.some.inj (Tryd.func6.symm.trans hfn)).symm
      exact ⟨by kernel_rfl, fun j t ht => by
        rw [Tryd.params6] at ht
        have hm : t ∈ [33, 25, 35] := by simpa using Array.mem_of_getElem? ht
        have hall : ([33, 25, 35].all fun u => !Tryd.prog.wantsStandIn u) = true := by kernel_rfl
        exact (show Tryd.prog.wantsStandIn t = false by simpa using List.all_eq_true.1 hall t hm)⟩)
    (by kernel_rfl)
#print axioms card

end Go.Proofs.YtljdkjjjnlcflaaDoor.pathsStay
