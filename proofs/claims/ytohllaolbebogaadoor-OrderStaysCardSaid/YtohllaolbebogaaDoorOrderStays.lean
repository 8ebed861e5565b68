/- For any config, rows and operation: what Do answers may be an index's wherever the rows that came in may be, a refused operation and one that only reads leave the rows as they were, and rows that may not be an index's get no rows at all. Condition: the table of objects holds at the call's start what the program's text lays there (the tied card). -/
import Derived.Test.YtohllaolbebogaaDoorOrLive
import Derived.Test.YtohllaolbebogaaDoorOpenOp
import Derived.Test.YtohllaolbebogaaDoorOpenCfg
import Derived.Test.YtohllaolbebogaaDoorOpenRow
namespace Go.Proofs.YtohllaolbebogaaDoor.orderStays
open Go.ChangeShapes Go.WideShapes Go.ChangeAt Go.RowKit Pt Opn Tb

theorem facts (c : Cf) (l : List R) (o : O) : (doOE c l ≠ 0 → (doOR c l o).1 = [] ∧ orB c l = false) ∧ (doOE c l = 0 → orB c (doOR c l o).1 = true ∧ (((doOR c l o).2.1 ≠ 0 ∨ ¬ (o.k = 4 ∨ o.k = 5)) → (doOR c l o).1 = l)) := by
  rcases doOE_cases c l with ⟨h, ht⟩ | ⟨h, ht⟩
  · exact ⟨fun h' => absurd h h', fun _ => ⟨orB_true (doOR_tab o ht), doOR_left o ht⟩⟩
  · exact ⟨fun _ => ⟨by rw [doOR_none o ht], orB_false ht⟩, fun h' => absurd h' h⟩

set_option maxRecDepth 100000 in
set_option maxHeartbeats 4000000 in
theorem walk (c : Cf) (A : Option Addr) (d : Nat) (l : List R) (o : O) (ho : Wf o) (_ : l.length ≤ d ∧ d ≤ 9223372036854775807) (hA : A = none → l.length = 0 ∧ d = 0) (w : World) (hp : Obs w) (h : IsR w A l) :
    Calls Tryd.prog 6 #[cfv c, .slice A l.length d, opv o] w (Ret (.bool true) w) := by
  have HL := Lib.hid h
  have HP := Lib.hid hp
  by_cases hn : 100 < l.length
  · have hn2 : (100 : Int) < (l.length : Int) := by omega
    clear h hA hp
    generalize l.length = N at *
    unfold cfv opv
    go_enter Tryd.func6, Tryd.ntmps6
    go_wp2_with fail
    refine (ialive_any _ (HP.out.below (below_two _ _ _))).mono ?_
    rintro e w1 ⟨rfl, hb1⟩
    go_wp2
    go_ret
    exact Ret.mk rfl (below_then (below_two _ _ _) hb1)
  · have hn2 : ¬ (100 : Int) < (l.length : Int) := by omega
    have HDo := Lib.hid (fun W hW hl => odo_any c A l d o ho hA (by omega) W hW hl)
    have HIs := Lib.hid (fun W hl => orIs_any c A l d (by omega) W hl)
    have HI2 := Lib.hid (fun B k (m : List R) hm W hl => orIs_any c B m k hm W hl)
    have HSR := Lib.hid (fun B k (m : List R) hm W hl hB => rSameRows_any B A m l k d hm W hl hB)
    have hlen := doOR_len c l o
    obtain ⟨F1, F2⟩ := facts c l o
    generalize doOE c l = er at *
    generalize doOR c l o = s at *
    obtain ⟨rows, x, y, res⟩ := s
    simp only at hlen F1 F2
    have hl100 : rows.length ≤ 101 := by omega
    clear h hp hA hn ho hlen
    unfold cfv opv at *
    by_cases he : er = 0
    · obtain ⟨f1, f2⟩ := F2 he
      have HF := Lib.hid f2
      subst he
      clear F1 F2 f2 HIs
      go_enter Tryd.func6, Tryd.ntmps6
      go_wp2_with fail
      refine (ialive_any _ (HP.out.below (below_two _ _ _))).mono ?_
      rintro e w1 ⟨rfl, hb1⟩
      obtain ⟨hc1, hf1⟩ := bcell hb1
      go_wp2_with fail
      have hb0 := below_then (below_two _ _ _) hb1
      refine (HDo.out w1 (HP.out.below hb0) (HL.out.below hb0)).mono ?_
      rintro e w2 ⟨u, r, rfl, hM2, hN2, _, hb2⟩
      obtain ⟨Ar, dr, rfl, _⟩ := MadeX.form rowL_len hN2
      obtain ⟨nr, hnr⟩ : ∃ n, res.length = n := ⟨_, rfl⟩
      simp only at hM2 ⊢
      rw [hnr]
      clear hN2 hnr
      obtain ⟨Aa, da, rfl, hda, hAa, hLa⟩ := MadeX.form rowL_len hM2
      have HLa := Lib.hid hLa
      replace hb1 := below_then hb1 hb2
      have hs2 := hb1.size
      have hv2 : w.heap.size + 1 < w2.heap.size := by simp at hs2; omega
      have hu2 : w.heap.size < w2.heap.size := by omega
      clear hc1 hf1 hM2 hLa hb0 hb2 hs2
      obtain ⟨hc1, hf1⟩ := bcell hb1
      go_wp2_with fail
      refine (HI2.out Aa da rows (by omega) _ (HLa.out.below (below_one _ _))).mono ?_
      rw [f1]
      rintro e w3 ⟨rfl, hb3⟩
      obtain ⟨hc3, hf3⟩ := bcell hb3
      have HB := Lib.hid (below_then (below_then (below_then (below_two _ _ _) hb1) (below_one _ _)) hb3)
      have HL3 := Lib.hid (HL.out.below HB.out)
      have HLa3 := Lib.hid (HLa.out.below (below_then (below_one _ _) hb3))
      go_wp2_with (go_at_call 18; refine (HSR.out _ _ rows (by omega) _ HLa3.out HL3.out).mono ?_; rintro e w4 ⟨rfl, hb4⟩)
      all_goals first
        | (go_ret; exact Ret.mk (by simp [HF.out (by omega)]) (below_then HB.out hb4))
        | (go_ret; exact Ret.mk rfl HB.out)
    · obtain ⟨rfl, f1⟩ := F1 he
      clear F1 F2 HI2 HSR
      go_enter Tryd.func6, Tryd.ntmps6
      go_wp2_with fail
      refine (ialive_any _ (HP.out.below (below_two _ _ _))).mono ?_
      rintro e w1 ⟨rfl, hb1⟩
      obtain ⟨hc1, hf1⟩ := bcell hb1
      go_wp2_with fail
      have hb0 := below_then (below_two _ _ _) hb1
      refine (HDo.out w1 (HP.out.below hb0) (HL.out.below hb0)).mono ?_
      rintro e w2 ⟨u, r, rfl, hM2, hN2, _, hb2⟩
      obtain ⟨Ar, dr, rfl, _⟩ := MadeX.form rowL_len hN2
      obtain ⟨nr, hnr⟩ : ∃ n, res.length = n := ⟨_, rfl⟩
      simp only at hM2 ⊢
      rw [hnr]
      clear hN2 hnr
      obtain ⟨Aa, da, rfl, hda, hAa, hLa⟩ := MadeX.form rowL_len hM2
      simp only [List.length_nil]
      replace hb1 := below_then hb1 hb2
      have hs2 := hb1.size
      have hv2 : w.heap.size + 1 < w2.heap.size := by simp at hs2; omega
      have hu2 : w.heap.size < w2.heap.size := by omega
      clear hc1 hf1 hM2 hLa hb0 hb2 hs2
      obtain ⟨hc1, hf1⟩ := bcell hb1
      have HB := Lib.hid (below_then (below_two _ _ _) hb1)
      go_wp2_with fail
      refine (HIs.out _ ((HL.out.below HB.out).below (below_one _ _))).mono ?_
      rw [f1]
      rintro e w3 ⟨rfl, hb3⟩
      go_wp2
      go_ret
      exact Ret.mk rfl (below_then (below_then HB.out (below_one _ _)) hb3)

set_option maxRecDepth 100000 in
theorem lifted (os : Os) (started : os.Started) (H : Type) (enc : TypeId × Value → H) :
    ReturnsInHanded {} Tryd.checked os 6 .any (fun w args => (Rows.orderStaysSpec.pre enc Tryd.prog Tryd.f6 [] false w args ∧ laidMetH Tryd.prog laidL w) ∧ sizedMet enc Tryd.prog Tryd.f6 (OpenSpec.ofChange Rows.orderStaysSpec) false w args)
      (Rows.orderStaysSpec.post enc Tryd.prog Tryd.f6 false true false false) := by
  refine returnsInHanded_of_change_and (C := Tryd.checked) (X := fun w _ => laidMetH Tryd.prog laidL w) (fun _ _ _ hh h => h.of_heap hh) own started (by kernel_rfl) Tryd.func6
    (ChangeSpec.witness_shaped (enc := enc) (C := Tryd.checked) (os := os) (X := fun w _ => laidMetH Tryd.prog laidL w) false (World.doorLaid Tryd.prog 400 os) #[.agg #[.int .u8 0, .int .i64 0, .int .i64 0, .int .u8 0, .int .i64 0, .int .i64 0, .int .i64 0, .int .i64 0, .int .i64 0, .int .i64 0, .int .u64 0, .int .u64 0], .slice none 0 0, .agg #[.int .u8 0, .int .u32 0, .int .u32 0, .int .u32 0]] 8 rfl (World.shaped_of_RefB (by kernel_rfl) (by kernel_rfl)) (by kernel_rfl) (by kernel_rfl) (by kernel_rfl) (door_met os _)) ?_
  intro W base args ds gs before hval0 hW _ _ hL _
  refine law_of laidOut (by kernel_rfl) (by kernel_rfl) Tryd.underlying4 rfl ?_ hW fun p hA => ?_
  · intro ds hd
    match ds, hd with
    | [_, _, _], _ => rfl
  have hval' : ∀ (j : Nat) t v, Tryd.f6.params[j]? = some t → args[j]? = some v → Value.okWide Tryd.prog W .any base t v := hval0
  rw [Tryd.params6] at hA hval'
  obtain ⟨v0, vs0, d0, ds0, p0, q0, hargs, rfl, rfl, h0, r0⟩ := trodAll_cons hA
  obtain ⟨v1, vs1, d1, ds1, p1, q1, rfl, rfl, rfl, h1, r1⟩ := trodAll_cons r0
  obtain ⟨v2, vs2, d2, ds2, p2, q2, rfl, rfl, rfl, h2, r2⟩ := trodAll_cons r1
  obtain ⟨rfl, rfl, rfl⟩ := trodAll_nil r2
  obtain rfl : args = #[v0, v1, v2] := by cases args; simp_all
  obtain ⟨c, rfl⟩ := open_cfg (hval' 0 _ v0 rfl rfl) h0
  obtain ⟨A, d, l, rfl, hd, hAn, hl⟩ := open_tab (hval' 1 _ v1 rfl rfl) h1
  obtain ⟨o, ho, rfl⟩ := open_op (hval' 2 _ v2 rfl rfl) h2
  exact walk c A d l o ho hd hAn W (of_laid hL) hl

theorem row : Rows.OrderStaysSaid :=
  OpenClaim.holds_of_wide 6 Tryd.f6 rfl rfl rfl rfl rfl rfl rfl ⟨rfl, rfl, rfl, rfl, rfl⟩ rfl rfl rfl rfl rfl (by kernel_rfl) Tryd.func6 (by kernel_rfl)
    (of_decide_eq_true (by kernel_rfl)) (by unfold Func.isWrapper; first | (rw [if_pos (by decide +kernel)]; kernel_rfl) | (rw [if_neg (by decide +kernel)]; exact ⟨rfl, rfl⟩))
    (fun os started H enc _ => lifted os started H enc)

theorem card : Rows.OrderStaysCardSaid :=
  Claim7.holds_tied_plain_at .later [] [.data] true Rows.orderStaysCard.stood.harness false
    row (fun _ h => by cases h) (by kernel_rfl) (fun _ h => by cases h) orderStays_row_tie rfl ⟨rfl, rfl⟩ (by kernel_rfl) rfl
    (fun f fn hf hfn => by
      obtain rfl : f = 6 := Option.some.inj ((show Tryd.prog.funcNamed "bascule/basculelaw07.OrderStays" = some 6 by kernel_rfl).symm.trans hf) |>.symm
      obtain rfl : fn = Tryd.f6 := (Option.some.inj (Tryd.func6.symm.trans hfn)).symm
      exact ⟨by kernel_rfl, fun j t ht => by
        rw [Tryd.params6] at ht
        have hm : t ∈ [32, 22, 34] := by simpa using Array.mem_of_getElem? ht
        have hall : ([32, 22, 34].all fun u => !Tryd.prog.wantsStandIn u) = true := by kernel_rfl
        exact (show Tryd.prog.wantsStandIn t = false by simpa using List.all_eq_true.1 hall t hm)⟩)
    (by kernel_rfl)
#print axioms card

end Go.Proofs.YtohllaolbebogaaDoor.orderStays
