/- The numbers of acts, and more examples, of errors, of a set of access rules. -/
import Derived.Test.YtljhcegkekdjgaaDoorGtAlive
import Derived.Test.YtljhcegkekdjgaaDoorGTab
import Derived.Test.YtljhcegkekdjgaaDoorGOpen
namespace Go.Proofs.YtljhcegkekdjgaaDoor.gateNames
open Go.ChangeShapes Go.WideShapes Go.ChangeAt Go.RowKit Go.Lib Pt Opn

theorem call0 (w : World) (hO : Obs w) : Calls Tryd.prog 9 #[.agg #[.int .u8 0, .int .i64 0, .int .i64 0, .int .u8 0, .int .i64 0, .int .i64 0, .int .i64 0, .int .i64 0, .int .i64 0, .int .i64 0, .int .u64 0, .int .u64 0], .agg #[.int .u8 0, .int .u32 0, .int .u32 0, .int .u8 0, .int .u8 0, .int .u8 0, .int .u8 0, .int .u8 0, .int .u8 0, .int .u32 0, .int .u32 0]] w (Ret2 (.agg #[.int .u8 0, .int .i64 0, .int .u64 0, .int .u64 0, .int .u64 0, .int .i64 0, .int .u32 0]) (.int .i64 40) w) := by
  have h := pNextG_any ⟨0, 0, 0, 0, 0, 0, 0, 0, 0, 0, 0, 0⟩ ⟨0, 0, 0, 0, 0, 0, 0, 0, 0, 0, 0, 0, 0, 0⟩ (by decide) w hO
  rw [show nextG ⟨0, 0, 0, 0, 0, 0, 0, 0, 0, 0, 0, 0⟩ ⟨0, 0, 0, 0, 0, 0, 0, 0, 0, 0, 0, 0, 0, 0⟩ = (Ac.none, 40) by decide +kernel] at h
  exact h
theorem call1 (w : World) (hO : Obs w) : Calls Tryd.prog 9 #[.agg #[.int .u8 3, .int .i64 2, .int .i64 1, .int .u8 1, .int .i64 0, .int .i64 0, .int .i64 3, .int .i64 0, .int .i64 1, .int .i64 0, .int .u64 131072, .int .u64 0], .agg #[.int .u8 9, .int .u32 0, .int .u32 0, .int .u8 0, .int .u8 0, .int .u8 0, .int .u8 0, .int .u8 0, .int .u8 0, .int .u32 0, .int .u32 3]] w (Ret2 (.agg #[.int .u8 0, .int .i64 0, .int .u64 0, .int .u64 0, .int .u64 0, .int .i64 0, .int .u32 0]) (.int .i64 2) w) := by
  have h := pNextG_any cfG ⟨0, 0, 0, 9, 0, 0, 0, 0, 0, 0, 0, 0, 0, 3⟩ (by decide) w hO
  rw [show nextG cfG ⟨0, 0, 0, 9, 0, 0, 0, 0, 0, 0, 0, 0, 0, 3⟩ = (Ac.none, 2) by decide +kernel] at h
  exact h
theorem call2 (w : World) (hO : Obs w) : Calls Tryd.prog 9 #[.agg #[.int .u8 3, .int .i64 2, .int .i64 1, .int .u8 1, .int .i64 0, .int .i64 0, .int .i64 3, .int .i64 0, .int .i64 1, .int .i64 0, .int .u64 131072, .int .u64 0], .agg #[.int .u8 10, .int .u32 0, .int .u32 0, .int .u8 0, .int .u8 3, .int .u8 0, .int .u8 0, .int .u8 0, .int .u8 0, .int .u32 0, .int .u32 0]] w (Ret2 (.agg #[.int .u8 0, .int .i64 0, .int .u64 0, .int .u64 0, .int .u64 0, .int .i64 0, .int .u32 0]) (.int .i64 2) w) := by
  have h := pNextG_any cfG ⟨0, 0, 0, 10, 0, 0, 0, 3, 0, 0, 0, 0, 0, 0⟩ (by decide) w hO
  rw [show nextG cfG ⟨0, 0, 0, 10, 0, 0, 0, 3, 0, 0, 0, 0, 0, 0⟩ = (Ac.none, 2) by decide +kernel] at h
  exact h
theorem call3 (w : World) (hO : Obs w) : Calls Tryd.prog 11 #[.agg #[.int .u8 3, .int .i64 2, .int .i64 1, .int .u8 1, .int .i64 0, .int .i64 0, .int .i64 3, .int .i64 0, .int .i64 1, .int .i64 0, .int .u64 131072, .int .u64 0], .agg #[.int .u8 11, .int .u32 1, .int .u32 1, .int .u8 2, .int .u8 0, .int .u8 0, .int .u8 0, .int .u8 0, .int .u8 0, .int .u32 0, .int .u32 0], .agg #[.int .u64 0, .int .u64 0, .int .u64 0, .int .u64 0]] w (Ret2 (.agg #[.int .u8 0, .int .u32 0, .int .u32 0, .int .u8 0, .int .u8 0, .int .u8 0, .int .u8 0, .int .u8 0, .int .u8 0, .int .u32 0, .int .u32 0]) (.int .i64 2) w) := by
  have h := pAfterG_any cfG ⟨0, 0, 0, 11, 1, 1, 2, 0, 0, 0, 0, 0, 0, 0⟩ (by decide) 0 0 0 0 w hO
  rw [show afterG cfG ⟨0, 0, 0, 11, 1, 1, 2, 0, 0, 0, 0, 0, 0, 0⟩ 0 0 0 = (frZero, 2) by decide +kernel] at h
  exact h
theorem call4 (w : World) (hO : Obs w) : Calls Tryd.prog 11 #[.agg #[.int .u8 3, .int .i64 2, .int .i64 1, .int .u8 1, .int .i64 0, .int .i64 0, .int .i64 3, .int .i64 0, .int .i64 1, .int .i64 0, .int .u64 131072, .int .u64 0], .agg #[.int .u8 10, .int .u32 0, .int .u32 0, .int .u8 22, .int .u8 0, .int .u8 0, .int .u8 0, .int .u8 0, .int .u8 0, .int .u32 0, .int .u32 0], .agg #[.int .u64 0, .int .u64 0, .int .u64 0, .int .u64 0]] w (Ret2 (.agg #[.int .u8 0, .int .u32 0, .int .u32 0, .int .u8 0, .int .u8 0, .int .u8 0, .int .u8 0, .int .u8 0, .int .u8 0, .int .u32 0, .int .u32 0]) (.int .i64 2) w) := by
  have h := pAfterG_any cfG ⟨0, 0, 0, 10, 0, 0, 22, 0, 0, 0, 0, 0, 0, 0⟩ (by decide) 0 0 0 0 w hO
  rw [show afterG cfG ⟨0, 0, 0, 10, 0, 0, 22, 0, 0, 0, 0, 0, 0, 0⟩ 0 0 0 = (frZero, 2) by decide +kernel] at h
  exact h
theorem call5 (w : World) (hO : Obs w) : Calls Tryd.prog 11 #[.agg #[.int .u8 3, .int .i64 2, .int .i64 1, .int .u8 1, .int .i64 0, .int .i64 0, .int .i64 3, .int .i64 0, .int .i64 1, .int .i64 0, .int .u64 131072, .int .u64 0], .agg #[.int .u8 10, .int .u32 0, .int .u32 0, .int .u8 0, .int .u8 0, .int .u8 0, .int .u8 0, .int .u8 0, .int .u8 2, .int .u32 0, .int .u32 0], .agg #[.int .u64 0, .int .u64 0, .int .u64 0, .int .u64 0]] w (Ret2 (.agg #[.int .u8 0, .int .u32 0, .int .u32 0, .int .u8 0, .int .u8 0, .int .u8 0, .int .u8 0, .int .u8 0, .int .u8 0, .int .u32 0, .int .u32 0]) (.int .i64 2) w) := by
  have h := pAfterG_any cfG ⟨0, 0, 0, 10, 0, 0, 0, 0, 0, 0, 0, 2, 0, 0⟩ (by decide) 0 0 0 0 w hO
  rw [show afterG cfG ⟨0, 0, 0, 10, 0, 0, 0, 0, 0, 0, 0, 2, 0, 0⟩ 0 0 0 = (frZero, 2) by decide +kernel] at h
  exact h
theorem call6 (w : World) (hO : Obs w) : Calls Tryd.prog 9 #[.agg #[.int .u8 3, .int .i64 2, .int .i64 1, .int .u8 1, .int .i64 0, .int .i64 0, .int .i64 3, .int .i64 0, .int .i64 1, .int .i64 0, .int .u64 131072, .int .u64 0], .agg #[.int .u8 9, .int .u32 0, .int .u32 0, .int .u8 22, .int .u8 0, .int .u8 0, .int .u8 0, .int .u8 0, .int .u8 0, .int .u32 0, .int .u32 1]] w (Ret2 (.agg #[.int .u8 4, .int .i64 0, .int .u64 0, .int .u64 0, .int .u64 0, .int .i64 9, .int .u32 0]) (.int .i64 0) w) := by
  have h := pNextG_any cfG ⟨0, 0, 0, 9, 0, 0, 22, 0, 0, 0, 0, 0, 0, 1⟩ (by decide) w hO
  rw [show nextG cfG ⟨0, 0, 0, 9, 0, 0, 22, 0, 0, 0, 0, 0, 0, 1⟩ = (⟨4, 0, 0, 0, 0, 9, 0⟩, 0) by decide +kernel] at h
  exact h
theorem conf0 (w : World) : Calls Tryd.prog 10 #[] w (Ret (.agg #[.int .u8 3, .int .i64 2, .int .i64 1, .int .u8 1, .int .i64 0, .int .i64 0, .int .i64 3, .int .i64 0, .int .i64 1, .int .i64 0, .int .u64 131072, .int .u64 0]) w) := gconf_any w

set_option maxRecDepth 100000 in
set_option maxHeartbeats 8000000 in
theorem walk (w : World) (hO : Obs w) : Calls Tryd.prog 3 #[] w (Ret (.bool true) w) := by
  have HOb := Lib.hid hO
  clear hO
  have EQ : ∀ W : World, (binOp .eql 26 (.agg #[.int .u8 4, .int .i64 0, .int .u64 0, .int .u64 0, .int .u64 0, .int .i64 9, .int .u32 0]) (.agg #[.int .u8 4, .int .i64 0, .int .u64 0, .int .u64 0, .int .u64 0, .int .i64 9, .int .u32 0])).run Tryd.prog W = .ok (.bool true) W := fun W => by kernel_rfl
  go_enter Tryd.func3, Tryd.ntmps3
  go_wp2_with fail
  refine (call0 _ HOb.out).mono ?_
  rintro e w1 ⟨rfl, hB1⟩
  go_wp2_with fail
  refine (conf0 _).mono ?_
  rintro e w2 ⟨rfl, hb2⟩
  have hB2 := below_then (below_then hB1 (below_one _ _)) hb2
  clear hB1 hb2
  go_wp2_with fail
  refine (call1 _ (HOb.out.below hB2)).mono ?_
  rintro e w3 ⟨rfl, hb3⟩
  have hB3 := below_then hB2 hb3
  clear hB2 hb3
  go_wp2_with fail
  refine (conf0 _).mono ?_
  rintro e w4 ⟨rfl, hb4⟩
  have hB4 := below_then (below_then hB3 (below_one _ _)) hb4
  clear hB3 hb4
  go_wp2_with fail
  refine (call2 _ (HOb.out.below hB4)).mono ?_
  rintro e w5 ⟨rfl, hb5⟩
  have hB5 := below_then hB4 hb5
  clear hB4 hb5
  go_wp2_with fail
  refine (conf0 _).mono ?_
  rintro e w6 ⟨rfl, hb6⟩
  have hB6 := below_then (below_then hB5 (below_one _ _)) hb6
  clear hB5 hb6
  go_wp2_with fail
  refine (call3 _ (HOb.out.below hB6)).mono ?_
  rintro e w7 ⟨rfl, hb7⟩
  have hB7 := below_then hB6 hb7
  clear hB6 hb7
  go_wp2_with fail
  refine (conf0 _).mono ?_
  rintro e w8 ⟨rfl, hb8⟩
  have hB8 := below_then (below_then hB7 (below_one _ _)) hb8
  clear hB7 hb8
  go_wp2_with fail
  refine (call4 _ (HOb.out.below hB8)).mono ?_
  rintro e w9 ⟨rfl, hb9⟩
  have hB9 := below_then hB8 hb9
  clear hB8 hb9
  go_wp2_with fail
  refine (conf0 _).mono ?_
  rintro e w10 ⟨rfl, hb10⟩
  have hB10 := below_then (below_then hB9 (below_one _ _)) hb10
  clear hB9 hb10
  go_wp2_with fail
  refine (call5 _ (HOb.out.below hB10)).mono ?_
  rintro e w11 ⟨rfl, hb11⟩
  have hB11 := below_then hB10 hb11
  clear hB10 hb11
  go_wp2_with fail
  refine (conf0 _).mono ?_
  rintro e w12 ⟨rfl, hb12⟩
  have hB12 := below_then (below_then hB11 (below_one _ _)) hb12
  clear hB11 hb12
  go_wp2_with fail
  refine (call6 _ (HOb.out.below hB12)).mono ?_
  rintro e w13 ⟨rfl, hb13⟩
  have hB13 := below_then hB12 hb13
  clear hB12 hb13
  go_wp2_with fail
  refine (galive_any _ ((HOb.out.below hB13).alloc' _)).mono ?_
  rintro e w14 ⟨rfl, hb14⟩
  have hB14 := below_then (below_then hB13 (below_one _ _)) hb14
  obtain ⟨r0, -, r1, -, r2, -, r3, -, r4, -, r5, -, r6, -⟩ := cells7 ((hb14.block w13.heap.size (by simp)).trans (heap_alloc_new w13 _))
  clear hB13 hb14
  go_wp2_with fail
  go_ret
  exact Ret.mk rfl hB14

set_option maxRecDepth 100000 in
theorem lifted (os : Os) (started : os.Started) (H : Type) (enc : TypeId × Value → H) :
    ReturnsInHanded {} Tryd.checked os 3 .any (fun w args => (Rows.gateNamesSpec.pre enc Tryd.prog Tryd.f3 [] false w args ∧ laidMetH Tryd.prog laidL w) ∧ sizedMet enc Tryd.prog Tryd.f3 (OpenSpec.ofChange Rows.gateNamesSpec) false w args)
      (Rows.gateNamesSpec.post enc Tryd.prog Tryd.f3 false true false false) := by
  refine returnsInHanded_of_change_and (C := Tryd.checked) (X := fun w _ => laidMetH Tryd.prog laidL w) (fun _ _ _ hh h => h.of_heap hh) own started (by kernel_rfl) Tryd.func3
    (ChangeSpec.witness_shaped (enc := enc) (C := Tryd.checked) (os := os) (X := fun w _ => laidMetH Tryd.prog laidL w) false (World.doorLaid Tryd.prog 400 os) #[] 8 rfl (World.shaped_of_RefB (by kernel_rfl) (by kernel_rfl)) (by kernel_rfl) (by kernel_rfl) (by kernel_rfl) (door_met os _)) ?_
  intro W base args ds gs before hval0 hW _ _ hL _
  refine law_of laidOut (by kernel_rfl) (by kernel_rfl) Tryd.underlying4 rfl ?_ hW fun p hA => ?_
  · intro ds hd
    match ds, hd with
    | [], _ => rfl
  rw [Tryd.params3] at hA
  obtain ⟨hargs, rfl, rfl⟩ := trodAll_nil hA
  obtain rfl : args = #[] := by cases args; simp_all
  exact walk W (of_laid hL)

theorem row : Rows.GateNamesSaid :=
  OpenClaim.holds_of_wide 3 Tryd.f3 rfl rfl rfl rfl rfl rfl rfl ⟨rfl, rfl, rfl, rfl, rfl⟩ rfl rfl rfl rfl rfl (by kernel_rfl) Tryd.func3 (by kernel_rfl)
    (of_decide_eq_true (by kernel_rfl)) (by unfold Func.isWrapper; first | (rw [if_pos (by decide +kernel)]; kernel_rfl) | (rw [if_neg (by decide +kernel)]; exact ⟨rfl, rfl⟩))
    (fun os started H enc _ => lifted os started H enc)

theorem card : Rows.GateNamesCardSaid :=
  Claim7.holds_tied_plain_at .later [] [.data] true Rows.gateNamesCard.stood.harness false
    row (fun _ h => by cases h) (by kernel_rfl) (fun _ h => by cases h) gateNames_row_tie rfl ⟨rfl, rfl⟩ (by kernel_rfl) rfl
    (fun f fn hf hfn => by
      obtain rfl : f = 3 := Option.some.inj ((show Tryd.prog.funcNamed "bascule/basculelaw14.GateNames" = some 3 by kernel_rfl).symm.trans hf) |>.symm
      obtain rfl : fn = Tryd.f3 := (Option.some.inj (Tryd.func3.symm.trans hfn)).symm
      exact ⟨by kernel_rfl, fun j t ht => by
        rw [Tryd.params3] at ht
        simp at ht⟩)
    (by kernel_rfl)
#print axioms card

end Go.Proofs.YtljhcegkekdjgaaDoor.gateNames
