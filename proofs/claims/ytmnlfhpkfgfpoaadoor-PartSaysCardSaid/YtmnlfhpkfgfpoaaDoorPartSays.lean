/- For every config: whether it may be, its object's size, how many cells its memory has, and a fresh one, are the document's. Condition: the table of powers holds at the call's start what the program's text lays there (the tied card). -/
import Derived.Test.YtmnlfhpkfgfpoaaDoorPtOpen
import Derived.Test.YtmnlfhpkfgfpoaaDoorPtRefFr
namespace Go.Proofs.YtmnlfhpkfgfpoaaDoor.partSays
open Go.ChangeShapes Go.WideShapes Go.ChangeAt Go.RowKit Pt Ce

set_option maxHeartbeats 4000000 in
theorem walk (c : Cf) (w : World) (hp : Pow w) : Calls Tryd.prog 4 #[cfv c] w (Ret (.bool true) w) := by
  have HP := Lib.hid hp
  have k1 := check_any c
  have k2 := fun W hW => size_any c W hW
  have k3 := rSize_any c
  have k4 := fun W hW => cells_any c W hW
  have k5 := rCells_any c
  have k6 := fun W hW => fresh_any c W hW
  have k7 := rFresh_any c
  have k8 := rCheck_any c
  have hN : freshN c ≤ 9223372036854775807 := by
    unfold freshN
    split
    · rename_i h; have := (all_bounds (ok_of h)).2; omega
    · omega
  clear hp
  generalize Pt.err (okB c) = e at *
  generalize szA c = s at *
  generalize allA c = n at *
  generalize freshN c = N at *
  generalize hF : freshF c = F at *
  clear hF
  unfold cfv at *
  go_enter Tryd.func4, Tryd.ntmps4
  go_wp2_with fail
  refine (k1 _).mono ?_
  rintro e' w1 ⟨rfl, hb1⟩
  obtain ⟨hc1, hf1⟩ := bcell hb1
  go_wp2_with fail
  refine (k2 _ (HP.out.below (below_b1 hb1))).mono ?_
  rintro e' w2 ⟨rfl, hb2⟩
  replace hb1 := below_then hb1 hb2
  clear hc1 hf1 hb2
  obtain ⟨hc1, hf1⟩ := bcell hb1
  go_wp2_with fail
  refine (k3 _).mono ?_
  rintro e' w2 ⟨rfl, hb2⟩
  replace hb1 := below_then hb1 hb2
  clear hc1 hf1 hb2
  obtain ⟨hc1, hf1⟩ := bcell hb1
  go_wp2_with fail
  refine (k4 _ (HP.out.below (below_b1 hb1))).mono ?_
  rintro e' w2 ⟨rfl, hb2⟩
  replace hb1 := below_then hb1 hb2
  clear hc1 hf1 hb2
  obtain ⟨hc1, hf1⟩ := bcell hb1
  go_wp2_with fail
  refine (k5 _).mono ?_
  rintro e' w2 ⟨rfl, hb2⟩
  replace hb1 := below_then hb1 hb2
  clear hc1 hf1 hb2
  obtain ⟨hc1, hf1⟩ := bcell hb1
  go_wp2_with fail
  refine (k6 _ (HP.out.below (below_b1 hb1))).mono ?_
  rintro e' w5 ⟨A, cap, rfl, hA1, hA2, HCA, hb2⟩
  replace hb1 := below_then hb1 hb2
  have HC5 := Lib.hid HCA.out
  clear HCA hc1 hf1 hb2
  obtain ⟨hc1, hf1⟩ := bcell hb1
  go_wp2_with fail
  refine (k7 _).mono ?_
  rintro e' w7 ⟨A7, cap7, rfl, hA3, hA4, HCB, hb2⟩
  replace hb1 := below_then hb1 hb2
  have HC7 := Lib.hid HCB.out
  have HC57 := Lib.hid (HC5.out.same hb2.block)
  clear HCB HC5 hc1 hf1 hb2
  obtain ⟨hc1, hf1⟩ := bcell hb1
  clear k1 k2 k3 k4 k5 k6 k7
  go_wp2_with fail
  refine (k8 _).mono ?_
  rintro e' w8 ⟨rfl, hb8⟩
  have HC8 := Lib.hid (HC7.out.same hb8.block)
  have HC58 := Lib.hid (HC57.out.same hb8.block)
  have hb01 := below_then (below_b1 hb1) hb8
  clear hc1 hf1 k8 HC7 HC57 hb8 hb1
  go_wp2_with fail
  refine (same_cells_true A A7 N cap cap7 hN F _ HC58.out HC8.out).mono ?_
  rintro e' w9 ⟨rfl, hb9⟩
  go_wp2
  go_ret
  exact Ret.mk rfl (below_then hb01 hb9)

set_option maxRecDepth 100000 in
theorem lifted (os : Os) (started : os.Started) (H : Type) (enc : TypeId × Value → H) :
    ReturnsInHanded {} Tryd.checked os 4 .any (fun w args => (Rows.partSaysSpec.pre enc Tryd.prog Tryd.f4 [] false w args ∧ laidMetH Tryd.prog laidL w) ∧ sizedMet enc Tryd.prog Tryd.f4 (OpenSpec.ofChange Rows.partSaysSpec) false w args)
      (Rows.partSaysSpec.post enc Tryd.prog Tryd.f4 false true false false) := by
  refine returnsInHanded_of_change_and (C := Tryd.checked) (X := fun w _ => laidMetH Tryd.prog laidL w) (fun _ _ _ hh h => h.of_heap hh) own started (by kernel_rfl) Tryd.func4
    (ChangeSpec.witness_shaped (enc := enc) (C := Tryd.checked) (os := os) (X := fun w _ => laidMetH Tryd.prog laidL w) false (World.doorLaid Tryd.prog 400 os) #[.agg #[.int .u8 0, .int .i64 0, .int .i64 0, .int .u8 0, .int .i64 0, .int .i64 0, .int .i64 0, .int .i64 0, .int .i64 0, .int .i64 0, .int .u64 0, .int .u64 0]] 8 rfl (World.shaped_of_RefB (by kernel_rfl) (by kernel_rfl)) (by kernel_rfl) (by kernel_rfl) (by kernel_rfl) (door_met os _)) ?_
  intro W base args ds gs before hval0 hW _ _ hL _
  refine law_of laidOut (by kernel_rfl) (by kernel_rfl) Tryd.underlying4 rfl ?_ hW fun p hA => ?_
  · intro ds hd
    match ds, hd with
    | [_], _ => rfl
  have hval' : ∀ (j : Nat) t v, Tryd.f4.params[j]? = some t → args[j]? = some v → Value.okWide Tryd.prog W .any base t v := hval0
  rw [Tryd.params4] at hA hval'
  obtain ⟨v0, vs0, d0, ds0, p0, q0, hargs, rfl, rfl, h0, r0⟩ := trodAll_cons hA
  obtain ⟨rfl, rfl, rfl⟩ := trodAll_nil r0
  obtain rfl : args = #[v0] := by cases args; simp_all
  obtain ⟨c, rfl⟩ := open_cfg (hval' 0 _ v0 rfl rfl) h0
  exact walk c W (of_laid hL)

theorem row : Rows.PartSaysSaid :=
  OpenClaim.holds_of_wide 4 Tryd.f4 rfl rfl rfl rfl rfl rfl rfl ⟨rfl, rfl, rfl, rfl, rfl⟩ rfl rfl rfl rfl rfl (by kernel_rfl) Tryd.func4 (by kernel_rfl)
    (of_decide_eq_true (by kernel_rfl)) (by unfold Func.isWrapper; first | (rw [if_pos (by decide +kernel)]; kernel_rfl) | (rw [if_neg (by decide +kernel)]; exact ⟨rfl, rfl⟩))
    (fun os started H enc _ => lifted os started H enc)

theorem card : Rows.PartSaysCardSaid :=
  Claim7.holds_tied_plain_at .later [] [.data] true Rows.partSaysCard.stood.harness false
    row (fun _ h => by cases h) (by kernel_rfl) (fun _ h => by cases h) partSays_row_tie rfl ⟨rfl, rfl⟩ (by kernel_rfl) rfl
    (fun f fn hf hfn => by
      obtain rfl : f = 4 := Option.some.inj ((show Tryd.prog.funcNamed "bascule/basculelaw04.PartSays" = some 4 by kernel_rfl).symm.trans hf) |>.symm
      obtain rfl : fn = Tryd.f4 := (Option.some.inj (Tryd.func4.symm.trans hfn)).symm
      exact ⟨by kernel_rfl, fun j t ht => by
        rw [Tryd.params4] at ht
        have hm : t ∈ [24] := by simpa using Array.mem_of_getElem? ht
        have hall : ([24].all fun u => !Tryd.prog.wantsStandIn u) = true := by kernel_rfl
        exact (show Tryd.prog.wantsStandIn t = false by simpa using List.all_eq_true.1 hall t hm)⟩)
    (by kernel_rfl)
#print axioms card

end Go.Proofs.YtmnlfhpkfgfpoaaDoor.partSays
