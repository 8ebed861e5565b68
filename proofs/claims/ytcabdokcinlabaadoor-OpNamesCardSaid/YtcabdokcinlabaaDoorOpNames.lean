/- The kinds' numbers, the errors', and more examples of package op. Condition: the table of objects holds at the call's start what the program's text lays there (the tied card). -/
import Derived.Test.YtcabdokcinlabaaDoorOpAlive
import Derived.Test.YtcabdokcinlabaaDoorObLaid
namespace Go.Proofs.YtcabdokcinlabaaDoor.opNames
open Go.ChangeShapes Go.WideShapes Go.ChangeAt Go.RowKit Pt Opn

def exG : Cf := ⟨4, 2, 1, 1, 0, 0, 4, 0, 1, 0, 131072, 0⟩
def exA : Cf := ⟨3, 2, 1, 1, 0, 0, 4, 0, 1, 0, 131072, 0⟩
def exZ : Cf := ⟨0, 0, 0, 0, 0, 0, 0, 0, 0, 0, 0, 0⟩

set_option maxRecDepth 100000 in
set_option maxHeartbeats 4000000 in
theorem walk (w : World) (hp : Obs w) : Calls Tryd.prog 3 #[] w (Ret (.bool true) w) := by
  have HP := Lib.hid hp
  clear hp
  have h1 := check_ex exG ⟨12, 65537, 2, 2147483647⟩ 0 (by unfold Wf; decide) (by decide +kernel)
  have h2 := check_ex exG ⟨12, 1, 2, 0⟩ 10 (by unfold Wf; decide) (by decide +kernel)
  have h3 := check_ex exG ⟨12, 65536, 0, 0⟩ 10 (by unfold Wf; decide) (by decide +kernel)
  have h4 := check_ex exG ⟨14, 1, 0, 1⟩ 10 (by unfold Wf; decide) (by decide +kernel)
  have h5 := check_ex exZ ⟨0, 0, 0, 0⟩ 40 (by unfold Wf; decide) (by decide +kernel)
  have h6 := check_ex exA ⟨9, 0, 0, 2⟩ 0 (by unfold Wf; decide) (by decide +kernel)
  have h7 := check_ex exA ⟨9, 0, 0, 0⟩ 10 (by unfold Wf; decide) (by decide +kernel)
  have h8 := check_ex exA ⟨11, 1, 0, 0⟩ 10 (by unfold Wf; decide) (by decide +kernel)
  have h9 := fun W hW => ex1 (x := .int .u8 0) (object_any 0 (by decide) W hW) rfl
  have h10 := fun W hW => ex1 (x := .int .u8 0) (object_any 15 (by decide) W hW) rfl
  have h11 := fun W => ex1 (x := .bool false) (writes_any 255 W) rfl
  unfold cfv exG opv at h1 h2 h3 h4
  unfold cfv exZ opv at h5
  unfold cfv exA opv at h6 h7 h8
  simp only at h1 h2 h3 h4 h5 h6 h7 h8
  have H1 := Lib.hid h1
  have H2 := Lib.hid h2
  have H3 := Lib.hid h3
  have H4 := Lib.hid h4
  have H5 := Lib.hid h5
  have H6 := Lib.hid h6
  have H7 := Lib.hid h7
  have H8 := Lib.hid h8
  have H9 := Lib.hid h9
  have H10 := Lib.hid h10
  have H11 := Lib.hid h11
  have HA := Lib.hid (fun W hW => alive_any W hW)
  clear h1 h2 h3 h4 h5 h6 h7 h8 h9 h10 h11
  go_enter Tryd.func3, Tryd.ntmps3
  go_wp2_with fail
  refine (H1.out _ (HP.out.alloc _)).mono ?_
  rintro e w1 ⟨rfl, hb1⟩
  obtain ⟨hc1, hf1⟩ := bcell hb1
  go_wp2_with fail
  refine (H2.out _ (HP.out.below (below_b1 hb1))).mono ?_
  rintro e w2 ⟨rfl, hb2⟩
  replace hb1 := below_then hb1 hb2
  clear hb2 hc1 hf1
  obtain ⟨hc1, hf1⟩ := bcell hb1
  go_wp2_with fail
  refine (H3.out _ (HP.out.below (below_b1 hb1))).mono ?_
  rintro e w2 ⟨rfl, hb2⟩
  replace hb1 := below_then hb1 hb2
  clear hb2 hc1 hf1
  obtain ⟨hc1, hf1⟩ := bcell hb1
  go_wp2_with fail
  refine (H4.out _ (HP.out.below (below_b1 hb1))).mono ?_
  rintro e w2 ⟨rfl, hb2⟩
  replace hb1 := below_then hb1 hb2
  clear hb2 hc1 hf1
  obtain ⟨hc1, hf1⟩ := bcell hb1
  go_wp2_with fail
  refine (H5.out _ (HP.out.below (below_b1 hb1))).mono ?_
  rintro e w2 ⟨rfl, hb2⟩
  replace hb1 := below_then hb1 hb2
  clear hb2 hc1 hf1
  obtain ⟨hc1, hf1⟩ := bcell hb1
  go_wp2_with fail
  have hb0 := below_b1 hb1
  clear hc1 hf1 hb1
  refine (H6.out _ (HP.out.below (below_then hb0 (below_one w2 _)))).mono ?_
  rintro e w3 ⟨rfl, hb3⟩
  obtain ⟨hc1, hf1⟩ := bcell hb3
  go_wp2_with fail
  refine (H7.out _ (HP.out.below (below_then hb0 (below_b1 hb3)))).mono ?_
  rintro e w3 ⟨rfl, hb2⟩
  replace hb3 := below_then hb3 hb2
  clear hb2 hc1 hf1
  obtain ⟨hc1, hf1⟩ := bcell hb3
  go_wp2_with fail
  refine (H8.out _ (HP.out.below (below_then hb0 (below_b1 hb3)))).mono ?_
  rintro e w3 ⟨rfl, hb2⟩
  replace hb3 := below_then hb3 hb2
  clear hb2 hc1 hf1
  obtain ⟨hc1, hf1⟩ := bcell hb3
  go_wp2_with fail
  refine (HA.out _ (HP.out.below (below_then hb0 (below_b1 hb3)))).mono ?_
  rintro e w3 ⟨rfl, hb2⟩
  replace hb3 := below_then hb3 hb2
  clear hb2 hc1 hf1
  obtain ⟨hc1, hf1⟩ := bcell hb3
  go_wp2_with fail
  refine (H9.out _ (HP.out.below (below_then hb0 (below_b1 hb3)))).mono ?_
  rintro e w3 ⟨rfl, hb2⟩
  replace hb3 := below_then hb3 hb2
  clear hb2 hc1 hf1
  obtain ⟨hc1, hf1⟩ := bcell hb3
  go_wp2_with fail
  refine (H10.out _ (HP.out.below (below_then hb0 (below_b1 hb3)))).mono ?_
  rintro e w3 ⟨rfl, hb2⟩
  replace hb3 := below_then hb3 hb2
  clear hb2 hc1 hf1
  obtain ⟨hc1, hf1⟩ := bcell hb3
  go_wp2_with fail
  refine (H11.out _).mono ?_
  rintro e w3 ⟨rfl, hb2⟩
  replace hb3 := below_then hb3 hb2
  clear hb2 hc1 hf1
  go_wp2
  go_ret
  exact Ret.mk rfl (below_then hb0 (below_b1 hb3))

set_option maxRecDepth 100000 in
theorem lifted (os : Os) (started : os.Started) (H : Type) (enc : TypeId × Value → H) :
    ReturnsInHanded {} Tryd.checked os 3 .any (fun w args => (Rows.opNamesSpec.pre enc Tryd.prog Tryd.f3 [] false w args ∧ laidMetH Tryd.prog laidL w) ∧ sizedMet enc Tryd.prog Tryd.f3 (OpenSpec.ofChange Rows.opNamesSpec) false w args)
      (Rows.opNamesSpec.post enc Tryd.prog Tryd.f3 false true false false) := by
  refine returnsInHanded_of_change_and (C := Tryd.checked) (X := fun w _ => laidMetH Tryd.prog laidL w) (fun _ _ _ hh h => h.of_heap hh) own started (by kernel_rfl) Tryd.func3
    (ChangeSpec.witness_shaped (enc := enc) (C := Tryd.checked) (os := os) (X := fun w _ => laidMetH Tryd.prog laidL w) false (World.doorLaid Tryd.prog 400 os) #[] 8 rfl (World.shaped_of_RefB (by kernel_rfl) (by kernel_rfl)) (by kernel_rfl) (by kernel_rfl) (by kernel_rfl) (door_met os _)) ?_
  intro W base args ds gs before hval0 hW _ _ hL _
  refine law_of laidOut (by kernel_rfl) (by kernel_rfl) Tryd.underlying4 rfl ?_ hW fun p hA => ?_
  · intro ds hd
    match ds, hd with
    | [], _ => rfl
  rw [Tryd.params3] at hA
  obtain ⟨hargs, rfl, rfl⟩ := trodAll_nil hA
  obtain rfl : args = #[] := by cases args; simp_all
  exact walk W (of_laid hL)

theorem row : Rows.OpNamesSaid :=
  OpenClaim.holds_of_wide 3 Tryd.f3 rfl rfl rfl rfl rfl rfl rfl ⟨rfl, rfl, rfl, rfl, rfl⟩ rfl rfl rfl rfl rfl (by kernel_rfl) Tryd.func3 (by kernel_rfl)
    (of_decide_eq_true (by kernel_rfl)) (by unfold Func.isWrapper; first | (rw [if_pos (by decide +kernel)]; kernel_rfl) | (rw [if_neg (by decide +kernel)]; exact ⟨rfl, rfl⟩))
    (fun os started H enc _ => lifted os started H enc)

theorem card : Rows.OpNamesCardSaid :=
  Claim7.holds_tied_plain_at .later [] [.data] true Rows.opNamesCard.stood.harness false
    row (fun _ h => by cases h) (by kernel_rfl) (fun _ h => by cases h) opNames_row_tie rfl ⟨rfl, rfl⟩ (by kernel_rfl) rfl
    (fun f fn hf hfn => by
      obtain rfl : f = 3 := Option.some.inj ((show Tryd.prog.funcNamed "bascule/basculelaw05.OpNames" = some 3 by kernel_rfl).symm.trans hf) |>.symm
      obtain rfl : fn = Tryd.f3 := (Option.some.inj (Tryd.func3.symm.trans hfn)).symm
      exact ⟨by kernel_rfl, fun j t ht => by
        rw [Tryd.params3] at ht
        simp at ht⟩)
    (by kernel_rfl)
#print axioms card

end Go.Proofs.YtcabdokcinlabaaDoor.opNames
