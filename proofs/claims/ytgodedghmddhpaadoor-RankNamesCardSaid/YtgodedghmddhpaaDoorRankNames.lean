/- The limits' numbers and the chapter's examples, and more of them, of package rank. Condition: the table of powers holds at the call's start what the program's text lays there (the tied card). -/
import Derived.Test.YtgodedghmddhpaaDoorRrLaid
namespace Go.Proofs.YtgodedghmddhpaaDoor.rankNames
open Go.ChangeShapes Go.WideShapes Go.ChangeAt Go.RowKit

set_option maxRecDepth 100000 in
set_option maxHeartbeats 2000000 in
theorem walk (w : World) (hp : Pow w) : Calls Tryd.prog 3 #[] w (Ret (.bool true) w) := by
  have HP := Lib.hid hp
  clear hp
  go_enter Tryd.func3, Tryd.ntmps3
  go_wp2_with fail
  refine (exL (M := 1) (z := 0) (levels_any 4 4 _ HP.out) (by decide +kernel) (by decide +kernel)).mono ?_
  rintro e w1 ⟨A1, c1, rfl, _, _, H1, b1⟩
  go_wp2_with fail
  refine (exL (M := 5) (z := 0) (levels_any 32 2 _ (HP.out.below b1)) (by decide +kernel) (by decide +kernel)).mono ?_
  rintro e w2 ⟨A2, c2, rfl, _, _, H2, hb2⟩
  have G2 := Lib.hid (Ints.below H1.out hb2)
  have b2 := below_then b1 hb2
  clear b1 hb2 H1
  go_wp2_with fail
  refine (ex2 (x := 0) (z := 0) (count_any 0 3 1 _ (HP.out.below b2)) (by decide +kernel) (by decide +kernel)).mono ?_
  rintro e w3 ⟨rfl, hb3⟩
  go_wp2_with fail
  refine (ex2 (x := 0) (z := 2) (node_any 7 0 _) (by decide +kernel) (by decide +kernel)).mono ?_
  rintro e w4 ⟨rfl, hb4⟩
  go_wp2_with fail
  refine (ex2 (x := 0) (z := 2) (node_any 2 4 _) (by decide +kernel) (by decide +kernel)).mono ?_
  rintro e w5 ⟨rfl, hb5⟩
  go_wp2_with fail
  refine (ex2 (x := 0) (z := 2) (depth_any 128 _) (by decide +kernel) (by decide +kernel)).mono ?_
  rintro e w6 ⟨rfl, hb6⟩
  go_wp2_with fail
  refine (ex2 (x := 0) (z := 2) (over_any 1 1 _) (by decide +kernel) (by decide +kernel)).mono ?_
  rintro e w7 ⟨rfl, hb7⟩
  have b27 := below_then (below_then (below_then (below_then hb3 hb4) hb5) hb6) hb7
  have b7 := below_then b2 b27
  clear b2 hb3 hb4 hb5 hb6 hb7
  go_wp2_with fail
  refine (exL (M := 0) (z := 2) (levels_any 33 2 _ (HP.out.below b7)) (by decide +kernel) (by decide +kernel)).mono ?_
  rintro e w8 ⟨A8, c8, rfl, _, _, _, hb8⟩
  have b8 := below_then b7 hb8
  clear b7
  go_wp2_with fail
  refine (exL (M := 0) (z := 2) (levels_any 4 5 _ (HP.out.below b8)) (by decide +kernel) (by decide +kernel)).mono ?_
  rintro e w9 ⟨A9, c9, rfl, _, _, _, hb9⟩
  have b9 := below_then b8 hb9
  clear b8
  go_wp2_with fail
  refine (ex2 (x := 0) (z := 2) (last_any 4 2 1 2 _ (HP.out.below b9)) (by decide +kernel) (by decide +kernel)).mono ?_
  rintro e w10 ⟨rfl, hb10⟩
  have b10 := below_then b9 hb10
  clear b9
  go_wp2_with fail
  refine (ex2 (x := 0) (z := 2) (count_any 4 2 5 _ (HP.out.below b10)) (by decide +kernel) (by decide +kernel)).mono ?_
  rintro e w11 ⟨rfl, hb11⟩
  have b2b := below_then (below_then (below_then (below_then b27 hb8) hb9) hb10) hb11
  have b11 := below_then b10 hb11
  have G11 := Lib.hid (Ints.below G2.out b2b)
  have I11 := Lib.hid (Ints.below H2.out b2b)
  clear b10 hb11 hb10 hb9 hb8 b27 b2b G2 H2
  go_wp2_with fail
  refine (alive_any _ (HP.out.below b11)).mono ?_
  rintro e w12 ⟨rfl, hb12⟩
  have b12 := below_then b11 hb12
  have G12 := Lib.hid (Ints.below G11.out hb12)
  have I12 := Lib.hid (Ints.below I11.out hb12)
  clear b11 hb12 G11 I11
  go_wp2_with fail
  refine (same_true _ _ 1 _ 1 (by omega) (Rk.lvF 4 4) _ (G12.out.alloc _) (lit_one (x0 := 4) (by simp [go_sem]) (by decide +kernel))).mono ?_
  rintro e w13 ⟨rfl, hb13⟩
  have hb13' := below_then (below_one w12 _) hb13
  have b13 := below_then b12 hb13'
  have I13 := Lib.hid (Ints.below I12.out hb13')
  clear b12 hb13 hb13' G12 I12
  go_wp2_with fail
  refine (same_true _ _ 5 _ 5 (by omega) (Rk.lvF 32 2) _ (I13.out.alloc _) (lit_five (x0 := 32) (x1 := 16) (x2 := 8) (x3 := 4) (x4 := 2) (by simp [go_sem]) (by simp [go_sem]) (by simp [go_sem]) (by simp [go_sem]) (by simp [go_sem]) (by decide +kernel) (by decide +kernel) (by decide +kernel) (by decide +kernel) (by decide +kernel))).mono ?_
  rintro e w14 ⟨rfl, hb14⟩
  go_wp2
  go_ret
  exact Ret.mk rfl (below_then b13 (below_then (below_one _ _) hb14))

set_option maxRecDepth 100000 in
theorem lifted (os : Os) (started : os.Started) (H : Type) (enc : TypeId × Value → H) :
    ReturnsInHanded {} Tryd.checked os 3 .any (fun w args => (Rows.rankNamesSpec.pre enc Tryd.prog Tryd.f3 [] false w args ∧ laidMetH Tryd.prog laidL w) ∧ sizedMet enc Tryd.prog Tryd.f3 (OpenSpec.ofChange Rows.rankNamesSpec) false w args)
      (Rows.rankNamesSpec.post enc Tryd.prog Tryd.f3 false true false false) := by
  refine returnsInHanded_of_change_and (C := Tryd.checked) (X := fun w _ => laidMetH Tryd.prog laidL w) (fun _ _ _ hh h => h.of_heap hh) own started (by kernel_rfl) Tryd.func3
    (ChangeSpec.witness_shaped (enc := enc) (C := Tryd.checked) (os := os) (X := fun w _ => laidMetH Tryd.prog laidL w) false (World.doorLaid Tryd.prog 400 os) #[] 8 rfl (World.shaped_of_RefB (by kernel_rfl) (by kernel_rfl)) (by kernel_rfl) (by kernel_rfl) (by kernel_rfl) (door_met os _)) ?_
  intro W base args ds gs before hval0 hW _ _ hL _
  refine law_of laidOut (by kernel_rfl) (by kernel_rfl) Tryd.underlying4 rfl ?_ hW fun p hA => ?_
  · intro ds hd
    match ds, hd with
    | [], _ => rfl
  rw [Tryd.params3] at hA
  obtain ⟨hargs, rfl, rfl⟩ := trodAll_nil hA
  obtain rfl : args = #[] := by cases args; simp_all
  exact walk W (of_laid hL)

theorem row : Rows.RankNamesSaid :=
  OpenClaim.holds_of_wide 3 Tryd.f3 rfl rfl rfl rfl rfl rfl rfl ⟨rfl, rfl, rfl, rfl, rfl⟩ rfl rfl rfl rfl rfl (by kernel_rfl) Tryd.func3 (by kernel_rfl)
    (of_decide_eq_true (by kernel_rfl)) (by unfold Func.isWrapper; first | (rw [if_pos (by decide +kernel)]; kernel_rfl) | (rw [if_neg (by decide +kernel)]; exact ⟨rfl, rfl⟩))
    (fun os started H enc _ => lifted os started H enc)

theorem card : Rows.RankNamesCardSaid :=
  Claim7.holds_tied_plain_at .later [] [.data] true Rows.rankNamesCard.stood.harness false
    row (fun _ h => by cases h) (by kernel_rfl) (fun _ h => by cases h) rankNames_row_tie rfl ⟨rfl, rfl⟩ (by kernel_rfl) rfl
    (fun f fn hf hfn => by
      obtain rfl : f = 3 := Option.some.inj ((show Tryd.prog.funcNamed "bascule/basculelaw03.RankNames" = some 3 by kernel_rfl).symm.trans hf) |>.symm
      obtain rfl : fn = Tryd.f3 := (Option.some.inj (Tryd.func3.symm.trans hfn)).symm
      exact ⟨by kernel_rfl, fun j t ht => by
        rw [Tryd.params3] at ht
        simp at ht⟩)
    (by kernel_rfl)
#print axioms card
end Go.Proofs.YtgodedghmddhpaaDoor.rankNames
