/- For every four numbers: Levels, Count and Last of package rank answer what the document's own answers say. Condition: the table of powers holds at the call's start what the program's text lays there (the tied card). -/
import Derived.Test.YtgodedghmddhpaaDoorRrLaid
import Derived.Test.YtgodedghmddhpaaDoorRrRef
namespace Go.Proofs.YtgodedghmddhpaaDoor.rankLevels
open Go.ChangeShapes Go.WideShapes Go.ChangeAt Go.RowKit

set_option maxHeartbeats 2000000 in
theorem walk (m n h i : Int) (w : World) (hp : Pow w) :
    Calls Tryd.prog 4 #[.int .i64 m, .int .i64 n, .int .i64 h, .int .i64 i] w (Ret (.bool true) w) := by
  have HP := Lib.hid hp
  have hN := Rk.lvN_le m n
  clear hp
  go_enter Tryd.func4, Tryd.ntmps4
  go_wp2_with fail
  refine (levels_any m n _ HP.out).mono ?_
  rintro e w1 ⟨A1, c1, rfl, _, _, H1, b1⟩
  go_wp2_with fail
  refine (rLevels_any m n _).mono ?_
  rintro e w2 ⟨A2, c2, rfl, _, _, H2, hb2⟩
  have G2 := Lib.hid (Ints.below H1.out hb2)
  have b2 := below_then b1 hb2
  clear b1 hb2 H1
  go_wp2_with fail
  refine (count_any m n h _ (HP.out.below b2)).mono ?_
  rintro e w3 ⟨rfl, hb3⟩
  go_wp2_with fail
  refine (rCount_any m n h _).mono ?_
  rintro e w4 ⟨rfl, hb4⟩
  have b24 := below_then hb3 hb4
  have b4 := below_then b2 b24
  clear hb3 hb4 b2
  go_wp2_with fail
  refine (last_any m n h i _ (HP.out.below b4)).mono ?_
  rintro e w5 ⟨rfl, hb5⟩
  go_wp2_with fail
  refine (rLast_any m n h i _).mono ?_
  rintro e w6 ⟨rfl, hb6⟩
  have b46 := below_then hb5 hb6
  have b26 := below_then b24 b46
  have b6 := below_then b4 b46
  have G6 := Lib.hid (Ints.below G2.out b26)
  have K6 := Lib.hid (Ints.below H2.out b26)
  clear hb5 hb6 b24 b46 b26 b4 G2 H2
  go_wp2_with fail
  refine (same_true _ _ _ _ _ (by omega) _ _ G6.out K6.out).mono ?_
  rintro e w7 ⟨rfl, hb7⟩
  go_wp2
  go_ret
  exact Ret.mk rfl (below_then b6 hb7)

set_option maxRecDepth 100000 in
theorem lifted (os : Os) (started : os.Started) (H : Type) (enc : TypeId × Value → H) :
    ReturnsInHanded {} Tryd.checked os 4 .any (fun w args => (Rows.rankLevelsSpec.pre enc Tryd.prog Tryd.f4 [] false w args ∧ laidMetH Tryd.prog laidL w) ∧ sizedMet enc Tryd.prog Tryd.f4 (OpenSpec.ofChange Rows.rankLevelsSpec) false w args)
      (Rows.rankLevelsSpec.post enc Tryd.prog Tryd.f4 false true false false) := by
  refine returnsInHanded_of_change_and (C := Tryd.checked) (X := fun w _ => laidMetH Tryd.prog laidL w) (fun _ _ _ hh h => h.of_heap hh) own started (by kernel_rfl) Tryd.func4
    (ChangeSpec.witness_shaped (enc := enc) (C := Tryd.checked) (os := os) (X := fun w _ => laidMetH Tryd.prog laidL w) false (World.doorLaid Tryd.prog 400 os) #[.int .i64 0, .int .i64 0, .int .i64 0, .int .i64 0] 8 rfl (World.shaped_of_RefB (by kernel_rfl) (by kernel_rfl)) (by kernel_rfl) (by kernel_rfl) (by kernel_rfl) (door_met os _)) ?_
  intro W base args ds gs before hval0 hW _ _ hL _
  refine law_of laidOut (by kernel_rfl) (by kernel_rfl) Tryd.underlying4 rfl ?_ hW fun p hA => ?_
  · intro ds hd
    match ds, hd with
    | [_, _, _, _], _ => rfl
  have hval' : ∀ (j : Nat) t v, Tryd.f4.params[j]? = some t → args[j]? = some v → Value.okWide Tryd.prog W .any base t v := hval0
  rw [Tryd.params4] at hA hval'
  obtain ⟨v0, vs0, d0, ds0, p0, q0, hargs, rfl, rfl, h0, r0⟩ := trodAll_cons hA
  obtain ⟨v1, vs1, d1, ds1, p1, q1, rfl, rfl, rfl, h1, r1⟩ := trodAll_cons r0
  obtain ⟨v2, vs2, d2, ds2, p2, q2, rfl, rfl, rfl, h2, r2⟩ := trodAll_cons r1
  obtain ⟨v3, vs3, d3, ds3, p3, q3, rfl, rfl, rfl, h3, r3⟩ := trodAll_cons r2
  obtain ⟨rfl, rfl, rfl⟩ := trodAll_nil r3
  obtain rfl : args = #[v0, v1, v2, v3] := by cases args; simp_all
  obtain ⟨a0, rfl, _, _, _⟩ := open_int Tryd.underlying3 (hval' 0 _ v0 rfl rfl) h0
  obtain ⟨a1, rfl, _, _, _⟩ := open_int Tryd.underlying3 (hval' 1 _ v1 rfl rfl) h1
  obtain ⟨a2, rfl, _, _, _⟩ := open_int Tryd.underlying3 (hval' 2 _ v2 rfl rfl) h2
  obtain ⟨a3, rfl, _, _, _⟩ := open_int Tryd.underlying3 (hval' 3 _ v3 rfl rfl) h3
  exact walk a0 a1 a2 a3 W (of_laid hL)

theorem row : Rows.RankLevelsSaid :=
  OpenClaim.holds_of_wide 4 Tryd.f4 rfl rfl rfl rfl rfl rfl rfl ⟨rfl, rfl, rfl, rfl, rfl⟩ rfl rfl rfl rfl rfl (by kernel_rfl) Tryd.func4 (by kernel_rfl)
    (of_decide_eq_true (by kernel_rfl)) (by unfold Func.isWrapper; first | (rw [if_pos (by decide +kernel)]; kernel_rfl) | (rw [if_neg (by decide +kernel)]; exact ⟨rfl, rfl⟩))
    (fun os started H enc _ => lifted os started H enc)

theorem card : Rows.RankLevelsCardSaid :=
  Claim7.holds_tied_plain_at .later [] [.data] true Rows.rankLevelsCard.stood.harness false
    row (fun _ h => by cases h) (by kernel_rfl) (fun _ h => by cases h) rankLevels_row_tie rfl ⟨rfl, rfl⟩ (by kernel_rfl) rfl
    (fun f fn hf hfn => by
      obtain rfl : f = 4 := Option.some.inj ((show Tryd.prog.funcNamed "bascule/basculelaw03.RankLevels" = some 4 by kernel_rfl).symm.trans hf) |>.symm
      obtain rfl : fn = Tryd.f4 := (Option.some.inj (Tryd.func4.symm.trans hfn)).symm
      exact ⟨by kernel_rfl, fun j t ht => by
        rw [Tryd.params4] at ht
        have hm : t ∈ [3] := by simpa using Array.mem_of_getElem? ht
        have hall : ([3].all fun u => !Tryd.prog.wantsStandIn u) = true := by kernel_rfl
        exact (show Tryd.prog.wantsStandIn t = false by simpa using List.all_eq_true.1 hall t hm)⟩)
    (by kernel_rfl)
#print axioms card
end Go.Proofs.YtgodedghmddhpaaDoor.rankLevels
