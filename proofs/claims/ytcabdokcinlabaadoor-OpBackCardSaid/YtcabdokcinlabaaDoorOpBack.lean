/- For every number and operation: what is announced is what is read. Condition: the table of objects holds at the call's start what the program's text lays there (the tied card). -/
import Derived.Test.YtcabdokcinlabaaDoorOpAlive
import Derived.Test.YtcabdokcinlabaaDoorObLaid
import Derived.Test.YtcabdokcinlabaaDoorOpenOp
namespace Go.Proofs.YtcabdokcinlabaaDoor.opBack
open Go.ChangeShapes Go.WideShapes Go.ChangeAt Go.RowKit Pt Opn

set_option maxHeartbeats 4000000 in
theorem walk (n : Nat) (hn : n < 18446744073709551616) (o : O) (ho : Wf o) (w : World) (hp : Obs w) : Calls Tryd.prog 5 #[.int .u64 n, opv o] w (Ret (.bool true) w) := by
  have HP := Lib.hid hp
  have HL := Lib.hid (fun W => laid_any n o ho W)
  have hl := laid_lt ho
  have HO := Lib.hid (fun W => ex2' (of_any n (laidA o) o.b o.c (by omega) (by unfold Wf at ho; omega) (by unfold Wf at ho; omega) W) (congrArg opv (Opn.of_laid ho)))
  have HA := Lib.hid (fun W hW => alive_any W hW)
  clear hp hl ho
  unfold cev at HL HO
  unfold opv at *
  generalize laidA o = x at *
  obtain ⟨k, a, b, c⟩ := o
  simp only at *
  go_enter Tryd.func5, Tryd.ntmps5
  go_wp2_with fail
  refine (HL.out _).mono ?_
  rintro e w1 ⟨rfl, hb1⟩
  go_wp2_with fail
  refine (HO.out _).mono ?_
  rintro e w2 ⟨rfl, hb2⟩
  replace hb1 := below_then hb1 hb2
  have hs : w.heap.size < w2.heap.size := by have := hb1.size; simp at this; omega
  go_wp2_with fail
  refine (HA.out _ (HP.out.below (below_then (below_b1 hb1) (below_one _ _)))).mono ?_
  rintro e w3 ⟨rfl, hb3⟩
  obtain ⟨hc3, hf3⟩ := bcell hb3
  have hc1 := (bcell hb1).1
  go_wp2
  go_ret
  exact Ret.mk rfl (below_then (below_then (below_b1 hb1) (below_one _ _)) hb3)

set_option maxRecDepth 100000 in
theorem lifted (os : Os) (started : os.Started) (H : Type) (enc : TypeId × Value → H) :
    ReturnsInHanded {} Tryd.checked os 5 .any (fun w args => (Rows.opBackSpec.pre enc Tryd.prog Tryd.f5 [] false w args ∧ laidMetH Tryd.prog laidL w) ∧ sizedMet enc Tryd.prog Tryd.f5 (OpenSpec.ofChange Rows.opBackSpec) false w args)
      (Rows.opBackSpec.post enc Tryd.prog Tryd.f5 false true false false) := by
  refine returnsInHanded_of_change_and (C := Tryd.checked) (X := fun w _ => laidMetH Tryd.prog laidL w) (fun _ _ _ hh h => h.of_heap hh) own started (by kernel_rfl) Tryd.func5
    (ChangeSpec.witness_shaped (enc := enc) (C := Tryd.checked) (os := os) (X := fun w _ => laidMetH Tryd.prog laidL w) false (World.doorLaid Tryd.prog 400 os) #[.int .u64 0, .agg #[.int .u8 0, .int .u32 0, .int .u32 0, .int .u32 0]] 8 rfl (World.shaped_of_RefB (by kernel_rfl) (by kernel_rfl)) (by kernel_rfl) (by kernel_rfl) (by kernel_rfl) (door_met os _)) ?_
  intro W base args ds gs before hval0 hW _ _ hL _
  refine law_of laidOut (by kernel_rfl) (by kernel_rfl) Tryd.underlying4 rfl ?_ hW fun p hA => ?_
  · intro ds hd
    match ds, hd with
    | [_, _], _ => rfl
  have hval' : ∀ (j : Nat) t v, Tryd.f5.params[j]? = some t → args[j]? = some v → Value.okWide Tryd.prog W .any base t v := hval0
  rw [Tryd.params5] at hA hval'
  obtain ⟨v0, vs0, d0, ds0, p0, q0, hargs, rfl, rfl, h0, r0⟩ := trodAll_cons hA
  obtain ⟨v1, vs1, d1, ds1, p1, q1, rfl, rfl, rfl, h1, r1⟩ := trodAll_cons r0
  obtain ⟨rfl, rfl, rfl⟩ := trodAll_nil r1
  obtain rfl : args = #[v0, v1] := by cases args; simp_all
  obtain ⟨z0, rfl, _, _, w0⟩ := open_int (k := .u64) Tryd.underlying22 (hval' 0 _ v0 rfl rfl) h0
  obtain ⟨n, rfl, hn⟩ := u64_nat w0
  obtain ⟨o, ho, rfl⟩ := open_op (hval' 1 _ v1 rfl rfl) h1
  exact walk n hn o ho W (of_laid hL)

theorem row : Rows.OpBackSaid :=
  OpenClaim.holds_of_wide 5 Tryd.f5 rfl rfl rfl rfl rfl rfl rfl ⟨rfl, rfl, rfl, rfl, rfl⟩ rfl rfl rfl rfl rfl (by kernel_rfl) Tryd.func5 (by kernel_rfl)
    (of_decide_eq_true (by kernel_rfl)) (by unfold Func.isWrapper; first | (rw [if_pos (by decide +kernel)]; kernel_rfl) | (rw [if_neg (by decide +kernel)]; exact ⟨rfl, rfl⟩))
    (fun os started H enc _ => lifted os started H enc)

theorem card : Rows.OpBackCardSaid :=
  Claim7.holds_tied_plain_at .later [] [.data] true Rows.opBackCard.stood.harness false
    row (fun _ h => by cases h) (by kernel_rfl) (fun _ h => by cases h) opBack_row_tie rfl ⟨rfl, rfl⟩ (by kernel_rfl) rfl
    (fun f fn hf hfn => by
      obtain rfl : f = 5 := Option.some.inj ((show Tryd.prog.funcNamed "bascule/basculelaw05.OpBack" = some 5 by kernel_rfl).symm.trans hf) |>.symm
      obtain rfl : fn = Tryd.f5 := (Option.some.inj (Tryd.func5.symm.trans hfn)).symm
      exact ⟨by kernel_rfl, fun j t ht => by
        rw [Tryd.params5] at ht
        have hm : t ∈ [22, 29] := by simpa using Array.mem_of_getElem? ht
        have hall : ([22, 29].all fun u => !Tryd.prog.wantsStandIn u) = true := by kernel_rfl
        exact (show Tryd.prog.wantsStandIn t = false by simpa using List.all_eq_true.1 hall t hm)⟩)
    (by kernel_rfl)
#print axioms card

end Go.Proofs.YtcabdokcinlabaaDoor.opBack
