/- For every config: each cell of a memory is one place's, and stands where that says; there are MaxCells at most. Condition: the table of powers holds at the call's start what the program's text lays there (the tied card). -/
import Derived.Test.YtmnlfhpkfgfpoaaDoorPtOpen
import Derived.Deep.LoopGhost
namespace Go.Proofs.YtmnlfhpkfgfpoaaDoor.partBack
open Go.ChangeShapes Go.WideShapes Go.ChangeAt Go.RowKit Pt

/-- What stands at each number, and where that stands. -/
theorem back (c : Cf) (h : okB c = true) (k : Nat) (hk : k < all c) : whE c k = 0 ∧ atV c (whV c k) = k ∧ atE c (whV c k) = 0 := by
  obtain ⟨q, h1, h2⟩ := what_find (apart_bl (ok_of h)) hk
  obtain ⟨e1, e2⟩ := wh_some h h1
  rw [e1, e2]
  exact ⟨rfl, at_some h h2⟩
theorem beyond (c : Cf) (h : okB c = true) : whE c (all c : Nat) = 2 := (wh_none h (what_none (Nat.le_refl _))).2

set_option maxHeartbeats 4000000 in
theorem walk (c : Cf) (w : World) (hp : Pow w) : Calls Tryd.prog 7 #[cfv c] w (Ret (.bool true) w) := by
  have HP := Lib.hid hp
  have hn := fun W hW => cells_any c W hW
  have FIN := Lib.hid (fun (w4 : World) (h : Below w.heap.size w w4) => (Ret.mk rfl h : Ret (.bool true) w (.returned (.bool true)) w4))
  clear hp
  cases hok : okB c with
  | false =>
    have hall : allA c = 0 := by unfold allA; rw [hok]; rfl
    rw [hok, hall, show Pt.err false = 40 from rfl] at hn
    clear hall hok
    unfold cfv at *
    go_enter Tryd.func7, Tryd.ntmps7
    go_wp2_with fail
    refine (alive_any _ ((HP.out.below (below_one w _)))).mono ?_
    rintro e w1 ⟨rfl, hb1⟩
    obtain ⟨hc1, hf1⟩ := bcell hb1
    have hb01 := below_b1 hb1
    go_wp2_with fail
    refine (hn _ (HP.out.below hb01)).mono ?_
    rintro e w2 ⟨rfl, hb2⟩
    go_wp2
    go_ret
    exact FIN.out _ (below_then hb01 hb2)
  | true =>
    have hall : allA c = (all c : Nat) := by unfold allA; rw [hok]; rfl
    rw [hok, hall, show Pt.err true = 0 from rfl] at hn
    obtain ⟨hlo, hhi⟩ := all_bounds (ok_of hok)
    have HW := Lib.hid (fun (k : Nat) (hk : k ≤ 600) W hW => what_any c k (by omega) W hW)
    have HA := Lib.hid (fun y W hW => at_any c y W hW)
    have HB := Lib.hid (back c hok)
    have HE := Lib.hid (beyond c hok)
    clear hall hok
    obtain ⟨N, hN⟩ : ∃ N, all c = N := ⟨_, rfl⟩
    rw [hN] at hn hlo hhi HB HE
    clear hN
    unfold cfv at *
    go_enter Tryd.func7, Tryd.ntmps7
    go_wp2_with fail
    refine (alive_any _ ((HP.out.below (below_one w _)))).mono ?_
    rintro e w1 ⟨rfl, hb1⟩
    obtain ⟨hc1, hf1⟩ := bcell hb1
    have hb01 := below_b1 hb1
    go_wp2_with fail
    refine (hn _ (HP.out.below hb01)).mono ?_
    rintro e w2 ⟨rfl, hb2⟩
    have hb02 := below_then hb01 hb2
    have I2 : IsCf w2 w.heap.size c := ((cf_lit w c 24 rfl).same (hb1.block _ (by simp))).same (hb2.block _ (by have := hb1.size; simp at this; omega))
    have P2 := Lib.hid (HP.out.below hb02)
    have HI := Lib.hid I2
    obtain ⟨r, hr⟩ : ∃ r, w.heap.size = r := ⟨_, rfl⟩
    rw [hr] at HI ⊢
    clear hc1 hf1 hb1 hb01 hb2 I2 HP hn
    go_wp2
    go_loopw [6] (fun i wr => ∃ k : Nat, k ≤ N ∧ i = .int .i64 k ∧ Below w2.heap.size w2 wr) (fun i _ => N - (intOf i).toNat)
    case atStart => exact ⟨0, Nat.zero_le _, rfl, Below.refl _ _⟩
    case round =>
      obtain ⟨k, hk, rfl, hbr⟩ := hrel
      have I := HI.out.same (hbr.block _ HI.out.lt)
      have f0 := I 0 _ rfl
      have f1 := I 1 _ rfl
      have f2 := I 2 _ rfl
      have f3 := I 3 _ rfl
      have f4 := I 4 _ rfl
      have f5 := I 5 _ rfl
      have f6 := I 6 _ rfl
      have f7 := I 7 _ rfl
      have f8 := I 8 _ rfl
      have f9 := I 9 _ rfl
      have f10 := I 10 _ rfl
      have f11 := I 11 _ rfl
      have hr1 := I.lt
      clear I
      by_cases hlt : k < N
      · obtain ⟨e1, e2, e3⟩ := HB.out k hlt
        have hw := HW.out k (by omega) wr (P2.out.below hbr)
        rw [e1] at hw
        have ha := HA.out (whV c k)
        rw [e2, e3] at ha
        clear e1 e2 e3
        unfold plv at hw ha
        generalize whV c k = y at *
        go_wp2_with fail
        refine hw.mono ?_
        rintro e w3 ⟨rfl, hb3⟩
        have hbr3 := below_then hbr hb3
        clear f0 f1 f2 f3 f4 f5 f6 f7 f8 f9 f10 f11 hr1 hw hb3
        have I := HI.out.same (hbr3.block _ HI.out.lt)
        have f0 := I 0 _ rfl
        have f1 := I 1 _ rfl
        have f2 := I 2 _ rfl
        have f3 := I 3 _ rfl
        have f4 := I 4 _ rfl
        have f5 := I 5 _ rfl
        have f6 := I 6 _ rfl
        have f7 := I 7 _ rfl
        have f8 := I 8 _ rfl
        have f9 := I 9 _ rfl
        have f10 := I 10 _ rfl
        have f11 := I 11 _ rfl
        have hr1 := I.lt
        clear I
        go_wp2_with fail
        refine (ha _ ((P2.out.below hbr3).alloc _)).mono ?_
        rintro e w4 ⟨rfl, hb4⟩
        have hbr4 := below_then hbr3 (below_b1 hb4)
        clear f0 f1 f2 f3 f4 f5 f6 f7 f8 f9 f10 f11 hr1 ha hb4
        go_wp2
        go_roundw
        case rel => exact ⟨k + 1, by omega, by go_num, hbr4⟩
        case measure => simp [intOf]; omega
      · obtain rfl : k = N := by omega
        have hw := HW.out k (by omega) wr (P2.out.below hbr)
        rw [HE.out] at hw
        unfold plv at hw
        generalize whV c k = y at *
        go_wp2_with fail
        refine hw.mono ?_
        rintro e w3 ⟨rfl, hb3⟩
        go_wp2
        go_ret
        exact FIN.out _ (below_then hb02 (below_then (below_then hbr hb3) (below_one _ _)))

set_option maxRecDepth 100000 in
theorem lifted (os : Os) (started : os.Started) (H : Type) (enc : TypeId × Value → H) :
    ReturnsInHanded {} Tryd.checked os 7 .any (fun w args => (Rows.partBackSpec.pre enc Tryd.prog Tryd.f7 [] false w args ∧ laidMetH Tryd.prog laidL w) ∧ sizedMet enc Tryd.prog Tryd.f7 (OpenSpec.ofChange Rows.partBackSpec) false w args)
      (Rows.partBackSpec.post enc Tryd.prog Tryd.f7 false true false false) := by
  refine returnsInHanded_of_change_and (C := Tryd.checked) (X := fun w _ => laidMetH Tryd.prog laidL w) (fun _ _ _ hh h => h.of_heap hh) own started (by kernel_rfl) Tryd.func7
    (ChangeSpec.witness_shaped (enc := enc) (C := Tryd.checked) (os := os) (X := fun w _ => laidMetH Tryd.prog laidL w) false (World.doorLaid Tryd.prog 400 os) #[.agg #[.int .u8 0, .int .i64 0, .int .i64 0, .int .u8 0, .int .i64 0, .int .i64 0, .int .i64 0, .int .i64 0, .int .i64 0, .int .i64 0, .int .u64 0, .int .u64 0]] 8 rfl (World.shaped_of_RefB (by kernel_rfl) (by kernel_rfl)) (by kernel_rfl) (by kernel_rfl) (by kernel_rfl) (door_met os _)) ?_
  intro W base args ds gs before hval0 hW _ _ hL _
  refine law_of laidOut (by kernel_rfl) (by kernel_rfl) Tryd.underlying4 rfl ?_ hW fun p hA => ?_
  · intro ds hd
    match ds, hd with
    | [_], _ => rfl
  have hval' : ∀ (j : Nat) t v, Tryd.f7.params[j]? = some t → args[j]? = some v → Value.okWide Tryd.prog W .any base t v := hval0
  rw [Tryd.params7] at hA hval'
  obtain ⟨v0, vs0, d0, ds0, p0, q0, hargs, rfl, rfl, h0, r0⟩ := trodAll_cons hA
  obtain ⟨rfl, rfl, rfl⟩ := trodAll_nil r0
  obtain rfl : args = #[v0] := by cases args; simp_all
  obtain ⟨c, rfl⟩ := open_cfg (hval' 0 _ v0 rfl rfl) h0
  exact walk c W (of_laid hL)

theorem row : Rows.PartBackSaid :=
  OpenClaim.holds_of_wide 7 Tryd.f7 rfl rfl rfl rfl rfl rfl rfl ⟨rfl, rfl, rfl, rfl, rfl⟩ rfl rfl rfl rfl rfl (by kernel_rfl) Tryd.func7 (by kernel_rfl)
    (of_decide_eq_true (by kernel_rfl)) (by unfold Func.isWrapper; first | (rw [if_pos (by decide +kernel)]; kernel_rfl) | (rw [if_neg (by decide +kernel)]; exact ⟨rfl, rfl⟩))
    (fun os started H enc _ => lifted os started H enc)

theorem card : Rows.PartBackCardSaid :=
  Claim7.holds_tied_plain_at .later [] [.data] true Rows.partBackCard.stood.harness false
    row (fun _ h => by cases h) (by kernel_rfl) (fun _ h => by cases h) partBack_row_tie rfl ⟨rfl, rfl⟩ (by kernel_rfl) rfl
    (fun f fn hf hfn => by
      obtain rfl : f = 7 := Option.some.inj ((show Tryd.prog.funcNamed "bascule/basculelaw04.PartBack" = some 7 by kernel_rfl).symm.trans hf) |>.symm
      obtain rfl : fn = Tryd.f7 := (Option.some.inj (Tryd.func7.symm.trans hfn)).symm
      exact ⟨by kernel_rfl, fun j t ht => by
        rw [Tryd.params7] at ht
        have hm : t ∈ [24] := by simpa using Array.mem_of_getElem? ht
        have hall : ([24].all fun u => !Tryd.prog.wantsStandIn u) = true := by kernel_rfl
        exact (show Tryd.prog.wantsStandIn t = false by simpa using List.all_eq_true.1 hall t hm)⟩)
    (by kernel_rfl)
#print axioms card

end Go.Proofs.YtmnlfhpkfgfpoaaDoor.partBack
