/- For any two numbers and operations: the cells by which they are announced are the same just if both are. Condition: the table of objects holds at the call's start what the program's text lays there (the tied card). -/
import Derived.Test.YtcabdokcinlabaaDoorOpAlive
import Derived.Test.YtcabdokcinlabaaDoorObLaid
import Derived.Test.YtcabdokcinlabaaDoorOpenOp
import Derived.Test.YtcabdokcinlabaaDoorOpEq
namespace Go.Proofs.YtcabdokcinlabaaDoor.opUnlike
open Go.ChangeShapes Go.WideShapes Go.ChangeAt Go.RowKit Pt Opn

set_option maxHeartbeats 4000000 in
theorem walk (n : Nat) (hn : n < 18446744073709551616) (o : O) (ho : Wf o) (m : Nat) (hm : m < 18446744073709551616) (p : O) (hp' : Wf p) (w : World) (hp : Obs w) :
    Calls Tryd.prog 6 #[.int .u64 n, opv o, .int .u64 m, opv p] w (Ret (.bool true) w) := by
  have HP := Lib.hid hp
  have HL := Lib.hid (fun W => laid_any n o ho W)
  have HM := Lib.hid (fun W => laid_any m p hp' W)
  have HA := Lib.hid (fun W hW => alive_any W hW)
  have hk : laidA o = laidA p ↔ o.k = p.k ∧ o.a = p.a := by unfold Wf at ho hp'; unfold laidA; omega
  clear hp ho hp'
  unfold cev at HL HM
  unfold opv at *
  generalize laidA o = x at *
  generalize laidA p = y at *
  obtain ⟨k, a, b, c⟩ := o
  obtain ⟨k', a', b', c'⟩ := p
  simp only at *
  obtain ⟨r, hr⟩ : ∃ r, decide (k = k' ∧ a = a' ∧ b = b' ∧ c = c') = r := ⟨_, rfl⟩
  have hq2 := eq_op k a b c k' a' b' c' r hr
  by_cases hnm : n = m
  · subst hnm
    have hq1 := eq_cell n x b c n y b' c' r (by rw [← hr, decide_eq_decide]; grind)
    clear hr hk
    go_enter Tryd.func6, Tryd.ntmps6
    go_wp2_with fail
    obtain ⟨W, hW⟩ : ∃ W, W = (w.alloc (.cells #[.int .u8 k, .int .u32 a, .int .u32 b, .int .u32 c] 29)).alloc (.cells #[.int .u8 k', .int .u32 a', .int .u32 b', .int .u32 c'] 29) := ⟨_, rfl⟩
    have hb2 : Below w.heap.size w W := by rw [hW]; exact below_two _ _ _
    rw [← hW]
    have k00 := cell_regrown (show W.cell? ⟨w.heap.size, 0, none⟩ = some (.int .u8 k) by rw [hW]; simp [go_sem])
    have k01 := cell_regrown (show W.cell? ⟨w.heap.size, 1, none⟩ = some (.int .u32 a) by rw [hW]; simp [go_sem])
    have k02 := cell_regrown (show W.cell? ⟨w.heap.size, 2, none⟩ = some (.int .u32 b) by rw [hW]; simp [go_sem])
    have k03 := cell_regrown (show W.cell? ⟨w.heap.size, 3, none⟩ = some (.int .u32 c) by rw [hW]; simp [go_sem])
    have k10 := cell_regrown (show W.cell? ⟨w.heap.size + 1, 0, none⟩ = some (.int .u8 k') by rw [hW]; simp [go_sem])
    have k11 := cell_regrown (show W.cell? ⟨w.heap.size + 1, 1, none⟩ = some (.int .u32 a') by rw [hW]; simp [go_sem])
    have k12 := cell_regrown (show W.cell? ⟨w.heap.size + 1, 2, none⟩ = some (.int .u32 b') by rw [hW]; simp [go_sem])
    have k13 := cell_regrown (show W.cell? ⟨w.heap.size + 1, 3, none⟩ = some (.int .u32 c') by rw [hW]; simp [go_sem])
    have HA := Lib.hid (fun d os => HA.out (Go.Sort.grow (redrawn W d) os) (HP.out.below (below_then hb2 (below_regrown W d os))))
    clear hW
    refine wp_region_quiet_below (by kernel_rfl) (by kernel_rfl) ?_
    repeat (go_big_quiet_step (fail))
    go_big_quiet_step (exact Calls.regrown_of (HA.out _ _))
    repeat (go_big_quiet_step (fail))
    go_big_quiet_step (exact Calls.regrown_of (HL.out _))
    repeat (go_big_quiet_step (fail))
    go_big_quiet_step (exact Calls.regrown_of (HM.out _))
    repeat (go_big_quiet_step (fail))
    refine wpQuiet_nil ?_
    intro _ hw'
    obtain ⟨⟨dq, osq⟩, hw''⟩ := hw'
    subst hw''
    go_wp2
    go_ret
    exact Ret.mk rfl (below_then hb2 (below_regrown W dq osq))
  · have hq1 := eq_cell n x b c m y b' c' false (decide_eq_false fun h => hnm h.1)
    have h1 : ((n : Int) == (m : Int)) = false := by simpa using fun h => hnm (by omega)
    have h2 : ¬ (n : Int) = (m : Int) := fun h => hnm (by omega)
    clear hr hk
    go_enter Tryd.func6, Tryd.ntmps6
    go_wp2_with fail
    obtain ⟨W, hW⟩ : ∃ W, W = (w.alloc (.cells #[.int .u8 k, .int .u32 a, .int .u32 b, .int .u32 c] 29)).alloc (.cells #[.int .u8 k', .int .u32 a', .int .u32 b', .int .u32 c'] 29) := ⟨_, rfl⟩
    have hb2 : Below w.heap.size w W := by rw [hW]; exact below_two _ _ _
    rw [← hW]
    have k00 := cell_regrown (show W.cell? ⟨w.heap.size, 0, none⟩ = some (.int .u8 k) by rw [hW]; simp [go_sem])
    have k01 := cell_regrown (show W.cell? ⟨w.heap.size, 1, none⟩ = some (.int .u32 a) by rw [hW]; simp [go_sem])
    have k02 := cell_regrown (show W.cell? ⟨w.heap.size, 2, none⟩ = some (.int .u32 b) by rw [hW]; simp [go_sem])
    have k03 := cell_regrown (show W.cell? ⟨w.heap.size, 3, none⟩ = some (.int .u32 c) by rw [hW]; simp [go_sem])
    have k10 := cell_regrown (show W.cell? ⟨w.heap.size + 1, 0, none⟩ = some (.int .u8 k') by rw [hW]; simp [go_sem])
    have k11 := cell_regrown (show W.cell? ⟨w.heap.size + 1, 1, none⟩ = some (.int .u32 a') by rw [hW]; simp [go_sem])
    have k12 := cell_regrown (show W.cell? ⟨w.heap.size + 1, 2, none⟩ = some (.int .u32 b') by rw [hW]; simp [go_sem])
    have k13 := cell_regrown (show W.cell? ⟨w.heap.size + 1, 3, none⟩ = some (.int .u32 c') by rw [hW]; simp [go_sem])
    have HA := Lib.hid (fun d os => HA.out (Go.Sort.grow (redrawn W d) os) (HP.out.below (below_then hb2 (below_regrown W d os))))
    clear hW
    refine wp_region_quiet_below (by kernel_rfl) (by kernel_rfl) ?_
    repeat (go_big_quiet_step (fail))
    go_big_quiet_step (exact Calls.regrown_of (HA.out _ _))
    repeat (go_big_quiet_step (fail))
    go_big_quiet_step (exact Calls.regrown_of (HL.out _))
    repeat (go_big_quiet_step (fail))
    go_big_quiet_step (exact Calls.regrown_of (HM.out _))
    repeat (go_big_quiet_step (fail))
    refine wpQuiet_nil ?_
    intro _ hw'
    obtain ⟨⟨dq, osq⟩, hw''⟩ := hw'
    subst hw''
    go_wp2
    go_ret
    exact Ret.mk rfl (below_then hb2 (below_regrown W dq osq))

set_option maxRecDepth 100000 in
theorem lifted (os : Os) (started : os.Started) (H : Type) (enc : TypeId × Value → H) :
    ReturnsInHanded {} Tryd.checked os 6 .any (fun w args => (Rows.opUnlikeSpec.pre enc Tryd.prog Tryd.f6 [] false w args ∧ laidMetH Tryd.prog laidL w) ∧ sizedMet enc Tryd.prog Tryd.f6 (OpenSpec.ofChange Rows.opUnlikeSpec) false w args)
      (Rows.opUnlikeSpec.post enc Tryd.prog Tryd.f6 false true false false) := by
  refine returnsInHanded_of_change_and (C := Tryd.checked) (X := fun w _ => laidMetH Tryd.prog laidL w) (fun _ _ _ hh h => h.of_heap hh) own started (by kernel_rfl) Tryd.func6
    (ChangeSpec.witness_shaped (enc := enc) (C := Tryd.checked) (os := os) (X := fun w _ => laidMetH Tryd.prog laidL w) false (World.doorLaid Tryd.prog 400 os) #[.int .u64 0, .agg #[.int .u8 0, .int .u32 0, .int .u32 0, .int .u32 0], .int .u64 0, .agg #[.int .u8 0, .int .u32 0, .int .u32 0, .int .u32 0]] 8 rfl (World.shaped_of_RefB (by kernel_rfl) (by kernel_rfl)) (by kernel_rfl) (by kernel_rfl) (by kernel_rfl) (door_met os _)) ?_
  intro W base args ds gs before hval0 hW _ _ hL _
  refine law_of laidOut (by kernel_rfl) (by kernel_rfl) Tryd.underlying4 rfl ?_ hW fun p hA => ?_
  · intro ds hd
    match ds, hd with
    | [_, _, _, _], _ => rfl
  have hval' : ∀ (j : Nat) t v, Tryd.f6.params[j]? = some t → args[j]? = some v → Value.okWide Tryd.prog W .any base t v := hval0
  rw [Tryd.params6] at hA hval'
  obtain ⟨v0, vs0, d0, ds0, p0, q0, hargs, rfl, rfl, h0, r0⟩ := trodAll_cons hA
  obtain ⟨v1, vs1, d1, ds1, p1, q1, rfl, rfl, rfl, h1, r1⟩ := trodAll_cons r0
  obtain ⟨v2, vs2, d2, ds2, p2, q2, rfl, rfl, rfl, h2, r2⟩ := trodAll_cons r1
  obtain ⟨v3, vs3, d3, ds3, p3, q3, rfl, rfl, rfl, h3, r3⟩ := trodAll_cons r2
  obtain ⟨rfl, rfl, rfl⟩ := trodAll_nil r3
  obtain rfl : args = #[v0, v1, v2, v3] := by cases args; simp_all
  obtain ⟨z0, rfl, _, _, w0⟩ := open_int (k := .u64) Tryd.underlying22 (hval' 0 _ v0 rfl rfl) h0
  obtain ⟨n, rfl, hn⟩ := u64_nat w0
  obtain ⟨o, ho, rfl⟩ := open_op (hval' 1 _ v1 rfl rfl) h1
  obtain ⟨z2, rfl, _, _, w2⟩ := open_int (k := .u64) Tryd.underlying22 (hval' 2 _ v2 rfl rfl) h2
  obtain ⟨m, rfl, hm⟩ := u64_nat w2
  obtain ⟨o', ho', rfl⟩ := open_op (hval' 3 _ v3 rfl rfl) h3
  exact walk n hn o ho m hm o' ho' W (of_laid hL)

theorem row : Rows.OpUnlikeSaid :=
  OpenClaim.holds_of_wide 6 Tryd.f6 rfl rfl rfl rfl rfl rfl rfl ⟨rfl, rfl, rfl, rfl, rfl⟩ rfl rfl rfl rfl rfl (by kernel_rfl) Tryd.func6 (by kernel_rfl)
    (of_decide_eq_true (by kernel_rfl)) (by unfold Func.isWrapper; first | (rw [if_pos (by decide +kernel)]; kernel_rfl) | (rw [if_neg (by decide +kernel)]; exact ⟨rfl, rfl⟩))
    (fun os started H enc _ => lifted os started H enc)

theorem card : Rows.OpUnlikeCardSaid :=
  Claim7.holds_tied_plain_at .later [] [.data] true Rows.opUnlikeCard.stood.harness false
    row (fun _ h => by cases h) (by kernel_rfl) (fun _ h => by cases h) opUnlike_row_tie rfl ⟨rfl, rfl⟩ (by kernel_rfl) rfl
    (fun f fn hf hfn => by
      obtain rfl : f = 6 := Option.some.inj ((show Tryd.prog.funcNamed "bascule/basculelaw05.OpUnlike" = some 6 by kernel_rfl).symm.trans hf) |>.symm
      obtain rfl : fn = Tryd.f6 := (Option.some.inj (Tryd.func6.symm.trans hfn)).symm
      exact ⟨by kernel_rfl, fun j t ht => by
        rw [Tryd.params6] at ht
        have hm : t ∈ [22, 29, 22, 29] := by simpa using Array.mem_of_getElem? ht
        have hall : ([22, 29, 22, 29].all fun u => !Tryd.prog.wantsStandIn u) = true := by kernel_rfl
        exact (show Tryd.prog.wantsStandIn t = false by simpa using List.all_eq_true.1 hall t hm)⟩)
    (by kernel_rfl)
#print axioms card

end Go.Proofs.YtcabdokcinlabaaDoor.opUnlike
