/- For any config and operation: whose kind it is, whether it writes, and whether an operation is an object's, and fits, are the document's. Condition: the table of objects holds at the call's start what the program's text lays there (the tied card). -/
import Derived.Test.YtcabdokcinlabaaDoorOpChk
import Derived.Test.YtcabdokcinlabaaDoorOpRefChk
import Derived.Test.YtcabdokcinlabaaDoorObLaid
import Derived.Test.YtcabdokcinlabaaDoorOpenOp
import Derived.Test.YtcabdokcinlabaaDoorOpenCfg
namespace Go.Proofs.YtcabdokcinlabaaDoor.opChecks
open Go.ChangeShapes Go.WideShapes Go.ChangeAt Go.RowKit Pt Opn

set_option maxHeartbeats 4000000 in
theorem walk (c : Cf) (o : O) (ho : Wf o) (w : World) (hp : Obs w) :
    Calls Tryd.prog 4 #[cfv c, opv o] w (Ret (.bool true) w) := by
  have HP := Lib.hid hp
  have H1 := Lib.hid (object_any o.k ho.1)
  have H2 := Lib.hid (rObject_any o.k)
  have H3 := Lib.hid (writes_any o.k)
  have H4 := Lib.hid (rWrites_any o.k)
  have H5 := Lib.hid (check_op c o ho)
  have H6 := Lib.hid (rCheck_op c o ho)
  clear hp ho
  unfold cfv opv at *
  generalize chk c o = y at *
  generalize objAt o.k = z at *
  generalize wrB o.k = b at *
  obtain ⟨k, a, b', c'⟩ := o
  simp only at *
  go_enter Tryd.func4, Tryd.ntmps4
  go_wp2_with fail
  obtain ⟨W, hW⟩ : ∃ W, W = (w.alloc (.cells #[.int .u8 c.obj, .int .i64 c.inst, .int .i64 c.thr, .int .u8 c.kind, .int .i64 c.str, .int .i64 c.bits, .int .i64 c.cap, .int .i64 c.node, .int .i64 c.bat, .int .i64 c.chunk, .int .u64 c.lim, .int .u64 c.most] 24)).alloc (.cells #[.int .u8 k, .int .u32 a, .int .u32 b', .int .u32 c'] 29) := ⟨_, rfl⟩
  have hb2 : Below w.heap.size w W := by rw [hW]; exact below_two _ _ _
  rw [← hW]
  have c0 := cell_regrown (show W.cell? ⟨w.heap.size, 0, none⟩ = some (.int .u8 c.obj) by rw [hW]; simp [go_sem])
  have c1 := cell_regrown (show W.cell? ⟨w.heap.size, 1, none⟩ = some (.int .i64 c.inst) by rw [hW]; simp [go_sem])
  have c2 := cell_regrown (show W.cell? ⟨w.heap.size, 2, none⟩ = some (.int .i64 c.thr) by rw [hW]; simp [go_sem])
  have c3 := cell_regrown (show W.cell? ⟨w.heap.size, 3, none⟩ = some (.int .u8 c.kind) by rw [hW]; simp [go_sem])
  have c4 := cell_regrown (show W.cell? ⟨w.heap.size, 4, none⟩ = some (.int .i64 c.str) by rw [hW]; simp [go_sem])
  have c5 := cell_regrown (show W.cell? ⟨w.heap.size, 5, none⟩ = some (.int .i64 c.bits) by rw [hW]; simp [go_sem])
  have c6 := cell_regrown (show W.cell? ⟨w.heap.size, 6, none⟩ = some (.int .i64 c.cap) by rw [hW]; simp [go_sem])
  have c7 := cell_regrown (show W.cell? ⟨w.heap.size, 7, none⟩ = some (.int .i64 c.node) by rw [hW]; simp [go_sem])
  have c8 := cell_regrown (show W.cell? ⟨w.heap.size, 8, none⟩ = some (.int .i64 c.bat) by rw [hW]; simp [go_sem])
  have c9 := cell_regrown (show W.cell? ⟨w.heap.size, 9, none⟩ = some (.int .i64 c.chunk) by rw [hW]; simp [go_sem])
  have c10 := cell_regrown (show W.cell? ⟨w.heap.size, 10, none⟩ = some (.int .u64 c.lim) by rw [hW]; simp [go_sem])
  have c11 := cell_regrown (show W.cell? ⟨w.heap.size, 11, none⟩ = some (.int .u64 c.most) by rw [hW]; simp [go_sem])
  have o0 := cell_regrown (show W.cell? ⟨w.heap.size + 1, 0, none⟩ = some (.int .u8 k) by rw [hW]; simp [go_sem])
  have o1 := cell_regrown (show W.cell? ⟨w.heap.size + 1, 1, none⟩ = some (.int .u32 a) by rw [hW]; simp [go_sem])
  have o2 := cell_regrown (show W.cell? ⟨w.heap.size + 1, 2, none⟩ = some (.int .u32 b') by rw [hW]; simp [go_sem])
  have o3 := cell_regrown (show W.cell? ⟨w.heap.size + 1, 3, none⟩ = some (.int .u32 c') by rw [hW]; simp [go_sem])
  have HO := Lib.hid (fun d os => HP.out.below (below_then hb2 (below_regrown W d os)))
  have e1 : ((z : Int) == (z : Int)) = true := by simp
  have e2 : (b == b) = true := by simp
  have e3 : (y == y) = true := by simp
  clear hW
  refine wp_region_quiet_below (by kernel_rfl) (by kernel_rfl) ?_
  repeat (go_big_quiet_step (fail))
  go_big_quiet_step (exact Calls.regrown_of (H1.out _ (HO.out _ _)))
  repeat (go_big_quiet_step (fail))
  go_big_quiet_step (exact Calls.regrown_of (H2.out _))
  repeat (go_big_quiet_step (fail))
  go_big_quiet_step (exact Calls.regrown_of (H3.out _))
  repeat (go_big_quiet_step (fail))
  go_big_quiet_step (exact Calls.regrown_of (H4.out _))
  repeat (go_big_quiet_step (fail))
  go_big_quiet_step (exact Calls.regrown_of (H5.out _ (HO.out _ _)))
  repeat (go_big_quiet_step (fail))
  go_big_quiet_step (exact Calls.regrown_of (H6.out _))
  repeat (go_big_quiet_step (fail))
  refine wpQuiet_nil ?_
  intro _ hw'
  obtain ⟨⟨dq, osq⟩, hw''⟩ := hw'
  subst hw''
  go_wp2
  go_ret
  exact Ret.mk rfl (below_then hb2 (below_regrown W dq osq))

set_option maxRecDepth 100000 in
theorem lifted (os : Os) (started : os.Started) (H : Type) (enc : TypeId × Value → H) :
    ReturnsInHanded {} Tryd.checked os 4 .any (fun w args => (Rows.opChecksSpec.pre enc Tryd.prog Tryd.f4 [] false w args ∧ laidMetH Tryd.prog laidL w) ∧ sizedMet enc Tryd.prog Tryd.f4 (OpenSpec.ofChange Rows.opChecksSpec) false w args)
      (Rows.opChecksSpec.post enc Tryd.prog Tryd.f4 false true false false) := by
  refine returnsInHanded_of_change_and (C := Tryd.checked) (X := fun w _ => laidMetH Tryd.prog laidL w) (fun _ _ _ hh h => h.of_heap hh) own started (by kernel_rfl) Tryd.func4
    (ChangeSpec.witness_shaped (enc := enc) (C := Tryd.checked) (os := os) (X := fun w _ => laidMetH Tryd.prog laidL w) false (World.doorLaid Tryd.prog 400 os) #[.agg #[.int .u8 0, .int .i64 0, .int .i64 0, .int .u8 0, .int .i64 0, .int .i64 0, .int .i64 0, .int .i64 0, .int .i64 0, .int .i64 0, .int .u64 0, .int .u64 0], .agg #[.int .u8 0, .int .u32 0, .int .u32 0, .int .u32 0]] 8 rfl (World.shaped_of_RefB (by kernel_rfl) (by kernel_rfl)) (by kernel_rfl) (by kernel_rfl) (by kernel_rfl) (door_met os _)) ?_
  intro W base args ds gs before hval0 hW _ _ hL _
  refine law_of laidOut (by kernel_rfl) (by kernel_rfl) Tryd.underlying4 rfl ?_ hW fun p hA => ?_
  · intro ds hd
    match ds, hd with
    | [_, _], _ => rfl
  have hval' : ∀ (j : Nat) t v, Tryd.f4.params[j]? = some t → args[j]? = some v → Value.okWide Tryd.prog W .any base t v := hval0
  rw [Tryd.params4] at hA hval'
  obtain ⟨v0, vs0, d0, ds0, p0, q0, hargs, rfl, rfl, h0, r0⟩ := trodAll_cons hA
  obtain ⟨v1, vs1, d1, ds1, p1, q1, rfl, rfl, rfl, h1, r1⟩ := trodAll_cons r0
  obtain ⟨rfl, rfl, rfl⟩ := trodAll_nil r1
  obtain rfl : args = #[v0, v1] := by cases args; simp_all
  obtain ⟨c, rfl⟩ := open_cfg (hval' 0 _ v0 rfl rfl) h0
  obtain ⟨o, ho, rfl⟩ := open_op (hval' 1 _ v1 rfl rfl) h1
  exact walk c o ho W (of_laid hL)

theorem row : Rows.OpChecksSaid :=
  OpenClaim.holds_of_wide 4 Tryd.f4 rfl rfl rfl rfl rfl rfl rfl ⟨rfl, rfl, rfl, rfl, rfl⟩ rfl rfl rfl rfl rfl (by kernel_rfl) Tryd.func4 (by kernel_rfl)
    (of_decide_eq_true (by kernel_rfl)) (by unfold Func.isWrapper; first | (rw [if_pos (by decide +kernel)]; kernel_rfl) | (rw [if_neg (by decide +kernel)]; exact ⟨rfl, rfl⟩))
    (fun os started H enc _ => lifted os started H enc)

theorem card : Rows.OpChecksCardSaid :=
  Claim7.holds_tied_plain_at .later [] [.data] true Rows.opChecksCard.stood.harness false
    row (fun _ h => by cases h) (by kernel_rfl) (fun _ h => by cases h) opChecks_row_tie rfl ⟨rfl, rfl⟩ (by kernel_rfl) rfl
    (fun f fn hf hfn => by
      obtain rfl : f = 4 := Option.some.inj ((show Tryd.prog.funcNamed "bascule/basculelaw05.OpChecks" = some 4 by kernel_rfl).symm.trans hf) |>.symm
      obtain rfl : fn = Tryd.f4 := (Option.some.inj (Tryd.func4.symm.trans hfn)).symm
      exact ⟨by kernel_rfl, fun j t ht => by
        rw [Tryd.params4] at ht
        have hm : t ∈ [24, 29] := by simpa using Array.mem_of_getElem? ht
        have hall : ([24, 29].all fun u => !Tryd.prog.wantsStandIn u) = true := by kernel_rfl
        exact (show Tryd.prog.wantsStandIn t = false by simpa using List.all_eq_true.1 hall t hm)⟩)
    (by kernel_rfl)
#print axioms card

end Go.Proofs.YtcabdokcinlabaaDoor.opChecks
