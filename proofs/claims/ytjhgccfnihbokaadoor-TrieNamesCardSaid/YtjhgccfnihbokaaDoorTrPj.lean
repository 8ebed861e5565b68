/- The program of a table of routes, the program's own: which frames may be. -/
import Derived.Test.YtjhgccfnihbokaaDoorGTp
import Derived.Test.YtjhgccfnihbokaaDoorGOp
import Derived.Test.YtjhgccfnihbokaaDoorTrRef
namespace Go.Proofs.YtjhgccfnihbokaaDoor
open Go.RowKit Go.Lib Pt Opn

theorem row_none {k p : Nat} (h : ¬ ThereT k p) (_ : k ≤ 3) : rowV k p = .nilFunc := by
  unfold ThereT at h
  unfold rowV rowI rowR rowLk
  (repeat' split at h) <;> (repeat' split) <;> first | rfl | (exfalso; omega)
theorem fn_not (F : FuncId) (W : World) : (binOp .eql 73 (fnV F) .nilFunc).run Tryd.prog W = .ok (.bool false) W := by kernel_rfl
theorem nil_is (W : World) : (binOp .eql 73 .nilFunc .nilFunc).run Tryd.prog W = .ok (.bool true) W := by kernel_rfl
theorem row_some {k p : Nat} (h : ThereT k p) (hk : k = 1 ∨ k = 2 ∨ k = 3) : ∃ F, rowV k p = fnV F := by
  unfold ThereT at h
  unfold rowV rowI rowR rowLk
  (repeat' split at h) <;> (repeat' split) <;> first | exact ⟨_, rfl⟩ | (exfalso; omega)

/-- What the check answers. -/
def chkT (c : Cf) (f : Ds) : Int := if ¬ (Ok c ∧ c.obj = 1) then 40 else if ¬ TMay c f then 2 else 0

set_option maxRecDepth 100000 in
set_option maxHeartbeats 8000000 in
theorem pCheck_any (c : Cf) (f : Ds) (hw : DWf f) (w : World) (hO : Obs w) : Calls Tryd.prog 24 #[cfv c, frv f] w (Ret (.int .i64 (chkT c f)) w) := by
  have hof : Wf (frO f) := by
    unfold DWf at hw
    unfold Wf frO
    simp only
    refine ⟨by omega, by omega, by omega, ?_⟩
    split <;> omega
  have HP := Lib.hid (fun W => pOpOf_any f W)
  have HK := Lib.hid (fun W hp => check_op c (frO f) hof W hp)
  have HRW := Lib.hid (fun W => pRowOf_any f W)
  have HOB := Lib.hid hO
  have hfb : f.b < 4294967296 := hw.2.2.2.2.2.1
  obtain ⟨E, hE⟩ : ∃ E, chk c (frO f) = E := ⟨_, rfl⟩
  rw [hE] at HK
  by_cases hok : Ok c ∧ c.obj = 1
  · have hE40 : E ≠ 40 := by
      rw [← hE]
      unfold chk
      rw [if_neg (by rw [show okB c = true from decide_eq_true hok.1]; simp)]
      (repeat' split) <;> decide
    have h1 : (E == 40) = false := by simpa using hE40
    have h2 : (c.obj != 1) = false := by simp [hok.2]
    by_cases hE0 : E = 0
    · have hks : f.kind = 1 ∨ f.kind = 2 ∨ f.kind = 3 := by rcases fitsT hok.2 (hE.trans hE0) with g | g | g <;> omega
      have hb : 0 ≤ c.bits := by have := hok.1.1; unfold ObjOk at this; omega
      have HD := Lib.hid (fun W => pDeepest_any c f hb hfb W)
      have h4 : (E != 0) = false := by simpa using hE0
      have hh8 : f.h < 256 := by unfold DWf at hw; omega
      have c4 : wrap64 (f.h : Int) = (f.h : Int) := by unfold wrap64; omega
      by_cases ht : ThereT f.kind f.pc
      · obtain ⟨F, hF⟩ := row_some ht hks
        have HN := fn_not F
        rw [hF] at HRW
        unfold fnV at HRW HN
        by_cases hh : f.h ≤ topT c f
        · have hx : chkT c f = 0 := by unfold chkT; rw [if_neg (not_not_intro hok), if_neg (not_not_intro ⟨hE.trans hE0, ht, hh⟩)]
          rw [hx]
          have h5 : ¬ ((topT c f : Nat) : Int) < (f.h : Int) := by omega
          have h6 : decide (((topT c f : Nat) : Int) < (f.h : Int)) = false := by simpa using h5
          generalize topT c f = T at *
          clear hE hok hw hof hO hx
          obtain ⟨t', k, seq, kind, a, b, pc, i, j, n, p, h, x, y⟩ := f
          unfold frv at HP HRW HD ⊢
          unfold cfv at HK HD ⊢
          unfold opv at HP HK
          simp only at *
          go_enter Tryd.func24, Tryd.ntmps24
          go_wp2_with fail
          refine wp_region_quiet_reads (by kernel_rfl) (by kernel_rfl) fun HR => ?_
          repeat (go_big_quiet_step (first | exact Calls.regrown_of (HP.out _) | exact Calls.regrown_of (HK.out _ ((HOB.out.below (below_two w _ _)).below (below_regrown _ _ _)))))
          refine wpQuiet_nil ?_
          intro W3 hw'
          obtain ⟨hb3, hc3, hf3⟩ := regrown_reads hw'
          clear hw' HR
          have q0 : w.heap.size < W3.heap.size := Nat.lt_of_lt_of_le (by simp; omega) hb3.size
          have q1 : w.heap.size + 1 < W3.heap.size := Nat.lt_of_lt_of_le (by simp) hb3.size
          go_wp2_with fail
          refine wp_region_quiet_reads (by kernel_rfl) (by kernel_rfl) fun HR => ?_
          repeat (go_big_quiet_step (first | exact Calls.regrown_of (HRW.out _) | exact Calls.regrown_of (HD.out _)))
          refine wpQuiet_nil ?_
          intro W4 hw'
          obtain ⟨hb4, _, _⟩ := regrown_reads hw'
          clear hw' HR
          go_wp2
          go_ret
          exact Ret.mk rfl (below_then (below_then (below_two _ _ _) hb3) hb4)
        · have hx : chkT c f = 2 := by unfold chkT; rw [if_neg (not_not_intro hok), if_pos (fun g => hh g.2.2)]
          rw [hx]
          have h5 : ((topT c f : Nat) : Int) < (f.h : Int) := by omega
          have h6 : decide (((topT c f : Nat) : Int) < (f.h : Int)) = true := by simpa using h5
          generalize topT c f = T at *
          clear hE hok hw hof hO hx
          obtain ⟨t', k, seq, kind, a, b, pc, i, j, n, p, h, x, y⟩ := f
          unfold frv at HP HRW HD ⊢
          unfold cfv at HK HD ⊢
          unfold opv at HP HK
          simp only at *
          go_enter Tryd.func24, Tryd.ntmps24
          go_wp2_with fail
          refine wp_region_quiet_reads (by kernel_rfl) (by kernel_rfl) fun HR => ?_
          repeat (go_big_quiet_step (first | exact Calls.regrown_of (HP.out _) | exact Calls.regrown_of (HK.out _ ((HOB.out.below (below_two w _ _)).below (below_regrown _ _ _)))))
          refine wpQuiet_nil ?_
          intro W3 hw'
          obtain ⟨hb3, hc3, hf3⟩ := regrown_reads hw'
          clear hw' HR
          have q0 : w.heap.size < W3.heap.size := Nat.lt_of_lt_of_le (by simp; omega) hb3.size
          have q1 : w.heap.size + 1 < W3.heap.size := Nat.lt_of_lt_of_le (by simp) hb3.size
          go_wp2_with fail
          refine wp_region_quiet_reads (by kernel_rfl) (by kernel_rfl) fun HR => ?_
          repeat (go_big_quiet_step (first | exact Calls.regrown_of (HRW.out _) | exact Calls.regrown_of (HD.out _)))
          refine wpQuiet_nil ?_
          intro W4 hw'
          obtain ⟨hb4, _, _⟩ := regrown_reads hw'
          clear hw' HR
          go_wp2
          go_ret
          exact Ret.mk rfl (below_then (below_then (below_two _ _ _) hb3) hb4)
      · have hx : chkT c f = 2 := by unfold chkT; rw [if_neg (not_not_intro hok), if_pos (fun g => ht g.2.1)]
        rw [hx]
        rw [row_none ht (by omega)] at HRW
        have HN := nil_is
        clear hE hok hw hof hO hx
        obtain ⟨t', k, seq, kind, a, b, pc, i, j, n, p, h, x, y⟩ := f
        unfold frv at HP HRW ⊢
        unfold cfv at HK ⊢
        unfold opv at HP HK
        simp only at *
        go_enter Tryd.func24, Tryd.ntmps24
        go_wp2_with fail
        refine wp_region_quiet_reads (by kernel_rfl) (by kernel_rfl) fun HR => ?_
        repeat (go_big_quiet_step (first | exact Calls.regrown_of (HP.out _) | exact Calls.regrown_of (HK.out _ ((HOB.out.below (below_two w _ _)).below (below_regrown _ _ _)))))
        refine wpQuiet_nil ?_
        intro W3 hw'
        obtain ⟨hb3, hc3, hf3⟩ := regrown_reads hw'
        clear hw' HR
        have q0 : w.heap.size < W3.heap.size := Nat.lt_of_lt_of_le (by simp; omega) hb3.size
        have q1 : w.heap.size + 1 < W3.heap.size := Nat.lt_of_lt_of_le (by simp) hb3.size
        go_wp2_with fail
        refine wp_region_quiet_reads (by kernel_rfl) (by kernel_rfl) fun HR => ?_
        repeat (go_big_quiet_step (first | exact Calls.regrown_of (HRW.out _)))
        refine wpQuiet_nil ?_
        intro W4 hw'
        obtain ⟨hb4, _, _⟩ := regrown_reads hw'
        clear hw' HR
        go_wp2
        go_ret
        exact Ret.mk rfl (below_then (below_then (below_two _ _ _) hb3) hb4)
    · have hx : chkT c f = 2 := by unfold chkT; rw [if_neg (not_not_intro hok), if_pos (fun g => hE0 (hE.symm.trans g.1))]
      rw [hx]
      have h4 : (E != 0) = true := by simpa using hE0
      clear hE hok hw hof hO hx
      obtain ⟨t', k, seq, kind, a, b, pc, i, j, n, p, h, x, y⟩ := f
      unfold frv at HP HRW ⊢
      unfold cfv at HK ⊢
      unfold opv at HP HK
      simp only at *
      go_enter Tryd.func24, Tryd.ntmps24
      go_wp2_with fail
      refine wp_region_quiet_reads (by kernel_rfl) (by kernel_rfl) fun HR => ?_
      repeat (go_big_quiet_step (first | exact Calls.regrown_of (HP.out _) | exact Calls.regrown_of (HK.out _ ((HOB.out.below (below_two w _ _)).below (below_regrown _ _ _)))))
      refine wpQuiet_nil ?_
      intro W3 hw'
      obtain ⟨hb3, hc3, hf3⟩ := regrown_reads hw'
      clear hw' HR
      have q0 : w.heap.size < W3.heap.size := Nat.lt_of_lt_of_le (by simp; omega) hb3.size
      have q1 : w.heap.size + 1 < W3.heap.size := Nat.lt_of_lt_of_le (by simp) hb3.size
      go_wp2_with fail
      refine wp_region_quiet_reads (by kernel_rfl) (by kernel_rfl) fun HR => ?_
      repeat (go_big_quiet_step (first | exact Calls.regrown_of (HRW.out _)))
      refine wpQuiet_nil ?_
      intro W4 hw'
      obtain ⟨hb4, _, _⟩ := regrown_reads hw'
      clear hw' HR
      go_wp2
      go_ret
      exact Ret.mk rfl (below_then (below_then (below_two _ _ _) hb3) hb4)
  · have hx : chkT c f = 40 := by unfold chkT; rw [if_pos hok]
    rw [hx]
    by_cases ho : Ok c
    · have hE40 : E ≠ 40 := by
        rw [← hE]
        unfold chk
        rw [if_neg (by rw [show okB c = true from decide_eq_true ho]; simp)]
        (repeat' split) <;> decide
      have h1 : (E == 40) = false := by simpa using hE40
      have h2 : (c.obj != 1) = true := by simpa using fun g => hok ⟨ho, g⟩
      clear hE hok hw hof hO hx
      obtain ⟨t', k, seq, kind, a, b, pc, i, j, n, p, h, x, y⟩ := f
      unfold frv at HP HRW ⊢
      unfold cfv at HK ⊢
      unfold opv at HP HK
      simp only at *
      go_enter Tryd.func24, Tryd.ntmps24
      go_wp2_with fail
      refine wp_region_quiet_reads (by kernel_rfl) (by kernel_rfl) fun HR => ?_
      repeat (go_big_quiet_step (first | exact Calls.regrown_of (HP.out _) | exact Calls.regrown_of (HK.out _ ((HOB.out.below (below_two w _ _)).below (below_regrown _ _ _)))))
      refine wpQuiet_nil ?_
      intro W3 hw'
      obtain ⟨hb3, hc3, hf3⟩ := regrown_reads hw'
      clear hw' HR
      go_wp2
      go_ret
      exact Ret.mk rfl (below_then (below_two _ _ _) hb3)
    · have hE40 : E = 40 := by
        rw [← hE]
        unfold chk
        rw [if_pos (show okB c = false from decide_eq_false ho)]
      have h1 : (E == 40) = true := by simpa using hE40
      clear hE hok hw hof hO hx
      obtain ⟨t', k, seq, kind, a, b, pc, i, j, n, p, h, x, y⟩ := f
      unfold frv at HP HRW ⊢
      unfold cfv at HK ⊢
      unfold opv at HP HK
      simp only at *
      go_enter Tryd.func24, Tryd.ntmps24
      go_wp2_with fail
      refine wp_region_quiet_reads (by kernel_rfl) (by kernel_rfl) fun HR => ?_
      repeat (go_big_quiet_step (first | exact Calls.regrown_of (HP.out _) | exact Calls.regrown_of (HK.out _ ((HOB.out.below (below_two w _ _)).below (below_regrown _ _ _)))))
      refine wpQuiet_nil ?_
      intro W3 hw'
      obtain ⟨hb3, hc3, hf3⟩ := regrown_reads hw'
      clear hw' HR
      go_wp2
      go_ret
      exact Ret.mk rfl (below_then (below_two _ _ _) hb3)
end Go.Proofs.YtjhgccfnihbokaaDoor
