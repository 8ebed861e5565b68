/- Package part: which configs may be. -/
import Derived.Test.YtljdkjjjnlcflaaDoorProg
import Derived.Test.YtljdkjjjnlcflaaDoorPtMath
namespace Go.Proofs.YtljdkjjjnlcflaaDoor
open Go.RowKit Pt

set_option maxHeartbeats 400000 in
theorem isFrom_any (x lo hi : Int) (w : World) : Calls Tryd.prog 73 #[.int .i64 x, .int .i64 lo, .int .i64 hi] w (Ret (.bool (decide (lo ≤ x ∧ x ≤ hi))) w) := by
  go_enter Tryd.func73, Tryd.ntmps73
  go_wp2
  all_goals go_ret
  all_goals exact Ret.mk (bool_eq (by rw [Bool.eq_iff_iff]; simp; omega)) (Below.refl _ _)

set_option maxHeartbeats 400000 in
theorem isFromU_any (x lo hi : Int) (w : World) : Calls Tryd.prog 74 #[.int .u64 x, .int .u64 lo, .int .u64 hi] w (Ret (.bool (decide (lo ≤ x ∧ x ≤ hi))) w) := by
  go_enter Tryd.func74, Tryd.ntmps74
  go_wp2
  all_goals go_ret
  all_goals exact Ret.mk (bool_eq (by rw [Bool.eq_iff_iff]; simp; omega)) (Below.refl _ _)

set_option maxHeartbeats 1000000 in
theorem objMay_any (c : Cf) (w : World) : Calls Tryd.prog 71 #[cfv c] w (Ret (.bool (decide (ObjOk c))) w) := by
  unfold cfv
  go_enter Tryd.func71, Tryd.ntmps71
  go_wp2_with (go_at_call 73; refine (isFrom_any _ _ _ _).mono ?_; rintro e w1 ⟨rfl, hb1⟩; obtain ⟨hc1, hf1⟩ := bcell hb1)
  all_goals go_ret
  all_goals refine Ret.mk (bool_eq ?_) (by first | exact below_one _ _ | exact below_b1 (by assumption) | exact below_b2 (by assumption) (by assumption))
  all_goals (simp only [beq_iff_eq, beq_eq_false_iff_ne] at *; rw [Bool.eq_iff_iff]; simp only [beq_iff_eq, decide_eq_true_eq, Bool.and_eq_true, Bool.false_eq_true, false_iff]; unfold ObjOk; omega)

set_option maxHeartbeats 1000000 in
theorem indMay_any (c : Cf) (w : World) : Calls Tryd.prog 72 #[cfv c] w (Ret (.bool (decide (IndOk c))) w) := by
  unfold cfv
  go_enter Tryd.func72, Tryd.ntmps72
  go_wp2_with (first
    | (go_at_call 73; refine (isFrom_any _ _ _ _).mono ?_; rintro e w1 ⟨rfl, hb1⟩; obtain ⟨hc1, hf1⟩ := bcell hb1)
    | (go_at_call 74; refine (isFromU_any _ _ _ _).mono ?_; rintro e w1 ⟨rfl, hb1⟩; obtain ⟨hc1, hf1⟩ := bcell hb1))
  all_goals go_ret
  all_goals refine Ret.mk (bool_eq ?_) (by first | exact below_one _ _ | exact below_b1 (by assumption) | exact below_b2 (by assumption) (by assumption))
  all_goals (simp only [beq_iff_eq, beq_eq_false_iff_ne] at *; rw [Bool.eq_iff_iff]; simp only [beq_iff_eq, decide_eq_true_eq, Bool.and_eq_true, Bool.false_eq_true, false_iff]; unfold IndOk; omega)

theorem and_f {P Q : Prop} [Decidable P] [Decidable Q] (h : P → Q) (hq : Q → P) : decide P = decide Q := by
  rw [Bool.eq_iff_iff]; simp only [decide_eq_true_eq]; exact ⟨h, hq⟩

set_option maxHeartbeats 2000000 in
theorem mayBe_cfg (c : Cf) (w : World) : Calls Tryd.prog 57 #[cfv c] w (Ret (.bool (okB c)) w) := by
  by_cases ho : ObjOk c
  · have do' := decide_eq_true ho
    by_cases hi : IndOk c
    · have di := decide_eq_true hi
      have e : okB c = decide (RestOk c) := and_f (P := Ok c) (fun h => h.2.2) (fun h => ⟨ho, hi, h⟩)
      rw [e]
      clear ho hi e
      unfold cfv
      go_enter Tryd.func57, Tryd.ntmps57
      go_wp2_with (first
        | (go_at_call 71; refine (objMay_any c _).mono ?_; rintro e w1 ⟨rfl, hb1⟩; rw [do']; obtain ⟨hc1, hf1⟩ := bcell hb1)
        | (go_at_call 72; refine (indMay_any c _).mono ?_; rintro e w2 ⟨rfl, hb2⟩; rw [di]; have hb1 := below_then hb1 hb2; clear hb2 hc1 hf1; obtain ⟨hc1, hf1⟩ := bcell hb1)
        | (go_at_call 73; refine (isFrom_any _ _ _ _).mono ?_; rintro e w2 ⟨rfl, hb2⟩; have hb1 := below_then hb1 hb2; clear hb2 hc1 hf1; obtain ⟨hc1, hf1⟩ := bcell hb1)
        | (go_at_call 74; refine (isFromU_any _ _ _ _).mono ?_; rintro e w2 ⟨rfl, hb2⟩; have hb1 := below_then hb1 hb2; clear hb2 hc1 hf1; obtain ⟨hc1, hf1⟩ := bcell hb1))
      all_goals clear hc1 hf1
      all_goals go_ret
      all_goals refine Ret.mk (bool_eq ?_) (below_b1 hb1)
      all_goals (rw [Bool.eq_iff_iff]; simp only [decide_eq_true_eq, Bool.and_eq_true, Bool.false_eq_true, false_iff]; unfold RestOk; omega)
    · have di := decide_eq_false hi
      have e : okB c = false := decide_eq_false fun h => hi h.2.1
      rw [e]
      clear ho hi e
      unfold cfv
      go_enter Tryd.func57, Tryd.ntmps57
      go_wp2_with (first
        | (go_at_call 71; refine (objMay_any c _).mono ?_; rintro e w1 ⟨rfl, hb1⟩; rw [do']; obtain ⟨hc1, hf1⟩ := bcell hb1)
        | (go_at_call 72; refine (indMay_any c _).mono ?_; rintro e w2 ⟨rfl, hb2⟩; rw [di]; have hb1 := below_then hb1 hb2; clear hb2 hc1 hf1; obtain ⟨hc1, hf1⟩ := bcell hb1))
      go_ret
      exact Ret.mk rfl (below_b1 hb1)
  · have do' := decide_eq_false ho
    have e : okB c = false := decide_eq_false fun h => ho h.1
    rw [e]
    clear ho e
    unfold cfv
    go_enter Tryd.func57, Tryd.ntmps57
    go_wp2_with (go_at_call 71; refine (objMay_any c _).mono ?_; rintro e w1 ⟨rfl, hb1⟩; rw [do']; obtain ⟨hc1, hf1⟩ := bcell hb1)
    go_ret
    exact Ret.mk rfl (below_b1 hb1)

set_option maxHeartbeats 400000 in
theorem check_any (c : Cf) (w : World) : Calls Tryd.prog 37 #[cfv c] w (Ret (.int .i64 (Pt.err (okB c))) w) := by
  cases e : okB c with
  | true =>
    unfold cfv
    go_enter Tryd.func37, Tryd.ntmps37
    go_wp2_with (go_at_call 57; refine (mayBe_cfg c _).mono ?_; rintro e w1 ⟨rfl, hb1⟩; rw [e])
    go_ret
    exact Ret.mk rfl (below_b1 hb1)
  | false =>
    unfold cfv
    go_enter Tryd.func37, Tryd.ntmps37
    go_wp2_with (go_at_call 57; refine (mayBe_cfg c _).mono ?_; rintro e w1 ⟨rfl, hb1⟩; rw [e])
    go_ret
    exact Ret.mk rfl (below_b1 hb1)
end Go.Proofs.YtljdkjjjnlcflaaDoor
