/- The document's own answer on which configs may be. -/
import Derived.Test.YtljdkjjjnlcflaaDoorPtRefMath
import Derived.Test.YtljdkjjjnlcflaaDoorRrWide
import Derived.RegionTactic
import Derived.BigRegion
import Derived.BigQuiet
import Derived.Deep.QuietTactic
namespace Go.Proofs.YtljdkjjjnlcflaaDoor
open Go.RowKit Pt

theorem ok_true {c : Cf} (h : Ok c) : true = okB c := (decide_eq_true h).symm
theorem ok_false {c : Cf} (h : ¬ Ok c) : false = okB c := (decide_eq_false h).symm

set_option maxHeartbeats 4000000 in
theorem rMayBe_any (c : Cf) (w : World) : Calls Tryd.prog 28 #[cfv c] w (Ret (.bool (okB c)) w) := by
  unfold cfv
  go_enter Tryd.func28, Tryd.ntmps28
  go_wp2_with (go_at_call 51; refine (rWide_any c.node _).mono ?_; rintro e w1 ⟨rfl, hb1⟩; obtain ⟨hc1, hf1⟩ := bcell hb1)
  all_goals go_ret
  all_goals refine Ret.mk (bool_eq (Bool.eq_iff_iff.2 ?_)) (by first | exact below_one _ _ | exact below_b1 (by assumption))
  all_goals (try (simp only [beq_iff_eq, beq_eq_false_iff_ne, bne_iff_ne, bne_eq_false_iff_eq] at *))
  all_goals (unfold okB; simp only [decide_eq_true_eq, Bool.false_eq_true, false_iff]; unfold Ok ObjOk IndOk RestOk; omega)
end Go.Proofs.YtljdkjjjnlcflaaDoor
