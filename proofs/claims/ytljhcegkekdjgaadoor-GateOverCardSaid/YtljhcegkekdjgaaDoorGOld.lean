/- The document's own answer on the node above one. The document's own answer on how wide a node may be. The document's own answers on the levels of a row: widths, items, the top. The document's own answer on which configs may be. The document's own answer on how great an object is. -/
import Derived.Test.YtljhcegkekdjgaaDoorProg
import Derived.Test.YtljhcegkekdjgaaDoorGMath
import Derived.Deep.LoopGhost
import Derived.RegionTactic
import Derived.BigRegion
import Derived.BigQuiet
import Derived.Deep.QuietTactic
import Derived.Test.YtljhcegkekdjgaaDoorGKit
namespace Go.Proofs.YtljhcegkekdjgaaDoor
open Go.RowKit
end Go.Proofs.YtljhcegkekdjgaaDoor

namespace Go.Proofs.YtljhcegkekdjgaaDoor
open Go.RowKit

set_option maxHeartbeats 400000 in
theorem rWide_any (n : Int) (w : World) :
    Calls Tryd.prog 47 #[.int .i64 n] w (Ret (.bool (decide (2 ≤ n ∧ n ≤ 4))) w) := by
  go_enter Tryd.func47, Tryd.ntmps47
  go_wp2
  all_goals go_ret
  all_goals exact Ret.mk (bool_eq (by rw [Bool.eq_iff_iff]; simp; omega)) (Below.refl _ _)
end Go.Proofs.YtljhcegkekdjgaaDoor

namespace Go.Proofs.YtljhcegkekdjgaaDoor
open Go.RowKit
end Go.Proofs.YtljhcegkekdjgaaDoor

namespace Go.Proofs.YtljhcegkekdjgaaDoor
open Go.RowKit Pt

theorem ok_true {c : Cf} (h : Ok c) : true = okB c := (decide_eq_true h).symm
theorem ok_false {c : Cf} (h : ¬ Ok c) : false = okB c := (decide_eq_false h).symm

set_option maxHeartbeats 4000000 in
theorem rMayBe_any (c : Cf) (w : World) : Calls Tryd.prog 26 #[cfv c] w (Ret (.bool (okB c)) w) := by
  unfold cfv
  go_enter Tryd.func26, Tryd.ntmps26
  go_wp2_with (go_at_call 47; refine (rWide_any c.node _).mono ?_; rintro e w1 ⟨rfl, hb1⟩; obtain ⟨hc1, hf1⟩ := bcell hb1)
  all_goals go_ret
  all_goals refine Ret.mk (bool_eq (Bool.eq_iff_iff.2 ?_)) (by first | exact below_one _ _ | exact below_b1 (by assumption))
  all_goals (try (simp only [beq_iff_eq, beq_eq_false_iff_ne, bne_iff_ne, bne_eq_false_iff_eq] at *))
  all_goals (unfold okB; simp only [decide_eq_true_eq, Bool.false_eq_true, false_iff]; unfold Ok ObjOk IndOk RestOk; omega)
end Go.Proofs.YtljhcegkekdjgaaDoor

namespace Go.Proofs.YtljhcegkekdjgaaDoor
open Go.RowKit Pt
end Go.Proofs.YtljhcegkekdjgaaDoor
