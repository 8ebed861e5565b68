/- The document's own answer on how wide a node may be. -/
import Derived.Test.YtljdkjjjnlcflaaDoorProg
import Derived.Test.YtljdkjjjnlcflaaDoorBase
namespace Go.Proofs.YtljdkjjjnlcflaaDoor
open Go.RowKit

set_option maxHeartbeats 400000 in
theorem rWide_any (n : Int) (w : World) :
    Calls Tryd.prog 51 #[.int .i64 n] w (Ret (.bool (decide (2 ≤ n ∧ n ≤ 4))) w) := by
  go_enter Tryd.func51, Tryd.ntmps51
  go_wp2
  all_goals go_ret
  all_goals exact Ret.mk (bool_eq (by rw [Bool.eq_iff_iff]; simp; omega)) (Below.refl _ _)
end Go.Proofs.YtljdkjjjnlcflaaDoor
