/- The program of a table of routes, the program's own: Next and After, of whatever config and frame. -/
import Derived.Test.YtjhgccfnihbokaaDoorTrPm
import Derived.Test.YtjhgccfnihbokaaDoorTrPn
import Derived.Test.YtjhgccfnihbokaaDoorTrPo
namespace Go.Proofs.YtjhgccfnihbokaaDoor
open Go.RowKit Go.Lib Pt Opn

theorem tNext_any (c : Cf) (f : Ds) (hw : DWf f) (w : World) (hO : Obs w) : Calls Tryd.prog 8 #[cfv c, frv f] w (Ret2 (acv (nextT c f).1) (.int .i64 (nextT c f).2) w) := by
  unfold nextT
  by_cases h1 : Ok c ∧ c.obj = 1
  · rw [if_neg (not_not_intro h1)]
    by_cases h2 : TMay c f
    · rw [if_neg (not_not_intro h2)]
      exact pNext_good c f h1.1 h1.2 h2 hw w hO
    · rw [if_pos h2]
      exact pNext_bad c f 2 (by unfold chkT; rw [if_neg (not_not_intro h1), if_pos h2]) (by decide) hw w hO
  · rw [if_pos h1]
    exact pNext_bad c f 40 (by unfold chkT; rw [if_pos h1]) (by decide) hw w hO
theorem tAfter_any (c : Cf) (f : Ds) (hw : DWf f) (t A B C : Nat) (_ : t < 18446744073709551616) (_ : A < 18446744073709551616) (_ : B < 18446744073709551616) (_ : C < 18446744073709551616) (w : World) (hO : Obs w) :
    Calls Tryd.prog 10 #[cfv c, frv f, .agg #[.int .u64 t, .int .u64 A, .int .u64 B, .int .u64 C]] w (Ret2 (frv (afterT c f A B).1) (.int .i64 (afterT c f A B).2) w) := by
  unfold afterT
  by_cases h1 : Ok c ∧ c.obj = 1
  · rw [if_neg (not_not_intro h1)]
    by_cases h2 : TMay c f
    · rw [if_neg (not_not_intro h2)]
      exact pAfter_good c f t A B C h1.1 h1.2 h2 hw w hO
    · rw [if_pos h2]
      exact pAfter_bad c f t A B C 2 (by unfold chkT; rw [if_neg (not_not_intro h1), if_pos h2]) (by decide) hw w hO
  · rw [if_pos h1]
    exact pAfter_bad c f t A B C 40 (by unfold chkT; rw [if_pos h1]) (by decide) hw w hO
end Go.Proofs.YtjhgccfnihbokaaDoor
