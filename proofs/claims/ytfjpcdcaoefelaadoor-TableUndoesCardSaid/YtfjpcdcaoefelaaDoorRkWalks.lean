/- Package rank: a trie's nodes, for every number. -/
import Derived.Test.YtfjpcdcaoefelaaDoorProg
import Derived.Test.YtfjpcdcaoefelaaDoorBase
import Derived.Test.YtfjpcdcaoefelaaDoorRkMath
import Derived.Lib.Walk
import Derived.Lib.Strings
import Derived.Lib.Slices
import Derived.Lib.Small
import Derived.Lib.BitFns
namespace Go.Proofs.YtfjpcdcaoefelaaDoor
open Go.RowKit

set_option maxHeartbeats 400000 in
theorem isNode_any (n : Int) (w : World) :
    Calls Tryd.prog 35 #[.int .i64 n] w (Ret (.bool (Rk.isN n)) w) := by
  go_enter Tryd.func35, Tryd.ntmps35
  go_wp2
  all_goals go_ret
  all_goals exact Ret.mk (bool_eq (by unfold Rk.isN; rw [Bool.eq_iff_iff]; simp; omega)) (Below.refl _ _)

set_option maxRecDepth 100000 in
set_option maxHeartbeats 1000000 in
theorem len64_any (x : Int) (h0 : 0 ≤ x) (h1 : x ≤ 127) (w : World) :
    Calls Tryd.prog 70 #[.int .u64 x] w (Ret (.int .i64 (Lib.bitLen x.toNat)) w) := by
  go_enter Tryd.func70, Tryd.ntmps70
  go_wp2
  go_ret
  exact Ret.mk (i64_eq (Rk.tab_small ⟨x.toNat, by omega⟩)) (Below.refl _ _)

theorem len_any (x : Int) (h0 : 0 ≤ x) (h1 : x ≤ 127) (w : World) :
    Calls Tryd.prog 54 #[.int .u64 x] w (Ret (.int .i64 (Lib.bitLen x.toNat)) w) := by
  go_enter Tryd.func54, Tryd.ntmps54
  go_wp2_with (go_at_call 70; refine (len64_any x h0 h1 _).mono ?_; rintro e w' ⟨rfl, hb⟩)
  go_ret
  exact Ret.mk rfl hb

theorem depthOf_any (x : Int) (h : Rk.isN x = true) (w : World) :
    Calls Tryd.prog 36 #[.int .i64 x] w (Ret (.int .i64 (Rk.dep x)) w) := by
  have h0 : 0 ≤ x := by have := Rk.isN_true h; omega
  have h1 : x ≤ 127 := by have := Rk.isN_true h; omega
  have hL := Rk.len_dep h
  obtain ⟨d0, d1⟩ := Rk.dep_bounds h
  clear h
  go_enter Tryd.func36, Tryd.ntmps36
  go_wp2_with (go_at_call 54; refine (len_any x h0 h1 _).mono ?_; rintro e w' ⟨rfl, hb⟩; rw [hL])
  go_ret
  exact Ret.mk (i64_eq (by omega)) hb

set_option maxHeartbeats 400000 in
theorem over_any (n k : Int) (w : World) :
    Calls Tryd.prog 21 #[.int .i64 n, .int .i64 k] w (Ret2 (.int .i64 (Rk.val (Rk.okO n k) (Rk.over n k))) (.int .i64 (Rk.err (Rk.okO n k))) w) := by
  cases h : Rk.isN n with
  | false =>
    have e : Rk.okO n k = false := by unfold Rk.okO; rw [h]; rfl
    rw [e]
    clear e
    go_enter Tryd.func21, Tryd.ntmps21
    go_wp2_with (go_at_call 35; refine (isNode_any n _).mono ?_; rintro e w' ⟨rfl, hb⟩)
    go_ret2
    exact Ret2.mk rfl rfl hb
  | true =>
    have h0 : 0 ≤ n := by have := Rk.isN_true h; omega
    have h1 : n ≤ 127 := by have := Rk.isN_true h; omega
    obtain ⟨d0, d1⟩ := Rk.dep_bounds h
    go_enter Tryd.func21, Tryd.ntmps21
    go_wp2_with (first
      | (go_at_call 35; refine (isNode_any n _).mono ?_; rintro e w' ⟨rfl, hb⟩)
      | (go_at_call 36; refine (depthOf_any n h _).mono ?_; rintro e w2 ⟨rfl, hb2⟩))
    · go_ret2
      exact Ret2.mk (i64_eq (Rk.val_f (Rk.okO_f (by omega)))) (i64_eq (Rk.err_f (Rk.okO_f (by omega)))) (below_then hb hb2)
    · go_ret2
      exact Ret2.mk (i64_eq (Rk.val_t (Rk.okO_t h (by omega) (by omega)) (Rk.over_eq h0))) (i64_eq (Rk.err_t (Rk.okO_t h (by omega) (by omega)))) (below_then hb hb2)
    · go_ret2
      exact Ret2.mk (i64_eq (Rk.val_f (Rk.okO_f (by omega)))) (i64_eq (Rk.err_f (Rk.okO_f (by omega)))) hb

set_option maxHeartbeats 1000000 in
theorem node_any (l p : Int) (w : World) :
    Calls Tryd.prog 18 #[.int .i64 l, .int .i64 p] w (Ret2 (.int .i64 (Rk.val (Rk.okP l p) (Rk.node l p))) (.int .i64 (Rk.err (Rk.okP l p))) w) := by
  by_cases h : 0 ≤ l ∧ l ≤ 6
  · obtain ⟨h0, h6⟩ := h
    rcases Rk.two_cases h0 h6 with rfl | rfl | rfl | rfl | rfl | rfl | rfl
    all_goals
      go_enter Tryd.func18, Tryd.ntmps18
      go_wp2
    all_goals go_ret2
    all_goals first
      | exact Ret2.mk (i64_eq (Rk.val_t (Rk.okP_t h0 h6 (by omega) (by simp; omega)) rfl)) (i64_eq (Rk.err_t (Rk.okP_t h0 h6 (by omega) (by simp; omega)))) (Below.refl _ _)
      | exact Ret2.mk (i64_eq (Rk.val_f (Rk.okP_f2 (by simp; omega)))) (i64_eq (Rk.err_f (Rk.okP_f2 (by simp; omega)))) (Below.refl _ _)
  · have e : Rk.okP l p = false := Rk.okP_f (by omega)
    rw [e]
    clear e
    go_enter Tryd.func18, Tryd.ntmps18
    go_wp2
    all_goals first
      | omega
      | (go_ret2; exact Ret2.mk rfl rfl (Below.refl _ _))
end Go.Proofs.YtfjpcdcaoefelaaDoor
