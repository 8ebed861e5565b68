/- The document's own answer on the node above one. The document's own answer on how wide a node may be. The document's own answer on which configs may be. -/
import Derived.Test.YtjhgccfnihbokaaDoorProg
import Derived.Test.YtjhgccfnihbokaaDoorGMath
import Derived.RegionTactic
import Derived.BigRegion
import Derived.BigQuiet
import Derived.Deep.QuietTactic
namespace Go.Proofs.YtjhgccfnihbokaaDoor
open Go.RowKit

set_option maxHeartbeats 400000 in
theorem rAboveI (N : Nat) (k : Int) (K : Nat) (hN : N ≤ 127) (hk : k = K) (hK : K ≤ 6) (w : World) :
    Calls Tryd.prog 51 #[.int .i64 N, .int .i64 k] w (Ret (.int .i64 (N / 2 ^ K : Nat)) w) := by
  subst hk
  go_enter Tryd.func51, Tryd.ntmps51
  go_wp2
  go_loop [0, 5] (fun v i => ∃ j : Nat, j ≤ K ∧ v = .int .i64 (N / 2 ^ j : Nat) ∧ i = .int .i64 j) (fun _ i => K - (intOf i).toNat)
  case atStart => exact ⟨0, Nat.zero_le _, by simp, rfl⟩
  case round =>
    obtain ⟨j, hj, rfl, rfl⟩ := hrel
    by_cases hlt : j < K
    · have e1 := Lib.hid (Rk.half N j)
      have e2 : N / 2 ^ j ≤ 127 := Nat.le_trans (Nat.div_le_self _ _) hN
      generalize N / 2 ^ j = q at *
      go_wp2
      go_round
      case rel => exact ⟨j + 1, by omega, i64_eq (by rw [e1.out]; simp), by go_num⟩
      case measure => simp [intOf]; omega
    · obtain rfl : j = K := by omega
      go_wp2
      go_ret
      exact Ret.mk (rfl) (Below.refl _ _)
end Go.Proofs.YtjhgccfnihbokaaDoor

namespace Go.Proofs.YtjhgccfnihbokaaDoor
open Go.RowKit

set_option maxHeartbeats 400000 in
theorem rWide_any (n : Int) (w : World) :
    Calls Tryd.prog 47 #[.int .i64 n] w (Ret (.bool (decide (2 ≤ n ∧ n ≤ 4))) w) := by
  go_enter Tryd.func47, Tryd.ntmps47
  go_wp2
  all_goals go_ret
  all_goals exact Ret.mk (bool_eq (by rw [Bool.eq_iff_iff]; simp; omega)) (Below.refl _ _)
end Go.Proofs.YtjhgccfnihbokaaDoor

namespace Go.Proofs.YtjhgccfnihbokaaDoor
open Go.RowKit Pt

theorem ok_true {c : Cf} (h : Ok c) : true = okB c := (decide_eq_true h).symm
theorem ok_false {c : Cf} (h : ¬ Ok c) : false = okB c := (decide_eq_false h).symm

set_option maxHeartbeats 4000000 in
theorem rMayBe_any (c : Cf) (w : World) : Calls Tryd.prog 27 #[cfv c] w (Ret (.bool (okB c)) w) := by
  unfold cfv
  go_enter Tryd.func27, Tryd.ntmps27
  go_wp2_with (go_at_call 47; refine (rWide_any c.node _).mono ?_; rintro e w1 ⟨rfl, hb1⟩; obtain ⟨hc1, hf1⟩ := bcell hb1)
  all_goals go_ret
  all_goals refine Ret.mk (bool_eq (Bool.eq_iff_iff.2 ?_)) (by first | exact below_one _ _ | exact below_b1 (by assumption))
  all_goals (try (simp only [beq_iff_eq, beq_eq_false_iff_ne, bne_iff_ne, bne_eq_false_iff_eq] at *))
  all_goals (unfold okB; simp only [decide_eq_true_eq, Bool.false_eq_true, false_iff]; unfold Ok ObjOk IndOk RestOk; omega)
end Go.Proofs.YtjhgccfnihbokaaDoor
