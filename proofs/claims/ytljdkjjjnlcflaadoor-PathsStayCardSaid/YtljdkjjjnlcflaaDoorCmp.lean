/- cmp.Compare at numbers without a sign. -/
import Derived.Test.YtljdkjjjnlcflaaDoorTbPos
namespace Go.Proofs.YtljdkjjjnlcflaaDoor
open Go.RowKit Tb

set_option maxHeartbeats 1000000 in
theorem nan_any (x : Nat) (w : World) : Calls Tryd.prog 75 #[.int .u64 x] w (Ret (.bool false) w) := by
  go_enter Tryd.func75, Tryd.ntmps75
  go_wp2
  go_ret
  exact Ret.mk (by simp) (Below.refl _ _)

/-- What a comparison says. -/
def cmpI (x y : Nat) : Int := if x < y then -1 else if y < x then 1 else 0

set_option maxHeartbeats 1000000 in
theorem compare_any (x y : Nat) (w : World) : Calls Tryd.prog 64 #[.int .u64 x, .int .u64 y] w (Ret (.int .i64 (cmpI x y)) w) := by
  have e : ∀ c, cmpI x y = c → Ret (.int .i64 (cmpI x y)) w = Ret (.int .i64 c) w := fun c h => by rw [h]
  by_cases h1 : x < y
  · rw [e (-1) (by unfold cmpI; rw [if_pos h1])]
    have i1 : (x : Int) < (y : Int) := by omega
    go_enter Tryd.func64, Tryd.ntmps64
    go_wp2_with (go_at_call 75; refine (nan_any _ _).mono ?_; rintro e w' ⟨rfl, hb⟩)
    go_ret
    exact Ret.mk rfl (by refine below_then ?_ hb; assumption)
  · by_cases h2 : y < x
    · rw [e 1 (by unfold cmpI; rw [if_neg h1, if_pos h2])]
      have i1 : ¬ (x : Int) < (y : Int) := by omega
      have i2 : (x : Int) > (y : Int) := by omega
      go_enter Tryd.func64, Tryd.ntmps64
      go_wp2_with (go_at_call 75; refine (nan_any _ _).mono ?_; rintro e w' ⟨rfl, hb⟩)
      go_ret
      exact Ret.mk rfl (by refine below_then ?_ hb; assumption)
    · rw [e 0 (by unfold cmpI; rw [if_neg h1, if_neg h2])]
      obtain rfl : x = y := by omega
      go_enter Tryd.func64, Tryd.ntmps64
      go_wp2_with (go_at_call 75; refine (nan_any _ _).mono ?_; rintro e w' ⟨rfl, hb⟩)
      go_ret
      exact Ret.mk rfl (by refine below_then ?_ hb; assumption)

theorem cmp_lt {x k : Nat} : cmpI x k < 0 ↔ x < k := by unfold cmpI; split <;> (try split) <;> omega
theorem cmp_eq {x k : Nat} : cmpI x k = 0 ↔ x = k := by unfold cmpI; split <;> (try split) <;> omega
end Go.Proofs.YtljdkjjjnlcflaaDoor
