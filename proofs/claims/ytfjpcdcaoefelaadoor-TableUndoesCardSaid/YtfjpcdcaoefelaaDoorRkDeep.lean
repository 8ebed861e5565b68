/- The document's own answers on a node's depth, and on the node above one. -/
import Derived.Test.YtfjpcdcaoefelaaDoorProg
import Derived.Test.YtfjpcdcaoefelaaDoorBase
import Derived.Test.YtfjpcdcaoefelaaDoorRkMath
namespace Go.Proofs.YtfjpcdcaoefelaaDoor
open Go.RowKit

set_option maxHeartbeats 400000 in
theorem rDeep_any (n : Int) (h : Rk.isN n = true) (w : World) :
    Calls Tryd.prog 68 #[.int .i64 n] w (Ret (.int .i64 (Rk.dep n)) w) := by
  have H := Lib.hid (Rk.isN_true h)
  have HD := Lib.hid (Rk.dep_bounds h)
  clear h
  go_enter Tryd.func68, Tryd.ntmps68
  go_wp2
  go_loop [0, 3] (fun v d => ∃ m k : Nat, 1 ≤ m ∧ m ≤ 127 ∧ (m.log2 : Int) + k = Rk.dep n ∧ v = .int .i64 m ∧ d = .int .i64 k) (fun v _ => (intOf v).toNat)
  case atStart =>
    have hn := H.out
    exact ⟨n.toNat, 0, by omega, by omega, by unfold Rk.dep; omega, i64_eq (by omega), rfl⟩
  case round =>
    obtain ⟨m, k, hm, hM, he, rfl, rfl⟩ := hrel
    by_cases hlt : 2 ≤ m
    · have e1 := Rk.log2_half m hlt
      have hD := HD.out
      have t1 : (1 : Int) < m := by omega
      have t2 : (k : Int) < 100 := by omega
      go_wp2
      go_round
      case rel => exact ⟨m / 2, k + 1, by omega, by omega, by omega, i64_eq (by omega), i64_eq (by omega)⟩
      case measure => simp [intOf]; omega
    · obtain rfl : m = 1 := by omega
      go_wp2
      go_ret
      exact Ret.mk (i64_eq (by rw [Rk.log2_one] at he; omega)) (Below.refl _ _)

set_option maxHeartbeats 400000 in
theorem rAbove_nat (N K : Nat) (hN : N ≤ 127) (hK : K ≤ 6) (w : World) :
    Calls Tryd.prog 78 #[.int .i64 N, .int .i64 K] w (Ret (.int .i64 (N / 2 ^ K : Nat)) w) := by
  go_enter Tryd.func78, Tryd.ntmps78
  go_wp2
  go_loop [0, 5] (fun v i => ∃ j : Nat, j ≤ K ∧ v = .int .i64 (N / 2 ^ j : Nat) ∧ i = .int .i64 j) (fun _ i => K - (intOf i).toNat)
  case atStart => exact ⟨0, Nat.zero_le _, by simp, rfl⟩
  case round =>
    obtain ⟨j, hj, rfl, rfl⟩ := hrel
    by_cases hlt : j < K
    · have e1 := Lib.hid (Rk.half N j)
      have e2 : N / 2 ^ j ≤ 127 := Nat.le_trans (Nat.div_le_self _ _) hN
      generalize N / 2 ^ j = q at *
      go_wp2
      go_round
      case rel => exact ⟨j + 1, by omega, i64_eq (by rw [e1.out]; simp), by go_num⟩
      case measure => simp [intOf]; omega
    · obtain rfl : j = K := by omega
      go_wp2
      go_ret
      exact Ret.mk (rfl) (Below.refl _ _)
end Go.Proofs.YtfjpcdcaoefelaaDoor
