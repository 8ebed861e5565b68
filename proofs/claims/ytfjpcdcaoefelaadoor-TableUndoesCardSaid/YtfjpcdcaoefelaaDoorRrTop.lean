/- The document's own answers on the levels of a row: widths, items, the top. -/
import Derived.Test.YtfjpcdcaoefelaaDoorProg
import Derived.Test.YtfjpcdcaoefelaaDoorBase
import Derived.Test.YtfjpcdcaoefelaaDoorRrMath
import Derived.Test.YtfjpcdcaoefelaaDoorRrWide
import Derived.Deep.LoopGhost
namespace Go.Proofs.YtfjpcdcaoefelaaDoor
open Go.RowKit

set_option maxHeartbeats 1000000 in
theorem rItems_nat (m n h : Nat) (h1 : m ≤ 32) (h2 : 2 ≤ n) (h4 : n ≤ 4) (hh : h ≤ 4) (w : World) :
    Calls Tryd.prog 53 #[.int .i64 m, .int .i64 n, .int .i64 h] w (Ret (.int .i64 (Rk.items m n h : Nat)) w) := by
  go_enter Tryd.func53, Tryd.ntmps53
  go_wp2
  go_loopg [0, 7] h (fun g mv kv wr => w = wr ∧ ∃ k : Nat, k ≤ h ∧ g = h - k ∧ kv = .int .i64 k ∧ mv = .int .i64 (Rk.items m n k : Nat))
  case atStart => exact ⟨rfl, 0, Nat.zero_le _, rfl, rfl, by rw [Rk.items_zero]⟩
  case round =>
    obtain ⟨rfl, k, hk, rfl, rfl, rfl⟩ := hrel
    by_cases hlt : k < h
    · have q1 := Rk.items_le h1 h2 h4 (show k ≤ 4 by omega)
      have qs := Lib.hid (Rk.items_succ h1 h2 h4 (show k ≤ 4 by omega))
      generalize Rk.items m n k = q at *
      go_wp2
      go_loopg [8, 9] 33 (fun g nv iv wi => w = wi ∧ ∃ j t : Nat, j ≤ 32 ∧ g = 33 - j ∧ nv = .int .i64 j ∧ iv = .int .i64 t ∧ t = j * n ∧ t < q + n)
      case atStart => exact ⟨rfl, 0, 0, by omega, rfl, rfl, rfl, by simp, by omega⟩
      case round =>
        obtain ⟨rfl, j, t, hj, rfl, rfl, rfl, ht, htq⟩ := hrel
        have hjt := Rk.le_mul ht h2
        have HT := Lib.hid ht
        clear ht
        by_cases hin : t < q
        · go_wp2
          go_roundg (33 - (j + 1))
          case measure => omega
          case rel => exact ⟨rfl, j + 1, t + n, by omega, rfl, by go_num, by go_num, Rk.mul_step HT.out, by omega⟩
        · go_wp2
          go_roundg (h - (k + 1))
          case measure => omega
          case rel => exact ⟨rfl, k + 1, by omega, rfl, by go_num, i64_eq (by rw [← qs.out, Rk.ceil_at HT.out (by omega) htq])⟩
    · obtain rfl : k = h := by omega
      go_wp2
      go_ret
      exact Ret.mk rfl (Below.refl _ _)

set_option maxHeartbeats 1000000 in
theorem rTop_nat (m n : Nat) (h1 : m ≤ 32) (h2 : 2 ≤ n) (h4 : n ≤ 4) (w : World) :
    Calls Tryd.prog 52 #[.int .i64 m, .int .i64 n] w (Ret (.int .i64 (Rk.top m n : Nat)) w) := by
  go_enter Tryd.func52, Tryd.ntmps52
  go_wp2
  go_loopg [5] 5 (fun g kv wr => ∃ k : Nat, k ≤ 4 ∧ g = 5 - k ∧ (∀ j, j < k → n < Rk.items m n j) ∧ kv = .int .i64 k ∧ Below w.heap.size w wr)
  case atStart => exact ⟨0, by omega, rfl, fun j hj => by omega, rfl, Below.refl _ _⟩
  case round =>
    obtain ⟨k, hk, rfl, hlo, rfl, hbr⟩ := hrel
    have HLO := Lib.hid hlo
    clear hlo
    by_cases hle : Rk.items m n k ≤ n
    · have et := Lib.hid (Rk.top_first HLO.out hle h1 h2 h4)
      go_wp2_with (go_at_call 53; refine (rItems_nat m n k h1 h2 h4 hk _).mono ?_; rintro e w2 ⟨rfl, hb2⟩)
      go_ret
      exact Ret.mk (i64_eq (by rw [et.out])) (below_then hbr hb2)
    · have hk4 : k < 4 := by
        rcases Nat.lt_or_ge k 4 with g | g
        · exact g
        · obtain rfl : k = 4 := by omega
          exact absurd (Rk.items_four h1 h2 h4) hle
      go_wp2_with (go_at_call 53; refine (rItems_nat m n k h1 h2 h4 hk _).mono ?_; rintro e w2 ⟨rfl, hb2⟩)
      go_roundg (5 - (k + 1))
      case measure => omega
      case rel =>
        refine ⟨k + 1, by omega, rfl, fun j hj => ?_, by go_num, below_then hbr hb2⟩
        by_cases e : j = k
        · subst e; omega
        · exact HLO.out j (by omega)
end Go.Proofs.YtfjpcdcaoefelaaDoor
