/- Two cells, or two operations, that are compared. -/
import Derived.Test.YtpepahecjkkpbaaProg
import Derived.Test.YtpepahecjkkpbaaOpMath
namespace Go.Proofs.Ytpepahecjkkpbaa
open Go.RowKit Opn

set_option maxHeartbeats 1000000 in
theorem eq_cell_int (t a b c t' a' b' c' : Int) (W : World) :
    (binOp .eql 29 (.agg #[.int .u64 t, .int .u64 a, .int .u64 b, .int .u64 c]) (.agg #[.int .u64 t', .int .u64 a', .int .u64 b', .int .u64 c'])).run Try.prog W = .ok (.bool (decide (t = t' ∧ a = a' ∧ b = b' ∧ c = c'))) W := by
  by_cases h0 : t = t'
  · by_cases h1 : a = a'
    · by_cases h2 : b = b'
      · by_cases h3 : c = c'
        · go_simp
        · go_simp
      · go_simp
    · go_simp
  · go_simp
theorem eq_cell (t a b c t' a' b' c' : Nat) (r : Bool) (hr : decide (t = t' ∧ a = a' ∧ b = b' ∧ c = c') = r) (W : World) :
    (binOp .eql 29 (.agg #[.int .u64 t, .int .u64 a, .int .u64 b, .int .u64 c]) (.agg #[.int .u64 t', .int .u64 a', .int .u64 b', .int .u64 c'])).run Try.prog W = .ok (.bool r) W := by
  rw [eq_cell_int, ← hr]
  congr 2
  rw [decide_eq_decide]
  omega

set_option maxHeartbeats 1000000 in
theorem eq_op_int (t a b c t' a' b' c' : Int) (W : World) :
    (binOp .eql 36 (.agg #[.int .u8 t, .int .u32 a, .int .u32 b, .int .u32 c]) (.agg #[.int .u8 t', .int .u32 a', .int .u32 b', .int .u32 c'])).run Try.prog W = .ok (.bool (decide (t = t' ∧ a = a' ∧ b = b' ∧ c = c'))) W := by
  by_cases h0 : t = t'
  · by_cases h1 : a = a'
    · by_cases h2 : b = b'
      · by_cases h3 : c = c'
        · go_simp
        · go_simp
      · go_simp
    · go_simp
  · go_simp
theorem eq_op (t a b c t' a' b' c' : Nat) (r : Bool) (hr : decide (t = t' ∧ a = a' ∧ b = b' ∧ c = c') = r) (W : World) :
    (binOp .eql 36 (.agg #[.int .u8 t, .int .u32 a, .int .u32 b, .int .u32 c]) (.agg #[.int .u8 t', .int .u32 a', .int .u32 b', .int .u32 c'])).run Try.prog W = .ok (.bool r) W := by
  rw [eq_op_int, ← hr]
  congr 2
  rw [decide_eq_decide]
  omega
end Go.Proofs.Ytpepahecjkkpbaa
