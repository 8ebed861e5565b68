/- Package pack: what each function does, for every number (but for those that go through lists). -/
import Derived.Test.YtpepahecjkkpbaaProg
import Derived.Test.YtpepahecjkkpbaaBase
import Derived.Test.YtpepahecjkkpbaaPkMath
namespace Go.Proofs.Ytpepahecjkkpbaa
open Go.RowKit

set_option maxHeartbeats 400000 in
theorem ones_any (a : Int) (b : Nat) (hb : b ≤ 64) (w : World) :
    Calls Try.prog 32 #[.agg #[.int .i64 a, .int .i64 b]] w (Ret (.int .u64 (Pk.ones b)) w) := by
  go_enter Try.func32, Try.ntmps32
  go_wp2
  go_ret
  exact Ret.mk (u64_eq (Pk.ones_eq b hb)) (below_one _ _)

set_option maxHeartbeats 400000 in
theorem inWord_any (a b : Int) (w : World) :
    Calls Try.prog 25 #[.agg #[.int .i64 a, .int .i64 b]] w (Ret (.bool (Pk.inW a b)) w) := by
  go_enter Try.func25, Try.ntmps25
  go_wp2
  all_goals go_ret
  all_goals exact Ret.mk (bool_eq (by unfold Pk.inW; rw [Bool.eq_iff_iff]; simp; omega)) (below_one _ _)

set_option maxHeartbeats 400000 in
theorem field_any (x : Nat) (a b : Nat) (hx : x < 18446744073709551616) (h : a + b ≤ 64) (w : World) :
    Calls Try.prog 26 #[.agg #[.int .u64 x], .agg #[.int .i64 a, .int .i64 b]] w (Ret (.int .u64 (Pk.field x a b : Nat)) w) := by
  have HX := Lib.hid hx
  clear hx
  go_enter Try.func26, Try.ntmps26
  go_wp2
  have hb2 := below_two w (Obj.cells #[Value.int IntKind.u64 ↑x] 68) (Obj.cells #[Value.int IntKind.i64 ↑a, Value.int IntKind.i64 ↑b] 66)
  generalize hW : (w.alloc (Obj.cells #[Value.int IntKind.u64 ↑x] 68)).alloc (Obj.cells #[Value.int IntKind.i64 ↑a, Value.int IntKind.i64 ↑b] 66) = W at hb2 ⊢
  have h0 : W.cell? ⟨w.heap.size, 0, none⟩ = some (.int .u64 x) := by rw [← hW]; simp [go_sem]
  have h1 : W.cell? ⟨w.heap.size + 1, 0, none⟩ = some (.int .i64 a) := by rw [← hW]; simp [go_sem]
  have h2 : W.cell? ⟨w.heap.size + 1, 1, none⟩ = some (.int .i64 b) := by rw [← hW]; simp [go_sem]
  have k0 := cell_regrown h0
  have k1 := cell_regrown h1
  have k2 := cell_regrown h2
  clear h0 h1 h2 hW
  refine wp_region_quiet_below (by kernel_rfl) (by kernel_rfl) ?_
  repeat (go_big_quiet_step (exact Calls.regrown_of (ones_any _ _ (by omega) _)))
  refine wpQuiet_nil ?_
  intro _ hw'
  obtain ⟨⟨dq, osq⟩, hw''⟩ := hw'
  subst hw''
  go_wp2
  go_ret
  exact Ret.mk (u64_eq (Pk.field_eq x a b HX.out (by omega))) (below_then hb2 (below_regrown W dq osq))

set_option maxHeartbeats 400000 in
theorem fits_any (v : Nat) (a : Int) (b : Nat) (hb : b ≤ 64) (w : World) :
    Calls Try.prog 30 #[.int .u64 v, .agg #[.int .i64 a, .int .i64 b]] w (Ret (.bool (Pk.fitsB v b)) w) := by
  go_enter Try.func30, Try.ntmps30
  go_wp2_with (go_at_call 32; refine (ones_any _ _ hb _).mono ?_; rintro e w' ⟨rfl, hb1⟩)
  go_ret
  exact Ret.mk (bool_eq (Pk.fits_eq v b)) (below_then (below_one _ _) hb1)

set_option maxHeartbeats 400000 in
theorem with_any (x a b v : Nat) (hx : x < 18446744073709551616) (hv : v < 2 ^ b) (h : a + b ≤ 64) (w : World) :
    Calls Try.prog 31 #[.agg #[.int .u64 x], .agg #[.int .i64 a, .int .i64 b], .int .u64 v] w (Ret (.agg #[.int .u64 (Pk.put x a b v : Nat)]) w) := by
  have HX := Lib.hid hx
  have HV := Lib.hid hv
  clear hx hv
  go_enter Try.func31, Try.ntmps31
  go_wp2
  have hb2 := below_three w (Obj.cells #[Value.int IntKind.u64 ↑x] 68) (Obj.cells #[Value.int IntKind.i64 ↑a, Value.int IntKind.i64 ↑b] 66) (Obj.cells #[Value.int IntKind.u64 0] 68)
  generalize hW : ((w.alloc (Obj.cells #[Value.int IntKind.u64 ↑x] 68)).alloc (Obj.cells #[Value.int IntKind.i64 ↑a, Value.int IntKind.i64 ↑b] 66)).alloc (Obj.cells #[Value.int IntKind.u64 0] 68) = W at hb2 ⊢
  have h0 : W.cell? ⟨w.heap.size, 0, none⟩ = some (.int .u64 x) := by rw [← hW]; simp [go_sem]
  have h1 : W.cell? ⟨w.heap.size + 1, 0, none⟩ = some (.int .i64 a) := by rw [← hW]; simp [go_sem]
  have h2 : W.cell? ⟨w.heap.size + 1, 1, none⟩ = some (.int .i64 b) := by rw [← hW]; simp [go_sem]
  have h3 : W.cell? ⟨w.heap.size + 1 + 1, 0, none⟩ = some (.int .u64 0) := by rw [← hW]; simp [go_sem]
  have k0 := cell_regrown h0
  have k1 := cell_regrown h1
  have k2 := cell_regrown h2
  have f3 : W.frozen? ⟨w.heap.size + 1 + 1, 0, none⟩ = false := by rw [← hW]; simp [go_sem]
  have k3 := cell_regrown h3
  have g3 := frozen_regrown h3 f3
  clear h0 h1 h2 h3 f3 hW
  refine wp_region_quiet_below (by kernel_rfl) (by kernel_rfl) ?_
  repeat (go_big_quiet_step (exact Calls.regrown_of (ones_any _ _ (by omega) _)))
  refine wpQuiet_nil ?_
  intro _ hw'
  obtain ⟨⟨dq, osq⟩, hw''⟩ := hw'
  subst hw''
  go_wp2
  refine bodyPost_ret (v := .agg #[.int .u64 (Pk.put x a b v : Nat)]) ?_ rfl ⟨rfl, ?_⟩
  · simp [results, Try.results31, go_sem, k3, Pk.put_eq x a b v HX.out HV.out h]
  · exact (below_then hb2 (below_regrown W dq osq)).setCell (by simp; omega) _

set_option maxHeartbeats 400000 in
theorem get_bad (x a b : Int) (h : Pk.inW a b = false) (w : World) :
    Calls Try.prog 23 #[.int .u64 x, .int .i64 a, .int .i64 b] w (Ret2 (.int .u64 0) (.int .i64 2) w) := by
  go_enter Try.func23, Try.ntmps23
  go_wp2_with (go_at_call 25; refine (inWord_any _ _ _).mono ?_; rintro e w' ⟨rfl, hb1⟩)
  go_ret2
  exact Ret2.mk rfl rfl (below_then (below_one _ _) hb1)

set_option maxHeartbeats 400000 in
theorem get_ok (x a b : Nat) (hx : x < 18446744073709551616) (h1 : 1 ≤ b) (h : a + b ≤ 64) (w : World) :
    Calls Try.prog 23 #[.int .u64 x, .int .i64 a, .int .i64 b] w (Ret2 (.int .u64 (Pk.field x a b : Nat)) (.int .i64 0) w) := by
  have hin : Pk.inW a b = true := Pk.inW_mk h1 h
  have HX := Lib.hid hx
  clear hx
  go_enter Try.func23, Try.ntmps23
  go_wp2_with (first
    | (go_at_call 25; refine (inWord_any _ _ _).mono ?_; rintro e w' ⟨rfl, hb1⟩; obtain ⟨hc1, hf1⟩ := bcell hb1)
    | (go_at_call 26; refine (field_any x a b HX.out h _).mono ?_; rintro e w2 ⟨rfl, hb2⟩))
  go_ret2
  exact Ret2.mk rfl rfl (below_then (below_then (below_one _ _) hb1) hb2)
end Go.Proofs.Ytpepahecjkkpbaa
