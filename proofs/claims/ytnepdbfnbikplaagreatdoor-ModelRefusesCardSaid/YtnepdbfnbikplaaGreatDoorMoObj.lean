/- The program's own object of a config: which of the four. -/
import Derived.Test.YtnepdbfnbikplaaGreatDoorMoPut
import Derived.Test.YtnepdbfnbikplaaGreatDoorGOld
namespace Go.Proofs.YtnepdbfnbikplaaGreatDoor
open Go.RowKit Go.Lib Tb Pt Opn

/-- Rows and an answer with rows, and an error; nothing that was there has turned. -/
def DidM (s : List R × Ans) (err : Int) (w : World) (e : Ending) (w' : World) : Prop := ∃ u r, e = .returned (.tuple #[u, .agg #[.int .i64 s.2.1, .int .u32 s.2.2.1, r], .int .i64 err]) ∧ IsRV w' u s.1 ∧ IsRV w' r s.2.2.2 ∧ Below w.heap.size w w'
theorem isrv_none (w : World) : IsRV w (.slice none 0 0) [] := ⟨none, 0, rfl, ⟨Nat.le_refl _, by omega⟩, fun _ => ⟨rfl, rfl⟩, IsL.nil _ _ _ _⟩

set_option maxRecDepth 100000 in
set_option maxHeartbeats 4000000 in
theorem objectOf_bad (c : Cf) (hc : ¬ Ok c) (w : World) : Calls Tryz.prog 11 #[cfv c] w (Ret2 .nilIface (.int .i64 40) w) := by
  have HC := Lib.hid (check_any c)
  rw [show okB c = false from decide_eq_false hc] at HC
  clear hc
  unfold cfv at *
  go_enter Tryz.func11, Tryz.ntmps11
  go_wp2_with (go_at_call 12; refine (HC.out _).mono ?_; rintro e w1 ⟨rfl, hb1⟩; obtain ⟨hc1, hf1⟩ := bcell hb1)
  go_ret2
  exact Ret2.mk rfl rfl (below_then (below_one w _) hb1)
theorem fst_of1 (w : World) (a : Obj) : (w.alloc a).heap[w.heap.size]? = some a := heap_alloc_new w a

set_option maxRecDepth 100000 in
set_option maxHeartbeats 4000000 in
theorem objectOf_1 (c : Cf) (hc : Ok c) (h : c.obj = 1) (w : World) : Calls Tryz.prog 11 #[cfv c] w (Ret2 (.iface 55 (cfv c)) (.int .i64 0) w) := by
  have HC := Lib.hid (check_any c)
  rw [show okB c = true from decide_eq_true hc] at HC
  clear hc
  unfold cfv at *
  rw [h] at *
  go_enter Tryz.func11, Tryz.ntmps11
  go_wp2_with (go_at_call 12; refine (HC.out _).mono ?_; rintro e w1 ⟨rfl, hb1⟩; obtain ⟨hc1, hf1⟩ := bcell hb1)
  go_ret2
  exact Ret2.mk rfl rfl (below_then (below_one w _) hb1)

set_option maxRecDepth 100000 in
set_option maxHeartbeats 4000000 in
theorem objectOf_2 (c : Cf) (hc : Ok c) (h : c.obj = 2) (w : World) : Calls Tryz.prog 11 #[cfv c] w (Ret2 (.iface 56 (cfv c)) (.int .i64 0) w) := by
  have HC := Lib.hid (check_any c)
  rw [show okB c = true from decide_eq_true hc] at HC
  clear hc
  unfold cfv at *
  rw [h] at *
  go_enter Tryz.func11, Tryz.ntmps11
  go_wp2_with (go_at_call 12; refine (HC.out _).mono ?_; rintro e w1 ⟨rfl, hb1⟩; obtain ⟨hc1, hf1⟩ := bcell hb1)
  go_ret2
  exact Ret2.mk rfl rfl (below_then (below_one w _) hb1)

set_option maxRecDepth 100000 in
set_option maxHeartbeats 4000000 in
theorem objectOf_3 (c : Cf) (hc : Ok c) (h : c.obj = 3) (w : World) : Calls Tryz.prog 11 #[cfv c] w (Ret2 (.iface 57 (cfv c)) (.int .i64 0) w) := by
  have HC := Lib.hid (check_any c)
  rw [show okB c = true from decide_eq_true hc] at HC
  clear hc
  unfold cfv at *
  rw [h] at *
  go_enter Tryz.func11, Tryz.ntmps11
  go_wp2_with (go_at_call 12; refine (HC.out _).mono ?_; rintro e w1 ⟨rfl, hb1⟩; obtain ⟨hc1, hf1⟩ := bcell hb1)
  go_ret2
  exact Ret2.mk rfl rfl (below_then (below_one w _) hb1)

set_option maxRecDepth 100000 in
set_option maxHeartbeats 4000000 in
theorem objectOf_4 (c : Cf) (hc : Ok c) (h1 : c.obj ≠ 1) (h2 : c.obj ≠ 2) (h3 : c.obj ≠ 3) (w : World) : Calls Tryz.prog 11 #[cfv c] w (Ret2 (.iface 58 (cfv c)) (.int .i64 0) w) := by
  have HC := Lib.hid (check_any c)
  rw [show okB c = true from decide_eq_true hc] at HC
  clear hc
  have g1 : (c.obj == 1) = false := by simp; omega
  have g2 : (c.obj == 2) = false := by simp; omega
  have g3 : (c.obj == 3) = false := by simp; omega
  unfold cfv at *
  go_enter Tryz.func11, Tryz.ntmps11
  go_wp2_with (go_at_call 12; refine (HC.out _).mono ?_; rintro e w1 ⟨rfl, hb1⟩; obtain ⟨hc1, hf1⟩ := bcell hb1)
  go_ret2
  exact Ret2.mk rfl rfl (below_then (below_one w _) hb1)
end Go.Proofs.YtnepdbfnbikplaaGreatDoor
