/- The program's own small fields of a desc: where they stand, the word that they make, and back. -/
import Derived.Great.BuildSlice
import Derived.Deep.WholeRow
import Derived.Laws.CopyOwn
import Derived.Test.YtpepahecjkkpbaaRgPair
namespace Go.Proofs.Ytpepahecjkkpbaa
open Go.RowKit Go.Shelf Opn

/-- The small fields of a desc that lies at q. -/
def smc (q : Nat) : Array Value := #[.int .i64 5, .pointer (some ⟨q, 1, none⟩), .int .i64 7, .pointer (some ⟨q, 2, none⟩), .int .i64 4, .pointer (some ⟨q, 3, none⟩), .int .i64 5, .pointer (some ⟨q, 6, none⟩), .int .i64 7, .pointer (some ⟨q, 7, none⟩),
  .int .i64 7, .pointer (some ⟨q, 8, none⟩), .int .i64 6, .pointer (some ⟨q, 9, none⟩), .int .i64 6, .pointer (some ⟨q, 10, none⟩), .int .i64 3, .pointer (some ⟨q, 11, none⟩)]
def smZ : Array Value := #[.int .i64 0, .pointer none, .int .i64 0, .pointer none, .int .i64 0, .pointer none, .int .i64 0, .pointer none, .int .i64 0, .pointer none, .int .i64 0, .pointer none, .int .i64 0, .pointer none, .int .i64 0, .pointer none, .int .i64 0, .pointer none]

theorem smc_one (q : Nat) : (smc q).all (·.oneCell') = true := by
  unfold smc
  kernel_rfl
theorem smc_size (q : Nat) : (smc q).size = 18 := rfl

set_option maxRecDepth 100000 in
set_option maxHeartbeats 4000000 in
theorem smalls_any (q : Nat) (w : World) : Calls Try.prog 21 #[.pointer (some ⟨q, 0, none⟩)] w (Ret (.agg (smc q)) w) := by
  go_enter Try.func21, Try.ntmps21
  go_wp2
  have hb1 := below_one w (Obj.cells smZ 56)
  have hr := heap_alloc_last w (Obj.cells smZ 56)
  obtain ⟨W, hW⟩ : ∃ W, w.alloc (Obj.cells smZ 56) = W := ⟨_, rfl⟩
  have hW' := hW
  unfold smZ at hW'
  rw [hW'] 
  rw [hW] at hb1 hr
  clear hW hW'
  refine wp_region_tail_below 37 (by kernel_rfl) (by kernel_rfl) ?_
  simp only [List.take_succ_cons, List.take_zero, List.drop_succ_cons, List.drop_zero]
  repeat (go_big_quiet_step (fail))
  refine wpQuiet_nil ?_
  intro W2 hw'
  obtain ⟨⟨dq, osq⟩, hw''⟩ := hw'
  have hb2 := below_regrown W dq osq
  rw [← hw''] at hb2
  have hr2 := (hb2.block w.heap.size (Array.getElem?_eq_some_iff.1 hr).1).trans hr
  clear hw''
  refine wpList_store_rowTo rfl 56 _ _ rfl rfl w.heap.size (smc q) rfl rfl 56 smZ hr2 (by kernel_rfl) rfl (smc_one q) ?_
  have hb3 := below_setRow (below_then hb1 hb2) (Nat.le_refl w.heap.size) (smc q)
  have hr3 := setRow_heap W2 w.heap.size smZ (smc q) 56 (0, 0) hr2
  obtain ⟨W3, hW3⟩ : ∃ W3, W2.setRow w.heap.size (smc q) = W3 := ⟨_, rfl⟩
  rw [hW3] at hb3 hr3 ⊢
  go_wp2
  refine bodyPost_ret (v := .agg (smc q)) ?_ rfl ⟨rfl, hb3⟩
  exact results_cell_row (p := 2) (ty := 56) rfl _ _ w.heap.size 56 (smc q) (0, 0) (.array 9 55) rfl hr3 (by kernel_rfl) rfl (by kernel_rfl)
end Go.Proofs.Ytpepahecjkkpbaa
