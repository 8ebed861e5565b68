/- Package rank: how many items a level has, where the powers stand in their table. -/
import Derived.Test.YtmnlfhpkfgfpoaaDoorProg
import Derived.Test.YtmnlfhpkfgfpoaaDoorBase
import Derived.Test.YtmnlfhpkfgfpoaaDoorRrMath
namespace Go.Proofs.YtmnlfhpkfgfpoaaDoor
open Go.RowKit

/-- The table holds the powers. -/
def Pow (W : World) : Prop := ∀ j, j < 15 → W.cell? ⟨0, j, none⟩ = some (.int .i64 (Rk.powAt j))
theorem Pow.below {W W' : World} (h : Pow W) (hb : Below W.heap.size W W') : Pow W' := fun j hj =>
  (hb.cell (World.block_lt_of_cell? _ _ (h j hj))).trans (h j hj)
theorem Pow.alloc {W : World} (h : Pow W) (o : Obj) : Pow (W.alloc o) := h.below (below_one W o)
theorem Pow.at {W : World} (h : Pow W) (j : Nat) (x : Int) (hj : j < 15) (hx : Rk.powAt j = x) : W.cell? ⟨0, j, none⟩ = some (.int .i64 x) := by rw [h j hj, hx]

set_option maxHeartbeats 400000 in
theorem mayBe_any (m n : Int) (w : World) :
    Calls Tryd.prog 54 #[.agg #[.int .i64 m, .int .i64 n]] w (Ret (.bool (Rk.mayBe m n)) w) := by
  go_enter Tryd.func54, Tryd.ntmps54
  go_wp2
  all_goals go_ret
  all_goals exact Ret.mk (bool_eq (by unfold Rk.mayBe; rw [Bool.eq_iff_iff]; simp; omega)) (below_one _ _)

set_option maxHeartbeats 1000000 in
theorem itemsUp_nat (m n h : Nat) (hm : m ≤ 32) (h2 : 2 ≤ n) (h4 : n ≤ 4) (hh : h ≤ 4) (w : World) (hp : Pow w) :
    Calls Tryd.prog 55 #[.agg #[.int .i64 m, .int .i64 n], .int .i64 h] w (Ret (.int .i64 (Rk.items m n h : Nat)) w) := by
  obtain ⟨k, rfl⟩ : ∃ k, n = k + 2 := ⟨n - 2, by omega⟩
  have hk : k ≤ 2 := by omega
  have e : ((k + 2 : Nat) : Int) - 2 = (k : Int) := by omega
  obtain ⟨q1, q2⟩ := Rk.pow_bounds ⟨k, by omega⟩ ⟨h, by omega⟩
  simp only at q1 q2
  have hc := fun o => (hp.alloc o).at (k * 5 + h) _ (by omega) (Rk.powAt_at hh)
  have ei : Rk.items m (k + 2) h = (m + (k + 2) ^ h - 1) / (k + 2) ^ h := rfl
  generalize (k + 2) ^ h = q at q1 q2 hc ei
  have EI := Lib.hid ei
  clear ei hp
  generalize ((k + 2 : Nat) : Int) = z at *
  have z1 : z ≤ 4 := by omega
  have z2 : 2 ≤ z := by omega
  go_enter Tryd.func55, Tryd.ntmps55
  go_wp2
  go_ret
  exact Ret.mk (i64_eq (by rw [EI.out, Int.natCast_ediv]; congr 1; omega)) (below_one _ _)

theorem itemsUp_any (m n h : Int) (g : Rk.okC m n h = true) (w : World) (hp : Pow w) :
    Calls Tryd.prog 55 #[.agg #[.int .i64 m, .int .i64 n], .int .i64 h] w (Ret (.int .i64 (Rk.cnt m n h)) w) := by
  obtain ⟨M, N, H, rfl, rfl, rfl, h1, h2, h3, h4⟩ := Rk.okC_nat g
  exact itemsUp_nat M N H h1 h2 h3 h4 w hp
end Go.Proofs.YtmnlfhpkfgfpoaaDoor
