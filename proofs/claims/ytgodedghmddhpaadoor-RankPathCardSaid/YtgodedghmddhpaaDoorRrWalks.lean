/- Package rank: the levels of a row, where the powers stand in their table. -/
import Derived.Test.YtgodedghmddhpaaDoorProg
import Derived.Test.YtgodedghmddhpaaDoorBase
import Derived.Test.YtgodedghmddhpaaDoorRrMath
namespace Go.Proofs.YtgodedghmddhpaaDoor
open Go.RowKit

/-- The table holds the powers. -/
def Pow (W : World) : Prop := ∀ j, j < 15 → W.cell? ⟨0, j, none⟩ = some (.int .i64 (Rk.powAt j))
theorem Pow.below {W W' : World} (h : Pow W) (hb : Below W.heap.size W W') : Pow W' := fun j hj =>
  (hb.cell (World.block_lt_of_cell? _ _ (h j hj))).trans (h j hj)
theorem Pow.alloc {W : World} (h : Pow W) (o : Obj) : Pow (W.alloc o) := h.below (below_one W o)
theorem Pow.at {W : World} (h : Pow W) (j : Nat) (x : Int) (hj : j < 15) (hx : Rk.powAt j = x) : W.cell? ⟨0, j, none⟩ = some (.int .i64 x) := by rw [h j hj, hx]

set_option maxHeartbeats 400000 in
theorem mayBe_any (m n : Int) (w : World) :
    Calls Tryd.prog 19 #[.agg #[.int .i64 m, .int .i64 n]] w (Ret (.bool (Rk.mayBe m n)) w) := by
  go_enter Tryd.func19, Tryd.ntmps19
  go_wp2
  all_goals go_ret
  all_goals exact Ret.mk (bool_eq (by unfold Rk.mayBe; rw [Bool.eq_iff_iff]; simp; omega)) (below_one _ _)

set_option maxHeartbeats 1000000 in
theorem itemsUp_nat (m n h : Nat) (hm : m ≤ 32) (h2 : 2 ≤ n) (h4 : n ≤ 4) (hh : h ≤ 4) (w : World) (hp : Pow w) :
    Calls Tryd.prog 20 #[.agg #[.int .i64 m, .int .i64 n], .int .i64 h] w (Ret (.int .i64 (Rk.items m n h : Nat)) w) := by
  obtain ⟨k, rfl⟩ : ∃ k, n = k + 2 := ⟨n - 2, by omega⟩
  have hk : k ≤ 2 := by omega
  have e : ((k + 2 : Nat) : Int) - 2 = (k : Int) := by omega
  obtain ⟨q1, q2⟩ := Rk.pow_bounds ⟨k, by omega⟩ ⟨h, by omega⟩
  simp only at q1 q2
  have hc := fun o => (hp.alloc o).at (k * 5 + h) _ (by omega) (Rk.powAt_at hh)
  have ei : Rk.items m (k + 2) h = (m + (k + 2) ^ h - 1) / (k + 2) ^ h := rfl
  generalize (k + 2) ^ h = q at q1 q2 hc ei
  have EI := Lib.hid ei
  clear ei hp
  generalize ((k + 2 : Nat) : Int) = z at *
  have z1 : z ≤ 4 := by omega
  have z2 : 2 ≤ z := by omega
  go_enter Tryd.func20, Tryd.ntmps20
  go_wp2
  go_ret
  exact Ret.mk (i64_eq (by rw [EI.out, Int.natCast_ediv]; congr 1; omega)) (below_one _ _)

theorem itemsUp_any (m n h : Int) (g : Rk.okC m n h = true) (w : World) (hp : Pow w) :
    Calls Tryd.prog 20 #[.agg #[.int .i64 m, .int .i64 n], .int .i64 h] w (Ret (.int .i64 (Rk.cnt m n h)) w) := by
  obtain ⟨M, N, H, rfl, rfl, rfl, h1, h2, h3, h4⟩ := Rk.okC_nat g
  exact itemsUp_nat M N H h1 h2 h3 h4 w hp

set_option maxHeartbeats 1000000 in
theorem count_any (m n h : Int) (w : World) (hp : Pow w) :
    Calls Tryd.prog 9 #[.int .i64 m, .int .i64 n, .int .i64 h] w (Ret2 (.int .i64 (Rk.val (Rk.okC m n h) (Rk.cnt m n h))) (.int .i64 (Rk.err (Rk.okC m n h))) w) := by
  cases g : Rk.mayBe m n with
  | false =>
    rw [Rk.okC_f1 g]
    go_enter Tryd.func9, Tryd.ntmps9
    go_wp2_with (go_at_call 19; refine (mayBe_any m n _).mono ?_; rintro e w1 ⟨rfl, hb1⟩)
    go_ret2
    exact Ret2.mk rfl rfl (below_then (below_one _ _) hb1)
  | true =>
    by_cases hh : 0 ≤ h ∧ h ≤ 4
    · have gc : Rk.okC m n h = true := by unfold Rk.okC; rw [g, decide_eq_true hh]; rfl
      obtain ⟨i1, i2⟩ := hh
      rw [gc]
      have HP := Lib.hid hp
      clear hp
      go_enter Tryd.func9, Tryd.ntmps9
      go_wp2_with (first
        | (go_at_call 19; refine (mayBe_any m n _).mono ?_; rintro e w1 ⟨rfl, hb1⟩; obtain ⟨hc1, hf1⟩ := bcell hb1)
        | (go_at_call 20; refine (itemsUp_any m n h gc _ ((HP.out.alloc _).below hb1)).mono ?_; rintro e w2 ⟨rfl, hb2⟩))
      go_ret2
      exact Ret2.mk rfl rfl (below_then (below_then (below_one _ _) hb1) hb2)
    · rw [Rk.okC_f2 hh]
      go_enter Tryd.func9, Tryd.ntmps9
      go_wp2_with (go_at_call 19; refine (mayBe_any m n _).mono ?_; rintro e w1 ⟨rfl, hb1⟩)
      all_goals go_ret2
      all_goals exact Ret2.mk rfl rfl (below_then (below_one _ _) hb1)

theorem cnt_bounds {m n h : Int} (g : Rk.okC m n h = true) : 0 ≤ Rk.cnt m n h ∧ Rk.cnt m n h ≤ 32 := by
  obtain ⟨M, N, H, rfl, rfl, rfl, h1, h2, h3, h4⟩ := Rk.okC_nat g
  have := Rk.items_le h1 h2 h3 h4
  unfold Rk.cnt
  simp only [Int.toNat_natCast]
  omega

set_option maxHeartbeats 2000000 in
theorem last_any (m n h i : Int) (w : World) (hp : Pow w) :
    Calls Tryd.prog 13 #[.int .i64 m, .int .i64 n, .int .i64 h, .int .i64 i] w (Ret2 (.int .i64 (Rk.val (Rk.okL m n h i) (Rk.lst m n h i))) (.int .i64 (Rk.err (Rk.okL m n h i))) w) := by
  cases g : Rk.mayBe m n with
  | false =>
    rw [Rk.okL_f1 g]
    go_enter Tryd.func13, Tryd.ntmps13
    go_wp2_with (go_at_call 19; refine (mayBe_any m n _).mono ?_; rintro e w1 ⟨rfl, hb1⟩)
    go_ret2
    exact Ret2.mk rfl rfl (below_then (below_one _ _) hb1)
  | true =>
    by_cases hh : 1 ≤ h ∧ h ≤ 4
    · have gc : Rk.okC m n h = true := by unfold Rk.okC; rw [g, decide_eq_true (by omega)]; rfl
      have gc' : Rk.okC m n (h - 1) = true := by unfold Rk.okC; rw [g, decide_eq_true (by omega)]; rfl
      obtain ⟨i1, i2⟩ := hh
      have HP := Lib.hid hp
      clear hp
      by_cases hi : 0 ≤ i
      · by_cases hl : i < Rk.cnt m n h
        · have b2 := (cnt_bounds gc).2
          have b3 := (cnt_bounds gc').1
          have b4 := (cnt_bounds gc').2
          have n1 : 2 ≤ n ∧ n ≤ 4 := by
            have := (of_decide_eq_true g : _ ∧ _ ∧ _ ∧ _)
            omega
          have n2 : 0 ≤ (i + 1) * n := Int.mul_nonneg (by omega) (by omega)
          have n3 : (i + 1) * n ≤ 33 * 4 := Int.mul_le_mul (by omega) (by omega) (by omega) (by omega)
          obtain ⟨n4, n5⟩ := n1
          rw [Rk.okL_mk g ⟨i1, i2, hi, hl⟩]
          have EL := Lib.hid (show Rk.lst m n h i = min ((i + 1) * n) (Rk.cnt m n (h - 1)) - 1 from rfl)
          go_enter Tryd.func13, Tryd.ntmps13
          go_wp2_with fail
          refine (mayBe_any m n _).mono ?_
          rintro e w1 ⟨rfl, hb1⟩
          obtain ⟨hc1, hf1⟩ := bcell hb1
          go_wp2_with fail
          refine (itemsUp_any m n h gc _ ((HP.out.alloc _).below hb1)).mono ?_
          rintro e w2 ⟨rfl, hb2⟩
          obtain ⟨hc2, hf2⟩ := bcell hb2
          have hz : w.heap.size < w1.heap.size := (by have := hb1.size; simp at this; omega)
          go_wp2_with fail
          refine (itemsUp_any m n (h - 1) gc' _ (((HP.out.alloc _).below hb1).below hb2)).mono ?_
          rintro e w3 ⟨rfl, hb3⟩
          have hb := below_then (below_then (below_then (below_one w _) hb1) hb2) hb3
          clear hb1 hb2 hb3 hc1 hc2 hf1 hf2
          go_wp2
          all_goals go_ret2
          all_goals exact Ret2.mk (i64_eq (by have := EL.out; show _ = Rk.lst _ _ _ _; omega)) rfl hb
        · have b1 := (cnt_bounds gc).1
          have b2 := (cnt_bounds gc).2
          rw [Rk.okL_f2 (by omega)]
          go_enter Tryd.func13, Tryd.ntmps13
          go_wp2_with (first
            | (go_at_call 19; refine (mayBe_any m n _).mono ?_; rintro e w1 ⟨rfl, hb1⟩; obtain ⟨hc1, hf1⟩ := bcell hb1)
            | (go_at_call 20; refine (itemsUp_any m n h gc _ ((HP.out.alloc _).below hb1)).mono ?_; rintro e w2 ⟨rfl, hb2⟩))
          go_ret2
          exact Ret2.mk rfl rfl (below_then (below_then (below_one _ _) hb1) hb2)
      · rw [Rk.okL_f2 (by omega)]
        go_enter Tryd.func13, Tryd.ntmps13
        go_wp2_with (go_at_call 19; refine (mayBe_any m n _).mono ?_; rintro e w1 ⟨rfl, hb1⟩)
        go_ret2
        exact Ret2.mk rfl rfl (below_then (below_one _ _) hb1)
    · rw [Rk.okL_f2 (by omega)]
      go_enter Tryd.func13, Tryd.ntmps13
      go_wp2_with (go_at_call 19; refine (mayBe_any m n _).mono ?_; rintro e w1 ⟨rfl, hb1⟩)
      all_goals go_ret2
      all_goals exact Ret2.mk rfl rfl (below_then (below_one _ _) hb1)
end Go.Proofs.YtgodedghmddhpaaDoor
