/- Package part: a block's places, and how one is sought. -/
import Derived.Test.YtmnlfhpkfgfpoaaDoorPtWalks
import Derived.Test.YtmnlfhpkfgfpoaaDoorTail
import Derived.RegionTactic
import Derived.BigRegion
import Derived.Deep.QuietTactic
namespace Go.Proofs.YtmnlfhpkfgfpoaaDoor
open Go.RowKit Pt

/-- Block q holds x. -/
def IsBlk (w : World) (q : Nat) (x : Blk) : Prop := w.cell? ⟨q, 0, none⟩ = some (.int .u8 x.p) ∧ w.cell? ⟨q, 1, none⟩ = some (.int .i64 x.a) ∧ w.cell? ⟨q, 2, none⟩ = some (.int .i64 x.m) ∧ w.cell? ⟨q, 3, none⟩ = some (.int .i64 x.n)
theorem IsBlk.lt {w : World} {q : Nat} {x : Blk} (h : IsBlk w q x) : q < w.heap.size := World.block_lt_of_cell? _ _ h.1
theorem IsBlk.same {w w' : World} {q : Nat} {x : Blk} (h : IsBlk w q x) (hs : w'.heap[q]? = w.heap[q]?) : IsBlk w' q x :=
  ⟨(World.cell?_of_block (w := w) hs).trans h.1, (World.cell?_of_block (w := w) hs).trans h.2.1, (World.cell?_of_block (w := w) hs).trans h.2.2.1, (World.cell?_of_block (w := w) hs).trans h.2.2.2⟩
theorem IsBlk.below {w w' : World} {q : Nat} {x : Blk} (h : IsBlk w q x) (hb : Below w.heap.size w w') : IsBlk w' q x := h.same (hb.block q h.lt)
def bv (x : Blk) : Value := .agg #[.int .u8 x.p, .int .i64 x.a, .int .i64 x.m, .int .i64 x.n]
/-- So small that nothing wraps. -/
def Small (x : Blk) : Prop := x.a ≤ 4 ∧ x.m ≤ 16 ∧ 1 ≤ x.n ∧ x.n ≤ 128 ∧ x.cnt ≤ 128
/-- The place's closure over a block. -/
def plf (q : Nat) : Value := .func (.func 53) #[] #[.pointer (some ⟨q, 0, none⟩)]

set_option maxHeartbeats 400000 in
theorem laid_any (x : Blk) (h : Small x) (w : World) : Calls Tryd.prog 39 #[bv x] w fun e w' =>
    e = .returned (.tuple #[.int .i64 (x.cnt : Nat), plf w.heap.size]) ∧ w' = w.alloc (.cells #[.int .u8 x.p, .int .i64 x.a, .int .i64 x.m, .int .i64 x.n] 68) := by
  obtain ⟨_, _, _, _, hc⟩ := h
  unfold Blk.cnt at hc ⊢
  unfold bv plf
  have e : ((x.m : Int) * (x.n : Int)) = ((x.m * x.n : Nat) : Int) := by simp
  generalize x.m * x.n = y at *
  go_enter Tryd.func39, Tryd.ntmps39
  go_wp2
  go_ret2
  exact ⟨rfl, rfl⟩

set_option maxHeartbeats 1000000 in
theorem place_any (x : Blk) (hs : Small x) (i : Nat) (hi : i < 128) (q : Nat) (w : World) (hq : IsBlk w q x) : Calls Tryd.prog 53 #[.int .i64 i, .pointer (some ⟨q, 0, none⟩)] w (Ret (plv (x.at i)) w) := by
  obtain ⟨h0, h1, h2, h3⟩ := hq
  obtain ⟨s1, _, s3, s4, _⟩ := hs
  have hlt := World.block_lt_of_cell? _ _ h0
  have d1 : i / x.n ≤ i := Nat.div_le_self _ _
  have e1 : ((i : Int) / (x.n : Int)) = ((i / x.n : Nat) : Int) := by simp
  have e2 : ((i : Int) % (x.n : Int)) = ((i % x.n : Nat) : Int) := by simp
  have e3 : ((i : Int).tmod (x.n : Int)) = ((i % x.n : Nat) : Int) := by rw [Int.tmod_eq_emod_of_nonneg (by omega)]; simp
  have HA : Hid (x.at i = ⟨x.p, ((x.a + i / x.n : Nat) : Int), ((i % x.n : Nat) : Int)⟩) := Lib.hid rfl
  have m1 : i % x.n < x.n := Nat.mod_lt _ s3
  generalize i / x.n = d at *
  generalize i % x.n = m at *
  have n0 : ¬ ((x.n : Int) = 0) := by omega
  go_enter Tryd.func53, Tryd.ntmps53
  go_wp2
  go_region
  go_wp2
  refine bodyPost_ret (v := plv (x.at i)) ?_ rfl ⟨rfl, (below_one _ _).drew⟩
  rw [HA.out]
  unfold plv
  simp [results, Tryd.results53, go_sem]

set_option maxHeartbeats 400000 in
theorem isAhead_any (x y : Pl) (w : World) : Calls Tryd.prog 42 #[plv x, plv y] w (Ret (.bool (decide (x.a < y.a ∨ (x.a = y.a ∧ x.b < y.b)))) w) := by
  unfold plv
  go_enter Tryd.func42, Tryd.ntmps42
  go_wp2
  all_goals go_ret
  all_goals refine Ret.mk (bool_eq ?_) (below_two _ _ _)
  all_goals refine Bool.eq_iff_iff.2 ?_
  all_goals first | exact Iff.rfl | (simp; done) | (simp; omega)

/-- Block q holds a place. -/
def IsPl (w : World) (q : Nat) (y : Pl) : Prop := w.cell? ⟨q, 0, none⟩ = some (.int .u8 y.p) ∧ w.cell? ⟨q, 1, none⟩ = some (.int .i64 y.a) ∧ w.cell? ⟨q, 2, none⟩ = some (.int .i64 y.b)
theorem IsBlk.regrown {w : World} {q : Nat} {x : Blk} (h : IsBlk w q x) (d : Nat) (os : Array Obj) : IsBlk (Go.Sort.grow (redrawn w d) os) q x := h.below (below_regrown w d os)

set_option maxHeartbeats 1000000 in
theorem seek1_any (x : Blk) (hs : Small x) (y : Pl) (i : Nat) (hi : i < 128) (qf qp q : Nat) (w : World) (hf : w.cell? ⟨qf, 0, none⟩ = some (plf q)) (hq : IsBlk w q x) (hp : IsPl w qp y) :
    Calls Tryd.prog 41 #[.int .i64 i, .pointer (some ⟨qf, 0, none⟩), .pointer (some ⟨qp, 0, none⟩)] w (Ret (.bool (!aheadB (x.at i) y)) w) := by
  have HQ := Lib.hid hq
  obtain ⟨p0, p1, p2⟩ := hp
  clear hq
  unfold plf at hf
  go_enter Tryd.func41, Tryd.ntmps41
  go_wp2
  have k0 := cell_regrown p0
  have k1 := cell_regrown p1
  have k2 := cell_regrown p2
  have k3 := cell_regrown hf
  refine wp_region_quiet_below (by kernel_rfl) (by kernel_rfl) ?_
  repeat (go_big_quiet_step (first | exact Calls.regrown_of (place_any x hs i hi q _ (HQ.out.regrown _ _)) | exact Calls.regrown_of (isAhead_any (x.at i) y _)))
  refine wpQuiet_nil ?_
  intro W3 hw'
  obtain ⟨⟨dq, osq⟩, hw''⟩ := hw'
  have hb3 := below_regrown w dq osq
  rw [← hw''] at hb3
  clear hw'' k0 k1 k2 k3
  go_wp2
  go_ret
  exact Ret.mk (bool_eq (by unfold aheadB; rw [Bool.eq_iff_iff]; simp <;> omega)) hb3
end Go.Proofs.YtmnlfhpkfgfpoaaDoor
