/- The chapter's examples of package part. -/
import Derived.Test.YtmnlfhpkfgfpoaaDoorPtWhat
import Derived.Test.YtmnlfhpkfgfpoaaDoorPtFresh
namespace Go.Proofs.YtmnlfhpkfgfpoaaDoor
open Go.RowKit Pt Ce

theorem ex2 {P : Program} {n : FuncId} {args : Array Value} {w : World} {a b x z : Value} (h : Calls P n args w (Ret2 a b w)) (h1 : a = x) (h2 : b = z) : Calls P n args w (Ret2 x z w) := by
  subst h1 h2; exact h

/-- The chapter's first config. -/
def exA : Cf := ⟨3, 2, 3, 1, 0, 0, 4, 0, 2, 0, 131072, 0⟩

set_option maxRecDepth 100000 in
set_option maxHeartbeats 2000000 in
theorem alive_any (w : World) (hp : Pow w) : Calls Tryd.prog 13 #[] w (Ret (.bool true) w) := by
  have HP := Lib.hid hp
  clear hp
  have hs := fun W hW => ex2 (x := .int .i64 4) (z := .int .i64 0) (size_any exA W hW) (i64_eq (by decide +kernel)) (i64_eq (by decide +kernel))
  have hcl := fun W hW => ex2 (x := .int .i64 25) (z := .int .i64 0) (cells_any exA W hW) (i64_eq (by decide +kernel)) (i64_eq (by decide +kernel))
  have ha1 := fun W hW => ex2 (x := .int .i64 2) (z := .int .i64 0) (at_any exA ⟨3, 0, 0⟩ W hW) (i64_eq (by decide +kernel)) (i64_eq (by decide +kernel))
  have ha2 := fun W hW => ex2 (x := .int .i64 12) (z := .int .i64 0) (at_any exA ⟨6, 1, 0⟩ W hW) (i64_eq (by decide +kernel)) (i64_eq (by decide +kernel))
  have ha3 := fun W hW => ex2 (x := .int .i64 20) (z := .int .i64 0) (at_any exA ⟨9, 1, 0⟩ W hW) (i64_eq (by decide +kernel)) (i64_eq (by decide +kernel))
  have hw := fun W hW => ex2 (x := .agg #[.int .u8 10, .int .i64 1, .int .i64 3]) (z := .int .i64 0) (what_any exA 24 (by omega) W hW) (congrArg plv (show whV exA 24 = ⟨10, 1, 3⟩ by decide +kernel)) (i64_eq (by decide +kernel))
  have hf := fun W hW => fresh_any exA W hW
  rw [show freshN exA = 25 by decide +kernel, show Pt.err (okB exA) = 0 by decide +kernel] at hf
  unfold cfv exA at hs hcl ha1 ha2 ha3 hw hf
  unfold plv at ha1 ha2 ha3
  simp only at hs hcl ha1 ha2 ha3 hw hf
  go_enter Tryd.func13, Tryd.ntmps13
  go_wp2_with fail
  refine (hs _ (HP.out.alloc _)).mono ?_
  rintro e w1 ⟨rfl, hb1⟩
  obtain ⟨hc1, hf1⟩ := bcell hb1
  go_wp2_with fail
  refine (hcl _ (HP.out.below (below_b1 hb1))).mono ?_
  rintro e w2 ⟨rfl, hb2⟩
  replace hb1 := below_then hb1 hb2
  clear hb2 hc1 hf1
  obtain ⟨hc1, hf1⟩ := bcell hb1
  go_wp2_with fail
  refine (ha1 _ (HP.out.below (below_b1 hb1))).mono ?_
  rintro e w2 ⟨rfl, hb2⟩
  replace hb1 := below_then hb1 hb2
  clear hb2 hc1 hf1
  obtain ⟨hc1, hf1⟩ := bcell hb1
  go_wp2_with fail
  refine (ha2 _ (HP.out.below (below_b1 hb1))).mono ?_
  rintro e w2 ⟨rfl, hb2⟩
  replace hb1 := below_then hb1 hb2
  clear hb2 hc1 hf1
  obtain ⟨hc1, hf1⟩ := bcell hb1
  go_wp2_with fail
  refine (ha3 _ (HP.out.below (below_b1 hb1))).mono ?_
  rintro e w2 ⟨rfl, hb2⟩
  replace hb1 := below_then hb1 hb2
  clear hb2 hc1 hf1
  obtain ⟨hc1, hf1⟩ := bcell hb1
  go_wp2_with fail
  refine (hw _ (HP.out.below (below_b1 hb1))).mono ?_
  rintro e w2 ⟨rfl, hb2⟩
  replace hb1 := below_then hb1 hb2
  clear hb2 hc1 hf1
  obtain ⟨hc1, hf1⟩ := bcell hb1
  have I2 : IsCf w2 w.heap.size exA := (cf_lit w exA 24 rfl).same (hb1.block _ (by simp))
  have f0 : w2.cell? ⟨w.heap.size, 0, none⟩ = some (.int .u8 3) := I2 0 _ rfl
  have f1 : w2.cell? ⟨w.heap.size, 1, none⟩ = some (.int .i64 2) := I2 1 _ rfl
  have f2 : w2.cell? ⟨w.heap.size, 2, none⟩ = some (.int .i64 3) := I2 2 _ rfl
  have f3 : w2.cell? ⟨w.heap.size, 3, none⟩ = some (.int .u8 1) := I2 3 _ rfl
  have f4 : w2.cell? ⟨w.heap.size, 4, none⟩ = some (.int .i64 0) := I2 4 _ rfl
  have f5 : w2.cell? ⟨w.heap.size, 5, none⟩ = some (.int .i64 0) := I2 5 _ rfl
  have f6 : w2.cell? ⟨w.heap.size, 6, none⟩ = some (.int .i64 4) := I2 6 _ rfl
  have f7 : w2.cell? ⟨w.heap.size, 7, none⟩ = some (.int .i64 0) := I2 7 _ rfl
  have f8 : w2.cell? ⟨w.heap.size, 8, none⟩ = some (.int .i64 2) := I2 8 _ rfl
  have f9 : w2.cell? ⟨w.heap.size, 9, none⟩ = some (.int .i64 0) := I2 9 _ rfl
  have f10 : w2.cell? ⟨w.heap.size, 10, none⟩ = some (.int .u64 131072) := I2 10 _ rfl
  have f11 : w2.cell? ⟨w.heap.size, 11, none⟩ = some (.int .u64 0) := I2 11 _ rfl
  have hr1 := I2.lt
  clear hc1 hf1 I2
  go_wp2_with fail
  refine (hf _ ((HP.out.below (below_b1 hb1)).alloc _)).mono ?_
  rintro e w3 ⟨A, cap, rfl, hA1, hA2, HI, hb3⟩
  have p0 : w3.cell? ⟨w2.heap.size, 0, none⟩ = some (.int .u8 10) := (hb3.cell (by simp)).trans (by simp [go_sem])
  have p1 : w3.cell? ⟨w2.heap.size, 1, none⟩ = some (.int .i64 1) := (hb3.cell (by simp)).trans (by simp [go_sem])
  have p2 : w3.cell? ⟨w2.heap.size, 2, none⟩ = some (.int .i64 3) := (hb3.cell (by simp)).trans (by simp [go_sem])
  replace hb1 := below_then (below_b1 hb1) (below_b1 hb3)
  obtain ⟨b, off, rfl, g0, g1, g2, g3⟩ := HI.out 2 (by omega)
  have g0' : w3.cell? ⟨b, off + 8, none⟩ = some (.int .u64 7) := g0.trans (congrArg (fun x => some (Value.int .u64 x)) (by decide +kernel))
  clear hb3 g0 g1 g2 g3 HI hs hcl ha1 ha2 ha3 hw hf f0 f1 f2 f3 f4 f5 f6 f7 f8 f9 f10 f11 hr1
  go_wp2
  go_ret
  exact Ret.mk rfl hb1
end Go.Proofs.YtmnlfhpkfgfpoaaDoor
