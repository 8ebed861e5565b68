/- The parts', the kinds' and the limits' numbers, the chapter's examples, and more of them, of package part. Condition: the table of powers holds at the call's start what the program's text lays there (the tied card). -/
import Derived.Test.YtmnlfhpkfgfpoaaDoorPtOpen
namespace Go.Proofs.YtmnlfhpkfgfpoaaDoor.partNames
open Go.ChangeShapes Go.WideShapes Go.ChangeAt Go.RowKit Pt

theorem ex1 {P : Program} {n : FuncId} {args : Array Value} {w : World} {a x : Value} (h : Calls P n args w (Ret a w)) (h1 : a = x) : Calls P n args w (Ret x w) := by
  subst h1; exact h
/-- The chapter's second config, and what is wrong with three others. -/
def exB : Cf := ⟨2, 2, 3, 2, 2, 0, 7, 2, 2, 1, 131072, 9⟩
def exS : Cf := ⟨2, 2, 3, 2, 2, 0, 7, 2, 2, 1, 131071, 9⟩
def exN : Cf := ⟨2, 2, 3, 2, 2, 0, 7, 2, 2, 1, 131072, 0⟩
def exT : Cf := ⟨2, 2, 3, 2, 2, 1, 7, 2, 2, 1, 131072, 9⟩
def exZ : Cf := ⟨0, 0, 0, 0, 0, 0, 0, 0, 0, 0, 0, 0⟩

set_option maxRecDepth 100000 in
set_option maxHeartbeats 4000000 in
theorem walk (w : World) (hp : Pow w) : Calls Tryd.prog 3 #[] w (Ret (.bool true) w) := by
  have HP := Lib.hid hp
  clear hp
  have hs := fun W hW => ex2 (x := .int .i64 14) (z := .int .i64 0) (size_any exB W hW) (i64_eq (by decide +kernel)) (i64_eq (by decide +kernel))
  have ha1 := fun W hW => ex2 (x := .int .i64 14) (z := .int .i64 0) (at_any exB ⟨8, 0, 1⟩ W hW) (i64_eq (by decide +kernel)) (i64_eq (by decide +kernel))
  have ha2 := fun W hW => ex2 (x := .int .i64 0) (z := .int .i64 2) (at_any exB ⟨6, 0, 0⟩ W hW) (i64_eq (by decide +kernel)) (i64_eq (by decide +kernel))
  have hw := fun W hW => ex2 (x := .agg #[.int .u8 0, .int .i64 0, .int .i64 0]) (z := .int .i64 2) (what_any exB (-1) (by omega) W hW) (congrArg plv (show whV exB (-1) = ⟨0, 0, 0⟩ by decide +kernel)) (i64_eq (by decide +kernel))
  have k1 := fun W => ex1 (x := .int .i64 40) (check_any exS W) (i64_eq (by decide +kernel))
  have k2 := fun W => ex1 (x := .int .i64 40) (check_any exN W) (i64_eq (by decide +kernel))
  have k3 := fun W => ex1 (x := .int .i64 40) (check_any exT W) (i64_eq (by decide +kernel))
  have k4 := fun W => ex1 (x := .int .i64 40) (check_any exZ W) (i64_eq (by decide +kernel))
  unfold cfv exB at hs ha1 ha2 hw
  unfold cfv exS at k1
  unfold cfv exN at k2
  unfold cfv exT at k3
  unfold cfv exZ at k4
  unfold plv at ha1 ha2
  simp only at hs ha1 ha2 hw k1 k2 k3 k4
  go_enter Tryd.func3, Tryd.ntmps3
  go_wp2_with fail
  refine (hs _ (HP.out.alloc _)).mono ?_
  rintro e w1 ⟨rfl, hb1⟩
  obtain ⟨hc1, hf1⟩ := bcell hb1
  go_wp2_with fail
  refine (ha1 _ (HP.out.below (below_b1 hb1))).mono ?_
  rintro e w2 ⟨rfl, hb2⟩
  replace hb1 := below_then hb1 hb2
  clear hb2 hc1 hf1
  obtain ⟨hc1, hf1⟩ := bcell hb1
  go_wp2_with fail
  refine (ha2 _ (HP.out.below (below_b1 hb1))).mono ?_
  rintro e w2 ⟨rfl, hb2⟩
  replace hb1 := below_then hb1 hb2
  clear hb2 hc1 hf1
  obtain ⟨hc1, hf1⟩ := bcell hb1
  go_wp2_with fail
  refine (hw _ (HP.out.below (below_b1 hb1))).mono ?_
  rintro e w2 ⟨rfl, hb2⟩
  replace hb1 := below_then hb1 hb2
  clear hb2 hc1 hf1
  obtain ⟨hc1, hf1⟩ := bcell hb1
  have I2 : IsCf w2 w.heap.size exB := (cf_lit w exB 24 rfl).same (hb1.block _ (by simp))
  have f0 : w2.cell? ⟨w.heap.size, 0, none⟩ = some (.int .u8 2) := I2 0 _ rfl
  have f1 : w2.cell? ⟨w.heap.size, 1, none⟩ = some (.int .i64 2) := I2 1 _ rfl
  have f2 : w2.cell? ⟨w.heap.size, 2, none⟩ = some (.int .i64 3) := I2 2 _ rfl
  have f3 : w2.cell? ⟨w.heap.size, 3, none⟩ = some (.int .u8 2) := I2 3 _ rfl
  have f4 : w2.cell? ⟨w.heap.size, 4, none⟩ = some (.int .i64 2) := I2 4 _ rfl
  have f5 : w2.cell? ⟨w.heap.size, 5, none⟩ = some (.int .i64 0) := I2 5 _ rfl
  have f6 : w2.cell? ⟨w.heap.size, 6, none⟩ = some (.int .i64 7) := I2 6 _ rfl
  have f7 : w2.cell? ⟨w.heap.size, 7, none⟩ = some (.int .i64 2) := I2 7 _ rfl
  have f8 : w2.cell? ⟨w.heap.size, 8, none⟩ = some (.int .i64 2) := I2 8 _ rfl
  have f9 : w2.cell? ⟨w.heap.size, 9, none⟩ = some (.int .i64 1) := I2 9 _ rfl
  have f10 : w2.cell? ⟨w.heap.size, 10, none⟩ = some (.int .u64 131072) := I2 10 _ rfl
  have f11 : w2.cell? ⟨w.heap.size, 11, none⟩ = some (.int .u64 9) := I2 11 _ rfl
  have hr1 := I2.lt
  have hb02 := below_b1 hb1
  clear hc1 hf1 hs ha1 ha2 hw hb1
  have I3 : IsCf (((w2.alloc (.cells #[.int .u8 0, .int .i64 0, .int .i64 0] 30)).alloc (.cells #[.int .u8 2, .int .i64 2, .int .i64 3, .int .u8 2, .int .i64 2, .int .i64 0, .int .i64 7, .int .i64 2, .int .i64 2, .int .i64 1, .int .u64 131071, .int .u64 9] 24)).alloc (.cells #[.int .u8 2, .int .i64 2, .int .i64 3, .int .u8 2, .int .i64 2, .int .i64 0, .int .i64 7, .int .i64 2, .int .i64 2, .int .i64 1, .int .u64 131072, .int .u64 0] 24)) w.heap.size exB := I2.same ((below_three w2 _ _ _).block _ hr1)
  have g0 : (((w2.alloc (.cells #[.int .u8 0, .int .i64 0, .int .i64 0] 30)).alloc (.cells #[.int .u8 2, .int .i64 2, .int .i64 3, .int .u8 2, .int .i64 2, .int .i64 0, .int .i64 7, .int .i64 2, .int .i64 2, .int .i64 1, .int .u64 131071, .int .u64 9] 24)).alloc (.cells #[.int .u8 2, .int .i64 2, .int .i64 3, .int .u8 2, .int .i64 2, .int .i64 0, .int .i64 7, .int .i64 2, .int .i64 2, .int .i64 1, .int .u64 131072, .int .u64 0] 24)).cell? ⟨w.heap.size, 0, none⟩ = some (.int .u8 2) := I3 0 _ rfl
  have g1 : (((w2.alloc (.cells #[.int .u8 0, .int .i64 0, .int .i64 0] 30)).alloc (.cells #[.int .u8 2, .int .i64 2, .int .i64 3, .int .u8 2, .int .i64 2, .int .i64 0, .int .i64 7, .int .i64 2, .int .i64 2, .int .i64 1, .int .u64 131071, .int .u64 9] 24)).alloc (.cells #[.int .u8 2, .int .i64 2, .int .i64 3, .int .u8 2, .int .i64 2, .int .i64 0, .int .i64 7, .int .i64 2, .int .i64 2, .int .i64 1, .int .u64 131072, .int .u64 0] 24)).cell? ⟨w.heap.size, 1, none⟩ = some (.int .i64 2) := I3 1 _ rfl
  have g2 : (((w2.alloc (.cells #[.int .u8 0, .int .i64 0, .int .i64 0] 30)).alloc (.cells #[.int .u8 2, .int .i64 2, .int .i64 3, .int .u8 2, .int .i64 2, .int .i64 0, .int .i64 7, .int .i64 2, .int .i64 2, .int .i64 1, .int .u64 131071, .int .u64 9] 24)).alloc (.cells #[.int .u8 2, .int .i64 2, .int .i64 3, .int .u8 2, .int .i64 2, .int .i64 0, .int .i64 7, .int .i64 2, .int .i64 2, .int .i64 1, .int .u64 131072, .int .u64 0] 24)).cell? ⟨w.heap.size, 2, none⟩ = some (.int .i64 3) := I3 2 _ rfl
  have g3 : (((w2.alloc (.cells #[.int .u8 0, .int .i64 0, .int .i64 0] 30)).alloc (.cells #[.int .u8 2, .int .i64 2, .int .i64 3, .int .u8 2, .int .i64 2, .int .i64 0, .int .i64 7, .int .i64 2, .int .i64 2, .int .i64 1, .int .u64 131071, .int .u64 9] 24)).alloc (.cells #[.int .u8 2, .int .i64 2, .int .i64 3, .int .u8 2, .int .i64 2, .int .i64 0, .int .i64 7, .int .i64 2, .int .i64 2, .int .i64 1, .int .u64 131072, .int .u64 0] 24)).cell? ⟨w.heap.size, 3, none⟩ = some (.int .u8 2) := I3 3 _ rfl
  have g4 : (((w2.alloc (.cells #[.int .u8 0, .int .i64 0, .int .i64 0] 30)).alloc (.cells #[.int .u8 2, .int .i64 2, .int .i64 3, .int .u8 2, .int .i64 2, .int .i64 0, .int .i64 7, .int .i64 2, .int .i64 2, .int .i64 1, .int .u64 131071, .int .u64 9] 24)).alloc (.cells #[.int .u8 2, .int .i64 2, .int .i64 3, .int .u8 2, .int .i64 2, .int .i64 0, .int .i64 7, .int .i64 2, .int .i64 2, .int .i64 1, .int .u64 131072, .int .u64 0] 24)).cell? ⟨w.heap.size, 4, none⟩ = some (.int .i64 2) := I3 4 _ rfl
  have g5 : (((w2.alloc (.cells #[.int .u8 0, .int .i64 0, .int .i64 0] 30)).alloc (.cells #[.int .u8 2, .int .i64 2, .int .i64 3, .int .u8 2, .int .i64 2, .int .i64 0, .int .i64 7, .int .i64 2, .int .i64 2, .int .i64 1, .int .u64 131071, .int .u64 9] 24)).alloc (.cells #[.int .u8 2, .int .i64 2, .int .i64 3, .int .u8 2, .int .i64 2, .int .i64 0, .int .i64 7, .int .i64 2, .int .i64 2, .int .i64 1, .int .u64 131072, .int .u64 0] 24)).cell? ⟨w.heap.size, 5, none⟩ = some (.int .i64 0) := I3 5 _ rfl
  have g6 : (((w2.alloc (.cells #[.int .u8 0, .int .i64 0, .int .i64 0] 30)).alloc (.cells #[.int .u8 2, .int .i64 2, .int .i64 3, .int .u8 2, .int .i64 2, .int .i64 0, .int .i64 7, .int .i64 2, .int .i64 2, .int .i64 1, .int .u64 131071, .int .u64 9] 24)).alloc (.cells #[.int .u8 2, .int .i64 2, .int .i64 3, .int .u8 2, .int .i64 2, .int .i64 0, .int .i64 7, .int .i64 2, .int .i64 2, .int .i64 1, .int .u64 131072, .int .u64 0] 24)).cell? ⟨w.heap.size, 6, none⟩ = some (.int .i64 7) := I3 6 _ rfl
  have g7 : (((w2.alloc (.cells #[.int .u8 0, .int .i64 0, .int .i64 0] 30)).alloc (.cells #[.int .u8 2, .int .i64 2, .int .i64 3, .int .u8 2, .int .i64 2, .int .i64 0, .int .i64 7, .int .i64 2, .int .i64 2, .int .i64 1, .int .u64 131071, .int .u64 9] 24)).alloc (.cells #[.int .u8 2, .int .i64 2, .int .i64 3, .int .u8 2, .int .i64 2, .int .i64 0, .int .i64 7, .int .i64 2, .int .i64 2, .int .i64 1, .int .u64 131072, .int .u64 0] 24)).cell? ⟨w.heap.size, 7, none⟩ = some (.int .i64 2) := I3 7 _ rfl
  have g8 : (((w2.alloc (.cells #[.int .u8 0, .int .i64 0, .int .i64 0] 30)).alloc (.cells #[.int .u8 2, .int .i64 2, .int .i64 3, .int .u8 2, .int .i64 2, .int .i64 0, .int .i64 7, .int .i64 2, .int .i64 2, .int .i64 1, .int .u64 131071, .int .u64 9] 24)).alloc (.cells #[.int .u8 2, .int .i64 2, .int .i64 3, .int .u8 2, .int .i64 2, .int .i64 0, .int .i64 7, .int .i64 2, .int .i64 2, .int .i64 1, .int .u64 131072, .int .u64 0] 24)).cell? ⟨w.heap.size, 8, none⟩ = some (.int .i64 2) := I3 8 _ rfl
  have g9 : (((w2.alloc (.cells #[.int .u8 0, .int .i64 0, .int .i64 0] 30)).alloc (.cells #[.int .u8 2, .int .i64 2, .int .i64 3, .int .u8 2, .int .i64 2, .int .i64 0, .int .i64 7, .int .i64 2, .int .i64 2, .int .i64 1, .int .u64 131071, .int .u64 9] 24)).alloc (.cells #[.int .u8 2, .int .i64 2, .int .i64 3, .int .u8 2, .int .i64 2, .int .i64 0, .int .i64 7, .int .i64 2, .int .i64 2, .int .i64 1, .int .u64 131072, .int .u64 0] 24)).cell? ⟨w.heap.size, 9, none⟩ = some (.int .i64 1) := I3 9 _ rfl
  have g10 : (((w2.alloc (.cells #[.int .u8 0, .int .i64 0, .int .i64 0] 30)).alloc (.cells #[.int .u8 2, .int .i64 2, .int .i64 3, .int .u8 2, .int .i64 2, .int .i64 0, .int .i64 7, .int .i64 2, .int .i64 2, .int .i64 1, .int .u64 131071, .int .u64 9] 24)).alloc (.cells #[.int .u8 2, .int .i64 2, .int .i64 3, .int .u8 2, .int .i64 2, .int .i64 0, .int .i64 7, .int .i64 2, .int .i64 2, .int .i64 1, .int .u64 131072, .int .u64 0] 24)).cell? ⟨w.heap.size, 10, none⟩ = some (.int .u64 131072) := I3 10 _ rfl
  have g11 : (((w2.alloc (.cells #[.int .u8 0, .int .i64 0, .int .i64 0] 30)).alloc (.cells #[.int .u8 2, .int .i64 2, .int .i64 3, .int .u8 2, .int .i64 2, .int .i64 0, .int .i64 7, .int .i64 2, .int .i64 2, .int .i64 1, .int .u64 131071, .int .u64 9] 24)).alloc (.cells #[.int .u8 2, .int .i64 2, .int .i64 3, .int .u8 2, .int .i64 2, .int .i64 0, .int .i64 7, .int .i64 2, .int .i64 2, .int .i64 1, .int .u64 131072, .int .u64 0] 24)).cell? ⟨w.heap.size, 11, none⟩ = some (.int .u64 9) := I3 11 _ rfl
  clear I2 I3
  go_wp2_with fail
  obtain ⟨W4, hW4⟩ : ∃ W4, W4 = (((w2.alloc (.cells #[.int .u8 0, .int .i64 0, .int .i64 0] 30)).alloc (.cells #[.int .u8 2, .int .i64 2, .int .i64 3, .int .u8 2, .int .i64 2, .int .i64 0, .int .i64 7, .int .i64 2, .int .i64 2, .int .i64 1, .int .u64 131071, .int .u64 9] 24)).alloc (.cells #[.int .u8 2, .int .i64 2, .int .i64 3, .int .u8 2, .int .i64 2, .int .i64 0, .int .i64 7, .int .i64 2, .int .i64 2, .int .i64 1, .int .u64 131072, .int .u64 0] 24)).alloc (.cells #[.int .u8 2, .int .i64 2, .int .i64 3, .int .u8 2, .int .i64 2, .int .i64 1, .int .i64 7, .int .i64 2, .int .i64 2, .int .i64 1, .int .u64 131072, .int .u64 9] 24) := ⟨_, rfl⟩
  have S4 : IsCf W4 (w2.heap.size + 1) exS := by rw [hW4]; exact ((cf_lit (w2.alloc (.cells #[.int .u8 0, .int .i64 0, .int .i64 0] 30)) exS 24 (by simp)).same (Below.heap_alloc _ _ _ (by simp))).same (Below.heap_alloc _ _ _ (by simp))
  have N4 : IsCf W4 (w2.heap.size + 1 + 1) exN := by rw [hW4]; exact (cf_lit ((w2.alloc (.cells #[.int .u8 0, .int .i64 0, .int .i64 0] 30)).alloc (.cells #[.int .u8 2, .int .i64 2, .int .i64 3, .int .u8 2, .int .i64 2, .int .i64 0, .int .i64 7, .int .i64 2, .int .i64 2, .int .i64 1, .int .u64 131071, .int .u64 9] 24)) exN 24 (by simp)).same (Below.heap_alloc _ _ _ (by simp))
  have T4 : IsCf W4 (w2.heap.size + 1 + 1 + 1) exT := by rw [hW4]; exact cf_lit (((w2.alloc (.cells #[.int .u8 0, .int .i64 0, .int .i64 0] 30)).alloc (.cells #[.int .u8 2, .int .i64 2, .int .i64 3, .int .u8 2, .int .i64 2, .int .i64 0, .int .i64 7, .int .i64 2, .int .i64 2, .int .i64 1, .int .u64 131071, .int .u64 9] 24)).alloc (.cells #[.int .u8 2, .int .i64 2, .int .i64 3, .int .u8 2, .int .i64 2, .int .i64 0, .int .i64 7, .int .i64 2, .int .i64 2, .int .i64 1, .int .u64 131072, .int .u64 0] 24)) exT 24 (by simp)
  have hb4 : Below w.heap.size w W4 := by rw [hW4]; exact below_then (below_then hb02 (below_three w2 _ _ _)) (below_one _ _)
  rw [← hW4]
  have HN := Lib.hid N4
  have HT := Lib.hid T4
  clear hW4 S4 N4 T4 f0 f1 f2 f3 f4 f5 f6 f7 f8 f9 f10 f11 g0 g1 g2 g3 g4 g5 g6 g7 g8 g9 g10 g11 hr1
  refine (k1 _).mono ?_
  rintro e w5 ⟨rfl, hb5⟩
  have n := HN.out.same (hb5.block _ HN.out.lt)
  have n0 : w5.cell? ⟨w2.heap.size + 1 + 1, 0, none⟩ = some (.int .u8 2) := n 0 _ rfl
  have n1 : w5.cell? ⟨w2.heap.size + 1 + 1, 1, none⟩ = some (.int .i64 2) := n 1 _ rfl
  have n2 : w5.cell? ⟨w2.heap.size + 1 + 1, 2, none⟩ = some (.int .i64 3) := n 2 _ rfl
  have n3 : w5.cell? ⟨w2.heap.size + 1 + 1, 3, none⟩ = some (.int .u8 2) := n 3 _ rfl
  have n4 : w5.cell? ⟨w2.heap.size + 1 + 1, 4, none⟩ = some (.int .i64 2) := n 4 _ rfl
  have n5 : w5.cell? ⟨w2.heap.size + 1 + 1, 5, none⟩ = some (.int .i64 0) := n 5 _ rfl
  have n6 : w5.cell? ⟨w2.heap.size + 1 + 1, 6, none⟩ = some (.int .i64 7) := n 6 _ rfl
  have n7 : w5.cell? ⟨w2.heap.size + 1 + 1, 7, none⟩ = some (.int .i64 2) := n 7 _ rfl
  have n8 : w5.cell? ⟨w2.heap.size + 1 + 1, 8, none⟩ = some (.int .i64 2) := n 8 _ rfl
  have n9 : w5.cell? ⟨w2.heap.size + 1 + 1, 9, none⟩ = some (.int .i64 1) := n 9 _ rfl
  have n10 : w5.cell? ⟨w2.heap.size + 1 + 1, 10, none⟩ = some (.int .u64 131072) := n 10 _ rfl
  have n11 : w5.cell? ⟨w2.heap.size + 1 + 1, 11, none⟩ = some (.int .u64 0) := n 11 _ rfl
  clear n k1
  go_wp2_with fail
  refine (k2 _).mono ?_
  rintro e w6 ⟨rfl, hb6⟩
  have hb46 := below_then hb5 hb6
  have n := HT.out.same (hb46.block _ HT.out.lt)
  clear n0 n1 n2 n3 n4 n5 n6 n7 n8 n9 n10 n11 hb5 hb6 k2
  have n0 : w6.cell? ⟨w2.heap.size + 1 + 1 + 1, 0, none⟩ = some (.int .u8 2) := n 0 _ rfl
  have n1 : w6.cell? ⟨w2.heap.size + 1 + 1 + 1, 1, none⟩ = some (.int .i64 2) := n 1 _ rfl
  have n2 : w6.cell? ⟨w2.heap.size + 1 + 1 + 1, 2, none⟩ = some (.int .i64 3) := n 2 _ rfl
  have n3 : w6.cell? ⟨w2.heap.size + 1 + 1 + 1, 3, none⟩ = some (.int .u8 2) := n 3 _ rfl
  have n4 : w6.cell? ⟨w2.heap.size + 1 + 1 + 1, 4, none⟩ = some (.int .i64 2) := n 4 _ rfl
  have n5 : w6.cell? ⟨w2.heap.size + 1 + 1 + 1, 5, none⟩ = some (.int .i64 1) := n 5 _ rfl
  have n6 : w6.cell? ⟨w2.heap.size + 1 + 1 + 1, 6, none⟩ = some (.int .i64 7) := n 6 _ rfl
  have n7 : w6.cell? ⟨w2.heap.size + 1 + 1 + 1, 7, none⟩ = some (.int .i64 2) := n 7 _ rfl
  have n8 : w6.cell? ⟨w2.heap.size + 1 + 1 + 1, 8, none⟩ = some (.int .i64 2) := n 8 _ rfl
  have n9 : w6.cell? ⟨w2.heap.size + 1 + 1 + 1, 9, none⟩ = some (.int .i64 1) := n 9 _ rfl
  have n10 : w6.cell? ⟨w2.heap.size + 1 + 1 + 1, 10, none⟩ = some (.int .u64 131072) := n 10 _ rfl
  have n11 : w6.cell? ⟨w2.heap.size + 1 + 1 + 1, 11, none⟩ = some (.int .u64 9) := n 11 _ rfl
  clear n
  go_wp2_with fail
  refine (k3 _).mono ?_
  rintro e w7 ⟨rfl, hb7⟩
  have hb47 := below_then hb46 hb7
  clear n0 n1 n2 n3 n4 n5 n6 n7 n8 n9 n10 n11 hb46 hb7 k3
  go_wp2_with fail
  refine (k4 _).mono ?_
  rintro e w8 ⟨rfl, hb8⟩
  have hb48 := below_then hb4 (below_then hb47 hb8)
  clear hb47 hb8 k4
  go_wp2_with fail
  refine (alive_any _ (HP.out.below hb48)).mono ?_
  rintro e w9 ⟨rfl, hb9⟩
  go_wp2
  go_ret
  exact Ret.mk rfl (below_then hb48 hb9)

set_option maxRecDepth 100000 in
theorem lifted (os : Os) (started : os.Started) (H : Type) (enc : TypeId × Value → H) :
    ReturnsInHanded {} Tryd.checked os 3 .any (fun w args => (Rows.partNamesSpec.pre enc Tryd.prog Tryd.f3 [] false w args ∧ laidMetH Tryd.prog laidL w) ∧ sizedMet enc Tryd.prog Tryd.f3 (OpenSpec.ofChange Rows.partNamesSpec) false w args)
      (Rows.partNamesSpec.post enc Tryd.prog Tryd.f3 false true false false) := by
  refine returnsInHanded_of_change_and (C := Tryd.checked) (X := fun w _ => laidMetH Tryd.prog laidL w) (fun _ _ _ hh h => h.of_heap hh) own started (by kernel_rfl) Tryd.func3
    (ChangeSpec.witness_shaped (enc := enc) (C := Tryd.checked) (os := os) (X := fun w _ => laidMetH Tryd.prog laidL w) false (World.doorLaid Tryd.prog 400 os) #[] 8 rfl (World.shaped_of_RefB (by kernel_rfl) (by kernel_rfl)) (by kernel_rfl) (by kernel_rfl) (by kernel_rfl) (door_met os _)) ?_
  intro W base args ds gs before hval0 hW _ _ hL _
  refine law_of laidOut (by kernel_rfl) (by kernel_rfl) Tryd.underlying4 rfl ?_ hW fun p hA => ?_
  · intro ds hd
    match ds, hd with
    | [], _ => rfl
  rw [Tryd.params3] at hA
  obtain ⟨hargs, rfl, rfl⟩ := trodAll_nil hA
  obtain rfl : args = #[] := by cases args; simp_all
  exact walk W (of_laid hL)

theorem row : Rows.PartNamesSaid :=
  OpenClaim.holds_of_wide 3 Tryd.f3 rfl rfl rfl rfl rfl rfl rfl ⟨rfl, rfl, rfl, rfl, rfl⟩ rfl rfl rfl rfl rfl (by kernel_rfl) Tryd.func3 (by kernel_rfl)
    (of_decide_eq_true (by kernel_rfl)) (by unfold Func.isWrapper; first | (rw [if_pos (by decide +kernel)]; kernel_rfl) | (rw [if_neg (by decide +kernel)]; exact ⟨rfl, rfl⟩))
    (fun os started H enc _ => lifted os started H enc)

theorem card : Rows.PartNamesCardSaid :=
  Claim7.holds_tied_plain_at .later [] [.data] true Rows.partNamesCard.stood.harness false
    row (fun _ h => by cases h) (by kernel_rfl) (fun _ h => by cases h) partNames_row_tie rfl ⟨rfl, rfl⟩ (by kernel_rfl) rfl
    (fun f fn hf hfn => by
      obtain rfl : f = 3 := Option.some.inj ((show Tryd.prog.funcNamed "bascule/basculelaw04.PartNames" = some 3 by kernel_rfl).symm.trans hf) |>.symm
      obtain rfl : fn = Tryd.f3 := (Option.some.inj (Tryd.func3.symm.trans hfn)).symm
      exact ⟨by kernel_rfl, fun j t ht => by
        rw [Tryd.params3] at ht
        simp at ht⟩)
    (by kernel_rfl)
#print axioms card

end Go.Proofs.YtmnlfhpkfgfpoaaDoor.partNames
