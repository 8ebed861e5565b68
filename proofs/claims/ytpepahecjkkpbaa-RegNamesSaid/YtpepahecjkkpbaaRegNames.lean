/- The chapter's greatest desc is laid, each of eight that are too great is refused. -/
import Derived.Test.YtpepahecjkkpbaaRgLive
import Derived.Test.YtpepahecjkkpbaaLaw
import Derived.Lib.QuietBelow
import Derived.BigQuiet
namespace Go.Proofs.Ytpepahecjkkpbaa.regNames
open Go.ChangeShapes Go.WideShapes Go.ChangeAt Go.RowKit Opn

theorem cellAt {w : World} {g : Nat} {xs : Array Value} {t : TypeId} (h : w.heap[g]? = some (.cells xs t (0, 0))) (j : Nat) {v : Value} (hv : xs[j]? = some v) : w.cell? ⟨g, j, none⟩ = some v := by
  simp only [World.cell?, h]
  exact hv

def dFull : Ds := ⟨18446744073709551615, 31, 127, 15, 4294967295, 4294967295, 31, 127, 127, 63, 63, 7, 4294967295, 4294967295⟩
theorem full_laid : laidD dFull = ((18446744073709551615, 1125899906842623, 18446744073709551615, 18446744073709551615), 0) ∧ ofC 18446744073709551615 1125899906842623 18446744073709551615 18446744073709551615 = dFull := by decide +kernel
def d_seq : Ds := ⟨0, 0, 128, 0, 0, 0, 0, 0, 0, 0, 0, 0, 0, 0⟩
theorem over_seq : laidD d_seq = ((0, 0, 0, 0), 10) := by decide +kernel
def d_kind : Ds := ⟨0, 0, 0, 16, 0, 0, 0, 0, 0, 0, 0, 0, 0, 0⟩
theorem over_kind : laidD d_kind = ((0, 0, 0, 0), 10) := by decide +kernel
def d_pc : Ds := ⟨0, 0, 0, 0, 0, 0, 32, 0, 0, 0, 0, 0, 0, 0⟩
theorem over_pc : laidD d_pc = ((0, 0, 0, 0), 10) := by decide +kernel
def d_i : Ds := ⟨0, 0, 0, 0, 0, 0, 0, 128, 0, 0, 0, 0, 0, 0⟩
theorem over_i : laidD d_i = ((0, 0, 0, 0), 10) := by decide +kernel
def d_j : Ds := ⟨0, 0, 0, 0, 0, 0, 0, 0, 128, 0, 0, 0, 0, 0⟩
theorem over_j : laidD d_j = ((0, 0, 0, 0), 10) := by decide +kernel
def d_n : Ds := ⟨0, 0, 0, 0, 0, 0, 0, 0, 0, 64, 0, 0, 0, 0⟩
theorem over_n : laidD d_n = ((0, 0, 0, 0), 10) := by decide +kernel
def d_p : Ds := ⟨0, 0, 0, 0, 0, 0, 0, 0, 0, 0, 64, 0, 0, 0⟩
theorem over_p : laidD d_p = ((0, 0, 0, 0), 10) := by decide +kernel
def d_h : Ds := ⟨0, 0, 0, 0, 0, 0, 0, 0, 0, 0, 0, 8, 0, 0⟩
theorem over_h : laidD d_h = ((0, 0, 0, 0), 10) := by decide +kernel

set_option maxRecDepth 100000 in
set_option maxHeartbeats 4000000 in
theorem walk (w : World) : Calls Try.prog 3 #[] w (Ret (.bool true) w) := by
  have HA := Lib.hid (fun W => rgalive_any W)
  have HF : Hid (∀ W, Calls Try.prog 8 #[.agg #[.int .u64 18446744073709551615, .int .u8 31, .int .u8 127, .int .u8 15, .int .u32 4294967295, .int .u32 4294967295, .int .u8 31, .int .u8 127, .int .u8 127, .int .u8 63, .int .u8 63, .int .u8 7, .int .u32 4294967295, .int .u32 4294967295]] W (Ret (.tuple #[.agg #[.int .u64 18446744073709551615, .int .u64 1125899906842623, .int .u64 18446744073709551615, .int .u64 18446744073709551615], .int .i64 0]) W)) := Lib.hid fun W => by
    have h := gLaid_any dFull (by decide) W
    rw [full_laid.1] at h
    exact h
  have HO : Hid (∀ W, Calls Try.prog 10 #[.agg #[.int .u64 18446744073709551615, .int .u64 1125899906842623, .int .u64 18446744073709551615, .int .u64 18446744073709551615]] W (Ret (.agg #[.int .u64 18446744073709551615, .int .u8 31, .int .u8 127, .int .u8 15, .int .u32 4294967295, .int .u32 4294967295, .int .u8 31, .int .u8 127, .int .u8 127, .int .u8 63, .int .u8 63, .int .u8 7, .int .u32 4294967295, .int .u32 4294967295]) W)) := Lib.hid fun W => by
    have h := gOf_any 18446744073709551615 1125899906842623 18446744073709551615 18446744073709551615 (by decide) (by decide) (by decide) (by decide) W
    rw [full_laid.2] at h
    exact h
  have H_seq : Hid (∀ W, Calls Try.prog 8 #[.agg #[.int .u64 0, .int .u8 0, .int .u8 128, .int .u8 0, .int .u32 0, .int .u32 0, .int .u8 0, .int .u8 0, .int .u8 0, .int .u8 0, .int .u8 0, .int .u8 0, .int .u32 0, .int .u32 0]] W (Ret (.tuple #[.agg #[.int .u64 0, .int .u64 0, .int .u64 0, .int .u64 0], .int .i64 10]) W)) := Lib.hid fun W => by
    have h := gLaid_any d_seq (by decide) W
    rw [over_seq] at h
    exact h
  have H_kind : Hid (∀ W, Calls Try.prog 8 #[.agg #[.int .u64 0, .int .u8 0, .int .u8 0, .int .u8 16, .int .u32 0, .int .u32 0, .int .u8 0, .int .u8 0, .int .u8 0, .int .u8 0, .int .u8 0, .int .u8 0, .int .u32 0, .int .u32 0]] W (Ret (.tuple #[.agg #[.int .u64 0, .int .u64 0, .int .u64 0, .int .u64 0], .int .i64 10]) W)) := Lib.hid fun W => by
    have h := gLaid_any d_kind (by decide) W
    rw [over_kind] at h
    exact h
  have H_pc : Hid (∀ W, Calls Try.prog 8 #[.agg #[.int .u64 0, .int .u8 0, .int .u8 0, .int .u8 0, .int .u32 0, .int .u32 0, .int .u8 32, .int .u8 0, .int .u8 0, .int .u8 0, .int .u8 0, .int .u8 0, .int .u32 0, .int .u32 0]] W (Ret (.tuple #[.agg #[.int .u64 0, .int .u64 0, .int .u64 0, .int .u64 0], .int .i64 10]) W)) := Lib.hid fun W => by
    have h := gLaid_any d_pc (by decide) W
    rw [over_pc] at h
    exact h
  have H_i : Hid (∀ W, Calls Try.prog 8 #[.agg #[.int .u64 0, .int .u8 0, .int .u8 0, .int .u8 0, .int .u32 0, .int .u32 0, .int .u8 0, .int .u8 128, .int .u8 0, .int .u8 0, .int .u8 0, .int .u8 0, .int .u32 0, .int .u32 0]] W (Ret (.tuple #[.agg #[.int .u64 0, .int .u64 0, .int .u64 0, .int .u64 0], .int .i64 10]) W)) := Lib.hid fun W => by
    have h := gLaid_any d_i (by decide) W
    rw [over_i] at h
    exact h
  have H_j : Hid (∀ W, Calls Try.prog 8 #[.agg #[.int .u64 0, .int .u8 0, .int .u8 0, .int .u8 0, .int .u32 0, .int .u32 0, .int .u8 0, .int .u8 0, .int .u8 128, .int .u8 0, .int .u8 0, .int .u8 0, .int .u32 0, .int .u32 0]] W (Ret (.tuple #[.agg #[.int .u64 0, .int .u64 0, .int .u64 0, .int .u64 0], .int .i64 10]) W)) := Lib.hid fun W => by
    have h := gLaid_any d_j (by decide) W
    rw [over_j] at h
    exact h
  have H_n : Hid (∀ W, Calls Try.prog 8 #[.agg #[.int .u64 0, .int .u8 0, .int .u8 0, .int .u8 0, .int .u32 0, .int .u32 0, .int .u8 0, .int .u8 0, .int .u8 0, .int .u8 64, .int .u8 0, .int .u8 0, .int .u32 0, .int .u32 0]] W (Ret (.tuple #[.agg #[.int .u64 0, .int .u64 0, .int .u64 0, .int .u64 0], .int .i64 10]) W)) := Lib.hid fun W => by
    have h := gLaid_any d_n (by decide) W
    rw [over_n] at h
    exact h
  have H_p : Hid (∀ W, Calls Try.prog 8 #[.agg #[.int .u64 0, .int .u8 0, .int .u8 0, .int .u8 0, .int .u32 0, .int .u32 0, .int .u8 0, .int .u8 0, .int .u8 0, .int .u8 0, .int .u8 64, .int .u8 0, .int .u32 0, .int .u32 0]] W (Ret (.tuple #[.agg #[.int .u64 0, .int .u64 0, .int .u64 0, .int .u64 0], .int .i64 10]) W)) := Lib.hid fun W => by
    have h := gLaid_any d_p (by decide) W
    rw [over_p] at h
    exact h
  have H_h : Hid (∀ W, Calls Try.prog 8 #[.agg #[.int .u64 0, .int .u8 0, .int .u8 0, .int .u8 0, .int .u32 0, .int .u32 0, .int .u8 0, .int .u8 0, .int .u8 0, .int .u8 0, .int .u8 0, .int .u8 8, .int .u32 0, .int .u32 0]] W (Ret (.tuple #[.agg #[.int .u64 0, .int .u64 0, .int .u64 0, .int .u64 0], .int .i64 10]) W)) := Lib.hid fun W => by
    have h := gLaid_any d_h (by decide) W
    rw [over_h] at h
    exact h
  have EC : ∀ W : World, (binOp .eql 29 (.agg #[.int .u64 18446744073709551615, .int .u64 1125899906842623, .int .u64 18446744073709551615, .int .u64 18446744073709551615]) (.agg #[.int .u64 18446744073709551615, .int .u64 1125899906842623, .int .u64 18446744073709551615, .int .u64 18446744073709551615])).run Try.prog W = .ok (.bool true) W := fun W => by kernel_rfl
  have ED : ∀ W : World, (binOp .eql 27 (.agg #[.int .u64 18446744073709551615, .int .u8 31, .int .u8 127, .int .u8 15, .int .u32 4294967295, .int .u32 4294967295, .int .u8 31, .int .u8 127, .int .u8 127, .int .u8 63, .int .u8 63, .int .u8 7, .int .u32 4294967295, .int .u32 4294967295]) (.agg #[.int .u64 18446744073709551615, .int .u8 31, .int .u8 127, .int .u8 15, .int .u32 4294967295, .int .u32 4294967295, .int .u8 31, .int .u8 127, .int .u8 127, .int .u8 63, .int .u8 63, .int .u8 7, .int .u32 4294967295, .int .u32 4294967295])).run Try.prog W = .ok (.bool true) W := fun W => by kernel_rfl
  go_enter Try.func3, Try.ntmps3
  go_wp2_with fail
  refine (HF.out _).mono ?_
  rintro e w1 ⟨rfl, hb1⟩
  have gf := (hb1.block w.heap.size (by simp)).trans (heap_alloc_new w _)
  have gc := heap_alloc_new w1 (.cells #[.int .u64 18446744073709551615, .int .u64 1125899906842623, .int .u64 18446744073709551615, .int .u64 18446744073709551615] 29)
  replace gf := (heap_alloc_old w1 (.cells #[.int .u64 18446744073709551615, .int .u64 1125899906842623, .int .u64 18446744073709551615, .int .u64 18446744073709551615] 29) (Array.getElem?_eq_some_iff.1 gf).1).trans gf
  have hbW := below_then (below_b1 hb1) (below_one w1 (.cells #[.int .u64 18446744073709551615, .int .u64 1125899906842623, .int .u64 18446744073709551615, .int .u64 18446744073709551615] 29))
  go_wp2_with fail
  refine (H_seq.out _).mono ?_
  rintro e v0 ⟨rfl, hb⟩
  replace gf := (hb.block _ (Array.getElem?_eq_some_iff.1 gf).1).trans gf
  replace gc := (hb.block _ (Array.getElem?_eq_some_iff.1 gc).1).trans gc
  replace hbW := below_then (below_then hbW hb) (below_one v0 (.cells #[.int .u64 0, .int .u64 0, .int .u64 0, .int .u64 0] 29))
  replace gf := (heap_alloc_old v0 (.cells #[.int .u64 0, .int .u64 0, .int .u64 0, .int .u64 0] 29) (Array.getElem?_eq_some_iff.1 gf).1).trans gf
  replace gc := (heap_alloc_old v0 (.cells #[.int .u64 0, .int .u64 0, .int .u64 0, .int .u64 0] 29) (Array.getElem?_eq_some_iff.1 gc).1).trans gc
  clear hb
  go_wp2_with fail
  refine (H_kind.out _).mono ?_
  rintro e v1 ⟨rfl, hb⟩
  replace gf := (hb.block _ (Array.getElem?_eq_some_iff.1 gf).1).trans gf
  replace gc := (hb.block _ (Array.getElem?_eq_some_iff.1 gc).1).trans gc
  replace hbW := below_then (below_then hbW hb) (below_one v1 (.cells #[.int .u64 0, .int .u64 0, .int .u64 0, .int .u64 0] 29))
  replace gf := (heap_alloc_old v1 (.cells #[.int .u64 0, .int .u64 0, .int .u64 0, .int .u64 0] 29) (Array.getElem?_eq_some_iff.1 gf).1).trans gf
  replace gc := (heap_alloc_old v1 (.cells #[.int .u64 0, .int .u64 0, .int .u64 0, .int .u64 0] 29) (Array.getElem?_eq_some_iff.1 gc).1).trans gc
  clear hb
  go_wp2_with fail
  refine (H_pc.out _).mono ?_
  rintro e v2 ⟨rfl, hb⟩
  replace gf := (hb.block _ (Array.getElem?_eq_some_iff.1 gf).1).trans gf
  replace gc := (hb.block _ (Array.getElem?_eq_some_iff.1 gc).1).trans gc
  replace hbW := below_then (below_then hbW hb) (below_one v2 (.cells #[.int .u64 0, .int .u64 0, .int .u64 0, .int .u64 0] 29))
  replace gf := (heap_alloc_old v2 (.cells #[.int .u64 0, .int .u64 0, .int .u64 0, .int .u64 0] 29) (Array.getElem?_eq_some_iff.1 gf).1).trans gf
  replace gc := (heap_alloc_old v2 (.cells #[.int .u64 0, .int .u64 0, .int .u64 0, .int .u64 0] 29) (Array.getElem?_eq_some_iff.1 gc).1).trans gc
  clear hb
  go_wp2_with fail
  refine (H_i.out _).mono ?_
  rintro e v3 ⟨rfl, hb⟩
  replace gf := (hb.block _ (Array.getElem?_eq_some_iff.1 gf).1).trans gf
  replace gc := (hb.block _ (Array.getElem?_eq_some_iff.1 gc).1).trans gc
  replace hbW := below_then (below_then hbW hb) (below_one v3 (.cells #[.int .u64 0, .int .u64 0, .int .u64 0, .int .u64 0] 29))
  replace gf := (heap_alloc_old v3 (.cells #[.int .u64 0, .int .u64 0, .int .u64 0, .int .u64 0] 29) (Array.getElem?_eq_some_iff.1 gf).1).trans gf
  replace gc := (heap_alloc_old v3 (.cells #[.int .u64 0, .int .u64 0, .int .u64 0, .int .u64 0] 29) (Array.getElem?_eq_some_iff.1 gc).1).trans gc
  clear hb
  go_wp2_with fail
  refine (H_j.out _).mono ?_
  rintro e v4 ⟨rfl, hb⟩
  replace gf := (hb.block _ (Array.getElem?_eq_some_iff.1 gf).1).trans gf
  replace gc := (hb.block _ (Array.getElem?_eq_some_iff.1 gc).1).trans gc
  replace hbW := below_then (below_then hbW hb) (below_one v4 (.cells #[.int .u64 0, .int .u64 0, .int .u64 0, .int .u64 0] 29))
  replace gf := (heap_alloc_old v4 (.cells #[.int .u64 0, .int .u64 0, .int .u64 0, .int .u64 0] 29) (Array.getElem?_eq_some_iff.1 gf).1).trans gf
  replace gc := (heap_alloc_old v4 (.cells #[.int .u64 0, .int .u64 0, .int .u64 0, .int .u64 0] 29) (Array.getElem?_eq_some_iff.1 gc).1).trans gc
  clear hb
  go_wp2_with fail
  refine (H_n.out _).mono ?_
  rintro e v5 ⟨rfl, hb⟩
  replace gf := (hb.block _ (Array.getElem?_eq_some_iff.1 gf).1).trans gf
  replace gc := (hb.block _ (Array.getElem?_eq_some_iff.1 gc).1).trans gc
  replace hbW := below_then (below_then hbW hb) (below_one v5 (.cells #[.int .u64 0, .int .u64 0, .int .u64 0, .int .u64 0] 29))
  replace gf := (heap_alloc_old v5 (.cells #[.int .u64 0, .int .u64 0, .int .u64 0, .int .u64 0] 29) (Array.getElem?_eq_some_iff.1 gf).1).trans gf
  replace gc := (heap_alloc_old v5 (.cells #[.int .u64 0, .int .u64 0, .int .u64 0, .int .u64 0] 29) (Array.getElem?_eq_some_iff.1 gc).1).trans gc
  clear hb
  go_wp2_with fail
  refine (H_p.out _).mono ?_
  rintro e v6 ⟨rfl, hb⟩
  replace gf := (hb.block _ (Array.getElem?_eq_some_iff.1 gf).1).trans gf
  replace gc := (hb.block _ (Array.getElem?_eq_some_iff.1 gc).1).trans gc
  replace hbW := below_then (below_then hbW hb) (below_one v6 (.cells #[.int .u64 0, .int .u64 0, .int .u64 0, .int .u64 0] 29))
  replace gf := (heap_alloc_old v6 (.cells #[.int .u64 0, .int .u64 0, .int .u64 0, .int .u64 0] 29) (Array.getElem?_eq_some_iff.1 gf).1).trans gf
  replace gc := (heap_alloc_old v6 (.cells #[.int .u64 0, .int .u64 0, .int .u64 0, .int .u64 0] 29) (Array.getElem?_eq_some_iff.1 gc).1).trans gc
  clear hb
  go_wp2_with fail
  refine (H_h.out _).mono ?_
  rintro e v7 ⟨rfl, hb⟩
  replace gf := (hb.block _ (Array.getElem?_eq_some_iff.1 gf).1).trans gf
  replace gc := (hb.block _ (Array.getElem?_eq_some_iff.1 gc).1).trans gc
  replace hbW := below_then (below_then hbW hb) (below_one v7 (.cells #[.int .u64 0, .int .u64 0, .int .u64 0, .int .u64 0] 29))
  replace gf := (heap_alloc_old v7 (.cells #[.int .u64 0, .int .u64 0, .int .u64 0, .int .u64 0] 29) (Array.getElem?_eq_some_iff.1 gf).1).trans gf
  replace gc := (heap_alloc_old v7 (.cells #[.int .u64 0, .int .u64 0, .int .u64 0, .int .u64 0] 29) (Array.getElem?_eq_some_iff.1 gc).1).trans gc
  clear hb
  go_wp2_with fail
  obtain ⟨W, hW⟩ : ∃ W, W = v7.alloc (.cells #[.int .u64 0, .int .u64 0, .int .u64 0, .int .u64 0] 29) := ⟨_, rfl⟩
  rw [← hW] at gf gc hbW ⊢
  obtain ⟨q, hq⟩ : ∃ q, w1.heap.size = q := ⟨_, rfl⟩
  rw [hq] at gc ⊢
  clear hW hq hb1
  have k0 := cell_regrown (cellAt gf 0 (v := .int .u64 18446744073709551615) rfl)
  have k1 := cell_regrown (cellAt gf 1 (v := .int .u8 31) rfl)
  have k2 := cell_regrown (cellAt gf 2 (v := .int .u8 127) rfl)
  have k3 := cell_regrown (cellAt gf 3 (v := .int .u8 15) rfl)
  have k4 := cell_regrown (cellAt gf 4 (v := .int .u32 4294967295) rfl)
  have k5 := cell_regrown (cellAt gf 5 (v := .int .u32 4294967295) rfl)
  have k6 := cell_regrown (cellAt gf 6 (v := .int .u8 31) rfl)
  have k7 := cell_regrown (cellAt gf 7 (v := .int .u8 127) rfl)
  have k8 := cell_regrown (cellAt gf 8 (v := .int .u8 127) rfl)
  have k9 := cell_regrown (cellAt gf 9 (v := .int .u8 63) rfl)
  have k10 := cell_regrown (cellAt gf 10 (v := .int .u8 63) rfl)
  have k11 := cell_regrown (cellAt gf 11 (v := .int .u8 7) rfl)
  have k12 := cell_regrown (cellAt gf 12 (v := .int .u32 4294967295) rfl)
  have k13 := cell_regrown (cellAt gf 13 (v := .int .u32 4294967295) rfl)
  have c0 := cell_regrown (cellAt gc 0 (v := .int .u64 18446744073709551615) rfl)
  have c1 := cell_regrown (cellAt gc 1 (v := .int .u64 1125899906842623) rfl)
  have c2 := cell_regrown (cellAt gc 2 (v := .int .u64 18446744073709551615) rfl)
  have c3 := cell_regrown (cellAt gc 3 (v := .int .u64 18446744073709551615) rfl)
  clear gf gc
  refine wp_region_quiet_below (by kernel_rfl) (by kernel_rfl) ?_
  repeat (go_big_quiet_step (first | exact Calls.regrown_of (HA.out _) | exact Calls.regrown_of (HO.out _)))
  refine wpQuiet_nil ?_
  intro W3 hw'
  obtain ⟨⟨dq, osq⟩, hw''⟩ := hw'
  have hb3 := below_regrown W dq osq
  rw [← hw''] at hb3
  clear hw''
  go_wp2
  go_ret
  exact Ret.mk rfl (below_then hbW hb3)

set_option maxRecDepth 100000 in
theorem lifted (os : Os) (started : os.Started) (H : Type) (enc : TypeId × Value → H) :
    ReturnsInHanded {} Try.checked os 3 .any (Rows.regNamesSpec.pre6 enc Try.prog Try.f3 Rows.regNamesRow.domain false) (Rows.regNamesSpec.post enc Try.prog Try.f3 false true false false) := by
  refine returnsInHanded_of_change (C := Try.checked) own started (by kernel_rfl) Try.func3
    (ChangeSpec.witness6 (enc := enc) (C := Try.checked) false ⟨#[], #[], []⟩ 8 (by kernel_rfl) (by kernel_rfl) (by kernel_rfl) (by kernel_rfl)) ?_
  intro W base args ds gs before hval hW hcnd _
  refine law_of laidOut (by kernel_rfl) (by kernel_rfl) Try.underlying4 rfl ?_ hW fun p hA => ?_
  · intro ds hd
    match ds, hd with
    | [], _ => rfl
  rw [Try.params3] at hA
  obtain ⟨hargs, rfl, rfl⟩ := trodAll_nil hA
  obtain rfl : args = #[] := by cases args; simp_all
  exact walk W

theorem proved : Rows.RegNamesSaid :=
  OpenClaim.holds_of_wide 3 Try.f3 rfl rfl rfl rfl rfl rfl rfl ⟨rfl, rfl, rfl, rfl, rfl⟩ rfl rfl rfl rfl rfl (by kernel_rfl) Try.func3 (by kernel_rfl)
    (of_decide_eq_true (by kernel_rfl)) (by unfold Func.isWrapper; rw [if_neg (by decide +kernel)]; exact ⟨rfl, rfl⟩)
    (fun os started H enc _ => lifted os started H enc)
#print axioms proved


end Go.Proofs.Ytpepahecjkkpbaa.regNames
