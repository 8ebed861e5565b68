/- The chapter's example, as the document's law asks it ahead of each of its questions. -/
import Derived.Test.YtpepahecjkkpbaaRgP
import Derived.Test.YtpepahecjkkpbaaOpEq
namespace Go.Proofs.Ytpepahecjkkpbaa
open Go.RowKit Opn

def dEx : Ds := ⟨9, 1, 2, 1, 5, 3, 3, 0, 0, 0, 0, 0, 0, 7⟩
def dOver : Ds := ⟨0, 32, 0, 0, 0, 0, 0, 0, 0, 0, 0, 0, 0, 0⟩
theorem laid_ex : laidD dEx = ((9, 200769, 12884901893, 30064771072), 0) ∧ laidD dOver = ((0, 0, 0, 0), 10) := by decide +kernel

set_option maxRecDepth 100000 in
set_option maxHeartbeats 4000000 in
theorem rgalive_any (w : World) : Calls Try.prog 9 #[] w (Ret (.bool true) w) := by
  have HS : Hid (∀ W, Calls Try.prog 13 #[.agg #[.int .u8 1, .int .u32 5, .int .u32 3, .int .u32 7]] W (Ret (.agg #[.int .u8 1, .int .u32 5, .int .u32 3, .int .u8 0, .int .u8 0, .int .u8 0, .int .u8 0, .int .u8 0, .int .u8 0, .int .u32 0, .int .u32 7]) W)) := Lib.hid fun W => gStart_any ⟨1, 5, 3, 7⟩ (by unfold Wf; simp) W
  have HL : Hid (∀ W, Calls Try.prog 8 #[.agg #[.int .u64 9, .int .u8 1, .int .u8 2, .int .u8 1, .int .u32 5, .int .u32 3, .int .u8 3, .int .u8 0, .int .u8 0, .int .u8 0, .int .u8 0, .int .u8 0, .int .u32 0, .int .u32 7]] W (Ret (.tuple #[.agg #[.int .u64 9, .int .u64 200769, .int .u64 12884901893, .int .u64 30064771072], .int .i64 0]) W)) := Lib.hid fun W => by
    have h := gLaid_any dEx (by decide) W
    rw [laid_ex.1] at h
    exact h
  have HO : Hid (∀ W, Calls Try.prog 8 #[.agg #[.int .u64 0, .int .u8 32, .int .u8 0, .int .u8 0, .int .u32 0, .int .u32 0, .int .u8 0, .int .u8 0, .int .u8 0, .int .u8 0, .int .u8 0, .int .u8 0, .int .u32 0, .int .u32 0]] W (Ret (.tuple #[.agg #[.int .u64 0, .int .u64 0, .int .u64 0, .int .u64 0], .int .i64 10]) W)) := Lib.hid fun W => by
    have h := gLaid_any dOver (by decide) W
    rw [laid_ex.2] at h
    exact h
  have EF : ∀ W : World, (binOp .eql 25 (.agg #[.int .u8 1, .int .u32 5, .int .u32 3, .int .u8 0, .int .u8 0, .int .u8 0, .int .u8 0, .int .u8 0, .int .u8 0, .int .u32 0, .int .u32 7]) (.agg #[.int .u8 1, .int .u32 5, .int .u32 3, .int .u8 0, .int .u8 0, .int .u8 0, .int .u8 0, .int .u8 0, .int .u8 0, .int .u32 0, .int .u32 7])).run Try.prog W = .ok (.bool true) W := fun W => by kernel_rfl
  have EC : ∀ W : World, (binOp .eql 29 (.agg #[.int .u64 9, .int .u64 200769, .int .u64 12884901893, .int .u64 30064771072]) (.agg #[.int .u64 9, .int .u64 200769, .int .u64 12884901893, .int .u64 30064771072])).run Try.prog W = .ok (.bool true) W := fun W => by kernel_rfl
  go_enter Try.func9, Try.ntmps9
  go_wp2_with fail
  refine (HS.out _).mono ?_
  rintro e w1 ⟨rfl, hb1⟩
  go_wp2_with fail
  refine (HL.out _).mono ?_
  rintro e w2 ⟨rfl, hb2⟩
  have hc2 := (bcell hb2).1
  go_wp2_with fail
  refine (HO.out _).mono ?_
  rintro e w3 ⟨rfl, hb3⟩
  have hc3 := (bcell hb3).1
  have hs2 := hb2.size
  have hs3 := hb3.size
  simp at hs2 hs3
  have q1 : w1.heap.size < w2.heap.size := by omega
  have q2 : w1.heap.size + 1 < w2.heap.size := by omega
  have q3 : w2.heap.size < w3.heap.size := by omega
  have q4 : w1.heap.size < w3.heap.size := by omega
  have q5 : w1.heap.size + 1 < w3.heap.size := by omega
  go_wp2
  go_ret
  exact Ret.mk rfl (below_then (below_then (below_then (below_then (below_then hb1 (below_three _ _ _ _)) hb2) (below_one _ _)) hb3) (below_one _ _))
end Go.Proofs.Ytpepahecjkkpbaa
