/- Package op: whose a kind is, whether it writes, whether an operation fits. -/
import Derived.Test.YtljdkjjjnlcflaaDoorPtChk
import Derived.Test.YtljdkjjjnlcflaaDoorOpMath
namespace Go.Proofs.YtljdkjjjnlcflaaDoor
open Go.RowKit Pt Opn

/-- The table holds the kinds' objects. -/
def Obs (W : World) : Prop := ∀ j, j < 15 → W.cell? ⟨0, j, none⟩ = some (.int .u8 (objAt j : Nat))
theorem Obs.below {W W' : World} (h : Obs W) (hb : Below W.heap.size W W') : Obs W' := fun j hj =>
  (hb.cell (World.block_lt_of_cell? _ _ (h j hj))).trans (h j hj)
theorem Obs.alloc {W : World} (h : Obs W) (o : Obj) : Obs (W.alloc o) := h.below (below_one W o)

set_option maxHeartbeats 400000 in
theorem object_any (k : Nat) (hk2 : k < 256) (w : World) (h : Obs w) : Calls Tryd.prog 42 #[.int .u8 k] w (Ret (.int .u8 (objAt k : Nat)) w) := by
  by_cases hk : k < 15
  · have hc := h k hk
    generalize objAt k = z at hc ⊢
    clear h
    have hi : (k : Int) < 15 := by omega
    have hw : wrap64 (k : Int) = k := by unfold wrap64; omega
    go_enter Tryd.func42, Tryd.ntmps42
    go_wp2
    go_ret
    exact Ret.mk rfl (Below.refl _ _)
  · have hz : objAt k = 0 := by unfold objAt; (repeat' split) <;> omega
    rw [hz]
    have hi : ¬ (k : Int) < 15 := by omega
    have hw : wrap64 (k : Int) = k := by unfold wrap64; omega
    go_enter Tryd.func42, Tryd.ntmps42
    go_wp2
    go_ret
    exact Ret.mk rfl (Below.refl _ _)

set_option maxHeartbeats 400000 in
theorem isValue_any (n : Nat) (w : World) : Calls Tryd.prog 59 #[.int .u32 n] w (Ret (.bool (decide (n ≤ 2147483647))) w) := by
  go_enter Tryd.func59, Tryd.ntmps59
  go_wp2
  go_ret
  exact Ret.mk (bool_eq (by rw [Bool.eq_iff_iff]; simp; omega)) (Below.refl _ _)
set_option maxHeartbeats 400000 in
theorem isWho_any (n : Nat) (w : World) : Calls Tryd.prog 60 #[.int .u32 n] w (Ret (.bool (decide (n ≤ 65535))) w) := by
  go_enter Tryd.func60, Tryd.ntmps60
  go_wp2
  go_ret
  exact Ret.mk (bool_eq (by rw [Bool.eq_iff_iff]; simp; omega)) (Below.refl _ _)

set_option maxHeartbeats 400000 in
theorem isPath_any (a b : Nat) (ha : a < 4294967296) (w : World) : Calls Tryd.prog 61 #[.int .u32 a, .int .u32 b] w (Ret (.bool (decide (Path a b))) w) := by
  have e1 : (a : Int) / 65536 = ((a / 65536 : Nat) : Int) := by omega
  have e2 : (a : Int).tmod 65536 = ((a % 65536 : Nat) : Int) := by rw [Int.tmod_eq_emod_of_nonneg (by omega)]; omega
  obtain ⟨d, hd⟩ : ∃ d, a / 65536 = d := ⟨_, rfl⟩
  obtain ⟨m, hm⟩ : ∃ m, a % 65536 = m := ⟨_, rfl⟩
  have hP : decide (Path a b) = decide (m ≠ 0 ∧ b ≤ 65535 ∧ (d ≠ 0 ∨ b = 0)) := by rw [decide_eq_decide]; unfold Path; rw [hd, hm]
  rw [hP]
  rw [hd] at e1
  rw [hm] at e2
  have hd2 : d < 65536 := by omega
  clear hP hd hm ha
  go_enter Tryd.func61, Tryd.ntmps61
  go_wp2
  all_goals go_ret
  all_goals exact Ret.mk (bool_eq (by rw [Bool.eq_iff_iff]; simp at *; omega)) (Below.refl _ _)

set_option maxHeartbeats 400000 in
theorem isPrefix_any (c : Cf) (a b : Nat) (hb : 0 ≤ c.bits ∧ c.bits ≤ 6) (w : World) : Calls Tryd.prog 58 #[cfv c, .int .u32 a, .int .u32 b] w (Ret (.bool (decide (Prefix c.bits.toNat a b))) w) := by
  unfold cfv
  go_enter Tryd.func58, Tryd.ntmps58
  go_wp2
  · have h6 : b ≤ 6 := by omega
    have h7 : ∀ i : Fin 7, ((2 : Int) ^ i.val % 4294967296) = ((2 ^ i.val : Nat) : Int) := by decide
    have h8 := h7 ⟨b, by omega⟩
    simp only at h8
    go_ret
    refine Ret.mk (bool_eq ?_) (below_one _ _)
    show decide ((a : Int) < 2 ^ b % 4294967296) = _
    rw [h8, decide_eq_decide]
    unfold Prefix
    omega
  · go_ret
    exact Ret.mk (bool_eq (by rw [eq_comm, decide_eq_false_iff_not]; unfold Prefix; omega)) (below_one _ _)
end Go.Proofs.YtljdkjjjnlcflaaDoor
