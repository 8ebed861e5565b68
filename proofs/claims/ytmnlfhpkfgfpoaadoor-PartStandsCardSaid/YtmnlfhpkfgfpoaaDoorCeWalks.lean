/- The small functions of package cell, and of its document's answers. -/
import Derived.Test.YtmnlfhpkfgfpoaaDoorCeMath
import Derived.Test.YtmnlfhpkfgfpoaaDoorBase
import Derived.Test.YtmnlfhpkfgfpoaaDoorTail
import Derived.Test.YtmnlfhpkfgfpoaaDoorLaw
import Derived.Deep.QuietTactic
import Derived.RegionTactic
import Derived.BigRegion
namespace Go.Proofs.YtmnlfhpkfgfpoaaDoor
open Go.RowKit Ce

set_option maxHeartbeats 1000000 in
theorem rSame_true (x y : C4) (h : x = y) (w : World) : Calls Tryd.prog 32 #[cv x, cv y] w (Ret (.bool true) w) := by
  subst h
  unfold cv
  go_enter Tryd.func32, Tryd.ntmps32
  go_wp2
  go_ret
  exact Ret.mk rfl (below_two _ _ _)

set_option maxHeartbeats 1000000 in
theorem rSame_false (x y : C4) (h : x ≠ y) (w : World) : Calls Tryd.prog 32 #[cv x, cv y] w (Ret (.bool false) w) := by
  unfold cv
  by_cases h0 : x.t = y.t
  · by_cases h1 : x.a = y.a
    · by_cases h2 : x.b = y.b
      · have h3 : ¬ x.c = y.c := fun e => h (C4.ext' h0 h1 h2 e)
        clear h
        go_enter Tryd.func32, Tryd.ntmps32
        go_wp2
        go_ret
        exact Ret.mk (by simp [h3]) (below_two _ _ _)
      · clear h
        go_enter Tryd.func32, Tryd.ntmps32
        go_wp2
        go_ret
        exact Ret.mk rfl (below_two _ _ _)
    · clear h
      go_enter Tryd.func32, Tryd.ntmps32
      go_wp2
      go_ret
      exact Ret.mk rfl (below_two _ _ _)
  · clear h
    go_enter Tryd.func32, Tryd.ntmps32
    go_wp2
    go_ret
    exact Ret.mk rfl (below_two _ _ _)

theorem rSame_any (x y : C4) (w : World) : Calls Tryd.prog 32 #[cv x, cv y] w (Ret (.bool (eqB x y)) w) := by
  by_cases h : x = y
  · rw [eqB_iff.2 h]; exact rSame_true x y h w
  · rw [show eqB x y = false by cases e : eqB x y with | false => rfl | true => exact absurd (eqB_iff.1 e) h]; exact rSame_false x y h w

set_option maxHeartbeats 1000000 in
theorem same_cells_true (A B : Option Addr) (N c d : Nat) (hN : N ≤ 9223372036854775807) (f : Nat → C4) (w : World) (hA : IsCells w A N f) (hB : IsCells w B N f) :
    Calls Tryd.prog 20 #[.slice A N c, .slice B N d] w (Ret (.bool true) w) := by
  have HA := Lib.hid hA
  have HB := Lib.hid hB
  clear hA hB
  go_enter Tryd.func20, Tryd.ntmps20
  go_wp2
  go_loopw [5] (fun i wr => ∃ k : Nat, k ≤ N ∧ i = .int .i64 k ∧ Below w.heap.size w wr) (fun i _ => N - (intOf i).toNat)
  case atStart => exact ⟨0, Nat.zero_le _, rfl, Below.refl _ _⟩
  case round =>
    obtain ⟨k, hk, rfl, hbr⟩ := hrel
    by_cases hlt : k < N
    · obtain ⟨b, off, rfl, h1⟩ := HA.out k hlt
      obtain ⟨b', off', rfl, h2⟩ := HB.out k hlt
      obtain ⟨p0, p1, p2, p3⟩ := h1.same (hbr.block _ h1.lt)
      obtain ⟨q0, q1, q2, q3⟩ := h2.same (hbr.block _ h2.lt)
      have i1 : (0 : Int) ≤ (k : Int) := by omega
      have i2 : (k : Int) < (N : Int) := by omega
      clear h1 h2
      go_wp2
      have k0 := cell_regrown p0
      have k1 := cell_regrown p1
      have k2 := cell_regrown p2
      have k3 := cell_regrown p3
      have l0 := cell_regrown q0
      have l1 := cell_regrown q1
      have l2 := cell_regrown q2
      have l3 := cell_regrown q3
      refine wp_region_quiet_below (by kernel_rfl) (by kernel_rfl) ?_
      repeat (go_big_quiet_step (exact Calls.regrown_of (rSame_true _ _ rfl _)))
      refine wpQuiet_nil ?_
      intro W3 hw'
      obtain ⟨⟨dq, osq⟩, hw''⟩ := hw'
      have hb3 := below_regrown wr dq osq
      rw [← hw''] at hb3
      clear hw'' k0 k1 k2 k3 l0 l1 l2 l3
      go_wp2
      go_roundw
      case rel => exact ⟨k + 1, by omega, by go_num, below_then hbr hb3⟩
      case measure => simp [intOf]; omega
    · obtain rfl : k = N := by omega
      go_wp2
      go_ret
      exact Ret.mk rfl hbr
end Go.Proofs.YtmnlfhpkfgfpoaaDoor
