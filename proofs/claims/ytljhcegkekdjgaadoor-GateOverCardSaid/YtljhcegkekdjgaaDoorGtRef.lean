/- The document's own program of a set of access rules: which frames may be, their acts, what becomes of them. -/
import Derived.Test.YtljhcegkekdjgaaDoorGMath
import Derived.Test.YtljhcegkekdjgaaDoorGOpen
import Derived.Test.YtljhcegkekdjgaaDoorGBk
import Derived.Test.YtljhcegkekdjgaaDoorGTr
import Derived.Test.YtljhcegkekdjgaaDoorGOpRef
import Derived.Test.YtljhcegkekdjgaaDoorGOld
namespace Go.Proofs.YtljhcegkekdjgaaDoor
open Go.RowKit Go.Lib Pt Opn

theorem wrap64u {a : Nat} (h : a < 18446744073709551616) : IntKind.u64.wrap (a : Int) = (a : Int) := by rw [IntKind.wrap_u64]; omega

set_option maxRecDepth 100000 in
set_option maxHeartbeats 4000000 in
theorem rHasG_any (f : Ds) (t A B C : Nat) (hw : DWf f) (w : World) : Calls Tryd.prog 50 #[frv f, cvT t A B C] w (Ret (.bool (decide (hasG f A B C))) w) := by
  obtain ⟨r, hr⟩ : ∃ r, decide (hasG f A B C) = r := ⟨_, rfl⟩
  rw [hr]
  replace hr : r = true ↔ hasG f A B C := by rw [← hr]; exact decide_eq_true_iff
  unfold hasG at hr
  unfold DWf at hw
  have a1 := wrap64u (a := f.a) (by omega)
  have b1 := wrap64u (a := f.b) (by omega)
  obtain ⟨t', k, seq, kind, a, b, pc, i, j, n, p, h, x, y⟩ := f
  unfold frv cvT
  simp only at *
  have HR := Lib.hid hr
  clear hr hw
  go_enter Tryd.func50, Tryd.ntmps50
  go_wp2
  all_goals go_ret
  all_goals
    have hr := HR.out
    refine Ret.mk (bool_eq ?_) ?_
    · rw [Bool.eq_iff_iff, hr]
      clear HR hr
      simp only [ne_eq] at *
      simp
      try omega
    · (repeat' (first | with_reducible exact Below.refl _ _ | (with_reducible refine Below.setCell ?_ ?_ _) | (with_reducible refine Below.alloc ?_ ?_ _))) <;> (simp; try omega)

set_option maxRecDepth 100000 in
set_option maxHeartbeats 4000000 in
theorem rSpkG_any (f : Ds) (t A B C : Nat) (hw : DWf f) (w : World) : Calls Tryd.prog 68 #[frv f, cvT t A B C] w (Ret (.bool (decide (spkG f A B C))) w) := by
  obtain ⟨r, hr⟩ : ∃ r, decide (spkG f A B C) = r := ⟨_, rfl⟩
  rw [hr]
  replace hr : r = true ↔ spkG f A B C := by rw [← hr]; exact decide_eq_true_iff
  unfold spkG at hr
  unfold DWf at hw
  have a1 := wrap64u (a := f.a) (by omega)
  have b1 := wrap64u (a := f.b) (by omega)
  obtain ⟨t', k, seq, kind, a, b, pc, i, j, n, p, h, x, y⟩ := f
  unfold frv cvT
  simp only at *
  have HR := Lib.hid hr
  clear hr hw
  go_enter Tryd.func68, Tryd.ntmps68
  go_wp2
  all_goals go_ret
  all_goals
    have hr := HR.out
    refine Ret.mk (bool_eq ?_) ?_
    · rw [Bool.eq_iff_iff, hr]
      clear HR hr
      simp only [bne_iff_ne, ne_eq] at *
      simp
      try omega
    · (repeat' (first | with_reducible exact Below.refl _ _ | (with_reducible refine Below.setCell ?_ ?_ _) | (with_reducible refine Below.alloc ?_ ?_ _))) <;> (simp; try omega)

set_option maxRecDepth 100000 in
set_option maxHeartbeats 8000000 in
theorem rActG_any (f : Ds) (hw : DWf f) (w : World) : Calls Tryd.prog 28 #[frv f] w (Ret (acv (actG f)) w) := by
  unfold DWf at hw
  have a1 := wrap64u (a := f.a) (by omega)
  have b1 := wrap64u (a := f.b) (by omega)
  have y1 := wrap64u (a := f.y) (by omega)
  have i1 : IntKind.i64.wrap (f.i : Int) = (f.i : Int) := by rw [IntKind.wrap_i64]; omega
  have j1 : IntKind.i64.wrap (f.j : Int) = (f.j : Int) := by rw [IntKind.wrap_i64]; omega
  obtain ⟨X, hX⟩ : ∃ X, actG f = X := ⟨_, rfl⟩
  rw [hX]
  unfold actG at hX
  obtain ⟨t', k, seq, kind, a, b, pc, i, j, n, p, h, x, y⟩ := f
  unfold frv acv
  simp only at *
  have hpc : pc = 0 ∨ pc = 2 ∨ pc = 20 ∨ pc = 21 ∨ (pc ≠ 0 ∧ pc ≠ 2 ∧ pc ≠ 20 ∧ pc ≠ 21) := by omega
  have hk : kind = 9 ∨ (kind ≠ 9 ∧ ((kind : Int) == 9) = false) := by
    by_cases g : kind = 9
    · exact .inl g
    · exact .inr ⟨g, by simp; omega⟩
  clear hw
  rcases hpc with rfl | rfl | rfl | rfl | ⟨g0, g2, g20, g21⟩
  rotate_left 1
  · rcases hk with rfl | ⟨k1, k2⟩
    all_goals
      simp [*] at hX
      subst hX
      go_enter Tryd.func28, Tryd.ntmps28
      go_wp2
      refine bodyPost_ret ?_ rfl ⟨rfl, ?_⟩
      · simp [results, Tryd.results28, go_sem]
      · (repeat' (first | with_reducible exact Below.refl _ _ | (with_reducible refine Below.setCell ?_ ?_ _) | (with_reducible refine Below.alloc ?_ ?_ _))) <;> (simp; try omega)
  rotate_left 2
  · have e0 : ((pc : Int) == 0) = false := by simp; omega
    have e2 : ((pc : Int) == 2) = false := by simp; omega
    have e20 : ((pc : Int) == 20) = false := by simp; omega
    have e21 : ((pc : Int) == 21) = false := by simp; omega
    simp [g0, g2, g20, g21] at hX
    subst hX
    clear g0 g2 g20 g21
    go_enter Tryd.func28, Tryd.ntmps28
    go_wp2
    refine bodyPost_ret ?_ rfl ⟨rfl, ?_⟩
    · simp [results, Tryd.results28, go_sem]
    · (repeat' (first | with_reducible exact Below.refl _ _ | (with_reducible refine Below.setCell ?_ ?_ _) | (with_reducible refine Below.alloc ?_ ?_ _))) <;> (simp; try omega)
  all_goals
    simp at hX
    subst hX
    go_enter Tryd.func28, Tryd.ntmps28
    go_wp2
    refine bodyPost_ret ?_ rfl ⟨rfl, ?_⟩
    · simp [results, Tryd.results28, go_sem]
    · (repeat' (first | with_reducible exact Below.refl _ _ | (with_reducible refine Below.setCell ?_ ?_ _) | (with_reducible refine Below.alloc ?_ ?_ _))) <;> (simp; try omega)
end Go.Proofs.YtljhcegkekdjgaaDoor
