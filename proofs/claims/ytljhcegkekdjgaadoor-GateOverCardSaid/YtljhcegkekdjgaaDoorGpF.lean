/- The program of a set of access rules, the program's own: the act of a frame. -/
import Derived.Test.YtljhcegkekdjgaaDoorGpE
namespace Go.Proofs.YtljhcegkekdjgaaDoor
open Go.RowKit Go.Lib Pt Opn

set_option maxRecDepth 100000 in
set_option maxHeartbeats 8000000 in
theorem pWriteG_any (f : Ds) (hw : DWf f) (w : World) : Calls Tryd.prog 44 #[frv f] w (Ret (acv (if f.kind = 9 then ⟨2, f.j, f.y, f.a, f.b, 0, 0⟩ else ⟨2, f.j, 0, 0, 0, 0, 0⟩)) w) := by
  unfold DWf at hw
  have a1 := wrap64u (a := f.a) (by omega)
  have b1 := wrap64u (a := f.b) (by omega)
  have y1 := wrap64u (a := f.y) (by omega)
  have j1 : IntKind.i64.wrap (f.j : Int) = (f.j : Int) := by rw [IntKind.wrap_i64]; omega
  obtain ⟨tg, k, seq, kind, a, b, pc, i, j, n, p, h, x, y⟩ := f
  unfold frv acv
  simp only at *
  clear hw
  by_cases hk : kind = 9
  · subst hk
    rw [if_pos rfl]
    simp only [show ((0 : Nat) : Int) = 0 from rfl, show ((2 : Nat) : Int) = 2 from rfl, show ((9 : Nat) : Int) = 9 from rfl] at ⊢
    go_enter Tryd.func44, Tryd.ntmps44
    go_upto_region 1 with fail
    refine ent2 fun W hb g0 g1 q0 q1 => ?_
    obtain ⟨k0, k1, k2, k3, k4, k5, k6, k7, k8, k9, k10⟩ := cl11 g0
    obtain ⟨n0, e0, n1, e1, n2, e2, n3, e3, n4, e4, n5, e5, n6, e6⟩ := cells7 g1
    go_wp2_with fail
    go_region
    all_goals
      go_wp2_with fail
      refine bodyPost_ret (v := .agg #[.int .u8 2, .int .i64 (j : Nat), .int .u64 (y : Nat), .int .u64 (a : Nat), .int .u64 (b : Nat), .int .i64 0, .int .u32 0]) ?_ rfl ⟨rfl, ?_⟩
      · simp [results, Tryd.results44, go_sem, set7_old q1 n0 n1 n2 n3 n4 n5 n6]
      · (repeat' (first | with_reducible exact hb | with_reducible refine below_drew' ?_ | (with_reducible refine Below.setCell ?_ ?_ _) | (with_reducible refine Below.alloc ?_ ?_ _))) <;> (simp; try omega)
  · have hk' : ((kind : Int) == 9) = false := by simp; omega
    rw [if_neg hk]
    simp only [show ((0 : Nat) : Int) = 0 from rfl, show ((2 : Nat) : Int) = 2 from rfl] at ⊢
    go_enter Tryd.func44, Tryd.ntmps44
    go_upto_region 1 with fail
    refine ent2 fun W hb g0 g1 q0 q1 => ?_
    obtain ⟨k0, k1, k2, k3, k4, k5, k6, k7, k8, k9, k10⟩ := cl11 g0
    obtain ⟨n0, e0, n1, e1, n2, e2, n3, e3, n4, e4, n5, e5, n6, e6⟩ := cells7 g1
    go_wp2_with fail
    refine bodyPost_ret (v := .agg #[.int .u8 2, .int .i64 (j : Nat), .int .u64 0, .int .u64 0, .int .u64 0, .int .i64 0, .int .u32 0]) ?_ rfl ⟨rfl, ?_⟩
    · simp [results, Tryd.results44, go_sem, set7_old q1 n0 n1 n2 n3 n4 n5 n6]
    · (repeat' (first | with_reducible exact hb | with_reducible refine below_drew' ?_ | (with_reducible refine Below.setCell ?_ ?_ _) | (with_reducible refine Below.alloc ?_ ?_ _))) <;> (simp; try omega)
set_option maxRecDepth 100000 in
set_option maxHeartbeats 8000000 in
theorem pActG_any (f : Ds) (hw : DWf f) (ht : ThereG f.kind f.pc) (w : World) : Calls Tryd.prog 24 #[frv f] w (Ret (acv (actG f)) w) := by
  have hpc : f.pc = 0 ∨ f.pc = 2 ∨ f.pc = 20 ∨ f.pc = 21 ∨ f.pc = 22 := by unfold ThereG at ht; omega
  have HW := Lib.hid (fun W => pWriteG_any f hw W)
  have hi8 : f.i < 256 := by unfold DWf at hw; omega
  have i1 : IntKind.i64.wrap (f.i : Int) = (f.i : Int) := by rw [IntKind.wrap_i64]; omega
  clear hw ht hi8
  by_cases h2 : f.pc = 2
  · have hX : actG f = (if f.kind = 9 then ⟨2, f.j, f.y, f.a, f.b, 0, 0⟩ else ⟨2, f.j, 0, 0, 0, 0, 0⟩) := by unfold actG; rw [if_neg (by omega), if_pos h2]
    rw [hX]
    obtain ⟨X, hXX⟩ : ∃ X, (if f.kind = 9 then (⟨2, f.j, f.y, f.a, f.b, 0, 0⟩ : Ac) else ⟨2, f.j, 0, 0, 0, 0, 0⟩) = X := ⟨_, rfl⟩
    rw [hXX] at HW ⊢
    clear hX hXX hpc
    obtain ⟨tg, k, seq, kind, a, b, pc, i, j, n, p, h, x, y⟩ := f
    unfold frv at HW ⊢
    unfold acv at HW ⊢
    simp only at *
    subst h2
    simp only [show ((2 : Nat) : Int) = 2 from rfl] at HW ⊢
    go_enter Tryd.func24, Tryd.ntmps24
    go_upto_region 1 with fail
    refine ent2 fun W hb g0 g1 q0 q1 => ?_
    obtain ⟨k0, k1, k2, k3, k4, k5, k6, k7, k8, k9, k10⟩ := cl11 g0
    go_wp2_with fail
    refine (HW.out _).mono ?_
    rintro e w1 ⟨rfl, hb1⟩
    have g1' := blk_below g1 hb1
    replace hb := below_then hb hb1
    obtain ⟨n0, e0, n1, e1, n2, e2, n3, e3, n4, e4, n5, e5, n6, e6⟩ := cells7 g1'
    have q1' := (Array.getElem?_eq_some_iff.1 g1').1
    clear hb1 g0 g1 g1' k0 k1 k2 k3 k4 k5 k6 k7 k8 k9 k10
    go_wp2_with fail
    refine bodyPost_ret ?_ rfl ⟨rfl, ?_⟩
    · simp [results, Tryd.results24, go_sem, n0, n1, n2, n3, n4, n5, n6]
    · (repeat' (first | with_reducible exact hb | (with_reducible refine Below.setCell ?_ ?_ _))) <;> (simp; try omega)
  · obtain ⟨X, hX⟩ : ∃ X, actG f = X := ⟨_, rfl⟩
    rw [hX]
    unfold actG at hX
    clear HW
    obtain ⟨tg, k, seq, kind, a, b, pc, i, j, n, p, h, x, y⟩ := f
    unfold frv acv
    simp only at *
    rcases hpc with rfl | rfl | rfl | rfl | rfl
    rotate_left 1
    · exact absurd rfl h2
    all_goals
      clear h2
      simp at hX
      subst hX
      simp only [show ((0 : Nat) : Int) = 0 from rfl, show ((1 : Nat) : Int) = 1 from rfl, show ((20 : Nat) : Int) = 20 from rfl, show ((21 : Nat) : Int) = 21 from rfl, show ((22 : Nat) : Int) = 22 from rfl] at ⊢
      go_enter Tryd.func24, Tryd.ntmps24
      go_upto_region 1 with fail
      refine ent2 fun W hb g0 g1 q0 q1 => ?_
      obtain ⟨k0, k1, k2, k3, k4, k5, k6, k7, k8, k9, k10⟩ := cl11 g0
      obtain ⟨n0, e0, n1, e1, n2, e2, n3, e3, n4, e4, n5, e5, n6, e6⟩ := cells7 g1
      go_wp2_with fail
      refine bodyPost_ret ?_ rfl ⟨rfl, ?_⟩
      · simp [results, Tryd.results24, go_sem, n0, n1, n2, n3, n4, n5, n6]
      · (repeat' (first | with_reducible exact hb | (with_reducible refine Below.setCell ?_ ?_ _))) <;> (simp; try omega)
end Go.Proofs.YtljhcegkekdjgaaDoor
