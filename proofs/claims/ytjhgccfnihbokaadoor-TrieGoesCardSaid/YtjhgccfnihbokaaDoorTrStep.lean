/- The document's own act of a frame of a table of routes. -/
import Derived.Test.YtjhgccfnihbokaaDoorTrRef
namespace Go.Proofs.YtjhgccfnihbokaaDoor
open Go.RowKit Pt Opn

set_option maxRecDepth 100000 in
set_option maxHeartbeats 4000000 in
theorem rStepT_any (c : Cf) (f : Ds) (hc : Ok c) (hobj : c.obj = 1) (hm : TMay c f) (hw : DWf f) (w : World) : Calls Tryd.prog 29 #[cfv c, frv f] w (Ret (acv (stepT c f)) w) := by
  obtain ⟨b1, b2, b3, b4, b5, b6, b7, b8⟩ := mayT_bounds hc hobj hm
  have b9 : 2 ^ topT c f ≤ 2 ^ 6 := Nat.pow_le_pow_right (by decide) b2
  have hWh := Lib.hid (fun W => rWholeT_any c f b1 b2 (by omega) W)
  have hAb := Lib.hid (fun W => rAboveI (wholeT c f) ((topT c f : Int) - (f.h : Int)) (topT c f - f.h) (by unfold wholeT; omega) (by omega) (by omega) W)
  have hst := stepT_eq c f
  unfold deepT at hst
  have hth := hm.2.1
  rw [thereT_iff] at hth
  clear hm hc hobj
  obtain ⟨X, hX⟩ : ∃ X, stepT c f = X := ⟨_, rfl⟩
  rw [hX] at hst ⊢
  generalize wholeT c f / 2 ^ (topT c f - f.h) = D at *
  generalize topT c f = T at *
  generalize wholeT c f = M at *
  have HS := Lib.hid (And.intro hst hth)
  clear hst hX hth b9 b3 b7
  obtain ⟨t, k, seq, kind, a, b, pc, i, j, n, p, h, x, y⟩ := f
  unfold DWf at hw
  unfold cfv frv at *
  simp only at *
  go_enter Tryd.func29, Tryd.ntmps29
  go_wp2_with fail
  refine (hWh.out _).mono ?_
  rintro e w1 ⟨rfl, hb1⟩
  have hb01 := below_then (below_three w _ _ _) hb1
  obtain ⟨hc1, hf1⟩ := bcell hb1
  go_wp2_with fail
  have hre := blk_below (new_third w _ _ _) hb1
  refine (hAb.out _).mono ?_
  rintro e w2 ⟨rfl, hb2⟩
  have hre2 := blk_below hre hb2
  have hb02 := below_then hb01 hb2
  replace hb1 := below_then hb1 hb2
  clear hc1 hf1 hre hb2 hb01 hWh hAb
  obtain ⟨hc1, hf1⟩ := bcell hb1
  obtain ⟨r0, f0, r1, f1, r2, f2, r3, f3, r4, f4, r5, f5, r6, f6⟩ := cells7 hre2
  have HB := Lib.hid hb02
  have hS := HS.out
  have hz2 := (Array.getElem?_eq_some_iff.1 hre2).1
  have hz1 : w.heap.size + 1 < w2.heap.size := by omega
  have hz0 : w.heap.size < w2.heap.size := by omega
  have hq := Lib.hid (set7_old hz2 r0 r1 r2 r3 r4 r5 r6)
  clear hre2 HS hb02
  have y1 : IntKind.u64.wrap (y : Int) = (y : Int) := by rw [IntKind.wrap_u64]; omega
  have y2 : IntKind.u64.wrap ((y : Int) + 1) = ((y + 1 : Nat) : Int) := by rw [IntKind.wrap_u64]; omega
  have n1 : IntKind.u64.wrap (n : Int) = (n : Int) := by rw [IntKind.wrap_u64]; omega
  have x1 : IntKind.u64.wrap (x : Int) = (x : Int) := by rw [IntKind.wrap_u64]; omega
  have n2 : IntKind.u64.wrap ((n : Int) + 1) = (n : Int) + 1 := by rw [IntKind.wrap_u64]; omega
  have n3 : IntKind.u64.wrap ((n : Int) + 63) = (n : Int) + 63 := by rw [IntKind.wrap_u64]; omega
  have h1 : IntKind.u32.wrap (h : Int) = (h : Int) := by rw [IntKind.wrap_u32]; omega
  rcases hS with ⟨hS, hP⟩
  have hpc : pc = 0 ∨ pc = 1 ∨ pc = 2 ∨ pc = 3 ∨ pc = 5 ∨ pc = 6 ∨ pc = 7 ∨ pc = 8 := by omega
  rcases hpc with rfl | rfl | rfl | rfl | rfl | rfl | rfl | rfl
  · by_cases hk : kind = 3
    · subst hk
      simp at hS
      subst hS
      go_wp2
      refine bodyPost_ret (v := acv ⟨1, D, 0, 0, 0, 0, 0⟩) ?_ rfl ⟨rfl, ?_⟩
      · unfold acv; simp [results, Tryd.results29, go_sem, r0, r1, r2, r3, r4, r5, r6]
      · (repeat' (first | with_reducible exact HB.out | (with_reducible refine Below.setCell ?_ ?_ _) | (with_reducible refine Below.alloc ?_ ?_ _))) <;> (simp; try omega)
    · have hk' : ((kind : Int) == 3) = false := by simp; omega
      simp [hk] at hS
      subst hS
      go_wp2
      refine bodyPost_ret (v := acv ⟨1, M, 0, 0, 0, 0, 0⟩) ?_ rfl ⟨rfl, ?_⟩
      · unfold acv; simp [results, Tryd.results29, go_sem, r0, r1, r2, r3, r4, r5, r6]
      · (repeat' (first | with_reducible exact HB.out | (with_reducible refine Below.setCell ?_ ?_ _) | (with_reducible refine Below.alloc ?_ ?_ _))) <;> (simp; try omega)
  · simp at hS
    subst hS
    go_wp2
    refine bodyPost_ret (v := acv ⟨1, 1, 0, 0, 0, 0, 0⟩) ?_ rfl ⟨rfl, ?_⟩
    · unfold acv; simp [results, Tryd.results29, go_sem, r0, r1, r2, r3, r4, r5, r6]
    · (repeat' (first | with_reducible exact HB.out | (with_reducible refine Below.setCell ?_ ?_ _) | (with_reducible refine Below.alloc ?_ ?_ _))) <;> (simp; try omega)
  · simp at hS
    subst hS
    go_wp2
    refine bodyPost_ret (v := acv ⟨1, D, 0, 0, 0, 0, 0⟩) ?_ rfl ⟨rfl, ?_⟩
    · unfold acv; simp [results, Tryd.results29, go_sem, r0, r1, r2, r3, r4, r5, r6]
    · (repeat' (first | with_reducible exact HB.out | (with_reducible refine Below.setCell ?_ ?_ _) | (with_reducible refine Below.alloc ?_ ?_ _))) <;> (simp; try omega)
  · by_cases hh : h = b
    · subst hh
      by_cases hk : kind = 2
      · subst hk
        simp at hS
        subst hS
        go_wp2
        refine bodyPost_ret (v := acv ⟨2, D, 0, (n + 63) % 64, 0, 0, 0⟩) ?_ rfl ⟨rfl, ?_⟩
        · unfold acv; simp [results, Tryd.results29, go_sem, hq.out]
        · (repeat' (first | with_reducible exact HB.out | (with_reducible refine Below.setCell ?_ ?_ _) | (with_reducible refine Below.alloc ?_ ?_ _))) <;> (simp; try omega)
      · have hk' : ((kind : Int) == 2) = false := by simp; omega
        simp [hk] at hS
        subst hS
        go_wp2
        refine bodyPost_ret (v := acv ⟨2, D, y + 1, (n + 1) % 64, 0, 0, 0⟩) ?_ rfl ⟨rfl, ?_⟩
        · unfold acv; simp [results, Tryd.results29, go_sem, hq.out]
        · (repeat' (first | with_reducible exact HB.out | (with_reducible refine Below.setCell ?_ ?_ _) | (with_reducible refine Below.alloc ?_ ?_ _))) <;> (simp; try omega)
    · have hh' : ((h : Int) == (b : Int)) = false := by simp; omega
      by_cases hk : kind = 2
      · subst hk
        simp [hh] at hS
        subst hS
        go_wp2
        refine bodyPost_ret (v := acv ⟨2, D, x, (n + 63) % 64, 0, 0, 0⟩) ?_ rfl ⟨rfl, ?_⟩
        · unfold acv; simp [results, Tryd.results29, go_sem, hq.out]
        · (repeat' (first | with_reducible exact HB.out | (with_reducible refine Below.setCell ?_ ?_ _) | (with_reducible refine Below.alloc ?_ ?_ _))) <;> (simp; try omega)
      · have hk' : ((kind : Int) == 2) = false := by simp; omega
        simp [hk, hh] at hS
        subst hS
        go_wp2
        refine bodyPost_ret (v := acv ⟨2, D, x, (n + 1) % 64, 0, 0, 0⟩) ?_ rfl ⟨rfl, ?_⟩
        · unfold acv; simp [results, Tryd.results29, go_sem, hq.out]
        · (repeat' (first | with_reducible exact HB.out | (with_reducible refine Below.setCell ?_ ?_ _) | (with_reducible refine Below.alloc ?_ ?_ _))) <;> (simp; try omega)
  · simp at hS
    subst hS
    go_wp2
    refine bodyPost_ret (v := acv ⟨2, M, y + 1, n % 64, 0, 0, 0⟩) ?_ rfl ⟨rfl, ?_⟩
    · unfold acv; simp [results, Tryd.results29, go_sem, r0, r1, r2, r3, r4, r5, r6]
    · (repeat' (first | with_reducible exact HB.out | (with_reducible refine Below.setCell ?_ ?_ _) | (with_reducible refine Below.alloc ?_ ?_ _))) <;> (simp; try omega)
  · simp at hS
    subst hS
    go_wp2
    refine bodyPost_ret (v := acv ⟨4, 0, 0, 0, 0, 0, x⟩) ?_ rfl ⟨rfl, ?_⟩
    · unfold acv; simp [results, Tryd.results29, go_sem, r0, r1, r2, r3, r4, r5, r6]
    · (repeat' (first | with_reducible exact HB.out | (with_reducible refine Below.setCell ?_ ?_ _) | (with_reducible refine Below.alloc ?_ ?_ _))) <;> (simp; try omega)
  · simp at hS
    subst hS
    go_wp2
    refine bodyPost_ret (v := acv ⟨4, 0, 0, 0, 0, 9, 0⟩) ?_ rfl ⟨rfl, ?_⟩
    · unfold acv; simp [results, Tryd.results29, go_sem, r0, r1, r2, r3, r4, r5, r6]
    · (repeat' (first | with_reducible exact HB.out | (with_reducible refine Below.setCell ?_ ?_ _) | (with_reducible refine Below.alloc ?_ ?_ _))) <;> (simp; try omega)
  · simp at hS
    subst hS
    go_wp2
    refine bodyPost_ret (v := acv ⟨4, 0, 0, 0, 0, 6, 0⟩) ?_ rfl ⟨rfl, ?_⟩
    · unfold acv; simp [results, Tryd.results29, go_sem, r0, r1, r2, r3, r4, r5, r6]
    · (repeat' (first | with_reducible exact HB.out | (with_reducible refine Below.setCell ?_ ?_ _) | (with_reducible refine Below.alloc ?_ ?_ _))) <;> (simp; try omega)
end Go.Proofs.YtjhgccfnihbokaaDoor
