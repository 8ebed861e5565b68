/- The document's own program of an index: a frame's numbers. -/
import Derived.Test.YtmkehailohgebaaDoorGTeR
namespace Go.Proofs.YtmkehailohgebaaDoor
open Go.RowKit Pt Opn

set_option maxRecDepth 100000 in
set_option maxHeartbeats 8000000 in
theorem rNumX_any {c : Cf} {C N K : Nat} (s : SzX c C N K) (f : Ds) (hw : DWf f) (w : World) : Calls Tryd.prog 74 #[cfv c, frv f] w (Ret (.bool (decide (NumX c f))) w) := by
  obtain ⟨r, hr⟩ : ∃ r, decide (NumX c f) = r := ⟨_, rfl⟩
  rw [hr]
  replace hr : r = true ↔ NumX c f := by rw [← hr]; exact decide_eq_true_iff
  unfold NumX at hr
  rw [s.cap, s.chunk] at hr
  have t4 := topX_le c
  have c2 := s.c2
  have HT := Lib.hid (fun W => rTopX_any s W)
  have HU := Lib.hid (fun n h hn hh W => rUpX_any s n h hn hh W)
  unfold cfv frv at *
  rw [s.cap, s.node, s.chunk] at *
  generalize upX c = U at *
  generalize topX c = T at *
  clear s
  obtain ⟨t, k, seq, kind, a, b, pc, i, j, n, p, h, x, y⟩ := f
  unfold DWf at hw
  simp only at hr hw ⊢
  obtain ⟨hw1, hw2, hw3, hw4, hw5, hw6, hw7, hw8, hw9, hwn, hwp, hwh, hw10⟩ := hw
  clear hw1 hw2 hw3 hw4 hw5 hw6 hw10
  by_cases dn1 : C < n
  · have n1 : (C : Int) < (n : Int) := by omega
    have HRR := Lib.hid (show r = false by
      cases r with
      | false => rfl
      | true => exfalso; have := hr.1 rfl; omega)
    clear hr dn1 HU
    go_enter Tryd.func74, Tryd.ntmps74
    go_upto_region 1 with fail
    refine ent2 fun W hb g0 g1 q0 q1 => ?_
    obtain ⟨r0, r1, r2, r3, r4, r5, r6, r7, r8, r9, r10, r11⟩ := cl12 g0
    obtain ⟨k0, k1, k2, k3, k4, k5, k6, k7, k8, k9, k10⟩ := cl11 g1
    refine wp_region_quiet_reads (by kernel_rfl) (by kernel_rfl) fun HR => ?_
    repeat (go_big_quiet_step (exact Calls.regrown_of (HT.out _)))
    refine wpQuiet_nil ?_
    intro W3 hw'
    obtain ⟨⟨dq, osq⟩, hw''⟩ := hw'
    have hb2 : Below W.heap.size W W3 := by rw [hw'']; exact below_regrown _ dq osq
    clear hw'' HR r0 r1 r2 r3 r4 r5 r6 r7 r8 r9 r10 r11 k0 k1 k2 k3 k4 k5 k6 k7 k8 k9 k10
    have G0 := blk_below g0 hb2
    have G1 := blk_below g1 hb2
    have hB := Lib.hid (below_then hb hb2)
    obtain ⟨r0, r1, r2, r3, r4, r5, r6, r7, r8, r9, r10, r11⟩ := cl12 G0
    obtain ⟨k0, k1, k2, k3, k4, k5, k6, k7, k8, k9, k10⟩ := cl11 G1
    have z0 := (Array.getElem?_eq_some_iff.1 G0).1
    have z1 := (Array.getElem?_eq_some_iff.1 G1).1
    clear g0 g1 hb hb2 q0 q1 G0 G1 HT
    go_wp2_with fail
    go_ret
    exact Ret.mk (bool_eq HRR.out.symm) hB.out
  have n1 : ¬ (C : Int) < (n : Int) := by omega
  by_cases dn2 : C < p
  · have n2 : (C : Int) < (p : Int) := by omega
    have HRR := Lib.hid (show r = false by
      cases r with
      | false => rfl
      | true => exfalso; have := hr.1 rfl; omega)
    clear hr dn2 HU
    go_enter Tryd.func74, Tryd.ntmps74
    go_upto_region 1 with fail
    refine ent2 fun W hb g0 g1 q0 q1 => ?_
    obtain ⟨r0, r1, r2, r3, r4, r5, r6, r7, r8, r9, r10, r11⟩ := cl12 g0
    obtain ⟨k0, k1, k2, k3, k4, k5, k6, k7, k8, k9, k10⟩ := cl11 g1
    refine wp_region_quiet_reads (by kernel_rfl) (by kernel_rfl) fun HR => ?_
    repeat (go_big_quiet_step (exact Calls.regrown_of (HT.out _)))
    refine wpQuiet_nil ?_
    intro W3 hw'
    obtain ⟨⟨dq, osq⟩, hw''⟩ := hw'
    have hb2 : Below W.heap.size W W3 := by rw [hw'']; exact below_regrown _ dq osq
    clear hw'' HR r0 r1 r2 r3 r4 r5 r6 r7 r8 r9 r10 r11 k0 k1 k2 k3 k4 k5 k6 k7 k8 k9 k10
    have G0 := blk_below g0 hb2
    have G1 := blk_below g1 hb2
    have hB := Lib.hid (below_then hb hb2)
    obtain ⟨r0, r1, r2, r3, r4, r5, r6, r7, r8, r9, r10, r11⟩ := cl12 G0
    obtain ⟨k0, k1, k2, k3, k4, k5, k6, k7, k8, k9, k10⟩ := cl11 G1
    have z0 := (Array.getElem?_eq_some_iff.1 G0).1
    have z1 := (Array.getElem?_eq_some_iff.1 G1).1
    clear g0 g1 hb hb2 q0 q1 G0 G1 HT
    go_wp2_with fail
    go_ret
    exact Ret.mk (bool_eq HRR.out.symm) hB.out
  have n2 : ¬ (C : Int) < (p : Int) := by omega
  by_cases dn3 : K < j
  · have n3 : (K : Int) < (j : Int) := by omega
    have HRR := Lib.hid (show r = false by
      cases r with
      | false => rfl
      | true => exfalso; have := hr.1 rfl; omega)
    clear hr dn3 HU
    go_enter Tryd.func74, Tryd.ntmps74
    go_upto_region 1 with fail
    refine ent2 fun W hb g0 g1 q0 q1 => ?_
    obtain ⟨r0, r1, r2, r3, r4, r5, r6, r7, r8, r9, r10, r11⟩ := cl12 g0
    obtain ⟨k0, k1, k2, k3, k4, k5, k6, k7, k8, k9, k10⟩ := cl11 g1
    refine wp_region_quiet_reads (by kernel_rfl) (by kernel_rfl) fun HR => ?_
    repeat (go_big_quiet_step (exact Calls.regrown_of (HT.out _)))
    refine wpQuiet_nil ?_
    intro W3 hw'
    obtain ⟨⟨dq, osq⟩, hw''⟩ := hw'
    have hb2 : Below W.heap.size W W3 := by rw [hw'']; exact below_regrown _ dq osq
    clear hw'' HR r0 r1 r2 r3 r4 r5 r6 r7 r8 r9 r10 r11 k0 k1 k2 k3 k4 k5 k6 k7 k8 k9 k10
    have G0 := blk_below g0 hb2
    have G1 := blk_below g1 hb2
    have hB := Lib.hid (below_then hb hb2)
    obtain ⟨r0, r1, r2, r3, r4, r5, r6, r7, r8, r9, r10, r11⟩ := cl12 G0
    obtain ⟨k0, k1, k2, k3, k4, k5, k6, k7, k8, k9, k10⟩ := cl11 G1
    have z0 := (Array.getElem?_eq_some_iff.1 G0).1
    have z1 := (Array.getElem?_eq_some_iff.1 G1).1
    clear g0 g1 hb hb2 q0 q1 G0 G1 HT
    go_wp2_with fail
    go_ret
    exact Ret.mk (bool_eq HRR.out.symm) hB.out
  have n3 : ¬ (K : Int) < (j : Int) := by omega
  by_cases dn4 : T < h
  · have n4 : (T : Int) < (h : Int) := by omega
    have HRR := Lib.hid (show r = false by
      cases r with
      | false => rfl
      | true => exfalso; have := hr.1 rfl; omega)
    clear hr dn4 HU
    go_enter Tryd.func74, Tryd.ntmps74
    go_upto_region 1 with fail
    refine ent2 fun W hb g0 g1 q0 q1 => ?_
    obtain ⟨r0, r1, r2, r3, r4, r5, r6, r7, r8, r9, r10, r11⟩ := cl12 g0
    obtain ⟨k0, k1, k2, k3, k4, k5, k6, k7, k8, k9, k10⟩ := cl11 g1
    refine wp_region_quiet_reads (by kernel_rfl) (by kernel_rfl) fun HR => ?_
    repeat (go_big_quiet_step (exact Calls.regrown_of (HT.out _)))
    refine wpQuiet_nil ?_
    intro W3 hw'
    obtain ⟨⟨dq, osq⟩, hw''⟩ := hw'
    have hb2 : Below W.heap.size W W3 := by rw [hw'']; exact below_regrown _ dq osq
    clear hw'' HR r0 r1 r2 r3 r4 r5 r6 r7 r8 r9 r10 r11 k0 k1 k2 k3 k4 k5 k6 k7 k8 k9 k10
    have G0 := blk_below g0 hb2
    have G1 := blk_below g1 hb2
    have hB := Lib.hid (below_then hb hb2)
    obtain ⟨r0, r1, r2, r3, r4, r5, r6, r7, r8, r9, r10, r11⟩ := cl12 G0
    obtain ⟨k0, k1, k2, k3, k4, k5, k6, k7, k8, k9, k10⟩ := cl11 G1
    have z0 := (Array.getElem?_eq_some_iff.1 G0).1
    have z1 := (Array.getElem?_eq_some_iff.1 G1).1
    clear g0 g1 hb hb2 q0 q1 G0 G1 HT
    go_wp2_with fail
    go_ret
    exact Ret.mk (bool_eq HRR.out.symm) hB.out
  have n4 : ¬ (T : Int) < (h : Int) := by omega
  have HB := Lib.hid (show (n : Int) ≤ C ∧ (p : Int) ≤ C ∧ (j : Int) ≤ K ∧ h ≤ T by omega)
  have u1 : n ≤ 32 := by omega
  have u2 : h ≤ 4 := by omega
  have HUU := Lib.hid (fun W => HU.out n h u1 u2 W)
  clear dn1 dn2 dn3 dn4 HU u1 u2 c2 t4
  by_cases e6 : pc = 6
  · subst e6
    have HRR := Lib.hid (show r = decide (1 ≤ i) by rw [Bool.eq_iff_iff, hr, decide_eq_true_iff]; exact ⟨fun g => g.2.1 rfl, fun g => ⟨HB.out, fun _ => g, fun q => absurd q (by decide), fun q => absurd q (by decide)⟩⟩)
    clear hr
    go_enter Tryd.func74, Tryd.ntmps74
    go_upto_region 1 with fail
    refine ent2 fun W hb g0 g1 q0 q1 => ?_
    obtain ⟨r0, r1, r2, r3, r4, r5, r6, r7, r8, r9, r10, r11⟩ := cl12 g0
    obtain ⟨k0, k1, k2, k3, k4, k5, k6, k7, k8, k9, k10⟩ := cl11 g1
    refine wp_region_quiet_reads (by kernel_rfl) (by kernel_rfl) fun HR => ?_
    repeat (go_big_quiet_step (exact Calls.regrown_of (HT.out _)))
    refine wpQuiet_nil ?_
    intro W3 hw'
    obtain ⟨⟨dq, osq⟩, hw''⟩ := hw'
    have hb2 : Below W.heap.size W W3 := by rw [hw'']; exact below_regrown _ dq osq
    clear hw'' HR r0 r1 r2 r3 r4 r5 r6 r7 r8 r9 r10 r11 k0 k1 k2 k3 k4 k5 k6 k7 k8 k9 k10
    have G0 := blk_below g0 hb2
    have G1 := blk_below g1 hb2
    have hB := Lib.hid (below_then hb hb2)
    obtain ⟨r0, r1, r2, r3, r4, r5, r6, r7, r8, r9, r10, r11⟩ := cl12 G0
    obtain ⟨k0, k1, k2, k3, k4, k5, k6, k7, k8, k9, k10⟩ := cl11 G1
    have z0 := (Array.getElem?_eq_some_iff.1 G0).1
    have z1 := (Array.getElem?_eq_some_iff.1 G1).1
    clear g0 g1 hb hb2 q0 q1 G0 G1 HT
    go_wp2_with fail
    go_ret
    refine Ret.mk (bool_eq ?_) hB.out
    rw [HRR.out]
    congr 1
    simp
    try omega
  by_cases e9 : pc = 9
  · subst e9
    have HRR := Lib.hid (show r = decide (1 ≤ h ∧ i < U n h) by rw [Bool.eq_iff_iff, hr, decide_eq_true_iff]; exact ⟨fun g => g.2.2.1 (by decide), fun g => ⟨HB.out, fun q => absurd q (by decide), fun _ => g, fun q => absurd q (by decide)⟩⟩)
    clear hr
    by_cases m1 : 1 ≤ h
    · have m2 : (1 : Int) ≤ (h : Int) := by omega
      have HM := Lib.hid m1
      clear m1
      go_enter Tryd.func74, Tryd.ntmps74
      go_upto_region 1 with fail
      refine ent2 fun W hb g0 g1 q0 q1 => ?_
      obtain ⟨r0, r1, r2, r3, r4, r5, r6, r7, r8, r9, r10, r11⟩ := cl12 g0
      obtain ⟨k0, k1, k2, k3, k4, k5, k6, k7, k8, k9, k10⟩ := cl11 g1
      refine wp_region_quiet_reads (by kernel_rfl) (by kernel_rfl) fun HR => ?_
      repeat (go_big_quiet_step (exact Calls.regrown_of (HT.out _)))
      refine wpQuiet_nil ?_
      intro W3 hw'
      obtain ⟨⟨dq, osq⟩, hw''⟩ := hw'
      have hb2 : Below W.heap.size W W3 := by rw [hw'']; exact below_regrown _ dq osq
      clear hw'' HR r0 r1 r2 r3 r4 r5 r6 r7 r8 r9 r10 r11 k0 k1 k2 k3 k4 k5 k6 k7 k8 k9 k10
      have G0 := blk_below g0 hb2
      have G1 := blk_below g1 hb2
      have hB := Lib.hid (below_then hb hb2)
      obtain ⟨r0, r1, r2, r3, r4, r5, r6, r7, r8, r9, r10, r11⟩ := cl12 G0
      obtain ⟨k0, k1, k2, k3, k4, k5, k6, k7, k8, k9, k10⟩ := cl11 G1
      have z0 := (Array.getElem?_eq_some_iff.1 G0).1
      have z1 := (Array.getElem?_eq_some_iff.1 G1).1
      clear g0 g1 hb hb2 q0 q1 G0 G1 HT
      go_wp2_with fail
      refine wp_region_quiet_reads (by kernel_rfl) (by kernel_rfl) fun HR => ?_
      repeat (go_big_quiet_step (exact Calls.regrown_of (HUU.out _)))
      refine wpQuiet_nil ?_
      intro W4 hw'
      obtain ⟨⟨dq, osq⟩, hw''⟩ := hw'
      have hb4 : Below W3.heap.size W3 W4 := by rw [hw'']; exact below_regrown _ dq osq
      clear hw'' HR r0 r1 r2 r3 r4 r5 r6 r7 r8 r9 r10 r11 k0 k1 k2 k3 k4 k5 k6 k7 k8 k9 k10
      go_wp2_with fail
      go_ret
      refine Ret.mk (bool_eq ?_) (below_then hB.out hb4)
      rw [HRR.out, Bool.eq_iff_iff]
      have HM1 := HM.out
      simp [HM1]
      try omega
    · obtain rfl : h = 0 := by omega
      have HM := Lib.hid m1
      clear m1
      go_enter Tryd.func74, Tryd.ntmps74
      go_upto_region 1 with fail
      refine ent2 fun W hb g0 g1 q0 q1 => ?_
      obtain ⟨r0, r1, r2, r3, r4, r5, r6, r7, r8, r9, r10, r11⟩ := cl12 g0
      obtain ⟨k0, k1, k2, k3, k4, k5, k6, k7, k8, k9, k10⟩ := cl11 g1
      refine wp_region_quiet_reads (by kernel_rfl) (by kernel_rfl) fun HR => ?_
      repeat (go_big_quiet_step (exact Calls.regrown_of (HT.out _)))
      refine wpQuiet_nil ?_
      intro W3 hw'
      obtain ⟨⟨dq, osq⟩, hw''⟩ := hw'
      have hb2 : Below W.heap.size W W3 := by rw [hw'']; exact below_regrown _ dq osq
      clear hw'' HR r0 r1 r2 r3 r4 r5 r6 r7 r8 r9 r10 r11 k0 k1 k2 k3 k4 k5 k6 k7 k8 k9 k10
      have G0 := blk_below g0 hb2
      have G1 := blk_below g1 hb2
      have hB := Lib.hid (below_then hb hb2)
      obtain ⟨r0, r1, r2, r3, r4, r5, r6, r7, r8, r9, r10, r11⟩ := cl12 G0
      obtain ⟨k0, k1, k2, k3, k4, k5, k6, k7, k8, k9, k10⟩ := cl11 G1
      have z0 := (Array.getElem?_eq_some_iff.1 G0).1
      have z1 := (Array.getElem?_eq_some_iff.1 G1).1
      clear g0 g1 hb hb2 q0 q1 G0 G1 HT
      go_wp2_with fail
      refine wp_region_quiet_reads (by kernel_rfl) (by kernel_rfl) fun HR => ?_
      repeat (go_big_quiet_step (exact Calls.regrown_of (HUU.out _)))
      refine wpQuiet_nil ?_
      intro W4 hw'
      obtain ⟨⟨dq, osq⟩, hw''⟩ := hw'
      have hb4 : Below W3.heap.size W3 W4 := by rw [hw'']; exact below_regrown _ dq osq
      clear hw'' HR r0 r1 r2 r3 r4 r5 r6 r7 r8 r9 r10 r11 k0 k1 k2 k3 k4 k5 k6 k7 k8 k9 k10
      go_wp2_with fail
      go_ret
      refine Ret.mk (bool_eq ?_) (below_then hB.out hb4)
      rw [HRR.out, Bool.eq_iff_iff]
      have HM1 := HM.out
      simp [HM1]
      try omega
  by_cases e11 : pc = 11
  · subst e11
    have HRR := Lib.hid (show r = decide (1 ≤ h ∧ i < U n h) by rw [Bool.eq_iff_iff, hr, decide_eq_true_iff]; exact ⟨fun g => g.2.2.1 (by decide), fun g => ⟨HB.out, fun q => absurd q (by decide), fun _ => g, fun q => absurd q (by decide)⟩⟩)
    clear hr
    by_cases m1 : 1 ≤ h
    · have m2 : (1 : Int) ≤ (h : Int) := by omega
      have HM := Lib.hid m1
      clear m1
      go_enter Tryd.func74, Tryd.ntmps74
      go_upto_region 1 with fail
      refine ent2 fun W hb g0 g1 q0 q1 => ?_
      obtain ⟨r0, r1, r2, r3, r4, r5, r6, r7, r8, r9, r10, r11⟩ := cl12 g0
      obtain ⟨k0, k1, k2, k3, k4, k5, k6, k7, k8, k9, k10⟩ := cl11 g1
      refine wp_region_quiet_reads (by kernel_rfl) (by kernel_rfl) fun HR => ?_
      repeat (go_big_quiet_step (exact Calls.regrown_of (HT.out _)))
      refine wpQuiet_nil ?_
      intro W3 hw'
      obtain ⟨⟨dq, osq⟩, hw''⟩ := hw'
      have hb2 : Below W.heap.size W W3 := by rw [hw'']; exact below_regrown _ dq osq
      clear hw'' HR r0 r1 r2 r3 r4 r5 r6 r7 r8 r9 r10 r11 k0 k1 k2 k3 k4 k5 k6 k7 k8 k9 k10
      have G0 := blk_below g0 hb2
      have G1 := blk_below g1 hb2
      have hB := Lib.hid (below_then hb hb2)
      obtain ⟨r0, r1, r2, r3, r4, r5, r6, r7, r8, r9, r10, r11⟩ := cl12 G0
      obtain ⟨k0, k1, k2, k3, k4, k5, k6, k7, k8, k9, k10⟩ := cl11 G1
      have z0 := (Array.getElem?_eq_some_iff.1 G0).1
      have z1 := (Array.getElem?_eq_some_iff.1 G1).1
      clear g0 g1 hb hb2 q0 q1 G0 G1 HT
      go_wp2_with fail
      refine wp_region_quiet_reads (by kernel_rfl) (by kernel_rfl) fun HR => ?_
      repeat (go_big_quiet_step (exact Calls.regrown_of (HUU.out _)))
      refine wpQuiet_nil ?_
      intro W4 hw'
      obtain ⟨⟨dq, osq⟩, hw''⟩ := hw'
      have hb4 : Below W3.heap.size W3 W4 := by rw [hw'']; exact below_regrown _ dq osq
      clear hw'' HR r0 r1 r2 r3 r4 r5 r6 r7 r8 r9 r10 r11 k0 k1 k2 k3 k4 k5 k6 k7 k8 k9 k10
      go_wp2_with fail
      go_ret
      refine Ret.mk (bool_eq ?_) (below_then hB.out hb4)
      rw [HRR.out, Bool.eq_iff_iff]
      have HM1 := HM.out
      simp [HM1]
      try omega
    · obtain rfl : h = 0 := by omega
      have HM := Lib.hid m1
      clear m1
      go_enter Tryd.func74, Tryd.ntmps74
      go_upto_region 1 with fail
      refine ent2 fun W hb g0 g1 q0 q1 => ?_
      obtain ⟨r0, r1, r2, r3, r4, r5, r6, r7, r8, r9, r10, r11⟩ := cl12 g0
      obtain ⟨k0, k1, k2, k3, k4, k5, k6, k7, k8, k9, k10⟩ := cl11 g1
      refine wp_region_quiet_reads (by kernel_rfl) (by kernel_rfl) fun HR => ?_
      repeat (go_big_quiet_step (exact Calls.regrown_of (HT.out _)))
      refine wpQuiet_nil ?_
      intro W3 hw'
      obtain ⟨⟨dq, osq⟩, hw''⟩ := hw'
      have hb2 : Below W.heap.size W W3 := by rw [hw'']; exact below_regrown _ dq osq
      clear hw'' HR r0 r1 r2 r3 r4 r5 r6 r7 r8 r9 r10 r11 k0 k1 k2 k3 k4 k5 k6 k7 k8 k9 k10
      have G0 := blk_below g0 hb2
      have G1 := blk_below g1 hb2
      have hB := Lib.hid (below_then hb hb2)
      obtain ⟨r0, r1, r2, r3, r4, r5, r6, r7, r8, r9, r10, r11⟩ := cl12 G0
      obtain ⟨k0, k1, k2, k3, k4, k5, k6, k7, k8, k9, k10⟩ := cl11 G1
      have z0 := (Array.getElem?_eq_some_iff.1 G0).1
      have z1 := (Array.getElem?_eq_some_iff.1 G1).1
      clear g0 g1 hb hb2 q0 q1 G0 G1 HT
      go_wp2_with fail
      refine wp_region_quiet_reads (by kernel_rfl) (by kernel_rfl) fun HR => ?_
      repeat (go_big_quiet_step (exact Calls.regrown_of (HUU.out _)))
      refine wpQuiet_nil ?_
      intro W4 hw'
      obtain ⟨⟨dq, osq⟩, hw''⟩ := hw'
      have hb4 : Below W3.heap.size W3 W4 := by rw [hw'']; exact below_regrown _ dq osq
      clear hw'' HR r0 r1 r2 r3 r4 r5 r6 r7 r8 r9 r10 r11 k0 k1 k2 k3 k4 k5 k6 k7 k8 k9 k10
      go_wp2_with fail
      go_ret
      refine Ret.mk (bool_eq ?_) (below_then hB.out hb4)
      rw [HRR.out, Bool.eq_iff_iff]
      have HM1 := HM.out
      simp [HM1]
      try omega
  by_cases e12 : pc = 12
  · subst e12
    have HRR := Lib.hid (show r = decide (1 ≤ h) by rw [Bool.eq_iff_iff, hr, decide_eq_true_iff]; exact ⟨fun g => g.2.2.2 rfl, fun g => ⟨HB.out, fun q => absurd q (by decide), fun q => absurd q (by decide), fun _ => g⟩⟩)
    clear hr
    go_enter Tryd.func74, Tryd.ntmps74
    go_upto_region 1 with fail
    refine ent2 fun W hb g0 g1 q0 q1 => ?_
    obtain ⟨r0, r1, r2, r3, r4, r5, r6, r7, r8, r9, r10, r11⟩ := cl12 g0
    obtain ⟨k0, k1, k2, k3, k4, k5, k6, k7, k8, k9, k10⟩ := cl11 g1
    refine wp_region_quiet_reads (by kernel_rfl) (by kernel_rfl) fun HR => ?_
    repeat (go_big_quiet_step (exact Calls.regrown_of (HT.out _)))
    refine wpQuiet_nil ?_
    intro W3 hw'
    obtain ⟨⟨dq, osq⟩, hw''⟩ := hw'
    have hb2 : Below W.heap.size W W3 := by rw [hw'']; exact below_regrown _ dq osq
    clear hw'' HR r0 r1 r2 r3 r4 r5 r6 r7 r8 r9 r10 r11 k0 k1 k2 k3 k4 k5 k6 k7 k8 k9 k10
    have G0 := blk_below g0 hb2
    have G1 := blk_below g1 hb2
    have hB := Lib.hid (below_then hb hb2)
    obtain ⟨r0, r1, r2, r3, r4, r5, r6, r7, r8, r9, r10, r11⟩ := cl12 G0
    obtain ⟨k0, k1, k2, k3, k4, k5, k6, k7, k8, k9, k10⟩ := cl11 G1
    have z0 := (Array.getElem?_eq_some_iff.1 G0).1
    have z1 := (Array.getElem?_eq_some_iff.1 G1).1
    clear g0 g1 hb hb2 q0 q1 G0 G1 HT
    go_wp2_with fail
    go_ret
    refine Ret.mk (bool_eq ?_) hB.out
    rw [HRR.out]
    congr 1
    simp
    try omega
  have m6 : ((pc : Int) == 6) = false := by simp; omega
  have m9 : ((pc : Int) == 9) = false := by simp; omega
  have m11 : ((pc : Int) == 11) = false := by simp; omega
  have m12 : ((pc : Int) == 12) = false := by simp; omega
  have HRR := Lib.hid (show r = true from hr.2 ⟨HB.out, fun q => absurd q e6, fun q => absurd q (by omega), fun q => absurd q e12⟩)
  clear hr e6 e9 e11 e12
  go_enter Tryd.func74, Tryd.ntmps74
  go_upto_region 1 with fail
  refine ent2 fun W hb g0 g1 q0 q1 => ?_
  obtain ⟨r0, r1, r2, r3, r4, r5, r6, r7, r8, r9, r10, r11⟩ := cl12 g0
  obtain ⟨k0, k1, k2, k3, k4, k5, k6, k7, k8, k9, k10⟩ := cl11 g1
  refine wp_region_quiet_reads (by kernel_rfl) (by kernel_rfl) fun HR => ?_
  repeat (go_big_quiet_step (exact Calls.regrown_of (HT.out _)))
  refine wpQuiet_nil ?_
  intro W3 hw'
  obtain ⟨⟨dq, osq⟩, hw''⟩ := hw'
  have hb2 : Below W.heap.size W W3 := by rw [hw'']; exact below_regrown _ dq osq
  clear hw'' HR r0 r1 r2 r3 r4 r5 r6 r7 r8 r9 r10 r11 k0 k1 k2 k3 k4 k5 k6 k7 k8 k9 k10
  have G0 := blk_below g0 hb2
  have G1 := blk_below g1 hb2
  have hB := Lib.hid (below_then hb hb2)
  obtain ⟨r0, r1, r2, r3, r4, r5, r6, r7, r8, r9, r10, r11⟩ := cl12 G0
  obtain ⟨k0, k1, k2, k3, k4, k5, k6, k7, k8, k9, k10⟩ := cl11 G1
  have z0 := (Array.getElem?_eq_some_iff.1 G0).1
  have z1 := (Array.getElem?_eq_some_iff.1 G1).1
  clear g0 g1 hb hb2 q0 q1 G0 G1 HT
  go_wp2_with fail
  go_ret
  exact Ret.mk (bool_eq HRR.out.symm) hB.out
end Go.Proofs.YtmkehailohgebaaDoor
