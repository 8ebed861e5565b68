/- Does a level clear: the document's own. -/
import Derived.Test.YtmkehailohgebaaDoorGTeH
namespace Go.Proofs.YtmkehailohgebaaDoor
open Go.RowKit Go.Lib Pt Opn

set_option maxRecDepth 100000 in
set_option maxHeartbeats 8000000 in
theorem rClearsX_any {c : Cf} {C N K : Nat} (s : SzX c C N K) (f : Ds) (hn : f.n ≤ C) (hh : f.h ≤ 4) (w : World) : Calls Tryd.prog 81 #[cfv c, frv f] w (Ret (.bool (clearsX c f)) w) := by
  have c2 := s.c2
  have HU := Lib.hid (fun W => rUpX_any s f.n f.h (by omega) hh W)
  have HV := Lib.hid (fun W => rUpX_any s (if (f.n : Int) < c.cap then f.n + 1 else f.n) f.h (by rw [s.cap]; split <;> omega) hh W)
  unfold clearsX
  obtain ⟨U, hU⟩ : ∃ U, upX c f.n f.h = U := ⟨_, rfl⟩
  obtain ⟨V, hV⟩ : ∃ V, upX c (if (f.n : Int) < c.cap then f.n + 1 else f.n) f.h = V := ⟨_, rfl⟩
  rw [hU] at HU ⊢
  rw [hV] at HV ⊢
  have HVU := Lib.hid (show ¬ ((f.n : Int) < c.cap) → V = U from fun g => by rw [← hU, ← hV, if_neg g])
  clear hU hV
  rw [s.cap] at HV HVU
  unfold cfv frv at *
  obtain ⟨t, k, seq, kind, a, b, pc, i, j, n, p, h, x, y⟩ := f
  simp only at hn hh HU HV HVU ⊢
  rw [s.cap, s.node] at *
  clear s
  have n1 : IntKind.u8.wrap ((n : Int) + 1) = (n : Int) + 1 := by rw [IntKind.wrap_u8]; omega
  by_cases h5 : kind = 5
  · subst h5
    by_cases g : n < C
    · rw [if_pos (by omega)] at HV
      have gg : (n : Int) < (C : Int) := by omega
      have en : (((n + 1 : Nat)) : Int) = (n : Int) + 1 := by push_cast; rfl
      rw [en] at HV
      clear g en
      go_enter Tryd.func81, Tryd.ntmps81
      go_upto_region 1 with fail
      refine ent2 fun W hb g0 g1 q0 q1 => ?_
      obtain ⟨r0, r1, r2, r3, r4, r5, r6, r7, r8, r9, r10, r11⟩ := cl12 g0
      obtain ⟨k0, k1, k2, k3, k4, k5, k6, k7, k8, k9, k10⟩ := cl11 g1
      go_wp2_with fail
      refine wp_region_quiet_reads (by kernel_rfl) (by kernel_rfl) fun HR => ?_
      repeat (go_big_quiet_step (first | with_reducible exact Calls.regrown_of (HV.out _) | with_reducible exact Calls.regrown_of (HU.out _)))
      refine wpQuiet_nil ?_
      intro W3 hw'
      obtain ⟨⟨dq, osq⟩, hw''⟩ := hw'
      have hb2 : Below W.heap.size W W3 := by rw [hw'']; exact below_regrown _ dq osq
      clear hw'' HR r0 r1 r2 r3 r4 r5 r6 r7 r8 r9 r10 r11 k0 k1 k2 k3 k4 k5 k6 k7 k8 k9 k10 g0 g1
      have hB := below_then hb hb2
      clear hb hb2
      go_wp2_with fail
      go_ret
      refine Ret.mk (bool_eq ?_) hB
      simp
      try omega
    · have gg : ¬ (n : Int) < (C : Int) := by omega
      rw [if_neg gg] at HV
      obtain rfl := HVU.out gg
      clear g HV
      go_enter Tryd.func81, Tryd.ntmps81
      go_upto_region 1 with fail
      refine ent2 fun W hb g0 g1 q0 q1 => ?_
      obtain ⟨r0, r1, r2, r3, r4, r5, r6, r7, r8, r9, r10, r11⟩ := cl12 g0
      obtain ⟨k0, k1, k2, k3, k4, k5, k6, k7, k8, k9, k10⟩ := cl11 g1
      go_wp2_with fail
      refine wp_region_quiet_reads (by kernel_rfl) (by kernel_rfl) fun HR => ?_
      repeat (go_big_quiet_step (first | with_reducible exact Calls.regrown_of (HU.out _)))
      refine wpQuiet_nil ?_
      intro W3 hw'
      obtain ⟨⟨dq, osq⟩, hw''⟩ := hw'
      have hb2 : Below W.heap.size W W3 := by rw [hw'']; exact below_regrown _ dq osq
      clear hw'' HR r0 r1 r2 r3 r4 r5 r6 r7 r8 r9 r10 r11 k0 k1 k2 k3 k4 k5 k6 k7 k8 k9 k10 g0 g1
      have hB := below_then hb hb2
      clear hb hb2
      go_wp2_with fail
      go_ret
      refine Ret.mk (bool_eq ?_) hB
      simp
      try omega
  · have h5' : ((kind : Int) == 5) = false := by simp; omega
    by_cases g : n < C
    · have gg : (n : Int) < (C : Int) := by omega
      clear g
      go_enter Tryd.func81, Tryd.ntmps81
      go_upto_region 1 with fail
      refine ent2 fun W hb g0 g1 q0 q1 => ?_
      obtain ⟨r0, r1, r2, r3, r4, r5, r6, r7, r8, r9, r10, r11⟩ := cl12 g0
      obtain ⟨k0, k1, k2, k3, k4, k5, k6, k7, k8, k9, k10⟩ := cl11 g1
      go_wp2_with fail
      refine wp_region_quiet_reads (by kernel_rfl) (by kernel_rfl) fun HR => ?_
      repeat (go_big_quiet_step (first | with_reducible exact Calls.regrown_of (HV.out _) | with_reducible exact Calls.regrown_of (HU.out _)))
      refine wpQuiet_nil ?_
      intro W3 hw'
      obtain ⟨⟨dq, osq⟩, hw''⟩ := hw'
      have hb2 : Below W.heap.size W W3 := by rw [hw'']; exact below_regrown _ dq osq
      clear hw'' HR r0 r1 r2 r3 r4 r5 r6 r7 r8 r9 r10 r11 k0 k1 k2 k3 k4 k5 k6 k7 k8 k9 k10 g0 g1
      have hB := below_then hb hb2
      clear hb hb2
      go_wp2_with fail
      go_ret
      refine Ret.mk (bool_eq ?_) hB
      simp [h5]
      try omega
    · have gg : ¬ (n : Int) < (C : Int) := by omega
      clear g
      go_enter Tryd.func81, Tryd.ntmps81
      go_upto_region 1 with fail
      refine ent2 fun W hb g0 g1 q0 q1 => ?_
      obtain ⟨r0, r1, r2, r3, r4, r5, r6, r7, r8, r9, r10, r11⟩ := cl12 g0
      obtain ⟨k0, k1, k2, k3, k4, k5, k6, k7, k8, k9, k10⟩ := cl11 g1
      go_wp2_with fail
      refine wp_region_quiet_reads (by kernel_rfl) (by kernel_rfl) fun HR => ?_
      repeat (go_big_quiet_step (first | with_reducible exact Calls.regrown_of (HV.out _) | with_reducible exact Calls.regrown_of (HU.out _)))
      refine wpQuiet_nil ?_
      intro W3 hw'
      obtain ⟨⟨dq, osq⟩, hw''⟩ := hw'
      have hb2 : Below W.heap.size W W3 := by rw [hw'']; exact below_regrown _ dq osq
      clear hw'' HR r0 r1 r2 r3 r4 r5 r6 r7 r8 r9 r10 r11 k0 k1 k2 k3 k4 k5 k6 k7 k8 k9 k10 g0 g1
      have hB := below_then hb hb2
      clear hb hb2
      go_wp2_with fail
      go_ret
      refine Ret.mk (bool_eq ?_) hB
      simp [h5]
      try omega
end Go.Proofs.YtmkehailohgebaaDoor
