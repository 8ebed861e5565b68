/- The program of a set of access rules, the program's own two calls. -/
import Derived.Test.YtljhcegkekdjgaaDoorGpF
namespace Go.Proofs.YtljhcegkekdjgaaDoor
open Go.RowKit Go.Lib Pt Opn

set_option maxRecDepth 100000 in
set_option maxHeartbeats 8000000 in
theorem pNextG_any (c : Cf) (f : Ds) (hw : DWf f) (w : World) (hO : Obs w) : Calls Tryd.prog 9 #[cfv c, frv f] w (Ret2 (acv (nextG c f).1) (.int .i64 (nextG c f).2) w) := by
  have HC := Lib.hid (fun W hp => pCheckG_any c f hw W hp)
  have HO := Lib.hid hO
  have hchk : (chkG c f = 0 ∧ nextG c f = (actG f, 0) ∧ GMay c f) ∨ (chkG c f ≠ 0 ∧ nextG c f = (Ac.none, chkG c f)) := by
    unfold chkG nextG
    by_cases h1 : Ok c ∧ c.obj = 3
    · rw [if_neg (not_not_intro h1), if_neg (not_not_intro h1)]
      by_cases h2 : GMay c f
      · rw [if_neg (not_not_intro h2), if_neg (not_not_intro h2)]; exact .inl ⟨rfl, rfl, h2⟩
      · rw [if_pos h2, if_pos h2]; exact .inr ⟨by decide, rfl⟩
    · rw [if_pos h1, if_pos h1]; exact .inr ⟨by decide, rfl⟩
  obtain ⟨E, hE⟩ : ∃ E, chkG c f = E := ⟨_, rfl⟩
  rw [hE] at HC hchk
  rcases hchk with ⟨rfl, hx, hm⟩ | ⟨h0, hx⟩
  · have HA := Lib.hid (fun W => pActG_any f hw hm.2.1 W)
    rw [hx]
    obtain ⟨X, hX⟩ : ∃ X, actG f = X := ⟨_, rfl⟩
    rw [hX] at HA
    simp only [hX]
    clear hE hw hO hx hm hX
    unfold cfv frv at HC
    unfold frv acv at HA
    unfold cfv frv acv
    obtain ⟨t', k, seq, kind, a, b, pc, i, j, n, p, h, x, y⟩ := f
    simp only at *
    go_enter Tryd.func9, Tryd.ntmps9
    go_upto_region 1 with fail
    refine enter3 fun W hb g0 g1 g2 q0 q1 q2 => ?_
    have HO1 := Lib.hid (HO.out.below hb)
    obtain ⟨r0, r1, r2, r3, r4, r5, r6, r7, r8, r9, r10, r11⟩ := cl12 g0
    obtain ⟨k0, k1, k2, k3, k4, k5, k6, k7, k8, k9, k10⟩ := cl11 g1
    go_wp2_with fail
    refine (HC.out _ HO1.out).mono ?_
    rintro e w1 ⟨rfl, hb1⟩
    have g1' := blk_below g1 hb1
    have g2' := blk_below g2 hb1
    replace hb := below_then hb hb1
    clear hb1 r0 r1 r2 r3 r4 r5 r6 r7 r8 r9 r10 r11 k0 k1 k2 k3 k4 k5 k6 k7 k8 k9 k10 g0 g1 g2 q0 q1 q2
    obtain ⟨k0, k1, k2, k3, k4, k5, k6, k7, k8, k9, k10⟩ := cl11 g1'
    have q1 := (Array.getElem?_eq_some_iff.1 g1').1
    go_wp2_with fail
    refine (HA.out _).mono ?_
    rintro e w2 ⟨rfl, hb1⟩
    have g2'' := blk_below g2' hb1
    have HB := Lib.hid (below_then hb hb1)
    have q2 := (Array.getElem?_eq_some_iff.1 g2'').1
    obtain ⟨n0, e0, n1, e1, n2, e2, n3, e3, n4, e4, n5, e5, n6, e6⟩ := cells7 g2''
    clear hb1 k0 k1 k2 k3 k4 k5 k6 k7 k8 k9 k10 g1' g2' g2'' q1
    go_wp2_with fail
    refine bodyPost_ret ?_ rfl ⟨rfl, ?_⟩
    · simp [results, Tryd.results9, go_sem, n0, n1, n2, n3, n4, n5, n6]
    · (repeat' (first | with_reducible exact HB.out | (with_reducible refine Below.setCell ?_ ?_ _))) <;> (simp; try omega)
  · rw [hx]
    have h4 : (E != 0) = true := by simpa using h0
    clear hE hw hO hx h0
    unfold cfv frv at HC
    unfold cfv frv acv Ac.none
    obtain ⟨t', k, seq, kind, a, b, pc, i, j, n, p, h, x, y⟩ := f
    simp only at *
    go_enter Tryd.func9, Tryd.ntmps9
    go_upto_region 1 with fail
    refine enter3 fun W hb g0 g1 g2 q0 q1 q2 => ?_
    have HO1 := Lib.hid (HO.out.below hb)
    obtain ⟨r0, r1, r2, r3, r4, r5, r6, r7, r8, r9, r10, r11⟩ := cl12 g0
    obtain ⟨k0, k1, k2, k3, k4, k5, k6, k7, k8, k9, k10⟩ := cl11 g1
    go_wp2_with fail
    refine (HC.out _ HO1.out).mono ?_
    rintro e w1 ⟨rfl, hb1⟩
    have g2' := blk_below g2 hb1
    have HB := Lib.hid (below_then hb hb1)
    have q2' := (Array.getElem?_eq_some_iff.1 g2').1
    obtain ⟨n0, e0, n1, e1, n2, e2, n3, e3, n4, e4, n5, e5, n6, e6⟩ := cells7 g2'
    clear hb1 r0 r1 r2 r3 r4 r5 r6 r7 r8 r9 r10 r11 k0 k1 k2 k3 k4 k5 k6 k7 k8 k9 k10 g0 g1 g2 g2'
    go_wp2_with fail
    refine bodyPost_ret (v := .tuple #[.agg #[.int .u8 0, .int .i64 0, .int .u64 0, .int .u64 0, .int .u64 0, .int .i64 0, .int .u32 0], .int .i64 E]) ?_ rfl ⟨rfl, ?_⟩
    · simp [results, Tryd.results9, go_sem, n0, n1, n2, n3, n4, n5, n6]
    · (repeat' (first | with_reducible exact HB.out | (with_reducible refine Below.setCell ?_ ?_ _))) <;> (simp; try omega)
end Go.Proofs.YtljhcegkekdjgaaDoor
