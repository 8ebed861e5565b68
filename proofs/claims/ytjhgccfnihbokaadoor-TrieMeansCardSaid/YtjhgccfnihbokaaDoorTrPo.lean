/- The program of a table of routes, the program's own: frames that may not be. -/
import Derived.Test.YtjhgccfnihbokaaDoorTrPl
import Derived.Test.YtjhgccfnihbokaaDoorTrBeh
namespace Go.Proofs.YtjhgccfnihbokaaDoor
open Go.RowKit Go.Lib Pt Opn

set_option maxRecDepth 100000 in
set_option maxHeartbeats 32000000 in
theorem pNext_bad (c : Cf) (f : Ds) (E : Int) (hE : chkT c f = E) (hE0 : E ≠ 0) (hw : DWf f) (w : World) (hO : Obs w) : Calls Tryd.prog 8 #[cfv c, frv f] w (Ret2 (acv Ac.none) (.int .i64 E) w) := by
  have HC := Lib.hid (fun W hp => pCheck_any c f hw W hp)
  rw [hE] at HC
  have HO := Lib.hid hO
  have h0 : (E != 0) = true := by simpa using hE0
  clear hE hw hO hE0
  unfold cfv frv at HC
  unfold cfv frv acv Ac.none
  simp only
  go_enter Tryd.func8, Tryd.ntmps8
  go_upto_region 1 with fail
  refine enter3 fun W hb g0 g1 g2 q0 q1 q2 => ?_
  have HO1 := Lib.hid (HO.out.below hb)
  obtain ⟨r0, r1, r2, r3, r4, r5, r6, r7, r8, r9, r10, r11⟩ := cells12 g0
  obtain ⟨k0, y0, k1, y1, k2, y2, k3, y3, k4, y4, k5, y5, k6, y6, k7, y7, k8, y8, k9, y9, k10, y10⟩ := cells11 g1
  go_wp2_with (go_at_call 24; refine (HC.out _ HO1.out).mono ?_; rintro e w1 ⟨rfl, hb1⟩; have hs1 := hb1.size; have G2 := blk_below g2 hb1; obtain ⟨n0, e0, n1, e1, n2, e2, n3, e3, n4, e4, n5, e5, n6, e6⟩ := cells7 G2)
  refine bodyPost_ret ?_ rfl ⟨rfl, ?_⟩
  · simp [results, Tryd.results8, go_sem, n0, n1, n2, n3, n4, n5, n6]
  · (repeat' (first | with_reducible exact below_then hb hb1 | (with_reducible refine Below.setCell ?_ ?_ _))) <;> (simp; try omega)

set_option maxRecDepth 100000 in
set_option maxHeartbeats 32000000 in
theorem pAfter_bad (c : Cf) (f : Ds) (t A B C : Nat) (E : Int) (hE : chkT c f = E) (hE0 : E ≠ 0) (hw : DWf f) (w : World) (hO : Obs w) : Calls Tryd.prog 10 #[cfv c, frv f, cvT t A B C] w (Ret2 (frv frZero) (.int .i64 E) w) := by
  have HC := Lib.hid (fun W hp => pCheck_any c f hw W hp)
  rw [hE] at HC
  have HO := Lib.hid hO
  have h0 : (E != 0) = true := by simpa using hE0
  clear hE hw hO hE0
  unfold cfv frv at HC
  unfold cfv frv cvT frZero
  simp only
  go_enter Tryd.func10, Tryd.ntmps10
  go_upto_region 1 with fail
  refine enter4 fun W hb g0 g1 gl g2 q0 q1 ql q2 => ?_
  have HO1 := Lib.hid (HO.out.below hb)
  obtain ⟨r0, r1, r2, r3, r4, r5, r6, r7, r8, r9, r10, r11⟩ := cells12 g0
  obtain ⟨k0, y0, k1, y1, k2, y2, k3, y3, k4, y4, k5, y5, k6, y6, k7, y7, k8, y8, k9, y9, k10, y10⟩ := cells11 g1
  go_wp2_with (go_at_call 24; refine (HC.out _ HO1.out).mono ?_; rintro e w1 ⟨rfl, hb1⟩; have hs1 := hb1.size; have G2 := blk_below g2 hb1; obtain ⟨m0, d0, m1, d1, m2, d2, m3, d3, m4, d4, m5, d5, m6, d6, m7, d7, m8, d8, m9, d9, m10, d10⟩ := cells11 G2)
  refine bodyPost_ret ?_ rfl ⟨rfl, ?_⟩
  · simp [results, Tryd.results10, go_sem, m0, m1, m2, m3, m4, m5, m6, m7, m8, m9, m10]
  · (repeat' (first | with_reducible exact below_then hb hb1 | (with_reducible refine Below.setCell ?_ ?_ _))) <;> (simp; try omega)
end Go.Proofs.YtjhgccfnihbokaaDoor
