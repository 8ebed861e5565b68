/- What becomes of a frame of an index: the document's own, Pc by Pc, the second part. -/
import Derived.Test.YtmkehailohgebaaDoorTeBehA
import Derived.Test.YtmkehailohgebaaDoorFitX
import Derived.Test.YtmkehailohgebaaDoorBks
namespace Go.Proofs.YtmkehailohgebaaDoor
open Go.RowKit Go.Lib Pt Opn

set_option maxRecDepth 100000 in
set_option maxHeartbeats 16000000 in
theorem rBeh_8 {c : Cf} {C N K : Nat} (s : SzX c C N K) (f : Ds) (hpc : f.pc = 8) (q : FitX c C K f) (tt A B Cc : Nat) (w : World) :
    Calls Tryd.prog 38 #[cfv c, frv f, cvT tt A B Cc] w (Ret2 (frv (behindX c f A B).1) (.bool (behindX c f A B).2) w) := by
  have c2 := s.c2
  have k2 := s.k2
  have n2 := s.n2
  have t4 := topX_le c
  obtain ⟨qk5, qn, qp, qj, qh, qa, qb, qx, qy, qi1, qi6, qi14, qi11, qn15, qk4⟩ := q
  rw [bh_8 hpc]
  have HC := Lib.hid (fun W => rClimbX_any s { f with h := 0 } qn (Nat.zero_le _) (by show f.p < 256; omega) W)
  obtain ⟨Y, hY⟩ : ∃ R, climbX c { f with h := 0 } = R := ⟨_, rfl⟩
  rw [hY] at HC ⊢
  clear hY
  skip
  obtain ⟨X, hX⟩ : ∃ X, (Y, false) = X := ⟨_, rfl⟩
  rw [hX]
  unfold cfv frv cvT at *
  rw [s.cap, s.node] at *
  clear s
  obtain ⟨t', k, seq, kind, a, b, pc, i, j, n, p, h, x, y⟩ := f
  simp only at *
  obtain rfl : pc = 8 := hpc
  subst hX
  rw [show ((8 : Nat) : Int) = 8 from rfl] at *
  go_enter Tryd.func38, Tryd.ntmps38
  go_upto_region 1 with fail
  refine enter4 fun W hb g0 g1 g2 g3 _ _ _ _ => ?_
  obtain ⟨r0, r1, r2, r3, r4, r5, r6, r7, r8, r9, r10, r11⟩ := cl12 g0
  obtain ⟨k0, y0, k1, y1, k2, y2, k3, y3, k4, y4, k5, y5, k6, y6, k7, y7, k8, y8, k9, y9, k10, y10⟩ := cells11 g1
  obtain ⟨c0, c1, c2, c3⟩ := cells4p g2
  obtain ⟨u0, v0, u1, v1, u2, v2, u3, v3, u4, v4, u5, v5, u6, v6, u7, v7, u8, v8, u9, v9, u10, v10⟩ := cells11 g3
  have q0 := (Array.getElem?_eq_some_iff.1 g0).1
  have q1 := (Array.getElem?_eq_some_iff.1 g1).1
  have q2 := (Array.getElem?_eq_some_iff.1 g2).1
  have q3 := (Array.getElem?_eq_some_iff.1 g3).1
  go_upto_region 29 with fail
  refine entSet g1 rfl fun W2 G1 o2 => ?_
  replace g0 := only_blk o2 g0 (by omega)
  replace g2 := only_blk o2 g2 (by omega)
  replace g3 := only_blk o2 g3 (by omega)
  replace hb := Only.then_below (Nat.le_refl _) hb o2 (fun k hk => by omega)
  clear g1 o2
  have g1 := G1
  clear G1
  clear r0 r1 r2 r3 r4 r5 r6 r7 r8 r9 r10 r11 k0 y0 k1 y1 k2 y2 k3 y3 k4 y4 k5 y5 k6 y6 k7 y7 k8 y8 k9 y9 k10 y10 u0 v0 u1 v1 u2 v2 u3 v3 u4 v4 u5 v5 u6 v6 u7 v7 u8 v8 u9 v9 u10 v10 c0 c1 c2 c3 q0 q1 q2 q3
  obtain ⟨r0, r1, r2, r3, r4, r5, r6, r7, r8, r9, r10, r11⟩ := cl12 g0
  obtain ⟨k0, y0, k1, y1, k2, y2, k3, y3, k4, y4, k5, y5, k6, y6, k7, y7, k8, y8, k9, y9, k10, y10⟩ := cells11 g1
  obtain ⟨c0, c1, c2, c3⟩ := cells4p g2
  obtain ⟨u0, v0, u1, v1, u2, v2, u3, v3, u4, v4, u5, v5, u6, v6, u7, v7, u8, v8, u9, v9, u10, v10⟩ := cells11 g3
  have q0 := (Array.getElem?_eq_some_iff.1 g0).1
  have q1 := (Array.getElem?_eq_some_iff.1 g1).1
  have q2 := (Array.getElem?_eq_some_iff.1 g2).1
  have q3 := (Array.getElem?_eq_some_iff.1 g3).1
  go_wp2_with (go_at_call 80; refine (HC.out _).mono ?_; rintro e w6 ⟨rfl, hb6⟩; have HB := Lib.hid (below_then hb hb6); have g4 := blk_below g3 hb6; clear u0 v0 u1 v1 u2 v2 u3 v3 u4 v4 u5 v5 u6 v6 u7 v7 u8 v8 u9 v9 u10 v10; obtain ⟨u0, v0, u1, v1, u2, v2, u3, v3, u4, v4, u5, v5, u6, v6, u7, v7, u8, v8, u9, v9, u10, v10⟩ := cells11 g4; clear g4 hb6)
  refine bodyPost_ret ?_ rfl ⟨rfl, ?_⟩
  · simp [results, Tryd.results38, go_sem, u0, u1, u2, u3, u4, u5, u6, u7, u8, u9, u10]
  · (repeat' (first | with_reducible exact HB.out | (with_reducible refine Below.setCell ?_ ?_ _))) <;> (simp; try omega)

set_option maxRecDepth 100000 in
set_option maxHeartbeats 16000000 in
theorem rBeh_9 {c : Cf} {C N K : Nat} (s : SzX c C N K) (f : Ds) (hpc : f.pc = 9) (q : FitX c C K f) (tt A B Cc : Nat) (w : World) :
    Calls Tryd.prog 38 #[cfv c, frv f, cvT tt A B Cc] w (Ret2 (frv (behindX c f A B).1) (.bool (behindX c f A B).2) w) := by
  have c2 := s.c2
  have k2 := s.k2
  have n2 := s.n2
  have t4 := topX_le c
  obtain ⟨qk5, qn, qp, qj, qh, qa, qb, qx, qy, qi1, qi6, qi14, qi11, qn15, qk4⟩ := q
  rw [bh_9 hpc]
  have HOV := Lib.hid (fun W => rOverX_any f tt A B Cc W)
  obtain ⟨O, hO⟩ : ∃ R, overX f A B = R := ⟨_, rfl⟩
  rw [hO] at HOV ⊢
  clear hO
  obtain ⟨X, hX⟩ : ∃ X, ({ O with pc := 11 }, false) = X := ⟨_, rfl⟩
  rw [hX]
  unfold cfv frv cvT at *
  rw [s.cap, s.node] at *
  clear s
  obtain ⟨t', k, seq, kind, a, b, pc, i, j, n, p, h, x, y⟩ := f
  simp only at *
  obtain rfl : pc = 9 := hpc
  subst hX
  rw [show ((9 : Nat) : Int) = 9 from rfl] at *
  go_enter Tryd.func38, Tryd.ntmps38
  go_upto_region 1 with fail
  refine enter4 fun W hb g0 g1 g2 g3 _ _ _ _ => ?_
  obtain ⟨r0, r1, r2, r3, r4, r5, r6, r7, r8, r9, r10, r11⟩ := cl12 g0
  obtain ⟨k0, y0, k1, y1, k2, y2, k3, y3, k4, y4, k5, y5, k6, y6, k7, y7, k8, y8, k9, y9, k10, y10⟩ := cells11 g1
  obtain ⟨c0, c1, c2, c3⟩ := cells4p g2
  obtain ⟨u0, v0, u1, v1, u2, v2, u3, v3, u4, v4, u5, v5, u6, v6, u7, v7, u8, v8, u9, v9, u10, v10⟩ := cells11 g3
  have q0 := (Array.getElem?_eq_some_iff.1 g0).1
  have q1 := (Array.getElem?_eq_some_iff.1 g1).1
  have q2 := (Array.getElem?_eq_some_iff.1 g2).1
  have q3 := (Array.getElem?_eq_some_iff.1 g3).1
  go_wp2_with (first | (go_at_call 79; refine (HOV.out _).mono ?_; rintro e w5 ⟨rfl, hb5⟩; replace hb := below_then hb hb5; replace g0 := blk_below g0 hb5; replace g1 := blk_below g1 hb5; replace g2 := blk_below g2 hb5; replace g3 := blk_below g3 hb5; clear hb5; clear r0 r1 r2 r3 r4 r5 r6 r7 r8 r9 r10 r11 k0 y0 k1 y1 k2 y2 k3 y3 k4 y4 k5 y5 k6 y6 k7 y7 k8 y8 k9 y9 k10 y10 u0 v0 u1 v1 u2 v2 u3 v3 u4 v4 u5 v5 u6 v6 u7 v7 u8 v8 u9 v9 u10 v10 c0 c1 c2 c3 q0 q1 q2 q3; obtain ⟨r0, r1, r2, r3, r4, r5, r6, r7, r8, r9, r10, r11⟩ := cl12 g0; obtain ⟨k0, y0, k1, y1, k2, y2, k3, y3, k4, y4, k5, y5, k6, y6, k7, y7, k8, y8, k9, y9, k10, y10⟩ := cells11 g1; obtain ⟨c0, c1, c2, c3⟩ := cells4p g2; obtain ⟨u0, v0, u1, v1, u2, v2, u3, v3, u4, v4, u5, v5, u6, v6, u7, v7, u8, v8, u9, v9, u10, v10⟩ := cells11 g3; have q0 := (Array.getElem?_eq_some_iff.1 g0).1; have q1 := (Array.getElem?_eq_some_iff.1 g1).1; have q2 := (Array.getElem?_eq_some_iff.1 g2).1; have q3 := (Array.getElem?_eq_some_iff.1 g3).1) | (go_at_call 77; refine (rAtI _ _ _ _ _ _ _ _ _ _ _ _ _).mono ?_; rintro e w6 ⟨rfl, hb6⟩; have HB := Lib.hid (below_then hb hb6); have g4 := blk_below g3 hb6; clear u0 v0 u1 v1 u2 v2 u3 v3 u4 v4 u5 v5 u6 v6 u7 v7 u8 v8 u9 v9 u10 v10; obtain ⟨u0, v0, u1, v1, u2, v2, u3, v3, u4, v4, u5, v5, u6, v6, u7, v7, u8, v8, u9, v9, u10, v10⟩ := cells11 g4; clear g4 hb6))
  refine bodyPost_ret ?_ rfl ⟨rfl, ?_⟩
  · simp [results, Tryd.results38, go_sem, u0, u1, u2, u3, u4, u5, u6, u7, u8, u9, u10]
  · (repeat' (first | with_reducible exact HB.out | (with_reducible refine Below.setCell ?_ ?_ _))) <;> (simp; try omega)

set_option maxRecDepth 100000 in
set_option maxHeartbeats 16000000 in
theorem rBeh_11 {c : Cf} {C N K : Nat} (s : SzX c C N K) (f : Ds) (hpc : f.pc = 11) (q : FitX c C K f) (tt A B Cc : Nat) (w : World) :
    Calls Tryd.prog 38 #[cfv c, frv f, cvT tt A B Cc] w (Ret2 (frv (behindX c f A B).1) (.bool (behindX c f A B).2) w) := by
  have c2 := s.c2
  have k2 := s.k2
  have n2 := s.n2
  have t4 := topX_le c
  obtain ⟨qk5, qn, qp, qj, qh, qa, qb, qx, qy, qi1, qi6, qi14, qi11, qn15, qk4⟩ := q
  rw [bh_11 hpc]
  have HU := Lib.hid (fun W => rUpX_any s f.n f.h (by omega) (by omega) W)
  have HCL := Lib.hid (fun W => rClearsX_any s { f with i := f.i + 1 } qn (show f.h ≤ 4 from by omega) W)
  have HC := Lib.hid (fun W => rClimbX_any s { f with i := f.i + 1 } qn qh (by show f.p < 256; omega) W)
  rw [show clearsX c { f with i := f.i + 1 } = clearsX c f from rfl] at HCL
  generalize upX c f.n f.h = U at *
  generalize clearsX c f = D at *
  obtain ⟨Y, hY⟩ : ∃ R, climbX c { f with i := f.i + 1 } = R := ⟨_, rfl⟩
  rw [hY] at HC ⊢
  clear hY
  obtain ⟨X, hX⟩ : ∃ X, (if f.i + 1 < U then ({ f with i := f.i + 1, pc := 9 }, false) else if D = true then ({ f with i := f.i + 1, pc := 12 }, false) else (Y, false)) = X := ⟨_, rfl⟩
  rw [hX]
  unfold cfv frv cvT at *
  rw [s.cap, s.node] at *
  clear s
  obtain ⟨t', k, seq, kind, a, b, pc, i, j, n, p, h, x, y⟩ := f
  simp only at *
  obtain rfl : pc = 11 := hpc
  have h11 := qi11 rfl
  have p1 : IntKind.u8.wrap ((i : Int) + 1) = (i : Int) + 1 := by rw [IntKind.wrap_u8]; omega
  rw [show ((11 : Nat) : Int) = 11 from rfl] at *
  rw [show (((i + 1 : Nat)) : Int) = (i : Int) + 1 from by push_cast; rfl] at HCL HC
  by_cases e : i + 1 < U
  · rw [if_pos e] at hX
    subst hX
    have e2 : (i : Int) + 1 < (U : Int) := by omega
    clear e
    go_enter Tryd.func38, Tryd.ntmps38
    go_upto_region 1 with fail
    refine enter4 fun W hb g0 g1 g2 g3 _ _ _ _ => ?_
    obtain ⟨r0, r1, r2, r3, r4, r5, r6, r7, r8, r9, r10, r11⟩ := cl12 g0
    obtain ⟨k0, y0, k1, y1, k2, y2, k3, y3, k4, y4, k5, y5, k6, y6, k7, y7, k8, y8, k9, y9, k10, y10⟩ := cells11 g1
    obtain ⟨c0, c1, c2, c3⟩ := cells4p g2
    obtain ⟨u0, v0, u1, v1, u2, v2, u3, v3, u4, v4, u5, v5, u6, v6, u7, v7, u8, v8, u9, v9, u10, v10⟩ := cells11 g3
    have q0 := (Array.getElem?_eq_some_iff.1 g0).1
    have q1 := (Array.getElem?_eq_some_iff.1 g1).1
    have q2 := (Array.getElem?_eq_some_iff.1 g2).1
    have q3 := (Array.getElem?_eq_some_iff.1 g3).1
    go_upto_region 34 with fail
    refine entSet g1 rfl fun W2 G1 o2 => ?_
    replace g0 := only_blk o2 g0 (by omega)
    replace g2 := only_blk o2 g2 (by omega)
    replace g3 := only_blk o2 g3 (by omega)
    replace hb := Only.then_below (Nat.le_refl _) hb o2 (fun k hk => by omega)
    clear g1 o2
    have g1 := G1
    clear G1
    clear r0 r1 r2 r3 r4 r5 r6 r7 r8 r9 r10 r11 k0 y0 k1 y1 k2 y2 k3 y3 k4 y4 k5 y5 k6 y6 k7 y7 k8 y8 k9 y9 k10 y10 u0 v0 u1 v1 u2 v2 u3 v3 u4 v4 u5 v5 u6 v6 u7 v7 u8 v8 u9 v9 u10 v10 c0 c1 c2 c3 q0 q1 q2 q3
    obtain ⟨r0, r1, r2, r3, r4, r5, r6, r7, r8, r9, r10, r11⟩ := cl12 g0
    obtain ⟨k0, y0, k1, y1, k2, y2, k3, y3, k4, y4, k5, y5, k6, y6, k7, y7, k8, y8, k9, y9, k10, y10⟩ := cells11 g1
    obtain ⟨c0, c1, c2, c3⟩ := cells4p g2
    obtain ⟨u0, v0, u1, v1, u2, v2, u3, v3, u4, v4, u5, v5, u6, v6, u7, v7, u8, v8, u9, v9, u10, v10⟩ := cells11 g3
    have q0 := (Array.getElem?_eq_some_iff.1 g0).1
    have q1 := (Array.getElem?_eq_some_iff.1 g1).1
    have q2 := (Array.getElem?_eq_some_iff.1 g2).1
    have q3 := (Array.getElem?_eq_some_iff.1 g3).1
    refine wp_region_quiet_reads (by kernel_rfl) (by kernel_rfl) fun HR => ?_
    repeat (go_big_quiet_step (first | with_reducible exact Calls.regrown_of (HU.out _)))
    refine wpQuiet_nil ?_
    intro W3 hw'
    obtain ⟨⟨dq, osq⟩, hw''⟩ := hw'
    have hb3 : Below W2.heap.size W2 W3 := by rw [hw'']; exact below_regrown _ dq osq
    clear hw'' HR dq osq
    clear r0 r1 r2 r3 r4 r5 r6 r7 r8 r9 r10 r11 k0 y0 k1 y1 k2 y2 k3 y3 k4 y4 k5 y5 k6 y6 k7 y7 k8 y8 k9 y9 k10 y10 u0 v0 u1 v1 u2 v2 u3 v3 u4 v4 u5 v5 u6 v6 u7 v7 u8 v8 u9 v9 u10 v10 c0 c1 c2 c3 q0 q1 q2 q3
    replace g0 := blk_below g0 hb3
    replace g1 := blk_below g1 hb3
    replace g2 := blk_below g2 hb3
    replace g3 := blk_below g3 hb3
    replace hb := below_then hb hb3
    obtain ⟨r0, r1, r2, r3, r4, r5, r6, r7, r8, r9, r10, r11⟩ := cl12 g0
    obtain ⟨k0, y0, k1, y1, k2, y2, k3, y3, k4, y4, k5, y5, k6, y6, k7, y7, k8, y8, k9, y9, k10, y10⟩ := cells11 g1
    obtain ⟨c0, c1, c2, c3⟩ := cells4p g2
    obtain ⟨u0, v0, u1, v1, u2, v2, u3, v3, u4, v4, u5, v5, u6, v6, u7, v7, u8, v8, u9, v9, u10, v10⟩ := cells11 g3
    have q0 := (Array.getElem?_eq_some_iff.1 g0).1
    have q1 := (Array.getElem?_eq_some_iff.1 g1).1
    have q2 := (Array.getElem?_eq_some_iff.1 g2).1
    have q3 := (Array.getElem?_eq_some_iff.1 g3).1
    go_wp2_with (go_at_call 77; refine (rAtI _ _ _ _ _ _ _ _ _ _ _ _ _).mono ?_; rintro e w6 ⟨rfl, hb6⟩; have HB := Lib.hid (below_then hb hb6); have g4 := blk_below g3 hb6; clear u0 v0 u1 v1 u2 v2 u3 v3 u4 v4 u5 v5 u6 v6 u7 v7 u8 v8 u9 v9 u10 v10; obtain ⟨u0, v0, u1, v1, u2, v2, u3, v3, u4, v4, u5, v5, u6, v6, u7, v7, u8, v8, u9, v9, u10, v10⟩ := cells11 g4; clear g4 hb6)
    refine bodyPost_ret ?_ rfl ⟨rfl, ?_⟩
    · simp [results, Tryd.results38, go_sem, u0, u1, u2, u3, u4, u5, u6, u7, u8, u9, u10]
    · (repeat' (first | with_reducible exact HB.out | (with_reducible refine Below.setCell ?_ ?_ _))) <;> (simp; try omega)
  · rw [if_neg e] at hX
    have e2 : ¬ (i : Int) + 1 < (U : Int) := by omega
    clear e
    cases D with
    | true =>
      rw [if_pos rfl] at hX
      subst hX
      go_enter Tryd.func38, Tryd.ntmps38
      go_upto_region 1 with fail
      refine enter4 fun W hb g0 g1 g2 g3 _ _ _ _ => ?_
      obtain ⟨r0, r1, r2, r3, r4, r5, r6, r7, r8, r9, r10, r11⟩ := cl12 g0
      obtain ⟨k0, y0, k1, y1, k2, y2, k3, y3, k4, y4, k5, y5, k6, y6, k7, y7, k8, y8, k9, y9, k10, y10⟩ := cells11 g1
      obtain ⟨c0, c1, c2, c3⟩ := cells4p g2
      obtain ⟨u0, v0, u1, v1, u2, v2, u3, v3, u4, v4, u5, v5, u6, v6, u7, v7, u8, v8, u9, v9, u10, v10⟩ := cells11 g3
      have q0 := (Array.getElem?_eq_some_iff.1 g0).1
      have q1 := (Array.getElem?_eq_some_iff.1 g1).1
      have q2 := (Array.getElem?_eq_some_iff.1 g2).1
      have q3 := (Array.getElem?_eq_some_iff.1 g3).1
      go_upto_region 34 with fail
      refine entSet g1 rfl fun W2 G1 o2 => ?_
      replace g0 := only_blk o2 g0 (by omega)
      replace g2 := only_blk o2 g2 (by omega)
      replace g3 := only_blk o2 g3 (by omega)
      replace hb := Only.then_below (Nat.le_refl _) hb o2 (fun k hk => by omega)
      clear g1 o2
      have g1 := G1
      clear G1
      clear r0 r1 r2 r3 r4 r5 r6 r7 r8 r9 r10 r11 k0 y0 k1 y1 k2 y2 k3 y3 k4 y4 k5 y5 k6 y6 k7 y7 k8 y8 k9 y9 k10 y10 u0 v0 u1 v1 u2 v2 u3 v3 u4 v4 u5 v5 u6 v6 u7 v7 u8 v8 u9 v9 u10 v10 c0 c1 c2 c3 q0 q1 q2 q3
      obtain ⟨r0, r1, r2, r3, r4, r5, r6, r7, r8, r9, r10, r11⟩ := cl12 g0
      obtain ⟨k0, y0, k1, y1, k2, y2, k3, y3, k4, y4, k5, y5, k6, y6, k7, y7, k8, y8, k9, y9, k10, y10⟩ := cells11 g1
      obtain ⟨c0, c1, c2, c3⟩ := cells4p g2
      obtain ⟨u0, v0, u1, v1, u2, v2, u3, v3, u4, v4, u5, v5, u6, v6, u7, v7, u8, v8, u9, v9, u10, v10⟩ := cells11 g3
      have q0 := (Array.getElem?_eq_some_iff.1 g0).1
      have q1 := (Array.getElem?_eq_some_iff.1 g1).1
      have q2 := (Array.getElem?_eq_some_iff.1 g2).1
      have q3 := (Array.getElem?_eq_some_iff.1 g3).1
      refine wp_region_quiet_reads (by kernel_rfl) (by kernel_rfl) fun HR => ?_
      repeat (go_big_quiet_step (first | with_reducible exact Calls.regrown_of (HU.out _)))
      refine wpQuiet_nil ?_
      intro W3 hw'
      obtain ⟨⟨dq, osq⟩, hw''⟩ := hw'
      have hb3 : Below W2.heap.size W2 W3 := by rw [hw'']; exact below_regrown _ dq osq
      clear hw'' HR dq osq
      clear r0 r1 r2 r3 r4 r5 r6 r7 r8 r9 r10 r11 k0 y0 k1 y1 k2 y2 k3 y3 k4 y4 k5 y5 k6 y6 k7 y7 k8 y8 k9 y9 k10 y10 u0 v0 u1 v1 u2 v2 u3 v3 u4 v4 u5 v5 u6 v6 u7 v7 u8 v8 u9 v9 u10 v10 c0 c1 c2 c3 q0 q1 q2 q3
      replace g0 := blk_below g0 hb3
      replace g1 := blk_below g1 hb3
      replace g2 := blk_below g2 hb3
      replace g3 := blk_below g3 hb3
      replace hb := below_then hb hb3
      obtain ⟨r0, r1, r2, r3, r4, r5, r6, r7, r8, r9, r10, r11⟩ := cl12 g0
      obtain ⟨k0, y0, k1, y1, k2, y2, k3, y3, k4, y4, k5, y5, k6, y6, k7, y7, k8, y8, k9, y9, k10, y10⟩ := cells11 g1
      obtain ⟨c0, c1, c2, c3⟩ := cells4p g2
      obtain ⟨u0, v0, u1, v1, u2, v2, u3, v3, u4, v4, u5, v5, u6, v6, u7, v7, u8, v8, u9, v9, u10, v10⟩ := cells11 g3
      have q0 := (Array.getElem?_eq_some_iff.1 g0).1
      have q1 := (Array.getElem?_eq_some_iff.1 g1).1
      have q2 := (Array.getElem?_eq_some_iff.1 g2).1
      have q3 := (Array.getElem?_eq_some_iff.1 g3).1
      go_wp2_with (first | (go_at_call 81; refine (HCL.out _).mono ?_; rintro e w5 ⟨rfl, hb5⟩; replace hb := below_then hb hb5; replace g0 := blk_below g0 hb5; replace g1 := blk_below g1 hb5; replace g2 := blk_below g2 hb5; replace g3 := blk_below g3 hb5; clear hb5; clear r0 r1 r2 r3 r4 r5 r6 r7 r8 r9 r10 r11 k0 y0 k1 y1 k2 y2 k3 y3 k4 y4 k5 y5 k6 y6 k7 y7 k8 y8 k9 y9 k10 y10 u0 v0 u1 v1 u2 v2 u3 v3 u4 v4 u5 v5 u6 v6 u7 v7 u8 v8 u9 v9 u10 v10 c0 c1 c2 c3 q0 q1 q2 q3; obtain ⟨r0, r1, r2, r3, r4, r5, r6, r7, r8, r9, r10, r11⟩ := cl12 g0; obtain ⟨k0, y0, k1, y1, k2, y2, k3, y3, k4, y4, k5, y5, k6, y6, k7, y7, k8, y8, k9, y9, k10, y10⟩ := cells11 g1; obtain ⟨c0, c1, c2, c3⟩ := cells4p g2; obtain ⟨u0, v0, u1, v1, u2, v2, u3, v3, u4, v4, u5, v5, u6, v6, u7, v7, u8, v8, u9, v9, u10, v10⟩ := cells11 g3; have q0 := (Array.getElem?_eq_some_iff.1 g0).1; have q1 := (Array.getElem?_eq_some_iff.1 g1).1; have q2 := (Array.getElem?_eq_some_iff.1 g2).1; have q3 := (Array.getElem?_eq_some_iff.1 g3).1) | (go_at_call 77; refine (rAtI _ _ _ _ _ _ _ _ _ _ _ _ _).mono ?_; rintro e w6 ⟨rfl, hb6⟩; have HB := Lib.hid (below_then hb hb6); have g4 := blk_below g3 hb6; clear u0 v0 u1 v1 u2 v2 u3 v3 u4 v4 u5 v5 u6 v6 u7 v7 u8 v8 u9 v9 u10 v10; obtain ⟨u0, v0, u1, v1, u2, v2, u3, v3, u4, v4, u5, v5, u6, v6, u7, v7, u8, v8, u9, v9, u10, v10⟩ := cells11 g4; clear g4 hb6))
      refine bodyPost_ret ?_ rfl ⟨rfl, ?_⟩
      · simp [results, Tryd.results38, go_sem, u0, u1, u2, u3, u4, u5, u6, u7, u8, u9, u10]
      · (repeat' (first | with_reducible exact HB.out | (with_reducible refine Below.setCell ?_ ?_ _))) <;> (simp; try omega)
    | false =>
      rw [if_neg (by decide)] at hX
      subst hX
      go_enter Tryd.func38, Tryd.ntmps38
      go_upto_region 1 with fail
      refine enter4 fun W hb g0 g1 g2 g3 _ _ _ _ => ?_
      obtain ⟨r0, r1, r2, r3, r4, r5, r6, r7, r8, r9, r10, r11⟩ := cl12 g0
      obtain ⟨k0, y0, k1, y1, k2, y2, k3, y3, k4, y4, k5, y5, k6, y6, k7, y7, k8, y8, k9, y9, k10, y10⟩ := cells11 g1
      obtain ⟨c0, c1, c2, c3⟩ := cells4p g2
      obtain ⟨u0, v0, u1, v1, u2, v2, u3, v3, u4, v4, u5, v5, u6, v6, u7, v7, u8, v8, u9, v9, u10, v10⟩ := cells11 g3
      have q0 := (Array.getElem?_eq_some_iff.1 g0).1
      have q1 := (Array.getElem?_eq_some_iff.1 g1).1
      have q2 := (Array.getElem?_eq_some_iff.1 g2).1
      have q3 := (Array.getElem?_eq_some_iff.1 g3).1
      go_upto_region 34 with fail
      refine entSet g1 rfl fun W2 G1 o2 => ?_
      replace g0 := only_blk o2 g0 (by omega)
      replace g2 := only_blk o2 g2 (by omega)
      replace g3 := only_blk o2 g3 (by omega)
      replace hb := Only.then_below (Nat.le_refl _) hb o2 (fun k hk => by omega)
      clear g1 o2
      have g1 := G1
      clear G1
      clear r0 r1 r2 r3 r4 r5 r6 r7 r8 r9 r10 r11 k0 y0 k1 y1 k2 y2 k3 y3 k4 y4 k5 y5 k6 y6 k7 y7 k8 y8 k9 y9 k10 y10 u0 v0 u1 v1 u2 v2 u3 v3 u4 v4 u5 v5 u6 v6 u7 v7 u8 v8 u9 v9 u10 v10 c0 c1 c2 c3 q0 q1 q2 q3
      obtain ⟨r0, r1, r2, r3, r4, r5, r6, r7, r8, r9, r10, r11⟩ := cl12 g0
      obtain ⟨k0, y0, k1, y1, k2, y2, k3, y3, k4, y4, k5, y5, k6, y6, k7, y7, k8, y8, k9, y9, k10, y10⟩ := cells11 g1
      obtain ⟨c0, c1, c2, c3⟩ := cells4p g2
      obtain ⟨u0, v0, u1, v1, u2, v2, u3, v3, u4, v4, u5, v5, u6, v6, u7, v7, u8, v8, u9, v9, u10, v10⟩ := cells11 g3
      have q0 := (Array.getElem?_eq_some_iff.1 g0).1
      have q1 := (Array.getElem?_eq_some_iff.1 g1).1
      have q2 := (Array.getElem?_eq_some_iff.1 g2).1
      have q3 := (Array.getElem?_eq_some_iff.1 g3).1
      refine wp_region_quiet_reads (by kernel_rfl) (by kernel_rfl) fun HR => ?_
      repeat (go_big_quiet_step (first | with_reducible exact Calls.regrown_of (HU.out _)))
      refine wpQuiet_nil ?_
      intro W3 hw'
      obtain ⟨⟨dq, osq⟩, hw''⟩ := hw'
      have hb3 : Below W2.heap.size W2 W3 := by rw [hw'']; exact below_regrown _ dq osq
      clear hw'' HR dq osq
      clear r0 r1 r2 r3 r4 r5 r6 r7 r8 r9 r10 r11 k0 y0 k1 y1 k2 y2 k3 y3 k4 y4 k5 y5 k6 y6 k7 y7 k8 y8 k9 y9 k10 y10 u0 v0 u1 v1 u2 v2 u3 v3 u4 v4 u5 v5 u6 v6 u7 v7 u8 v8 u9 v9 u10 v10 c0 c1 c2 c3 q0 q1 q2 q3
      replace g0 := blk_below g0 hb3
      replace g1 := blk_below g1 hb3
      replace g2 := blk_below g2 hb3
      replace g3 := blk_below g3 hb3
      replace hb := below_then hb hb3
      obtain ⟨r0, r1, r2, r3, r4, r5, r6, r7, r8, r9, r10, r11⟩ := cl12 g0
      obtain ⟨k0, y0, k1, y1, k2, y2, k3, y3, k4, y4, k5, y5, k6, y6, k7, y7, k8, y8, k9, y9, k10, y10⟩ := cells11 g1
      obtain ⟨c0, c1, c2, c3⟩ := cells4p g2
      obtain ⟨u0, v0, u1, v1, u2, v2, u3, v3, u4, v4, u5, v5, u6, v6, u7, v7, u8, v8, u9, v9, u10, v10⟩ := cells11 g3
      have q0 := (Array.getElem?_eq_some_iff.1 g0).1
      have q1 := (Array.getElem?_eq_some_iff.1 g1).1
      have q2 := (Array.getElem?_eq_some_iff.1 g2).1
      have q3 := (Array.getElem?_eq_some_iff.1 g3).1
      go_wp2_with (first | (go_at_call 81; refine (HCL.out _).mono ?_; rintro e w5 ⟨rfl, hb5⟩; replace hb := below_then hb hb5; replace g0 := blk_below g0 hb5; replace g1 := blk_below g1 hb5; replace g2 := blk_below g2 hb5; replace g3 := blk_below g3 hb5; clear hb5; clear r0 r1 r2 r3 r4 r5 r6 r7 r8 r9 r10 r11 k0 y0 k1 y1 k2 y2 k3 y3 k4 y4 k5 y5 k6 y6 k7 y7 k8 y8 k9 y9 k10 y10 u0 v0 u1 v1 u2 v2 u3 v3 u4 v4 u5 v5 u6 v6 u7 v7 u8 v8 u9 v9 u10 v10 c0 c1 c2 c3 q0 q1 q2 q3; obtain ⟨r0, r1, r2, r3, r4, r5, r6, r7, r8, r9, r10, r11⟩ := cl12 g0; obtain ⟨k0, y0, k1, y1, k2, y2, k3, y3, k4, y4, k5, y5, k6, y6, k7, y7, k8, y8, k9, y9, k10, y10⟩ := cells11 g1; obtain ⟨c0, c1, c2, c3⟩ := cells4p g2; obtain ⟨u0, v0, u1, v1, u2, v2, u3, v3, u4, v4, u5, v5, u6, v6, u7, v7, u8, v8, u9, v9, u10, v10⟩ := cells11 g3; have q0 := (Array.getElem?_eq_some_iff.1 g0).1; have q1 := (Array.getElem?_eq_some_iff.1 g1).1; have q2 := (Array.getElem?_eq_some_iff.1 g2).1; have q3 := (Array.getElem?_eq_some_iff.1 g3).1) | (go_at_call 80; refine (HC.out _).mono ?_; rintro e w6 ⟨rfl, hb6⟩; have HB := Lib.hid (below_then hb hb6); have g4 := blk_below g3 hb6; clear u0 v0 u1 v1 u2 v2 u3 v3 u4 v4 u5 v5 u6 v6 u7 v7 u8 v8 u9 v9 u10 v10; obtain ⟨u0, v0, u1, v1, u2, v2, u3, v3, u4, v4, u5, v5, u6, v6, u7, v7, u8, v8, u9, v9, u10, v10⟩ := cells11 g4; clear g4 hb6))
      refine bodyPost_ret ?_ rfl ⟨rfl, ?_⟩
      · simp [results, Tryd.results38, go_sem, u0, u1, u2, u3, u4, u5, u6, u7, u8, u9, u10]
      · (repeat' (first | with_reducible exact HB.out | (with_reducible refine Below.setCell ?_ ?_ _))) <;> (simp; try omega)

set_option maxRecDepth 100000 in
set_option maxHeartbeats 16000000 in
theorem rBeh_12 {c : Cf} {C N K : Nat} (s : SzX c C N K) (f : Ds) (hpc : f.pc = 12) (q : FitX c C K f) (tt A B Cc : Nat) (w : World) :
    Calls Tryd.prog 38 #[cfv c, frv f, cvT tt A B Cc] w (Ret2 (frv (behindX c f A B).1) (.bool (behindX c f A B).2) w) := by
  have c2 := s.c2
  have k2 := s.k2
  have n2 := s.n2
  have t4 := topX_le c
  obtain ⟨qk5, qn, qp, qj, qh, qa, qb, qx, qy, qi1, qi6, qi14, qi11, qn15, qk4⟩ := q
  rw [bh_12 hpc]
  have HC := Lib.hid (fun W => rClimbX_any s f qn qh (by omega) W)
  obtain ⟨Y, hY⟩ : ∃ R, climbX c f = R := ⟨_, rfl⟩
  rw [hY] at HC ⊢
  clear hY
  obtain ⟨X, hX⟩ : ∃ X, (Y, false) = X := ⟨_, rfl⟩
  rw [hX]
  unfold cfv frv cvT at *
  rw [s.cap, s.node] at *
  clear s
  obtain ⟨t', k, seq, kind, a, b, pc, i, j, n, p, h, x, y⟩ := f
  simp only at *
  obtain rfl : pc = 12 := hpc
  subst hX
  rw [show ((12 : Nat) : Int) = 12 from rfl] at *
  go_enter Tryd.func38, Tryd.ntmps38
  go_upto_region 1 with fail
  refine enter4 fun W hb g0 g1 g2 g3 _ _ _ _ => ?_
  obtain ⟨r0, r1, r2, r3, r4, r5, r6, r7, r8, r9, r10, r11⟩ := cl12 g0
  obtain ⟨k0, y0, k1, y1, k2, y2, k3, y3, k4, y4, k5, y5, k6, y6, k7, y7, k8, y8, k9, y9, k10, y10⟩ := cells11 g1
  obtain ⟨c0, c1, c2, c3⟩ := cells4p g2
  obtain ⟨u0, v0, u1, v1, u2, v2, u3, v3, u4, v4, u5, v5, u6, v6, u7, v7, u8, v8, u9, v9, u10, v10⟩ := cells11 g3
  have q0 := (Array.getElem?_eq_some_iff.1 g0).1
  have q1 := (Array.getElem?_eq_some_iff.1 g1).1
  have q2 := (Array.getElem?_eq_some_iff.1 g2).1
  have q3 := (Array.getElem?_eq_some_iff.1 g3).1
  go_wp2_with (go_at_call 80; refine (HC.out _).mono ?_; rintro e w6 ⟨rfl, hb6⟩; have HB := Lib.hid (below_then hb hb6); have g4 := blk_below g3 hb6; clear u0 v0 u1 v1 u2 v2 u3 v3 u4 v4 u5 v5 u6 v6 u7 v7 u8 v8 u9 v9 u10 v10; obtain ⟨u0, v0, u1, v1, u2, v2, u3, v3, u4, v4, u5, v5, u6, v6, u7, v7, u8, v8, u9, v9, u10, v10⟩ := cells11 g4; clear g4 hb6)
  refine bodyPost_ret ?_ rfl ⟨rfl, ?_⟩
  · simp [results, Tryd.results38, go_sem, u0, u1, u2, u3, u4, u5, u6, u7, u8, u9, u10]
  · (repeat' (first | with_reducible exact HB.out | (with_reducible refine Below.setCell ?_ ?_ _))) <;> (simp; try omega)

set_option maxRecDepth 100000 in
set_option maxHeartbeats 16000000 in
theorem rBeh_13 {c : Cf} {C N K : Nat} (s : SzX c C N K) (f : Ds) (hpc : f.pc = 13) (q : FitX c C K f) (tt A B Cc : Nat) (w : World) :
    Calls Tryd.prog 38 #[cfv c, frv f, cvT tt A B Cc] w (Ret2 (frv (behindX c f A B).1) (.bool (behindX c f A B).2) w) := by
  have c2 := s.c2
  have k2 := s.k2
  have n2 := s.n2
  have t4 := topX_le c
  obtain ⟨qk5, qn, qp, qj, qh, qa, qb, qx, qy, qi1, qi6, qi14, qi11, qn15, qk4⟩ := q
  rw [bh_13 hpc]
  have HOV := Lib.hid (fun W => rOverX_any f tt A B Cc W)
  obtain ⟨O, hO⟩ : ∃ R, overX f A B = R := ⟨_, rfl⟩
  rw [hO] at HOV ⊢
  clear hO
  obtain ⟨X, hX⟩ : ∃ X, ({ O with pc := 14 }, false) = X := ⟨_, rfl⟩
  rw [hX]
  unfold cfv frv cvT at *
  rw [s.cap, s.node] at *
  clear s
  obtain ⟨t', k, seq, kind, a, b, pc, i, j, n, p, h, x, y⟩ := f
  simp only at *
  obtain rfl : pc = 13 := hpc
  subst hX
  rw [show ((13 : Nat) : Int) = 13 from rfl] at *
  go_enter Tryd.func38, Tryd.ntmps38
  go_upto_region 1 with fail
  refine enter4 fun W hb g0 g1 g2 g3 _ _ _ _ => ?_
  obtain ⟨r0, r1, r2, r3, r4, r5, r6, r7, r8, r9, r10, r11⟩ := cl12 g0
  obtain ⟨k0, y0, k1, y1, k2, y2, k3, y3, k4, y4, k5, y5, k6, y6, k7, y7, k8, y8, k9, y9, k10, y10⟩ := cells11 g1
  obtain ⟨c0, c1, c2, c3⟩ := cells4p g2
  obtain ⟨u0, v0, u1, v1, u2, v2, u3, v3, u4, v4, u5, v5, u6, v6, u7, v7, u8, v8, u9, v9, u10, v10⟩ := cells11 g3
  have q0 := (Array.getElem?_eq_some_iff.1 g0).1
  have q1 := (Array.getElem?_eq_some_iff.1 g1).1
  have q2 := (Array.getElem?_eq_some_iff.1 g2).1
  have q3 := (Array.getElem?_eq_some_iff.1 g3).1
  go_wp2_with (first | (go_at_call 79; refine (HOV.out _).mono ?_; rintro e w5 ⟨rfl, hb5⟩; replace hb := below_then hb hb5; replace g0 := blk_below g0 hb5; replace g1 := blk_below g1 hb5; replace g2 := blk_below g2 hb5; replace g3 := blk_below g3 hb5; clear hb5; clear r0 r1 r2 r3 r4 r5 r6 r7 r8 r9 r10 r11 k0 y0 k1 y1 k2 y2 k3 y3 k4 y4 k5 y5 k6 y6 k7 y7 k8 y8 k9 y9 k10 y10 u0 v0 u1 v1 u2 v2 u3 v3 u4 v4 u5 v5 u6 v6 u7 v7 u8 v8 u9 v9 u10 v10 c0 c1 c2 c3 q0 q1 q2 q3; obtain ⟨r0, r1, r2, r3, r4, r5, r6, r7, r8, r9, r10, r11⟩ := cl12 g0; obtain ⟨k0, y0, k1, y1, k2, y2, k3, y3, k4, y4, k5, y5, k6, y6, k7, y7, k8, y8, k9, y9, k10, y10⟩ := cells11 g1; obtain ⟨c0, c1, c2, c3⟩ := cells4p g2; obtain ⟨u0, v0, u1, v1, u2, v2, u3, v3, u4, v4, u5, v5, u6, v6, u7, v7, u8, v8, u9, v9, u10, v10⟩ := cells11 g3; have q0 := (Array.getElem?_eq_some_iff.1 g0).1; have q1 := (Array.getElem?_eq_some_iff.1 g1).1; have q2 := (Array.getElem?_eq_some_iff.1 g2).1; have q3 := (Array.getElem?_eq_some_iff.1 g3).1) | (go_at_call 77; refine (rAtI _ _ _ _ _ _ _ _ _ _ _ _ _).mono ?_; rintro e w6 ⟨rfl, hb6⟩; have HB := Lib.hid (below_then hb hb6); have g4 := blk_below g3 hb6; clear u0 v0 u1 v1 u2 v2 u3 v3 u4 v4 u5 v5 u6 v6 u7 v7 u8 v8 u9 v9 u10 v10; obtain ⟨u0, v0, u1, v1, u2, v2, u3, v3, u4, v4, u5, v5, u6, v6, u7, v7, u8, v8, u9, v9, u10, v10⟩ := cells11 g4; clear g4 hb6))
  refine bodyPost_ret ?_ rfl ⟨rfl, ?_⟩
  · simp [results, Tryd.results38, go_sem, u0, u1, u2, u3, u4, u5, u6, u7, u8, u9, u10]
  · (repeat' (first | with_reducible exact HB.out | (with_reducible refine Below.setCell ?_ ?_ _))) <;> (simp; try omega)
end Go.Proofs.YtmkehailohgebaaDoor
