/- What becomes of a frame of an index: the document's own, Pc by Pc, the rest. -/
import Derived.Test.YtmkehailohgebaaDoorTeBehA
import Derived.Test.YtmkehailohgebaaDoorFitX
import Derived.Test.YtmkehailohgebaaDoorBks
namespace Go.Proofs.YtmkehailohgebaaDoor
open Go.RowKit Go.Lib Pt Opn

set_option maxRecDepth 100000 in
set_option maxHeartbeats 16000000 in
theorem rBeh_14 {c : Cf} {C N K : Nat} (s : SzX c C N K) (f : Ds) (hpc : f.pc = 14) (q : FitX c C K f) (tt A B Cc : Nat) (w : World) :
    Calls Tryd.prog 38 #[cfv c, frv f, cvT tt A B Cc] w (Ret2 (frv (behindX c f A B).1) (.bool (behindX c f A B).2) w) := by
  have c2 := s.c2
  have k2 := s.k2
  have n2 := s.n2
  have t4 := topX_le c
  obtain ⟨qk5, qn, qp, qj, qh, qa, qb, qx, qy, qi1, qi6, qi14, qi11, qn15, qk4⟩ := q
  rw [bh_14 hpc]
  obtain ⟨X, hX⟩ : ∃ X, (if f.n ≤ f.i + 1 then ({ f with i := f.i + 1, pc := 15 }, false) else ({ f with i := f.i + 1, pc := 13 }, false)) = X := ⟨_, rfl⟩
  rw [hX]
  unfold cfv frv cvT at *
  rw [s.cap, s.node] at *
  clear s
  obtain ⟨t', k, seq, kind, a, b, pc, i, j, n, p, h, x, y⟩ := f
  simp only at *
  obtain rfl : pc = 14 := hpc
  have h14 := qi14 rfl
  have p1 : IntKind.u8.wrap ((i : Int) + 1) = (i : Int) + 1 := by rw [IntKind.wrap_u8]; omega
  rw [show ((14 : Nat) : Int) = 14 from rfl] at *
  by_cases e : n ≤ i + 1
  · rw [if_pos e] at hX
    subst hX
    have e2 : (n : Int) ≤ (i : Int) + 1 := by omega
    clear e
    go_enter Tryd.func38, Tryd.ntmps38
    go_upto_region 1 with fail
    refine enter4 fun W hb g0 g1 g2 g3 _ _ _ _ => ?_
    obtain ⟨r0, r1, r2, r3, r4, r5, r6, r7, r8, r9, r10, r11⟩ := cl12 g0
    obtain ⟨k0, y0, k1, y1, k2, y2, k3, y3, k4, y4, k5, y5, k6, y6, k7, y7, k8, y8, k9, y9, k10, y10⟩ := cells11 g1
    obtain ⟨c0, c1, c2, c3⟩ := cells4p g2
    obtain ⟨u0, v0, u1, v1, u2, v2, u3, v3, u4, v4, u5, v5, u6, v6, u7, v7, u8, v8, u9, v9, u10, v10⟩ := cells11 g3
    have q0 := (Array.getElem?_eq_some_iff.1 g0).1
    have q1 := (Array.getElem?_eq_some_iff.1 g1).1
    have q2 := (Array.getElem?_eq_some_iff.1 g2).1
    have q3 := (Array.getElem?_eq_some_iff.1 g3).1
    go_upto_region 45 with fail
    refine entSet g1 rfl fun W2 G1 o2 => ?_
    replace g0 := only_blk o2 g0 (by omega)
    replace g2 := only_blk o2 g2 (by omega)
    replace g3 := only_blk o2 g3 (by omega)
    replace hb := Only.then_below (Nat.le_refl _) hb o2 (fun k hk => by omega)
    clear g1 o2
    have g1 := G1
    clear G1
    clear r0 r1 r2 r3 r4 r5 r6 r7 r8 r9 r10 r11 k0 y0 k1 y1 k2 y2 k3 y3 k4 y4 k5 y5 k6 y6 k7 y7 k8 y8 k9 y9 k10 y10 u0 v0 u1 v1 u2 v2 u3 v3 u4 v4 u5 v5 u6 v6 u7 v7 u8 v8 u9 v9 u10 v10 c0 c1 c2 c3 q0 q1 q2 q3
    obtain ⟨r0, r1, r2, r3, r4, r5, r6, r7, r8, r9, r10, r11⟩ := cl12 g0
    obtain ⟨k0, y0, k1, y1, k2, y2, k3, y3, k4, y4, k5, y5, k6, y6, k7, y7, k8, y8, k9, y9, k10, y10⟩ := cells11 g1
    obtain ⟨c0, c1, c2, c3⟩ := cells4p g2
    obtain ⟨u0, v0, u1, v1, u2, v2, u3, v3, u4, v4, u5, v5, u6, v6, u7, v7, u8, v8, u9, v9, u10, v10⟩ := cells11 g3
    have q0 := (Array.getElem?_eq_some_iff.1 g0).1
    have q1 := (Array.getElem?_eq_some_iff.1 g1).1
    have q2 := (Array.getElem?_eq_some_iff.1 g2).1
    have q3 := (Array.getElem?_eq_some_iff.1 g3).1
    go_wp2_with (go_at_call 77; refine (rAtI _ _ _ _ _ _ _ _ _ _ _ _ _).mono ?_; rintro e w6 ⟨rfl, hb6⟩; have HB := Lib.hid (below_then hb hb6); have g4 := blk_below g3 hb6; clear u0 v0 u1 v1 u2 v2 u3 v3 u4 v4 u5 v5 u6 v6 u7 v7 u8 v8 u9 v9 u10 v10; obtain ⟨u0, v0, u1, v1, u2, v2, u3, v3, u4, v4, u5, v5, u6, v6, u7, v7, u8, v8, u9, v9, u10, v10⟩ := cells11 g4; clear g4 hb6)
    refine bodyPost_ret ?_ rfl ⟨rfl, ?_⟩
    · simp [results, Tryd.results38, go_sem, u0, u1, u2, u3, u4, u5, u6, u7, u8, u9, u10]
    · (repeat' (first | with_reducible exact HB.out | (with_reducible refine Below.setCell ?_ ?_ _))) <;> (simp; try omega)
  · rw [if_neg e] at hX
    subst hX
    have e2 : ¬ (n : Int) ≤ (i : Int) + 1 := by omega
    clear e
    go_enter Tryd.func38, Tryd.ntmps38
    go_upto_region 1 with fail
    refine enter4 fun W hb g0 g1 g2 g3 _ _ _ _ => ?_
    obtain ⟨r0, r1, r2, r3, r4, r5, r6, r7, r8, r9, r10, r11⟩ := cl12 g0
    obtain ⟨k0, y0, k1, y1, k2, y2, k3, y3, k4, y4, k5, y5, k6, y6, k7, y7, k8, y8, k9, y9, k10, y10⟩ := cells11 g1
    obtain ⟨c0, c1, c2, c3⟩ := cells4p g2
    obtain ⟨u0, v0, u1, v1, u2, v2, u3, v3, u4, v4, u5, v5, u6, v6, u7, v7, u8, v8, u9, v9, u10, v10⟩ := cells11 g3
    have q0 := (Array.getElem?_eq_some_iff.1 g0).1
    have q1 := (Array.getElem?_eq_some_iff.1 g1).1
    have q2 := (Array.getElem?_eq_some_iff.1 g2).1
    have q3 := (Array.getElem?_eq_some_iff.1 g3).1
    go_upto_region 45 with fail
    refine entSet g1 rfl fun W2 G1 o2 => ?_
    replace g0 := only_blk o2 g0 (by omega)
    replace g2 := only_blk o2 g2 (by omega)
    replace g3 := only_blk o2 g3 (by omega)
    replace hb := Only.then_below (Nat.le_refl _) hb o2 (fun k hk => by omega)
    clear g1 o2
    have g1 := G1
    clear G1
    clear r0 r1 r2 r3 r4 r5 r6 r7 r8 r9 r10 r11 k0 y0 k1 y1 k2 y2 k3 y3 k4 y4 k5 y5 k6 y6 k7 y7 k8 y8 k9 y9 k10 y10 u0 v0 u1 v1 u2 v2 u3 v3 u4 v4 u5 v5 u6 v6 u7 v7 u8 v8 u9 v9 u10 v10 c0 c1 c2 c3 q0 q1 q2 q3
    obtain ⟨r0, r1, r2, r3, r4, r5, r6, r7, r8, r9, r10, r11⟩ := cl12 g0
    obtain ⟨k0, y0, k1, y1, k2, y2, k3, y3, k4, y4, k5, y5, k6, y6, k7, y7, k8, y8, k9, y9, k10, y10⟩ := cells11 g1
    obtain ⟨c0, c1, c2, c3⟩ := cells4p g2
    obtain ⟨u0, v0, u1, v1, u2, v2, u3, v3, u4, v4, u5, v5, u6, v6, u7, v7, u8, v8, u9, v9, u10, v10⟩ := cells11 g3
    have q0 := (Array.getElem?_eq_some_iff.1 g0).1
    have q1 := (Array.getElem?_eq_some_iff.1 g1).1
    have q2 := (Array.getElem?_eq_some_iff.1 g2).1
    have q3 := (Array.getElem?_eq_some_iff.1 g3).1
    go_wp2_with (go_at_call 77; refine (rAtI _ _ _ _ _ _ _ _ _ _ _ _ _).mono ?_; rintro e w6 ⟨rfl, hb6⟩; have HB := Lib.hid (below_then hb hb6); have g4 := blk_below g3 hb6; clear u0 v0 u1 v1 u2 v2 u3 v3 u4 v4 u5 v5 u6 v6 u7 v7 u8 v8 u9 v9 u10 v10; obtain ⟨u0, v0, u1, v1, u2, v2, u3, v3, u4, v4, u5, v5, u6, v6, u7, v7, u8, v8, u9, v9, u10, v10⟩ := cells11 g4; clear g4 hb6)
    refine bodyPost_ret ?_ rfl ⟨rfl, ?_⟩
    · simp [results, Tryd.results38, go_sem, u0, u1, u2, u3, u4, u5, u6, u7, u8, u9, u10]
    · (repeat' (first | with_reducible exact HB.out | (with_reducible refine Below.setCell ?_ ?_ _))) <;> (simp; try omega)

set_option maxRecDepth 100000 in
set_option maxHeartbeats 16000000 in
theorem rBeh_15 {c : Cf} {C N K : Nat} (s : SzX c C N K) (f : Ds) (hpc : f.pc = 15) (q : FitX c C K f) (tt A B Cc : Nat) (w : World) :
    Calls Tryd.prog 38 #[cfv c, frv f, cvT tt A B Cc] w (Ret2 (frv (behindX c f A B).1) (.bool (behindX c f A B).2) w) := by
  have c2 := s.c2
  have k2 := s.k2
  have n2 := s.n2
  have t4 := topX_le c
  obtain ⟨qk5, qn, qp, qj, qh, qa, qb, qx, qy, qi1, qi6, qi14, qi11, qn15, qk4⟩ := q
  rw [bh_15 hpc]
  have h1n := qn15 hpc
  obtain ⟨X, hX⟩ : ∃ X, ({ f with n := f.n - 1, pc := 8 }, false) = X := ⟨_, rfl⟩
  rw [hX]
  unfold cfv frv cvT at *
  rw [s.cap, s.node] at *
  clear s
  obtain ⟨t', k, seq, kind, a, b, pc, i, j, n, p, h, x, y⟩ := f
  simp only at *
  obtain rfl : pc = 15 := hpc
  subst hX
  rw [show ((15 : Nat) : Int) = 15 from rfl] at *
  obtain ⟨m, rfl⟩ : ∃ m, n = m + 1 := ⟨n - 1, by omega⟩
  rw [Nat.add_sub_cancel]
  have p1 : IntKind.u8.wrap (((m + 1 : Nat) : Int) - 1) = (m : Int) := by rw [IntKind.wrap_u8]; omega
  go_enter Tryd.func38, Tryd.ntmps38
  go_upto_region 1 with fail
  refine enter4 fun W hb g0 g1 g2 g3 _ _ _ _ => ?_
  obtain ⟨r0, r1, r2, r3, r4, r5, r6, r7, r8, r9, r10, r11⟩ := cl12 g0
  obtain ⟨k0, y0, k1, y1, k2, y2, k3, y3, k4, y4, k5, y5, k6, y6, k7, y7, k8, y8, k9, y9, k10, y10⟩ := cells11 g1
  obtain ⟨c0, c1, c2, c3⟩ := cells4p g2
  obtain ⟨u0, v0, u1, v1, u2, v2, u3, v3, u4, v4, u5, v5, u6, v6, u7, v7, u8, v8, u9, v9, u10, v10⟩ := cells11 g3
  have q0 := (Array.getElem?_eq_some_iff.1 g0).1
  have q1 := (Array.getElem?_eq_some_iff.1 g1).1
  have q2 := (Array.getElem?_eq_some_iff.1 g2).1
  have q3 := (Array.getElem?_eq_some_iff.1 g3).1
  go_upto_region 50 with fail
  refine entSet g1 rfl fun W2 G1 o2 => ?_
  replace g0 := only_blk o2 g0 (by omega)
  replace g2 := only_blk o2 g2 (by omega)
  replace g3 := only_blk o2 g3 (by omega)
  replace hb := Only.then_below (Nat.le_refl _) hb o2 (fun k hk => by omega)
  clear g1 o2
  have g1 := G1
  clear G1
  clear r0 r1 r2 r3 r4 r5 r6 r7 r8 r9 r10 r11 k0 y0 k1 y1 k2 y2 k3 y3 k4 y4 k5 y5 k6 y6 k7 y7 k8 y8 k9 y9 k10 y10 u0 v0 u1 v1 u2 v2 u3 v3 u4 v4 u5 v5 u6 v6 u7 v7 u8 v8 u9 v9 u10 v10 c0 c1 c2 c3 q0 q1 q2 q3
  obtain ⟨r0, r1, r2, r3, r4, r5, r6, r7, r8, r9, r10, r11⟩ := cl12 g0
  obtain ⟨k0, y0, k1, y1, k2, y2, k3, y3, k4, y4, k5, y5, k6, y6, k7, y7, k8, y8, k9, y9, k10, y10⟩ := cells11 g1
  obtain ⟨c0, c1, c2, c3⟩ := cells4p g2
  obtain ⟨u0, v0, u1, v1, u2, v2, u3, v3, u4, v4, u5, v5, u6, v6, u7, v7, u8, v8, u9, v9, u10, v10⟩ := cells11 g3
  have q0 := (Array.getElem?_eq_some_iff.1 g0).1
  have q1 := (Array.getElem?_eq_some_iff.1 g1).1
  have q2 := (Array.getElem?_eq_some_iff.1 g2).1
  have q3 := (Array.getElem?_eq_some_iff.1 g3).1
  go_wp2_with (go_at_call 77; refine (rAtI _ _ _ _ _ _ _ _ _ _ _ _ _).mono ?_; rintro e w6 ⟨rfl, hb6⟩; have HB := Lib.hid (below_then hb hb6); have g4 := blk_below g3 hb6; clear u0 v0 u1 v1 u2 v2 u3 v3 u4 v4 u5 v5 u6 v6 u7 v7 u8 v8 u9 v9 u10 v10; obtain ⟨u0, v0, u1, v1, u2, v2, u3, v3, u4, v4, u5, v5, u6, v6, u7, v7, u8, v8, u9, v9, u10, v10⟩ := cells11 g4; clear g4 hb6)
  refine bodyPost_ret ?_ rfl ⟨rfl, ?_⟩
  · simp [results, Tryd.results38, go_sem, u0, u1, u2, u3, u4, u5, u6, u7, u8, u9, u10]
  · (repeat' (first | with_reducible exact HB.out | (with_reducible refine Below.setCell ?_ ?_ _))) <;> (simp; try omega)

set_option maxRecDepth 100000 in
set_option maxHeartbeats 16000000 in
theorem rBeh_16 {c : Cf} {C N K : Nat} (s : SzX c C N K) (f : Ds) (hpc : f.pc = 16) (q : FitX c C K f) (tt A B Cc : Nat) (w : World) :
    Calls Tryd.prog 38 #[cfv c, frv f, cvT tt A B Cc] w (Ret2 (frv (behindX c f A B).1) (.bool (behindX c f A B).2) w) := by
  have c2 := s.c2
  have k2 := s.k2
  have n2 := s.n2
  have t4 := topX_le c
  obtain ⟨qk5, qn, qp, qj, qh, qa, qb, qx, qy, qi1, qi6, qi14, qi11, qn15, qk4⟩ := q
  rw [bh_16 hpc]
  have HC := Lib.hid (fun W => rNextOne_any { f with j := 0 } (by show f.p < 255; omega) (by show f.n < 256; omega) W)
  obtain ⟨Y, hY⟩ : ∃ R, nextOne { f with j := 0 } = R := ⟨_, rfl⟩
  rw [hY] at HC ⊢
  clear hY
  obtain ⟨X, hX⟩ : ∃ X, (Y, false) = X := ⟨_, rfl⟩
  rw [hX]
  unfold cfv frv cvT at *
  rw [s.cap, s.node] at *
  clear s
  obtain ⟨t', k, seq, kind, a, b, pc, i, j, n, p, h, x, y⟩ := f
  simp only at *
  obtain rfl : pc = 16 := hpc
  subst hX
  rw [show ((16 : Nat) : Int) = 16 from rfl] at *
  go_enter Tryd.func38, Tryd.ntmps38
  go_upto_region 1 with fail
  refine enter4 fun W hb g0 g1 g2 g3 _ _ _ _ => ?_
  obtain ⟨r0, r1, r2, r3, r4, r5, r6, r7, r8, r9, r10, r11⟩ := cl12 g0
  obtain ⟨k0, y0, k1, y1, k2, y2, k3, y3, k4, y4, k5, y5, k6, y6, k7, y7, k8, y8, k9, y9, k10, y10⟩ := cells11 g1
  obtain ⟨c0, c1, c2, c3⟩ := cells4p g2
  obtain ⟨u0, v0, u1, v1, u2, v2, u3, v3, u4, v4, u5, v5, u6, v6, u7, v7, u8, v8, u9, v9, u10, v10⟩ := cells11 g3
  have q0 := (Array.getElem?_eq_some_iff.1 g0).1
  have q1 := (Array.getElem?_eq_some_iff.1 g1).1
  have q2 := (Array.getElem?_eq_some_iff.1 g2).1
  have q3 := (Array.getElem?_eq_some_iff.1 g3).1
  go_upto_region 53 with fail
  refine entSet g1 rfl fun W2 G1 o2 => ?_
  replace g0 := only_blk o2 g0 (by omega)
  replace g2 := only_blk o2 g2 (by omega)
  replace g3 := only_blk o2 g3 (by omega)
  replace hb := Only.then_below (Nat.le_refl _) hb o2 (fun k hk => by omega)
  clear g1 o2
  have g1 := G1
  clear G1
  clear r0 r1 r2 r3 r4 r5 r6 r7 r8 r9 r10 r11 k0 y0 k1 y1 k2 y2 k3 y3 k4 y4 k5 y5 k6 y6 k7 y7 k8 y8 k9 y9 k10 y10 u0 v0 u1 v1 u2 v2 u3 v3 u4 v4 u5 v5 u6 v6 u7 v7 u8 v8 u9 v9 u10 v10 c0 c1 c2 c3 q0 q1 q2 q3
  obtain ⟨r0, r1, r2, r3, r4, r5, r6, r7, r8, r9, r10, r11⟩ := cl12 g0
  obtain ⟨k0, y0, k1, y1, k2, y2, k3, y3, k4, y4, k5, y5, k6, y6, k7, y7, k8, y8, k9, y9, k10, y10⟩ := cells11 g1
  obtain ⟨c0, c1, c2, c3⟩ := cells4p g2
  obtain ⟨u0, v0, u1, v1, u2, v2, u3, v3, u4, v4, u5, v5, u6, v6, u7, v7, u8, v8, u9, v9, u10, v10⟩ := cells11 g3
  have q0 := (Array.getElem?_eq_some_iff.1 g0).1
  have q1 := (Array.getElem?_eq_some_iff.1 g1).1
  have q2 := (Array.getElem?_eq_some_iff.1 g2).1
  have q3 := (Array.getElem?_eq_some_iff.1 g3).1
  go_wp2_with (go_at_call 82; refine (HC.out _).mono ?_; rintro e w6 ⟨rfl, hb6⟩; have HB := Lib.hid (below_then hb hb6); have g4 := blk_below g3 hb6; clear u0 v0 u1 v1 u2 v2 u3 v3 u4 v4 u5 v5 u6 v6 u7 v7 u8 v8 u9 v9 u10 v10; obtain ⟨u0, v0, u1, v1, u2, v2, u3, v3, u4, v4, u5, v5, u6, v6, u7, v7, u8, v8, u9, v9, u10, v10⟩ := cells11 g4; clear g4 hb6)
  refine bodyPost_ret ?_ rfl ⟨rfl, ?_⟩
  · simp [results, Tryd.results38, go_sem, u0, u1, u2, u3, u4, u5, u6, u7, u8, u9, u10]
  · (repeat' (first | with_reducible exact HB.out | (with_reducible refine Below.setCell ?_ ?_ _))) <;> (simp; try omega)

set_option maxRecDepth 100000 in
set_option maxHeartbeats 16000000 in
theorem rBeh_17 {c : Cf} {C N K : Nat} (s : SzX c C N K) (f : Ds) (hpc : f.pc = 17) (q : FitX c C K f) (tt A B Cc : Nat) (w : World) :
    Calls Tryd.prog 38 #[cfv c, frv f, cvT tt A B Cc] w (Ret2 (frv (behindX c f A B).1) (.bool (behindX c f A B).2) w) := by
  have c2 := s.c2
  have k2 := s.k2
  have n2 := s.n2
  have t4 := topX_le c
  obtain ⟨qk5, qn, qp, qj, qh, qa, qb, qx, qy, qi1, qi6, qi14, qi11, qn15, qk4⟩ := q
  rw [bh_17 hpc]
  have HOV := Lib.hid (fun W => rOverX_any f tt A B Cc W)
  have HC := Lib.hid (fun W => rOnX_any c (overX f A B) (by simp only [overX]; omega) (by simp only [overX]; omega) (by simp only [overX]; omega) W)
  obtain ⟨O, hO⟩ : ∃ R, overX f A B = R := ⟨_, rfl⟩
  rw [hO] at HOV HC ⊢
  obtain ⟨⟨Y, bo⟩, hY⟩ : ∃ R, onX c O = R := ⟨_, rfl⟩
  rw [hY] at HC ⊢
  clear hY hO
  obtain ⟨X, hX⟩ : ∃ X, (Y, bo) = X := ⟨_, rfl⟩
  rw [hX]
  unfold cfv frv cvT at *
  rw [s.cap, s.node] at *
  clear s
  obtain ⟨t', k, seq, kind, a, b, pc, i, j, n, p, h, x, y⟩ := f
  simp only at *
  obtain rfl : pc = 17 := hpc
  subst hX
  rw [show ((17 : Nat) : Int) = 17 from rfl] at *
  go_enter Tryd.func38, Tryd.ntmps38
  go_upto_region 1 with fail
  refine enter4 fun W hb g0 g1 g2 g3 _ _ _ _ => ?_
  obtain ⟨r0, r1, r2, r3, r4, r5, r6, r7, r8, r9, r10, r11⟩ := cl12 g0
  obtain ⟨k0, y0, k1, y1, k2, y2, k3, y3, k4, y4, k5, y5, k6, y6, k7, y7, k8, y8, k9, y9, k10, y10⟩ := cells11 g1
  obtain ⟨c0, c1, c2, c3⟩ := cells4p g2
  obtain ⟨u0, v0, u1, v1, u2, v2, u3, v3, u4, v4, u5, v5, u6, v6, u7, v7, u8, v8, u9, v9, u10, v10⟩ := cells11 g3
  have q0 := (Array.getElem?_eq_some_iff.1 g0).1
  have q1 := (Array.getElem?_eq_some_iff.1 g1).1
  have q2 := (Array.getElem?_eq_some_iff.1 g2).1
  have q3 := (Array.getElem?_eq_some_iff.1 g3).1
  go_wp2_with fail
  refine wp_region_tail_reads 7 (by kernel_rfl) (by kernel_rfl) fun HR => ?_
  simp only [List.take_succ_cons, List.take_zero, List.drop_succ_cons, List.drop_zero]
  repeat (go_big_quiet_step (first | with_reducible exact Calls.regrown_of (HOV.out _) | with_reducible exact Calls.regrown_of (HC.out _)))
  refine wpQuiet_nil ?_
  intro W3 hw'
  obtain ⟨⟨dq, osq⟩, hw''⟩ := hw'
  have hb3 : Below W.heap.size W W3 := by rw [hw'']; exact below_regrown _ dq osq
  clear hw'' HR dq osq
  clear r0 r1 r2 r3 r4 r5 r6 r7 r8 r9 r10 r11 k0 y0 k1 y1 k2 y2 k3 y3 k4 y4 k5 y5 k6 y6 k7 y7 k8 y8 k9 y9 k10 y10 u0 v0 u1 v1 u2 v2 u3 v3 u4 v4 u5 v5 u6 v6 u7 v7 u8 v8 u9 v9 u10 v10 c0 c1 c2 c3 q0 q1 q2 q3
  replace g0 := blk_below g0 hb3
  replace g1 := blk_below g1 hb3
  replace g2 := blk_below g2 hb3
  replace g3 := blk_below g3 hb3
  have HB := Lib.hid (below_then hb hb3)
  obtain ⟨r0, r1, r2, r3, r4, r5, r6, r7, r8, r9, r10, r11⟩ := cl12 g0
  obtain ⟨k0, y0, k1, y1, k2, y2, k3, y3, k4, y4, k5, y5, k6, y6, k7, y7, k8, y8, k9, y9, k10, y10⟩ := cells11 g1
  obtain ⟨c0, c1, c2, c3⟩ := cells4p g2
  obtain ⟨u0, v0, u1, v1, u2, v2, u3, v3, u4, v4, u5, v5, u6, v6, u7, v7, u8, v8, u9, v9, u10, v10⟩ := cells11 g3
  have q0 := (Array.getElem?_eq_some_iff.1 g0).1
  have q1 := (Array.getElem?_eq_some_iff.1 g1).1
  have q2 := (Array.getElem?_eq_some_iff.1 g2).1
  have q3 := (Array.getElem?_eq_some_iff.1 g3).1
  go_wp2_with fail
  refine bodyPost_ret ?_ rfl ⟨rfl, ?_⟩
  · simp [results, Tryd.results38, go_sem, u0, u1, u2, u3, u4, u5, u6, u7, u8, u9, u10]
  · (repeat' (first | with_reducible exact HB.out | (with_reducible refine Below.setCell ?_ ?_ _))) <;> (simp; try omega)

set_option maxRecDepth 100000 in
set_option maxHeartbeats 16000000 in
theorem rBeh_20 {c : Cf} {C N K : Nat} (s : SzX c C N K) (f : Ds) (hpc : 20 ≤ f.pc ∧ f.pc ≤ 25) (q : FitX c C K f) (tt A B Cc : Nat) (w : World) :
    Calls Tryd.prog 38 #[cfv c, frv f, cvT tt A B Cc] w (Ret2 (frv (behindX c f A B).1) (.bool (behindX c f A B).2) w) := by
  have c2 := s.c2
  have k2 := s.k2
  have n2 := s.n2
  have t4 := topX_le c
  obtain ⟨qk5, qn, qp, qj, qh, qa, qb, qx, qy, qi1, qi6, qi14, qi11, qn15, qk4⟩ := q
  rw [show behindX c f A B = (f, false) from by unfold behindX; (repeat rw [if_neg (by omega)])]
  obtain ⟨X, hX⟩ : ∃ X, (f, false) = X := ⟨_, rfl⟩
  rw [hX]
  unfold cfv frv cvT at *
  rw [s.cap, s.node] at *
  clear s
  obtain ⟨t', k, seq, kind, a, b, pc, i, j, n, p, h, x, y⟩ := f
  simp only at *
  subst hX
  obtain ⟨p20, p25⟩ := hpc
  have hp6 : pc = 20 ∨ pc = 21 ∨ pc = 22 ∨ pc = 23 ∨ pc = 24 ∨ pc = 25 := by omega
  clear p20 p25 qi1 qi6 qi14 qi11 qn15 qk4
  rcases hp6 with rfl | rfl | rfl | rfl | rfl | rfl
  · rw [show ((20 : Nat) : Int) = 20 from rfl] at *
    go_enter Tryd.func38, Tryd.ntmps38
    go_upto_region 1 with fail
    refine enter4 fun W hb g0 g1 g2 g3 _ _ _ _ => ?_
    obtain ⟨r0, r1, r2, r3, r4, r5, r6, r7, r8, r9, r10, r11⟩ := cl12 g0
    obtain ⟨k0, y0, k1, y1, k2, y2, k3, y3, k4, y4, k5, y5, k6, y6, k7, y7, k8, y8, k9, y9, k10, y10⟩ := cells11 g1
    obtain ⟨c0, c1, c2, c3⟩ := cells4p g2
    obtain ⟨u0, v0, u1, v1, u2, v2, u3, v3, u4, v4, u5, v5, u6, v6, u7, v7, u8, v8, u9, v9, u10, v10⟩ := cells11 g3
    have q0 := (Array.getElem?_eq_some_iff.1 g0).1
    have q1 := (Array.getElem?_eq_some_iff.1 g1).1
    have q2 := (Array.getElem?_eq_some_iff.1 g2).1
    have q3 := (Array.getElem?_eq_some_iff.1 g3).1
    have HB := Lib.hid hb
    go_wp2_with fail
    refine bodyPost_ret ?_ rfl ⟨rfl, ?_⟩
    · simp [results, Tryd.results38, go_sem, u0, u1, u2, u3, u4, u5, u6, u7, u8, u9, u10]
    · (repeat' (first | with_reducible exact HB.out | (with_reducible refine Below.setCell ?_ ?_ _))) <;> (simp; try omega)
  · rw [show ((21 : Nat) : Int) = 21 from rfl] at *
    go_enter Tryd.func38, Tryd.ntmps38
    go_upto_region 1 with fail
    refine enter4 fun W hb g0 g1 g2 g3 _ _ _ _ => ?_
    obtain ⟨r0, r1, r2, r3, r4, r5, r6, r7, r8, r9, r10, r11⟩ := cl12 g0
    obtain ⟨k0, y0, k1, y1, k2, y2, k3, y3, k4, y4, k5, y5, k6, y6, k7, y7, k8, y8, k9, y9, k10, y10⟩ := cells11 g1
    obtain ⟨c0, c1, c2, c3⟩ := cells4p g2
    obtain ⟨u0, v0, u1, v1, u2, v2, u3, v3, u4, v4, u5, v5, u6, v6, u7, v7, u8, v8, u9, v9, u10, v10⟩ := cells11 g3
    have q0 := (Array.getElem?_eq_some_iff.1 g0).1
    have q1 := (Array.getElem?_eq_some_iff.1 g1).1
    have q2 := (Array.getElem?_eq_some_iff.1 g2).1
    have q3 := (Array.getElem?_eq_some_iff.1 g3).1
    have HB := Lib.hid hb
    go_wp2_with fail
    refine bodyPost_ret ?_ rfl ⟨rfl, ?_⟩
    · simp [results, Tryd.results38, go_sem, u0, u1, u2, u3, u4, u5, u6, u7, u8, u9, u10]
    · (repeat' (first | with_reducible exact HB.out | (with_reducible refine Below.setCell ?_ ?_ _))) <;> (simp; try omega)
  · rw [show ((22 : Nat) : Int) = 22 from rfl] at *
    go_enter Tryd.func38, Tryd.ntmps38
    go_upto_region 1 with fail
    refine enter4 fun W hb g0 g1 g2 g3 _ _ _ _ => ?_
    obtain ⟨r0, r1, r2, r3, r4, r5, r6, r7, r8, r9, r10, r11⟩ := cl12 g0
    obtain ⟨k0, y0, k1, y1, k2, y2, k3, y3, k4, y4, k5, y5, k6, y6, k7, y7, k8, y8, k9, y9, k10, y10⟩ := cells11 g1
    obtain ⟨c0, c1, c2, c3⟩ := cells4p g2
    obtain ⟨u0, v0, u1, v1, u2, v2, u3, v3, u4, v4, u5, v5, u6, v6, u7, v7, u8, v8, u9, v9, u10, v10⟩ := cells11 g3
    have q0 := (Array.getElem?_eq_some_iff.1 g0).1
    have q1 := (Array.getElem?_eq_some_iff.1 g1).1
    have q2 := (Array.getElem?_eq_some_iff.1 g2).1
    have q3 := (Array.getElem?_eq_some_iff.1 g3).1
    have HB := Lib.hid hb
    go_wp2_with fail
    refine bodyPost_ret ?_ rfl ⟨rfl, ?_⟩
    · simp [results, Tryd.results38, go_sem, u0, u1, u2, u3, u4, u5, u6, u7, u8, u9, u10]
    · (repeat' (first | with_reducible exact HB.out | (with_reducible refine Below.setCell ?_ ?_ _))) <;> (simp; try omega)
  · rw [show ((23 : Nat) : Int) = 23 from rfl] at *
    go_enter Tryd.func38, Tryd.ntmps38
    go_upto_region 1 with fail
    refine enter4 fun W hb g0 g1 g2 g3 _ _ _ _ => ?_
    obtain ⟨r0, r1, r2, r3, r4, r5, r6, r7, r8, r9, r10, r11⟩ := cl12 g0
    obtain ⟨k0, y0, k1, y1, k2, y2, k3, y3, k4, y4, k5, y5, k6, y6, k7, y7, k8, y8, k9, y9, k10, y10⟩ := cells11 g1
    obtain ⟨c0, c1, c2, c3⟩ := cells4p g2
    obtain ⟨u0, v0, u1, v1, u2, v2, u3, v3, u4, v4, u5, v5, u6, v6, u7, v7, u8, v8, u9, v9, u10, v10⟩ := cells11 g3
    have q0 := (Array.getElem?_eq_some_iff.1 g0).1
    have q1 := (Array.getElem?_eq_some_iff.1 g1).1
    have q2 := (Array.getElem?_eq_some_iff.1 g2).1
    have q3 := (Array.getElem?_eq_some_iff.1 g3).1
    have HB := Lib.hid hb
    go_wp2_with fail
    refine bodyPost_ret ?_ rfl ⟨rfl, ?_⟩
    · simp [results, Tryd.results38, go_sem, u0, u1, u2, u3, u4, u5, u6, u7, u8, u9, u10]
    · (repeat' (first | with_reducible exact HB.out | (with_reducible refine Below.setCell ?_ ?_ _))) <;> (simp; try omega)
  · rw [show ((24 : Nat) : Int) = 24 from rfl] at *
    go_enter Tryd.func38, Tryd.ntmps38
    go_upto_region 1 with fail
    refine enter4 fun W hb g0 g1 g2 g3 _ _ _ _ => ?_
    obtain ⟨r0, r1, r2, r3, r4, r5, r6, r7, r8, r9, r10, r11⟩ := cl12 g0
    obtain ⟨k0, y0, k1, y1, k2, y2, k3, y3, k4, y4, k5, y5, k6, y6, k7, y7, k8, y8, k9, y9, k10, y10⟩ := cells11 g1
    obtain ⟨c0, c1, c2, c3⟩ := cells4p g2
    obtain ⟨u0, v0, u1, v1, u2, v2, u3, v3, u4, v4, u5, v5, u6, v6, u7, v7, u8, v8, u9, v9, u10, v10⟩ := cells11 g3
    have q0 := (Array.getElem?_eq_some_iff.1 g0).1
    have q1 := (Array.getElem?_eq_some_iff.1 g1).1
    have q2 := (Array.getElem?_eq_some_iff.1 g2).1
    have q3 := (Array.getElem?_eq_some_iff.1 g3).1
    have HB := Lib.hid hb
    go_wp2_with fail
    refine bodyPost_ret ?_ rfl ⟨rfl, ?_⟩
    · simp [results, Tryd.results38, go_sem, u0, u1, u2, u3, u4, u5, u6, u7, u8, u9, u10]
    · (repeat' (first | with_reducible exact HB.out | (with_reducible refine Below.setCell ?_ ?_ _))) <;> (simp; try omega)
  · rw [show ((25 : Nat) : Int) = 25 from rfl] at *
    go_enter Tryd.func38, Tryd.ntmps38
    go_upto_region 1 with fail
    refine enter4 fun W hb g0 g1 g2 g3 _ _ _ _ => ?_
    obtain ⟨r0, r1, r2, r3, r4, r5, r6, r7, r8, r9, r10, r11⟩ := cl12 g0
    obtain ⟨k0, y0, k1, y1, k2, y2, k3, y3, k4, y4, k5, y5, k6, y6, k7, y7, k8, y8, k9, y9, k10, y10⟩ := cells11 g1
    obtain ⟨c0, c1, c2, c3⟩ := cells4p g2
    obtain ⟨u0, v0, u1, v1, u2, v2, u3, v3, u4, v4, u5, v5, u6, v6, u7, v7, u8, v8, u9, v9, u10, v10⟩ := cells11 g3
    have q0 := (Array.getElem?_eq_some_iff.1 g0).1
    have q1 := (Array.getElem?_eq_some_iff.1 g1).1
    have q2 := (Array.getElem?_eq_some_iff.1 g2).1
    have q3 := (Array.getElem?_eq_some_iff.1 g3).1
    have HB := Lib.hid hb
    go_wp2_with fail
    refine bodyPost_ret ?_ rfl ⟨rfl, ?_⟩
    · simp [results, Tryd.results38, go_sem, u0, u1, u2, u3, u4, u5, u6, u7, u8, u9, u10]
    · (repeat' (first | with_reducible exact HB.out | (with_reducible refine Below.setCell ?_ ?_ _))) <;> (simp; try omega)
end Go.Proofs.YtmkehailohgebaaDoor
