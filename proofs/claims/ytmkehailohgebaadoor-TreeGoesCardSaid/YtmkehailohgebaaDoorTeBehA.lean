/- What becomes of a frame of an index: the document's own, Pc by Pc. -/
import Derived.Test.YtmkehailohgebaaDoorTeItem
import Derived.Test.YtmkehailohgebaaDoorFitX
import Derived.Test.YtmkehailohgebaaDoorBks
namespace Go.Proofs.YtmkehailohgebaaDoor
open Go.RowKit Go.Lib Pt Opn

set_option maxRecDepth 100000 in
set_option maxHeartbeats 16000000 in
theorem rBeh_0 {c : Cf} {C N K : Nat} (s : SzX c C N K) (f : Ds) (hpc : f.pc = 0) (q : FitX c C K f) (tt A B Cc : Nat) (w : World) :
    Calls Tryd.prog 38 #[cfv c, frv f, cvT tt A B Cc] w (Ret2 (frv (behindX c f A B).1) (.bool (behindX c f A B).2) w) := by
  have c2 := s.c2
  have k2 := s.k2
  have n2 := s.n2
  have t4 := topX_le c
  obtain ⟨qk5, qn, qp, qj, qh, qa, qb, qx, qy, qi1, qi6, qi14, qi11, qn15, qk4⟩ := q
  rw [bh_0 hpc]
  have HT := Lib.hid (fun W => rTopX_any s W)
  have HNO := Lib.hid (fun W => rNoneX_any c { f with n := 0 } (by simp) W)
  have hcap : c.cap.toNat = C := s.cap'
  have sc := s.cap
  have c1 := s.c1
  obtain ⟨X, hX⟩ : ∃ X, (headX c f A, false) = X := ⟨_, rfl⟩
  rw [hX]
  unfold headX at hX
  rw [hcap, sc] at hX
  obtain ⟨Y, hY⟩ : ∃ R, noneX c { f with n := 0 } = R := ⟨_, rfl⟩
  clear sc
  generalize topX c = T at *
  unfold cfv frv cvT at *
  rw [s.cap, s.node] at *
  clear s
  obtain ⟨t', k, seq, kind, a, b, pc, i, j, n, p, h, x, y⟩ := f
  simp only at *
  obtain rfl : pc = 0 := hpc
  have a1 : IntKind.u8.wrap (C : Int) = (C : Int) := by rw [IntKind.wrap_u8]; omega
  have a2 : IntKind.u64.wrap (C : Int) = (C : Int) := by rw [IntKind.wrap_u64]; omega
  have a3 : IntKind.u8.wrap (T : Int) = (T : Int) := by rw [IntKind.wrap_u8]; omega
  by_cases e1 : C ≤ A
  · have hA : (if (A : Int) < (C : Int) then A else C) = C := by split <;> omega
    simp only [hA] at hX
    rw [if_neg (by omega)] at hX
    subst hX
    have e2 : ((C : Int) == 0) = false := by simp; omega
    have e3 : ¬ (A : Int) < (C : Int) := by omega
    clear e1 hY HNO
    rw [show ((0 : Nat) : Int) = 0 from rfl] at *
    go_enter Tryd.func38, Tryd.ntmps38
    go_upto_region 1 with fail
    refine enter4 fun W hb g0 g1 g2 g3 _ _ _ _ => ?_
    obtain ⟨r0, r1, r2, r3, r4, r5, r6, r7, r8, r9, r10, r11⟩ := cl12 g0
    obtain ⟨k0, y0, k1, y1, k2, y2, k3, y3, k4, y4, k5, y5, k6, y6, k7, y7, k8, y8, k9, y9, k10, y10⟩ := cells11 g1
    obtain ⟨c0, c1, c2, c3⟩ := cells4p g2
    obtain ⟨u0, v0, u1, v1, u2, v2, u3, v3, u4, v4, u5, v5, u6, v6, u7, v7, u8, v8, u9, v9, u10, v10⟩ := cells11 g3
    have q0 := (Array.getElem?_eq_some_iff.1 g0).1
    have q1 := (Array.getElem?_eq_some_iff.1 g1).1
    have q2 := (Array.getElem?_eq_some_iff.1 g2).1
    have q3 := (Array.getElem?_eq_some_iff.1 g3).1
    go_upto_region 4 with fail
    refine entSet g1 rfl fun W2 G1 o2 => ?_
    replace g0 := only_blk o2 g0 (by omega)
    replace g2 := only_blk o2 g2 (by omega)
    replace g3 := only_blk o2 g3 (by omega)
    replace hb := Only.then_below (Nat.le_refl _) hb o2 (fun k hk => by omega)
    clear g1 o2
    have g1 := G1
    clear G1
    clear r0 r1 r2 r3 r4 r5 r6 r7 r8 r9 r10 r11 k0 y0 k1 y1 k2 y2 k3 y3 k4 y4 k5 y5 k6 y6 k7 y7 k8 y8 k9 y9 k10 y10 u0 v0 u1 v1 u2 v2 u3 v3 u4 v4 u5 v5 u6 v6 u7 v7 u8 v8 u9 v9 u10 v10 c0 c1 c2 c3 q0 q1 q2 q3
    obtain ⟨r0, r1, r2, r3, r4, r5, r6, r7, r8, r9, r10, r11⟩ := cl12 g0
    obtain ⟨k0, y0, k1, y1, k2, y2, k3, y3, k4, y4, k5, y5, k6, y6, k7, y7, k8, y8, k9, y9, k10, y10⟩ := cells11 g1
    obtain ⟨c0, c1, c2, c3⟩ := cells4p g2
    obtain ⟨u0, v0, u1, v1, u2, v2, u3, v3, u4, v4, u5, v5, u6, v6, u7, v7, u8, v8, u9, v9, u10, v10⟩ := cells11 g3
    have q0 := (Array.getElem?_eq_some_iff.1 g0).1
    have q1 := (Array.getElem?_eq_some_iff.1 g1).1
    have q2 := (Array.getElem?_eq_some_iff.1 g2).1
    have q3 := (Array.getElem?_eq_some_iff.1 g3).1
    go_upto_region 9 with (go_at_call 18; refine (HT.out _).mono ?_; rintro e w5 ⟨rfl, hb5⟩; replace hb := below_then hb hb5; replace g0 := blk_below g0 hb5; replace g1 := blk_below g1 hb5; replace g2 := blk_below g2 hb5; replace g3 := blk_below g3 hb5; clear hb5; clear r0 r1 r2 r3 r4 r5 r6 r7 r8 r9 r10 r11 k0 y0 k1 y1 k2 y2 k3 y3 k4 y4 k5 y5 k6 y6 k7 y7 k8 y8 k9 y9 k10 y10 u0 v0 u1 v1 u2 v2 u3 v3 u4 v4 u5 v5 u6 v6 u7 v7 u8 v8 u9 v9 u10 v10 c0 c1 c2 c3 q0 q1 q2 q3; obtain ⟨r0, r1, r2, r3, r4, r5, r6, r7, r8, r9, r10, r11⟩ := cl12 g0; obtain ⟨k0, y0, k1, y1, k2, y2, k3, y3, k4, y4, k5, y5, k6, y6, k7, y7, k8, y8, k9, y9, k10, y10⟩ := cells11 g1; obtain ⟨c0, c1, c2, c3⟩ := cells4p g2; obtain ⟨u0, v0, u1, v1, u2, v2, u3, v3, u4, v4, u5, v5, u6, v6, u7, v7, u8, v8, u9, v9, u10, v10⟩ := cells11 g3; have q0 := (Array.getElem?_eq_some_iff.1 g0).1; have q1 := (Array.getElem?_eq_some_iff.1 g1).1; have q2 := (Array.getElem?_eq_some_iff.1 g2).1; have q3 := (Array.getElem?_eq_some_iff.1 g3).1)
    refine entSet g1 rfl fun W4 G1 o4 => ?_
    replace g0 := only_blk o4 g0 (by omega)
    replace g2 := only_blk o4 g2 (by omega)
    replace g3 := only_blk o4 g3 (by omega)
    replace hb := Only.then_below (Nat.le_refl _) hb o4 (fun k hk => by omega)
    clear g1 o4
    have g1 := G1
    clear G1
    clear r0 r1 r2 r3 r4 r5 r6 r7 r8 r9 r10 r11 k0 y0 k1 y1 k2 y2 k3 y3 k4 y4 k5 y5 k6 y6 k7 y7 k8 y8 k9 y9 k10 y10 u0 v0 u1 v1 u2 v2 u3 v3 u4 v4 u5 v5 u6 v6 u7 v7 u8 v8 u9 v9 u10 v10 c0 c1 c2 c3 q0 q1 q2 q3
    obtain ⟨r0, r1, r2, r3, r4, r5, r6, r7, r8, r9, r10, r11⟩ := cl12 g0
    obtain ⟨k0, y0, k1, y1, k2, y2, k3, y3, k4, y4, k5, y5, k6, y6, k7, y7, k8, y8, k9, y9, k10, y10⟩ := cells11 g1
    obtain ⟨c0, c1, c2, c3⟩ := cells4p g2
    obtain ⟨u0, v0, u1, v1, u2, v2, u3, v3, u4, v4, u5, v5, u6, v6, u7, v7, u8, v8, u9, v9, u10, v10⟩ := cells11 g3
    have q0 := (Array.getElem?_eq_some_iff.1 g0).1
    have q1 := (Array.getElem?_eq_some_iff.1 g1).1
    have q2 := (Array.getElem?_eq_some_iff.1 g2).1
    have q3 := (Array.getElem?_eq_some_iff.1 g3).1
    go_upto_region 10 with fail
    refine entSet g1 rfl fun W5 G1 o5 => ?_
    replace g0 := only_blk o5 g0 (by omega)
    replace g2 := only_blk o5 g2 (by omega)
    replace g3 := only_blk o5 g3 (by omega)
    replace hb := Only.then_below (Nat.le_refl _) hb o5 (fun k hk => by omega)
    clear g1 o5
    have g1 := G1
    clear G1
    clear r0 r1 r2 r3 r4 r5 r6 r7 r8 r9 r10 r11 k0 y0 k1 y1 k2 y2 k3 y3 k4 y4 k5 y5 k6 y6 k7 y7 k8 y8 k9 y9 k10 y10 u0 v0 u1 v1 u2 v2 u3 v3 u4 v4 u5 v5 u6 v6 u7 v7 u8 v8 u9 v9 u10 v10 c0 c1 c2 c3 q0 q1 q2 q3
    obtain ⟨r0, r1, r2, r3, r4, r5, r6, r7, r8, r9, r10, r11⟩ := cl12 g0
    obtain ⟨k0, y0, k1, y1, k2, y2, k3, y3, k4, y4, k5, y5, k6, y6, k7, y7, k8, y8, k9, y9, k10, y10⟩ := cells11 g1
    obtain ⟨c0, c1, c2, c3⟩ := cells4p g2
    obtain ⟨u0, v0, u1, v1, u2, v2, u3, v3, u4, v4, u5, v5, u6, v6, u7, v7, u8, v8, u9, v9, u10, v10⟩ := cells11 g3
    have q0 := (Array.getElem?_eq_some_iff.1 g0).1
    have q1 := (Array.getElem?_eq_some_iff.1 g1).1
    have q2 := (Array.getElem?_eq_some_iff.1 g2).1
    have q3 := (Array.getElem?_eq_some_iff.1 g3).1
    go_wp2_with (go_at_call 77; refine (rAtI _ _ _ _ _ _ _ _ _ _ _ _ _).mono ?_; rintro e w6 ⟨rfl, hb6⟩; have HB := Lib.hid (below_then hb hb6); have g4 := blk_below g3 hb6; clear u0 v0 u1 v1 u2 v2 u3 v3 u4 v4 u5 v5 u6 v6 u7 v7 u8 v8 u9 v9 u10 v10; obtain ⟨u0, v0, u1, v1, u2, v2, u3, v3, u4, v4, u5, v5, u6, v6, u7, v7, u8, v8, u9, v9, u10, v10⟩ := cells11 g4; clear g4 hb6)
    refine bodyPost_ret ?_ rfl ⟨rfl, ?_⟩
    · simp [results, Tryd.results38, go_sem, u0, u1, u2, u3, u4, u5, u6, u7, u8, u9, u10]
    · (repeat' (first | with_reducible exact HB.out | (with_reducible refine Below.setCell ?_ ?_ _))) <;> (simp; try omega)
  · have hA : (if (A : Int) < (C : Int) then A else C) = A := by split <;> omega
    simp only [hA] at hX
    have e3 : (A : Int) < (C : Int) := by omega
    have a4 : IntKind.u8.wrap (A : Int) = (A : Int) := by rw [IntKind.wrap_u8]; omega
    by_cases e4 : A = 0
    · subst e4
      rw [if_pos rfl, hY] at hX
      rw [hY] at HNO
      subst hX
      clear e1 hA hY
      rw [show ((0 : Nat) : Int) = 0 from rfl] at *
      go_enter Tryd.func38, Tryd.ntmps38
      go_upto_region 1 with fail
      refine enter4 fun W hb g0 g1 g2 g3 _ _ _ _ => ?_
      obtain ⟨r0, r1, r2, r3, r4, r5, r6, r7, r8, r9, r10, r11⟩ := cl12 g0
      obtain ⟨k0, y0, k1, y1, k2, y2, k3, y3, k4, y4, k5, y5, k6, y6, k7, y7, k8, y8, k9, y9, k10, y10⟩ := cells11 g1
      obtain ⟨c0, c1, c2, c3⟩ := cells4p g2
      obtain ⟨u0, v0, u1, v1, u2, v2, u3, v3, u4, v4, u5, v5, u6, v6, u7, v7, u8, v8, u9, v9, u10, v10⟩ := cells11 g3
      have q0 := (Array.getElem?_eq_some_iff.1 g0).1
      have q1 := (Array.getElem?_eq_some_iff.1 g1).1
      have q2 := (Array.getElem?_eq_some_iff.1 g2).1
      have q3 := (Array.getElem?_eq_some_iff.1 g3).1
      go_upto_region 4 with fail
      refine entSet g1 rfl fun W2 G1 o2 => ?_
      replace g0 := only_blk o2 g0 (by omega)
      replace g2 := only_blk o2 g2 (by omega)
      replace g3 := only_blk o2 g3 (by omega)
      replace hb := Only.then_below (Nat.le_refl _) hb o2 (fun k hk => by omega)
      clear g1 o2
      have g1 := G1
      clear G1
      clear r0 r1 r2 r3 r4 r5 r6 r7 r8 r9 r10 r11 k0 y0 k1 y1 k2 y2 k3 y3 k4 y4 k5 y5 k6 y6 k7 y7 k8 y8 k9 y9 k10 y10 u0 v0 u1 v1 u2 v2 u3 v3 u4 v4 u5 v5 u6 v6 u7 v7 u8 v8 u9 v9 u10 v10 c0 c1 c2 c3 q0 q1 q2 q3
      obtain ⟨r0, r1, r2, r3, r4, r5, r6, r7, r8, r9, r10, r11⟩ := cl12 g0
      obtain ⟨k0, y0, k1, y1, k2, y2, k3, y3, k4, y4, k5, y5, k6, y6, k7, y7, k8, y8, k9, y9, k10, y10⟩ := cells11 g1
      obtain ⟨c0, c1, c2, c3⟩ := cells4p g2
      obtain ⟨u0, v0, u1, v1, u2, v2, u3, v3, u4, v4, u5, v5, u6, v6, u7, v7, u8, v8, u9, v9, u10, v10⟩ := cells11 g3
      have q0 := (Array.getElem?_eq_some_iff.1 g0).1
      have q1 := (Array.getElem?_eq_some_iff.1 g1).1
      have q2 := (Array.getElem?_eq_some_iff.1 g2).1
      have q3 := (Array.getElem?_eq_some_iff.1 g3).1
      go_upto_region 6 with fail
      refine entSet g1 rfl fun W3 G1 o3 => ?_
      replace g0 := only_blk o3 g0 (by omega)
      replace g2 := only_blk o3 g2 (by omega)
      replace g3 := only_blk o3 g3 (by omega)
      replace hb := Only.then_below (Nat.le_refl _) hb o3 (fun k hk => by omega)
      clear g1 o3
      have g1 := G1
      clear G1
      clear r0 r1 r2 r3 r4 r5 r6 r7 r8 r9 r10 r11 k0 y0 k1 y1 k2 y2 k3 y3 k4 y4 k5 y5 k6 y6 k7 y7 k8 y8 k9 y9 k10 y10 u0 v0 u1 v1 u2 v2 u3 v3 u4 v4 u5 v5 u6 v6 u7 v7 u8 v8 u9 v9 u10 v10 c0 c1 c2 c3 q0 q1 q2 q3
      obtain ⟨r0, r1, r2, r3, r4, r5, r6, r7, r8, r9, r10, r11⟩ := cl12 g0
      obtain ⟨k0, y0, k1, y1, k2, y2, k3, y3, k4, y4, k5, y5, k6, y6, k7, y7, k8, y8, k9, y9, k10, y10⟩ := cells11 g1
      obtain ⟨c0, c1, c2, c3⟩ := cells4p g2
      obtain ⟨u0, v0, u1, v1, u2, v2, u3, v3, u4, v4, u5, v5, u6, v6, u7, v7, u8, v8, u9, v9, u10, v10⟩ := cells11 g3
      have q0 := (Array.getElem?_eq_some_iff.1 g0).1
      have q1 := (Array.getElem?_eq_some_iff.1 g1).1
      have q2 := (Array.getElem?_eq_some_iff.1 g2).1
      have q3 := (Array.getElem?_eq_some_iff.1 g3).1
      go_wp2_with (go_at_call 76; refine (HNO.out _).mono ?_; rintro e w6 ⟨rfl, hb6⟩; have HB := Lib.hid (below_then hb hb6); have g4 := blk_below g3 hb6; clear u0 v0 u1 v1 u2 v2 u3 v3 u4 v4 u5 v5 u6 v6 u7 v7 u8 v8 u9 v9 u10 v10; obtain ⟨u0, v0, u1, v1, u2, v2, u3, v3, u4, v4, u5, v5, u6, v6, u7, v7, u8, v8, u9, v9, u10, v10⟩ := cells11 g4; clear g4 hb6)
      refine bodyPost_ret ?_ rfl ⟨rfl, ?_⟩
      · simp [results, Tryd.results38, go_sem, u0, u1, u2, u3, u4, u5, u6, u7, u8, u9, u10]
      · (repeat' (first | with_reducible exact HB.out | (with_reducible refine Below.setCell ?_ ?_ _))) <;> (simp; try omega)
    · rw [if_neg e4] at hX
      subst hX
      have e2 : ((A : Int) == 0) = false := by simp; omega
      clear e1 hA hY HNO e4
      rw [show ((0 : Nat) : Int) = 0 from rfl] at *
      go_enter Tryd.func38, Tryd.ntmps38
      go_upto_region 1 with fail
      refine enter4 fun W hb g0 g1 g2 g3 _ _ _ _ => ?_
      obtain ⟨r0, r1, r2, r3, r4, r5, r6, r7, r8, r9, r10, r11⟩ := cl12 g0
      obtain ⟨k0, y0, k1, y1, k2, y2, k3, y3, k4, y4, k5, y5, k6, y6, k7, y7, k8, y8, k9, y9, k10, y10⟩ := cells11 g1
      obtain ⟨c0, c1, c2, c3⟩ := cells4p g2
      obtain ⟨u0, v0, u1, v1, u2, v2, u3, v3, u4, v4, u5, v5, u6, v6, u7, v7, u8, v8, u9, v9, u10, v10⟩ := cells11 g3
      have q0 := (Array.getElem?_eq_some_iff.1 g0).1
      have q1 := (Array.getElem?_eq_some_iff.1 g1).1
      have q2 := (Array.getElem?_eq_some_iff.1 g2).1
      have q3 := (Array.getElem?_eq_some_iff.1 g3).1
      go_upto_region 4 with fail
      refine entSet g1 rfl fun W2 G1 o2 => ?_
      replace g0 := only_blk o2 g0 (by omega)
      replace g2 := only_blk o2 g2 (by omega)
      replace g3 := only_blk o2 g3 (by omega)
      replace hb := Only.then_below (Nat.le_refl _) hb o2 (fun k hk => by omega)
      clear g1 o2
      have g1 := G1
      clear G1
      clear r0 r1 r2 r3 r4 r5 r6 r7 r8 r9 r10 r11 k0 y0 k1 y1 k2 y2 k3 y3 k4 y4 k5 y5 k6 y6 k7 y7 k8 y8 k9 y9 k10 y10 u0 v0 u1 v1 u2 v2 u3 v3 u4 v4 u5 v5 u6 v6 u7 v7 u8 v8 u9 v9 u10 v10 c0 c1 c2 c3 q0 q1 q2 q3
      obtain ⟨r0, r1, r2, r3, r4, r5, r6, r7, r8, r9, r10, r11⟩ := cl12 g0
      obtain ⟨k0, y0, k1, y1, k2, y2, k3, y3, k4, y4, k5, y5, k6, y6, k7, y7, k8, y8, k9, y9, k10, y10⟩ := cells11 g1
      obtain ⟨c0, c1, c2, c3⟩ := cells4p g2
      obtain ⟨u0, v0, u1, v1, u2, v2, u3, v3, u4, v4, u5, v5, u6, v6, u7, v7, u8, v8, u9, v9, u10, v10⟩ := cells11 g3
      have q0 := (Array.getElem?_eq_some_iff.1 g0).1
      have q1 := (Array.getElem?_eq_some_iff.1 g1).1
      have q2 := (Array.getElem?_eq_some_iff.1 g2).1
      have q3 := (Array.getElem?_eq_some_iff.1 g3).1
      go_upto_region 6 with fail
      refine entSet g1 rfl fun W3 G1 o3 => ?_
      replace g0 := only_blk o3 g0 (by omega)
      replace g2 := only_blk o3 g2 (by omega)
      replace g3 := only_blk o3 g3 (by omega)
      replace hb := Only.then_below (Nat.le_refl _) hb o3 (fun k hk => by omega)
      clear g1 o3
      have g1 := G1
      clear G1
      clear r0 r1 r2 r3 r4 r5 r6 r7 r8 r9 r10 r11 k0 y0 k1 y1 k2 y2 k3 y3 k4 y4 k5 y5 k6 y6 k7 y7 k8 y8 k9 y9 k10 y10 u0 v0 u1 v1 u2 v2 u3 v3 u4 v4 u5 v5 u6 v6 u7 v7 u8 v8 u9 v9 u10 v10 c0 c1 c2 c3 q0 q1 q2 q3
      obtain ⟨r0, r1, r2, r3, r4, r5, r6, r7, r8, r9, r10, r11⟩ := cl12 g0
      obtain ⟨k0, y0, k1, y1, k2, y2, k3, y3, k4, y4, k5, y5, k6, y6, k7, y7, k8, y8, k9, y9, k10, y10⟩ := cells11 g1
      obtain ⟨c0, c1, c2, c3⟩ := cells4p g2
      obtain ⟨u0, v0, u1, v1, u2, v2, u3, v3, u4, v4, u5, v5, u6, v6, u7, v7, u8, v8, u9, v9, u10, v10⟩ := cells11 g3
      have q0 := (Array.getElem?_eq_some_iff.1 g0).1
      have q1 := (Array.getElem?_eq_some_iff.1 g1).1
      have q2 := (Array.getElem?_eq_some_iff.1 g2).1
      have q3 := (Array.getElem?_eq_some_iff.1 g3).1
      go_upto_region 9 with (go_at_call 18; refine (HT.out _).mono ?_; rintro e w5 ⟨rfl, hb5⟩; replace hb := below_then hb hb5; replace g0 := blk_below g0 hb5; replace g1 := blk_below g1 hb5; replace g2 := blk_below g2 hb5; replace g3 := blk_below g3 hb5; clear hb5; clear r0 r1 r2 r3 r4 r5 r6 r7 r8 r9 r10 r11 k0 y0 k1 y1 k2 y2 k3 y3 k4 y4 k5 y5 k6 y6 k7 y7 k8 y8 k9 y9 k10 y10 u0 v0 u1 v1 u2 v2 u3 v3 u4 v4 u5 v5 u6 v6 u7 v7 u8 v8 u9 v9 u10 v10 c0 c1 c2 c3 q0 q1 q2 q3; obtain ⟨r0, r1, r2, r3, r4, r5, r6, r7, r8, r9, r10, r11⟩ := cl12 g0; obtain ⟨k0, y0, k1, y1, k2, y2, k3, y3, k4, y4, k5, y5, k6, y6, k7, y7, k8, y8, k9, y9, k10, y10⟩ := cells11 g1; obtain ⟨c0, c1, c2, c3⟩ := cells4p g2; obtain ⟨u0, v0, u1, v1, u2, v2, u3, v3, u4, v4, u5, v5, u6, v6, u7, v7, u8, v8, u9, v9, u10, v10⟩ := cells11 g3; have q0 := (Array.getElem?_eq_some_iff.1 g0).1; have q1 := (Array.getElem?_eq_some_iff.1 g1).1; have q2 := (Array.getElem?_eq_some_iff.1 g2).1; have q3 := (Array.getElem?_eq_some_iff.1 g3).1)
      refine entSet g1 rfl fun W4 G1 o4 => ?_
      replace g0 := only_blk o4 g0 (by omega)
      replace g2 := only_blk o4 g2 (by omega)
      replace g3 := only_blk o4 g3 (by omega)
      replace hb := Only.then_below (Nat.le_refl _) hb o4 (fun k hk => by omega)
      clear g1 o4
      have g1 := G1
      clear G1
      clear r0 r1 r2 r3 r4 r5 r6 r7 r8 r9 r10 r11 k0 y0 k1 y1 k2 y2 k3 y3 k4 y4 k5 y5 k6 y6 k7 y7 k8 y8 k9 y9 k10 y10 u0 v0 u1 v1 u2 v2 u3 v3 u4 v4 u5 v5 u6 v6 u7 v7 u8 v8 u9 v9 u10 v10 c0 c1 c2 c3 q0 q1 q2 q3
      obtain ⟨r0, r1, r2, r3, r4, r5, r6, r7, r8, r9, r10, r11⟩ := cl12 g0
      obtain ⟨k0, y0, k1, y1, k2, y2, k3, y3, k4, y4, k5, y5, k6, y6, k7, y7, k8, y8, k9, y9, k10, y10⟩ := cells11 g1
      obtain ⟨c0, c1, c2, c3⟩ := cells4p g2
      obtain ⟨u0, v0, u1, v1, u2, v2, u3, v3, u4, v4, u5, v5, u6, v6, u7, v7, u8, v8, u9, v9, u10, v10⟩ := cells11 g3
      have q0 := (Array.getElem?_eq_some_iff.1 g0).1
      have q1 := (Array.getElem?_eq_some_iff.1 g1).1
      have q2 := (Array.getElem?_eq_some_iff.1 g2).1
      have q3 := (Array.getElem?_eq_some_iff.1 g3).1
      go_upto_region 10 with fail
      refine entSet g1 rfl fun W5 G1 o5 => ?_
      replace g0 := only_blk o5 g0 (by omega)
      replace g2 := only_blk o5 g2 (by omega)
      replace g3 := only_blk o5 g3 (by omega)
      replace hb := Only.then_below (Nat.le_refl _) hb o5 (fun k hk => by omega)
      clear g1 o5
      have g1 := G1
      clear G1
      clear r0 r1 r2 r3 r4 r5 r6 r7 r8 r9 r10 r11 k0 y0 k1 y1 k2 y2 k3 y3 k4 y4 k5 y5 k6 y6 k7 y7 k8 y8 k9 y9 k10 y10 u0 v0 u1 v1 u2 v2 u3 v3 u4 v4 u5 v5 u6 v6 u7 v7 u8 v8 u9 v9 u10 v10 c0 c1 c2 c3 q0 q1 q2 q3
      obtain ⟨r0, r1, r2, r3, r4, r5, r6, r7, r8, r9, r10, r11⟩ := cl12 g0
      obtain ⟨k0, y0, k1, y1, k2, y2, k3, y3, k4, y4, k5, y5, k6, y6, k7, y7, k8, y8, k9, y9, k10, y10⟩ := cells11 g1
      obtain ⟨c0, c1, c2, c3⟩ := cells4p g2
      obtain ⟨u0, v0, u1, v1, u2, v2, u3, v3, u4, v4, u5, v5, u6, v6, u7, v7, u8, v8, u9, v9, u10, v10⟩ := cells11 g3
      have q0 := (Array.getElem?_eq_some_iff.1 g0).1
      have q1 := (Array.getElem?_eq_some_iff.1 g1).1
      have q2 := (Array.getElem?_eq_some_iff.1 g2).1
      have q3 := (Array.getElem?_eq_some_iff.1 g3).1
      go_wp2_with (go_at_call 77; refine (rAtI _ _ _ _ _ _ _ _ _ _ _ _ _).mono ?_; rintro e w6 ⟨rfl, hb6⟩; have HB := Lib.hid (below_then hb hb6); have g4 := blk_below g3 hb6; clear u0 v0 u1 v1 u2 v2 u3 v3 u4 v4 u5 v5 u6 v6 u7 v7 u8 v8 u9 v9 u10 v10; obtain ⟨u0, v0, u1, v1, u2, v2, u3, v3, u4, v4, u5, v5, u6, v6, u7, v7, u8, v8, u9, v9, u10, v10⟩ := cells11 g4; clear g4 hb6)
      refine bodyPost_ret ?_ rfl ⟨rfl, ?_⟩
      · simp [results, Tryd.results38, go_sem, u0, u1, u2, u3, u4, u5, u6, u7, u8, u9, u10]
      · (repeat' (first | with_reducible exact HB.out | (with_reducible refine Below.setCell ?_ ?_ _))) <;> (simp; try omega)

set_option maxRecDepth 100000 in
set_option maxHeartbeats 16000000 in
theorem rBeh_1 {c : Cf} {C N K : Nat} (s : SzX c C N K) (f : Ds) (hpc : f.pc = 1) (q : FitX c C K f) (tt A B Cc : Nat) (w : World) :
    Calls Tryd.prog 38 #[cfv c, frv f, cvT tt A B Cc] w (Ret2 (frv (behindX c f A B).1) (.bool (behindX c f A B).2) w) := by
  have c2 := s.c2
  have k2 := s.k2
  have n2 := s.n2
  have t4 := topX_le c
  obtain ⟨qk5, qn, qp, qj, qh, qa, qb, qx, qy, qi1, qi6, qi14, qi11, qn15, qk4⟩ := q
  rw [bh_1 hpc]
  have HC := Lib.hid (fun W => rItemX_any s f qk5 qa qn (by omega) (qi1 hpc) (by omega) tt A B Cc W)
  obtain ⟨⟨Y, bo⟩, hY⟩ : ∃ R, itemX c f A B = R := ⟨_, rfl⟩
  rw [hY] at HC ⊢
  clear hY
  obtain ⟨X, hX⟩ : ∃ X, (Y, bo) = X := ⟨_, rfl⟩
  rw [hX]
  unfold cfv frv cvT at *
  rw [s.cap, s.node] at *
  clear s
  obtain ⟨t', k, seq, kind, a, b, pc, i, j, n, p, h, x, y⟩ := f
  simp only at *
  obtain rfl : pc = 1 := hpc
  subst hX
  rw [show ((1 : Nat) : Int) = 1 from rfl] at *
  go_enter Tryd.func38, Tryd.ntmps38
  go_upto_region 1 with fail
  refine enter4 fun W hb g0 g1 g2 g3 _ _ _ _ => ?_
  obtain ⟨r0, r1, r2, r3, r4, r5, r6, r7, r8, r9, r10, r11⟩ := cl12 g0
  obtain ⟨k0, y0, k1, y1, k2, y2, k3, y3, k4, y4, k5, y5, k6, y6, k7, y7, k8, y8, k9, y9, k10, y10⟩ := cells11 g1
  obtain ⟨c0, c1, c2, c3⟩ := cells4p g2
  obtain ⟨u0, v0, u1, v1, u2, v2, u3, v3, u4, v4, u5, v5, u6, v6, u7, v7, u8, v8, u9, v9, u10, v10⟩ := cells11 g3
  have q0 := (Array.getElem?_eq_some_iff.1 g0).1
  have q1 := (Array.getElem?_eq_some_iff.1 g1).1
  have q2 := (Array.getElem?_eq_some_iff.1 g2).1
  have q3 := (Array.getElem?_eq_some_iff.1 g3).1
  go_wp2_with (go_at_call 78; refine (HC.out _).mono ?_; rintro e w6 ⟨rfl, hb6⟩; have HB := Lib.hid (below_then hb hb6); have g4 := blk_below g3 hb6; clear u0 v0 u1 v1 u2 v2 u3 v3 u4 v4 u5 v5 u6 v6 u7 v7 u8 v8 u9 v9 u10 v10; obtain ⟨u0, v0, u1, v1, u2, v2, u3, v3, u4, v4, u5, v5, u6, v6, u7, v7, u8, v8, u9, v9, u10, v10⟩ := cells11 g4; clear g4 hb6)
  refine bodyPost_ret ?_ rfl ⟨rfl, ?_⟩
  · simp [results, Tryd.results38, go_sem, u0, u1, u2, u3, u4, u5, u6, u7, u8, u9, u10]
  · (repeat' (first | with_reducible exact HB.out | (with_reducible refine Below.setCell ?_ ?_ _))) <;> (simp; try omega)

set_option maxRecDepth 100000 in
set_option maxHeartbeats 16000000 in
theorem rBeh_3 {c : Cf} {C N K : Nat} (s : SzX c C N K) (f : Ds) (hpc : f.pc = 3) (q : FitX c C K f) (tt A B Cc : Nat) (w : World) :
    Calls Tryd.prog 38 #[cfv c, frv f, cvT tt A B Cc] w (Ret2 (frv (behindX c f A B).1) (.bool (behindX c f A B).2) w) := by
  have c2 := s.c2
  have k2 := s.k2
  have n2 := s.n2
  have t4 := topX_le c
  obtain ⟨qk5, qn, qp, qj, qh, qa, qb, qx, qy, qi1, qi6, qi14, qi11, qn15, qk4⟩ := q
  rw [bh_3 hpc]
  have HOV := Lib.hid (fun W => rOverX_any f tt A B Cc W)
  obtain ⟨O, hO⟩ : ∃ R, overX f A B = R := ⟨_, rfl⟩
  rw [hO] at HOV ⊢
  clear hO
  obtain ⟨X, hX⟩ : ∃ X, ({ O with pc := 20 }, true) = X := ⟨_, rfl⟩
  rw [hX]
  unfold cfv frv cvT at *
  rw [s.cap, s.node] at *
  clear s
  obtain ⟨t', k, seq, kind, a, b, pc, i, j, n, p, h, x, y⟩ := f
  simp only at *
  obtain rfl : pc = 3 := hpc
  subst hX
  rw [show ((3 : Nat) : Int) = 3 from rfl] at *
  go_enter Tryd.func38, Tryd.ntmps38
  go_upto_region 1 with fail
  refine enter4 fun W hb g0 g1 g2 g3 _ _ _ _ => ?_
  obtain ⟨r0, r1, r2, r3, r4, r5, r6, r7, r8, r9, r10, r11⟩ := cl12 g0
  obtain ⟨k0, y0, k1, y1, k2, y2, k3, y3, k4, y4, k5, y5, k6, y6, k7, y7, k8, y8, k9, y9, k10, y10⟩ := cells11 g1
  obtain ⟨c0, c1, c2, c3⟩ := cells4p g2
  obtain ⟨u0, v0, u1, v1, u2, v2, u3, v3, u4, v4, u5, v5, u6, v6, u7, v7, u8, v8, u9, v9, u10, v10⟩ := cells11 g3
  have q0 := (Array.getElem?_eq_some_iff.1 g0).1
  have q1 := (Array.getElem?_eq_some_iff.1 g1).1
  have q2 := (Array.getElem?_eq_some_iff.1 g2).1
  have q3 := (Array.getElem?_eq_some_iff.1 g3).1
  go_wp2_with (first | (go_at_call 79; refine (HOV.out _).mono ?_; rintro e w5 ⟨rfl, hb5⟩; replace hb := below_then hb hb5; replace g0 := blk_below g0 hb5; replace g1 := blk_below g1 hb5; replace g2 := blk_below g2 hb5; replace g3 := blk_below g3 hb5; clear hb5; clear r0 r1 r2 r3 r4 r5 r6 r7 r8 r9 r10 r11 k0 y0 k1 y1 k2 y2 k3 y3 k4 y4 k5 y5 k6 y6 k7 y7 k8 y8 k9 y9 k10 y10 u0 v0 u1 v1 u2 v2 u3 v3 u4 v4 u5 v5 u6 v6 u7 v7 u8 v8 u9 v9 u10 v10 c0 c1 c2 c3 q0 q1 q2 q3; obtain ⟨r0, r1, r2, r3, r4, r5, r6, r7, r8, r9, r10, r11⟩ := cl12 g0; obtain ⟨k0, y0, k1, y1, k2, y2, k3, y3, k4, y4, k5, y5, k6, y6, k7, y7, k8, y8, k9, y9, k10, y10⟩ := cells11 g1; obtain ⟨c0, c1, c2, c3⟩ := cells4p g2; obtain ⟨u0, v0, u1, v1, u2, v2, u3, v3, u4, v4, u5, v5, u6, v6, u7, v7, u8, v8, u9, v9, u10, v10⟩ := cells11 g3; have q0 := (Array.getElem?_eq_some_iff.1 g0).1; have q1 := (Array.getElem?_eq_some_iff.1 g1).1; have q2 := (Array.getElem?_eq_some_iff.1 g2).1; have q3 := (Array.getElem?_eq_some_iff.1 g3).1) | (go_at_call 77; refine (rAtI _ _ _ _ _ _ _ _ _ _ _ _ _).mono ?_; rintro e w6 ⟨rfl, hb6⟩; have HB := Lib.hid (below_then hb hb6); have g4 := blk_below g3 hb6; clear u0 v0 u1 v1 u2 v2 u3 v3 u4 v4 u5 v5 u6 v6 u7 v7 u8 v8 u9 v9 u10 v10; obtain ⟨u0, v0, u1, v1, u2, v2, u3, v3, u4, v4, u5, v5, u6, v6, u7, v7, u8, v8, u9, v9, u10, v10⟩ := cells11 g4; clear g4 hb6))
  refine bodyPost_ret ?_ rfl ⟨rfl, ?_⟩
  · simp [results, Tryd.results38, go_sem, u0, u1, u2, u3, u4, u5, u6, u7, u8, u9, u10]
  · (repeat' (first | with_reducible exact HB.out | (with_reducible refine Below.setCell ?_ ?_ _))) <;> (simp; try omega)

set_option maxRecDepth 100000 in
set_option maxHeartbeats 16000000 in
theorem rBeh_4 {c : Cf} {C N K : Nat} (s : SzX c C N K) (f : Ds) (hpc : f.pc = 4) (q : FitX c C K f) (tt A B Cc : Nat) (w : World) :
    Calls Tryd.prog 38 #[cfv c, frv f, cvT tt A B Cc] w (Ret2 (frv (behindX c f A B).1) (.bool (behindX c f A B).2) w) := by
  have c2 := s.c2
  have k2 := s.k2
  have n2 := s.n2
  have t4 := topX_le c
  obtain ⟨qk5, qn, qp, qj, qh, qa, qb, qx, qy, qi1, qi6, qi14, qi11, qn15, qk4⟩ := q
  rw [bh_4 hpc]
  obtain ⟨X, hX⟩ : ∃ X, ({ f with pc := 23 }, false) = X := ⟨_, rfl⟩
  rw [hX]
  unfold cfv frv cvT at *
  rw [s.cap, s.node] at *
  clear s
  obtain ⟨t', k, seq, kind, a, b, pc, i, j, n, p, h, x, y⟩ := f
  simp only at *
  obtain rfl : pc = 4 := hpc
  subst hX
  rw [show ((4 : Nat) : Int) = 4 from rfl] at *
  go_enter Tryd.func38, Tryd.ntmps38
  go_upto_region 1 with fail
  refine enter4 fun W hb g0 g1 g2 g3 _ _ _ _ => ?_
  obtain ⟨r0, r1, r2, r3, r4, r5, r6, r7, r8, r9, r10, r11⟩ := cl12 g0
  obtain ⟨k0, y0, k1, y1, k2, y2, k3, y3, k4, y4, k5, y5, k6, y6, k7, y7, k8, y8, k9, y9, k10, y10⟩ := cells11 g1
  obtain ⟨c0, c1, c2, c3⟩ := cells4p g2
  obtain ⟨u0, v0, u1, v1, u2, v2, u3, v3, u4, v4, u5, v5, u6, v6, u7, v7, u8, v8, u9, v9, u10, v10⟩ := cells11 g3
  have q0 := (Array.getElem?_eq_some_iff.1 g0).1
  have q1 := (Array.getElem?_eq_some_iff.1 g1).1
  have q2 := (Array.getElem?_eq_some_iff.1 g2).1
  have q3 := (Array.getElem?_eq_some_iff.1 g3).1
  go_wp2_with (go_at_call 77; refine (rAtI _ _ _ _ _ _ _ _ _ _ _ _ _).mono ?_; rintro e w6 ⟨rfl, hb6⟩; have HB := Lib.hid (below_then hb hb6); have g4 := blk_below g3 hb6; clear u0 v0 u1 v1 u2 v2 u3 v3 u4 v4 u5 v5 u6 v6 u7 v7 u8 v8 u9 v9 u10 v10; obtain ⟨u0, v0, u1, v1, u2, v2, u3, v3, u4, v4, u5, v5, u6, v6, u7, v7, u8, v8, u9, v9, u10, v10⟩ := cells11 g4; clear g4 hb6)
  refine bodyPost_ret ?_ rfl ⟨rfl, ?_⟩
  · simp [results, Tryd.results38, go_sem, u0, u1, u2, u3, u4, u5, u6, u7, u8, u9, u10]
  · (repeat' (first | with_reducible exact HB.out | (with_reducible refine Below.setCell ?_ ?_ _))) <;> (simp; try omega)

set_option maxRecDepth 100000 in
set_option maxHeartbeats 16000000 in
theorem rBeh_5 {c : Cf} {C N K : Nat} (s : SzX c C N K) (f : Ds) (hpc : f.pc = 5) (q : FitX c C K f) (tt A B Cc : Nat) (w : World) :
    Calls Tryd.prog 38 #[cfv c, frv f, cvT tt A B Cc] w (Ret2 (frv (behindX c f A B).1) (.bool (behindX c f A B).2) w) := by
  have c2 := s.c2
  have k2 := s.k2
  have n2 := s.n2
  have t4 := topX_le c
  obtain ⟨qk5, qn, qp, qj, qh, qa, qb, qx, qy, qi1, qi6, qi14, qi11, qn15, qk4⟩ := q
  rw [bh_5 hpc]
  have HOV := Lib.hid (fun W => rOverX_any f tt A B Cc W)
  obtain ⟨O, hO⟩ : ∃ R, overX f A B = R := ⟨_, rfl⟩
  rw [hO] at HOV ⊢
  clear hO
  obtain ⟨X, hX⟩ : ∃ X, ({ O with pc := 6 }, false) = X := ⟨_, rfl⟩
  rw [hX]
  unfold cfv frv cvT at *
  rw [s.cap, s.node] at *
  clear s
  obtain ⟨t', k, seq, kind, a, b, pc, i, j, n, p, h, x, y⟩ := f
  simp only at *
  obtain rfl : pc = 5 := hpc
  subst hX
  rw [show ((5 : Nat) : Int) = 5 from rfl] at *
  go_enter Tryd.func38, Tryd.ntmps38
  go_upto_region 1 with fail
  refine enter4 fun W hb g0 g1 g2 g3 _ _ _ _ => ?_
  obtain ⟨r0, r1, r2, r3, r4, r5, r6, r7, r8, r9, r10, r11⟩ := cl12 g0
  obtain ⟨k0, y0, k1, y1, k2, y2, k3, y3, k4, y4, k5, y5, k6, y6, k7, y7, k8, y8, k9, y9, k10, y10⟩ := cells11 g1
  obtain ⟨c0, c1, c2, c3⟩ := cells4p g2
  obtain ⟨u0, v0, u1, v1, u2, v2, u3, v3, u4, v4, u5, v5, u6, v6, u7, v7, u8, v8, u9, v9, u10, v10⟩ := cells11 g3
  have q0 := (Array.getElem?_eq_some_iff.1 g0).1
  have q1 := (Array.getElem?_eq_some_iff.1 g1).1
  have q2 := (Array.getElem?_eq_some_iff.1 g2).1
  have q3 := (Array.getElem?_eq_some_iff.1 g3).1
  go_wp2_with (first | (go_at_call 79; refine (HOV.out _).mono ?_; rintro e w5 ⟨rfl, hb5⟩; replace hb := below_then hb hb5; replace g0 := blk_below g0 hb5; replace g1 := blk_below g1 hb5; replace g2 := blk_below g2 hb5; replace g3 := blk_below g3 hb5; clear hb5; clear r0 r1 r2 r3 r4 r5 r6 r7 r8 r9 r10 r11 k0 y0 k1 y1 k2 y2 k3 y3 k4 y4 k5 y5 k6 y6 k7 y7 k8 y8 k9 y9 k10 y10 u0 v0 u1 v1 u2 v2 u3 v3 u4 v4 u5 v5 u6 v6 u7 v7 u8 v8 u9 v9 u10 v10 c0 c1 c2 c3 q0 q1 q2 q3; obtain ⟨r0, r1, r2, r3, r4, r5, r6, r7, r8, r9, r10, r11⟩ := cl12 g0; obtain ⟨k0, y0, k1, y1, k2, y2, k3, y3, k4, y4, k5, y5, k6, y6, k7, y7, k8, y8, k9, y9, k10, y10⟩ := cells11 g1; obtain ⟨c0, c1, c2, c3⟩ := cells4p g2; obtain ⟨u0, v0, u1, v1, u2, v2, u3, v3, u4, v4, u5, v5, u6, v6, u7, v7, u8, v8, u9, v9, u10, v10⟩ := cells11 g3; have q0 := (Array.getElem?_eq_some_iff.1 g0).1; have q1 := (Array.getElem?_eq_some_iff.1 g1).1; have q2 := (Array.getElem?_eq_some_iff.1 g2).1; have q3 := (Array.getElem?_eq_some_iff.1 g3).1) | (go_at_call 77; refine (rAtI _ _ _ _ _ _ _ _ _ _ _ _ _).mono ?_; rintro e w6 ⟨rfl, hb6⟩; have HB := Lib.hid (below_then hb hb6); have g4 := blk_below g3 hb6; clear u0 v0 u1 v1 u2 v2 u3 v3 u4 v4 u5 v5 u6 v6 u7 v7 u8 v8 u9 v9 u10 v10; obtain ⟨u0, v0, u1, v1, u2, v2, u3, v3, u4, v4, u5, v5, u6, v6, u7, v7, u8, v8, u9, v9, u10, v10⟩ := cells11 g4; clear g4 hb6))
  refine bodyPost_ret ?_ rfl ⟨rfl, ?_⟩
  · simp [results, Tryd.results38, go_sem, u0, u1, u2, u3, u4, u5, u6, u7, u8, u9, u10]
  · (repeat' (first | with_reducible exact HB.out | (with_reducible refine Below.setCell ?_ ?_ _))) <;> (simp; try omega)

set_option maxRecDepth 100000 in
set_option maxHeartbeats 16000000 in
theorem rBeh_6 {c : Cf} {C N K : Nat} (s : SzX c C N K) (f : Ds) (hpc : f.pc = 6) (q : FitX c C K f) (tt A B Cc : Nat) (w : World) :
    Calls Tryd.prog 38 #[cfv c, frv f, cvT tt A B Cc] w (Ret2 (frv (behindX c f A B).1) (.bool (behindX c f A B).2) w) := by
  have c2 := s.c2
  have k2 := s.k2
  have n2 := s.n2
  have t4 := topX_le c
  obtain ⟨qk5, qn, qp, qj, qh, qa, qb, qx, qy, qi1, qi6, qi14, qi11, qn15, qk4⟩ := q
  rw [bh_6 hpc]
  obtain ⟨X, hX⟩ : ∃ X, (if f.i - 1 ≤ f.p then ({ f with i := f.i - 1, pc := 7 }, false) else ({ f with i := f.i - 1, pc := 5 }, false)) = X := ⟨_, rfl⟩
  rw [hX]
  unfold cfv frv cvT at *
  rw [s.cap, s.node] at *
  clear s
  obtain ⟨t', k, seq, kind, a, b, pc, i, j, n, p, h, x, y⟩ := f
  simp only at *
  obtain rfl : pc = 6 := hpc
  have h16 := qi6 rfl
  obtain ⟨m, rfl⟩ : ∃ m, i = m + 1 := ⟨i - 1, by omega⟩
  rw [Nat.add_sub_cancel] at hX
  have p1 : IntKind.u8.wrap (((m + 1 : Nat) : Int) - 1) = (m : Int) := by rw [IntKind.wrap_u8]; omega
  rw [show ((6 : Nat) : Int) = 6 from rfl] at *
  by_cases e : m ≤ p
  · rw [if_pos e] at hX
    subst hX
    have e2 : (m : Int) ≤ (p : Int) := by omega
    clear e
    go_enter Tryd.func38, Tryd.ntmps38
    go_upto_region 1 with fail
    refine enter4 fun W hb g0 g1 g2 g3 _ _ _ _ => ?_
    obtain ⟨r0, r1, r2, r3, r4, r5, r6, r7, r8, r9, r10, r11⟩ := cl12 g0
    obtain ⟨k0, y0, k1, y1, k2, y2, k3, y3, k4, y4, k5, y5, k6, y6, k7, y7, k8, y8, k9, y9, k10, y10⟩ := cells11 g1
    obtain ⟨c0, c1, c2, c3⟩ := cells4p g2
    obtain ⟨u0, v0, u1, v1, u2, v2, u3, v3, u4, v4, u5, v5, u6, v6, u7, v7, u8, v8, u9, v9, u10, v10⟩ := cells11 g3
    have q0 := (Array.getElem?_eq_some_iff.1 g0).1
    have q1 := (Array.getElem?_eq_some_iff.1 g1).1
    have q2 := (Array.getElem?_eq_some_iff.1 g2).1
    have q3 := (Array.getElem?_eq_some_iff.1 g3).1
    go_upto_region 21 with fail
    refine entSet g1 rfl fun W2 G1 o2 => ?_
    replace g0 := only_blk o2 g0 (by omega)
    replace g2 := only_blk o2 g2 (by omega)
    replace g3 := only_blk o2 g3 (by omega)
    replace hb := Only.then_below (Nat.le_refl _) hb o2 (fun k hk => by omega)
    clear g1 o2
    have g1 := G1
    clear G1
    clear r0 r1 r2 r3 r4 r5 r6 r7 r8 r9 r10 r11 k0 y0 k1 y1 k2 y2 k3 y3 k4 y4 k5 y5 k6 y6 k7 y7 k8 y8 k9 y9 k10 y10 u0 v0 u1 v1 u2 v2 u3 v3 u4 v4 u5 v5 u6 v6 u7 v7 u8 v8 u9 v9 u10 v10 c0 c1 c2 c3 q0 q1 q2 q3
    obtain ⟨r0, r1, r2, r3, r4, r5, r6, r7, r8, r9, r10, r11⟩ := cl12 g0
    obtain ⟨k0, y0, k1, y1, k2, y2, k3, y3, k4, y4, k5, y5, k6, y6, k7, y7, k8, y8, k9, y9, k10, y10⟩ := cells11 g1
    obtain ⟨c0, c1, c2, c3⟩ := cells4p g2
    obtain ⟨u0, v0, u1, v1, u2, v2, u3, v3, u4, v4, u5, v5, u6, v6, u7, v7, u8, v8, u9, v9, u10, v10⟩ := cells11 g3
    have q0 := (Array.getElem?_eq_some_iff.1 g0).1
    have q1 := (Array.getElem?_eq_some_iff.1 g1).1
    have q2 := (Array.getElem?_eq_some_iff.1 g2).1
    have q3 := (Array.getElem?_eq_some_iff.1 g3).1
    go_wp2_with (go_at_call 77; refine (rAtI _ _ _ _ _ _ _ _ _ _ _ _ _).mono ?_; rintro e w6 ⟨rfl, hb6⟩; have HB := Lib.hid (below_then hb hb6); have g4 := blk_below g3 hb6; clear u0 v0 u1 v1 u2 v2 u3 v3 u4 v4 u5 v5 u6 v6 u7 v7 u8 v8 u9 v9 u10 v10; obtain ⟨u0, v0, u1, v1, u2, v2, u3, v3, u4, v4, u5, v5, u6, v6, u7, v7, u8, v8, u9, v9, u10, v10⟩ := cells11 g4; clear g4 hb6)
    refine bodyPost_ret ?_ rfl ⟨rfl, ?_⟩
    · simp [results, Tryd.results38, go_sem, u0, u1, u2, u3, u4, u5, u6, u7, u8, u9, u10]
    · (repeat' (first | with_reducible exact HB.out | (with_reducible refine Below.setCell ?_ ?_ _))) <;> (simp; try omega)
  · rw [if_neg e] at hX
    subst hX
    have e2 : ¬ (m : Int) ≤ (p : Int) := by omega
    clear e
    go_enter Tryd.func38, Tryd.ntmps38
    go_upto_region 1 with fail
    refine enter4 fun W hb g0 g1 g2 g3 _ _ _ _ => ?_
    obtain ⟨r0, r1, r2, r3, r4, r5, r6, r7, r8, r9, r10, r11⟩ := cl12 g0
    obtain ⟨k0, y0, k1, y1, k2, y2, k3, y3, k4, y4, k5, y5, k6, y6, k7, y7, k8, y8, k9, y9, k10, y10⟩ := cells11 g1
    obtain ⟨c0, c1, c2, c3⟩ := cells4p g2
    obtain ⟨u0, v0, u1, v1, u2, v2, u3, v3, u4, v4, u5, v5, u6, v6, u7, v7, u8, v8, u9, v9, u10, v10⟩ := cells11 g3
    have q0 := (Array.getElem?_eq_some_iff.1 g0).1
    have q1 := (Array.getElem?_eq_some_iff.1 g1).1
    have q2 := (Array.getElem?_eq_some_iff.1 g2).1
    have q3 := (Array.getElem?_eq_some_iff.1 g3).1
    go_upto_region 21 with fail
    refine entSet g1 rfl fun W2 G1 o2 => ?_
    replace g0 := only_blk o2 g0 (by omega)
    replace g2 := only_blk o2 g2 (by omega)
    replace g3 := only_blk o2 g3 (by omega)
    replace hb := Only.then_below (Nat.le_refl _) hb o2 (fun k hk => by omega)
    clear g1 o2
    have g1 := G1
    clear G1
    clear r0 r1 r2 r3 r4 r5 r6 r7 r8 r9 r10 r11 k0 y0 k1 y1 k2 y2 k3 y3 k4 y4 k5 y5 k6 y6 k7 y7 k8 y8 k9 y9 k10 y10 u0 v0 u1 v1 u2 v2 u3 v3 u4 v4 u5 v5 u6 v6 u7 v7 u8 v8 u9 v9 u10 v10 c0 c1 c2 c3 q0 q1 q2 q3
    obtain ⟨r0, r1, r2, r3, r4, r5, r6, r7, r8, r9, r10, r11⟩ := cl12 g0
    obtain ⟨k0, y0, k1, y1, k2, y2, k3, y3, k4, y4, k5, y5, k6, y6, k7, y7, k8, y8, k9, y9, k10, y10⟩ := cells11 g1
    obtain ⟨c0, c1, c2, c3⟩ := cells4p g2
    obtain ⟨u0, v0, u1, v1, u2, v2, u3, v3, u4, v4, u5, v5, u6, v6, u7, v7, u8, v8, u9, v9, u10, v10⟩ := cells11 g3
    have q0 := (Array.getElem?_eq_some_iff.1 g0).1
    have q1 := (Array.getElem?_eq_some_iff.1 g1).1
    have q2 := (Array.getElem?_eq_some_iff.1 g2).1
    have q3 := (Array.getElem?_eq_some_iff.1 g3).1
    go_wp2_with (go_at_call 77; refine (rAtI _ _ _ _ _ _ _ _ _ _ _ _ _).mono ?_; rintro e w6 ⟨rfl, hb6⟩; have HB := Lib.hid (below_then hb hb6); have g4 := blk_below g3 hb6; clear u0 v0 u1 v1 u2 v2 u3 v3 u4 v4 u5 v5 u6 v6 u7 v7 u8 v8 u9 v9 u10 v10; obtain ⟨u0, v0, u1, v1, u2, v2, u3, v3, u4, v4, u5, v5, u6, v6, u7, v7, u8, v8, u9, v9, u10, v10⟩ := cells11 g4; clear g4 hb6)
    refine bodyPost_ret ?_ rfl ⟨rfl, ?_⟩
    · simp [results, Tryd.results38, go_sem, u0, u1, u2, u3, u4, u5, u6, u7, u8, u9, u10]
    · (repeat' (first | with_reducible exact HB.out | (with_reducible refine Below.setCell ?_ ?_ _))) <;> (simp; try omega)

set_option maxRecDepth 100000 in
set_option maxHeartbeats 16000000 in
theorem rBeh_7 {c : Cf} {C N K : Nat} (s : SzX c C N K) (f : Ds) (hpc : f.pc = 7) (q : FitX c C K f) (tt A B Cc : Nat) (w : World) :
    Calls Tryd.prog 38 #[cfv c, frv f, cvT tt A B Cc] w (Ret2 (frv (behindX c f A B).1) (.bool (behindX c f A B).2) w) := by
  have c2 := s.c2
  have k2 := s.k2
  have n2 := s.n2
  have t4 := topX_le c
  obtain ⟨qk5, qn, qp, qj, qh, qa, qb, qx, qy, qi1, qi6, qi14, qi11, qn15, qk4⟩ := q
  rw [bh_7 hpc]
  obtain ⟨X, hX⟩ : ∃ X, ({ f with n := f.n + 1, pc := 8 }, false) = X := ⟨_, rfl⟩
  rw [hX]
  unfold cfv frv cvT at *
  rw [s.cap, s.node] at *
  clear s
  obtain ⟨t', k, seq, kind, a, b, pc, i, j, n, p, h, x, y⟩ := f
  simp only at *
  obtain rfl : pc = 7 := hpc
  subst hX
  rw [show ((7 : Nat) : Int) = 7 from rfl] at *
  have p1 : IntKind.u8.wrap ((n : Int) + 1) = (n : Int) + 1 := by rw [IntKind.wrap_u8]; omega
  go_enter Tryd.func38, Tryd.ntmps38
  go_upto_region 1 with fail
  refine enter4 fun W hb g0 g1 g2 g3 _ _ _ _ => ?_
  obtain ⟨r0, r1, r2, r3, r4, r5, r6, r7, r8, r9, r10, r11⟩ := cl12 g0
  obtain ⟨k0, y0, k1, y1, k2, y2, k3, y3, k4, y4, k5, y5, k6, y6, k7, y7, k8, y8, k9, y9, k10, y10⟩ := cells11 g1
  obtain ⟨c0, c1, c2, c3⟩ := cells4p g2
  obtain ⟨u0, v0, u1, v1, u2, v2, u3, v3, u4, v4, u5, v5, u6, v6, u7, v7, u8, v8, u9, v9, u10, v10⟩ := cells11 g3
  have q0 := (Array.getElem?_eq_some_iff.1 g0).1
  have q1 := (Array.getElem?_eq_some_iff.1 g1).1
  have q2 := (Array.getElem?_eq_some_iff.1 g2).1
  have q3 := (Array.getElem?_eq_some_iff.1 g3).1
  go_upto_region 26 with fail
  refine entSet g1 rfl fun W2 G1 o2 => ?_
  replace g0 := only_blk o2 g0 (by omega)
  replace g2 := only_blk o2 g2 (by omega)
  replace g3 := only_blk o2 g3 (by omega)
  replace hb := Only.then_below (Nat.le_refl _) hb o2 (fun k hk => by omega)
  clear g1 o2
  have g1 := G1
  clear G1
  clear r0 r1 r2 r3 r4 r5 r6 r7 r8 r9 r10 r11 k0 y0 k1 y1 k2 y2 k3 y3 k4 y4 k5 y5 k6 y6 k7 y7 k8 y8 k9 y9 k10 y10 u0 v0 u1 v1 u2 v2 u3 v3 u4 v4 u5 v5 u6 v6 u7 v7 u8 v8 u9 v9 u10 v10 c0 c1 c2 c3 q0 q1 q2 q3
  obtain ⟨r0, r1, r2, r3, r4, r5, r6, r7, r8, r9, r10, r11⟩ := cl12 g0
  obtain ⟨k0, y0, k1, y1, k2, y2, k3, y3, k4, y4, k5, y5, k6, y6, k7, y7, k8, y8, k9, y9, k10, y10⟩ := cells11 g1
  obtain ⟨c0, c1, c2, c3⟩ := cells4p g2
  obtain ⟨u0, v0, u1, v1, u2, v2, u3, v3, u4, v4, u5, v5, u6, v6, u7, v7, u8, v8, u9, v9, u10, v10⟩ := cells11 g3
  have q0 := (Array.getElem?_eq_some_iff.1 g0).1
  have q1 := (Array.getElem?_eq_some_iff.1 g1).1
  have q2 := (Array.getElem?_eq_some_iff.1 g2).1
  have q3 := (Array.getElem?_eq_some_iff.1 g3).1
  go_wp2_with (go_at_call 77; refine (rAtI _ _ _ _ _ _ _ _ _ _ _ _ _).mono ?_; rintro e w6 ⟨rfl, hb6⟩; have HB := Lib.hid (below_then hb hb6); have g4 := blk_below g3 hb6; clear u0 v0 u1 v1 u2 v2 u3 v3 u4 v4 u5 v5 u6 v6 u7 v7 u8 v8 u9 v9 u10 v10; obtain ⟨u0, v0, u1, v1, u2, v2, u3, v3, u4, v4, u5, v5, u6, v6, u7, v7, u8, v8, u9, v9, u10, v10⟩ := cells11 g4; clear g4 hb6)
  refine bodyPost_ret ?_ rfl ⟨rfl, ?_⟩
  · simp [results, Tryd.results38, go_sem, u0, u1, u2, u3, u4, u5, u6, u7, u8, u9, u10]
  · (repeat' (first | with_reducible exact HB.out | (with_reducible refine Below.setCell ?_ ?_ _))) <;> (simp; try omega)
end Go.Proofs.YtmkehailohgebaaDoor
