/- An item on the way down: the document's own. -/
import Derived.Test.YtmkehailohgebaaDoorTeFound
import Derived.Test.YtmkehailohgebaaDoorTeClimb
import Derived.Test.YtmkehailohgebaaDoorBks
namespace Go.Proofs.YtmkehailohgebaaDoor
open Go.RowKit Go.Lib Pt Opn

theorem mul_small {i N : Nat} (hi : i < 60) (hN : N ≤ 4) : wrap64 ((i : Int) * (N : Int)) = ((i * N : Nat) : Int) ∧ IntKind.u8.wrap ((i * N : Nat) : Int) = ((i * N : Nat) : Int) := by
  have h : i * N ≤ 236 := Nat.le_trans (Nat.mul_le_mul (Nat.le_of_lt_succ hi) hN) (by decide)
  rw [show (i : Int) * (N : Int) = ((i * N : Nat) : Int) from (Int.natCast_mul i N).symm]
  generalize i * N = z at *
  refine ⟨?_, ?_⟩
  · unfold wrap64
    omega
  · rw [IntKind.wrap_u8]
    omega

set_option maxRecDepth 100000 in
set_option maxHeartbeats 16000000 in
theorem rItemX_any {c : Cf} {C N K : Nat} (s : SzX c C N K) (f : Ds) (hk : f.kind = 4 ∨ f.kind = 5 ∨ f.kind = 6 ∨ f.kind = 7 ∨ f.kind = 8) (ha : f.a < 4294967296) (hn : f.n ≤ C) (hh : f.h ≤ 4) (hi : f.i < 60) (hj : f.j < 255) (tt A B Cc : Nat) (w : World) :
    Calls Tryd.prog 78 #[cfv c, frv f, cvT tt A B Cc] w (Ret2 (frv (itemX c f A B).1) (.bool (itemX c f A B).2) w) := by
  have c2s := s.c2
  have n1 := s.n1
  have n2 := s.n2
  have HU := Lib.hid (fun W => rUpX_any s f.n f.h (by omega) hh W)
  have HNO := Lib.hid (fun W => rNoneX_any c f (by omega) W)
  have HOV := Lib.hid (fun W => rOverX_any { f with p := f.i } tt A B Cc W)
  have HFO := Lib.hid (fun W => rFoundX_any c (overX { f with p := f.i } A B) hk (by simp only [overX]; omega) (by simp only [overX]; omega) (by simp only [overX]; omega) W)
  obtain ⟨X, hX⟩ : ∃ X, itemX c f A B = X := ⟨_, rfl⟩
  rw [hX]
  unfold itemX at hX
  rw [s.node, Int.toNat_natCast] at hX
  obtain ⟨⟨Y, bo⟩, hY⟩ : ∃ R, foundX c (overX { f with p := f.i } A B) = R := ⟨_, rfl⟩
  rw [hY] at HFO hX
  obtain ⟨Z, hZ⟩ : ∃ R, noneX c f = R := ⟨_, rfl⟩
  rw [hZ] at HNO hX
  obtain ⟨O, hO⟩ : ∃ R, overX { f with p := f.i } A B = R := ⟨_, rfl⟩
  rw [hO] at HOV HFO
  generalize upX c f.n f.h = U at *
  clear hY hZ hO hk
  unfold cfv frv cvT at *
  rw [s.node] at *
  clear s
  obtain ⟨t', k, seq, kind, a, b, pc, i, j, n, p, h, x, y⟩ := f
  simp only at *
  have a1 : IntKind.u64.wrap (a : Int) = (a : Int) := by rw [IntKind.wrap_u64]; omega
  by_cases e1 : a ≤ A
  · rw [if_pos e1] at hX
    have e2 : (a : Int) ≤ (A : Int) := by omega
    clear e1 HU HNO
    by_cases e3 : h = 0
    · subst e3
      rw [if_pos rfl] at hX
      subst hX
      rw [show ((0 : Nat) : Int) = 0 from rfl] at *
      go_enter Tryd.func78, Tryd.ntmps78
      go_upto_region 1 with fail
      refine enter4 fun W hb g0 g1 g2 g3 _ _ _ _ => ?_
      obtain ⟨r0, r1, r2, r3, r4, r5, r6, r7, r8, r9, r10, r11⟩ := cl12 g0
      obtain ⟨k0, y0, k1, y1, k2, y2, k3, y3, k4, y4, k5, y5, k6, y6, k7, y7, k8, y8, k9, y9, k10, y10⟩ := cells11 g1
      obtain ⟨c0, c1, c2, c3⟩ := cells4p g2
      obtain ⟨u0, v0, u1, v1, u2, v2, u3, v3, u4, v4, u5, v5, u6, v6, u7, v7, u8, v8, u9, v9, u10, v10⟩ := cells11 g3
      have q0 := (Array.getElem?_eq_some_iff.1 g0).1
      have q1 := (Array.getElem?_eq_some_iff.1 g1).1
      have q2 := (Array.getElem?_eq_some_iff.1 g2).1
      have q3 := (Array.getElem?_eq_some_iff.1 g3).1
      go_upto_region 4 with fail
      refine entSet g1 rfl fun W2 G1 o2 => ?_
      replace g0 := only_blk o2 g0 (by omega)
      replace g2 := only_blk o2 g2 (by omega)
      replace g3 := only_blk o2 g3 (by omega)
      replace hb := Only.then_below (Nat.le_refl _) hb o2 (fun k hk => by omega)
      clear g1 o2
      have g1 := G1
      clear G1
      clear r0 r1 r2 r3 r4 r5 r6 r7 r8 r9 r10 r11 k0 y0 k1 y1 k2 y2 k3 y3 k4 y4 k5 y5 k6 y6 k7 y7 k8 y8 k9 y9 k10 y10 u0 v0 u1 v1 u2 v2 u3 v3 u4 v4 u5 v5 u6 v6 u7 v7 u8 v8 u9 v9 u10 v10 c0 c1 c2 c3 q0 q1 q2 q3
      obtain ⟨r0, r1, r2, r3, r4, r5, r6, r7, r8, r9, r10, r11⟩ := cl12 g0
      obtain ⟨k0, y0, k1, y1, k2, y2, k3, y3, k4, y4, k5, y5, k6, y6, k7, y7, k8, y8, k9, y9, k10, y10⟩ := cells11 g1
      obtain ⟨c0, c1, c2, c3⟩ := cells4p g2
      obtain ⟨u0, v0, u1, v1, u2, v2, u3, v3, u4, v4, u5, v5, u6, v6, u7, v7, u8, v8, u9, v9, u10, v10⟩ := cells11 g3
      have q0 := (Array.getElem?_eq_some_iff.1 g0).1
      have q1 := (Array.getElem?_eq_some_iff.1 g1).1
      have q2 := (Array.getElem?_eq_some_iff.1 g2).1
      have q3 := (Array.getElem?_eq_some_iff.1 g3).1
      refine wp_region_tail_reads 7 (by kernel_rfl) (by kernel_rfl) fun HR => ?_
      simp only [List.take_succ_cons, List.take_zero, List.drop_succ_cons, List.drop_zero]
      repeat (go_big_quiet_step (first | with_reducible exact Calls.regrown_of (HOV.out _) | with_reducible exact Calls.regrown_of (HFO.out _)))
      refine wpQuiet_nil ?_
      intro W3 hw'
      obtain ⟨⟨dq, osq⟩, hw''⟩ := hw'
      have hb3 : Below W2.heap.size W2 W3 := by rw [hw'']; exact below_regrown _ dq osq
      clear hw'' HR dq osq
      clear r0 r1 r2 r3 r4 r5 r6 r7 r8 r9 r10 r11 k0 y0 k1 y1 k2 y2 k3 y3 k4 y4 k5 y5 k6 y6 k7 y7 k8 y8 k9 y9 k10 y10 u0 v0 u1 v1 u2 v2 u3 v3 u4 v4 u5 v5 u6 v6 u7 v7 u8 v8 u9 v9 u10 v10 c0 c1 c2 c3 q0 q1 q2 q3
      replace g0 := blk_below g0 hb3
      replace g1 := blk_below g1 hb3
      replace g2 := blk_below g2 hb3
      replace g3 := blk_below g3 hb3
      have HB := Lib.hid (below_then hb hb3)
      obtain ⟨r0, r1, r2, r3, r4, r5, r6, r7, r8, r9, r10, r11⟩ := cl12 g0
      obtain ⟨k0, y0, k1, y1, k2, y2, k3, y3, k4, y4, k5, y5, k6, y6, k7, y7, k8, y8, k9, y9, k10, y10⟩ := cells11 g1
      obtain ⟨c0, c1, c2, c3⟩ := cells4p g2
      obtain ⟨u0, v0, u1, v1, u2, v2, u3, v3, u4, v4, u5, v5, u6, v6, u7, v7, u8, v8, u9, v9, u10, v10⟩ := cells11 g3
      have q0 := (Array.getElem?_eq_some_iff.1 g0).1
      have q1 := (Array.getElem?_eq_some_iff.1 g1).1
      have q2 := (Array.getElem?_eq_some_iff.1 g2).1
      have q3 := (Array.getElem?_eq_some_iff.1 g3).1
      go_wp2_with fail
      refine bodyPost_ret ?_ rfl ⟨rfl, ?_⟩
      · simp [results, Tryd.results78, go_sem, u0, u1, u2, u3, u4, u5, u6, u7, u8, u9, u10]
      · (repeat' (first | with_reducible exact HB.out | (with_reducible refine Below.setCell ?_ ?_ _))) <;> (simp; try omega)
    · rw [if_neg e3] at hX
      subst hX
      have e4 : ((h : Int) == 0) = false := by simp; omega
      obtain ⟨h', rfl⟩ : ∃ h', h = h' + 1 := ⟨h - 1, by omega⟩
      rw [Nat.add_sub_cancel]
      have h1 : IntKind.u8.wrap (((h' + 1 : Nat) : Int) - 1) = (h' : Int) := by rw [IntKind.wrap_u8]; omega
      obtain ⟨w1, w2⟩ := mul_small hi n2
      generalize i * N = z at *
      go_enter Tryd.func78, Tryd.ntmps78
      go_upto_region 1 with fail
      refine enter4 fun W hb g0 g1 g2 g3 _ _ _ _ => ?_
      obtain ⟨r0, r1, r2, r3, r4, r5, r6, r7, r8, r9, r10, r11⟩ := cl12 g0
      obtain ⟨k0, y0, k1, y1, k2, y2, k3, y3, k4, y4, k5, y5, k6, y6, k7, y7, k8, y8, k9, y9, k10, y10⟩ := cells11 g1
      obtain ⟨c0, c1, c2, c3⟩ := cells4p g2
      obtain ⟨u0, v0, u1, v1, u2, v2, u3, v3, u4, v4, u5, v5, u6, v6, u7, v7, u8, v8, u9, v9, u10, v10⟩ := cells11 g3
      have q0 := (Array.getElem?_eq_some_iff.1 g0).1
      have q1 := (Array.getElem?_eq_some_iff.1 g1).1
      have q2 := (Array.getElem?_eq_some_iff.1 g2).1
      have q3 := (Array.getElem?_eq_some_iff.1 g3).1
      go_upto_region 6 with fail
      refine entSet g1 rfl fun W2 G1 o2 => ?_
      replace g0 := only_blk o2 g0 (by omega)
      replace g2 := only_blk o2 g2 (by omega)
      replace g3 := only_blk o2 g3 (by omega)
      replace hb := Only.then_below (Nat.le_refl _) hb o2 (fun k hk => by omega)
      clear g1 o2
      have g1 := G1
      clear G1
      clear r0 r1 r2 r3 r4 r5 r6 r7 r8 r9 r10 r11 k0 y0 k1 y1 k2 y2 k3 y3 k4 y4 k5 y5 k6 y6 k7 y7 k8 y8 k9 y9 k10 y10 u0 v0 u1 v1 u2 v2 u3 v3 u4 v4 u5 v5 u6 v6 u7 v7 u8 v8 u9 v9 u10 v10 c0 c1 c2 c3 q0 q1 q2 q3
      obtain ⟨r0, r1, r2, r3, r4, r5, r6, r7, r8, r9, r10, r11⟩ := cl12 g0
      obtain ⟨k0, y0, k1, y1, k2, y2, k3, y3, k4, y4, k5, y5, k6, y6, k7, y7, k8, y8, k9, y9, k10, y10⟩ := cells11 g1
      obtain ⟨c0, c1, c2, c3⟩ := cells4p g2
      obtain ⟨u0, v0, u1, v1, u2, v2, u3, v3, u4, v4, u5, v5, u6, v6, u7, v7, u8, v8, u9, v9, u10, v10⟩ := cells11 g3
      have q0 := (Array.getElem?_eq_some_iff.1 g0).1
      have q1 := (Array.getElem?_eq_some_iff.1 g1).1
      have q2 := (Array.getElem?_eq_some_iff.1 g2).1
      have q3 := (Array.getElem?_eq_some_iff.1 g3).1
      go_upto_region 7 with fail
      refine entSet g1 rfl fun W3 G1 o3 => ?_
      replace g0 := only_blk o3 g0 (by omega)
      replace g2 := only_blk o3 g2 (by omega)
      replace g3 := only_blk o3 g3 (by omega)
      replace hb := Only.then_below (Nat.le_refl _) hb o3 (fun k hk => by omega)
      clear g1 o3
      have g1 := G1
      clear G1
      clear r0 r1 r2 r3 r4 r5 r6 r7 r8 r9 r10 r11 k0 y0 k1 y1 k2 y2 k3 y3 k4 y4 k5 y5 k6 y6 k7 y7 k8 y8 k9 y9 k10 y10 u0 v0 u1 v1 u2 v2 u3 v3 u4 v4 u5 v5 u6 v6 u7 v7 u8 v8 u9 v9 u10 v10 c0 c1 c2 c3 q0 q1 q2 q3
      obtain ⟨r0, r1, r2, r3, r4, r5, r6, r7, r8, r9, r10, r11⟩ := cl12 g0
      obtain ⟨k0, y0, k1, y1, k2, y2, k3, y3, k4, y4, k5, y5, k6, y6, k7, y7, k8, y8, k9, y9, k10, y10⟩ := cells11 g1
      obtain ⟨c0, c1, c2, c3⟩ := cells4p g2
      obtain ⟨u0, v0, u1, v1, u2, v2, u3, v3, u4, v4, u5, v5, u6, v6, u7, v7, u8, v8, u9, v9, u10, v10⟩ := cells11 g3
      have q0 := (Array.getElem?_eq_some_iff.1 g0).1
      have q1 := (Array.getElem?_eq_some_iff.1 g1).1
      have q2 := (Array.getElem?_eq_some_iff.1 g2).1
      have q3 := (Array.getElem?_eq_some_iff.1 g3).1
      have HB := Lib.hid hb
      go_wp2_with fail
      refine bodyPost_ret ?_ rfl ⟨rfl, ?_⟩
      · simp [results, Tryd.results78, go_sem, u0, u1, u2, u3, u4, u5, u6, u7, u8, u9, u10]
      · (repeat' (first | with_reducible exact HB.out | (with_reducible refine Below.setCell ?_ ?_ _))) <;> (simp; try omega)
  · rw [if_neg e1] at hX
    have e2 : ¬ (a : Int) ≤ (A : Int) := by omega
    clear e1 HOV HFO
    have i1 : IntKind.i64.wrap ((i : Int) + 1) = (i : Int) + 1 := by rw [IntKind.wrap_i64]; omega
    have hN0 : ((N : Nat) : Int) ≠ 0 := by omega
    have hmod : ((i : Int) + 1) % (N : Int) = (((i + 1) % N : Nat) : Int) := by push_cast; rfl
    have p1 : IntKind.u8.wrap ((i : Int) + 1) = (i : Int) + 1 := by rw [IntKind.wrap_u8]; omega
    by_cases e3 : (i + 1) % N = 0
    · rw [if_pos (.inl e3)] at hX
      subst hX
      rw [e3] at hmod
      go_enter Tryd.func78, Tryd.ntmps78
      go_upto_region 1 with fail
      refine enter4 fun W hb g0 g1 g2 g3 _ _ _ _ => ?_
      obtain ⟨r0, r1, r2, r3, r4, r5, r6, r7, r8, r9, r10, r11⟩ := cl12 g0
      obtain ⟨k0, y0, k1, y1, k2, y2, k3, y3, k4, y4, k5, y5, k6, y6, k7, y7, k8, y8, k9, y9, k10, y10⟩ := cells11 g1
      obtain ⟨c0, c1, c2, c3⟩ := cells4p g2
      obtain ⟨u0, v0, u1, v1, u2, v2, u3, v3, u4, v4, u5, v5, u6, v6, u7, v7, u8, v8, u9, v9, u10, v10⟩ := cells11 g3
      have q0 := (Array.getElem?_eq_some_iff.1 g0).1
      have q1 := (Array.getElem?_eq_some_iff.1 g1).1
      have q2 := (Array.getElem?_eq_some_iff.1 g2).1
      have q3 := (Array.getElem?_eq_some_iff.1 g3).1
      go_wp2_with fail
      refine wp_region_quiet_reads (by kernel_rfl) (by kernel_rfl) fun HR => ?_
      repeat (go_big_quiet_step (first | with_reducible exact Calls.regrown_of (HU.out _)))
      refine wpQuiet_nil ?_
      intro W3 hw'
      obtain ⟨⟨dq, osq⟩, hw''⟩ := hw'
      have hb3 : Below W.heap.size W W3 := by rw [hw'']; exact below_regrown _ dq osq
      clear hw'' HR dq osq
      clear r0 r1 r2 r3 r4 r5 r6 r7 r8 r9 r10 r11 k0 y0 k1 y1 k2 y2 k3 y3 k4 y4 k5 y5 k6 y6 k7 y7 k8 y8 k9 y9 k10 y10 u0 v0 u1 v1 u2 v2 u3 v3 u4 v4 u5 v5 u6 v6 u7 v7 u8 v8 u9 v9 u10 v10 c0 c1 c2 c3 q0 q1 q2 q3
      replace g0 := blk_below g0 hb3
      replace g1 := blk_below g1 hb3
      replace g2 := blk_below g2 hb3
      replace g3 := blk_below g3 hb3
      replace hb := below_then hb hb3
      obtain ⟨r0, r1, r2, r3, r4, r5, r6, r7, r8, r9, r10, r11⟩ := cl12 g0
      obtain ⟨k0, y0, k1, y1, k2, y2, k3, y3, k4, y4, k5, y5, k6, y6, k7, y7, k8, y8, k9, y9, k10, y10⟩ := cells11 g1
      obtain ⟨c0, c1, c2, c3⟩ := cells4p g2
      obtain ⟨u0, v0, u1, v1, u2, v2, u3, v3, u4, v4, u5, v5, u6, v6, u7, v7, u8, v8, u9, v9, u10, v10⟩ := cells11 g3
      have q0 := (Array.getElem?_eq_some_iff.1 g0).1
      have q1 := (Array.getElem?_eq_some_iff.1 g1).1
      have q2 := (Array.getElem?_eq_some_iff.1 g2).1
      have q3 := (Array.getElem?_eq_some_iff.1 g3).1
      go_wp2_with (go_at_call 76; refine (HNO.out _).mono ?_; rintro e w4 ⟨rfl, hb4⟩; have HB := Lib.hid (below_then hb hb4); have g4 := blk_below g3 hb4; clear u0 v0 u1 v1 u2 v2 u3 v3 u4 v4 u5 v5 u6 v6 u7 v7 u8 v8 u9 v9 u10 v10; obtain ⟨u0, v0, u1, v1, u2, v2, u3, v3, u4, v4, u5, v5, u6, v6, u7, v7, u8, v8, u9, v9, u10, v10⟩ := cells11 g4; clear g4 hb4)
      refine bodyPost_ret ?_ rfl ⟨rfl, ?_⟩
      · simp [results, Tryd.results78, go_sem, u0, u1, u2, u3, u4, u5, u6, u7, u8, u9, u10]
      · (repeat' (first | with_reducible exact HB.out | (with_reducible refine Below.setCell ?_ ?_ _))) <;> (simp; try omega)
    · have e4 : ((((i + 1) % N : Nat) : Int) == 0) = false := by simp; omega
      generalize (i + 1) % N = md at *
      by_cases e5 : U ≤ i + 1
      · rw [if_pos (.inr e5)] at hX
        subst hX
        have e6 : (U : Int) ≤ (i : Int) + 1 := by omega
        clear e5
        go_enter Tryd.func78, Tryd.ntmps78
        go_upto_region 1 with fail
        refine enter4 fun W hb g0 g1 g2 g3 _ _ _ _ => ?_
        obtain ⟨r0, r1, r2, r3, r4, r5, r6, r7, r8, r9, r10, r11⟩ := cl12 g0
        obtain ⟨k0, y0, k1, y1, k2, y2, k3, y3, k4, y4, k5, y5, k6, y6, k7, y7, k8, y8, k9, y9, k10, y10⟩ := cells11 g1
        obtain ⟨c0, c1, c2, c3⟩ := cells4p g2
        obtain ⟨u0, v0, u1, v1, u2, v2, u3, v3, u4, v4, u5, v5, u6, v6, u7, v7, u8, v8, u9, v9, u10, v10⟩ := cells11 g3
        have q0 := (Array.getElem?_eq_some_iff.1 g0).1
        have q1 := (Array.getElem?_eq_some_iff.1 g1).1
        have q2 := (Array.getElem?_eq_some_iff.1 g2).1
        have q3 := (Array.getElem?_eq_some_iff.1 g3).1
        go_wp2_with fail
        refine wp_region_quiet_reads (by kernel_rfl) (by kernel_rfl) fun HR => ?_
        repeat (go_big_quiet_step (first | with_reducible exact Calls.regrown_of (HU.out _)))
        refine wpQuiet_nil ?_
        intro W3 hw'
        obtain ⟨⟨dq, osq⟩, hw''⟩ := hw'
        have hb3 : Below W.heap.size W W3 := by rw [hw'']; exact below_regrown _ dq osq
        clear hw'' HR dq osq
        clear r0 r1 r2 r3 r4 r5 r6 r7 r8 r9 r10 r11 k0 y0 k1 y1 k2 y2 k3 y3 k4 y4 k5 y5 k6 y6 k7 y7 k8 y8 k9 y9 k10 y10 u0 v0 u1 v1 u2 v2 u3 v3 u4 v4 u5 v5 u6 v6 u7 v7 u8 v8 u9 v9 u10 v10 c0 c1 c2 c3 q0 q1 q2 q3
        replace g0 := blk_below g0 hb3
        replace g1 := blk_below g1 hb3
        replace g2 := blk_below g2 hb3
        replace g3 := blk_below g3 hb3
        replace hb := below_then hb hb3
        obtain ⟨r0, r1, r2, r3, r4, r5, r6, r7, r8, r9, r10, r11⟩ := cl12 g0
        obtain ⟨k0, y0, k1, y1, k2, y2, k3, y3, k4, y4, k5, y5, k6, y6, k7, y7, k8, y8, k9, y9, k10, y10⟩ := cells11 g1
        obtain ⟨c0, c1, c2, c3⟩ := cells4p g2
        obtain ⟨u0, v0, u1, v1, u2, v2, u3, v3, u4, v4, u5, v5, u6, v6, u7, v7, u8, v8, u9, v9, u10, v10⟩ := cells11 g3
        have q0 := (Array.getElem?_eq_some_iff.1 g0).1
        have q1 := (Array.getElem?_eq_some_iff.1 g1).1
        have q2 := (Array.getElem?_eq_some_iff.1 g2).1
        have q3 := (Array.getElem?_eq_some_iff.1 g3).1
        go_wp2_with (go_at_call 76; refine (HNO.out _).mono ?_; rintro e w4 ⟨rfl, hb4⟩; have HB := Lib.hid (below_then hb hb4); have g4 := blk_below g3 hb4; clear u0 v0 u1 v1 u2 v2 u3 v3 u4 v4 u5 v5 u6 v6 u7 v7 u8 v8 u9 v9 u10 v10; obtain ⟨u0, v0, u1, v1, u2, v2, u3, v3, u4, v4, u5, v5, u6, v6, u7, v7, u8, v8, u9, v9, u10, v10⟩ := cells11 g4; clear g4 hb4)
        refine bodyPost_ret ?_ rfl ⟨rfl, ?_⟩
        · simp [results, Tryd.results78, go_sem, u0, u1, u2, u3, u4, u5, u6, u7, u8, u9, u10]
        · (repeat' (first | with_reducible exact HB.out | (with_reducible refine Below.setCell ?_ ?_ _))) <;> (simp; try omega)
      · rw [if_neg (by omega)] at hX
        subst hX
        have e6 : ¬ (U : Int) ≤ (i : Int) + 1 := by omega
        clear e5
        go_enter Tryd.func78, Tryd.ntmps78
        go_upto_region 1 with fail
        refine enter4 fun W hb g0 g1 g2 g3 _ _ _ _ => ?_
        obtain ⟨r0, r1, r2, r3, r4, r5, r6, r7, r8, r9, r10, r11⟩ := cl12 g0
        obtain ⟨k0, y0, k1, y1, k2, y2, k3, y3, k4, y4, k5, y5, k6, y6, k7, y7, k8, y8, k9, y9, k10, y10⟩ := cells11 g1
        obtain ⟨c0, c1, c2, c3⟩ := cells4p g2
        obtain ⟨u0, v0, u1, v1, u2, v2, u3, v3, u4, v4, u5, v5, u6, v6, u7, v7, u8, v8, u9, v9, u10, v10⟩ := cells11 g3
        have q0 := (Array.getElem?_eq_some_iff.1 g0).1
        have q1 := (Array.getElem?_eq_some_iff.1 g1).1
        have q2 := (Array.getElem?_eq_some_iff.1 g2).1
        have q3 := (Array.getElem?_eq_some_iff.1 g3).1
        go_wp2_with fail
        refine wp_region_quiet_reads (by kernel_rfl) (by kernel_rfl) fun HR => ?_
        repeat (go_big_quiet_step (first | with_reducible exact Calls.regrown_of (HU.out _)))
        refine wpQuiet_nil ?_
        intro W3 hw'
        obtain ⟨⟨dq, osq⟩, hw''⟩ := hw'
        have hb3 : Below W.heap.size W W3 := by rw [hw'']; exact below_regrown _ dq osq
        clear hw'' HR dq osq
        clear r0 r1 r2 r3 r4 r5 r6 r7 r8 r9 r10 r11 k0 y0 k1 y1 k2 y2 k3 y3 k4 y4 k5 y5 k6 y6 k7 y7 k8 y8 k9 y9 k10 y10 u0 v0 u1 v1 u2 v2 u3 v3 u4 v4 u5 v5 u6 v6 u7 v7 u8 v8 u9 v9 u10 v10 c0 c1 c2 c3 q0 q1 q2 q3
        replace g0 := blk_below g0 hb3
        replace g1 := blk_below g1 hb3
        replace g2 := blk_below g2 hb3
        replace g3 := blk_below g3 hb3
        replace hb := below_then hb hb3
        obtain ⟨r0, r1, r2, r3, r4, r5, r6, r7, r8, r9, r10, r11⟩ := cl12 g0
        obtain ⟨k0, y0, k1, y1, k2, y2, k3, y3, k4, y4, k5, y5, k6, y6, k7, y7, k8, y8, k9, y9, k10, y10⟩ := cells11 g1
        obtain ⟨c0, c1, c2, c3⟩ := cells4p g2
        obtain ⟨u0, v0, u1, v1, u2, v2, u3, v3, u4, v4, u5, v5, u6, v6, u7, v7, u8, v8, u9, v9, u10, v10⟩ := cells11 g3
        have q0 := (Array.getElem?_eq_some_iff.1 g0).1
        have q1 := (Array.getElem?_eq_some_iff.1 g1).1
        have q2 := (Array.getElem?_eq_some_iff.1 g2).1
        have q3 := (Array.getElem?_eq_some_iff.1 g3).1
        have HB := Lib.hid hb
        go_wp2_with fail
        refine bodyPost_ret ?_ rfl ⟨rfl, ?_⟩
        · simp [results, Tryd.results78, go_sem, u0, u1, u2, u3, u4, u5, u6, u7, u8, u9, u10]
        · (repeat' (first | with_reducible exact HB.out | (with_reducible refine Below.setCell ?_ ?_ _))) <;> (simp; try omega)
end Go.Proofs.YtmkehailohgebaaDoor
