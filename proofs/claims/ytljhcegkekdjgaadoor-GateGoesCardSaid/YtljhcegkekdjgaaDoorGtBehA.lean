/- The document's own program of a set of access rules: the frame behind its act. -/
import Derived.Test.YtljhcegkekdjgaaDoorGtBeh
namespace Go.Proofs.YtljhcegkekdjgaaDoor
open Go.RowKit Go.Lib Pt Opn

/-- A world gets a name. -/
theorem ent_w {P : Program} {code : Code} {Q : Exit → Act → World → Prop} {x : Act} {w : World} (h : ∀ W, W = w → code.wp P Q x W) : code.wp P Q x w := h w rfl

set_option maxRecDepth 100000 in
set_option maxHeartbeats 16000000 in
theorem rBehG_2 (c : Cf) (f : Ds) (t A B C : Nat) (hp : f.pc = 2) (w : World) : Calls Tryd.prog 29 #[cfv c, frv f, cvT t A B C] w (Ret (frv (behindG c f A B C)) w) := by
  rw [bhG_2 hp]
  obtain ⟨t', k, seq, kind, a, b, pc, i, j, n, p, h, x, y⟩ := f
  unfold cfv cvT frv at *
  simp only at *
  subst hp
  simp only [show ((2 : Nat) : Int) = 2 from rfl, show ((20 : Nat) : Int) = 20 from rfl]
  go_enter Tryd.func29, Tryd.ntmps29
  go_upto_region 1 with fail
  refine enter4 fun W hb g0 g1 g2 g3 q0 q1 q2 q3 => ?_
  obtain ⟨r0, r1, r2, r3, r4, r5, r6, r7, r8, r9, r10, r11⟩ := cl12 g0
  obtain ⟨k0, y0, k1, y1, k2, y2, k3, y3, k4, y4, k5, y5, k6, y6, k7, y7, k8, y8, k9, y9, k10, y10⟩ := cells11 g1
  obtain ⟨c0, c1, c2, c3⟩ := cells4p g2
  obtain ⟨u0, v0, u1, v1, u2, v2, u3, v3, u4, v4, u5, v5, u6, v6, u7, v7, u8, v8, u9, v9, u10, v10⟩ := cells11 g3
  clear q0 q1 q2 q3
  have q0 := (Array.getElem?_eq_some_iff.1 g0).1
  have q1 := (Array.getElem?_eq_some_iff.1 g1).1
  have q2 := (Array.getElem?_eq_some_iff.1 g2).1
  have q3 := (Array.getElem?_eq_some_iff.1 g3).1
  go_wp2_with fail
  have HB := Lib.hid hb
  clear hb
  refine bodyPost_ret ?_ rfl ⟨rfl, ?_⟩
  · simp [results, Tryd.results29, go_sem, u0, u1, u2, u3, u4, u5, u6, u7, u8, u9, u10]
  · (repeat' (first | with_reducible exact HB.out | (with_reducible refine Below.setCell ?_ ?_ _) | (with_reducible refine Below.alloc ?_ ?_ _))) <;> (simp; try omega)

set_option maxRecDepth 100000 in
set_option maxHeartbeats 16000000 in
theorem rBehG_stay (c : Cf) (f : Ds) (t A B C : Nat) (hp : f.pc = 20 ∨ f.pc = 21 ∨ f.pc = 22) (w : World) : Calls Tryd.prog 29 #[cfv c, frv f, cvT t A B C] w (Ret (frv (behindG c f A B C)) w) := by
  rw [bhG_stay (by omega) (by omega)]
  obtain ⟨t', k, seq, kind, a, b, pc, i, j, n, p, h, x, y⟩ := f
  unfold cfv cvT frv at *
  simp only at *
  rcases hp with rfl | rfl | rfl
  all_goals
    simp only [show ((20 : Nat) : Int) = 20 from rfl, show ((21 : Nat) : Int) = 21 from rfl, show ((22 : Nat) : Int) = 22 from rfl]
    go_enter Tryd.func29, Tryd.ntmps29
    go_upto_region 1 with fail
    refine enter4 fun W hb g0 g1 g2 g3 q0 q1 q2 q3 => ?_
    obtain ⟨r0, r1, r2, r3, r4, r5, r6, r7, r8, r9, r10, r11⟩ := cl12 g0
    obtain ⟨k0, y0, k1, y1, k2, y2, k3, y3, k4, y4, k5, y5, k6, y6, k7, y7, k8, y8, k9, y9, k10, y10⟩ := cells11 g1
    obtain ⟨c0, c1, c2, c3⟩ := cells4p g2
    obtain ⟨u0, v0, u1, v1, u2, v2, u3, v3, u4, v4, u5, v5, u6, v6, u7, v7, u8, v8, u9, v9, u10, v10⟩ := cells11 g3
    clear q0 q1 q2 q3
    have q0 := (Array.getElem?_eq_some_iff.1 g0).1
    have q1 := (Array.getElem?_eq_some_iff.1 g1).1
    have q2 := (Array.getElem?_eq_some_iff.1 g2).1
    have q3 := (Array.getElem?_eq_some_iff.1 g3).1
    go_wp2_with fail
    have HB := Lib.hid hb
    clear hb
    refine bodyPost_ret ?_ rfl ⟨rfl, ?_⟩
    · simp [results, Tryd.results29, go_sem, u0, u1, u2, u3, u4, u5, u6, u7, u8, u9, u10]
    · (repeat' (first | with_reducible exact HB.out | (with_reducible refine Below.setCell ?_ ?_ _) | (with_reducible refine Below.alloc ?_ ?_ _))) <;> (simp; try omega)
set_option maxRecDepth 100000 in
set_option maxHeartbeats 16000000 in
theorem rBehG_check (c : Cf) (f : Ds) (t A B C : Nat) (hp : f.pc = 0) (hk : f.kind = 11) (hw : DWf f) (hi : f.i ≤ 31) (w : World) : Calls Tryd.prog 29 #[cfv c, frv f, cvT t A B C] w (Ret (frv (behindG c f A B C)) w) := by
  have HS := Lib.hid (fun W => rCheckedG_any c f t A B C hw hp hi W)
  rw [bhG_check hp hk]
  obtain ⟨X, hX⟩ : ∃ X, checkedG c f A B C = X := ⟨_, rfl⟩
  rw [hX] at HS ⊢
  clear hX hw hi
  obtain ⟨z0, z1, z2, z3, z4, z5, z6, z7, z8, z9, z10, z11, z12, z13⟩ := X
  obtain ⟨t', k, seq, kind, a, b, pc, i, j, n, p, h, x, y⟩ := f
  unfold cfv cvT frv at *
  simp only at *
  subst hp hk
  simp only [show ((0 : Nat) : Int) = 0 from rfl, show ((11 : Nat) : Int) = 11 from rfl] at HS ⊢
  go_enter Tryd.func29, Tryd.ntmps29
  go_upto_region 1 with fail
  refine enter4 fun W hb g0 g1 g2 g3 q0 q1 q2 q3 => ?_
  obtain ⟨r0, r1, r2, r3, r4, r5, r6, r7, r8, r9, r10, r11⟩ := cl12 g0
  obtain ⟨k0, y0, k1, y1, k2, y2, k3, y3, k4, y4, k5, y5, k6, y6, k7, y7, k8, y8, k9, y9, k10, y10⟩ := cells11 g1
  obtain ⟨c0, c1, c2, c3⟩ := cells4p g2
  obtain ⟨u0, v0, u1, v1, u2, v2, u3, v3, u4, v4, u5, v5, u6, v6, u7, v7, u8, v8, u9, v9, u10, v10⟩ := cells11 g3
  clear q0 q1 q2 q3
  have q0 := (Array.getElem?_eq_some_iff.1 g0).1
  have q1 := (Array.getElem?_eq_some_iff.1 g1).1
  have q2 := (Array.getElem?_eq_some_iff.1 g2).1
  have q3 := (Array.getElem?_eq_some_iff.1 g3).1
  go_wp2_with (go_at_call 49; refine (HS.out _).mono ?_; rintro e w1 ⟨rfl, hb1⟩; replace hb := below_then hb hb1; replace g0 := blk_below g0 hb1; replace g1 := blk_below g1 hb1; replace g2 := blk_below g2 hb1; replace g3 := blk_below g3 hb1; clear hb1; clear r0 r1 r2 r3 r4 r5 r6 r7 r8 r9 r10 r11 k0 y0 k1 y1 k2 y2 k3 y3 k4 y4 k5 y5 k6 y6 k7 y7 k8 y8 k9 y9 k10 y10 c0 c1 c2 c3 u0 v0 u1 v1 u2 v2 u3 v3 u4 v4 u5 v5 u6 v6 u7 v7 u8 v8 u9 v9 u10 v10 q0 q1 q2 q3; obtain ⟨r0, r1, r2, r3, r4, r5, r6, r7, r8, r9, r10, r11⟩ := cl12 g0; obtain ⟨k0, y0, k1, y1, k2, y2, k3, y3, k4, y4, k5, y5, k6, y6, k7, y7, k8, y8, k9, y9, k10, y10⟩ := cells11 g1; obtain ⟨c0, c1, c2, c3⟩ := cells4p g2; obtain ⟨u0, v0, u1, v1, u2, v2, u3, v3, u4, v4, u5, v5, u6, v6, u7, v7, u8, v8, u9, v9, u10, v10⟩ := cells11 g3; have q0 := (Array.getElem?_eq_some_iff.1 g0).1; have q1 := (Array.getElem?_eq_some_iff.1 g1).1; have q2 := (Array.getElem?_eq_some_iff.1 g2).1; have q3 := (Array.getElem?_eq_some_iff.1 g3).1)
  have HB := Lib.hid hb
  clear hb
  refine bodyPost_ret ?_ rfl ⟨rfl, ?_⟩
  · simp [results, Tryd.results29, go_sem, u0, u1, u2, u3, u4, u5, u6, u7, u8, u9, u10]
  · (repeat' (first | with_reducible exact HB.out | (with_reducible refine Below.setCell ?_ ?_ _) | (with_reducible refine Below.alloc ?_ ?_ _))) <;> (simp; try omega)

set_option maxRecDepth 100000 in
set_option maxHeartbeats 16000000 in
theorem rBehG_has (c : Cf) (f : Ds) (t A B C : Nat) (hp : f.pc = 0) (hk : f.kind = 9 ∨ f.kind = 10) (hs : hasG f A B C) (hw : DWf f) (w : World) : Calls Tryd.prog 29 #[cfv c, frv f, cvT t A B C] w (Ret (frv (behindG c f A B C)) w) := by
  have HS := Lib.hid (fun W => rHasG_any f t A B C hw W)
  rw [decide_eq_true hs] at HS
  rw [bhG_has hp (by omega) hs]
  have hk1 : ((f.kind : Int) == 11) = false := by simp; omega
  clear hs hw
  obtain ⟨V, hV⟩ : ∃ V, A % 4294967296 = V := ⟨_, rfl⟩
  have e1 : IntKind.u32.wrap ((A : Int) % 4294967296) = (V : Int) := by rw [IntKind.wrap_u32]; omega
  rw [hV]
  clear hV hk
  obtain ⟨t', k, seq, kind, a, b, pc, i, j, n, p, h, x, y⟩ := f
  unfold cfv cvT frv at *
  simp only at *
  subst hp
  simp only [show ((0 : Nat) : Int) = 0 from rfl, show ((2 : Nat) : Int) = 2 from rfl] at HS ⊢
  go_enter Tryd.func29, Tryd.ntmps29
  go_upto_region 1 with fail
  refine enter4 fun W hb g0 g1 g2 g3 q0 q1 q2 q3 => ?_
  obtain ⟨r0, r1, r2, r3, r4, r5, r6, r7, r8, r9, r10, r11⟩ := cl12 g0
  obtain ⟨k0, y0, k1, y1, k2, y2, k3, y3, k4, y4, k5, y5, k6, y6, k7, y7, k8, y8, k9, y9, k10, y10⟩ := cells11 g1
  obtain ⟨c0, c1, c2, c3⟩ := cells4p g2
  obtain ⟨u0, v0, u1, v1, u2, v2, u3, v3, u4, v4, u5, v5, u6, v6, u7, v7, u8, v8, u9, v9, u10, v10⟩ := cells11 g3
  clear q0 q1 q2 q3
  have q0 := (Array.getElem?_eq_some_iff.1 g0).1
  have q1 := (Array.getElem?_eq_some_iff.1 g1).1
  have q2 := (Array.getElem?_eq_some_iff.1 g2).1
  have q3 := (Array.getElem?_eq_some_iff.1 g3).1
  go_wp2_with (go_at_call 50; refine (HS.out _).mono ?_; rintro e w1 ⟨rfl, hb1⟩; replace hb := below_then hb hb1; replace g0 := blk_below g0 hb1; replace g1 := blk_below g1 hb1; replace g2 := blk_below g2 hb1; replace g3 := blk_below g3 hb1; clear hb1; clear r0 r1 r2 r3 r4 r5 r6 r7 r8 r9 r10 r11 k0 y0 k1 y1 k2 y2 k3 y3 k4 y4 k5 y5 k6 y6 k7 y7 k8 y8 k9 y9 k10 y10 c0 c1 c2 c3 u0 v0 u1 v1 u2 v2 u3 v3 u4 v4 u5 v5 u6 v6 u7 v7 u8 v8 u9 v9 u10 v10 q0 q1 q2 q3; obtain ⟨r0, r1, r2, r3, r4, r5, r6, r7, r8, r9, r10, r11⟩ := cl12 g0; obtain ⟨k0, y0, k1, y1, k2, y2, k3, y3, k4, y4, k5, y5, k6, y6, k7, y7, k8, y8, k9, y9, k10, y10⟩ := cells11 g1; obtain ⟨c0, c1, c2, c3⟩ := cells4p g2; obtain ⟨u0, v0, u1, v1, u2, v2, u3, v3, u4, v4, u5, v5, u6, v6, u7, v7, u8, v8, u9, v9, u10, v10⟩ := cells11 g3; have q0 := (Array.getElem?_eq_some_iff.1 g0).1; have q1 := (Array.getElem?_eq_some_iff.1 g1).1; have q2 := (Array.getElem?_eq_some_iff.1 g2).1; have q3 := (Array.getElem?_eq_some_iff.1 g3).1)
  have HB := Lib.hid hb
  clear hb
  refine bodyPost_ret ?_ rfl ⟨rfl, ?_⟩
  · simp [results, Tryd.results29, go_sem, u0, u1, u2, u3, u4, u5, u6, u7, u8, u9, u10]
  · (repeat' (first | with_reducible exact HB.out | (with_reducible refine Below.setCell ?_ ?_ _) | (with_reducible refine Below.alloc ?_ ?_ _))) <;> (simp; try omega)

set_option maxRecDepth 100000 in
set_option maxHeartbeats 16000000 in
theorem rBehG_lt (c : Cf) (f : Ds) (t A B C : Nat) (hp : f.pc = 0) (hs : ¬ hasG f A B C) (hw : DWf f) (hi : f.i ≤ 31) (hk : f.kind = 9 ∨ f.kind = 10) (hh : f.h ≤ 1) (hl : (f.i : Int) + 1 < c.cap) (w : World) : Calls Tryd.prog 29 #[cfv c, frv f, cvT t A B C] w (Ret (frv (behindG c f A B C)) w) := by
  have HS := Lib.hid (fun W => rHasG_any f t A B C hw W)
  rw [decide_eq_false hs] at HS
  rw [bhG_not hp (by omega) hs]
  obtain ⟨X, hX⟩ : ∃ X, overG c (roomG f A) = X := ⟨_, rfl⟩
  rw [hX]
  unfold overG roomG at hX
  clear hs hw
  obtain ⟨t', k, seq, kind, a, b, pc, i, j, n, p, h, x, y⟩ := f
  unfold cfv cvT frv at *
  simp only at *
  subst hp
  have i1 : IntKind.i64.wrap (i : Int) = (i : Int) := by rw [IntKind.wrap_i64]; omega
  have i2 : IntKind.u8.wrap ((i : Int) + 1) = ((i + 1 : Nat) : Int) := by rw [IntKind.wrap_u8]; omega
  have i3 : IntKind.i64.wrap ((i : Int) + 1) = (i : Int) + 1 := by rw [IntKind.wrap_i64]; omega
  have hA : A = 0 ∨ (A ≠ 0 ∧ ((A : Int) == 0) = false) := by
    by_cases g : A = 0
    · exact .inl g
    · exact .inr ⟨g, by simp; omega⟩
  have hh2 : h = 0 ∨ h = 1 := by omega
  clear hh
  rcases hk with rfl | rfl <;> rcases hA with rfl | ⟨A1, A2⟩ <;> rcases hh2 with rfl | rfl
  all_goals
    simp [*] at hX
    subst hX
    try clear A1
    clear hi
    simp only [show ((0 : Nat) : Int) = 0 from rfl, show ((1 : Nat) : Int) = 1 from rfl, show ((9 : Nat) : Int) = 9 from rfl, show ((10 : Nat) : Int) = 10 from rfl] at HS ⊢
    go_enter Tryd.func29, Tryd.ntmps29
    go_upto_region 1 with fail
    refine enter4 fun W hb g0 g1 g2 g3 q0 q1 q2 q3 => ?_
    obtain ⟨r0, r1, r2, r3, r4, r5, r6, r7, r8, r9, r10, r11⟩ := cl12 g0
    obtain ⟨k0, y0, k1, y1, k2, y2, k3, y3, k4, y4, k5, y5, k6, y6, k7, y7, k8, y8, k9, y9, k10, y10⟩ := cells11 g1
    obtain ⟨c0, c1, c2, c3⟩ := cells4p g2
    obtain ⟨u0, v0, u1, v1, u2, v2, u3, v3, u4, v4, u5, v5, u6, v6, u7, v7, u8, v8, u9, v9, u10, v10⟩ := cells11 g3
    clear q0 q1 q2 q3
    have q0 := (Array.getElem?_eq_some_iff.1 g0).1
    have q1 := (Array.getElem?_eq_some_iff.1 g1).1
    have q2 := (Array.getElem?_eq_some_iff.1 g2).1
    have q3 := (Array.getElem?_eq_some_iff.1 g3).1
    go_wp2_with (go_at_call 50; refine (HS.out _).mono ?_; rintro e w1 ⟨rfl, hb1⟩; replace hb := below_then hb hb1; replace g0 := blk_below g0 hb1; replace g1 := blk_below g1 hb1; replace g2 := blk_below g2 hb1; replace g3 := blk_below g3 hb1; clear hb1; clear r0 r1 r2 r3 r4 r5 r6 r7 r8 r9 r10 r11 k0 y0 k1 y1 k2 y2 k3 y3 k4 y4 k5 y5 k6 y6 k7 y7 k8 y8 k9 y9 k10 y10 c0 c1 c2 c3 u0 v0 u1 v1 u2 v2 u3 v3 u4 v4 u5 v5 u6 v6 u7 v7 u8 v8 u9 v9 u10 v10 q0 q1 q2 q3; obtain ⟨r0, r1, r2, r3, r4, r5, r6, r7, r8, r9, r10, r11⟩ := cl12 g0; obtain ⟨k0, y0, k1, y1, k2, y2, k3, y3, k4, y4, k5, y5, k6, y6, k7, y7, k8, y8, k9, y9, k10, y10⟩ := cells11 g1; obtain ⟨c0, c1, c2, c3⟩ := cells4p g2; obtain ⟨u0, v0, u1, v1, u2, v2, u3, v3, u4, v4, u5, v5, u6, v6, u7, v7, u8, v8, u9, v9, u10, v10⟩ := cells11 g3; have q0 := (Array.getElem?_eq_some_iff.1 g0).1; have q1 := (Array.getElem?_eq_some_iff.1 g1).1; have q2 := (Array.getElem?_eq_some_iff.1 g2).1; have q3 := (Array.getElem?_eq_some_iff.1 g3).1)
    have HB := Lib.hid hb
    clear hb
    refine bodyPost_ret ?_ rfl ⟨rfl, ?_⟩
    · simp [results, Tryd.results29, go_sem, u0, u1, u2, u3, u4, u5, u6, u7, u8, u9, u10]
    · (repeat' (first | with_reducible exact HB.out | (with_reducible refine Below.setCell ?_ ?_ _) | (with_reducible refine Below.alloc ?_ ?_ _))) <;> (simp; try omega)
set_option maxRecDepth 100000 in
set_option maxHeartbeats 16000000 in
theorem rBehG_drop (c : Cf) (f : Ds) (t A B C : Nat) (hp : f.pc = 0) (hs : ¬ hasG f A B C) (hw : DWf f) (hi : f.i ≤ 31) (hk : f.kind = 10) (hl : ¬ (f.i : Int) + 1 < c.cap) (w : World) : Calls Tryd.prog 29 #[cfv c, frv f, cvT t A B C] w (Ret (frv (behindG c f A B C)) w) := by
  have HS := Lib.hid (fun W => rHasG_any f t A B C hw W)
  rw [decide_eq_false hs] at HS
  rw [bhG_not hp (by omega) hs]
  obtain ⟨X, hX⟩ : ∃ X, overG c (roomG f A) = X := ⟨_, rfl⟩
  rw [hX]
  unfold overG roomG at hX
  clear hs hw
  obtain ⟨t', k, seq, kind, a, b, pc, i, j, n, p, h, x, y⟩ := f
  unfold cfv cvT frv at *
  simp only at *
  subst hp
  have i1 : IntKind.i64.wrap (i : Int) = (i : Int) := by rw [IntKind.wrap_i64]; omega
  have i2 : IntKind.u8.wrap ((i : Int) + 1) = ((i + 1 : Nat) : Int) := by rw [IntKind.wrap_u8]; omega
  have i3 : IntKind.i64.wrap ((i : Int) + 1) = (i : Int) + 1 := by rw [IntKind.wrap_i64]; omega
  subst hk
  all_goals
    simp [*] at hX
    subst hX
    try clear A1
    clear hi
    simp only [show ((0 : Nat) : Int) = 0 from rfl, show ((10 : Nat) : Int) = 10 from rfl, show ((21 : Nat) : Int) = 21 from rfl] at HS ⊢
    go_enter Tryd.func29, Tryd.ntmps29
    go_upto_region 1 with fail
    refine enter4 fun W hb g0 g1 g2 g3 q0 q1 q2 q3 => ?_
    obtain ⟨r0, r1, r2, r3, r4, r5, r6, r7, r8, r9, r10, r11⟩ := cl12 g0
    obtain ⟨k0, y0, k1, y1, k2, y2, k3, y3, k4, y4, k5, y5, k6, y6, k7, y7, k8, y8, k9, y9, k10, y10⟩ := cells11 g1
    obtain ⟨c0, c1, c2, c3⟩ := cells4p g2
    obtain ⟨u0, v0, u1, v1, u2, v2, u3, v3, u4, v4, u5, v5, u6, v6, u7, v7, u8, v8, u9, v9, u10, v10⟩ := cells11 g3
    clear q0 q1 q2 q3
    have q0 := (Array.getElem?_eq_some_iff.1 g0).1
    have q1 := (Array.getElem?_eq_some_iff.1 g1).1
    have q2 := (Array.getElem?_eq_some_iff.1 g2).1
    have q3 := (Array.getElem?_eq_some_iff.1 g3).1
    go_wp2_with (go_at_call 50; refine (HS.out _).mono ?_; rintro e w1 ⟨rfl, hb1⟩; replace hb := below_then hb hb1; replace g0 := blk_below g0 hb1; replace g1 := blk_below g1 hb1; replace g2 := blk_below g2 hb1; replace g3 := blk_below g3 hb1; clear hb1; clear r0 r1 r2 r3 r4 r5 r6 r7 r8 r9 r10 r11 k0 y0 k1 y1 k2 y2 k3 y3 k4 y4 k5 y5 k6 y6 k7 y7 k8 y8 k9 y9 k10 y10 c0 c1 c2 c3 u0 v0 u1 v1 u2 v2 u3 v3 u4 v4 u5 v5 u6 v6 u7 v7 u8 v8 u9 v9 u10 v10 q0 q1 q2 q3; obtain ⟨r0, r1, r2, r3, r4, r5, r6, r7, r8, r9, r10, r11⟩ := cl12 g0; obtain ⟨k0, y0, k1, y1, k2, y2, k3, y3, k4, y4, k5, y5, k6, y6, k7, y7, k8, y8, k9, y9, k10, y10⟩ := cells11 g1; obtain ⟨c0, c1, c2, c3⟩ := cells4p g2; obtain ⟨u0, v0, u1, v1, u2, v2, u3, v3, u4, v4, u5, v5, u6, v6, u7, v7, u8, v8, u9, v9, u10, v10⟩ := cells11 g3; have q0 := (Array.getElem?_eq_some_iff.1 g0).1; have q1 := (Array.getElem?_eq_some_iff.1 g1).1; have q2 := (Array.getElem?_eq_some_iff.1 g2).1; have q3 := (Array.getElem?_eq_some_iff.1 g3).1)
    have HB := Lib.hid hb
    clear hb
    refine bodyPost_ret ?_ rfl ⟨rfl, ?_⟩
    · simp [results, Tryd.results29, go_sem, u0, u1, u2, u3, u4, u5, u6, u7, u8, u9, u10]
    · (repeat' (first | with_reducible exact HB.out | (with_reducible refine Below.setCell ?_ ?_ _) | (with_reducible refine Below.alloc ?_ ?_ _))) <;> (simp; try omega)
set_option maxRecDepth 100000 in
set_option maxHeartbeats 16000000 in
theorem rBehG_full0 (c : Cf) (f : Ds) (t A B C : Nat) (hp : f.pc = 0) (hs : ¬ hasG f A B C) (hw : DWf f) (hi : f.i ≤ 31) (hk : f.kind = 9) (hh : f.h = 0) (hA0 : A ≠ 0) (hl : ¬ (f.i : Int) + 1 < c.cap) (w : World) : Calls Tryd.prog 29 #[cfv c, frv f, cvT t A B C] w (Ret (frv (behindG c f A B C)) w) := by
  have HS := Lib.hid (fun W => rHasG_any f t A B C hw W)
  rw [decide_eq_false hs] at HS
  rw [bhG_not hp (by omega) hs]
  obtain ⟨X, hX⟩ : ∃ X, overG c (roomG f A) = X := ⟨_, rfl⟩
  rw [hX]
  unfold overG roomG at hX
  clear hs hw
  obtain ⟨t', k, seq, kind, a, b, pc, i, j, n, p, h, x, y⟩ := f
  unfold cfv cvT frv at *
  simp only at *
  subst hp
  have i1 : IntKind.i64.wrap (i : Int) = (i : Int) := by rw [IntKind.wrap_i64]; omega
  have i2 : IntKind.u8.wrap ((i : Int) + 1) = ((i + 1 : Nat) : Int) := by rw [IntKind.wrap_u8]; omega
  have i3 : IntKind.i64.wrap ((i : Int) + 1) = (i : Int) + 1 := by rw [IntKind.wrap_i64]; omega
  have A2 : ((A : Int) == 0) = false := by simp; omega
  subst hk hh
  all_goals
    simp [*] at hX
    subst hX
    try clear A1
    clear hi
    simp only [show ((0 : Nat) : Int) = 0 from rfl, show ((9 : Nat) : Int) = 9 from rfl, show ((22 : Nat) : Int) = 22 from rfl] at HS ⊢
    go_enter Tryd.func29, Tryd.ntmps29
    go_upto_region 1 with fail
    refine enter4 fun W hb g0 g1 g2 g3 q0 q1 q2 q3 => ?_
    obtain ⟨r0, r1, r2, r3, r4, r5, r6, r7, r8, r9, r10, r11⟩ := cl12 g0
    obtain ⟨k0, y0, k1, y1, k2, y2, k3, y3, k4, y4, k5, y5, k6, y6, k7, y7, k8, y8, k9, y9, k10, y10⟩ := cells11 g1
    obtain ⟨c0, c1, c2, c3⟩ := cells4p g2
    obtain ⟨u0, v0, u1, v1, u2, v2, u3, v3, u4, v4, u5, v5, u6, v6, u7, v7, u8, v8, u9, v9, u10, v10⟩ := cells11 g3
    clear q0 q1 q2 q3
    have q0 := (Array.getElem?_eq_some_iff.1 g0).1
    have q1 := (Array.getElem?_eq_some_iff.1 g1).1
    have q2 := (Array.getElem?_eq_some_iff.1 g2).1
    have q3 := (Array.getElem?_eq_some_iff.1 g3).1
    go_upto_region 24 with (go_at_call 50; refine (HS.out _).mono ?_; rintro e w1 ⟨rfl, hb1⟩; replace hb := below_then hb hb1; replace g0 := blk_below g0 hb1; replace g1 := blk_below g1 hb1; replace g2 := blk_below g2 hb1; replace g3 := blk_below g3 hb1; clear hb1; clear r0 r1 r2 r3 r4 r5 r6 r7 r8 r9 r10 r11 k0 y0 k1 y1 k2 y2 k3 y3 k4 y4 k5 y5 k6 y6 k7 y7 k8 y8 k9 y9 k10 y10 c0 c1 c2 c3 u0 v0 u1 v1 u2 v2 u3 v3 u4 v4 u5 v5 u6 v6 u7 v7 u8 v8 u9 v9 u10 v10 q0 q1 q2 q3; obtain ⟨r0, r1, r2, r3, r4, r5, r6, r7, r8, r9, r10, r11⟩ := cl12 g0; obtain ⟨k0, y0, k1, y1, k2, y2, k3, y3, k4, y4, k5, y5, k6, y6, k7, y7, k8, y8, k9, y9, k10, y10⟩ := cells11 g1; obtain ⟨c0, c1, c2, c3⟩ := cells4p g2; obtain ⟨u0, v0, u1, v1, u2, v2, u3, v3, u4, v4, u5, v5, u6, v6, u7, v7, u8, v8, u9, v9, u10, v10⟩ := cells11 g3; have q0 := (Array.getElem?_eq_some_iff.1 g0).1; have q1 := (Array.getElem?_eq_some_iff.1 g1).1; have q2 := (Array.getElem?_eq_some_iff.1 g2).1; have q3 := (Array.getElem?_eq_some_iff.1 g3).1)
    refine ent_w fun W2 hW2 => ?_
    have G1 : W2.heap[w.heap.size + 1]? = some (.cells #[.int .u8 9, .int .u32 (a : Nat), .int .u32 (b : Nat), .int .u8 22, .int .u8 (i : Nat), .int .u8 (j : Nat), .int .u8 (n : Nat), .int .u8 (p : Nat), .int .u8 0, .int .u32 0, .int .u32 (y : Nat)] 32 (0, 0)) := by
      rw [hW2]
      exact st_of (bk_store (bk_store g1 9 _) 3 _) rfl
    have G3 : W2.heap[w.heap.size + 1 + 1 + 1]? = w1.heap[w.heap.size + 1 + 1 + 1]? := by
      rw [hW2]
      exact (only_set (only_set (Only.refl (fun k => k = w.heap.size + 1) w1) 9 _) 3 _).block _ (by omega) (by omega)
    rw [g3] at G3
    have HB2 : Below w.heap.size w W2 := by
      rw [hW2]
      repeat' (first | with_reducible exact hb | (with_reducible refine Below.setCell ?_ ?_ _))
      all_goals (simp; try omega)
    clear hW2 hb g0 g1 g2 g3 r0 r1 r2 r3 r4 r5 r6 r7 r8 r9 r10 r11 k0 y0 k1 y1 k2 y2 k3 y3 k4 y4 k5 y5 k6 y6 k7 y7 k8 y8 k9 y9 k10 y10 c0 c1 c2 c3 u0 v0 u1 v1 u2 v2 u3 v3 u4 v4 u5 v5 u6 v6 u7 v7 u8 v8 u9 v9 u10 v10 q0 q1 q2 q3
    have hb := HB2
    have g1 := G1
    have g3 := G3
    obtain ⟨k0, y0, k1, y1, k2, y2, k3, y3, k4, y4, k5, y5, k6, y6, k7, y7, k8, y8, k9, y9, k10, y10⟩ := cells11 g1
    obtain ⟨u0, v0, u1, v1, u2, v2, u3, v3, u4, v4, u5, v5, u6, v6, u7, v7, u8, v8, u9, v9, u10, v10⟩ := cells11 g3
    have q1 := (Array.getElem?_eq_some_iff.1 g1).1
    have q3 := (Array.getElem?_eq_some_iff.1 g3).1
    clear HB2 G1 G3
    go_wp2_with fail
    have HB := Lib.hid hb
    clear hb
    refine bodyPost_ret ?_ rfl ⟨rfl, ?_⟩
    · simp [results, Tryd.results29, go_sem, u0, u1, u2, u3, u4, u5, u6, u7, u8, u9, u10]
    · (repeat' (first | with_reducible exact HB.out | (with_reducible refine Below.setCell ?_ ?_ _) | (with_reducible refine Below.alloc ?_ ?_ _))) <;> (simp; try omega)
set_option maxRecDepth 100000 in
set_option maxHeartbeats 16000000 in
theorem rBehG_full1 (c : Cf) (f : Ds) (t A B C : Nat) (hp : f.pc = 0) (hs : ¬ hasG f A B C) (hw : DWf f) (hi : f.i ≤ 31) (hk : f.kind = 9) (hh : f.h = 1) (hl : ¬ (f.i : Int) + 1 < c.cap) (w : World) : Calls Tryd.prog 29 #[cfv c, frv f, cvT t A B C] w (Ret (frv (behindG c f A B C)) w) := by
  have HS := Lib.hid (fun W => rHasG_any f t A B C hw W)
  rw [decide_eq_false hs] at HS
  rw [bhG_not hp (by omega) hs]
  obtain ⟨X, hX⟩ : ∃ X, overG c (roomG f A) = X := ⟨_, rfl⟩
  rw [hX]
  unfold overG roomG at hX
  clear hs hw
  obtain ⟨t', k, seq, kind, a, b, pc, i, j, n, p, h, x, y⟩ := f
  unfold cfv cvT frv at *
  simp only at *
  subst hp
  have i1 : IntKind.i64.wrap (i : Int) = (i : Int) := by rw [IntKind.wrap_i64]; omega
  have i2 : IntKind.u8.wrap ((i : Int) + 1) = ((i + 1 : Nat) : Int) := by rw [IntKind.wrap_u8]; omega
  have i3 : IntKind.i64.wrap ((i : Int) + 1) = (i : Int) + 1 := by rw [IntKind.wrap_i64]; omega
  have hA : A = 0 ∨ (A ≠ 0 ∧ ((A : Int) == 0) = false) := by
    by_cases g : A = 0
    · exact .inl g
    · exact .inr ⟨g, by simp; omega⟩
  subst hk hh
  rcases hA with rfl | ⟨A1, A2⟩
  all_goals
    simp [*] at hX
    subst hX
    try clear A1
    clear hi
    simp only [show ((0 : Nat) : Int) = 0 from rfl, show ((1 : Nat) : Int) = 1 from rfl, show ((2 : Nat) : Int) = 2 from rfl, show ((9 : Nat) : Int) = 9 from rfl] at HS ⊢
    go_enter Tryd.func29, Tryd.ntmps29
    go_upto_region 1 with fail
    refine enter4 fun W hb g0 g1 g2 g3 q0 q1 q2 q3 => ?_
    obtain ⟨r0, r1, r2, r3, r4, r5, r6, r7, r8, r9, r10, r11⟩ := cl12 g0
    obtain ⟨k0, y0, k1, y1, k2, y2, k3, y3, k4, y4, k5, y5, k6, y6, k7, y7, k8, y8, k9, y9, k10, y10⟩ := cells11 g1
    obtain ⟨c0, c1, c2, c3⟩ := cells4p g2
    obtain ⟨u0, v0, u1, v1, u2, v2, u3, v3, u4, v4, u5, v5, u6, v6, u7, v7, u8, v8, u9, v9, u10, v10⟩ := cells11 g3
    clear q0 q1 q2 q3
    have q0 := (Array.getElem?_eq_some_iff.1 g0).1
    have q1 := (Array.getElem?_eq_some_iff.1 g1).1
    have q2 := (Array.getElem?_eq_some_iff.1 g2).1
    have q3 := (Array.getElem?_eq_some_iff.1 g3).1
    go_upto_region 24 with (go_at_call 50; refine (HS.out _).mono ?_; rintro e w1 ⟨rfl, hb1⟩; replace hb := below_then hb hb1; replace g0 := blk_below g0 hb1; replace g1 := blk_below g1 hb1; replace g2 := blk_below g2 hb1; replace g3 := blk_below g3 hb1; clear hb1; clear r0 r1 r2 r3 r4 r5 r6 r7 r8 r9 r10 r11 k0 y0 k1 y1 k2 y2 k3 y3 k4 y4 k5 y5 k6 y6 k7 y7 k8 y8 k9 y9 k10 y10 c0 c1 c2 c3 u0 v0 u1 v1 u2 v2 u3 v3 u4 v4 u5 v5 u6 v6 u7 v7 u8 v8 u9 v9 u10 v10 q0 q1 q2 q3; obtain ⟨r0, r1, r2, r3, r4, r5, r6, r7, r8, r9, r10, r11⟩ := cl12 g0; obtain ⟨k0, y0, k1, y1, k2, y2, k3, y3, k4, y4, k5, y5, k6, y6, k7, y7, k8, y8, k9, y9, k10, y10⟩ := cells11 g1; obtain ⟨c0, c1, c2, c3⟩ := cells4p g2; obtain ⟨u0, v0, u1, v1, u2, v2, u3, v3, u4, v4, u5, v5, u6, v6, u7, v7, u8, v8, u9, v9, u10, v10⟩ := cells11 g3; have q0 := (Array.getElem?_eq_some_iff.1 g0).1; have q1 := (Array.getElem?_eq_some_iff.1 g1).1; have q2 := (Array.getElem?_eq_some_iff.1 g2).1; have q3 := (Array.getElem?_eq_some_iff.1 g3).1)
    refine ent_w fun W2 hW2 => ?_
    have G1 : W2.heap[w.heap.size + 1]? = some (.cells #[.int .u8 9, .int .u32 (a : Nat), .int .u32 (b : Nat), .int .u8 22, .int .u8 (i : Nat), .int .u8 (j : Nat), .int .u8 (n : Nat), .int .u8 (p : Nat), .int .u8 1, .int .u32 0, .int .u32 (y : Nat)] 32 (0, 0)) := by
      rw [hW2]
      exact st_of (bk_store (bk_store g1 9 _) 3 _) rfl
    have G3 : W2.heap[w.heap.size + 1 + 1 + 1]? = w1.heap[w.heap.size + 1 + 1 + 1]? := by
      rw [hW2]
      exact (only_set (only_set (Only.refl (fun k => k = w.heap.size + 1) w1) 9 _) 3 _).block _ (by omega) (by omega)
    rw [g3] at G3
    have HB2 : Below w.heap.size w W2 := by
      rw [hW2]
      repeat' (first | with_reducible exact hb | (with_reducible refine Below.setCell ?_ ?_ _))
      all_goals (simp; try omega)
    clear hW2 hb g0 g1 g2 g3 r0 r1 r2 r3 r4 r5 r6 r7 r8 r9 r10 r11 k0 y0 k1 y1 k2 y2 k3 y3 k4 y4 k5 y5 k6 y6 k7 y7 k8 y8 k9 y9 k10 y10 c0 c1 c2 c3 u0 v0 u1 v1 u2 v2 u3 v3 u4 v4 u5 v5 u6 v6 u7 v7 u8 v8 u9 v9 u10 v10 q0 q1 q2 q3
    have hb := HB2
    have g1 := G1
    have g3 := G3
    obtain ⟨k0, y0, k1, y1, k2, y2, k3, y3, k4, y4, k5, y5, k6, y6, k7, y7, k8, y8, k9, y9, k10, y10⟩ := cells11 g1
    obtain ⟨u0, v0, u1, v1, u2, v2, u3, v3, u4, v4, u5, v5, u6, v6, u7, v7, u8, v8, u9, v9, u10, v10⟩ := cells11 g3
    have q1 := (Array.getElem?_eq_some_iff.1 g1).1
    have q3 := (Array.getElem?_eq_some_iff.1 g3).1
    clear HB2 G1 G3
    go_wp2_with fail
    have HB := Lib.hid hb
    clear hb
    refine bodyPost_ret ?_ rfl ⟨rfl, ?_⟩
    · simp [results, Tryd.results29, go_sem, u0, u1, u2, u3, u4, u5, u6, u7, u8, u9, u10]
    · (repeat' (first | with_reducible exact HB.out | (with_reducible refine Below.setCell ?_ ?_ _) | (with_reducible refine Below.alloc ?_ ?_ _))) <;> (simp; try omega)
set_option maxRecDepth 100000 in
set_option maxHeartbeats 16000000 in
theorem rBehG_room (c : Cf) (f : Ds) (t A B C : Nat) (hp : f.pc = 0) (hs : ¬ hasG f A B C) (hw : DWf f) (hi : f.i ≤ 31) (hk : f.kind = 9) (hh : f.h = 0) (hA0 : A = 0) (hl : ¬ (f.i : Int) + 1 < c.cap) (w : World) : Calls Tryd.prog 29 #[cfv c, frv f, cvT t A B C] w (Ret (frv (behindG c f A B C)) w) := by
  have HS := Lib.hid (fun W => rHasG_any f t A B C hw W)
  rw [decide_eq_false hs] at HS
  rw [bhG_not hp (by omega) hs]
  obtain ⟨X, hX⟩ : ∃ X, overG c (roomG f A) = X := ⟨_, rfl⟩
  rw [hX]
  unfold overG roomG at hX
  clear hs hw
  obtain ⟨t', k, seq, kind, a, b, pc, i, j, n, p, h, x, y⟩ := f
  unfold cfv cvT frv at *
  simp only at *
  subst hp
  have i1 : IntKind.i64.wrap (i : Int) = (i : Int) := by rw [IntKind.wrap_i64]; omega
  have i2 : IntKind.u8.wrap ((i : Int) + 1) = ((i + 1 : Nat) : Int) := by rw [IntKind.wrap_u8]; omega
  have i3 : IntKind.i64.wrap ((i : Int) + 1) = (i : Int) + 1 := by rw [IntKind.wrap_i64]; omega
  subst hk hh hA0
  all_goals
    simp [*] at hX
    subst hX
    try clear A1
    clear hi
    simp only [show ((0 : Nat) : Int) = 0 from rfl, show ((1 : Nat) : Int) = 1 from rfl, show ((2 : Nat) : Int) = 2 from rfl, show ((9 : Nat) : Int) = 9 from rfl] at HS ⊢
    go_enter Tryd.func29, Tryd.ntmps29
    go_upto_region 1 with fail
    refine enter4 fun W hb g0 g1 g2 g3 q0 q1 q2 q3 => ?_
    obtain ⟨r0, r1, r2, r3, r4, r5, r6, r7, r8, r9, r10, r11⟩ := cl12 g0
    obtain ⟨k0, y0, k1, y1, k2, y2, k3, y3, k4, y4, k5, y5, k6, y6, k7, y7, k8, y8, k9, y9, k10, y10⟩ := cells11 g1
    obtain ⟨c0, c1, c2, c3⟩ := cells4p g2
    obtain ⟨u0, v0, u1, v1, u2, v2, u3, v3, u4, v4, u5, v5, u6, v6, u7, v7, u8, v8, u9, v9, u10, v10⟩ := cells11 g3
    clear q0 q1 q2 q3
    have q0 := (Array.getElem?_eq_some_iff.1 g0).1
    have q1 := (Array.getElem?_eq_some_iff.1 g1).1
    have q2 := (Array.getElem?_eq_some_iff.1 g2).1
    have q3 := (Array.getElem?_eq_some_iff.1 g3).1
    go_upto_region 24 with (go_at_call 50; refine (HS.out _).mono ?_; rintro e w1 ⟨rfl, hb1⟩; replace hb := below_then hb hb1; replace g0 := blk_below g0 hb1; replace g1 := blk_below g1 hb1; replace g2 := blk_below g2 hb1; replace g3 := blk_below g3 hb1; clear hb1; clear r0 r1 r2 r3 r4 r5 r6 r7 r8 r9 r10 r11 k0 y0 k1 y1 k2 y2 k3 y3 k4 y4 k5 y5 k6 y6 k7 y7 k8 y8 k9 y9 k10 y10 c0 c1 c2 c3 u0 v0 u1 v1 u2 v2 u3 v3 u4 v4 u5 v5 u6 v6 u7 v7 u8 v8 u9 v9 u10 v10 q0 q1 q2 q3; obtain ⟨r0, r1, r2, r3, r4, r5, r6, r7, r8, r9, r10, r11⟩ := cl12 g0; obtain ⟨k0, y0, k1, y1, k2, y2, k3, y3, k4, y4, k5, y5, k6, y6, k7, y7, k8, y8, k9, y9, k10, y10⟩ := cells11 g1; obtain ⟨c0, c1, c2, c3⟩ := cells4p g2; obtain ⟨u0, v0, u1, v1, u2, v2, u3, v3, u4, v4, u5, v5, u6, v6, u7, v7, u8, v8, u9, v9, u10, v10⟩ := cells11 g3; have q0 := (Array.getElem?_eq_some_iff.1 g0).1; have q1 := (Array.getElem?_eq_some_iff.1 g1).1; have q2 := (Array.getElem?_eq_some_iff.1 g2).1; have q3 := (Array.getElem?_eq_some_iff.1 g3).1)
    refine ent_w fun W2 hW2 => ?_
    have G1 : W2.heap[w.heap.size + 1]? = some (.cells #[.int .u8 9, .int .u32 (a : Nat), .int .u32 (b : Nat), .int .u8 22, .int .u8 (i : Nat), .int .u8 (i : Nat), .int .u8 (n : Nat), .int .u8 (p : Nat), .int .u8 1, .int .u32 0, .int .u32 (y : Nat)] 32 (0, 0)) := by
      rw [hW2]
      exact st_of (bk_store (bk_store (bk_store (bk_store g1 5 _) 8 _) 9 _) 3 _) rfl
    have G3 : W2.heap[w.heap.size + 1 + 1 + 1]? = w1.heap[w.heap.size + 1 + 1 + 1]? := by
      rw [hW2]
      exact (only_set (only_set (only_set (only_set (Only.refl (fun k => k = w.heap.size + 1) w1) 5 _) 8 _) 9 _) 3 _).block _ (by omega) (by omega)
    rw [g3] at G3
    have HB2 : Below w.heap.size w W2 := by
      rw [hW2]
      repeat' (first | with_reducible exact hb | (with_reducible refine Below.setCell ?_ ?_ _))
      all_goals (simp; try omega)
    clear hW2 hb g0 g1 g2 g3 r0 r1 r2 r3 r4 r5 r6 r7 r8 r9 r10 r11 k0 y0 k1 y1 k2 y2 k3 y3 k4 y4 k5 y5 k6 y6 k7 y7 k8 y8 k9 y9 k10 y10 c0 c1 c2 c3 u0 v0 u1 v1 u2 v2 u3 v3 u4 v4 u5 v5 u6 v6 u7 v7 u8 v8 u9 v9 u10 v10 q0 q1 q2 q3
    have hb := HB2
    have g1 := G1
    have g3 := G3
    obtain ⟨k0, y0, k1, y1, k2, y2, k3, y3, k4, y4, k5, y5, k6, y6, k7, y7, k8, y8, k9, y9, k10, y10⟩ := cells11 g1
    obtain ⟨u0, v0, u1, v1, u2, v2, u3, v3, u4, v4, u5, v5, u6, v6, u7, v7, u8, v8, u9, v9, u10, v10⟩ := cells11 g3
    have q1 := (Array.getElem?_eq_some_iff.1 g1).1
    have q3 := (Array.getElem?_eq_some_iff.1 g3).1
    clear HB2 G1 G3
    go_wp2_with fail
    have HB := Lib.hid hb
    clear hb
    refine bodyPost_ret ?_ rfl ⟨rfl, ?_⟩
    · simp [results, Tryd.results29, go_sem, u0, u1, u2, u3, u4, u5, u6, u7, u8, u9, u10]
    · (repeat' (first | with_reducible exact HB.out | (with_reducible refine Below.setCell ?_ ?_ _) | (with_reducible refine Below.alloc ?_ ?_ _))) <;> (simp; try omega)

theorem rBehG_any (c : Cf) (f : Ds) (t A B C : Nat) (hok : Ok c) (ho : c.obj = 3) (hm : GMay c f) (hw : DWf f) (w : World) : Calls Tryd.prog 29 #[cfv c, frv f, cvT t A B C] w (Ret (frv (behindG c f A B C)) w) := by
  have h := mayG hok ho hm
  by_cases h2 : f.pc = 2
  · exact rBehG_2 c f t A B C h2 w
  · by_cases h0 : f.pc = 0
    · by_cases hk : f.kind = 11
      · exact rBehG_check c f t A B C h0 hk hw (by omega) w
      · by_cases hs : hasG f A B C
        · exact rBehG_has c f t A B C h0 (by omega) hs hw w
        · by_cases hl : (f.i : Int) + 1 < c.cap
          · exact rBehG_lt c f t A B C h0 hs hw (by omega) (by omega) (by omega) hl w
          · by_cases h10 : f.kind = 10
            · exact rBehG_drop c f t A B C h0 hs hw (by omega) h10 hl w
            · by_cases hh : f.h = 1
              · exact rBehG_full1 c f t A B C h0 hs hw (by omega) (by omega) hh hl w
              · by_cases hA : A = 0
                · exact rBehG_room c f t A B C h0 hs hw (by omega) (by omega) (by omega) hA hl w
                · exact rBehG_full0 c f t A B C h0 hs hw (by omega) (by omega) (by omega) hA hl w
    · exact rBehG_stay c f t A B C (by omega) w
end Go.Proofs.YtljhcegkekdjgaaDoor
