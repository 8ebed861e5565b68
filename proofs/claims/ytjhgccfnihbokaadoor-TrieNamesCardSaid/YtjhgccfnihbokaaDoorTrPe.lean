/- The program of a table of routes, the program's own: room, a hop that turns, what is told. -/
import Derived.Test.YtjhgccfnihbokaaDoorGTp
import Derived.Deep.Cut
import Derived.Deep.RegionHeld3
namespace Go.Proofs.YtjhgccfnihbokaaDoor
open Go.RowKit Go.Lib Pt Opn

set_option maxRecDepth 100000 in
set_option maxHeartbeats 8000000 in
theorem pRoom_any (c : Cf) (f : Ds) (t A B C : Nat) (hcap : 1 ≤ c.cap ∧ c.cap ≤ 32) (w : World) :
    Calls Tryd.prog 65 #[stV c f t A B C] w (Ret2 (acv ⟨1, 1, 0, 0, 0, 0, 0⟩) (frv (if B < c.cap.toNat then { f with pc := 2, h := 0 } else { f with pc := 7 })) w) := by
  have HA := Lib.hid (fun W => pReadAt_any 1 W)
  unfold acv at HA ⊢
  obtain ⟨nc, hnc⟩ : ∃ n : Nat, c.cap = n := ⟨c.cap.toNat, by omega⟩
  have c1 : IntKind.u64.wrap (nc : Int) = (nc : Int) := by rw [IntKind.wrap_u64]; omega
  unfold stV
  rw [hnc]
  simp only [Int.toNat_natCast]
  clear hcap hnc
  obtain ⟨t', k, seq, kind, a, b, pc, i, j, n, p, h, x, y⟩ := f
  push_cast at HA
  by_cases h0 : B < nc
  · rw [if_pos h0]
    have h1 : decide ((nc : Int) ≤ (B : Int)) = false := by simp; omega
    have h2 : ¬ ((nc : Int) ≤ (B : Int)) := by omega
    unfold frv
    simp only
    go_enter Tryd.func65, Tryd.ntmps65
    go_upto_region 1 with fail
    refine enter3 fun W hb g0 g1 g2 q0 q1 q2 => ?_
    obtain ⟨r0, r1, r2, r3, r4, r5, r6, r7, r8, r9, r10, r11, r12, r13, r14, r15, r16, r17, r18, r19, r20, r21, r22, r23, r24, r25, r26⟩ := cells27 g0
    go_upto_region 5 with fail
    refine enter1 fun W2 hb2 g4 q4 => ?_
    have hB := hb2
    have G0 := blk_below g0 hB
    have G1 := blk_below g1 hB
    have G2 := blk_below g2 hB
    clear r0 r1 r2 r3 r4 r5 r6 r7 r8 r9 r10 r11 r12 r13 r14 r15 r16 r17 r18 r19 r20 r21 r22 r23 r24 r25 r26
    obtain ⟨r0, r1, r2, r3, r4, r5, r6, r7, r8, r9, r10, r11, r12, r13, r14, r15, r16, r17, r18, r19, r20, r21, r22, r23, r24, r25, r26⟩ := cells27 G0
    obtain ⟨k0, y0, k1, y1, k2, y2, k3, y3, k4, y4, k5, y5, k6, y6, k7, y7, k8, y8, k9, y9, k10, y10⟩ := cells11 g4
    have z0 : w.heap.size < W2.heap.size := Nat.lt_of_lt_of_le q0 hB.size
    have x1 : W.heap.size ≠ w.heap.size + 1 := by omega
    have x2 : W.heap.size ≠ w.heap.size + 1 + 1 := by omega
    have x3 : w.heap.size ≠ w.heap.size + 1 := by omega
    have x4 : w.heap.size ≠ w.heap.size + 1 + 1 := by omega
    have HG1 := Lib.hid G1
    have HG2 := Lib.hid G2
    have HBW := Lib.hid (below_then hb hB)
    clear g0 g1 g2 g4 G0 G1 G2 hb hb2 hB q0 q1 q2
    go_region_held3 (fun X => W2.heap.size ≤ X.heap.size ∧ ∀ b o, b < W2.heap.size → b ≠ w.heap.size + 1 → b ≠ w.heap.size + 1 + 1 → X.cell? ⟨b, o, none⟩ = W2.cell? ⟨b, o, none⟩)
      (first
        | with_reducible exact kx_q11 (kx_p7 (kx_below hb6 (kx0 W2 _ _)) _ _ _ _ _ _ _) _ _ _ _ _ _ _ _ _ _ _
        | with_reducible exact kx_p7 (kx_below hb6 (kx0 W2 _ _)) _ _ _ _ _ _ _
        | with_reducible exact kx_below hb6 (kx0 W2 _ _)
        | with_reducible exact kx0 W2 _ _
        | fail)
      (first
      | ((with_reducible refine (HA.out _).mono ?_); rintro e w6 ⟨rfl, hb6⟩; have J1 := (blk_below (w := W2.drew) HG1.out hb6); have J2 := (blk_below (w := W2.drew) HG2.out hb6); obtain ⟨n0, e0, n1, e1, n2, e2, n3, e3, n4, e4, n5, e5, n6, e6⟩ := cells7 J1; obtain ⟨m0, d0, m1, d1, m2, d2, m3, d3, m4, d4, m5, d5, m6, d6, m7, d7, m8, d8, m9, d9, m10, d10⟩ := cells11 J2; clear J1 J2))
    go_wp2
    have HB := Lib.hid (below_then HBW.out (below_then (w1 := W2.drew) ⟨rfl, rfl, rfl, Nat.le_refl _, fun _ _ => rfl⟩ hb6))
    refine bodyPost_ret ?_ rfl ⟨rfl, ?_⟩
    · simp [results, Tryd.results65, go_sem, n0, n1, n2, n3, n4, n5, n6, m0, m1, m2, m3, m4, m5, m6, m7, m8, m9, m10]
    · (repeat' (first | with_reducible exact HB.out | (with_reducible refine Below.setCell ?_ ?_ _))) <;> (simp; try omega)
  · rw [if_neg h0]
    have h1 : decide ((nc : Int) ≤ (B : Int)) = true := by simp; omega
    have h2 : (nc : Int) ≤ (B : Int) := by omega
    unfold frv
    simp only
    go_enter Tryd.func65, Tryd.ntmps65
    go_upto_region 1 with fail
    refine enter3 fun W hb g0 g1 g2 q0 q1 q2 => ?_
    obtain ⟨r0, r1, r2, r3, r4, r5, r6, r7, r8, r9, r10, r11, r12, r13, r14, r15, r16, r17, r18, r19, r20, r21, r22, r23, r24, r25, r26⟩ := cells27 g0
    go_upto_region 5 with fail
    refine enter1 fun W2 hb2 g4 q4 => ?_
    have hB := hb2
    have G0 := blk_below g0 hB
    have G1 := blk_below g1 hB
    have G2 := blk_below g2 hB
    clear r0 r1 r2 r3 r4 r5 r6 r7 r8 r9 r10 r11 r12 r13 r14 r15 r16 r17 r18 r19 r20 r21 r22 r23 r24 r25 r26
    obtain ⟨r0, r1, r2, r3, r4, r5, r6, r7, r8, r9, r10, r11, r12, r13, r14, r15, r16, r17, r18, r19, r20, r21, r22, r23, r24, r25, r26⟩ := cells27 G0
    obtain ⟨k0, y0, k1, y1, k2, y2, k3, y3, k4, y4, k5, y5, k6, y6, k7, y7, k8, y8, k9, y9, k10, y10⟩ := cells11 g4
    have z0 : w.heap.size < W2.heap.size := Nat.lt_of_lt_of_le q0 hB.size
    have x1 : W.heap.size ≠ w.heap.size + 1 := by omega
    have x2 : W.heap.size ≠ w.heap.size + 1 + 1 := by omega
    have x3 : w.heap.size ≠ w.heap.size + 1 := by omega
    have x4 : w.heap.size ≠ w.heap.size + 1 + 1 := by omega
    have HG1 := Lib.hid G1
    have HG2 := Lib.hid G2
    have HBW := Lib.hid (below_then hb hB)
    clear g0 g1 g2 g4 G0 G1 G2 hb hb2 hB q0 q1 q2
    go_region_held3 (fun X => W2.heap.size ≤ X.heap.size ∧ ∀ b o, b < W2.heap.size → b ≠ w.heap.size + 1 → b ≠ w.heap.size + 1 + 1 → X.cell? ⟨b, o, none⟩ = W2.cell? ⟨b, o, none⟩)
      (first
        | with_reducible exact kx_q11 (kx_p7 (kx_below hb6 (kx0 W2 _ _)) _ _ _ _ _ _ _) _ _ _ _ _ _ _ _ _ _ _
        | with_reducible exact kx_p7 (kx_below hb6 (kx0 W2 _ _)) _ _ _ _ _ _ _
        | with_reducible exact kx_below hb6 (kx0 W2 _ _)
        | with_reducible exact kx0 W2 _ _
        | fail)
      (first
      | ((with_reducible refine (HA.out _).mono ?_); rintro e w6 ⟨rfl, hb6⟩; have J1 := (blk_below (w := W2.drew) HG1.out hb6); have J2 := (blk_below (w := W2.drew) HG2.out hb6); obtain ⟨n0, e0, n1, e1, n2, e2, n3, e3, n4, e4, n5, e5, n6, e6⟩ := cells7 J1; obtain ⟨m0, d0, m1, d1, m2, d2, m3, d3, m4, d4, m5, d5, m6, d6, m7, d7, m8, d8, m9, d9, m10, d10⟩ := cells11 J2; clear J1 J2))
    go_wp2
    have HB := Lib.hid (below_then HBW.out (below_then (w1 := W2.drew) ⟨rfl, rfl, rfl, Nat.le_refl _, fun _ _ => rfl⟩ hb6))
    refine bodyPost_ret ?_ rfl ⟨rfl, ?_⟩
    · simp [results, Tryd.results65, go_sem, n0, n1, n2, n3, n4, n5, n6, m0, m1, m2, m3, m4, m5, m6, m7, m8, m9, m10]
    · (repeat' (first | with_reducible exact HB.out | (with_reducible refine Below.setCell ?_ ?_ _))) <;> (simp; try omega)

set_option maxRecDepth 100000 in
set_option maxHeartbeats 8000000 in
theorem pTurn_any (c : Cf) (f : Ds) (t A B C : Nat) (hb : 0 ≤ c.bits) (hf : f.b < 4294967296) (ht : topT c f ≤ 6) (ha : f.a < 2 ^ topT c f) (hy : f.y < 4294967296) (hn : f.n < 256) (w : World) :
    Calls Tryd.prog 68 #[stV c f t A B C] w (Ret2 (acv ⟨2, wholeT c f, f.y + 1, f.n % 64, 0, 0, 0⟩) (frv { f with pc := 6 }) w) := by
  have HL := Lib.hid (fun W => pLast_any c { f with pc := 6 } hb hf ht ha W)
  rw [show wholeT c { f with pc := 6 } = wholeT c f from rfl] at HL
  have HH := Lib.hid (fun W => pHop_any { f with pc := 6 } hy W)
  generalize wholeT c f = D at *
  have HA := Lib.hid (fun W => pWriteAt_any D (f.y + 1) f.n W)
  have c1 : IntKind.u64.wrap (f.n : Int) = (f.n : Int) := by rw [IntKind.wrap_u64]; omega
  unfold acv at HA ⊢
  clear ht ha hb hy hn
  obtain ⟨t', k, seq, kind, a, b, pc, i, j, n, p, h, x, y⟩ := f
  unfold cfv frv at HL
  unfold frv at HH
  unfold stV frv
  simp only at *
  obtain ⟨y', hy'⟩ : ∃ z, y + 1 = z := ⟨_, rfl⟩
  obtain ⟨n', hn'⟩ : ∃ z, n % 64 = z := ⟨_, rfl⟩
  rw [hy'] at HH HA ⊢
  rw [hn'] at HA ⊢
  clear hy' hn'
  push_cast at HL HA HH
  go_enter Tryd.func68, Tryd.ntmps68
  go_upto_region 1 with fail
  refine enter3 fun W hb g0 g1 g2 q0 q1 q2 => ?_
  obtain ⟨r0, r1, r2, r3, r4, r5, r6, r7, r8, r9, r10, r11, r12, r13, r14, r15, r16, r17, r18, r19, r20, r21, r22, r23, r24, r25, r26⟩ := cells27 g0
  go_upto_region 3 with fail
  refine enter1 fun W2 hb2 g4 q4 => ?_
  have hB := hb2
  have G0 := blk_below g0 hB
  have G1 := blk_below g1 hB
  have G2 := blk_below g2 hB
  clear r0 r1 r2 r3 r4 r5 r6 r7 r8 r9 r10 r11 r12 r13 r14 r15 r16 r17 r18 r19 r20 r21 r22 r23 r24 r25 r26
  obtain ⟨r0, r1, r2, r3, r4, r5, r6, r7, r8, r9, r10, r11, r12, r13, r14, r15, r16, r17, r18, r19, r20, r21, r22, r23, r24, r25, r26⟩ := cells27 G0
  obtain ⟨k0, y0, k1, y1, k2, y2, k3, y3, k4, y4, k5, y5, k6, y6, k7, y7, k8, y8, k9, y9, k10, y10⟩ := cells11 g4
  have z0 : w.heap.size < W2.heap.size := Nat.lt_of_lt_of_le q0 hB.size
  have x1 : W.heap.size ≠ w.heap.size + 1 := by omega
  have x2 : W.heap.size ≠ w.heap.size + 1 + 1 := by omega
  have x3 : w.heap.size ≠ w.heap.size + 1 := by omega
  have x4 : w.heap.size ≠ w.heap.size + 1 + 1 := by omega
  have HG1 := Lib.hid G1
  have HG2 := Lib.hid G2
  have HBW := Lib.hid (below_then hb hB)
  clear g0 g1 g2 g4 G0 G1 G2 hb hb2 hB q0 q1 q2
  go_region_held3 (fun X => W2.heap.size ≤ X.heap.size ∧ ∀ b o, b < W2.heap.size → b ≠ w.heap.size + 1 → b ≠ w.heap.size + 1 + 1 → X.cell? ⟨b, o, none⟩ = W2.cell? ⟨b, o, none⟩)
    (first
      | with_reducible exact kx_q11 (kx_p7 (kx_below hb7 (kx_below hb6 (kx_below hb5 (kx0 W2 _ _)))) _ _ _ _ _ _ _) _ _ _ _ _ _ _ _ _ _ _
      | with_reducible exact kx_p7 (kx_below hb7 (kx_below hb6 (kx_below hb5 (kx0 W2 _ _)))) _ _ _ _ _ _ _
      | with_reducible exact kx_below hb7 (kx_below hb6 (kx_below hb5 (kx0 W2 _ _)))
      | with_reducible exact kx_below hb6 (kx_below hb5 (kx0 W2 _ _))
      | with_reducible exact kx_below hb5 (kx0 W2 _ _)
      | with_reducible exact kx0 W2 _ _
      | fail)
    (first
    | ((with_reducible refine (HL.out _).mono ?_); rintro e w5 ⟨rfl, hb5⟩)
    | ((with_reducible refine (HH.out _).mono ?_); rintro e w6 ⟨rfl, hb6⟩)
    | ((with_reducible refine (HA.out _).mono ?_); rintro e w7 ⟨rfl, hb7⟩; have J1 := (blk_below (blk_below (blk_below (w := W2.drew) HG1.out hb5) hb6) hb7); have J2 := (blk_below (blk_below (blk_below (w := W2.drew) HG2.out hb5) hb6) hb7); obtain ⟨n0, e0, n1, e1, n2, e2, n3, e3, n4, e4, n5, e5, n6, e6⟩ := cells7 J1; obtain ⟨m0, d0, m1, d1, m2, d2, m3, d3, m4, d4, m5, d5, m6, d6, m7, d7, m8, d8, m9, d9, m10, d10⟩ := cells11 J2; clear J1 J2))
  go_wp2
  have HB := Lib.hid (below_then (below_then (below_then HBW.out (below_then (w1 := W2.drew) ⟨rfl, rfl, rfl, Nat.le_refl _, fun _ _ => rfl⟩ hb5)) hb6) hb7)
  refine bodyPost_ret ?_ rfl ⟨rfl, ?_⟩
  · simp [results, Tryd.results68, go_sem, n0, n1, n2, n3, n4, n5, n6, m0, m1, m2, m3, m4, m5, m6, m7, m8, m9, m10]
  · (repeat' (first | with_reducible exact HB.out | (with_reducible refine Below.setCell ?_ ?_ _))) <;> (simp; try omega)

set_option maxRecDepth 100000 in
set_option maxHeartbeats 8000000 in
theorem pWord_any (c : Cf) (f : Ds) (t A B C : Nat) (w : World) :
    Calls Tryd.prog 69 #[stV c f t A B C] w (Ret2 (acv ⟨4, 0, 0, 0, 0, 0, f.x⟩) (frv f) w) := by
  unfold acv
  obtain ⟨t', k, seq, kind, a, b, pc, i, j, n, p, h, x, y⟩ := f
  unfold stV frv
  go_enter Tryd.func69, Tryd.ntmps69
  go_upto_region 1 with fail
  refine enter3 fun W hb g0 g1 g2 q0 q1 q2 => ?_
  obtain ⟨r0, r1, r2, r3, r4, r5, r6, r7, r8, r9, r10, r11, r12, r13, r14, r15, r16, r17, r18, r19, r20, r21, r22, r23, r24, r25, r26⟩ := cells27 g0
  obtain ⟨u0, v0, u1, v1, u2, v2, u3, v3, u4, v4, u5, v5, u6, v6⟩ := cells7 g1
  obtain ⟨o0, s0, o1, s1, o2, s2, o3, s3, o4, s4, o5, s5, o6, s6, o7, s7, o8, s8, o9, s9, o10, s10⟩ := cells11 g2
  obtain ⟨n0, e0, n1, e1, n2, e2, n3, e3, n4, e4, n5, e5, n6, e6⟩ := cells7 (w := W.drew) g1
  obtain ⟨m0, d0, m1, d1, m2, d2, m3, d3, m4, d4, m5, d5, m6, d6, m7, d7, m8, d8, m9, d9, m10, d10⟩ := cells11 (w := W.drew) g2
  have x3 : w.heap.size ≠ w.heap.size + 1 := by omega
  have x4 : w.heap.size ≠ w.heap.size + 1 + 1 := by omega
  clear g0 g1 g2 q1 q2
  go_region_held3 (fun X => W.heap.size ≤ X.heap.size ∧ ∀ b o, b < W.heap.size → b ≠ w.heap.size + 1 → b ≠ w.heap.size + 1 + 1 → X.cell? ⟨b, o, none⟩ = W.cell? ⟨b, o, none⟩)
    (first
      | with_reducible exact kx_q11 (kx_p7 (kx0 W _ _) _ _ _ _ _ _ _) _ _ _ _ _ _ _ _ _ _ _
      | with_reducible exact kx_p7 (kx0 W _ _) _ _ _ _ _ _ _
      | with_reducible exact kx0 W _ _
      | with_reducible exact kx_q11 (kx_p7 (kx_refl W _ _) _ _ _ _ _ _ _) _ _ _ _ _ _ _ _ _ _ _
      | with_reducible exact kx_p7 (kx_refl W _ _) _ _ _ _ _ _ _
      | with_reducible exact kx_drew (kx_q11 (kx_p7 (kx_refl W _ _) _ _ _ _ _ _ _) _ _ _ _ _ _ _ _ _ _ _)
      | with_reducible exact kx_drew (kx_p7 (kx_refl W _ _) _ _ _ _ _ _ _)
      | fail)
    (first | fail)
  go_wp2
  refine bodyPost_ret ?_ rfl ⟨rfl, ?_⟩
  · simp [results, Tryd.results69, go_sem, u0, u1, u2, u3, u4, u5, u6, o0, o1, o2, o3, o4, o5, o6, o7, o8, o9, o10]
  · (repeat' (first | with_reducible exact hb | (with_reducible refine Below.setCell ?_ ?_ _) | (with_reducible refine below_drew' ?_))) <;> (simp; try omega)

set_option maxRecDepth 100000 in
set_option maxHeartbeats 8000000 in
theorem pFull_any (c : Cf) (f : Ds) (t A B C : Nat) (w : World) :
    Calls Tryd.prog 70 #[stV c f t A B C] w (Ret2 (acv ⟨4, 0, 0, 0, 0, 9, 0⟩) (frv f) w) := by
  unfold acv
  obtain ⟨t', k, seq, kind, a, b, pc, i, j, n, p, h, x, y⟩ := f
  unfold stV frv
  go_enter Tryd.func70, Tryd.ntmps70
  go_upto_region 1 with fail
  refine enter3 fun W hb g0 g1 g2 q0 q1 q2 => ?_
  obtain ⟨r0, r1, r2, r3, r4, r5, r6, r7, r8, r9, r10, r11, r12, r13, r14, r15, r16, r17, r18, r19, r20, r21, r22, r23, r24, r25, r26⟩ := cells27 g0
  obtain ⟨u0, v0, u1, v1, u2, v2, u3, v3, u4, v4, u5, v5, u6, v6⟩ := cells7 g1
  obtain ⟨o0, s0, o1, s1, o2, s2, o3, s3, o4, s4, o5, s5, o6, s6, o7, s7, o8, s8, o9, s9, o10, s10⟩ := cells11 g2
  obtain ⟨n0, e0, n1, e1, n2, e2, n3, e3, n4, e4, n5, e5, n6, e6⟩ := cells7 (w := W.drew) g1
  obtain ⟨m0, d0, m1, d1, m2, d2, m3, d3, m4, d4, m5, d5, m6, d6, m7, d7, m8, d8, m9, d9, m10, d10⟩ := cells11 (w := W.drew) g2
  have x3 : w.heap.size ≠ w.heap.size + 1 := by omega
  have x4 : w.heap.size ≠ w.heap.size + 1 + 1 := by omega
  clear g0 g1 g2 q1 q2
  go_region_held3 (fun X => W.heap.size ≤ X.heap.size ∧ ∀ b o, b < W.heap.size → b ≠ w.heap.size + 1 → b ≠ w.heap.size + 1 + 1 → X.cell? ⟨b, o, none⟩ = W.cell? ⟨b, o, none⟩)
    (first
      | with_reducible exact kx_q11 (kx_p7 (kx0 W _ _) _ _ _ _ _ _ _) _ _ _ _ _ _ _ _ _ _ _
      | with_reducible exact kx_p7 (kx0 W _ _) _ _ _ _ _ _ _
      | with_reducible exact kx0 W _ _
      | with_reducible exact kx_q11 (kx_p7 (kx_refl W _ _) _ _ _ _ _ _ _) _ _ _ _ _ _ _ _ _ _ _
      | with_reducible exact kx_p7 (kx_refl W _ _) _ _ _ _ _ _ _
      | with_reducible exact kx_drew (kx_q11 (kx_p7 (kx_refl W _ _) _ _ _ _ _ _ _) _ _ _ _ _ _ _ _ _ _ _)
      | with_reducible exact kx_drew (kx_p7 (kx_refl W _ _) _ _ _ _ _ _ _)
      | fail)
    (first | fail)
  go_wp2
  refine bodyPost_ret ?_ rfl ⟨rfl, ?_⟩
  · simp [results, Tryd.results70, go_sem, u0, u1, u2, u3, u4, u5, u6, o0, o1, o2, o3, o4, o5, o6, o7, o8, o9, o10]
  · (repeat' (first | with_reducible exact hb | (with_reducible refine Below.setCell ?_ ?_ _) | (with_reducible refine below_drew' ?_))) <;> (simp; try omega)

set_option maxRecDepth 100000 in
set_option maxHeartbeats 8000000 in
theorem pNone_any (c : Cf) (f : Ds) (t A B C : Nat) (w : World) :
    Calls Tryd.prog 73 #[stV c f t A B C] w (Ret2 (acv ⟨4, 0, 0, 0, 0, 6, 0⟩) (frv f) w) := by
  unfold acv
  obtain ⟨t', k, seq, kind, a, b, pc, i, j, n, p, h, x, y⟩ := f
  unfold stV frv
  go_enter Tryd.func73, Tryd.ntmps73
  go_upto_region 1 with fail
  refine enter3 fun W hb g0 g1 g2 q0 q1 q2 => ?_
  obtain ⟨r0, r1, r2, r3, r4, r5, r6, r7, r8, r9, r10, r11, r12, r13, r14, r15, r16, r17, r18, r19, r20, r21, r22, r23, r24, r25, r26⟩ := cells27 g0
  obtain ⟨u0, v0, u1, v1, u2, v2, u3, v3, u4, v4, u5, v5, u6, v6⟩ := cells7 g1
  obtain ⟨o0, s0, o1, s1, o2, s2, o3, s3, o4, s4, o5, s5, o6, s6, o7, s7, o8, s8, o9, s9, o10, s10⟩ := cells11 g2
  obtain ⟨n0, e0, n1, e1, n2, e2, n3, e3, n4, e4, n5, e5, n6, e6⟩ := cells7 (w := W.drew) g1
  obtain ⟨m0, d0, m1, d1, m2, d2, m3, d3, m4, d4, m5, d5, m6, d6, m7, d7, m8, d8, m9, d9, m10, d10⟩ := cells11 (w := W.drew) g2
  have x3 : w.heap.size ≠ w.heap.size + 1 := by omega
  have x4 : w.heap.size ≠ w.heap.size + 1 + 1 := by omega
  clear g0 g1 g2 q1 q2
  go_region_held3 (fun X => W.heap.size ≤ X.heap.size ∧ ∀ b o, b < W.heap.size → b ≠ w.heap.size + 1 → b ≠ w.heap.size + 1 + 1 → X.cell? ⟨b, o, none⟩ = W.cell? ⟨b, o, none⟩)
    (first
      | with_reducible exact kx_q11 (kx_p7 (kx0 W _ _) _ _ _ _ _ _ _) _ _ _ _ _ _ _ _ _ _ _
      | with_reducible exact kx_p7 (kx0 W _ _) _ _ _ _ _ _ _
      | with_reducible exact kx0 W _ _
      | with_reducible exact kx_q11 (kx_p7 (kx_refl W _ _) _ _ _ _ _ _ _) _ _ _ _ _ _ _ _ _ _ _
      | with_reducible exact kx_p7 (kx_refl W _ _) _ _ _ _ _ _ _
      | with_reducible exact kx_drew (kx_q11 (kx_p7 (kx_refl W _ _) _ _ _ _ _ _ _) _ _ _ _ _ _ _ _ _ _ _)
      | with_reducible exact kx_drew (kx_p7 (kx_refl W _ _) _ _ _ _ _ _ _)
      | fail)
    (first | fail)
  go_wp2
  refine bodyPost_ret ?_ rfl ⟨rfl, ?_⟩
  · simp [results, Tryd.results73, go_sem, u0, u1, u2, u3, u4, u5, u6, o0, o1, o2, o3, o4, o5, o6, o7, o8, o9, o10]
  · (repeat' (first | with_reducible exact hb | (with_reducible refine Below.setCell ?_ ?_ _) | (with_reducible refine below_drew' ?_))) <;> (simp; try omega)
end Go.Proofs.YtjhgccfnihbokaaDoor
