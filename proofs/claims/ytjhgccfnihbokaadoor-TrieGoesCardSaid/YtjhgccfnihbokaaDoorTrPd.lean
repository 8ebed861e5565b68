/- The program of a table of routes, the program's own: the rows that seek. -/
import Derived.Test.YtjhgccfnihbokaaDoorGTp
import Derived.Deep.Cut
import Derived.Deep.RegionHeld3
namespace Go.Proofs.YtjhgccfnihbokaaDoor
open Go.RowKit Go.Lib Pt Opn

set_option maxRecDepth 100000 in
set_option maxHeartbeats 8000000 in
theorem pFindIn_any (c : Cf) (f : Ds) (t A B C : Nat) (hb : 0 ≤ c.bits) (hf : f.b < 4294967296) (ht : topT c f ≤ 6) (ha : f.a < 2 ^ topT c f) (w : World) :
    Calls Tryd.prog 64 #[stV c f t A B C] w (Ret2 (acv ⟨1, wholeT c f, 0, 0, 0, 0, 0⟩) (frv { f with x := A % 4294967296, n := B % 64, pc := if A % 4294967296 = 0 then 1 else 5 }) w) := by
  have HT := Lib.hid (fun W => pTake_any c f t A B C W)
  have hVlt : A % 4294967296 < 4294967296 := by omega
  obtain ⟨V, hV⟩ : ∃ V, A % 4294967296 = V := ⟨_, rfl⟩
  obtain ⟨M, hM⟩ : ∃ M, B % 64 = M := ⟨_, rfl⟩
  rw [hV] at HT hVlt ⊢
  rw [hM] at HT ⊢
  obtain ⟨pc', hpc⟩ : ∃ q, (if V = 0 then 1 else 5) = q := ⟨_, rfl⟩
  rw [hpc]
  have HL := Lib.hid (fun W => pLast_any c { f with x := V, n := M, pc := pc' } hb hf ht ha W)
  rw [show wholeT c { f with x := V, n := M, pc := pc' } = wholeT c f from rfl] at HL
  generalize wholeT c f = D at *
  have HA := Lib.hid (fun W => pReadAt_any D W)
  unfold acv at HA ⊢
  clear hV hM ht ha hb
  obtain ⟨t', k, seq, kind, a, b, pc, i, j, n, p, h, x, y⟩ := f
  unfold cfv frv at HL
  unfold stV frv at HT
  unfold stV frv
  simp only at *
  by_cases h0 : V = 0
  · subst h0
    rw [if_pos rfl] at hpc
    subst hpc
    push_cast at HL HA HT
    go_enter Tryd.func64, Tryd.ntmps64
    go_upto_region 1 with fail
    refine enter3 fun W hb g0 g1 g2 q0 q1 q2 => ?_
    refine wp_region_list ?_
    refine wpList_load_row rfl 76 (.tmp 1) rfl w.heap.size rfl _ _ _ _ g0 Tryd.underlying76 rfl (by kernel_rfl) ?_
    obtain ⟨r0, r1, r2, r3, r4, r5, r6, r7, r8, r9, r10, r11, r12, r13, r14, r15, r16, r17, r18, r19, r20, r21, r22, r23, r24, r25, r26⟩ := cells27 g0
    go_upto_region 5 with (go_at_call 91; refine (HT.out _).mono ?_; rintro e w1 ⟨rfl, hb1⟩; obtain ⟨hc1, hf1⟩ := bcell hb1; have hs1 := hb1.size)
    refine enter1 fun W2 hb2 g4 q4 => ?_
    have hB := below_then hb1 hb2
    have G0 := blk_below g0 hB
    have G1 := blk_below g1 hB
    have G2 := blk_below g2 hB
    clear r0 r1 r2 r3 r4 r5 r6 r7 r8 r9 r10 r11 r12 r13 r14 r15 r16 r17 r18 r19 r20 r21 r22 r23 r24 r25 r26 hc1 hf1
    obtain ⟨r0, r1, r2, r3, r4, r5, r6, r7, r8, r9, r10, r11, r12, r13, r14, r15, r16, r17, r18, r19, r20, r21, r22, r23, r24, r25, r26⟩ := cells27 G0
    obtain ⟨k0, y0, k1, y1, k2, y2, k3, y3, k4, y4, k5, y5, k6, y6, k7, y7, k8, y8, k9, y9, k10, y10⟩ := cells11 g4
    have z0 : w.heap.size < W2.heap.size := Nat.lt_of_lt_of_le q0 hB.size
    have x1 : w1.heap.size ≠ w.heap.size + 1 := by omega
    have x2 : w1.heap.size ≠ w.heap.size + 1 + 1 := by omega
    have x3 : w.heap.size ≠ w.heap.size + 1 := by omega
    have x4 : w.heap.size ≠ w.heap.size + 1 + 1 := by omega
    have HG1 := Lib.hid G1
    have HG2 := Lib.hid G2
    have HBW := Lib.hid (below_then hb hB)
    clear g0 g1 g2 g4 G0 G1 G2 hb hb1 hb2 hB q0 q1 q2 hs1
    go_region_held3 (fun X => W2.heap.size ≤ X.heap.size ∧ ∀ b o, b < W2.heap.size → b ≠ w.heap.size + 1 → b ≠ w.heap.size + 1 + 1 → X.cell? ⟨b, o, none⟩ = W2.cell? ⟨b, o, none⟩)
      (first
        | with_reducible exact kx_q11 (kx_p7 (kx_below hb6 (kx_below hb5 (kx0 W2 _ _))) _ _ _ _ _ _ _) _ _ _ _ _ _ _ _ _ _ _
        | with_reducible exact kx_p7 (kx_below hb6 (kx_below hb5 (kx0 W2 _ _))) _ _ _ _ _ _ _
        | with_reducible exact kx_below hb6 (kx_below hb5 (kx0 W2 _ _))
        | with_reducible exact kx_below hb5 (kx0 W2 _ _)
        | with_reducible exact kx0 W2 _ _
        | fail)
      (first
        | ((with_reducible refine (HL.out _).mono ?_); rintro e w5 ⟨rfl, hb5⟩)
        | ((with_reducible refine (HA.out _).mono ?_); rintro e w6 ⟨rfl, hb6⟩; have J1 := blk_below (blk_below (w := W2.drew) HG1.out hb5) hb6; have J2 := blk_below (blk_below (w := W2.drew) HG2.out hb5) hb6; obtain ⟨n0, e0, n1, e1, n2, e2, n3, e3, n4, e4, n5, e5, n6, e6⟩ := cells7 J1; obtain ⟨m0, d0, m1, d1, m2, d2, m3, d3, m4, d4, m5, d5, m6, d6, m7, d7, m8, d8, m9, d9, m10, d10⟩ := cells11 J2; clear J1 J2))
    go_wp2
    have HB := Lib.hid (below_then (below_then HBW.out (below_then (w1 := W2.drew) ⟨rfl, rfl, rfl, Nat.le_refl _, fun _ _ => rfl⟩ hb5)) hb6)
    refine bodyPost_ret ?_ rfl ⟨rfl, ?_⟩
    · simp [results, Tryd.results64, go_sem, n0, n1, n2, n3, n4, n5, n6, m0, m1, m2, m3, m4, m5, m6, m7, m8, m9, m10]
    · (repeat' (first | with_reducible exact HB.out | (with_reducible refine Below.setCell ?_ ?_ _))) <;> (simp; try omega)
  · rw [if_neg h0] at hpc
    subst hpc
    have hv0 : ((V : Int) != 0) = true := by simpa using h0
    push_cast at HL HA HT
    go_enter Tryd.func64, Tryd.ntmps64
    go_upto_region 1 with fail
    refine enter3 fun W hb g0 g1 g2 q0 q1 q2 => ?_
    refine wp_region_list ?_
    refine wpList_load_row rfl 76 (.tmp 1) rfl w.heap.size rfl _ _ _ _ g0 Tryd.underlying76 rfl (by kernel_rfl) ?_
    obtain ⟨r0, r1, r2, r3, r4, r5, r6, r7, r8, r9, r10, r11, r12, r13, r14, r15, r16, r17, r18, r19, r20, r21, r22, r23, r24, r25, r26⟩ := cells27 g0
    go_upto_region 5 with (go_at_call 91; refine (HT.out _).mono ?_; rintro e w1 ⟨rfl, hb1⟩; obtain ⟨hc1, hf1⟩ := bcell hb1; have hs1 := hb1.size)
    refine enter1 fun W2 hb2 g4 q4 => ?_
    have hB := below_then hb1 hb2
    have G0 := blk_below g0 hB
    have G1 := blk_below g1 hB
    have G2 := blk_below g2 hB
    clear r0 r1 r2 r3 r4 r5 r6 r7 r8 r9 r10 r11 r12 r13 r14 r15 r16 r17 r18 r19 r20 r21 r22 r23 r24 r25 r26 hc1 hf1
    obtain ⟨r0, r1, r2, r3, r4, r5, r6, r7, r8, r9, r10, r11, r12, r13, r14, r15, r16, r17, r18, r19, r20, r21, r22, r23, r24, r25, r26⟩ := cells27 G0
    obtain ⟨k0, y0, k1, y1, k2, y2, k3, y3, k4, y4, k5, y5, k6, y6, k7, y7, k8, y8, k9, y9, k10, y10⟩ := cells11 g4
    have z0 : w.heap.size < W2.heap.size := Nat.lt_of_lt_of_le q0 hB.size
    have x1 : w1.heap.size ≠ w.heap.size + 1 := by omega
    have x2 : w1.heap.size ≠ w.heap.size + 1 + 1 := by omega
    have x3 : w.heap.size ≠ w.heap.size + 1 := by omega
    have x4 : w.heap.size ≠ w.heap.size + 1 + 1 := by omega
    have HG1 := Lib.hid G1
    have HG2 := Lib.hid G2
    have HBW := Lib.hid (below_then hb hB)
    clear g0 g1 g2 g4 G0 G1 G2 hb hb1 hb2 hB q0 q1 q2 hs1
    go_region_held3 (fun X => W2.heap.size ≤ X.heap.size ∧ ∀ b o, b < W2.heap.size → b ≠ w.heap.size + 1 → b ≠ w.heap.size + 1 + 1 → X.cell? ⟨b, o, none⟩ = W2.cell? ⟨b, o, none⟩)
      (first
        | with_reducible exact kx_q11 (kx_p7 (kx_below hb6 (kx_below hb5 (kx0 W2 _ _))) _ _ _ _ _ _ _) _ _ _ _ _ _ _ _ _ _ _
        | with_reducible exact kx_p7 (kx_below hb6 (kx_below hb5 (kx0 W2 _ _))) _ _ _ _ _ _ _
        | with_reducible exact kx_below hb6 (kx_below hb5 (kx0 W2 _ _))
        | with_reducible exact kx_below hb5 (kx0 W2 _ _)
        | with_reducible exact kx0 W2 _ _
        | fail)
      (first
        | ((with_reducible refine (HL.out _).mono ?_); rintro e w5 ⟨rfl, hb5⟩)
        | ((with_reducible refine (HA.out _).mono ?_); rintro e w6 ⟨rfl, hb6⟩; have J1 := blk_below (blk_below (w := W2.drew) HG1.out hb5) hb6; have J2 := blk_below (blk_below (w := W2.drew) HG2.out hb5) hb6; obtain ⟨n0, e0, n1, e1, n2, e2, n3, e3, n4, e4, n5, e5, n6, e6⟩ := cells7 J1; obtain ⟨m0, d0, m1, d1, m2, d2, m3, d3, m4, d4, m5, d5, m6, d6, m7, d7, m8, d8, m9, d9, m10, d10⟩ := cells11 J2; clear J1 J2))
    go_wp2
    have HB := Lib.hid (below_then (below_then HBW.out (below_then (w1 := W2.drew) ⟨rfl, rfl, rfl, Nat.le_refl _, fun _ _ => rfl⟩ hb5)) hb6)
    refine bodyPost_ret ?_ rfl ⟨rfl, ?_⟩
    · simp [results, Tryd.results64, go_sem, n0, n1, n2, n3, n4, n5, n6, m0, m1, m2, m3, m4, m5, m6, m7, m8, m9, m10]
    · (repeat' (first | with_reducible exact HB.out | (with_reducible refine Below.setCell ?_ ?_ _))) <;> (simp; try omega)

set_option maxRecDepth 100000 in
set_option maxHeartbeats 8000000 in
theorem pFindOut_any (c : Cf) (f : Ds) (t A B C : Nat) (hb : 0 ≤ c.bits) (hf : f.b < 4294967296) (ht : topT c f ≤ 6) (ha : f.a < 2 ^ topT c f) (w : World) :
    Calls Tryd.prog 71 #[stV c f t A B C] w (Ret2 (acv ⟨1, wholeT c f, 0, 0, 0, 0, 0⟩) (frv (if A % 4294967296 = 0 then { f with x := A % 4294967296, n := B % 64, pc := 8 } else { f with x := A % 4294967296, n := B % 64, pc := 2, h := 0 })) w) := by
  have HT := Lib.hid (fun W => pTake_any c f t A B C W)
  have hVlt : A % 4294967296 < 4294967296 := by omega
  obtain ⟨V, hV⟩ : ∃ V, A % 4294967296 = V := ⟨_, rfl⟩
  obtain ⟨M, hM⟩ : ∃ M, B % 64 = M := ⟨_, rfl⟩
  rw [hV] at HT hVlt ⊢
  rw [hM] at HT ⊢
  by_cases h0 : V = 0
  · rw [if_pos h0]
    subst h0
    have HL := Lib.hid (fun W => pLast_any c { f with x := 0, n := M, pc := 8 } hb hf ht ha W)
    rw [show wholeT c { f with x := 0, n := M, pc := 8 } = wholeT c f from rfl] at HL
    generalize wholeT c f = D at *
    have HA := Lib.hid (fun W => pReadAt_any D W)
    unfold acv at HA ⊢
    clear hV hM ht ha hb
    obtain ⟨t', k, seq, kind, a, b, pc, i, j, n, p, h, x, y⟩ := f
    unfold cfv frv at HL
    unfold stV frv at HT
    unfold stV frv
    simp only at *
    push_cast at HL HA HT
    go_enter Tryd.func71, Tryd.ntmps71
    go_upto_region 1 with fail
    refine enter3 fun W hb g0 g1 g2 q0 q1 q2 => ?_
    refine wp_region_list ?_
    refine wpList_load_row rfl 76 (.tmp 1) rfl w.heap.size rfl _ _ _ _ g0 Tryd.underlying76 rfl (by kernel_rfl) ?_
    obtain ⟨r0, r1, r2, r3, r4, r5, r6, r7, r8, r9, r10, r11, r12, r13, r14, r15, r16, r17, r18, r19, r20, r21, r22, r23, r24, r25, r26⟩ := cells27 g0
    go_upto_region 5 with (go_at_call 91; refine (HT.out _).mono ?_; rintro e w1 ⟨rfl, hb1⟩; obtain ⟨hc1, hf1⟩ := bcell hb1; have hs1 := hb1.size)
    refine enter1 fun W2 hb2 g4 q4 => ?_
    have hB := below_then hb1 hb2
    have G0 := blk_below g0 hB
    have G1 := blk_below g1 hB
    have G2 := blk_below g2 hB
    clear r0 r1 r2 r3 r4 r5 r6 r7 r8 r9 r10 r11 r12 r13 r14 r15 r16 r17 r18 r19 r20 r21 r22 r23 r24 r25 r26 hc1 hf1
    obtain ⟨r0, r1, r2, r3, r4, r5, r6, r7, r8, r9, r10, r11, r12, r13, r14, r15, r16, r17, r18, r19, r20, r21, r22, r23, r24, r25, r26⟩ := cells27 G0
    obtain ⟨k0, y0, k1, y1, k2, y2, k3, y3, k4, y4, k5, y5, k6, y6, k7, y7, k8, y8, k9, y9, k10, y10⟩ := cells11 g4
    have z0 : w.heap.size < W2.heap.size := Nat.lt_of_lt_of_le q0 hB.size
    have x1 : w1.heap.size ≠ w.heap.size + 1 := by omega
    have x2 : w1.heap.size ≠ w.heap.size + 1 + 1 := by omega
    have x3 : w.heap.size ≠ w.heap.size + 1 := by omega
    have x4 : w.heap.size ≠ w.heap.size + 1 + 1 := by omega
    have HG1 := Lib.hid G1
    have HG2 := Lib.hid G2
    have HBW := Lib.hid (below_then hb hB)
    clear g0 g1 g2 g4 G0 G1 G2 hb hb1 hb2 hB q0 q1 q2 hs1
    go_region_held3 (fun X => W2.heap.size ≤ X.heap.size ∧ ∀ b o, b < W2.heap.size → b ≠ w.heap.size + 1 → b ≠ w.heap.size + 1 + 1 → X.cell? ⟨b, o, none⟩ = W2.cell? ⟨b, o, none⟩)
      (first
        | with_reducible exact kx_q11 (kx_p7 (kx_below hb6 (kx_below hb5 (kx0 W2 _ _))) _ _ _ _ _ _ _) _ _ _ _ _ _ _ _ _ _ _
        | with_reducible exact kx_p7 (kx_below hb6 (kx_below hb5 (kx0 W2 _ _))) _ _ _ _ _ _ _
        | with_reducible exact kx_below hb6 (kx_below hb5 (kx0 W2 _ _))
        | with_reducible exact kx_below hb5 (kx0 W2 _ _)
        | with_reducible exact kx0 W2 _ _
        | fail)
      (first
        | ((with_reducible refine (HL.out _).mono ?_); rintro e w5 ⟨rfl, hb5⟩)
        | ((with_reducible refine (HA.out _).mono ?_); rintro e w6 ⟨rfl, hb6⟩; have J1 := blk_below (blk_below (w := W2.drew) HG1.out hb5) hb6; have J2 := blk_below (blk_below (w := W2.drew) HG2.out hb5) hb6; obtain ⟨n0, e0, n1, e1, n2, e2, n3, e3, n4, e4, n5, e5, n6, e6⟩ := cells7 J1; obtain ⟨m0, d0, m1, d1, m2, d2, m3, d3, m4, d4, m5, d5, m6, d6, m7, d7, m8, d8, m9, d9, m10, d10⟩ := cells11 J2; clear J1 J2))
    go_wp2
    have HB := Lib.hid (below_then (below_then HBW.out (below_then (w1 := W2.drew) ⟨rfl, rfl, rfl, Nat.le_refl _, fun _ _ => rfl⟩ hb5)) hb6)
    refine bodyPost_ret ?_ rfl ⟨rfl, ?_⟩
    · simp [results, Tryd.results71, go_sem, n0, n1, n2, n3, n4, n5, n6, m0, m1, m2, m3, m4, m5, m6, m7, m8, m9, m10]
    · (repeat' (first | with_reducible exact HB.out | (with_reducible refine Below.setCell ?_ ?_ _))) <;> (simp; try omega)
  · rw [if_neg h0]
    have HL := Lib.hid (fun W => pLast_any c { f with x := V, n := M, pc := 2, h := 0 } hb hf ht ha W)
    rw [show wholeT c { f with x := V, n := M, pc := 2, h := 0 } = wholeT c f from rfl] at HL
    generalize wholeT c f = D at *
    have HA := Lib.hid (fun W => pReadAt_any D W)
    unfold acv at HA ⊢
    clear hV hM ht ha hb
    obtain ⟨t', k, seq, kind, a, b, pc, i, j, n, p, h, x, y⟩ := f
    unfold cfv frv at HL
    unfold stV frv at HT
    unfold stV frv
    simp only at *
    have hv0 : ((V : Int) == 0) = false := by simpa using h0
    push_cast at HL HA HT
    go_enter Tryd.func71, Tryd.ntmps71
    go_upto_region 1 with fail
    refine enter3 fun W hb g0 g1 g2 q0 q1 q2 => ?_
    refine wp_region_list ?_
    refine wpList_load_row rfl 76 (.tmp 1) rfl w.heap.size rfl _ _ _ _ g0 Tryd.underlying76 rfl (by kernel_rfl) ?_
    obtain ⟨r0, r1, r2, r3, r4, r5, r6, r7, r8, r9, r10, r11, r12, r13, r14, r15, r16, r17, r18, r19, r20, r21, r22, r23, r24, r25, r26⟩ := cells27 g0
    go_upto_region 5 with (go_at_call 91; refine (HT.out _).mono ?_; rintro e w1 ⟨rfl, hb1⟩; obtain ⟨hc1, hf1⟩ := bcell hb1; have hs1 := hb1.size)
    refine enter1 fun W2 hb2 g4 q4 => ?_
    have hB := below_then hb1 hb2
    have G0 := blk_below g0 hB
    have G1 := blk_below g1 hB
    have G2 := blk_below g2 hB
    clear r0 r1 r2 r3 r4 r5 r6 r7 r8 r9 r10 r11 r12 r13 r14 r15 r16 r17 r18 r19 r20 r21 r22 r23 r24 r25 r26 hc1 hf1
    obtain ⟨r0, r1, r2, r3, r4, r5, r6, r7, r8, r9, r10, r11, r12, r13, r14, r15, r16, r17, r18, r19, r20, r21, r22, r23, r24, r25, r26⟩ := cells27 G0
    obtain ⟨k0, y0, k1, y1, k2, y2, k3, y3, k4, y4, k5, y5, k6, y6, k7, y7, k8, y8, k9, y9, k10, y10⟩ := cells11 g4
    have z0 : w.heap.size < W2.heap.size := Nat.lt_of_lt_of_le q0 hB.size
    have x1 : w1.heap.size ≠ w.heap.size + 1 := by omega
    have x2 : w1.heap.size ≠ w.heap.size + 1 + 1 := by omega
    have x3 : w.heap.size ≠ w.heap.size + 1 := by omega
    have x4 : w.heap.size ≠ w.heap.size + 1 + 1 := by omega
    have HG1 := Lib.hid G1
    have HG2 := Lib.hid G2
    have HBW := Lib.hid (below_then hb hB)
    clear g0 g1 g2 g4 G0 G1 G2 hb hb1 hb2 hB q0 q1 q2 hs1
    go_region_held3 (fun X => W2.heap.size ≤ X.heap.size ∧ ∀ b o, b < W2.heap.size → b ≠ w.heap.size + 1 → b ≠ w.heap.size + 1 + 1 → X.cell? ⟨b, o, none⟩ = W2.cell? ⟨b, o, none⟩)
      (first
        | with_reducible exact kx_q11 (kx_p7 (kx_below hb6 (kx_below hb5 (kx0 W2 _ _))) _ _ _ _ _ _ _) _ _ _ _ _ _ _ _ _ _ _
        | with_reducible exact kx_p7 (kx_below hb6 (kx_below hb5 (kx0 W2 _ _))) _ _ _ _ _ _ _
        | with_reducible exact kx_below hb6 (kx_below hb5 (kx0 W2 _ _))
        | with_reducible exact kx_below hb5 (kx0 W2 _ _)
        | with_reducible exact kx0 W2 _ _
        | fail)
      (first
        | ((with_reducible refine (HL.out _).mono ?_); rintro e w5 ⟨rfl, hb5⟩)
        | ((with_reducible refine (HA.out _).mono ?_); rintro e w6 ⟨rfl, hb6⟩; have J1 := blk_below (blk_below (w := W2.drew) HG1.out hb5) hb6; have J2 := blk_below (blk_below (w := W2.drew) HG2.out hb5) hb6; obtain ⟨n0, e0, n1, e1, n2, e2, n3, e3, n4, e4, n5, e5, n6, e6⟩ := cells7 J1; obtain ⟨m0, d0, m1, d1, m2, d2, m3, d3, m4, d4, m5, d5, m6, d6, m7, d7, m8, d8, m9, d9, m10, d10⟩ := cells11 J2; clear J1 J2))
    go_wp2
    have HB := Lib.hid (below_then (below_then HBW.out (below_then (w1 := W2.drew) ⟨rfl, rfl, rfl, Nat.le_refl _, fun _ _ => rfl⟩ hb5)) hb6)
    refine bodyPost_ret ?_ rfl ⟨rfl, ?_⟩
    · simp [results, Tryd.results71, go_sem, n0, n1, n2, n3, n4, n5, n6, m0, m1, m2, m3, m4, m5, m6, m7, m8, m9, m10]
    · (repeat' (first | with_reducible exact HB.out | (with_reducible refine Below.setCell ?_ ?_ _))) <;> (simp; try omega)

set_option maxRecDepth 100000 in
set_option maxHeartbeats 8000000 in
theorem pRead_any (c : Cf) (f : Ds) (t A B C : Nat) (hb : 0 ≤ c.bits) (hf : f.b < 4294967296) (ht : topT c f ≤ 6) (ha : f.a < 2 ^ topT c f) (hh : f.h ≤ topT c f) (w : World) :
    Calls Tryd.prog 66 #[stV c f t A B C] w (Ret2 (acv ⟨1, deepT c f, 0, 0, 0, 0, 0⟩) (frv { f with x := A % 4294967296, n := B % 64, pc := 3 }) w) := by
  have HT := Lib.hid (fun W => pTake_any c f t A B C W)
  have hVlt : A % 4294967296 < 4294967296 := by omega
  obtain ⟨V, hV⟩ : ∃ V, A % 4294967296 = V := ⟨_, rfl⟩
  obtain ⟨M, hM⟩ : ∃ M, B % 64 = M := ⟨_, rfl⟩
  rw [hV] at HT hVlt ⊢
  rw [hM] at HT ⊢
  have HL := Lib.hid (fun W => pNow_any c { f with x := V, n := M, pc := 3 } hb hf ht ha hh W)
  rw [show deepT c { f with x := V, n := M, pc := 3 } = deepT c f from rfl] at HL
  generalize deepT c f = D at *
  have HA := Lib.hid (fun W => pReadAt_any D W)
  unfold acv at HA ⊢
  clear hV hM ht ha hb hh
  obtain ⟨t', k, seq, kind, a, b, pc, i, j, n, p, h, x, y⟩ := f
  unfold cfv frv at HL
  unfold stV frv at HT
  unfold stV frv
  simp only at *
  push_cast at HL HA HT
  go_enter Tryd.func66, Tryd.ntmps66
  go_upto_region 1 with fail
  refine enter3 fun W hb g0 g1 g2 q0 q1 q2 => ?_
  refine wp_region_list ?_
  refine wpList_load_row rfl 76 (.tmp 1) rfl w.heap.size rfl _ _ _ _ g0 Tryd.underlying76 rfl (by kernel_rfl) ?_
  obtain ⟨r0, r1, r2, r3, r4, r5, r6, r7, r8, r9, r10, r11, r12, r13, r14, r15, r16, r17, r18, r19, r20, r21, r22, r23, r24, r25, r26⟩ := cells27 g0
  go_upto_region 3 with (go_at_call 91; refine (HT.out _).mono ?_; rintro e w1 ⟨rfl, hb1⟩; obtain ⟨hc1, hf1⟩ := bcell hb1; have hs1 := hb1.size)
  refine enter1 fun W2 hb2 g4 q4 => ?_
  have hB := below_then hb1 hb2
  have G0 := blk_below g0 hB
  have G1 := blk_below g1 hB
  have G2 := blk_below g2 hB
  clear r0 r1 r2 r3 r4 r5 r6 r7 r8 r9 r10 r11 r12 r13 r14 r15 r16 r17 r18 r19 r20 r21 r22 r23 r24 r25 r26 hc1 hf1
  obtain ⟨r0, r1, r2, r3, r4, r5, r6, r7, r8, r9, r10, r11, r12, r13, r14, r15, r16, r17, r18, r19, r20, r21, r22, r23, r24, r25, r26⟩ := cells27 G0
  obtain ⟨k0, y0, k1, y1, k2, y2, k3, y3, k4, y4, k5, y5, k6, y6, k7, y7, k8, y8, k9, y9, k10, y10⟩ := cells11 g4
  have z0 : w.heap.size < W2.heap.size := Nat.lt_of_lt_of_le q0 hB.size
  have x1 : w1.heap.size ≠ w.heap.size + 1 := by omega
  have x2 : w1.heap.size ≠ w.heap.size + 1 + 1 := by omega
  have x3 : w.heap.size ≠ w.heap.size + 1 := by omega
  have x4 : w.heap.size ≠ w.heap.size + 1 + 1 := by omega
  have HG1 := Lib.hid G1
  have HG2 := Lib.hid G2
  have HBW := Lib.hid (below_then hb hB)
  clear g0 g1 g2 g4 G0 G1 G2 hb hb1 hb2 hB q0 q1 q2 hs1
  go_region_held3 (fun X => W2.heap.size ≤ X.heap.size ∧ ∀ b o, b < W2.heap.size → b ≠ w.heap.size + 1 → b ≠ w.heap.size + 1 + 1 → X.cell? ⟨b, o, none⟩ = W2.cell? ⟨b, o, none⟩)
    (first
      | with_reducible exact kx_q11 (kx_p7 (kx_below hb6 (kx_below hb5 (kx0 W2 _ _))) _ _ _ _ _ _ _) _ _ _ _ _ _ _ _ _ _ _
      | with_reducible exact kx_p7 (kx_below hb6 (kx_below hb5 (kx0 W2 _ _))) _ _ _ _ _ _ _
      | with_reducible exact kx_below hb6 (kx_below hb5 (kx0 W2 _ _))
      | with_reducible exact kx_below hb5 (kx0 W2 _ _)
      | with_reducible exact kx0 W2 _ _
      | fail)
    (first
      | ((with_reducible refine (HL.out _).mono ?_); rintro e w5 ⟨rfl, hb5⟩)
      | ((with_reducible refine (HA.out _).mono ?_); rintro e w6 ⟨rfl, hb6⟩; have J1 := blk_below (blk_below (w := W2.drew) HG1.out hb5) hb6; have J2 := blk_below (blk_below (w := W2.drew) HG2.out hb5) hb6; obtain ⟨n0, e0, n1, e1, n2, e2, n3, e3, n4, e4, n5, e5, n6, e6⟩ := cells7 J1; obtain ⟨m0, d0, m1, d1, m2, d2, m3, d3, m4, d4, m5, d5, m6, d6, m7, d7, m8, d8, m9, d9, m10, d10⟩ := cells11 J2; clear J1 J2))
  go_wp2
  have HB := Lib.hid (below_then (below_then HBW.out (below_then (w1 := W2.drew) ⟨rfl, rfl, rfl, Nat.le_refl _, fun _ _ => rfl⟩ hb5)) hb6)
  refine bodyPost_ret ?_ rfl ⟨rfl, ?_⟩
  · simp [results, Tryd.results66, go_sem, n0, n1, n2, n3, n4, n5, n6, m0, m1, m2, m3, m4, m5, m6, m7, m8, m9, m10]
  · (repeat' (first | with_reducible exact HB.out | (with_reducible refine Below.setCell ?_ ?_ _))) <;> (simp; try omega)
end Go.Proofs.YtjhgccfnihbokaaDoor
