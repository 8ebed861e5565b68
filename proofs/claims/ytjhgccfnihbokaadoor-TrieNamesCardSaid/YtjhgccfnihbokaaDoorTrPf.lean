/- The program of a table of routes, the program's own: a look-up that goes down. -/
import Derived.Test.YtjhgccfnihbokaaDoorGTp
import Derived.Deep.Cut
import Derived.Deep.RegionHeld3
namespace Go.Proofs.YtjhgccfnihbokaaDoor
open Go.RowKit Go.Lib Pt Opn

set_option maxRecDepth 100000 in
set_option maxHeartbeats 16000000 in
theorem pLook_none (c : Cf) (f : Ds) (t A B C : Nat) (hV0 : A % 4294967296 = 0) (hb : 0 ≤ c.bits ∧ c.bits ≤ 6) (hf : f.b < 4294967296) (ht : topT c f ≤ 6) (ha : f.a < 2 ^ topT c f) (hh : f.h ≤ topT c f) (w : World) :
    Calls Tryd.prog 74 #[stV c f t A B C] w (Ret2 (acv ⟨1, deepT c f, 0, 0, 0, 0, 0⟩) (frv (lookT c f A B)) w) := by
  have HL := Lib.hid (fun W => pNow_any c f hb.1 hf ht ha hh W)
  have hh6 : f.h ≤ 6 := by omega
  generalize deepT c f = D at *
  have HA := Lib.hid (fun W => pReadAt_any D W)
  unfold acv at HA ⊢
  obtain ⟨X, hX⟩ : ∃ X, lookT c f A B = X := ⟨_, rfl⟩
  rw [hX]
  obtain ⟨nb, hnb⟩ : ∃ n : Nat, c.bits = n := ⟨c.bits.toNat, by omega⟩
  unfold lookT at hX
  unfold cfv at HL
  unfold stV
  rw [hnb] at hX hb HL ⊢
  simp only [Int.toNat_natCast] at hX
  clear hnb ht ha hh hf
  obtain ⟨t', k, seq, kind, a, b, pc, i, j, n, p, h, x, y⟩ := f
  obtain ⟨V, hV⟩ : ∃ V, A % 4294967296 = V := ⟨_, rfl⟩
  have e1 : IntKind.u32.wrap (A : Int) = (V : Int) := by rw [IntKind.wrap_u32]; omega
  rw [hV] at hX hV0
  clear hV
  unfold frv at HL ⊢
  simp only at hX hh6 HL ⊢
  have h1 : IntKind.u8.wrap ((h : Int) + 1) = ((h + 1 : Nat) : Int) := by rw [IntKind.wrap_u8]; omega
  have hwr : wrap64 (h : Int) = (h : Int) := by unfold wrap64; omega
  clear hh6
  push_cast at HA
  subst hV0
  have hcs : ((B = 0) ∧ (x = 0)) ∨ ((B = 0) ∧ (x ≠ 0 ∧ ((x : Int) != 0) = true)) ∨ ((B = 1) ∧ (h < nb ∧ (h : Int) < nb)) ∨ ((B = 1) ∧ (¬ h < nb ∧ ¬ (h : Int) < nb) ∧ (x = 0)) ∨ ((B = 1) ∧ (¬ h < nb ∧ ¬ (h : Int) < nb) ∧ (x ≠ 0 ∧ ((x : Int) != 0) = true)) ∨ ((1 < B ∧ (1 : Int) < B) ∧ (h < nb ∧ (h : Int) < nb)) ∨ ((1 < B ∧ (1 : Int) < B) ∧ (¬ h < nb ∧ ¬ (h : Int) < nb) ∧ (x = 0)) ∨ ((1 < B ∧ (1 : Int) < B) ∧ (¬ h < nb ∧ ¬ (h : Int) < nb) ∧ (x ≠ 0 ∧ ((x : Int) != 0) = true)) := by
    by_cases x0 : x = 0 <;> (try simp only [bne_iff_ne, ne_eq, Int.natCast_eq_zero]) <;> omega
  go_enter Tryd.func74, Tryd.ntmps74
  go_upto_region 1 with fail
  refine enter3 fun W hb g0 g1 g2 q0 q1 q2 => ?_
  obtain ⟨r0, r1, r2, r3, r4, r5, r6, r7, r8, r9, r10, r11, r12, r13, r14, r15, r16, r17, r18, r19, r20, r21, r22, r23, r24, r25, r26⟩ := cells27 g0
  go_wp2_with fail
  go_region
  clear e1
  rcases hcs with ⟨rfl, rfl⟩ | ⟨rfl, ⟨cx1, cx2⟩⟩ | ⟨rfl, ⟨cg1, cg2⟩⟩ | ⟨rfl, ⟨cg1, cg2⟩, rfl⟩ | ⟨rfl, ⟨cg1, cg2⟩, ⟨cx1, cx2⟩⟩ | ⟨⟨cb1, cb2⟩, ⟨cg1, cg2⟩⟩ | ⟨⟨cb1, cb2⟩, ⟨cg1, cg2⟩, rfl⟩ | ⟨⟨cb1, cb2⟩, ⟨cg1, cg2⟩, ⟨cx1, cx2⟩⟩
  all_goals
    simp [*] at hX
    subst hX
    push_cast at HL
    go_upto_region 10 with fail
    refine enter1d fun W2 hb2 g4 q4 => ?_
    have hB := hb2
    have G0 := blk_below g0 hB
    have G1 := blk_below g1 hB
    have G2 := blk_below g2 hB
    clear r0 r1 r2 r3 r4 r5 r6 r7 r8 r9 r10 r11 r12 r13 r14 r15 r16 r17 r18 r19 r20 r21 r22 r23 r24 r25 r26
    obtain ⟨r0, r1, r2, r3, r4, r5, r6, r7, r8, r9, r10, r11, r12, r13, r14, r15, r16, r17, r18, r19, r20, r21, r22, r23, r24, r25, r26⟩ := cells27 G0
    obtain ⟨k0, y0, k1, y1, k2, y2, k3, y3, k4, y4, k5, y5, k6, y6, k7, y7, k8, y8, k9, y9, k10, y10⟩ := cells11 g4
    have z0 : w.heap.size < W2.heap.size := Nat.lt_of_lt_of_le q0 hB.size
    have x1 : W.heap.size ≠ w.heap.size + 1 := by omega
    have x2 : W.heap.size ≠ w.heap.size + 1 + 1 := by omega
    have x3 : w.heap.size ≠ w.heap.size + 1 := by omega
    have x4 : w.heap.size ≠ w.heap.size + 1 + 1 := by omega
    have HG1 := Lib.hid G1
    have HG2 := Lib.hid G2
    have HBW := Lib.hid (below_then hb hB)
    clear g0 g1 g2 g4 G0 G1 G2 hb hb2 hB q0 q1 q2
    go_region_held3 (fun X => W2.heap.size ≤ X.heap.size ∧ ∀ b o, b < W2.heap.size → b ≠ w.heap.size + 1 → b ≠ w.heap.size + 1 + 1 → X.cell? ⟨b, o, none⟩ = W2.cell? ⟨b, o, none⟩)
      (first
        | with_reducible exact kx_q11 (kx_p7 (kx_below hb6 (kx_below hb5 (kx0 W2 _ _))) _ _ _ _ _ _ _) _ _ _ _ _ _ _ _ _ _ _
        | with_reducible exact kx_p7 (kx_below hb6 (kx_below hb5 (kx0 W2 _ _))) _ _ _ _ _ _ _
        | with_reducible exact kx_below hb6 (kx_below hb5 (kx0 W2 _ _))
        | with_reducible exact kx_below hb5 (kx0 W2 _ _)
        | with_reducible exact kx0 W2 _ _
        | fail)
      (first
      | ((with_reducible refine (HL.out _).mono ?_); rintro e w5 ⟨rfl, hb5⟩)
      | ((with_reducible refine (HA.out _).mono ?_); rintro e w6 ⟨rfl, hb6⟩; have J1 := (blk_below (blk_below (w := W2.drew) HG1.out hb5) hb6); have J2 := (blk_below (blk_below (w := W2.drew) HG2.out hb5) hb6); obtain ⟨n0, e0, n1, e1, n2, e2, n3, e3, n4, e4, n5, e5, n6, e6⟩ := cells7 J1; obtain ⟨m0, d0, m1, d1, m2, d2, m3, d3, m4, d4, m5, d5, m6, d6, m7, d7, m8, d8, m9, d9, m10, d10⟩ := cells11 J2; clear J1 J2))
    go_wp2
    have HB := Lib.hid (below_then (below_then HBW.out (below_then (w1 := W2.drew) ⟨rfl, rfl, rfl, Nat.le_refl _, fun _ _ => rfl⟩ hb5)) hb6)
    refine bodyPost_ret ?_ rfl ⟨rfl, ?_⟩
    · simp [results, Tryd.results74, go_sem, n0, n1, n2, n3, n4, n5, n6, m0, m1, m2, m3, m4, m5, m6, m7, m8, m9, m10]
    · (repeat' (first | with_reducible exact HB.out | (with_reducible refine Below.setCell ?_ ?_ _))) <;> (simp; try omega)

set_option maxRecDepth 100000 in
set_option maxHeartbeats 16000000 in
theorem pLook_word (c : Cf) (f : Ds) (t A B C : Nat) (hV0 : A % 4294967296 ≠ 0) (hb : 0 ≤ c.bits ∧ c.bits ≤ 6) (hf : f.b < 4294967296) (ht : topT c f ≤ 6) (ha : f.a < 2 ^ topT c f) (hh : f.h ≤ topT c f) (w : World) :
    Calls Tryd.prog 74 #[stV c f t A B C] w (Ret2 (acv ⟨1, deepT c f, 0, 0, 0, 0, 0⟩) (frv (lookT c f A B)) w) := by
  have HL := Lib.hid (fun W => pNow_any c f hb.1 hf ht ha hh W)
  have hh6 : f.h ≤ 6 := by omega
  generalize deepT c f = D at *
  have HA := Lib.hid (fun W => pReadAt_any D W)
  unfold acv at HA ⊢
  obtain ⟨X, hX⟩ : ∃ X, lookT c f A B = X := ⟨_, rfl⟩
  rw [hX]
  obtain ⟨nb, hnb⟩ : ∃ n : Nat, c.bits = n := ⟨c.bits.toNat, by omega⟩
  unfold lookT at hX
  unfold cfv at HL
  unfold stV
  rw [hnb] at hX hb HL ⊢
  simp only [Int.toNat_natCast] at hX
  clear hnb ht ha hh hf
  obtain ⟨t', k, seq, kind, a, b, pc, i, j, n, p, h, x, y⟩ := f
  obtain ⟨V, hV⟩ : ∃ V, A % 4294967296 = V := ⟨_, rfl⟩
  have e1 : IntKind.u32.wrap (A : Int) = (V : Int) := by rw [IntKind.wrap_u32]; omega
  rw [hV] at hX hV0
  clear hV
  unfold frv at HL ⊢
  simp only at hX hh6 HL ⊢
  have h1 : IntKind.u8.wrap ((h : Int) + 1) = ((h + 1 : Nat) : Int) := by rw [IntKind.wrap_u8]; omega
  have hwr : wrap64 (h : Int) = (h : Int) := by unfold wrap64; omega
  clear hh6
  push_cast at HA
  have v2 : ((V : Int) != 0) = true := by simp; omega
  have v3 : ((V : Int) == 0) = false := by simp; omega
  have hcs : ((B = 0)) ∨ ((B = 1)) ∨ ((1 < B ∧ (1 : Int) < B) ∧ (h < nb ∧ (h : Int) < nb)) ∨ ((1 < B ∧ (1 : Int) < B) ∧ (¬ h < nb ∧ ¬ (h : Int) < nb)) := by
    by_cases x0 : x = 0 <;> (try simp only [bne_iff_ne, ne_eq, Int.natCast_eq_zero]) <;> omega
  go_enter Tryd.func74, Tryd.ntmps74
  go_upto_region 1 with fail
  refine enter3 fun W hb g0 g1 g2 q0 q1 q2 => ?_
  obtain ⟨r0, r1, r2, r3, r4, r5, r6, r7, r8, r9, r10, r11, r12, r13, r14, r15, r16, r17, r18, r19, r20, r21, r22, r23, r24, r25, r26⟩ := cells27 g0
  go_wp2_with fail
  go_region
  clear e1
  rcases hcs with rfl | rfl | ⟨⟨cb1, cb2⟩, ⟨cg1, cg2⟩⟩ | ⟨⟨cb1, cb2⟩, ⟨cg1, cg2⟩⟩
  all_goals
    simp [*] at hX
    subst hX
    push_cast at HL
    go_upto_region 10 with fail
    refine enter1d fun W2 hb2 g4 q4 => ?_
    have hB := hb2
    have G0 := blk_below g0 hB
    have G1 := blk_below g1 hB
    have G2 := blk_below g2 hB
    clear r0 r1 r2 r3 r4 r5 r6 r7 r8 r9 r10 r11 r12 r13 r14 r15 r16 r17 r18 r19 r20 r21 r22 r23 r24 r25 r26
    obtain ⟨r0, r1, r2, r3, r4, r5, r6, r7, r8, r9, r10, r11, r12, r13, r14, r15, r16, r17, r18, r19, r20, r21, r22, r23, r24, r25, r26⟩ := cells27 G0
    obtain ⟨k0, y0, k1, y1, k2, y2, k3, y3, k4, y4, k5, y5, k6, y6, k7, y7, k8, y8, k9, y9, k10, y10⟩ := cells11 g4
    have z0 : w.heap.size < W2.heap.size := Nat.lt_of_lt_of_le q0 hB.size
    have x1 : W.heap.size ≠ w.heap.size + 1 := by omega
    have x2 : W.heap.size ≠ w.heap.size + 1 + 1 := by omega
    have x3 : w.heap.size ≠ w.heap.size + 1 := by omega
    have x4 : w.heap.size ≠ w.heap.size + 1 + 1 := by omega
    have HG1 := Lib.hid G1
    have HG2 := Lib.hid G2
    have HBW := Lib.hid (below_then hb hB)
    clear g0 g1 g2 g4 G0 G1 G2 hb hb2 hB q0 q1 q2
    go_region_held3 (fun X => W2.heap.size ≤ X.heap.size ∧ ∀ b o, b < W2.heap.size → b ≠ w.heap.size + 1 → b ≠ w.heap.size + 1 + 1 → X.cell? ⟨b, o, none⟩ = W2.cell? ⟨b, o, none⟩)
      (first
        | with_reducible exact kx_q11 (kx_p7 (kx_below hb6 (kx_below hb5 (kx0 W2 _ _))) _ _ _ _ _ _ _) _ _ _ _ _ _ _ _ _ _ _
        | with_reducible exact kx_p7 (kx_below hb6 (kx_below hb5 (kx0 W2 _ _))) _ _ _ _ _ _ _
        | with_reducible exact kx_below hb6 (kx_below hb5 (kx0 W2 _ _))
        | with_reducible exact kx_below hb5 (kx0 W2 _ _)
        | with_reducible exact kx0 W2 _ _
        | fail)
      (first
      | ((with_reducible refine (HL.out _).mono ?_); rintro e w5 ⟨rfl, hb5⟩)
      | ((with_reducible refine (HA.out _).mono ?_); rintro e w6 ⟨rfl, hb6⟩; have J1 := (blk_below (blk_below (w := W2.drew) HG1.out hb5) hb6); have J2 := (blk_below (blk_below (w := W2.drew) HG2.out hb5) hb6); obtain ⟨n0, e0, n1, e1, n2, e2, n3, e3, n4, e4, n5, e5, n6, e6⟩ := cells7 J1; obtain ⟨m0, d0, m1, d1, m2, d2, m3, d3, m4, d4, m5, d5, m6, d6, m7, d7, m8, d8, m9, d9, m10, d10⟩ := cells11 J2; clear J1 J2))
    go_wp2
    have HB := Lib.hid (below_then (below_then HBW.out (below_then (w1 := W2.drew) ⟨rfl, rfl, rfl, Nat.le_refl _, fun _ _ => rfl⟩ hb5)) hb6)
    refine bodyPost_ret ?_ rfl ⟨rfl, ?_⟩
    · simp [results, Tryd.results74, go_sem, n0, n1, n2, n3, n4, n5, n6, m0, m1, m2, m3, m4, m5, m6, m7, m8, m9, m10]
    · (repeat' (first | with_reducible exact HB.out | (with_reducible refine Below.setCell ?_ ?_ _))) <;> (simp; try omega)

theorem pLook_any (c : Cf) (f : Ds) (t A B C : Nat) (hb : 0 ≤ c.bits ∧ c.bits ≤ 6) (hf : f.b < 4294967296) (ht : topT c f ≤ 6) (ha : f.a < 2 ^ topT c f) (hh : f.h ≤ topT c f) (w : World) :
    Calls Tryd.prog 74 #[stV c f t A B C] w (Ret2 (acv ⟨1, deepT c f, 0, 0, 0, 0, 0⟩) (frv (lookT c f A B)) w) := by
  by_cases h : A % 4294967296 = 0
  · exact pLook_none c f t A B C h hb hf ht ha hh w
  · exact pLook_word c f t A B C h hb hf ht ha hh w
end Go.Proofs.YtjhgccfnihbokaaDoor
