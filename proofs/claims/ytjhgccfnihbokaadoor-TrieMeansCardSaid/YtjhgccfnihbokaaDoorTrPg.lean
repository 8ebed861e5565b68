/- The program of a table of routes, the program's own: a node is counted. -/
import Derived.Test.YtjhgccfnihbokaaDoorGTp
import Derived.Test.YtjhgccfnihbokaaDoorTrGo
import Derived.Deep.Cut
import Derived.Deep.RegionHeld3
import Derived.Deep.DeepCutAuto
namespace Go.Proofs.YtjhgccfnihbokaaDoor
open Go.RowKit Go.Lib Pt Opn

theorem u8_succ {h : Nat} (hh : h ≤ 6) : IntKind.u8.wrap ((h : Int) + 1) = ((h + 1 : Nat) : Int) := by rw [IntKind.wrap_u8]; omega
theorem set7_heap {w : World} {g : Nat} {a0 a1 a2 a3 a4 a5 a6 : Value} {t : TypeId} (h0 : w.heap[g]? = some (.cells #[a0, a1, a2, a3, a4, a5, a6] t (0, 0))) (v0 v1 v2 v3 v4 v5 v6 : Value) : (((((((w.setCell ⟨g, 0, none⟩ v0).setCell ⟨g, 1, none⟩ v1).setCell ⟨g, 2, none⟩ v2).setCell ⟨g, 3, none⟩ v3).setCell ⟨g, 4, none⟩ v4).setCell ⟨g, 5, none⟩ v5).setCell ⟨g, 6, none⟩ v6).heap[g]? = some (.cells #[v0, v1, v2, v3, v4, v5, v6] t (0, 0)) := by
  have h := (heap_set (heap_set (heap_set (heap_set (heap_set (heap_set (heap_set h0 0 v0) 1 v1) 2 v2) 3 v3) 4 v4) 5 v5) 6 v6)
  rw [h]
  simp
/-- An act lies in a block of its own; what was there is as it was. -/
def MidA (W : World) (g : Nat) (cs : Array Value) (wx : World) : Prop := wx.heap[g]? = some (.cells cs 26 (0, 0)) ∧ W.heap.size ≤ g ∧ Below W.heap.size W wx
theorem midA_set {W w6 : World} {g : Nat} {a0 a1 a2 a3 a4 a5 a6 : Value} (h0 : w6.heap[g]? = some (.cells #[a0, a1, a2, a3, a4, a5, a6] 26 (0, 0))) (hle : W.heap.size ≤ g) (hb : Below W.heap.size W w6) (v0 v1 v2 v3 v4 v5 v6 : Value) : MidA W g #[v0, v1, v2, v3, v4, v5, v6] (((((((w6.setCell ⟨g, 0, none⟩ v0).setCell ⟨g, 1, none⟩ v1).setCell ⟨g, 2, none⟩ v2).setCell ⟨g, 3, none⟩ v3).setCell ⟨g, 4, none⟩ v4).setCell ⟨g, 5, none⟩ v5).setCell ⟨g, 6, none⟩ v6) :=
  ⟨set7_heap h0 v0 v1 v2 v3 v4 v5 v6, hle, (((((((hb.setCell (p := ⟨g, 0, none⟩) hle v0).setCell (p := ⟨g, 1, none⟩) hle v1).setCell (p := ⟨g, 2, none⟩) hle v2).setCell (p := ⟨g, 3, none⟩) hle v3).setCell (p := ⟨g, 4, none⟩) hle v4).setCell (p := ⟨g, 5, none⟩) hle v5).setCell (p := ⟨g, 6, none⟩) hle v6)⟩
theorem midA_first {W w5 w6 : World} {a0 a1 a2 a3 a4 a5 a6 : Value} (h5 : Below (W.alloc (.cells #[a0, a1, a2, a3, a4, a5, a6] 26)).drew.heap.size (W.alloc (.cells #[a0, a1, a2, a3, a4, a5, a6] 26)).drew w5) (h6 : Below w5.heap.size w5 w6) (v0 v1 v2 v3 v4 v5 v6 : Value) : MidA W W.heap.size #[v0, v1, v2, v3, v4, v5, v6] (((((((w6.setCell ⟨W.heap.size, 0, none⟩ v0).setCell ⟨W.heap.size, 1, none⟩ v1).setCell ⟨W.heap.size, 2, none⟩ v2).setCell ⟨W.heap.size, 3, none⟩ v3).setCell ⟨W.heap.size, 4, none⟩ v4).setCell ⟨W.heap.size, 5, none⟩ v5).setCell ⟨W.heap.size, 6, none⟩ v6) :=
  midA_set (blk_below (blk_below (w := (W.alloc (.cells #[a0, a1, a2, a3, a4, a5, a6] 26)).drew) (heap_alloc_new W _) h5) h6) (Nat.le_refl _) (below_then (below_then (below_drew' (below_one W (.cells #[a0, a1, a2, a3, a4, a5, a6] 26))) h5) h6) v0 v1 v2 v3 v4 v5 v6
theorem midA_mid {W w5 w6 : World} {a0 a1 a2 a3 a4 a5 a6 : Value} (h5 : Below W.drew.heap.size W.drew w5) (h6 : Below (w5.alloc (.cells #[a0, a1, a2, a3, a4, a5, a6] 26)).heap.size (w5.alloc (.cells #[a0, a1, a2, a3, a4, a5, a6] 26)) w6) (v0 v1 v2 v3 v4 v5 v6 : Value) : MidA W w5.heap.size #[v0, v1, v2, v3, v4, v5, v6] (((((((w6.setCell ⟨w5.heap.size, 0, none⟩ v0).setCell ⟨w5.heap.size, 1, none⟩ v1).setCell ⟨w5.heap.size, 2, none⟩ v2).setCell ⟨w5.heap.size, 3, none⟩ v3).setCell ⟨w5.heap.size, 4, none⟩ v4).setCell ⟨w5.heap.size, 5, none⟩ v5).setCell ⟨w5.heap.size, 6, none⟩ v6) :=
  midA_set (W := W) (blk_below (heap_alloc_new w5 _) h6) h5.size (below_then (below_then (below_then (w1 := W.drew) ⟨rfl, rfl, rfl, Nat.le_refl _, fun _ _ => rfl⟩ h5) (below_one w5 (.cells #[a0, a1, a2, a3, a4, a5, a6] 26))) h6) v0 v1 v2 v3 v4 v5 v6
theorem midA_last {W w5 w6 : World} {cs : Array Value} (h5 : Below W.drew.heap.size W.drew w5) (h6 : Below w5.heap.size w5 w6) : MidA W w6.heap.size cs (w6.alloc (.cells cs 26)) :=
  ⟨heap_alloc_new w6 _, Nat.le_trans h5.size h6.size, below_then (below_then (below_then (w1 := W.drew) ⟨rfl, rfl, rfl, Nat.le_refl _, fun _ _ => rfl⟩ h5) h6) (below_one w6 _)⟩
theorem keep_set7 {W X : World} (h : W.heap.size ≤ X.heap.size ∧ ∀ b j, b < W.heap.size → X.cell? ⟨b, j, none⟩ = W.cell? ⟨b, j, none⟩) (g : Nat) (hg : W.heap.size ≤ g) (v0 v1 v2 v3 v4 v5 v6 : Value) :
    W.heap.size ≤ (((((((X.setCell ⟨g, 0, none⟩ v0).setCell ⟨g, 1, none⟩ v1).setCell ⟨g, 2, none⟩ v2).setCell ⟨g, 3, none⟩ v3).setCell ⟨g, 4, none⟩ v4).setCell ⟨g, 5, none⟩ v5).setCell ⟨g, 6, none⟩ v6).heap.size ∧ ∀ b j, b < W.heap.size → (((((((X.setCell ⟨g, 0, none⟩ v0).setCell ⟨g, 1, none⟩ v1).setCell ⟨g, 2, none⟩ v2).setCell ⟨g, 3, none⟩ v3).setCell ⟨g, 4, none⟩ v4).setCell ⟨g, 5, none⟩ v5).setCell ⟨g, 6, none⟩ v6).cell? ⟨b, j, none⟩ = W.cell? ⟨b, j, none⟩ := (keep_set (keep_set (keep_set (keep_set (keep_set (keep_set (keep_set h g 0 v0 hg) g 1 v1 hg) g 2 v2 hg) g 3 v3 hg) g 4 v4 hg) g 5 v5 hg) g 6 v6 hg)

set_option maxRecDepth 100000 in
set_option maxHeartbeats 16000000 in
theorem pCount_top (c : Cf) (f : Ds) (t A B C more pw : Nat) (hb : 0 ≤ c.bits) (hf : f.b < 4294967296) (ht : topT c f ≤ 6) (ha : f.a < 2 ^ topT c f) (hh : f.h ≤ topT c f) (hn : f.n < 256) (hx : f.x < 4294967296) (hm : more < 64) (hht : f.h = topT c f) (w : World) :
    Calls Tryd.prog 95 #[stV c f t A B C, .int .u64 more, .int .u64 pw] w (Ret2 (acv ⟨2, deepT c f, pw, (f.n + more) % 64, 0, 0, 0⟩) (frv { f with pc := 6 }) w) := by
  have HL := Lib.hid (fun W => pNow_any c f hb hf ht ha hh W)
  have HD := Lib.hid (fun W => pDeepest_any c f hb hf W)
  generalize deepT c f = D at *
  have HA := Lib.hid (fun W => pWriteAt_any D f.x (f.n + more) W)
  have c1 : IntKind.u64.wrap (f.n : Int) = (f.n : Int) := by rw [IntKind.wrap_u64]; omega
  have c2 : IntKind.u64.wrap (f.x : Int) = (f.x : Int) := by rw [IntKind.wrap_u64]; omega
  have c3 : IntKind.u64.wrap ((f.n : Int) + (more : Int)) = ((f.n + more : Nat) : Int) := by rw [IntKind.wrap_u64]; omega
  have c4 : wrap64 (f.h : Int) = (f.h : Int) := by unfold wrap64; omega
  have c5 : IntKind.u8.wrap ((f.h : Int) + 1) = ((f.h + 1 : Nat) : Int) := u8_succ (Nat.le_trans hh ht)
  obtain ⟨z, hz⟩ : ∃ z, f.n + more = z := ⟨_, rfl⟩
  obtain ⟨m, hm'⟩ : ∃ m, z % 64 = m := ⟨_, rfl⟩
  obtain ⟨h', hh'⟩ : ∃ q, f.h + 1 = q := ⟨_, rfl⟩
  rw [hz] at HA c3
  rw [hm'] at HA
  rw [hh'] at c5
  rw [hz, hm']
  clear hz hm' hb hf ha hn hx hm
  generalize topT c f = T at *
  obtain ⟨t', k, seq, kind, a, b, pc, i, j, n, p, h, x, y⟩ := f
  unfold cfv frv at HL HD
  unfold acv at HA ⊢
  unfold stV frv
  simp only at *
  push_cast at HA
  subst hht
  go_enter Tryd.func95, Tryd.ntmps95
  go_upto_region 1 with fail
  refine enter3 fun W hb g0 g1 g2 q0 q1 q2 => ?_
  obtain ⟨r0, r1, r2, r3, r4, r5, r6, r7, r8, r9, r10, r11, r12, r13, r14, r15, r16, r17, r18, r19, r20, r21, r22, r23, r24, r25, r26⟩ := cells27 g0
  go_upto_region 2 with fail
  refine enter1 fun W2 hb2 g4 q4 => ?_
  have G0 := blk_below g0 hb2
  have G1 := blk_below g1 hb2
  have G2 := blk_below g2 hb2
  clear r0 r1 r2 r3 r4 r5 r6 r7 r8 r9 r10 r11 r12 r13 r14 r15 r16 r17 r18 r19 r20 r21 r22 r23 r24 r25 r26 g0 g1 g2
  obtain ⟨r0, r1, r2, r3, r4, r5, r6, r7, r8, r9, r10, r11, r12, r13, r14, r15, r16, r17, r18, r19, r20, r21, r22, r23, r24, r25, r26⟩ := cells27 G0
  obtain ⟨k0, y0, k1, y1, k2, y2, k3, y3, k4, y4, k5, y5, k6, y6, k7, y7, k8, y8, k9, y9, k10, y10⟩ := cells11 g4
  have z0 : w.heap.size < W2.heap.size := Nat.lt_of_lt_of_le q0 hb2.size
  have HG0 := Lib.hid G0
  have HG1 := Lib.hid G1
  have HG2 := Lib.hid G2
  have HG4 := Lib.hid g4
  have HBW := Lib.hid (below_then hb hb2)
  have Hq := Lib.hid (And.intro q1 (And.intro q2 hb2.size))
  clear G0 G1 G2 g4 hb hb2 q0 q1 q2
  have hza : (W2.alloc (Obj.cells #[.int .u8 0, .int .i64 0, .int .u64 0, .int .u64 0, .int .u64 0, .int .i64 0, .int .u32 0] 26)).drew.heap[W2.heap.size]? = some (Obj.cells #[.int .u8 0, .int .i64 0, .int .u64 0, .int .u64 0, .int .u64 0, .int .i64 0, .int .u32 0] 26) := heap_alloc_new W2 _
  go_cut [9] (fun s9 wx => ∃ g : Nat, s9 = .pointer (some ⟨g, 0, none⟩) ∧ Hid (MidA W2 g #[.int .u8 2, .int .i64 (D : Nat), .int .u64 (x : Nat), .int .u64 (m : Nat), .int .u64 0, .int .i64 0, .int .u32 0] wx))
  case first =>
    go_region_held3 (fun X => W2.heap.size ≤ X.heap.size ∧ ∀ b o, b < W2.heap.size → X.cell? ⟨b, o, none⟩ = W2.cell? ⟨b, o, none⟩)
      (first
        | with_reducible exact keep_set7 (keep_below hb6 (keep_below hb5 (keep1 W2 _))) _ (Nat.le_refl _) _ _ _ _ _ _ _
        | with_reducible exact keep_set7 (keep_below hb6 (keep_alloc (keep_below hb5 (keep0 W2)) _)) _ hb5.size _ _ _ _ _ _ _
        | with_reducible exact keep_below hb6 (keep_below hb5 (keep1 W2 _))
        | with_reducible exact keep_below hb6 (keep_alloc (keep_below hb5 (keep0 W2)) _)
        | with_reducible exact keep_alloc (keep_below hb6 (keep_below hb5 (keep0 W2))) _
        | with_reducible exact keep_below hb6 (keep_below hb5 (keep0 W2))
        | with_reducible exact keep_alloc (keep_below hb5 (keep0 W2)) _
        | with_reducible exact keep_below hb5 (keep1 W2 _)
        | with_reducible exact keep_below hb5 (keep0 W2)
        | with_reducible exact keep1 W2 _
        | with_reducible exact keep0 W2
        | fail)
      (first
        | ((with_reducible refine (HL.out _).mono ?_); rintro e w5 ⟨rfl, hb5⟩)
        | ((with_reducible refine (HA.out _).mono ?_); rintro e w6 ⟨rfl, hb6⟩;
           first
            | (have J : w6.heap[W2.heap.size]? = some (Obj.cells #[.int .u8 0, .int .i64 0, .int .u64 0, .int .u64 0, .int .u64 0, .int .i64 0, .int .u32 0] 26) := (by with_reducible exact blk_below (blk_below hza hb5) hb6); obtain ⟨na0, ea0, na1, ea1, na2, ea2, na3, ea3, na4, ea4, na5, ea5, na6, ea6⟩ := cells7 J; clear J)
            | (have J : w6.heap[w5.heap.size]? = some (Obj.cells #[.int .u8 0, .int .i64 0, .int .u64 0, .int .u64 0, .int .u64 0, .int .i64 0, .int .u32 0] 26) := (by with_reducible exact blk_below (heap_alloc_new w5 (Obj.cells #[.int .u8 0, .int .i64 0, .int .u64 0, .int .u64 0, .int .u64 0, .int .i64 0, .int .u32 0] 26)) hb6); obtain ⟨na0, ea0, na1, ea1, na2, ea2, na3, ea3, na4, ea4, na5, ea5, na6, ea6⟩ := cells7 J; clear J)
            | skip))
    all_goals
      go_wp2_with fail
      go_meet
      first
        | with_reducible exact ⟨_, rfl, Lib.hid (midA_first hb5 hb6 _ _ _ _ _ _ _)⟩
        | with_reducible exact ⟨_, rfl, Lib.hid (midA_mid hb5 hb6 _ _ _ _ _ _ _)⟩
        | with_reducible exact ⟨_, rfl, Lib.hid (midA_last hb5 hb6)⟩
        | (trace_state; sorry)
  case rest =>
    obtain ⟨g, rfl, HM⟩ := hcut
    obtain ⟨ga, hle, hbc⟩ := HM.out
    clear r0 r1 r2 r3 r4 r5 r6 r7 r8 r9 r10 r11 r12 r13 r14 r15 r16 r17 r18 r19 r20 r21 r22 r23 r24 r25 r26 k0 y0 k1 y1 k2 y2 k3 y3 k4 y4 k5 y5 k6 y6 k7 y7 k8 y8 k9 y9 k10 y10 z0 hza c1 c2 c3 HL HA
    have G0 := blk_below HG0.out hbc
    have G1 := blk_below HG1.out hbc
    have G2 := blk_below HG2.out hbc
    have G4 := blk_below HG4.out hbc
    obtain ⟨r0, r1, r2, r3, r4, r5, r6, r7, r8, r9, r10, r11, r12, r13, r14, r15, r16, r17, r18, r19, r20, r21, r22, r23, r24, r25, r26⟩ := cells27 G0
    obtain ⟨k0, y0, k1, y1, k2, y2, k3, y3, k4, y4, k5, y5, k6, y6, k7, y7, k8, y8, k9, y9, k10, y10⟩ := cells11 G4
    have z0 : w.heap.size < wc.heap.size := (Array.getElem?_eq_some_iff.1 G0).1
    have z4 : W.heap.size < wc.heap.size := (Array.getElem?_eq_some_iff.1 G4).1
    obtain ⟨q1, q2, q3⟩ := Hq.out
    have q5 := (Array.getElem?_eq_some_iff.1 HG4.out).1
    have x5 : g ≠ W.heap.size := by omega
    have x1 : g ≠ w.heap.size + 1 := by omega
    have x2 : g ≠ w.heap.size + 1 + 1 := by omega
    have x6 : W.heap.size ≠ w.heap.size + 1 := by omega
    have x7 : W.heap.size ≠ w.heap.size + 1 + 1 := by omega
    have x8 : w.heap.size ≤ g := by omega
    have x9 : w.heap.size ≤ W.heap.size := by omega
    have Hc := Lib.hid (And.intro ga (And.intro G1 (And.intro G2 (And.intro G4 (below_then HBW.out hbc)))))
    clear HG0 HG1 HG2 HG4 HBW Hq HM ga hle hbc G0 G1 G2 G4 q1 q2 q3 q5
    go_wp2_with fail
    refine wp_region_quiet_reads (by kernel_rfl) (by kernel_rfl) fun HR => ?_
    repeat (go_big_quiet_step (exact Calls.regrown_of (HD.out _)))
    refine wpQuiet_nil ?_
    intro W3 hw'
    obtain ⟨hb3, _, _⟩ := regrown_reads hw'
    clear hw' HR HD
    clear r0 r1 r2 r3 r4 r5 r6 r7 r8 r9 r10 r11 r12 r13 r14 r15 r16 r17 r18 r19 r20 r21 r22 r23 r24 r25 r26 k0 y0 k1 y1 k2 y2 k3 y3 k4 y4 k5 y5 k6 y6 k7 y7 k8 y8 k9 y9 k10 y10
    obtain ⟨ga, G1, G2, G4, hbw⟩ := Hc.out
    have A3 := blk_below ga hb3
    have F3 := blk_below G4 hb3
    have P3 := blk_below G1 hb3
    have Q3 := blk_below G2 hb3
    have HB3 := Lib.hid (below_then hbw hb3)
    obtain ⟨n0, e0, n1, e1, n2, e2, n3, e3, n4, e4, n5, e5, n6, e6⟩ := cells7 A3
    obtain ⟨k0, y0, k1, y1, k2, y2, k3, y3, k4, y4, k5, y5, k6, y6, k7, y7, k8, y8, k9, y9, k10, y10⟩ := cells11 F3
    have HA3 := Lib.hid A3
    have HF3 := Lib.hid F3
    have HP3 := Lib.hid P3
    have HQ3 := Lib.hid Q3
    clear ga G1 G2 G4 hbw Hc A3 F3 P3 Q3 hb3 z0 z4
    go_upto_region 6 with fail
    have A4 := (Below.heap_setCell (W3.setCell ⟨g, 2, none⟩ (.int .u64 (pw : Nat))) ⟨W.heap.size, 3, none⟩ (.int .u8 6) g x5).trans (heap_set HA3.out 2 (.int .u64 (pw : Nat)))
    have F4 := heap_set ((Below.heap_setCell W3 ⟨g, 2, none⟩ (.int .u64 (pw : Nat)) W.heap.size (Ne.symm x5)).trans HF3.out) 3 (.int .u8 6)
    have P4 := (Below.heap_setCell (W3.setCell ⟨g, 2, none⟩ (.int .u64 (pw : Nat))) ⟨W.heap.size, 3, none⟩ (.int .u8 6) (w.heap.size + 1) (Ne.symm x6)).trans ((Below.heap_setCell W3 ⟨g, 2, none⟩ (.int .u64 (pw : Nat)) (w.heap.size + 1) (Ne.symm x1)).trans HP3.out)
    have Q4 := (Below.heap_setCell (W3.setCell ⟨g, 2, none⟩ (.int .u64 (pw : Nat))) ⟨W.heap.size, 3, none⟩ (.int .u8 6) (w.heap.size + 1 + 1) (Ne.symm x7)).trans ((Below.heap_setCell W3 ⟨g, 2, none⟩ (.int .u64 (pw : Nat)) (w.heap.size + 1 + 1) (Ne.symm x2)).trans HQ3.out)
    have HB4 := (HB3.out.setCell (p := ⟨g, 2, none⟩) x8 (.int .u64 (pw : Nat))).setCell (p := ⟨W.heap.size, 3, none⟩) x9 (.int .u8 6)
    obtain ⟨W4, hW4⟩ : ∃ X, (W3.setCell ⟨g, 2, none⟩ (.int .u64 (pw : Nat))).setCell ⟨W.heap.size, 3, none⟩ (.int .u8 6) = X := ⟨_, rfl⟩
    rw [hW4] at A4 F4 P4 Q4 HB4 ⊢
    simp only [List.setIfInBounds_toArray, List.set_cons_succ, List.set_cons_zero] at A4 F4
    clear n0 e0 n1 e1 n2 e2 n3 e3 n4 e4 n5 e5 n6 e6 k0 y0 k1 y1 k2 y2 k3 y3 k4 y4 k5 y5 k6 y6 k7 y7 k8 y8 k9 y9 k10 y10 hW4 HA3 HF3 HP3 HQ3 HB3 x8 x9
    have z1 := (Array.getElem?_eq_some_iff.1 A4).1
    have z2 := (Array.getElem?_eq_some_iff.1 F4).1
    obtain ⟨n0, e0, n1, e1, n2, e2, n3, e3, n4, e4, n5, e5, n6, e6⟩ := cells7 A4
    obtain ⟨k0, y0, k1, y1, k2, y2, k3, y3, k4, y4, k5, y5, k6, y6, k7, y7, k8, y8, k9, y9, k10, y10⟩ := cells11 F4
    obtain ⟨u0, v0, u1, v1, u2, v2, u3, v3, u4, v4, u5, v5, u6, v6⟩ := cells7 P4
    obtain ⟨o0, s0, o1, s1, o2, s2, o3, s3, o4, s4, o5, s5, o6, s6, o7, s7, o8, s8, o9, s9, o10, s10⟩ := cells11 Q4
    have HP := Lib.hid (cells7 (w := W4.drew) P4)
    have HQ := Lib.hid (cells11 (w := W4.drew) Q4)
    obtain ⟨ud0, vd0, ud1, vd1, ud2, vd2, ud3, vd3, ud4, vd4, ud5, vd5, ud6, vd6⟩ := HP.out
    obtain ⟨od0, sd0, od1, sd1, od2, sd2, od3, sd3, od4, sd4, od5, sd5, od6, sd6, od7, sd7, od8, sd8, od9, sd9, od10, sd10⟩ := HQ.out
    clear A4 F4 P4 Q4 HP HQ
    go_region_held3 (fun X => W4.heap.size ≤ X.heap.size ∧ ∀ b o, b < W4.heap.size → b ≠ w.heap.size + 1 → b ≠ w.heap.size + 1 + 1 → X.cell? ⟨b, o, none⟩ = W4.cell? ⟨b, o, none⟩)
      (first
        | with_reducible exact kx_q11 (kx_p7 (kx0 W4 _ _) _ _ _ _ _ _ _) _ _ _ _ _ _ _ _ _ _ _
        | with_reducible exact kx_p7 (kx0 W4 _ _) _ _ _ _ _ _ _
        | with_reducible exact kx0 W4 _ _
        | with_reducible exact kx_q11 (kx_p7 (kx_refl W4 _ _) _ _ _ _ _ _ _) _ _ _ _ _ _ _ _ _ _ _
        | with_reducible exact kx_p7 (kx_refl W4 _ _) _ _ _ _ _ _ _
        | with_reducible exact kx_drew (kx_q11 (kx_p7 (kx_refl W4 _ _) _ _ _ _ _ _ _) _ _ _ _ _ _ _ _ _ _ _)
        | with_reducible exact kx_drew (kx_p7 (kx_refl W4 _ _) _ _ _ _ _ _ _)
        | fail)
      (first | fail)
    go_wp2
    refine bodyPost_ret ?_ rfl ⟨rfl, ?_⟩
    · simp [results, Tryd.results95, go_sem, u0, u1, u2, u3, u4, u5, u6, o0, o1, o2, o3, o4, o5, o6, o7, o8, o9, o10]
    · (repeat' (first | with_reducible exact HB4 | (with_reducible refine Below.setCell ?_ ?_ _) | (with_reducible refine below_drew' ?_))) <;> (simp; try omega)

set_option maxRecDepth 100000 in
set_option maxHeartbeats 16000000 in
theorem pCount_on (c : Cf) (f : Ds) (t A B C more pw : Nat) (hb : 0 ≤ c.bits) (hf : f.b < 4294967296) (ht : topT c f ≤ 6) (ha : f.a < 2 ^ topT c f) (hh : f.h ≤ topT c f) (hn : f.n < 256) (hx : f.x < 4294967296) (hm : more < 64) (hht : f.h ≠ topT c f) (w : World) :
    Calls Tryd.prog 95 #[stV c f t A B C, .int .u64 more, .int .u64 pw] w (Ret2 (acv ⟨2, deepT c f, f.x, (f.n + more) % 64, 0, 0, 0⟩) (frv { f with h := f.h + 1, pc := 2 }) w) := by
  have HL := Lib.hid (fun W => pNow_any c f hb hf ht ha hh W)
  have HD := Lib.hid (fun W => pDeepest_any c f hb hf W)
  generalize deepT c f = D at *
  have HA := Lib.hid (fun W => pWriteAt_any D f.x (f.n + more) W)
  have c1 : IntKind.u64.wrap (f.n : Int) = (f.n : Int) := by rw [IntKind.wrap_u64]; omega
  have c2 : IntKind.u64.wrap (f.x : Int) = (f.x : Int) := by rw [IntKind.wrap_u64]; omega
  have c3 : IntKind.u64.wrap ((f.n : Int) + (more : Int)) = ((f.n + more : Nat) : Int) := by rw [IntKind.wrap_u64]; omega
  have c4 : wrap64 (f.h : Int) = (f.h : Int) := by unfold wrap64; omega
  have c5 : IntKind.u8.wrap ((f.h : Int) + 1) = ((f.h + 1 : Nat) : Int) := u8_succ (Nat.le_trans hh ht)
  obtain ⟨z, hz⟩ : ∃ z, f.n + more = z := ⟨_, rfl⟩
  obtain ⟨m, hm'⟩ : ∃ m, z % 64 = m := ⟨_, rfl⟩
  obtain ⟨h', hh'⟩ : ∃ q, f.h + 1 = q := ⟨_, rfl⟩
  rw [hz] at HA c3
  rw [hm'] at HA
  rw [hh'] at c5
  rw [hz, hm', hh']
  clear hz hm' hb hf ha hn hx hm
  generalize topT c f = T at *
  obtain ⟨t', k, seq, kind, a, b, pc, i, j, n, p, h, x, y⟩ := f
  unfold cfv frv at HL HD
  unfold acv at HA ⊢
  unfold stV frv
  simp only at *
  push_cast at HA
  have hht' : ((h : Int) == (T : Int)) = false := by simp; omega
  go_enter Tryd.func95, Tryd.ntmps95
  go_upto_region 1 with fail
  refine enter3 fun W hb g0 g1 g2 q0 q1 q2 => ?_
  obtain ⟨r0, r1, r2, r3, r4, r5, r6, r7, r8, r9, r10, r11, r12, r13, r14, r15, r16, r17, r18, r19, r20, r21, r22, r23, r24, r25, r26⟩ := cells27 g0
  go_upto_region 2 with fail
  refine enter1 fun W2 hb2 g4 q4 => ?_
  have G0 := blk_below g0 hb2
  have G1 := blk_below g1 hb2
  have G2 := blk_below g2 hb2
  clear r0 r1 r2 r3 r4 r5 r6 r7 r8 r9 r10 r11 r12 r13 r14 r15 r16 r17 r18 r19 r20 r21 r22 r23 r24 r25 r26 g0 g1 g2
  obtain ⟨r0, r1, r2, r3, r4, r5, r6, r7, r8, r9, r10, r11, r12, r13, r14, r15, r16, r17, r18, r19, r20, r21, r22, r23, r24, r25, r26⟩ := cells27 G0
  obtain ⟨k0, y0, k1, y1, k2, y2, k3, y3, k4, y4, k5, y5, k6, y6, k7, y7, k8, y8, k9, y9, k10, y10⟩ := cells11 g4
  have z0 : w.heap.size < W2.heap.size := Nat.lt_of_lt_of_le q0 hb2.size
  have HG0 := Lib.hid G0
  have HG1 := Lib.hid G1
  have HG2 := Lib.hid G2
  have HG4 := Lib.hid g4
  have HBW := Lib.hid (below_then hb hb2)
  have Hq := Lib.hid (And.intro q1 (And.intro q2 hb2.size))
  clear G0 G1 G2 g4 hb hb2 q0 q1 q2
  have hza : (W2.alloc (Obj.cells #[.int .u8 0, .int .i64 0, .int .u64 0, .int .u64 0, .int .u64 0, .int .i64 0, .int .u32 0] 26)).drew.heap[W2.heap.size]? = some (Obj.cells #[.int .u8 0, .int .i64 0, .int .u64 0, .int .u64 0, .int .u64 0, .int .i64 0, .int .u32 0] 26) := heap_alloc_new W2 _
  go_cut [9] (fun s9 wx => ∃ g : Nat, s9 = .pointer (some ⟨g, 0, none⟩) ∧ Hid (MidA W2 g #[.int .u8 2, .int .i64 (D : Nat), .int .u64 (x : Nat), .int .u64 (m : Nat), .int .u64 0, .int .i64 0, .int .u32 0] wx))
  case first =>
    go_region_held3 (fun X => W2.heap.size ≤ X.heap.size ∧ ∀ b o, b < W2.heap.size → X.cell? ⟨b, o, none⟩ = W2.cell? ⟨b, o, none⟩)
      (first
        | with_reducible exact keep_set7 (keep_below hb6 (keep_below hb5 (keep1 W2 _))) _ (Nat.le_refl _) _ _ _ _ _ _ _
        | with_reducible exact keep_set7 (keep_below hb6 (keep_alloc (keep_below hb5 (keep0 W2)) _)) _ hb5.size _ _ _ _ _ _ _
        | with_reducible exact keep_below hb6 (keep_below hb5 (keep1 W2 _))
        | with_reducible exact keep_below hb6 (keep_alloc (keep_below hb5 (keep0 W2)) _)
        | with_reducible exact keep_alloc (keep_below hb6 (keep_below hb5 (keep0 W2))) _
        | with_reducible exact keep_below hb6 (keep_below hb5 (keep0 W2))
        | with_reducible exact keep_alloc (keep_below hb5 (keep0 W2)) _
        | with_reducible exact keep_below hb5 (keep1 W2 _)
        | with_reducible exact keep_below hb5 (keep0 W2)
        | with_reducible exact keep1 W2 _
        | with_reducible exact keep0 W2
        | fail)
      (first
        | ((with_reducible refine (HL.out _).mono ?_); rintro e w5 ⟨rfl, hb5⟩)
        | ((with_reducible refine (HA.out _).mono ?_); rintro e w6 ⟨rfl, hb6⟩;
           first
            | (have J : w6.heap[W2.heap.size]? = some (Obj.cells #[.int .u8 0, .int .i64 0, .int .u64 0, .int .u64 0, .int .u64 0, .int .i64 0, .int .u32 0] 26) := (by with_reducible exact blk_below (blk_below hza hb5) hb6); obtain ⟨na0, ea0, na1, ea1, na2, ea2, na3, ea3, na4, ea4, na5, ea5, na6, ea6⟩ := cells7 J; clear J)
            | (have J : w6.heap[w5.heap.size]? = some (Obj.cells #[.int .u8 0, .int .i64 0, .int .u64 0, .int .u64 0, .int .u64 0, .int .i64 0, .int .u32 0] 26) := (by with_reducible exact blk_below (heap_alloc_new w5 (Obj.cells #[.int .u8 0, .int .i64 0, .int .u64 0, .int .u64 0, .int .u64 0, .int .i64 0, .int .u32 0] 26)) hb6); obtain ⟨na0, ea0, na1, ea1, na2, ea2, na3, ea3, na4, ea4, na5, ea5, na6, ea6⟩ := cells7 J; clear J)
            | skip))
    all_goals
      go_wp2_with fail
      go_meet
      first
        | with_reducible exact ⟨_, rfl, Lib.hid (midA_first hb5 hb6 _ _ _ _ _ _ _)⟩
        | with_reducible exact ⟨_, rfl, Lib.hid (midA_mid hb5 hb6 _ _ _ _ _ _ _)⟩
        | with_reducible exact ⟨_, rfl, Lib.hid (midA_last hb5 hb6)⟩
        | (trace_state; sorry)
  case rest =>
    obtain ⟨g, rfl, HM⟩ := hcut
    obtain ⟨ga, hle, hbc⟩ := HM.out
    clear r0 r1 r2 r3 r4 r5 r6 r7 r8 r9 r10 r11 r12 r13 r14 r15 r16 r17 r18 r19 r20 r21 r22 r23 r24 r25 r26 k0 y0 k1 y1 k2 y2 k3 y3 k4 y4 k5 y5 k6 y6 k7 y7 k8 y8 k9 y9 k10 y10 z0 hza c1 c2 c3 HL HA
    have G0 := blk_below HG0.out hbc
    have G1 := blk_below HG1.out hbc
    have G2 := blk_below HG2.out hbc
    have G4 := blk_below HG4.out hbc
    obtain ⟨r0, r1, r2, r3, r4, r5, r6, r7, r8, r9, r10, r11, r12, r13, r14, r15, r16, r17, r18, r19, r20, r21, r22, r23, r24, r25, r26⟩ := cells27 G0
    obtain ⟨k0, y0, k1, y1, k2, y2, k3, y3, k4, y4, k5, y5, k6, y6, k7, y7, k8, y8, k9, y9, k10, y10⟩ := cells11 G4
    have z0 : w.heap.size < wc.heap.size := (Array.getElem?_eq_some_iff.1 G0).1
    have z4 : W.heap.size < wc.heap.size := (Array.getElem?_eq_some_iff.1 G4).1
    obtain ⟨q1, q2, q3⟩ := Hq.out
    have q5 := (Array.getElem?_eq_some_iff.1 HG4.out).1
    have x5 : g ≠ W.heap.size := by omega
    have x1 : g ≠ w.heap.size + 1 := by omega
    have x2 : g ≠ w.heap.size + 1 + 1 := by omega
    have x6 : W.heap.size ≠ w.heap.size + 1 := by omega
    have x7 : W.heap.size ≠ w.heap.size + 1 + 1 := by omega
    have x8 : w.heap.size ≤ g := by omega
    have x9 : w.heap.size ≤ W.heap.size := by omega
    have Hc := Lib.hid (And.intro ga (And.intro G1 (And.intro G2 (And.intro G4 (below_then HBW.out hbc)))))
    clear HG0 HG1 HG2 HG4 HBW Hq HM ga hle hbc G0 G1 G2 G4 q1 q2 q3 q5
    go_wp2_with fail
    refine wp_region_quiet_reads (by kernel_rfl) (by kernel_rfl) fun HR => ?_
    repeat (go_big_quiet_step (exact Calls.regrown_of (HD.out _)))
    refine wpQuiet_nil ?_
    intro W3 hw'
    obtain ⟨hb3, _, _⟩ := regrown_reads hw'
    clear hw' HR HD
    clear r0 r1 r2 r3 r4 r5 r6 r7 r8 r9 r10 r11 r12 r13 r14 r15 r16 r17 r18 r19 r20 r21 r22 r23 r24 r25 r26 k0 y0 k1 y1 k2 y2 k3 y3 k4 y4 k5 y5 k6 y6 k7 y7 k8 y8 k9 y9 k10 y10
    obtain ⟨ga, G1, G2, G4, hbw⟩ := Hc.out
    have A3 := blk_below ga hb3
    have F3 := blk_below G4 hb3
    have P3 := blk_below G1 hb3
    have Q3 := blk_below G2 hb3
    have HB3 := Lib.hid (below_then hbw hb3)
    obtain ⟨n0, e0, n1, e1, n2, e2, n3, e3, n4, e4, n5, e5, n6, e6⟩ := cells7 A3
    obtain ⟨k0, y0, k1, y1, k2, y2, k3, y3, k4, y4, k5, y5, k6, y6, k7, y7, k8, y8, k9, y9, k10, y10⟩ := cells11 F3
    have HA3 := Lib.hid A3
    have HF3 := Lib.hid F3
    have HP3 := Lib.hid P3
    have HQ3 := Lib.hid Q3
    clear ga G1 G2 G4 hbw Hc A3 F3 P3 Q3 hb3 z0 z4
    go_upto_region 6 with fail
    have A4 := (Below.heap_setCell (W3.setCell ⟨W.heap.size, 8, none⟩ (.int .u8 (h' : Nat))) ⟨W.heap.size, 3, none⟩ (.int .u8 2) g x5).trans ((Below.heap_setCell W3 ⟨W.heap.size, 8, none⟩ (.int .u8 (h' : Nat)) g x5).trans HA3.out)
    have F4 := heap_set (heap_set HF3.out 8 (.int .u8 (h' : Nat))) 3 (.int .u8 2)
    have P4 := (Below.heap_setCell (W3.setCell ⟨W.heap.size, 8, none⟩ (.int .u8 (h' : Nat))) ⟨W.heap.size, 3, none⟩ (.int .u8 2) (w.heap.size + 1) (Ne.symm x6)).trans ((Below.heap_setCell W3 ⟨W.heap.size, 8, none⟩ (.int .u8 (h' : Nat)) (w.heap.size + 1) (Ne.symm x6)).trans HP3.out)
    have Q4 := (Below.heap_setCell (W3.setCell ⟨W.heap.size, 8, none⟩ (.int .u8 (h' : Nat))) ⟨W.heap.size, 3, none⟩ (.int .u8 2) (w.heap.size + 1 + 1) (Ne.symm x7)).trans ((Below.heap_setCell W3 ⟨W.heap.size, 8, none⟩ (.int .u8 (h' : Nat)) (w.heap.size + 1 + 1) (Ne.symm x7)).trans HQ3.out)
    have HB4 := (HB3.out.setCell (p := ⟨W.heap.size, 8, none⟩) x9 (.int .u8 (h' : Nat))).setCell (p := ⟨W.heap.size, 3, none⟩) x9 (.int .u8 2)
    obtain ⟨W4, hW4⟩ : ∃ X, (W3.setCell ⟨W.heap.size, 8, none⟩ (.int .u8 (h' : Nat))).setCell ⟨W.heap.size, 3, none⟩ (.int .u8 2) = X := ⟨_, rfl⟩
    rw [hW4] at A4 F4 P4 Q4 HB4 ⊢
    simp only [List.setIfInBounds_toArray, List.set_cons_succ, List.set_cons_zero] at A4 F4
    clear n0 e0 n1 e1 n2 e2 n3 e3 n4 e4 n5 e5 n6 e6 k0 y0 k1 y1 k2 y2 k3 y3 k4 y4 k5 y5 k6 y6 k7 y7 k8 y8 k9 y9 k10 y10 hW4 HA3 HF3 HP3 HQ3 HB3 x8 x9
    have z1 := (Array.getElem?_eq_some_iff.1 A4).1
    have z2 := (Array.getElem?_eq_some_iff.1 F4).1
    obtain ⟨n0, e0, n1, e1, n2, e2, n3, e3, n4, e4, n5, e5, n6, e6⟩ := cells7 A4
    obtain ⟨k0, y0, k1, y1, k2, y2, k3, y3, k4, y4, k5, y5, k6, y6, k7, y7, k8, y8, k9, y9, k10, y10⟩ := cells11 F4
    obtain ⟨u0, v0, u1, v1, u2, v2, u3, v3, u4, v4, u5, v5, u6, v6⟩ := cells7 P4
    obtain ⟨o0, s0, o1, s1, o2, s2, o3, s3, o4, s4, o5, s5, o6, s6, o7, s7, o8, s8, o9, s9, o10, s10⟩ := cells11 Q4
    have HP := Lib.hid (cells7 (w := W4.drew) P4)
    have HQ := Lib.hid (cells11 (w := W4.drew) Q4)
    obtain ⟨ud0, vd0, ud1, vd1, ud2, vd2, ud3, vd3, ud4, vd4, ud5, vd5, ud6, vd6⟩ := HP.out
    obtain ⟨od0, sd0, od1, sd1, od2, sd2, od3, sd3, od4, sd4, od5, sd5, od6, sd6, od7, sd7, od8, sd8, od9, sd9, od10, sd10⟩ := HQ.out
    clear A4 F4 P4 Q4 HP HQ
    go_region_held3 (fun X => W4.heap.size ≤ X.heap.size ∧ ∀ b o, b < W4.heap.size → b ≠ w.heap.size + 1 → b ≠ w.heap.size + 1 + 1 → X.cell? ⟨b, o, none⟩ = W4.cell? ⟨b, o, none⟩)
      (first
        | with_reducible exact kx_q11 (kx_p7 (kx0 W4 _ _) _ _ _ _ _ _ _) _ _ _ _ _ _ _ _ _ _ _
        | with_reducible exact kx_p7 (kx0 W4 _ _) _ _ _ _ _ _ _
        | with_reducible exact kx0 W4 _ _
        | with_reducible exact kx_q11 (kx_p7 (kx_refl W4 _ _) _ _ _ _ _ _ _) _ _ _ _ _ _ _ _ _ _ _
        | with_reducible exact kx_p7 (kx_refl W4 _ _) _ _ _ _ _ _ _
        | with_reducible exact kx_drew (kx_q11 (kx_p7 (kx_refl W4 _ _) _ _ _ _ _ _ _) _ _ _ _ _ _ _ _ _ _ _)
        | with_reducible exact kx_drew (kx_p7 (kx_refl W4 _ _) _ _ _ _ _ _ _)
        | fail)
      (first | fail)
    go_wp2
    refine bodyPost_ret ?_ rfl ⟨rfl, ?_⟩
    · simp [results, Tryd.results95, go_sem, u0, u1, u2, u3, u4, u5, u6, o0, o1, o2, o3, o4, o5, o6, o7, o8, o9, o10]
    · (repeat' (first | with_reducible exact HB4 | (with_reducible refine Below.setCell ?_ ?_ _) | (with_reducible refine below_drew' ?_))) <;> (simp; try omega)

theorem pCount_any (c : Cf) (f : Ds) (t A B C more pw : Nat) (hb : 0 ≤ c.bits) (hf : f.b < 4294967296) (ht : topT c f ≤ 6) (ha : f.a < 2 ^ topT c f) (hh : f.h ≤ topT c f) (hn : f.n < 256) (hx : f.x < 4294967296) (hm : more < 64) (w : World) :
    Calls Tryd.prog 95 #[stV c f t A B C, .int .u64 more, .int .u64 pw] w (Ret2 (acv ⟨2, deepT c f, if f.h = topT c f then pw else f.x, (f.n + more) % 64, 0, 0, 0⟩) (frv (if f.h = topT c f then { f with pc := 6 } else { f with h := f.h + 1, pc := 2 })) w) := by
  by_cases h : f.h = topT c f
  · rw [if_pos h, if_pos h]
    exact pCount_top c f t A B C more pw hb hf ht ha hh hn hx hm h w
  · rw [if_neg h, if_neg h]
    exact pCount_on c f t A B C more pw hb hf ht ha hh hn hx hm h w
end Go.Proofs.YtjhgccfnihbokaaDoor
