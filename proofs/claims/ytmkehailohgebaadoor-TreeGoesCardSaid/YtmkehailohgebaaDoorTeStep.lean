/- The document's own program of an index: a frame's act. -/
import Derived.Test.YtmkehailohgebaaDoorTeNum
namespace Go.Proofs.YtmkehailohgebaaDoor
open Go.RowKit Pt Opn

/-- An act, its place not looked at. -/
def acI (c : Cf) (f : Ds) : Value := .agg #[.int .u8 (kindX f.pc : Nat), .int .i64 (placeX c f), .int .u64 (wordX f : Nat), .int .u64 (wordY f : Nat), .int .u64 0, .int .i64 (codeX f.pc), .int .u32 (valX f : Nat)]
/-- Three new blocks: the world gets a name. -/
theorem ent3 {P : Program} {code : Code} {Q : Exit → Act → World → Prop} {x : Act} {w : World} {a b c : Obj}
    (h : ∀ W, Below w.heap.size w W → W.heap[w.heap.size]? = some a → W.heap[w.heap.size + 1]? = some b → W.heap[w.heap.size + 1 + 1]? = some c → w.heap.size < W.heap.size → w.heap.size + 1 < W.heap.size → w.heap.size + 1 + 1 < W.heap.size → code.wp P Q x W) : code.wp P Q x (((w.alloc a).alloc b).alloc c) :=
  h _ (below_three w a b c) (((below_two (w.alloc a) b c).block w.heap.size (by simp)).trans (heap_alloc_new w a)) (((below_one ((w.alloc a).alloc b) c).block (w.heap.size + 1) (by simp)).trans (by simpa using heap_alloc_new (w.alloc a) b)) (new_third w a b c) (by simp; try omega) (by simp; try omega) (by simp)

set_option maxRecDepth 100000 in
set_option maxHeartbeats 8000000 in
theorem rStep_0 {c : Cf} {C N K : Nat} (s : SzX c C N K) (f : Ds) (hw : DWf f) (hn : NumX c f) (e : f.pc = 0) (w : World) : Calls Tryd.prog 37 #[cfv c, frv f] w (Ret (acI c f) w) := by
  have t4 := topX_le c
  have c2 := s.c2
  have hnum := hn.1
  rw [s.cap, s.chunk] at hnum
  have hX : placeX c f = 0 := by unfold placeX; simp [e]
  have hv : acI c f = .agg #[.int .u8 1, .int .i64 0, .int .u64 0, .int .u64 0, .int .u64 0, .int .i64 0, .int .u32 0] := by
    unfold acI
    rw [hX]
    simp [kindX, wordX, wordY, codeX, valX, e]
  rw [hv]
  clear hv hX t4 c2 hnum hn s
  obtain ⟨t, k, seq, kind, a, b, pc, i, j, n, p, h, x, y⟩ := f
  simp only at e
  subst e
  unfold DWf at hw
  simp only at *
  obtain ⟨hw1, hw2, hw3, hw4, hwa, hwb, hw7, hw8, hw9, hwn, hwp, hwh, hwx, hwy⟩ := hw
  unfold cfv frv at *
  go_enter Tryd.func37, Tryd.ntmps37
  go_upto_region 1 with fail
  refine ent3 fun W hb g0 g1 g2 q0 q1 q2 => ?_
  obtain ⟨r0, r1, r2, r3, r4, r5, r6, r7, r8, r9, r10, r11⟩ := cl12 g0
  obtain ⟨k0, k1, k2, k3, k4, k5, k6, k7, k8, k9, k10⟩ := cl11 g1
  obtain ⟨u0, v0, u1, v1, u2, v2, u3, v3, u4, v4, u5, v5, u6, v6⟩ := cells7 g2
  have HB := Lib.hid hb
  clear g0 g1 g2 hb
  go_wp2
  refine bodyPost_ret ?_ rfl ⟨rfl, ?_⟩
  · simp [results, Tryd.results37, go_sem, u0, u1, u2, u3, u4, u5, u6]
  · (repeat' (first | with_reducible exact HB.out | (with_reducible refine Below.setCell ?_ ?_ _))) <;> (simp; try omega)

set_option maxRecDepth 100000 in
set_option maxHeartbeats 8000000 in
theorem rStep_1 {c : Cf} {C N K : Nat} (s : SzX c C N K) (f : Ds) (hw : DWf f) (hn : NumX c f) (e : f.pc = 1) (w : World) : Calls Tryd.prog 37 #[cfv c, frv f] w (Ret (acI c f) w) := by
  have t4 := topX_le c
  have c2 := s.c2
  have hnum := hn.1
  rw [s.cap, s.chunk] at hnum
  have HO := Lib.hid (fun W => rOffX_any s (f.h : Int) (f.i : Int) (by unfold DWf at hw; omega) (by unfold DWf at hw; omega) W)
  have hX : placeX c f = offX c (f.h : Int) (f.i : Int) := by unfold placeX; simp [e]
  obtain ⟨X, hX2⟩ : ∃ X, offX c (f.h : Int) (f.i : Int) = X := ⟨_, rfl⟩
  rw [hX2] at HO hX
  have hv : acI c f = .agg #[.int .u8 1, .int .i64 X, .int .u64 0, .int .u64 0, .int .u64 0, .int .i64 0, .int .u32 0] := by
    unfold acI
    rw [hX]
    simp [kindX, wordX, wordY, codeX, valX, e]
  rw [hv]
  clear hX2
  clear hv hX t4 c2 hnum hn s
  obtain ⟨t, k, seq, kind, a, b, pc, i, j, n, p, h, x, y⟩ := f
  simp only at e
  subst e
  unfold DWf at hw
  simp only at *
  obtain ⟨hw1, hw2, hw3, hw4, hwa, hwb, hw7, hw8, hw9, hwn, hwp, hwh, hwx, hwy⟩ := hw
  unfold cfv frv at *
  go_enter Tryd.func37, Tryd.ntmps37
  go_upto_region 1 with fail
  refine ent3 fun W hb g0 g1 g2 q0 q1 q2 => ?_
  obtain ⟨r0, r1, r2, r3, r4, r5, r6, r7, r8, r9, r10, r11⟩ := cl12 g0
  obtain ⟨k0, k1, k2, k3, k4, k5, k6, k7, k8, k9, k10⟩ := cl11 g1
  go_wp2_with (go_at_call 27; refine (HO.out _).mono ?_; rintro e w1 ⟨rfl, hb1⟩; have G2 := blk_below g2 hb1; have HB := Lib.hid (below_then hb hb1); clear r0 r1 r2 r3 r4 r5 r6 r7 r8 r9 r10 r11 k0 k1 k2 k3 k4 k5 k6 k7 k8 k9 k10 g0 g1 g2 hb hb1; obtain ⟨u0, v0, u1, v1, u2, v2, u3, v3, u4, v4, u5, v5, u6, v6⟩ := cells7 G2)
  refine bodyPost_ret ?_ rfl ⟨rfl, ?_⟩
  · simp [results, Tryd.results37, go_sem, u0, u1, u2, u3, u4, u5, u6]
  · (repeat' (first | with_reducible exact HB.out | (with_reducible refine Below.setCell ?_ ?_ _))) <;> (simp; try omega)

set_option maxRecDepth 100000 in
set_option maxHeartbeats 8000000 in
theorem rStep_3 {c : Cf} {C N K : Nat} (s : SzX c C N K) (f : Ds) (hw : DWf f) (hn : NumX c f) (e : f.pc = 3) (w : World) : Calls Tryd.prog 37 #[cfv c, frv f] w (Ret (acI c f) w) := by
  have t4 := topX_le c
  have c2 := s.c2
  have hnum := hn.1
  rw [s.cap, s.chunk] at hnum
  have HO := Lib.hid (fun W => rOffX_any s 0 ((f.p : Int) - 1) (by unfold DWf at hw; omega) (by unfold DWf at hw; omega) W)
  have hX : placeX c f = offX c 0 ((f.p : Int) - 1) := by unfold placeX; simp [e]
  obtain ⟨X, hX2⟩ : ∃ X, offX c 0 ((f.p : Int) - 1) = X := ⟨_, rfl⟩
  rw [hX2] at HO hX
  have hv : acI c f = .agg #[.int .u8 1, .int .i64 X, .int .u64 0, .int .u64 0, .int .u64 0, .int .i64 0, .int .u32 0] := by
    unfold acI
    rw [hX]
    simp [kindX, wordX, wordY, codeX, valX, e]
  rw [hv]
  clear hX2
  clear hv hX t4 c2 hnum hn s
  obtain ⟨t, k, seq, kind, a, b, pc, i, j, n, p, h, x, y⟩ := f
  simp only at e
  subst e
  unfold DWf at hw
  simp only at *
  obtain ⟨hw1, hw2, hw3, hw4, hwa, hwb, hw7, hw8, hw9, hwn, hwp, hwh, hwx, hwy⟩ := hw
  unfold cfv frv at *
  go_enter Tryd.func37, Tryd.ntmps37
  go_upto_region 1 with fail
  refine ent3 fun W hb g0 g1 g2 q0 q1 q2 => ?_
  obtain ⟨r0, r1, r2, r3, r4, r5, r6, r7, r8, r9, r10, r11⟩ := cl12 g0
  obtain ⟨k0, k1, k2, k3, k4, k5, k6, k7, k8, k9, k10⟩ := cl11 g1
  go_wp2_with (go_at_call 27; refine (HO.out _).mono ?_; rintro e w1 ⟨rfl, hb1⟩; have G2 := blk_below g2 hb1; have HB := Lib.hid (below_then hb hb1); clear r0 r1 r2 r3 r4 r5 r6 r7 r8 r9 r10 r11 k0 k1 k2 k3 k4 k5 k6 k7 k8 k9 k10 g0 g1 g2 hb hb1; obtain ⟨u0, v0, u1, v1, u2, v2, u3, v3, u4, v4, u5, v5, u6, v6⟩ := cells7 G2)
  refine bodyPost_ret ?_ rfl ⟨rfl, ?_⟩
  · simp [results, Tryd.results37, go_sem, u0, u1, u2, u3, u4, u5, u6]
  · (repeat' (first | with_reducible exact HB.out | (with_reducible refine Below.setCell ?_ ?_ _))) <;> (simp; try omega)

set_option maxRecDepth 100000 in
set_option maxHeartbeats 8000000 in
theorem rStep_4 {c : Cf} {C N K : Nat} (s : SzX c C N K) (f : Ds) (hw : DWf f) (hn : NumX c f) (e : f.pc = 4) (w : World) : Calls Tryd.prog 37 #[cfv c, frv f] w (Ret (acI c f) w) := by
  have t4 := topX_le c
  have c2 := s.c2
  have hnum := hn.1
  rw [s.cap, s.chunk] at hnum
  have HO := Lib.hid (fun W => rOffX_any s 0 (f.p : Int) (by unfold DWf at hw; omega) (by unfold DWf at hw; omega) W)
  have hX : placeX c f = offX c 0 (f.p : Int) := by unfold placeX; simp [e]
  obtain ⟨X, hX2⟩ : ∃ X, offX c 0 (f.p : Int) = X := ⟨_, rfl⟩
  rw [hX2] at HO hX
  have hv : acI c f = .agg #[.int .u8 2, .int .i64 X, .int .u64 (f.a : Nat), .int .u64 (f.b : Nat), .int .u64 0, .int .i64 0, .int .u32 0] := by
    unfold acI
    rw [hX]
    simp [kindX, wordX, wordY, codeX, valX, e]
  rw [hv]
  clear hX2
  clear hv hX t4 c2 hnum hn s
  obtain ⟨t, k, seq, kind, a, b, pc, i, j, n, p, h, x, y⟩ := f
  simp only at e
  subst e
  unfold DWf at hw
  simp only at *
  obtain ⟨hw1, hw2, hw3, hw4, hwa, hwb, hw7, hw8, hw9, hwn, hwp, hwh, hwx, hwy⟩ := hw
  have a1 : IntKind.u64.wrap (a : Int) = (a : Int) := by rw [IntKind.wrap_u64]; omega
  have b1 : IntKind.u64.wrap (b : Int) = (b : Int) := by rw [IntKind.wrap_u64]; omega
  unfold cfv frv at *
  go_enter Tryd.func37, Tryd.ntmps37
  go_upto_region 1 with fail
  refine ent3 fun W hb g0 g1 g2 q0 q1 q2 => ?_
  obtain ⟨r0, r1, r2, r3, r4, r5, r6, r7, r8, r9, r10, r11⟩ := cl12 g0
  obtain ⟨k0, k1, k2, k3, k4, k5, k6, k7, k8, k9, k10⟩ := cl11 g1
  go_wp2_with fail
  refine wp_region_tail_reads 10 (by kernel_rfl) (by kernel_rfl) fun HR => ?_
  simp only [List.take_succ_cons, List.take_zero, List.drop_succ_cons, List.drop_zero]
  repeat (go_big_quiet_step (exact Calls.regrown_of (HO.out _)))
  refine wpQuiet_nil ?_
  intro W3 hw'
  obtain ⟨⟨dq, osq⟩, hw''⟩ := hw'
  have hb3 : Below W.heap.size W W3 := by rw [hw'']; exact below_regrown _ dq osq
  clear hw'' HR r0 r1 r2 r3 r4 r5 r6 r7 r8 r9 r10 r11 k0 k1 k2 k3 k4 k5 k6 k7 k8 k9 k10
  have HB := Lib.hid (below_then hb hb3)
  have G2 := blk_below g2 hb3
  clear g0 g1 g2 hb hb3
  obtain ⟨u0, v0, u1, v1, u2, v2, u3, v3, u4, v4, u5, v5, u6, v6⟩ := cells7 G2
  clear G2
  go_wp2
  refine bodyPost_ret ?_ rfl ⟨rfl, ?_⟩
  · simp [results, Tryd.results37, go_sem, u0, u1, u2, u3, u4, u5, u6]
  · (repeat' (first | with_reducible exact HB.out | (with_reducible refine Below.setCell ?_ ?_ _))) <;> (simp; try omega)

set_option maxRecDepth 100000 in
set_option maxHeartbeats 8000000 in
theorem rStep_7 {c : Cf} {C N K : Nat} (s : SzX c C N K) (f : Ds) (hw : DWf f) (hn : NumX c f) (e : f.pc = 7) (w : World) : Calls Tryd.prog 37 #[cfv c, frv f] w (Ret (acI c f) w) := by
  have t4 := topX_le c
  have c2 := s.c2
  have hnum := hn.1
  rw [s.cap, s.chunk] at hnum
  have HO := Lib.hid (fun W => rOffX_any s 0 (f.p : Int) (by unfold DWf at hw; omega) (by unfold DWf at hw; omega) W)
  have hX : placeX c f = offX c 0 (f.p : Int) := by unfold placeX; simp [e]
  obtain ⟨X, hX2⟩ : ∃ X, offX c 0 (f.p : Int) = X := ⟨_, rfl⟩
  rw [hX2] at HO hX
  have hv : acI c f = .agg #[.int .u8 2, .int .i64 X, .int .u64 (f.a : Nat), .int .u64 (f.b : Nat), .int .u64 0, .int .i64 0, .int .u32 0] := by
    unfold acI
    rw [hX]
    simp [kindX, wordX, wordY, codeX, valX, e]
  rw [hv]
  clear hX2
  clear hv hX t4 c2 hnum hn s
  obtain ⟨t, k, seq, kind, a, b, pc, i, j, n, p, h, x, y⟩ := f
  simp only at e
  subst e
  unfold DWf at hw
  simp only at *
  obtain ⟨hw1, hw2, hw3, hw4, hwa, hwb, hw7, hw8, hw9, hwn, hwp, hwh, hwx, hwy⟩ := hw
  have a1 : IntKind.u64.wrap (a : Int) = (a : Int) := by rw [IntKind.wrap_u64]; omega
  have b1 : IntKind.u64.wrap (b : Int) = (b : Int) := by rw [IntKind.wrap_u64]; omega
  unfold cfv frv at *
  go_enter Tryd.func37, Tryd.ntmps37
  go_upto_region 1 with fail
  refine ent3 fun W hb g0 g1 g2 q0 q1 q2 => ?_
  obtain ⟨r0, r1, r2, r3, r4, r5, r6, r7, r8, r9, r10, r11⟩ := cl12 g0
  obtain ⟨k0, k1, k2, k3, k4, k5, k6, k7, k8, k9, k10⟩ := cl11 g1
  go_wp2_with fail
  refine wp_region_tail_reads 10 (by kernel_rfl) (by kernel_rfl) fun HR => ?_
  simp only [List.take_succ_cons, List.take_zero, List.drop_succ_cons, List.drop_zero]
  repeat (go_big_quiet_step (exact Calls.regrown_of (HO.out _)))
  refine wpQuiet_nil ?_
  intro W3 hw'
  obtain ⟨⟨dq, osq⟩, hw''⟩ := hw'
  have hb3 : Below W.heap.size W W3 := by rw [hw'']; exact below_regrown _ dq osq
  clear hw'' HR r0 r1 r2 r3 r4 r5 r6 r7 r8 r9 r10 r11 k0 k1 k2 k3 k4 k5 k6 k7 k8 k9 k10
  have HB := Lib.hid (below_then hb hb3)
  have G2 := blk_below g2 hb3
  clear g0 g1 g2 hb hb3
  obtain ⟨u0, v0, u1, v1, u2, v2, u3, v3, u4, v4, u5, v5, u6, v6⟩ := cells7 G2
  clear G2
  go_wp2
  refine bodyPost_ret ?_ rfl ⟨rfl, ?_⟩
  · simp [results, Tryd.results37, go_sem, u0, u1, u2, u3, u4, u5, u6]
  · (repeat' (first | with_reducible exact HB.out | (with_reducible refine Below.setCell ?_ ?_ _))) <;> (simp; try omega)

set_option maxRecDepth 100000 in
set_option maxHeartbeats 8000000 in
theorem rStep_5 {c : Cf} {C N K : Nat} (s : SzX c C N K) (f : Ds) (hw : DWf f) (hn : NumX c f) (e : f.pc = 5) (w : World) : Calls Tryd.prog 37 #[cfv c, frv f] w (Ret (acI c f) w) := by
  have t4 := topX_le c
  have c2 := s.c2
  have hnum := hn.1
  rw [s.cap, s.chunk] at hnum
  have HO := Lib.hid (fun W => rOffX_any s 0 ((f.i : Int) - 1) (by unfold DWf at hw; omega) (by unfold DWf at hw; omega) W)
  have hX : placeX c f = offX c 0 ((f.i : Int) - 1) := by unfold placeX; simp [e]
  obtain ⟨X, hX2⟩ : ∃ X, offX c 0 ((f.i : Int) - 1) = X := ⟨_, rfl⟩
  rw [hX2] at HO hX
  have hv : acI c f = .agg #[.int .u8 1, .int .i64 X, .int .u64 0, .int .u64 0, .int .u64 0, .int .i64 0, .int .u32 0] := by
    unfold acI
    rw [hX]
    simp [kindX, wordX, wordY, codeX, valX, e]
  rw [hv]
  clear hX2
  clear hv hX t4 c2 hnum hn s
  obtain ⟨t, k, seq, kind, a, b, pc, i, j, n, p, h, x, y⟩ := f
  simp only at e
  subst e
  unfold DWf at hw
  simp only at *
  obtain ⟨hw1, hw2, hw3, hw4, hwa, hwb, hw7, hw8, hw9, hwn, hwp, hwh, hwx, hwy⟩ := hw
  unfold cfv frv at *
  go_enter Tryd.func37, Tryd.ntmps37
  go_upto_region 1 with fail
  refine ent3 fun W hb g0 g1 g2 q0 q1 q2 => ?_
  obtain ⟨r0, r1, r2, r3, r4, r5, r6, r7, r8, r9, r10, r11⟩ := cl12 g0
  obtain ⟨k0, k1, k2, k3, k4, k5, k6, k7, k8, k9, k10⟩ := cl11 g1
  go_wp2_with (go_at_call 27; refine (HO.out _).mono ?_; rintro e w1 ⟨rfl, hb1⟩; have G2 := blk_below g2 hb1; have HB := Lib.hid (below_then hb hb1); clear r0 r1 r2 r3 r4 r5 r6 r7 r8 r9 r10 r11 k0 k1 k2 k3 k4 k5 k6 k7 k8 k9 k10 g0 g1 g2 hb hb1; obtain ⟨u0, v0, u1, v1, u2, v2, u3, v3, u4, v4, u5, v5, u6, v6⟩ := cells7 G2)
  refine bodyPost_ret ?_ rfl ⟨rfl, ?_⟩
  · simp [results, Tryd.results37, go_sem, u0, u1, u2, u3, u4, u5, u6]
  · (repeat' (first | with_reducible exact HB.out | (with_reducible refine Below.setCell ?_ ?_ _))) <;> (simp; try omega)

set_option maxRecDepth 100000 in
set_option maxHeartbeats 8000000 in
theorem rStep_6 {c : Cf} {C N K : Nat} (s : SzX c C N K) (f : Ds) (hw : DWf f) (hn : NumX c f) (e : f.pc = 6) (w : World) : Calls Tryd.prog 37 #[cfv c, frv f] w (Ret (acI c f) w) := by
  have t4 := topX_le c
  have c2 := s.c2
  have hnum := hn.1
  rw [s.cap, s.chunk] at hnum
  have HO := Lib.hid (fun W => rOffX_any s 0 (f.i : Int) (by unfold DWf at hw; omega) (by unfold DWf at hw; omega) W)
  have hX : placeX c f = offX c 0 (f.i : Int) := by unfold placeX; simp [e]
  obtain ⟨X, hX2⟩ : ∃ X, offX c 0 (f.i : Int) = X := ⟨_, rfl⟩
  rw [hX2] at HO hX
  have hv : acI c f = .agg #[.int .u8 2, .int .i64 X, .int .u64 (f.x : Nat), .int .u64 (f.y : Nat), .int .u64 0, .int .i64 0, .int .u32 0] := by
    unfold acI
    rw [hX]
    simp [kindX, wordX, wordY, codeX, valX, e]
  rw [hv]
  clear hX2
  clear hv hX t4 c2 hnum hn s
  obtain ⟨t, k, seq, kind, a, b, pc, i, j, n, p, h, x, y⟩ := f
  simp only at e
  subst e
  unfold DWf at hw
  simp only at *
  obtain ⟨hw1, hw2, hw3, hw4, hwa, hwb, hw7, hw8, hw9, hwn, hwp, hwh, hwx, hwy⟩ := hw
  have x1 : IntKind.u64.wrap (x : Int) = (x : Int) := by rw [IntKind.wrap_u64]; omega
  have y1 : IntKind.u64.wrap (y : Int) = (y : Int) := by rw [IntKind.wrap_u64]; omega
  unfold cfv frv at *
  go_enter Tryd.func37, Tryd.ntmps37
  go_upto_region 1 with fail
  refine ent3 fun W hb g0 g1 g2 q0 q1 q2 => ?_
  obtain ⟨r0, r1, r2, r3, r4, r5, r6, r7, r8, r9, r10, r11⟩ := cl12 g0
  obtain ⟨k0, k1, k2, k3, k4, k5, k6, k7, k8, k9, k10⟩ := cl11 g1
  go_wp2_with fail
  refine wp_region_tail_reads 10 (by kernel_rfl) (by kernel_rfl) fun HR => ?_
  simp only [List.take_succ_cons, List.take_zero, List.drop_succ_cons, List.drop_zero]
  repeat (go_big_quiet_step (exact Calls.regrown_of (HO.out _)))
  refine wpQuiet_nil ?_
  intro W3 hw'
  obtain ⟨⟨dq, osq⟩, hw''⟩ := hw'
  have hb3 : Below W.heap.size W W3 := by rw [hw'']; exact below_regrown _ dq osq
  clear hw'' HR r0 r1 r2 r3 r4 r5 r6 r7 r8 r9 r10 r11 k0 k1 k2 k3 k4 k5 k6 k7 k8 k9 k10
  have HB := Lib.hid (below_then hb hb3)
  have G2 := blk_below g2 hb3
  clear g0 g1 g2 hb hb3
  obtain ⟨u0, v0, u1, v1, u2, v2, u3, v3, u4, v4, u5, v5, u6, v6⟩ := cells7 G2
  clear G2
  go_wp2
  refine bodyPost_ret ?_ rfl ⟨rfl, ?_⟩
  · simp [results, Tryd.results37, go_sem, u0, u1, u2, u3, u4, u5, u6]
  · (repeat' (first | with_reducible exact HB.out | (with_reducible refine Below.setCell ?_ ?_ _))) <;> (simp; try omega)

set_option maxRecDepth 100000 in
set_option maxHeartbeats 8000000 in
theorem rStep_8 {c : Cf} {C N K : Nat} (s : SzX c C N K) (f : Ds) (hw : DWf f) (hn : NumX c f) (e : f.pc = 8) (w : World) : Calls Tryd.prog 37 #[cfv c, frv f] w (Ret (acI c f) w) := by
  have t4 := topX_le c
  have c2 := s.c2
  have hnum := hn.1
  rw [s.cap, s.chunk] at hnum
  have hX : placeX c f = 0 := by unfold placeX; simp [e]
  have hv : acI c f = .agg #[.int .u8 2, .int .i64 0, .int .u64 (f.n : Nat), .int .u64 0, .int .u64 0, .int .i64 0, .int .u32 0] := by
    unfold acI
    rw [hX]
    simp [kindX, wordX, wordY, codeX, valX, e]
  rw [hv]
  clear hv hX t4 c2 hnum hn s
  obtain ⟨t, k, seq, kind, a, b, pc, i, j, n, p, h, x, y⟩ := f
  simp only at e
  subst e
  unfold DWf at hw
  simp only at *
  obtain ⟨hw1, hw2, hw3, hw4, hwa, hwb, hw7, hw8, hw9, hwn, hwp, hwh, hwx, hwy⟩ := hw
  have n1 : IntKind.u64.wrap (n : Int) = (n : Int) := by rw [IntKind.wrap_u64]; omega
  unfold cfv frv at *
  go_enter Tryd.func37, Tryd.ntmps37
  go_upto_region 1 with fail
  refine ent3 fun W hb g0 g1 g2 q0 q1 q2 => ?_
  obtain ⟨r0, r1, r2, r3, r4, r5, r6, r7, r8, r9, r10, r11⟩ := cl12 g0
  obtain ⟨k0, k1, k2, k3, k4, k5, k6, k7, k8, k9, k10⟩ := cl11 g1
  obtain ⟨u0, v0, u1, v1, u2, v2, u3, v3, u4, v4, u5, v5, u6, v6⟩ := cells7 g2
  have HB := Lib.hid hb
  clear g0 g1 g2 hb
  go_wp2
  refine bodyPost_ret ?_ rfl ⟨rfl, ?_⟩
  · simp [results, Tryd.results37, go_sem, u0, u1, u2, u3, u4, u5, u6]
  · (repeat' (first | with_reducible exact HB.out | (with_reducible refine Below.setCell ?_ ?_ _))) <;> (simp; try omega)

set_option maxRecDepth 100000 in
set_option maxHeartbeats 8000000 in
theorem rStep_9 {c : Cf} {C N K : Nat} (s : SzX c C N K) (f : Ds) (hw : DWf f) (hn : NumX c f) (e : f.pc = 9) (w : World) : Calls Tryd.prog 37 #[cfv c, frv f] w (Ret (acI c f) w) := by
  have t4 := topX_le c
  have c2 := s.c2
  have hnum := hn.1
  rw [s.cap, s.chunk] at hnum
  have h9 := hn.2.2.1 (.inl e)
  have hok : Rk.okL f.n N f.h f.i = true := by
    refine Rk.okL_mk (Rk.mayBe_mk (by omega) s.n1 s.n2) ?_
    have := h9.2
    rw [s.up] at this
    unfold Rk.cnt
    simp only [Int.toNat_natCast]
    omega
  have hlst : -1 ≤ Rk.lst f.n c.node f.h f.i ∧ Rk.lst f.n c.node f.h f.i ≤ 255 := by
    rw [s.node]
    unfold Rk.lst Rk.cnt
    have := Rk.items_le (m := f.n) (w := N) (h := ((f.h : Int) - 1).toNat) (by omega) s.n1 s.n2 (by omega)
    have h2 : (0 : Int) ≤ ((f.i : Int) + 1) * (N : Int) := Int.mul_nonneg (by omega) (by omega)
    simp only [Int.toNat_natCast]
    omega
  have HE := Lib.hid (fun W => rEnd_any f.n N f.h f.i hok W)
  rw [← s.node] at HE
  have HO := Lib.hid (fun W => rOffX_any s ((f.h : Int) - 1) (Rk.lst f.n c.node f.h f.i) (by unfold DWf at hw; omega) (by unfold DWf at hw; omega) W)
  have hX : placeX c f = offX c ((f.h : Int) - 1) (Rk.lst f.n c.node f.h f.i) := by unfold placeX; simp [e]
  obtain ⟨L, hL⟩ : ∃ L, Rk.lst f.n c.node f.h f.i = L := ⟨_, rfl⟩
  rw [hL] at HO HE hX
  obtain ⟨X, hX2⟩ : ∃ X, offX c ((f.h : Int) - 1) L = X := ⟨_, rfl⟩
  rw [hX2] at HO hX
  have hv : acI c f = .agg #[.int .u8 1, .int .i64 X, .int .u64 0, .int .u64 0, .int .u64 0, .int .i64 0, .int .u32 0] := by
    unfold acI
    rw [hX]
    simp [kindX, wordX, wordY, codeX, valX, e]
  rw [hv]
  clear hX2
  clear hL
  clear h9 hok hlst
  clear hv hX t4 c2 hnum hn s
  obtain ⟨t, k, seq, kind, a, b, pc, i, j, n, p, h, x, y⟩ := f
  simp only at e
  subst e
  unfold DWf at hw
  simp only at *
  obtain ⟨hw1, hw2, hw3, hw4, hwa, hwb, hw7, hw8, hw9, hwn, hwp, hwh, hwx, hwy⟩ := hw
  unfold cfv frv at *
  go_enter Tryd.func37, Tryd.ntmps37
  go_upto_region 1 with fail
  refine ent3 fun W hb g0 g1 g2 q0 q1 q2 => ?_
  obtain ⟨r0, r1, r2, r3, r4, r5, r6, r7, r8, r9, r10, r11⟩ := cl12 g0
  obtain ⟨k0, k1, k2, k3, k4, k5, k6, k7, k8, k9, k10⟩ := cl11 g1
  go_wp2_with fail
  refine wp_region_tail_reads 17 (by kernel_rfl) (by kernel_rfl) fun HR => ?_
  simp only [List.take_succ_cons, List.take_zero, List.drop_succ_cons, List.drop_zero]
  repeat (go_big_quiet_step (first | exact Calls.regrown_of (HE.out _) | exact Calls.regrown_of (HO.out _)))
  refine wpQuiet_nil ?_
  intro W3 hw'
  obtain ⟨⟨dq, osq⟩, hw''⟩ := hw'
  have hb3 : Below W.heap.size W W3 := by rw [hw'']; exact below_regrown _ dq osq
  clear hw'' HR r0 r1 r2 r3 r4 r5 r6 r7 r8 r9 r10 r11 k0 k1 k2 k3 k4 k5 k6 k7 k8 k9 k10
  have HB := Lib.hid (below_then hb hb3)
  have G2 := blk_below g2 hb3
  clear g0 g1 g2 hb hb3
  obtain ⟨u0, v0, u1, v1, u2, v2, u3, v3, u4, v4, u5, v5, u6, v6⟩ := cells7 G2
  clear G2
  go_wp2
  refine bodyPost_ret ?_ rfl ⟨rfl, ?_⟩
  · simp [results, Tryd.results37, go_sem, u0, u1, u2, u3, u4, u5, u6]
  · (repeat' (first | with_reducible exact HB.out | (with_reducible refine Below.setCell ?_ ?_ _))) <;> (simp; try omega)

set_option maxRecDepth 100000 in
set_option maxHeartbeats 8000000 in
theorem rStep_11 {c : Cf} {C N K : Nat} (s : SzX c C N K) (f : Ds) (hw : DWf f) (hn : NumX c f) (e : f.pc = 11) (w : World) : Calls Tryd.prog 37 #[cfv c, frv f] w (Ret (acI c f) w) := by
  have t4 := topX_le c
  have c2 := s.c2
  have hnum := hn.1
  rw [s.cap, s.chunk] at hnum
  have HO := Lib.hid (fun W => rOffX_any s (f.h : Int) (f.i : Int) (by unfold DWf at hw; omega) (by unfold DWf at hw; omega) W)
  have hX : placeX c f = offX c (f.h : Int) (f.i : Int) := by unfold placeX; simp [e]
  obtain ⟨X, hX2⟩ : ∃ X, offX c (f.h : Int) (f.i : Int) = X := ⟨_, rfl⟩
  rw [hX2] at HO hX
  have hv : acI c f = .agg #[.int .u8 2, .int .i64 X, .int .u64 (f.x : Nat), .int .u64 0, .int .u64 0, .int .i64 0, .int .u32 0] := by
    unfold acI
    rw [hX]
    simp [kindX, wordX, wordY, codeX, valX, e]
  rw [hv]
  clear hX2
  clear hv hX t4 c2 hnum hn s
  obtain ⟨t, k, seq, kind, a, b, pc, i, j, n, p, h, x, y⟩ := f
  simp only at e
  subst e
  unfold DWf at hw
  simp only at *
  obtain ⟨hw1, hw2, hw3, hw4, hwa, hwb, hw7, hw8, hw9, hwn, hwp, hwh, hwx, hwy⟩ := hw
  have x1 : IntKind.u64.wrap (x : Int) = (x : Int) := by rw [IntKind.wrap_u64]; omega
  unfold cfv frv at *
  go_enter Tryd.func37, Tryd.ntmps37
  go_upto_region 1 with fail
  refine ent3 fun W hb g0 g1 g2 q0 q1 q2 => ?_
  obtain ⟨r0, r1, r2, r3, r4, r5, r6, r7, r8, r9, r10, r11⟩ := cl12 g0
  obtain ⟨k0, k1, k2, k3, k4, k5, k6, k7, k8, k9, k10⟩ := cl11 g1
  go_wp2_with fail
  refine wp_region_tail_reads 10 (by kernel_rfl) (by kernel_rfl) fun HR => ?_
  simp only [List.take_succ_cons, List.take_zero, List.drop_succ_cons, List.drop_zero]
  repeat (go_big_quiet_step (exact Calls.regrown_of (HO.out _)))
  refine wpQuiet_nil ?_
  intro W3 hw'
  obtain ⟨⟨dq, osq⟩, hw''⟩ := hw'
  have hb3 : Below W.heap.size W W3 := by rw [hw'']; exact below_regrown _ dq osq
  clear hw'' HR r0 r1 r2 r3 r4 r5 r6 r7 r8 r9 r10 r11 k0 k1 k2 k3 k4 k5 k6 k7 k8 k9 k10
  have HB := Lib.hid (below_then hb hb3)
  have G2 := blk_below g2 hb3
  clear g0 g1 g2 hb hb3
  obtain ⟨u0, v0, u1, v1, u2, v2, u3, v3, u4, v4, u5, v5, u6, v6⟩ := cells7 G2
  clear G2
  go_wp2
  refine bodyPost_ret ?_ rfl ⟨rfl, ?_⟩
  · simp [results, Tryd.results37, go_sem, u0, u1, u2, u3, u4, u5, u6]
  · (repeat' (first | with_reducible exact HB.out | (with_reducible refine Below.setCell ?_ ?_ _))) <;> (simp; try omega)

set_option maxRecDepth 100000 in
set_option maxHeartbeats 8000000 in
theorem rStep_12 {c : Cf} {C N K : Nat} (s : SzX c C N K) (f : Ds) (hw : DWf f) (hn : NumX c f) (e : f.pc = 12) (w : World) : Calls Tryd.prog 37 #[cfv c, frv f] w (Ret (acI c f) w) := by
  have t4 := topX_le c
  have c2 := s.c2
  have hnum := hn.1
  rw [s.cap, s.chunk] at hnum
  have hup : upX c f.n f.h ≤ 32 := by rw [s.up]; exact Rk.items_le (by omega) s.n1 s.n2 (by omega)
  have HU := Lib.hid (fun W => rUpX_any s f.n f.h (by omega) (by omega) W)
  have HO := Lib.hid (fun W => rOffX_any s (f.h : Int) ((upX c f.n f.h : Nat) : Int) (by unfold DWf at hw; omega) (by unfold DWf at hw; omega) W)
  have hX : placeX c f = offX c (f.h : Int) ((upX c f.n f.h : Nat) : Int) := by unfold placeX; simp [e]
  obtain ⟨L, hL⟩ : ∃ L, upX c f.n f.h = L := ⟨_, rfl⟩
  rw [hL] at HO HU hX
  obtain ⟨X, hX2⟩ : ∃ X, offX c (f.h : Int) (L : Int) = X := ⟨_, rfl⟩
  rw [hX2] at HO hX
  have hv : acI c f = .agg #[.int .u8 2, .int .i64 X, .int .u64 0, .int .u64 0, .int .u64 0, .int .i64 0, .int .u32 0] := by
    unfold acI
    rw [hX]
    simp [kindX, wordX, wordY, codeX, valX, e]
  rw [hv]
  clear hX2
  clear hL
  clear hup
  clear hv hX t4 c2 hnum hn s
  obtain ⟨t, k, seq, kind, a, b, pc, i, j, n, p, h, x, y⟩ := f
  simp only at e
  subst e
  unfold DWf at hw
  simp only at *
  obtain ⟨hw1, hw2, hw3, hw4, hwa, hwb, hw7, hw8, hw9, hwn, hwp, hwh, hwx, hwy⟩ := hw
  unfold cfv frv at *
  go_enter Tryd.func37, Tryd.ntmps37
  go_upto_region 1 with fail
  refine ent3 fun W hb g0 g1 g2 q0 q1 q2 => ?_
  obtain ⟨r0, r1, r2, r3, r4, r5, r6, r7, r8, r9, r10, r11⟩ := cl12 g0
  obtain ⟨k0, k1, k2, k3, k4, k5, k6, k7, k8, k9, k10⟩ := cl11 g1
  go_wp2_with fail
  refine wp_region_tail_reads 12 (by kernel_rfl) (by kernel_rfl) fun HR => ?_
  simp only [List.take_succ_cons, List.take_zero, List.drop_succ_cons, List.drop_zero]
  repeat (go_big_quiet_step (first | exact Calls.regrown_of (HU.out _) | exact Calls.regrown_of (HO.out _)))
  refine wpQuiet_nil ?_
  intro W3 hw'
  obtain ⟨⟨dq, osq⟩, hw''⟩ := hw'
  have hb3 : Below W.heap.size W W3 := by rw [hw'']; exact below_regrown _ dq osq
  clear hw'' HR r0 r1 r2 r3 r4 r5 r6 r7 r8 r9 r10 r11 k0 k1 k2 k3 k4 k5 k6 k7 k8 k9 k10
  have HB := Lib.hid (below_then hb hb3)
  have G2 := blk_below g2 hb3
  clear g0 g1 g2 hb hb3
  obtain ⟨u0, v0, u1, v1, u2, v2, u3, v3, u4, v4, u5, v5, u6, v6⟩ := cells7 G2
  clear G2
  go_wp2
  refine bodyPost_ret ?_ rfl ⟨rfl, ?_⟩
  · simp [results, Tryd.results37, go_sem, u0, u1, u2, u3, u4, u5, u6]
  · (repeat' (first | with_reducible exact HB.out | (with_reducible refine Below.setCell ?_ ?_ _))) <;> (simp; try omega)

set_option maxRecDepth 100000 in
set_option maxHeartbeats 8000000 in
theorem rStep_13 {c : Cf} {C N K : Nat} (s : SzX c C N K) (f : Ds) (hw : DWf f) (hn : NumX c f) (e : f.pc = 13) (w : World) : Calls Tryd.prog 37 #[cfv c, frv f] w (Ret (acI c f) w) := by
  have t4 := topX_le c
  have c2 := s.c2
  have hnum := hn.1
  rw [s.cap, s.chunk] at hnum
  have HO := Lib.hid (fun W => rOffX_any s 0 (f.i : Int) (by unfold DWf at hw; omega) (by unfold DWf at hw; omega) W)
  have hX : placeX c f = offX c 0 (f.i : Int) := by unfold placeX; simp [e]
  obtain ⟨X, hX2⟩ : ∃ X, offX c 0 (f.i : Int) = X := ⟨_, rfl⟩
  rw [hX2] at HO hX
  have hv : acI c f = .agg #[.int .u8 1, .int .i64 X, .int .u64 0, .int .u64 0, .int .u64 0, .int .i64 0, .int .u32 0] := by
    unfold acI
    rw [hX]
    simp [kindX, wordX, wordY, codeX, valX, e]
  rw [hv]
  clear hX2
  clear hv hX t4 c2 hnum hn s
  obtain ⟨t, k, seq, kind, a, b, pc, i, j, n, p, h, x, y⟩ := f
  simp only at e
  subst e
  unfold DWf at hw
  simp only at *
  obtain ⟨hw1, hw2, hw3, hw4, hwa, hwb, hw7, hw8, hw9, hwn, hwp, hwh, hwx, hwy⟩ := hw
  unfold cfv frv at *
  go_enter Tryd.func37, Tryd.ntmps37
  go_upto_region 1 with fail
  refine ent3 fun W hb g0 g1 g2 q0 q1 q2 => ?_
  obtain ⟨r0, r1, r2, r3, r4, r5, r6, r7, r8, r9, r10, r11⟩ := cl12 g0
  obtain ⟨k0, k1, k2, k3, k4, k5, k6, k7, k8, k9, k10⟩ := cl11 g1
  go_wp2_with (go_at_call 27; refine (HO.out _).mono ?_; rintro e w1 ⟨rfl, hb1⟩; have G2 := blk_below g2 hb1; have HB := Lib.hid (below_then hb hb1); clear r0 r1 r2 r3 r4 r5 r6 r7 r8 r9 r10 r11 k0 k1 k2 k3 k4 k5 k6 k7 k8 k9 k10 g0 g1 g2 hb hb1; obtain ⟨u0, v0, u1, v1, u2, v2, u3, v3, u4, v4, u5, v5, u6, v6⟩ := cells7 G2)
  refine bodyPost_ret ?_ rfl ⟨rfl, ?_⟩
  · simp [results, Tryd.results37, go_sem, u0, u1, u2, u3, u4, u5, u6]
  · (repeat' (first | with_reducible exact HB.out | (with_reducible refine Below.setCell ?_ ?_ _))) <;> (simp; try omega)

set_option maxRecDepth 100000 in
set_option maxHeartbeats 8000000 in
theorem rStep_14 {c : Cf} {C N K : Nat} (s : SzX c C N K) (f : Ds) (hw : DWf f) (hn : NumX c f) (e : f.pc = 14) (w : World) : Calls Tryd.prog 37 #[cfv c, frv f] w (Ret (acI c f) w) := by
  have t4 := topX_le c
  have c2 := s.c2
  have hnum := hn.1
  rw [s.cap, s.chunk] at hnum
  have HO := Lib.hid (fun W => rOffX_any s 0 ((f.i : Int) - 1) (by unfold DWf at hw; omega) (by unfold DWf at hw; omega) W)
  have hX : placeX c f = offX c 0 ((f.i : Int) - 1) := by unfold placeX; simp [e]
  obtain ⟨X, hX2⟩ : ∃ X, offX c 0 ((f.i : Int) - 1) = X := ⟨_, rfl⟩
  rw [hX2] at HO hX
  have hv : acI c f = .agg #[.int .u8 2, .int .i64 X, .int .u64 (f.x : Nat), .int .u64 (f.y : Nat), .int .u64 0, .int .i64 0, .int .u32 0] := by
    unfold acI
    rw [hX]
    simp [kindX, wordX, wordY, codeX, valX, e]
  rw [hv]
  clear hX2
  clear hv hX t4 c2 hnum hn s
  obtain ⟨t, k, seq, kind, a, b, pc, i, j, n, p, h, x, y⟩ := f
  simp only at e
  subst e
  unfold DWf at hw
  simp only at *
  obtain ⟨hw1, hw2, hw3, hw4, hwa, hwb, hw7, hw8, hw9, hwn, hwp, hwh, hwx, hwy⟩ := hw
  have x1 : IntKind.u64.wrap (x : Int) = (x : Int) := by rw [IntKind.wrap_u64]; omega
  have y1 : IntKind.u64.wrap (y : Int) = (y : Int) := by rw [IntKind.wrap_u64]; omega
  unfold cfv frv at *
  go_enter Tryd.func37, Tryd.ntmps37
  go_upto_region 1 with fail
  refine ent3 fun W hb g0 g1 g2 q0 q1 q2 => ?_
  obtain ⟨r0, r1, r2, r3, r4, r5, r6, r7, r8, r9, r10, r11⟩ := cl12 g0
  obtain ⟨k0, k1, k2, k3, k4, k5, k6, k7, k8, k9, k10⟩ := cl11 g1
  go_wp2_with fail
  refine wp_region_tail_reads 11 (by kernel_rfl) (by kernel_rfl) fun HR => ?_
  simp only [List.take_succ_cons, List.take_zero, List.drop_succ_cons, List.drop_zero]
  repeat (go_big_quiet_step (exact Calls.regrown_of (HO.out _)))
  refine wpQuiet_nil ?_
  intro W3 hw'
  obtain ⟨⟨dq, osq⟩, hw''⟩ := hw'
  have hb3 : Below W.heap.size W W3 := by rw [hw'']; exact below_regrown _ dq osq
  clear hw'' HR r0 r1 r2 r3 r4 r5 r6 r7 r8 r9 r10 r11 k0 k1 k2 k3 k4 k5 k6 k7 k8 k9 k10
  have HB := Lib.hid (below_then hb hb3)
  have G2 := blk_below g2 hb3
  clear g0 g1 g2 hb hb3
  obtain ⟨u0, v0, u1, v1, u2, v2, u3, v3, u4, v4, u5, v5, u6, v6⟩ := cells7 G2
  clear G2
  go_wp2
  refine bodyPost_ret ?_ rfl ⟨rfl, ?_⟩
  · simp [results, Tryd.results37, go_sem, u0, u1, u2, u3, u4, u5, u6]
  · (repeat' (first | with_reducible exact HB.out | (with_reducible refine Below.setCell ?_ ?_ _))) <;> (simp; try omega)

set_option maxRecDepth 100000 in
set_option maxHeartbeats 8000000 in
theorem rStep_15 {c : Cf} {C N K : Nat} (s : SzX c C N K) (f : Ds) (hw : DWf f) (hn : NumX c f) (e : f.pc = 15) (w : World) : Calls Tryd.prog 37 #[cfv c, frv f] w (Ret (acI c f) w) := by
  have t4 := topX_le c
  have c2 := s.c2
  have hnum := hn.1
  rw [s.cap, s.chunk] at hnum
  have HO := Lib.hid (fun W => rOffX_any s 0 ((f.n : Int) - 1) (by unfold DWf at hw; omega) (by unfold DWf at hw; omega) W)
  have hX : placeX c f = offX c 0 ((f.n : Int) - 1) := by unfold placeX; simp [e]
  obtain ⟨X, hX2⟩ : ∃ X, offX c 0 ((f.n : Int) - 1) = X := ⟨_, rfl⟩
  rw [hX2] at HO hX
  have hv : acI c f = .agg #[.int .u8 2, .int .i64 X, .int .u64 0, .int .u64 0, .int .u64 0, .int .i64 0, .int .u32 0] := by
    unfold acI
    rw [hX]
    simp [kindX, wordX, wordY, codeX, valX, e]
  rw [hv]
  clear hX2
  clear hv hX t4 c2 hnum hn s
  obtain ⟨t, k, seq, kind, a, b, pc, i, j, n, p, h, x, y⟩ := f
  simp only at e
  subst e
  unfold DWf at hw
  simp only at *
  obtain ⟨hw1, hw2, hw3, hw4, hwa, hwb, hw7, hw8, hw9, hwn, hwp, hwh, hwx, hwy⟩ := hw
  unfold cfv frv at *
  go_enter Tryd.func37, Tryd.ntmps37
  go_upto_region 1 with fail
  refine ent3 fun W hb g0 g1 g2 q0 q1 q2 => ?_
  obtain ⟨r0, r1, r2, r3, r4, r5, r6, r7, r8, r9, r10, r11⟩ := cl12 g0
  obtain ⟨k0, k1, k2, k3, k4, k5, k6, k7, k8, k9, k10⟩ := cl11 g1
  go_wp2_with (go_at_call 27; refine (HO.out _).mono ?_; rintro e w1 ⟨rfl, hb1⟩; have G2 := blk_below g2 hb1; have HB := Lib.hid (below_then hb hb1); clear r0 r1 r2 r3 r4 r5 r6 r7 r8 r9 r10 r11 k0 k1 k2 k3 k4 k5 k6 k7 k8 k9 k10 g0 g1 g2 hb hb1; obtain ⟨u0, v0, u1, v1, u2, v2, u3, v3, u4, v4, u5, v5, u6, v6⟩ := cells7 G2)
  refine bodyPost_ret ?_ rfl ⟨rfl, ?_⟩
  · simp [results, Tryd.results37, go_sem, u0, u1, u2, u3, u4, u5, u6]
  · (repeat' (first | with_reducible exact HB.out | (with_reducible refine Below.setCell ?_ ?_ _))) <;> (simp; try omega)

set_option maxRecDepth 100000 in
set_option maxHeartbeats 8000000 in
theorem rStep_16 {c : Cf} {C N K : Nat} (s : SzX c C N K) (f : Ds) (hw : DWf f) (hn : NumX c f) (e : f.pc = 16) (w : World) : Calls Tryd.prog 37 #[cfv c, frv f] w (Ret (acI c f) w) := by
  have t4 := topX_le c
  have c2 := s.c2
  have hnum := hn.1
  rw [s.cap, s.chunk] at hnum
  have hX : placeX c f = 0 := by unfold placeX; simp [e]
  have hv : acI c f = .agg #[.int .u8 3, .int .i64 0, .int .u64 0, .int .u64 0, .int .u64 0, .int .i64 0, .int .u32 0] := by
    unfold acI
    rw [hX]
    simp [kindX, wordX, wordY, codeX, valX, e]
  rw [hv]
  clear hv hX t4 c2 hnum hn s
  obtain ⟨t, k, seq, kind, a, b, pc, i, j, n, p, h, x, y⟩ := f
  simp only at e
  subst e
  unfold DWf at hw
  simp only at *
  obtain ⟨hw1, hw2, hw3, hw4, hwa, hwb, hw7, hw8, hw9, hwn, hwp, hwh, hwx, hwy⟩ := hw
  unfold cfv frv at *
  go_enter Tryd.func37, Tryd.ntmps37
  go_upto_region 1 with fail
  refine ent3 fun W hb g0 g1 g2 q0 q1 q2 => ?_
  obtain ⟨r0, r1, r2, r3, r4, r5, r6, r7, r8, r9, r10, r11⟩ := cl12 g0
  obtain ⟨k0, k1, k2, k3, k4, k5, k6, k7, k8, k9, k10⟩ := cl11 g1
  obtain ⟨u0, v0, u1, v1, u2, v2, u3, v3, u4, v4, u5, v5, u6, v6⟩ := cells7 g2
  have HB := Lib.hid hb
  clear g0 g1 g2 hb
  go_wp2
  refine bodyPost_ret ?_ rfl ⟨rfl, ?_⟩
  · simp [results, Tryd.results37, go_sem, u0, u1, u2, u3, u4, u5, u6]
  · (repeat' (first | with_reducible exact HB.out | (with_reducible refine Below.setCell ?_ ?_ _))) <;> (simp; try omega)

set_option maxRecDepth 100000 in
set_option maxHeartbeats 8000000 in
theorem rStep_17 {c : Cf} {C N K : Nat} (s : SzX c C N K) (f : Ds) (hw : DWf f) (hn : NumX c f) (e : f.pc = 17) (w : World) : Calls Tryd.prog 37 #[cfv c, frv f] w (Ret (acI c f) w) := by
  have t4 := topX_le c
  have c2 := s.c2
  have hnum := hn.1
  rw [s.cap, s.chunk] at hnum
  have HO := Lib.hid (fun W => rOffX_any s 0 (f.p : Int) (by unfold DWf at hw; omega) (by unfold DWf at hw; omega) W)
  have hX : placeX c f = offX c 0 (f.p : Int) := by unfold placeX; simp [e]
  obtain ⟨X, hX2⟩ : ∃ X, offX c 0 (f.p : Int) = X := ⟨_, rfl⟩
  rw [hX2] at HO hX
  have hv : acI c f = .agg #[.int .u8 1, .int .i64 X, .int .u64 0, .int .u64 0, .int .u64 0, .int .i64 0, .int .u32 0] := by
    unfold acI
    rw [hX]
    simp [kindX, wordX, wordY, codeX, valX, e]
  rw [hv]
  clear hX2
  clear hv hX t4 c2 hnum hn s
  obtain ⟨t, k, seq, kind, a, b, pc, i, j, n, p, h, x, y⟩ := f
  simp only at e
  subst e
  unfold DWf at hw
  simp only at *
  obtain ⟨hw1, hw2, hw3, hw4, hwa, hwb, hw7, hw8, hw9, hwn, hwp, hwh, hwx, hwy⟩ := hw
  unfold cfv frv at *
  go_enter Tryd.func37, Tryd.ntmps37
  go_upto_region 1 with fail
  refine ent3 fun W hb g0 g1 g2 q0 q1 q2 => ?_
  obtain ⟨r0, r1, r2, r3, r4, r5, r6, r7, r8, r9, r10, r11⟩ := cl12 g0
  obtain ⟨k0, k1, k2, k3, k4, k5, k6, k7, k8, k9, k10⟩ := cl11 g1
  go_wp2_with (go_at_call 27; refine (HO.out _).mono ?_; rintro e w1 ⟨rfl, hb1⟩; have G2 := blk_below g2 hb1; have HB := Lib.hid (below_then hb hb1); clear r0 r1 r2 r3 r4 r5 r6 r7 r8 r9 r10 r11 k0 k1 k2 k3 k4 k5 k6 k7 k8 k9 k10 g0 g1 g2 hb hb1; obtain ⟨u0, v0, u1, v1, u2, v2, u3, v3, u4, v4, u5, v5, u6, v6⟩ := cells7 G2)
  refine bodyPost_ret ?_ rfl ⟨rfl, ?_⟩
  · simp [results, Tryd.results37, go_sem, u0, u1, u2, u3, u4, u5, u6]
  · (repeat' (first | with_reducible exact HB.out | (with_reducible refine Below.setCell ?_ ?_ _))) <;> (simp; try omega)

set_option maxRecDepth 100000 in
set_option maxHeartbeats 8000000 in
theorem rStep_20 {c : Cf} {C N K : Nat} (s : SzX c C N K) (f : Ds) (hw : DWf f) (hn : NumX c f) (e : f.pc = 20) (w : World) : Calls Tryd.prog 37 #[cfv c, frv f] w (Ret (acI c f) w) := by
  have t4 := topX_le c
  have c2 := s.c2
  have hnum := hn.1
  rw [s.cap, s.chunk] at hnum
  have hX : placeX c f = 0 := by unfold placeX; simp [e]
  have hv : acI c f = .agg #[.int .u8 4, .int .i64 0, .int .u64 0, .int .u64 0, .int .u64 0, .int .i64 0, .int .u32 0] := by
    unfold acI
    rw [hX]
    simp [kindX, wordX, wordY, codeX, valX, e]
  rw [hv]
  clear hv hX t4 c2 hnum hn s
  obtain ⟨t, k, seq, kind, a, b, pc, i, j, n, p, h, x, y⟩ := f
  simp only at e
  subst e
  unfold DWf at hw
  simp only at *
  obtain ⟨hw1, hw2, hw3, hw4, hwa, hwb, hw7, hw8, hw9, hwn, hwp, hwh, hwx, hwy⟩ := hw
  unfold cfv frv at *
  go_enter Tryd.func37, Tryd.ntmps37
  go_upto_region 1 with fail
  refine ent3 fun W hb g0 g1 g2 q0 q1 q2 => ?_
  obtain ⟨r0, r1, r2, r3, r4, r5, r6, r7, r8, r9, r10, r11⟩ := cl12 g0
  obtain ⟨k0, k1, k2, k3, k4, k5, k6, k7, k8, k9, k10⟩ := cl11 g1
  obtain ⟨u0, v0, u1, v1, u2, v2, u3, v3, u4, v4, u5, v5, u6, v6⟩ := cells7 g2
  have HB := Lib.hid hb
  clear g0 g1 g2 hb
  go_wp2
  refine bodyPost_ret ?_ rfl ⟨rfl, ?_⟩
  · simp [results, Tryd.results37, go_sem, u0, u1, u2, u3, u4, u5, u6]
  · (repeat' (first | with_reducible exact HB.out | (with_reducible refine Below.setCell ?_ ?_ _))) <;> (simp; try omega)

set_option maxRecDepth 100000 in
set_option maxHeartbeats 8000000 in
theorem rStep_21 {c : Cf} {C N K : Nat} (s : SzX c C N K) (f : Ds) (hw : DWf f) (hn : NumX c f) (e : f.pc = 21) (w : World) : Calls Tryd.prog 37 #[cfv c, frv f] w (Ret (acI c f) w) := by
  have t4 := topX_le c
  have c2 := s.c2
  have hnum := hn.1
  rw [s.cap, s.chunk] at hnum
  have hX : placeX c f = 0 := by unfold placeX; simp [e]
  have hv : acI c f = .agg #[.int .u8 4, .int .i64 0, .int .u64 0, .int .u64 0, .int .u64 0, .int .i64 6, .int .u32 0] := by
    unfold acI
    rw [hX]
    simp [kindX, wordX, wordY, codeX, valX, e]
  rw [hv]
  clear hv hX t4 c2 hnum hn s
  obtain ⟨t, k, seq, kind, a, b, pc, i, j, n, p, h, x, y⟩ := f
  simp only at e
  subst e
  unfold DWf at hw
  simp only at *
  obtain ⟨hw1, hw2, hw3, hw4, hwa, hwb, hw7, hw8, hw9, hwn, hwp, hwh, hwx, hwy⟩ := hw
  unfold cfv frv at *
  go_enter Tryd.func37, Tryd.ntmps37
  go_upto_region 1 with fail
  refine ent3 fun W hb g0 g1 g2 q0 q1 q2 => ?_
  obtain ⟨r0, r1, r2, r3, r4, r5, r6, r7, r8, r9, r10, r11⟩ := cl12 g0
  obtain ⟨k0, k1, k2, k3, k4, k5, k6, k7, k8, k9, k10⟩ := cl11 g1
  obtain ⟨u0, v0, u1, v1, u2, v2, u3, v3, u4, v4, u5, v5, u6, v6⟩ := cells7 g2
  have HB := Lib.hid hb
  clear g0 g1 g2 hb
  go_wp2
  refine bodyPost_ret ?_ rfl ⟨rfl, ?_⟩
  · simp [results, Tryd.results37, go_sem, u0, u1, u2, u3, u4, u5, u6]
  · (repeat' (first | with_reducible exact HB.out | (with_reducible refine Below.setCell ?_ ?_ _))) <;> (simp; try omega)

set_option maxRecDepth 100000 in
set_option maxHeartbeats 8000000 in
theorem rStep_22 {c : Cf} {C N K : Nat} (s : SzX c C N K) (f : Ds) (hw : DWf f) (hn : NumX c f) (e : f.pc = 22) (w : World) : Calls Tryd.prog 37 #[cfv c, frv f] w (Ret (acI c f) w) := by
  have t4 := topX_le c
  have c2 := s.c2
  have hnum := hn.1
  rw [s.cap, s.chunk] at hnum
  have hX : placeX c f = 0 := by unfold placeX; simp [e]
  have hv : acI c f = .agg #[.int .u8 4, .int .i64 0, .int .u64 0, .int .u64 0, .int .u64 0, .int .i64 9, .int .u32 0] := by
    unfold acI
    rw [hX]
    simp [kindX, wordX, wordY, codeX, valX, e]
  rw [hv]
  clear hv hX t4 c2 hnum hn s
  obtain ⟨t, k, seq, kind, a, b, pc, i, j, n, p, h, x, y⟩ := f
  simp only at e
  subst e
  unfold DWf at hw
  simp only at *
  obtain ⟨hw1, hw2, hw3, hw4, hwa, hwb, hw7, hw8, hw9, hwn, hwp, hwh, hwx, hwy⟩ := hw
  unfold cfv frv at *
  go_enter Tryd.func37, Tryd.ntmps37
  go_upto_region 1 with fail
  refine ent3 fun W hb g0 g1 g2 q0 q1 q2 => ?_
  obtain ⟨r0, r1, r2, r3, r4, r5, r6, r7, r8, r9, r10, r11⟩ := cl12 g0
  obtain ⟨k0, k1, k2, k3, k4, k5, k6, k7, k8, k9, k10⟩ := cl11 g1
  obtain ⟨u0, v0, u1, v1, u2, v2, u3, v3, u4, v4, u5, v5, u6, v6⟩ := cells7 g2
  have HB := Lib.hid hb
  clear g0 g1 g2 hb
  go_wp2
  refine bodyPost_ret ?_ rfl ⟨rfl, ?_⟩
  · simp [results, Tryd.results37, go_sem, u0, u1, u2, u3, u4, u5, u6]
  · (repeat' (first | with_reducible exact HB.out | (with_reducible refine Below.setCell ?_ ?_ _))) <;> (simp; try omega)

set_option maxRecDepth 100000 in
set_option maxHeartbeats 8000000 in
theorem rStep_23 {c : Cf} {C N K : Nat} (s : SzX c C N K) (f : Ds) (hw : DWf f) (hn : NumX c f) (e : f.pc = 23) (w : World) : Calls Tryd.prog 37 #[cfv c, frv f] w (Ret (acI c f) w) := by
  have t4 := topX_le c
  have c2 := s.c2
  have hnum := hn.1
  rw [s.cap, s.chunk] at hnum
  have hX : placeX c f = 0 := by unfold placeX; simp [e]
  have hv : acI c f = .agg #[.int .u8 4, .int .i64 0, .int .u64 0, .int .u64 0, .int .u64 0, .int .i64 0, .int .u32 ((f.y + 1) % 4294967296 : Nat)] := by
    unfold acI
    rw [hX]
    simp [kindX, wordX, wordY, codeX, valX, e]
  rw [hv]
  clear hv hX t4 c2 hnum hn s
  obtain ⟨t, k, seq, kind, a, b, pc, i, j, n, p, h, x, y⟩ := f
  simp only at e
  subst e
  unfold DWf at hw
  simp only at *
  obtain ⟨hw1, hw2, hw3, hw4, hwa, hwb, hw7, hw8, hw9, hwn, hwp, hwh, hwx, hwy⟩ := hw
  have y1 : IntKind.u32.wrap ((y : Int) + 1) = (((y + 1) % 4294967296 : Nat) : Int) := by rw [IntKind.wrap_u32]; omega
  unfold cfv frv at *
  go_enter Tryd.func37, Tryd.ntmps37
  go_upto_region 1 with fail
  refine ent3 fun W hb g0 g1 g2 q0 q1 q2 => ?_
  obtain ⟨r0, r1, r2, r3, r4, r5, r6, r7, r8, r9, r10, r11⟩ := cl12 g0
  obtain ⟨k0, k1, k2, k3, k4, k5, k6, k7, k8, k9, k10⟩ := cl11 g1
  obtain ⟨u0, v0, u1, v1, u2, v2, u3, v3, u4, v4, u5, v5, u6, v6⟩ := cells7 g2
  have HB := Lib.hid hb
  clear g0 g1 g2 hb
  go_wp2
  refine bodyPost_ret ?_ rfl ⟨rfl, ?_⟩
  · simp [results, Tryd.results37, go_sem, u0, u1, u2, u3, u4, u5, u6]
  · (repeat' (first | with_reducible exact HB.out | (with_reducible refine Below.setCell ?_ ?_ _))) <;> (simp; try omega)

set_option maxRecDepth 100000 in
set_option maxHeartbeats 8000000 in
theorem rStep_24 {c : Cf} {C N K : Nat} (s : SzX c C N K) (f : Ds) (hw : DWf f) (hn : NumX c f) (e : f.pc = 24) (w : World) : Calls Tryd.prog 37 #[cfv c, frv f] w (Ret (acI c f) w) := by
  have t4 := topX_le c
  have c2 := s.c2
  have hnum := hn.1
  rw [s.cap, s.chunk] at hnum
  have hX : placeX c f = 0 := by unfold placeX; simp [e]
  have hv : acI c f = .agg #[.int .u8 4, .int .i64 0, .int .u64 0, .int .u64 0, .int .u64 0, .int .i64 0, .int .u32 0] := by
    unfold acI
    rw [hX]
    simp [kindX, wordX, wordY, codeX, valX, e]
  rw [hv]
  clear hv hX t4 c2 hnum hn s
  obtain ⟨t, k, seq, kind, a, b, pc, i, j, n, p, h, x, y⟩ := f
  simp only at e
  subst e
  unfold DWf at hw
  simp only at *
  obtain ⟨hw1, hw2, hw3, hw4, hwa, hwb, hw7, hw8, hw9, hwn, hwp, hwh, hwx, hwy⟩ := hw
  unfold cfv frv at *
  go_enter Tryd.func37, Tryd.ntmps37
  go_upto_region 1 with fail
  refine ent3 fun W hb g0 g1 g2 q0 q1 q2 => ?_
  obtain ⟨r0, r1, r2, r3, r4, r5, r6, r7, r8, r9, r10, r11⟩ := cl12 g0
  obtain ⟨k0, k1, k2, k3, k4, k5, k6, k7, k8, k9, k10⟩ := cl11 g1
  obtain ⟨u0, v0, u1, v1, u2, v2, u3, v3, u4, v4, u5, v5, u6, v6⟩ := cells7 g2
  have HB := Lib.hid hb
  clear g0 g1 g2 hb
  go_wp2
  refine bodyPost_ret ?_ rfl ⟨rfl, ?_⟩
  · simp [results, Tryd.results37, go_sem, u0, u1, u2, u3, u4, u5, u6]
  · (repeat' (first | with_reducible exact HB.out | (with_reducible refine Below.setCell ?_ ?_ _))) <;> (simp; try omega)

set_option maxRecDepth 100000 in
set_option maxHeartbeats 8000000 in
theorem rStep_25 {c : Cf} {C N K : Nat} (s : SzX c C N K) (f : Ds) (hw : DWf f) (hn : NumX c f) (e : f.pc = 25) (w : World) : Calls Tryd.prog 37 #[cfv c, frv f] w (Ret (acI c f) w) := by
  have t4 := topX_le c
  have c2 := s.c2
  have hnum := hn.1
  rw [s.cap, s.chunk] at hnum
  have hX : placeX c f = 0 := by unfold placeX; simp [e]
  have hv : acI c f = .agg #[.int .u8 4, .int .i64 0, .int .u64 0, .int .u64 0, .int .u64 0, .int .i64 0, .int .u32 (f.b : Nat)] := by
    unfold acI
    rw [hX]
    simp [kindX, wordX, wordY, codeX, valX, e]
  rw [hv]
  clear hv hX t4 c2 hnum hn s
  obtain ⟨t, k, seq, kind, a, b, pc, i, j, n, p, h, x, y⟩ := f
  simp only at e
  subst e
  unfold DWf at hw
  simp only at *
  obtain ⟨hw1, hw2, hw3, hw4, hwa, hwb, hw7, hw8, hw9, hwn, hwp, hwh, hwx, hwy⟩ := hw
  unfold cfv frv at *
  go_enter Tryd.func37, Tryd.ntmps37
  go_upto_region 1 with fail
  refine ent3 fun W hb g0 g1 g2 q0 q1 q2 => ?_
  obtain ⟨r0, r1, r2, r3, r4, r5, r6, r7, r8, r9, r10, r11⟩ := cl12 g0
  obtain ⟨k0, k1, k2, k3, k4, k5, k6, k7, k8, k9, k10⟩ := cl11 g1
  obtain ⟨u0, v0, u1, v1, u2, v2, u3, v3, u4, v4, u5, v5, u6, v6⟩ := cells7 g2
  have HB := Lib.hid hb
  clear g0 g1 g2 hb
  go_wp2
  refine bodyPost_ret ?_ rfl ⟨rfl, ?_⟩
  · simp [results, Tryd.results37, go_sem, u0, u1, u2, u3, u4, u5, u6]
  · (repeat' (first | with_reducible exact HB.out | (with_reducible refine Below.setCell ?_ ?_ _))) <;> (simp; try omega)

theorem rStepX_any {c : Cf} {C N K : Nat} (s : SzX c C N K) (f : Ds) (hw : DWf f) (ht : ThereX f.kind f.pc) (hn : NumX c f) (w : World) : Calls Tryd.prog 37 #[cfv c, frv f] w (Ret (acI c f) w) := by
  have hp := (thereX_iff _ _).1 ht
  have h : f.pc = 0 ∨ f.pc = 1 ∨ f.pc = 3 ∨ f.pc = 4 ∨ f.pc = 7 ∨ f.pc = 5 ∨ f.pc = 6 ∨ f.pc = 8 ∨ f.pc = 9 ∨ f.pc = 11 ∨ f.pc = 12 ∨ f.pc = 13 ∨ f.pc = 14 ∨ f.pc = 15 ∨ f.pc = 16 ∨ f.pc = 17 ∨ f.pc = 20 ∨ f.pc = 21 ∨ f.pc = 22 ∨ f.pc = 23 ∨ f.pc = 24 ∨ f.pc = 25 := by omega
  rcases h with e | e | e | e | e | e | e | e | e | e | e | e | e | e | e | e | e | e | e | e | e | e
  · exact rStep_0 s f hw hn e w
  · exact rStep_1 s f hw hn e w
  · exact rStep_3 s f hw hn e w
  · exact rStep_4 s f hw hn e w
  · exact rStep_7 s f hw hn e w
  · exact rStep_5 s f hw hn e w
  · exact rStep_6 s f hw hn e w
  · exact rStep_8 s f hw hn e w
  · exact rStep_9 s f hw hn e w
  · exact rStep_11 s f hw hn e w
  · exact rStep_12 s f hw hn e w
  · exact rStep_13 s f hw hn e w
  · exact rStep_14 s f hw hn e w
  · exact rStep_15 s f hw hn e w
  · exact rStep_16 s f hw hn e w
  · exact rStep_17 s f hw hn e w
  · exact rStep_20 s f hw hn e w
  · exact rStep_21 s f hw hn e w
  · exact rStep_22 s f hw hn e w
  · exact rStep_23 s f hw hn e w
  · exact rStep_24 s f hw hn e w
  · exact rStep_25 s f hw hn e w
end Go.Proofs.YtmkehailohgebaaDoor
