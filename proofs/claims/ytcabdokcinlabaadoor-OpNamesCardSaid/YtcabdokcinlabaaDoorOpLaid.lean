/- Package op: the cell by which an operation is announced, and what a cell announces. -/
import Derived.Test.YtcabdokcinlabaaDoorPkJoin
import Derived.Test.YtcabdokcinlabaaDoorTail
import Derived.Test.YtcabdokcinlabaaDoorOpMath
namespace Go.Proofs.YtcabdokcinlabaaDoor
open Go.RowKit Pt Opn

/-- A cell. -/
def cev (t a b c : Int) : Value := .agg #[.int .u64 t, .int .u64 a, .int .u64 b, .int .u64 c]

theorem two_fields {w : World} {g : Nat} {b0 b1 : Int} {v0 v1 : Nat} (h0 : w.cell? ⟨g, 0, none⟩ = some (.int .i64 b0)) (h1 : w.cell? ⟨g, 1, none⟩ = some (.int .u64 v0)) (h2 : w.cell? ⟨g, 2, none⟩ = some (.int .i64 b1)) (h3 : w.cell? ⟨g, 3, none⟩ = some (.int .u64 v1)) :
    IsFields w (some ⟨g, 0, none⟩) 2 (fun i => if i = 0 then b0 else b1) (fun i => if i = 0 then v0 else v1)
  | 0, _ => ⟨g, 0, rfl, h0, h1⟩
  | 1, _ => ⟨g, 0, rfl, h2, h3⟩

theorem joined {k a : Nat} (hk : k < 256) (ha : a < 4294967296) : Pk.joinW (fun i => if i = 0 then 8 else 32) (fun i => if i = 0 then k else a) 2 = a * 256 + k := by
  have h1 : Pk.standB (fun i => if i = 0 then (8 : Int) else 32) 2 = true := by decide +kernel
  have h2 : Pk.fitsAll (fun i => if i = 0 then (8 : Int) else 32) (fun i => if i = 0 then k else a) 2 = true := by
    simp [Pk.fitsAll, List.range_succ, Pk.fitsB]; omega
  unfold Pk.joinW
  rw [if_pos ⟨h1, h2⟩, ← join_eq hk ha]
  simp [Pk.join, Pk.pos, show wrap64 8 = 8 by decide +kernel]

set_option maxHeartbeats 1000000 in
theorem kindAndNumber_any (k a : Nat) (hk : k < 256) (ha : a < 4294967296) (w : World) :
    Calls Tryd.prog 23 #[.int .u8 k, .int .u32 a] w (Ret (.int .u64 (a * 256 + k : Nat)) w) := by
  have HJ := Lib.hid (joined hk ha)
  go_enter Tryd.func23, Tryd.ntmps23
  go_wp2_with fail
  refine (join_any _ 2 2 (by omega) (fun i => if i = 0 then 8 else 32) (fun i => if i = 0 then k else a) _ (two_fields (by simp [go_sem]) (by simp [go_sem]) (by simp [go_sem]) (by simp [go_sem]))).mono ?_
  rintro e w1 ⟨rfl, hb1⟩
  rw [HJ.out]
  go_wp2
  go_ret
  exact Ret.mk rfl (below_then (below_one _ _) hb1)

theorem get_at (x a b : Nat) (y : Nat) (hx : x < 18446744073709551616) (h1 : 1 ≤ b) (h : a + b ≤ 64) (hy : Pk.field x a b = y) (za zb : Int) (ea : za = a) (eb : zb = b) (w : World) :
    Calls Tryd.prog 32 #[.int .u64 x, .int .i64 za, .int .i64 zb] w (Ret2 (.int .u64 y) (.int .i64 0) w) := by
  subst ea eb hy; exact get_ok x a b hx h1 h w

set_option maxHeartbeats 1000000 in
theorem kindIn_any (x : Nat) (hx : x < 18446744073709551616) (w : World) :
    Calls Tryd.prog 21 #[.int .u64 x] w (Ret (.int .u8 (x % 256 : Nat)) w) := by
  have HG := Lib.hid (fun W => get_at x 0 8 _ hx (by omega) (by omega) (field_k x) 0 8 rfl rfl W)
  obtain ⟨y, hy⟩ : ∃ y, x % 256 = y := ⟨_, rfl⟩
  have hy2 : y < 256 := by omega
  rw [hy] at HG ⊢
  clear hy hx
  go_enter Tryd.func21, Tryd.ntmps21
  go_wp2_with fail
  refine (HG.out _).mono ?_
  rintro e w1 ⟨rfl, hb1⟩
  go_wp2
  go_ret
  exact Ret.mk rfl hb1

set_option maxHeartbeats 1000000 in
theorem numberIn_any (x at' : Nat) (hx : x < 18446744073709551616) (ha : at' + 32 ≤ 64) (z : Int) (hz : z = at') (w : World) :
    Calls Tryd.prog 22 #[.int .u64 x, .int .i64 z] w (Ret (.int .u32 (x / 2 ^ at' % 4294967296 : Nat)) w) := by
  have HG := Lib.hid (fun W => get_at x at' 32 (x / 2 ^ at' % 4294967296) hx (by omega) (by omega) rfl z 32 hz rfl W)
  obtain ⟨y, hy⟩ : ∃ y, x / 2 ^ at' % 4294967296 = y := ⟨_, rfl⟩
  have hy2 : y < 4294967296 := by omega
  rw [hy] at HG ⊢
  clear hy hx ha hz
  go_enter Tryd.func22, Tryd.ntmps22
  go_wp2_with fail
  refine (HG.out _).mono ?_
  rintro e w1 ⟨rfl, hb1⟩
  go_wp2
  go_ret
  exact Ret.mk rfl hb1

set_option maxHeartbeats 2000000 in
theorem laid_any (t : Int) (o : O) (ho : Wf o) (w : World) :
    Calls Tryd.prog 16 #[.int .u64 t, opv o] w (Ret (cev t (laidA o : Nat) (o.b : Nat) (o.c : Nat)) w) := by
  obtain ⟨k, a, b, c⟩ := o
  have HK := Lib.hid (kindAndNumber_any k a ho.1 ho.2.1)
  have hb : b < 4294967296 := ho.2.2.1
  have hc : c < 4294967296 := ho.2.2.2
  unfold opv cev laidA
  simp only
  generalize a * 256 + k = x at HK ⊢
  clear ho
  go_enter Tryd.func16, Tryd.ntmps16
  go_wp2_with fail
  obtain ⟨W, hW⟩ : ∃ W, W = (w.alloc (.cells #[.int .u8 k, .int .u32 a, .int .u32 b, .int .u32 c] 29)).alloc (.cells #[.int .u64 0, .int .u64 0, .int .u64 0, .int .u64 0] 38) := ⟨_, rfl⟩
  have hb2 : Below w.heap.size w W := by rw [hW]; exact below_two _ _ _
  rw [← hW]
  have k0 := cell_regrown (show W.cell? ⟨w.heap.size, 0, none⟩ = some (.int .u8 k) by rw [hW]; simp [go_sem])
  have k1 := cell_regrown (show W.cell? ⟨w.heap.size, 1, none⟩ = some (.int .u32 a) by rw [hW]; simp [go_sem])
  have k2 := cell_regrown (show W.cell? ⟨w.heap.size, 2, none⟩ = some (.int .u32 b) by rw [hW]; simp [go_sem])
  have k3 := cell_regrown (show W.cell? ⟨w.heap.size, 3, none⟩ = some (.int .u32 c) by rw [hW]; simp [go_sem])
  have z0 : W.cell? ⟨w.heap.size + 1, 0, none⟩ = some (.int .u64 0) := by rw [hW]; simp [go_sem]
  have f0 : W.frozen? ⟨w.heap.size + 1, 0, none⟩ = false := by rw [hW]; simp [go_sem]
  have z1 : W.cell? ⟨w.heap.size + 1, 1, none⟩ = some (.int .u64 0) := by rw [hW]; simp [go_sem]
  have f1 : W.frozen? ⟨w.heap.size + 1, 1, none⟩ = false := by rw [hW]; simp [go_sem]
  have z2 : W.cell? ⟨w.heap.size + 1, 2, none⟩ = some (.int .u64 0) := by rw [hW]; simp [go_sem]
  have f2 : W.frozen? ⟨w.heap.size + 1, 2, none⟩ = false := by rw [hW]; simp [go_sem]
  have z3 : W.cell? ⟨w.heap.size + 1, 3, none⟩ = some (.int .u64 0) := by rw [hW]; simp [go_sem]
  have f3 : W.frozen? ⟨w.heap.size + 1, 3, none⟩ = false := by rw [hW]; simp [go_sem]
  have hs : w.heap.size + 1 < W.heap.size := by rw [hW]; simp
  clear hW
  refine wp_region_tail_below 13 (by kernel_rfl) (by kernel_rfl) ?_
  simp only [List.take_succ_cons, List.take_zero, List.drop_succ_cons, List.drop_zero]
  repeat (go_big_quiet_step (exact Calls.regrown_of (HK.out _)))
  refine wpQuiet_nil ?_
  intro W3 hw'
  obtain ⟨⟨dq, osq⟩, hw''⟩ := hw'
  have hb3 := below_regrown W dq osq
  rw [← hw''] at hb3
  obtain ⟨hc3, hf3⟩ := bcell hb3
  have z0 := (hc3 _ _ hs).trans z0
  have f0 := (hf3 _ _ hs).trans f0
  have z1 := (hc3 _ _ hs).trans z1
  have f1 := (hf3 _ _ hs).trans f1
  have z2 := (hc3 _ _ hs).trans z2
  have f2 := (hf3 _ _ hs).trans f2
  have z3 := (hc3 _ _ hs).trans z3
  have f3 := (hf3 _ _ hs).trans f3
  clear hw'' k0 k1 k2 k3 hc3 hf3
  go_wp2
  refine bodyPost_ret (v := .agg #[.int .u64 t, .int .u64 x, .int .u64 b, .int .u64 c]) ?_ rfl ⟨rfl, ?_⟩
  · simp [results, Tryd.results16, go_sem, z0, z1, z2, z3]
  · exact ((((below_then hb2 hb3).setCell (by simp) _).setCell (by simp) _).setCell (by simp) _).setCell (by simp) _

set_option maxHeartbeats 2000000 in
theorem of_any (t : Int) (x y z : Nat) (hx : x < 18446744073709551616) (hy : y < 18446744073709551616) (hz : z < 18446744073709551616) (w : World) :
    Calls Tryd.prog 15 #[cev t x y z] w (Ret2 (.int .u64 t) (opv (ofO x y z)) w) := by
  have H1 := Lib.hid (kindIn_any x hx)
  have H2 := Lib.hid (numberIn_any x 8 hx (by omega) 8 rfl)
  have H3 := Lib.hid (numberIn_any y 0 hy (by omega) 0 rfl)
  have H4 := Lib.hid (numberIn_any z 0 hz (by omega) 0 rfl)
  unfold opv cev ofO
  simp only [Nat.pow_zero, Nat.div_one, show 2 ^ 8 = 256 from rfl] at H2 H3 H4 ⊢
  generalize x % 256 = k at H1 ⊢
  generalize x / 256 % 4294967296 = a at H2 ⊢
  generalize y % 4294967296 = b at H3 ⊢
  generalize z % 4294967296 = c at H4 ⊢
  go_enter Tryd.func15, Tryd.ntmps15
  go_wp2_with fail
  obtain ⟨W, hW⟩ : ∃ W, W = (w.alloc (.cells #[.int .u64 t, .int .u64 x, .int .u64 y, .int .u64 z] 38)).alloc (.cells #[.int .u8 0, .int .u32 0, .int .u32 0, .int .u32 0] 29) := ⟨_, rfl⟩
  have hb2 : Below w.heap.size w W := by rw [hW]; exact below_two _ _ _
  rw [← hW]
  have k0 := cell_regrown (show W.cell? ⟨w.heap.size, 0, none⟩ = some (.int .u64 t) by rw [hW]; simp [go_sem])
  have k1 := cell_regrown (show W.cell? ⟨w.heap.size, 1, none⟩ = some (.int .u64 x) by rw [hW]; simp [go_sem])
  have k2 := cell_regrown (show W.cell? ⟨w.heap.size, 2, none⟩ = some (.int .u64 y) by rw [hW]; simp [go_sem])
  have k3 := cell_regrown (show W.cell? ⟨w.heap.size, 3, none⟩ = some (.int .u64 z) by rw [hW]; simp [go_sem])
  have z0 : W.cell? ⟨w.heap.size + 1, 0, none⟩ = some (.int .u8 0) := by rw [hW]; simp [go_sem]
  have f0 : W.frozen? ⟨w.heap.size + 1, 0, none⟩ = false := by rw [hW]; simp [go_sem]
  have z1 : W.cell? ⟨w.heap.size + 1, 1, none⟩ = some (.int .u32 0) := by rw [hW]; simp [go_sem]
  have f1 : W.frozen? ⟨w.heap.size + 1, 1, none⟩ = false := by rw [hW]; simp [go_sem]
  have z2 : W.cell? ⟨w.heap.size + 1, 2, none⟩ = some (.int .u32 0) := by rw [hW]; simp [go_sem]
  have f2 : W.frozen? ⟨w.heap.size + 1, 2, none⟩ = false := by rw [hW]; simp [go_sem]
  have z3 : W.cell? ⟨w.heap.size + 1, 3, none⟩ = some (.int .u32 0) := by rw [hW]; simp [go_sem]
  have f3 : W.frozen? ⟨w.heap.size + 1, 3, none⟩ = false := by rw [hW]; simp [go_sem]
  have hs : w.heap.size + 1 < W.heap.size := by rw [hW]; simp
  clear hW
  refine wp_region_tail_below 16 (by kernel_rfl) (by kernel_rfl) ?_
  simp only [List.take_succ_cons, List.take_zero, List.drop_succ_cons, List.drop_zero]
  repeat (go_big_quiet_step (fail))
  go_big_quiet_step (exact Calls.regrown_of (H1.out _))
  repeat (go_big_quiet_step (fail))
  go_big_quiet_step (exact Calls.regrown_of (H2.out _))
  repeat (go_big_quiet_step (fail))
  go_big_quiet_step (exact Calls.regrown_of (H3.out _))
  repeat (go_big_quiet_step (fail))
  go_big_quiet_step (exact Calls.regrown_of (H4.out _))
  repeat (go_big_quiet_step (fail))
  refine wpQuiet_nil ?_
  intro W3 hw'
  obtain ⟨⟨dq, osq⟩, hw''⟩ := hw'
  have hb3 := below_regrown W dq osq
  rw [← hw''] at hb3
  obtain ⟨hc3, hf3⟩ := bcell hb3
  have z0 := (hc3 _ _ hs).trans z0
  have f0 := (hf3 _ _ hs).trans f0
  have z1 := (hc3 _ _ hs).trans z1
  have f1 := (hf3 _ _ hs).trans f1
  have z2 := (hc3 _ _ hs).trans z2
  have f2 := (hf3 _ _ hs).trans f2
  have z3 := (hc3 _ _ hs).trans z3
  have f3 := (hf3 _ _ hs).trans f3
  clear hw'' k0 k1 k2 k3 hc3 hf3
  go_wp2
  refine bodyPost_ret (v := .tuple #[.int .u64 t, .agg #[.int .u8 k, .int .u32 a, .int .u32 b, .int .u32 c]]) ?_ rfl ⟨rfl, ?_⟩
  · simp [results, Tryd.results15, go_sem, z0, z1, z2, z3]
  · exact ((((below_then hb2 hb3).setCell (by simp) _).setCell (by simp) _).setCell (by simp) _).setCell (by simp) _
end Go.Proofs.YtcabdokcinlabaaDoor
