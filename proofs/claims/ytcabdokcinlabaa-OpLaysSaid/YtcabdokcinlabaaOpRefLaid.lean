/- The document's own answers on the cell by which an operation is announced, and on what a cell announces. -/
import Derived.Test.YtcabdokcinlabaaOpLaid
namespace Go.Proofs.Ytcabdokcinlabaa
open Go.RowKit Opn

set_option maxHeartbeats 2000000 in
theorem rLaid_any (t : Int) (o : O) (ho : Wf o) (w : World) :
    Calls Try.prog 5 #[.int .u64 t, opv o] w (Ret (cev t (laidA o : Nat) (o.b : Nat) (o.c : Nat)) w) := by
  obtain ⟨k, a, b, c⟩ := o
  have hk : k < 256 := ho.1
  have ha : a < 4294967296 := ho.2.1
  have hb : b < 4294967296 := ho.2.2.1
  have hc : c < 4294967296 := ho.2.2.2
  unfold opv cev laidA
  simp only
  clear ho
  have hx : ((a * 256 + k : Nat) : Int) = (a : Int) * 256 + k := by omega
  rw [hx]
  clear hx
  go_enter Try.func5, Try.ntmps5
  go_wp2
  refine bodyPost_ret (v := .agg #[.int .u64 t, .int .u64 ((a : Int) * 256 + k), .int .u64 b, .int .u64 c]) ?_ rfl ⟨rfl, ?_⟩
  · simp [results, Try.results5, go_sem]
  · exact below_two _ _ _

set_option maxHeartbeats 2000000 in
theorem rOf_any (t : Int) (x y z : Nat) (hx : x < 18446744073709551616) (hy : y < 18446744073709551616) (hz : z < 18446744073709551616) (w : World) :
    Calls Try.prog 7 #[cev t x y z] w (Ret2 (.int .u64 t) (opv (ofO x y z)) w) := by
  unfold opv cev ofO
  simp only
  obtain ⟨k, hk⟩ : ∃ k, x % 256 = k := ⟨_, rfl⟩
  obtain ⟨q, hq⟩ : ∃ q, x / 256 = q := ⟨_, rfl⟩
  obtain ⟨a, ha⟩ : ∃ a, q % 4294967296 = a := ⟨_, rfl⟩
  obtain ⟨b, hb⟩ : ∃ b, y % 4294967296 = b := ⟨_, rfl⟩
  obtain ⟨c, hc⟩ : ∃ c, z % 4294967296 = c := ⟨_, rfl⟩
  rw [hq, hk, ha, hb, hc]
  have e1 : (x : Int).tmod 256 = k := by rw [Int.tmod_eq_emod_of_nonneg (by omega)]; omega
  have e2 : (x : Int) / 256 = q := by omega
  have e3 : (q : Int).tmod 4294967296 = a := by rw [Int.tmod_eq_emod_of_nonneg (by omega)]; omega
  have e4 : (y : Int).tmod 4294967296 = b := by rw [Int.tmod_eq_emod_of_nonneg (by omega)]; omega
  have e5 : (z : Int).tmod 4294967296 = c := by rw [Int.tmod_eq_emod_of_nonneg (by omega)]; omega
  have e6 : (x : Int) % 256 = k := by omega
  have e7 : (q : Int) % 4294967296 = a := by omega
  have e8 : (y : Int) % 4294967296 = b := by omega
  have e9 : (z : Int) % 4294967296 = c := by omega
  have e10 : (x : Int).tdiv 256 = q := by rw [Int.tdiv_eq_ediv_of_nonneg (by omega)]; omega
  have kk1 : k < 256 := by omega
  have q1 : q < 18446744073709551616 := by omega
  have a1 : a < 4294967296 := by omega
  have b1 : b < 4294967296 := by omega
  have c1 : c < 4294967296 := by omega
  clear hk hq ha hb hc
  go_enter Try.func7, Try.ntmps7
  go_wp2
  obtain ⟨W, hW⟩ : ∃ W, W = (w.alloc (.cells #[.int .u64 t, .int .u64 x, .int .u64 y, .int .u64 z] 27)).alloc (.cells #[.int .u8 0, .int .u32 0, .int .u32 0, .int .u32 0] 25) := ⟨_, rfl⟩
  have hb2 : Below w.heap.size w W := by rw [hW]; exact below_two _ _ _
  rw [← hW]
  have k0 := cell_regrown (show W.cell? ⟨w.heap.size, 0, none⟩ = some (.int .u64 t) by rw [hW]; simp [go_sem])
  have k1 := cell_regrown (show W.cell? ⟨w.heap.size, 1, none⟩ = some (.int .u64 x) by rw [hW]; simp [go_sem])
  have k2 := cell_regrown (show W.cell? ⟨w.heap.size, 2, none⟩ = some (.int .u64 y) by rw [hW]; simp [go_sem])
  have k3 := cell_regrown (show W.cell? ⟨w.heap.size, 3, none⟩ = some (.int .u64 z) by rw [hW]; simp [go_sem])
  have z0 : W.cell? ⟨w.heap.size + 1, 0, none⟩ = some (.int .u8 0) := by rw [hW]; simp [go_sem]
  have f0 : W.frozen? ⟨w.heap.size + 1, 0, none⟩ = false := by rw [hW]; simp [go_sem]
  have z1 : W.cell? ⟨w.heap.size + 1, 1, none⟩ = some (.int .u32 0) := by rw [hW]; simp [go_sem]
  have f1 : W.frozen? ⟨w.heap.size + 1, 1, none⟩ = false := by rw [hW]; simp [go_sem]
  have z2 : W.cell? ⟨w.heap.size + 1, 2, none⟩ = some (.int .u32 0) := by rw [hW]; simp [go_sem]
  have f2 : W.frozen? ⟨w.heap.size + 1, 2, none⟩ = false := by rw [hW]; simp [go_sem]
  have z3 : W.cell? ⟨w.heap.size + 1, 3, none⟩ = some (.int .u32 0) := by rw [hW]; simp [go_sem]
  have f3 : W.frozen? ⟨w.heap.size + 1, 3, none⟩ = false := by rw [hW]; simp [go_sem]
  have hs : w.heap.size + 1 < W.heap.size := by rw [hW]; simp
  clear hW
  refine wp_region_tail_below 21 (by kernel_rfl) (by kernel_rfl) ?_
  simp only [List.take_succ_cons, List.take_zero, List.drop_succ_cons, List.drop_zero]
  repeat (go_big_quiet_step (fail))
  refine wpQuiet_nil ?_
  intro W3 hw'
  obtain ⟨⟨dq, osq⟩, hw''⟩ := hw'
  have hb3 := below_regrown W dq osq
  rw [← hw''] at hb3
  obtain ⟨hc3, hf3⟩ := bcell hb3
  have z0 := (hc3 _ _ hs).trans z0
  have f0 := (hf3 _ _ hs).trans f0
  have z1 := (hc3 _ _ hs).trans z1
  have f1 := (hf3 _ _ hs).trans f1
  have z2 := (hc3 _ _ hs).trans z2
  have f2 := (hf3 _ _ hs).trans f2
  have z3 := (hc3 _ _ hs).trans z3
  have f3 := (hf3 _ _ hs).trans f3
  clear hw'' k0 k1 k2 k3 hc3 hf3
  go_wp2
  refine bodyPost_ret (v := .tuple #[.int .u64 t, .agg #[.int .u8 k, .int .u32 a, .int .u32 b, .int .u32 c]]) ?_ rfl ⟨rfl, ?_⟩
  · simp [results, Try.results7, go_sem, z0, z1, z2, z3]
  · exact ((((below_then hb2 hb3).setCell (by simp) _).setCell (by simp) _).setCell (by simp) _).setCell (by simp) _
end Go.Proofs.Ytcabdokcinlabaa
