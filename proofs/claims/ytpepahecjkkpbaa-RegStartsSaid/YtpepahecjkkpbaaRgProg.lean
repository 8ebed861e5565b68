/- The program's own Laid and Of: a desc's cell, and the desc whose bits a cell has. -/
import Derived.Test.YtpepahecjkkpbaaRgRead
namespace Go.Proofs.Ytpepahecjkkpbaa
open Go.RowKit Go.Shelf Opn

set_option maxRecDepth 100000 in
set_option maxHeartbeats 8000000 in
theorem laid_bad (d : Ds) (hw : DWf d) (hf : ¬ DFits d) (w : World) : Calls Try.prog 8 #[dsv d] w (Ret2 (clv (0, 0, 0, 0)) (.int .i64 10) w) := by
  have hj := sm_laid d
  rw [if_neg hf, if_neg hf] at hj
  have HS := Lib.hid (fun W => smallWord_any d hw W)
  rw [hj.1, hj.2] at HS
  clear hj hw hf
  unfold dsv clv at *
  go_enter Try.func8, Try.ntmps8
  go_wp2_with fail
  refine (HS.out _).mono ?_
  rintro e w1 ⟨rfl, hb1⟩
  obtain ⟨hc1, hf1⟩ := bcell hb1
  go_wp2
  refine bodyPost_ret (v := .tuple #[.agg #[.int .u64 0, .int .u64 0, .int .u64 0, .int .u64 0], .int .i64 10]) ?_ rfl ⟨rfl, ?_⟩
  · simp [results, Try.results8, go_sem, hc1]
  · iterate 4 refine Below.setCell ?_ (by simp) _
    exact below_then (below_two _ _ _) hb1

set_option maxRecDepth 100000 in
set_option maxHeartbeats 8000000 in
theorem laid_good (d : Ds) (hw : DWf d) (hf : DFits d) (w : World) : Calls Try.prog 8 #[dsv d] w (Ret2 (clv (d.tag, dA d, dB d, dC d)) (.int .i64 0) w) := by
  have hj := sm_laid d
  rw [if_pos hf, if_pos hf] at hj
  have HS := Lib.hid (fun W => smallWord_any d hw W)
  rw [hj.1, hj.2] at HS
  have HB := Lib.hid (fun W => pairWord_any d.a d.b hw.2.2.2.2.1 hw.2.2.2.2.2.1 W)
  have HC := Lib.hid (fun W => pairWord_any d.x d.y hw.2.2.2.2.2.2.2.2.2.2.2.2.1 hw.2.2.2.2.2.2.2.2.2.2.2.2.2 W)
  have eb : d.a + 4294967296 * d.b = dB d := rfl
  have ec : d.x + 4294967296 * d.y = dC d := rfl
  rw [eb] at HB
  rw [ec] at HC
  generalize dA d = za at *
  generalize dB d = zb at *
  generalize dC d = zc at *
  clear hj hw hf eb ec
  unfold dsv clv at *
  go_enter Try.func8, Try.ntmps8
  go_wp2_with fail
  refine (HS.out _).mono ?_
  rintro e w1 ⟨rfl, hb1⟩
  obtain ⟨hc1, hf1⟩ := bcell hb1
  have q0 : w1.cell? ⟨w.heap.size, 0, none⟩ = some (.int .u64 d.tag) := by rw [hc1 _ _ (by simp; omega)]; simp [go_sem]
  have p0 : w1.cell? ⟨w.heap.size + 1, 0, none⟩ = some (.int .u64 0) := by rw [hc1 _ _ (by simp)]; simp [go_sem]
  have p1 : w1.cell? ⟨w.heap.size + 1, 1, none⟩ = some (.int .u64 0) := by rw [hc1 _ _ (by simp)]; simp [go_sem]
  have p2 : w1.cell? ⟨w.heap.size + 1, 2, none⟩ = some (.int .u64 0) := by rw [hc1 _ _ (by simp)]; simp [go_sem]
  have p3 : w1.cell? ⟨w.heap.size + 1, 3, none⟩ = some (.int .u64 0) := by rw [hc1 _ _ (by simp)]; simp [go_sem]
  have pf : ∀ j, w1.frozen? ⟨w.heap.size + 1, j, none⟩ = false := fun j => by rw [hf1 _ _ (by simp)]; simp [go_sem]
  have hz : w.heap.size + 1 < w1.heap.size := Nat.lt_of_lt_of_le (by simp) hb1.size
  have hb01 := below_then (below_two w _ _) hb1
  go_wp2
  have hb2 := below_one w1 (Obj.cells #[.int .u8 d.kind, .int .u32 d.a, .int .u32 d.b, .int .u8 d.pc, .int .u8 d.i, .int .u8 d.j, .int .u8 d.n, .int .u8 d.p, .int .u8 d.h, .int .u32 d.x, .int .u32 d.y] 25)
  have q4 : (w1.alloc (Obj.cells #[.int .u8 d.kind, .int .u32 d.a, .int .u32 d.b, .int .u8 d.pc, .int .u8 d.i, .int .u8 d.j, .int .u8 d.n, .int .u8 d.p, .int .u8 d.h, .int .u32 d.x, .int .u32 d.y] 25)).cell? ⟨w1.heap.size, 1, none⟩ = some (.int .u32 d.a) := by simp [go_sem]
  have q5 : (w1.alloc (Obj.cells #[.int .u8 d.kind, .int .u32 d.a, .int .u32 d.b, .int .u8 d.pc, .int .u8 d.i, .int .u8 d.j, .int .u8 d.n, .int .u8 d.p, .int .u8 d.h, .int .u32 d.x, .int .u32 d.y] 25)).cell? ⟨w1.heap.size, 2, none⟩ = some (.int .u32 d.b) := by simp [go_sem]
  have q6 : (w1.alloc (Obj.cells #[.int .u8 d.kind, .int .u32 d.a, .int .u32 d.b, .int .u8 d.pc, .int .u8 d.i, .int .u8 d.j, .int .u8 d.n, .int .u8 d.p, .int .u8 d.h, .int .u32 d.x, .int .u32 d.y] 25)).cell? ⟨w1.heap.size, 9, none⟩ = some (.int .u32 d.x) := by simp [go_sem]
  have q7 : (w1.alloc (Obj.cells #[.int .u8 d.kind, .int .u32 d.a, .int .u32 d.b, .int .u8 d.pc, .int .u8 d.i, .int .u8 d.j, .int .u8 d.n, .int .u8 d.p, .int .u8 d.h, .int .u32 d.x, .int .u32 d.y] 25)).cell? ⟨w1.heap.size, 10, none⟩ = some (.int .u32 d.y) := by simp [go_sem]
  obtain ⟨W, hW⟩ : ∃ W, w1.alloc (Obj.cells #[.int .u8 d.kind, .int .u32 d.a, .int .u32 d.b, .int .u8 d.pc, .int .u8 d.i, .int .u8 d.j, .int .u8 d.n, .int .u8 d.p, .int .u8 d.h, .int .u32 d.x, .int .u32 d.y] 25) = W := ⟨_, rfl⟩
  rw [hW] at hb2 q4 q5 q6 q7 ⊢
  replace q0 := (hb2.cell (p := ⟨w.heap.size, 0, none⟩) (by simp only; omega)).trans q0
  replace p0 := (hb2.cell (p := ⟨w.heap.size + 1, 0, none⟩) hz).trans p0
  replace p1 := (hb2.cell (p := ⟨w.heap.size + 1, 1, none⟩) hz).trans p1
  replace p2 := (hb2.cell (p := ⟨w.heap.size + 1, 2, none⟩) hz).trans p2
  replace p3 := (hb2.cell (p := ⟨w.heap.size + 1, 3, none⟩) hz).trans p3
  replace pf : ∀ j, W.frozen? ⟨w.heap.size + 1, j, none⟩ = false := fun j => (hb2.frozen (p := ⟨w.heap.size + 1, j, none⟩) hz).trans (pf j)
  have hbW := below_then hb01 hb2
  have g0 := cell_regrown q0
  have g4 := cell_regrown q4
  have g5 := cell_regrown q5
  have g6 := cell_regrown q6
  have g7 := cell_regrown q7
  have k0 := cell_regrown p0
  have f0 := frozen_regrown p0 (pf 0)
  have k1 := cell_regrown p1
  have f1 := frozen_regrown p1 (pf 1)
  have k2 := cell_regrown p2
  have f2 := frozen_regrown p2 (pf 2)
  have k3 := cell_regrown p3
  have f3 := frozen_regrown p3 (pf 3)
  clear hW hb1 hb2 hb01 hc1 hf1 q0 q4 q5 q6 q7 p0 p1 p2 p3 pf
  refine wp_region_tail_below 14 (by kernel_rfl) (by kernel_rfl) ?_
  simp only [List.take_succ_cons, List.take_zero, List.drop_succ_cons, List.drop_zero]
  iterate 7 go_big_quiet_step (fail)
  go_big_quiet_step (exact Calls.regrown_of (HB.out _))
  iterate 4 go_big_quiet_step (fail)
  go_big_quiet_step (exact Calls.regrown_of (HC.out _))
  go_big_quiet_step (fail)
  refine wpQuiet_nil ?_
  intro W3 hw'
  obtain ⟨⟨dq, osq⟩, hw''⟩ := hw'
  have hb3 := below_then hbW (below_regrown W dq osq)
  replace k0 := k0 dq osq
  replace f0 := f0 dq osq
  replace k1 := k1 dq osq
  replace f1 := f1 dq osq
  replace k2 := k2 dq osq
  replace f2 := f2 dq osq
  replace k3 := k3 dq osq
  replace f3 := f3 dq osq
  rw [← hw''] at hb3 k0 k1 k2 k3 f0 f1 f2 f3
  clear hw'' g0 g4 g5 g6 g7
  go_wp2
  refine bodyPost_ret (v := .tuple #[.agg #[.int .u64 d.tag, .int .u64 za, .int .u64 zb, .int .u64 zc], .int .i64 0]) ?_ rfl ⟨rfl, ?_⟩
  · simp [results, Try.results8, go_sem, k0, k1, k2, k3]
  · iterate 4 refine Below.setCell ?_ (by simp) _
    exact hb3

theorem gLaid_any (d : Ds) (hw : DWf d) (w : World) : Calls Try.prog 8 #[dsv d] w (Ret (.tuple #[clv (laidD d).1, .int .i64 (laidD d).2]) w) := by
  unfold laidD
  by_cases hf : DFits d
  · rw [if_pos hf]; exact laid_good d hw hf w
  · rw [if_neg hf]; exact laid_bad d hw hf w
theorem sm_of (t A B C : Nat) : ofC t A B C = ⟨t, smF A 0, smF A 1, smF A 2, B % 4294967296, B / 4294967296, smF A 3, smF A 4, smF A 5, smF A 6, smF A 7, smF A 8, C % 4294967296, C / 4294967296⟩ := by
  unfold ofC smF Pk.field
  simp only [smP, smB, Nat.div_div_eq_div_mul, Nat.reducePow, Nat.reduceMul, Nat.div_one]

def dZ : Array Value := #[.int .u64 0, .int .u8 0, .int .u8 0, .int .u8 0, .int .u32 0, .int .u32 0, .int .u8 0, .int .u8 0, .int .u8 0, .int .u8 0, .int .u8 0, .int .u8 0, .int .u32 0, .int .u32 0]
def dT (t : Nat) : Array Value := #[.int .u64 t, .int .u8 0, .int .u8 0, .int .u8 0, .int .u32 0, .int .u32 0, .int .u8 0, .int .u8 0, .int .u8 0, .int .u8 0, .int .u8 0, .int .u8 0, .int .u32 0, .int .u32 0]
theorem dT_room (t : Nat) {i : Nat} (hi : i < 14) : ∃ v, (dT t)[i]? = some v := ⟨_, Array.getElem?_eq_getElem (by simpa [dT] using hi)⟩
theorem d_one (t z0 z1 z2 b1 b2 z3 z4 z5 z6 z7 z8 c1 c2 : Int) : (#[.int .u64 t, .int .u8 z0, .int .u8 z1, .int .u8 z2, .int .u32 b1, .int .u32 b2, .int .u8 z3, .int .u8 z4, .int .u8 z5, .int .u8 z6, .int .u8 z7, .int .u8 z8, .int .u32 c1, .int .u32 c2] : Array Value).all (·.oneCell') = true := by kernel_rfl
theorem smO_lt (i : Nat) : smO i < 14 := by unfold smO; split <;> omega

set_option maxRecDepth 100000 in
set_option maxHeartbeats 8000000 in
theorem gOf0_any (t A B C : Nat) (hA : A < 18446744073709551616) (hB : B < 18446744073709551616) (hC : C < 18446744073709551616) (w : World) :
    Calls Try.prog 10 #[.agg #[.int .u64 t, .int .u64 A, .int .u64 B, .int .u64 C]] w (Ret (dsv (ofC t A B C)) w) := by
  rw [sm_of]
  have HA := Lib.hid (fun q W h1 h2 => readSmall_any A q hA W h1 h2)
  have HB := Lib.hid (fun W => pairIn_any B hB W)
  have HC := Lib.hid (fun W => pairIn_any C hC W)
  generalize B % 4294967296 = b1 at *
  generalize B / 4294967296 = b2 at *
  generalize C % 4294967296 = c1 at *
  generalize C / 4294967296 = c2 at *
  clear hA hB hC
  unfold dsv
  simp only
  go_enter Try.func10, Try.ntmps10
  go_wp2_with fail
  obtain ⟨W, hW⟩ : ∃ W, (((w.alloc (.cells #[.int .u64 t, .int .u64 A, .int .u64 B, .int .u64 C] 29)).alloc (.cells dZ 27)).alloc (.cells (dT t) 27)) = W := ⟨_, rfl⟩
  have hbW : Below w.heap.size w W := by rw [← hW]; exact below_three _ _ _ _
  have hsz : W.heap.size = w.heap.size + 3 := by rw [← hW]; simp
  have hr1 : W.heap[w.heap.size + 1]? = some (.cells dZ 27) := by
    rw [← hW]
    exact ((below_one _ _).block _ (by simp)).trans (heap_alloc2_new _ _ _)
  have hr2 : W.heap[w.heap.size + 1 + 1]? = some (.cells (dT t) 27) := by
    rw [← hW]
    have := heap_alloc_new ((w.alloc (.cells #[.int .u64 t, .int .u64 A, .int .u64 B, .int .u64 C] 29)).alloc (.cells dZ 27)) (.cells (dT t) 27)
    simpa using this
  have p2 : W.cell? ⟨w.heap.size, 2, none⟩ = some (.int .u64 B) := by rw [← hW]; simp [go_sem]
  have p3 : W.cell? ⟨w.heap.size, 3, none⟩ = some (.int .u64 C) := by rw [← hW]; simp [go_sem]
  unfold dZ dT at hW
  rw [hW]
  clear hW
  obtain ⟨q, hq⟩ : ∃ q, w.heap.size + 1 + 1 = q := ⟨_, rfl⟩
  rw [hq] at hr2 ⊢
  have c2 : ∀ j, W.cell? ⟨q, j, none⟩ = (dT t)[j]? := fun j => cell_of_row W q j _ _ (0, 0) hr2
  refine (HA.out q W (fun i hi => by rw [c2]; exact dT_room t (smO_lt i)) (fun j => frozen_of_row W q j _ _ hr2)).mono ?_
  rintro e w1 ⟨⟨v, rfl⟩, h1⟩
  have hs1 : q < w1.heap.size := by have := h1.only.size; omega
  have hs0 : q < W.heap.size := by omega
  have fz : ∀ j, w1.frozen? ⟨q, j, none⟩ = false := fun j => (h1.free j).trans (frozen_of_row W q j _ _ hr2)
  have kt : w1.cell? ⟨q, 0, none⟩ = some (.int .u64 t) := (h1.keep 0 (by decide)).trans (c2 0)
  have k4 : w1.cell? ⟨q, 4, none⟩ = some (.int .u32 0) := (h1.keep 4 (by decide)).trans (c2 4)
  have k5 : w1.cell? ⟨q, 5, none⟩ = some (.int .u32 0) := (h1.keep 5 (by decide)).trans (c2 5)
  have k12 : w1.cell? ⟨q, 12, none⟩ = some (.int .u32 0) := (h1.keep 12 (by decide)).trans (c2 12)
  have k13 : w1.cell? ⟨q, 13, none⟩ = some (.int .u32 0) := (h1.keep 13 (by decide)).trans (c2 13)
  have k1 : w1.cell? ⟨q, 1, none⟩ = some (.int .u8 (smF A 0 : Nat)) := h1.got 0 (by omega)
  have k2 : w1.cell? ⟨q, 2, none⟩ = some (.int .u8 (smF A 1 : Nat)) := h1.got 1 (by omega)
  have k3 : w1.cell? ⟨q, 3, none⟩ = some (.int .u8 (smF A 2 : Nat)) := h1.got 2 (by omega)
  have k6 : w1.cell? ⟨q, 6, none⟩ = some (.int .u8 (smF A 3 : Nat)) := h1.got 3 (by omega)
  have k7 : w1.cell? ⟨q, 7, none⟩ = some (.int .u8 (smF A 4 : Nat)) := h1.got 4 (by omega)
  have k8 : w1.cell? ⟨q, 8, none⟩ = some (.int .u8 (smF A 5 : Nat)) := h1.got 5 (by omega)
  have k9 : w1.cell? ⟨q, 9, none⟩ = some (.int .u8 (smF A 6 : Nat)) := h1.got 6 (by omega)
  have k10 : w1.cell? ⟨q, 10, none⟩ = some (.int .u8 (smF A 7 : Nat)) := h1.got 7 (by omega)
  have k11 : w1.cell? ⟨q, 11, none⟩ = some (.int .u8 (smF A 8 : Nat)) := h1.got 8 (by omega)
  have hb1 : Below w.heap.size w w1 := Only.then_below (Nat.le_refl _) hbW h1.only (by rintro k rfl; omega)
  have r1 : w1.heap[w.heap.size + 1]? = some (.cells dZ 27) := (h1.only.block _ (by omega) (by omega)).trans hr1
  have p2' : w1.cell? ⟨w.heap.size, 2, none⟩ = some (.int .u64 B) := h1.only.cell p2 (by simp only; omega)
  have p3' : w1.cell? ⟨w.heap.size, 3, none⟩ = some (.int .u64 C) := h1.only.cell p3 (by simp only; omega)
  generalize smF A 0 = z0 at *
  generalize smF A 1 = z1 at *
  generalize smF A 2 = z2 at *
  generalize smF A 3 = z3 at *
  generalize smF A 4 = z4 at *
  generalize smF A 5 = z5 at *
  generalize smF A 6 = z6 at *
  generalize smF A 7 = z7 at *
  generalize smF A 8 = z8 at *
  have hqr : w.heap.size + 1 < q := by omega
  have HQ := Lib.hid hq
  clear p2 p3 hr1 hr2 c2 h1 hbW hsz hs0 HA hq
  go_wp2_with fail
  refine (HB.out _).mono ?_
  rintro e w2 ⟨rfl, hb2⟩
  obtain ⟨hc2, hf2⟩ := bcell hb2
  have s2 : q < w2.heap.size := Nat.lt_of_lt_of_le hs1 hb2.size
  have r2 := (hb2.block _ (Nat.lt_trans hqr hs1)).trans r1
  have s10 : w.heap.size < w1.heap.size := by omega
  have n1 : w.heap.size ≠ q := by omega
  have n2 : w.heap.size + 1 ≠ q := by omega
  obtain ⟨Y, hY⟩ : ∃ Y, (w2.setCell ⟨q, 4, none⟩ (.int .u32 b1)).setCell ⟨q, 5, none⟩ (.int .u32 b2) = Y := ⟨_, rfl⟩
  have hbY : Below w.heap.size w Y := by rw [← hY]; exact ((below_then hb1 hb2).setCell (p := ⟨q, 4, none⟩) (by simp only; omega) _).setCell (p := ⟨q, 5, none⟩) (by simp only; omega) _
  have sY : q < Y.heap.size := by rw [← hY]; simpa [World.setCell] using s2
  have rY : Y.heap[w.heap.size + 1]? = some (.cells dZ 27) := by rw [← hY]; exact (Below.heap_setCell _ _ _ _ n2).trans ((Below.heap_setCell _ _ _ _ n2).trans r2)
  have p3Y : Y.cell? ⟨w.heap.size, 3, none⟩ = some (.int .u64 C) := by
    rw [← hY, World.cell?_setCell_other _ _ _ _ (by intro e'; injection e' with e' _ _; exact n1 e'.symm), World.cell?_setCell_other _ _ _ _ (by intro e'; injection e' with e' _ _; exact n1 e'.symm), hc2 _ _ s10]
    exact p3'
  have fY : ∀ j, Y.frozen? ⟨q, j, none⟩ = false := fun j => by rw [← hY, World.frozen?_setCell, World.frozen?_setCell, hf2 _ _ hs1]; exact fz j
  have y4 : Y.cell? ⟨q, 4, none⟩ = some (.int .u32 b1) := by
    rw [← hY, World.cell?_setCell_other _ _ _ _ (by intro e'; injection e' with _ e' _; omega)]
    exact World.cell?_setCell_same' _ _ _ (by rw [hc2 _ _ hs1, k4]; rfl)
  have y5 : Y.cell? ⟨q, 5, none⟩ = some (.int .u32 b2) := by
    rw [← hY]
    exact World.cell?_setCell_same' _ _ _ (by rw [World.cell?_setCell_other _ _ _ _ (by intro e'; injection e' with _ e' _; omega), hc2 _ _ hs1, k5]; rfl)
  have yo : ∀ j, j ≠ 4 → j ≠ 5 → Y.cell? ⟨q, j, none⟩ = w1.cell? ⟨q, j, none⟩ := fun j h4 h5 => by
    rw [← hY, World.cell?_setCell_other _ _ _ _ (by intro e'; injection e' with _ e' _; omega), World.cell?_setCell_other _ _ _ _ (by intro e'; injection e' with _ e' _; omega), hc2 _ _ hs1]
  have y0 : Y.cell? ⟨q, 0, none⟩ = some (.int .u64 t) := (yo 0 (by omega) (by omega)).trans kt
  have y1 : Y.cell? ⟨q, 1, none⟩ = some (.int .u8 z0) := (yo 1 (by omega) (by omega)).trans k1
  have y2 : Y.cell? ⟨q, 2, none⟩ = some (.int .u8 z1) := (yo 2 (by omega) (by omega)).trans k2
  have y3 : Y.cell? ⟨q, 3, none⟩ = some (.int .u8 z2) := (yo 3 (by omega) (by omega)).trans k3
  have y6 : Y.cell? ⟨q, 6, none⟩ = some (.int .u8 z3) := (yo 6 (by omega) (by omega)).trans k6
  have y7 : Y.cell? ⟨q, 7, none⟩ = some (.int .u8 z4) := (yo 7 (by omega) (by omega)).trans k7
  have y8 : Y.cell? ⟨q, 8, none⟩ = some (.int .u8 z5) := (yo 8 (by omega) (by omega)).trans k8
  have y9 : Y.cell? ⟨q, 9, none⟩ = some (.int .u8 z6) := (yo 9 (by omega) (by omega)).trans k9
  have y10 : Y.cell? ⟨q, 10, none⟩ = some (.int .u8 z7) := (yo 10 (by omega) (by omega)).trans k10
  have y11 : Y.cell? ⟨q, 11, none⟩ = some (.int .u8 z8) := (yo 11 (by omega) (by omega)).trans k11
  have y12 : Y.cell? ⟨q, 12, none⟩ = some (.int .u32 0) := (yo 12 (by omega) (by omega)).trans k12
  have y13 : Y.cell? ⟨q, 13, none⟩ = some (.int .u32 0) := (yo 13 (by omega) (by omega)).trans k13
  have hYY : (w2.setCell ⟨q, 4, none⟩ (.int .u32 b1)).setCell ⟨q, 5, none⟩ (.int .u32 b2) = Y := hY
  have n3 : (q == w.heap.size) = false := by simp; omega
  go_wp2_with fail
  clear hYY hY
  refine (HC.out Y).mono ?_
  rintro e w3 ⟨rfl, hb3⟩
  have s3 : q < w3.heap.size := Nat.lt_of_lt_of_le sY hb3.size
  replace y0 := (hb3.cell (p := ⟨q, 0, none⟩) sY).trans y0
  replace y1 := (hb3.cell (p := ⟨q, 1, none⟩) sY).trans y1
  replace y2 := (hb3.cell (p := ⟨q, 2, none⟩) sY).trans y2
  replace y3 := (hb3.cell (p := ⟨q, 3, none⟩) sY).trans y3
  replace y4 := (hb3.cell (p := ⟨q, 4, none⟩) sY).trans y4
  replace y5 := (hb3.cell (p := ⟨q, 5, none⟩) sY).trans y5
  replace y6 := (hb3.cell (p := ⟨q, 6, none⟩) sY).trans y6
  replace y7 := (hb3.cell (p := ⟨q, 7, none⟩) sY).trans y7
  replace y8 := (hb3.cell (p := ⟨q, 8, none⟩) sY).trans y8
  replace y9 := (hb3.cell (p := ⟨q, 9, none⟩) sY).trans y9
  replace y10 := (hb3.cell (p := ⟨q, 10, none⟩) sY).trans y10
  replace y11 := (hb3.cell (p := ⟨q, 11, none⟩) sY).trans y11
  replace y12 := (hb3.cell (p := ⟨q, 12, none⟩) sY).trans y12
  replace y13 := (hb3.cell (p := ⟨q, 13, none⟩) sY).trans y13
  replace fY : ∀ j, w3.frozen? ⟨q, j, none⟩ = false := fun j => (hb3.frozen (p := ⟨q, j, none⟩) sY).trans (fY j)
  replace rY := (hb3.block _ (by omega)).trans rY
  have hb4 : Below w.heap.size w ((w3.setCell ⟨q, 12, none⟩ (.int .u32 c1)).setCell ⟨q, 13, none⟩ (.int .u32 c2)) := ((below_then hbY hb3).setCell (p := ⟨q, 12, none⟩) (by simp only; omega) _).setCell (p := ⟨q, 13, none⟩) (by simp only; omega) _
  have r4 : ((w3.setCell ⟨q, 12, none⟩ (.int .u32 c1)).setCell ⟨q, 13, none⟩ (.int .u32 c2)).heap[w.heap.size + 1]? = some (.cells dZ 27) := (Below.heap_setCell _ _ _ _ n2).trans ((Below.heap_setCell _ _ _ _ n2).trans rY)
  clear kt k1 k2 k3 k4 k5 k6 k7 k8 k9 k10 k11 k12 k13 fz r1 r2 hb1 hb2 hc2 hf2 yo p2' p3' p3Y hbY hb3 rY s2 s10 hs1
  go_wp2_with (refine wpList_store_rowTo rfl 27 _ _ rfl rfl (w.heap.size + 1) #[.int .u64 t, .int .u8 z0, .int .u8 z1, .int .u8 z2, .int .u32 b1, .int .u32 b2, .int .u8 z3, .int .u8 z4, .int .u8 z5, .int .u8 z6, .int .u8 z7, .int .u8 z8, .int .u32 c1, .int .u32 c2] rfl rfl 27 dZ r4 (by kernel_rfl) rfl (d_one ..) ?_)
  refine bodyPost_ret (v := .agg #[.int .u64 t, .int .u8 z0, .int .u8 z1, .int .u8 z2, .int .u32 b1, .int .u32 b2, .int .u8 z3, .int .u8 z4, .int .u8 z5, .int .u8 z6, .int .u8 z7, .int .u8 z8, .int .u32 c1, .int .u32 c2]) ?_ rfl ⟨rfl, below_setRow hb4 (by omega) _⟩
  exact results_cell_row (p := 2) (ty := 27) rfl _ _ (w.heap.size + 1) 27 _ (0, 0) _ rfl (setRow_heap _ _ dZ _ _ _ r4) Try.underlying27 rfl (by kernel_rfl)
end Go.Proofs.Ytpepahecjkkpbaa
