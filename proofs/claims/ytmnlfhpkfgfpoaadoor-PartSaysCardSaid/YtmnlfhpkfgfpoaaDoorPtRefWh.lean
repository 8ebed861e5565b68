/- The document's own answer on where a place stands, among all. -/
import Derived.Test.YtmnlfhpkfgfpoaaDoorPtRefAt
namespace Go.Proofs.YtmnlfhpkfgfpoaaDoor
open Go.RowKit Pt

theorem where_nine (c : Cf) (h : Ok c) (q : Pl) (hq : hasB c q = true) (h9 : q.p = 9) (w : World) : Calls Tryd.prog 34 #[cfv c, plv q] w (Ret (.int .i64 (wh c q : Nat)) w) := by
  have ha := rAhead_any c h
  have hg := rGreat_any c h
  have hz := sz_bounds h
  have hs := sumP_le c h (Nat.le_refl 9)
  rw [sumP_nine c h] at hs
  have hh := (of_decide_eq_true hq : _ ∧ _ ∧ _ ∧ _)
  have h16 := (cnt_small c h q.p).1
  obtain ⟨A, hA⟩ : ∃ A : Nat, q.a = A := ⟨q.a.toNat, by omega⟩
  have hA4 : A ≤ 4 := by
    have hr := h.2.2
    unfold RestOk at hr
    have : cntA c q.p = c.inst.toNat := by rw [h9]; simp [cntA]
    omega
  have EW : Hid (wh c q = ahd (kB c) c.thr.toNat c.str.toNat + A * (1 + sz c)) := Lib.hid (by unfold wh; rw [if_pos h9, hA]; rfl)
  clear hh h16 hq h
  generalize ahd (kB c) c.thr.toNat c.str.toNat = n at *
  generalize sz c = Z at *
  have hm : A * (1 + Z) ≤ 4 * 129 := Nat.mul_le_mul hA4 (by omega)
  have e : (A : Int) * (1 + (Z : Int)) = ((A * (1 + Z) : Nat) : Int) := by simp
  generalize A * (1 + Z) = m at *
  unfold cfv plv at *
  rw [hA, h9]
  go_enter Tryd.func34, Tryd.ntmps34
  obtain ⟨W0, hW0⟩ : ∃ W0, W0 = (w.alloc (.cells #[.int .u8 c.obj, .int .i64 c.inst, .int .i64 c.thr, .int .u8 c.kind, .int .i64 c.str, .int .i64 c.bits, .int .i64 c.cap, .int .i64 c.node, .int .i64 c.bat, .int .i64 c.chunk, .int .u64 c.lim, .int .u64 c.most] 24)).alloc (.cells #[.int .u8 9, .int .i64 A, .int .i64 q.b] 30) := ⟨_, rfl⟩
  have I : IsCf W0 w.heap.size c := by rw [hW0]; exact (cf_lit w c _ rfl).same (Below.heap_alloc _ _ _ (by simp))
  have P0 : W0.cell? ⟨w.heap.size + 1, 0, none⟩ = some (.int .u8 9) := by rw [hW0]; simp [go_sem]
  have P1 : W0.cell? ⟨w.heap.size + 1, 1, none⟩ = some (.int .i64 A) := by rw [hW0]; simp [go_sem]
  have P2 : W0.cell? ⟨w.heap.size + 1, 2, none⟩ = some (.int .i64 q.b) := by rw [hW0]; simp [go_sem]
  have hb0 : Below w.heap.size w W0 := by rw [hW0]; exact below_two _ _ _
  clear hA
  have f0 := I 0 _ rfl
  have f1 := I 1 _ rfl
  have f2 := I 2 _ rfl
  have f3 := I 3 _ rfl
  have f4 := I 4 _ rfl
  have f5 := I 5 _ rfl
  have f6 := I 6 _ rfl
  have f7 := I 7 _ rfl
  have f8 := I 8 _ rfl
  have f9 := I 9 _ rfl
  have f10 := I 10 _ rfl
  have f11 := I 11 _ rfl
  clear I
  go_wp2
  rw [← hW0]
  clear hW0
  have k0 := cell_regrown f0
  have k1 := cell_regrown f1
  have k2 := cell_regrown f2
  have k3 := cell_regrown f3
  have k4 := cell_regrown f4
  have k5 := cell_regrown f5
  have k6 := cell_regrown f6
  have k7 := cell_regrown f7
  have k8 := cell_regrown f8
  have k9 := cell_regrown f9
  have k10 := cell_regrown f10
  have k11 := cell_regrown f11
  have l1 := cell_regrown P1
  refine wp_region_quiet_below (by kernel_rfl) (by kernel_rfl) ?_
  repeat (go_big_quiet_step (first | exact Calls.regrown_of (ha _) | exact Calls.regrown_of (hg _)))
  refine wpQuiet_nil ?_
  intro W3 hw'
  obtain ⟨⟨dq, osq⟩, hw''⟩ := hw'
  have hb3 := below_regrown W0 dq osq
  rw [← hw''] at hb3
  clear hw'' k0 k1 k2 k3 k4 k5 k6 k7 k8 k9 k10 k11 l1
  go_wp2
  go_ret
  exact Ret.mk (i64_eq (by rw [EW.out]; omega)) (below_then hb0 hb3)

theorem where_ten (c : Cf) (h : Ok c) (q : Pl) (hq : hasB c q = true) (h9 : q.p = 10) (w : World) : Calls Tryd.prog 34 #[cfv c, plv q] w (Ret (.int .i64 (wh c q : Nat)) w) := by
  have ha := rAhead_any c h
  have hg := rGreat_any c h
  have hz := sz_bounds h
  have hs := sumP_le c h (Nat.le_refl 9)
  rw [sumP_nine c h] at hs
  have hh := (of_decide_eq_true hq : _ ∧ _ ∧ _ ∧ _)
  have h16 := (cnt_small c h q.p).1
  have h128 := (cnt_small c h q.p).2.1
  obtain ⟨A, hA⟩ : ∃ A : Nat, q.a = A := ⟨q.a.toNat, by omega⟩
  obtain ⟨B, hB⟩ : ∃ B : Nat, q.b = B := ⟨q.b.toNat, by omega⟩
  have hA4 : A ≤ 4 := by
    have hr := h.2.2
    unfold RestOk at hr
    have : cntA c q.p = c.inst.toNat := by rw [h9]; simp [cntA]
    omega
  have hB4 : B ≤ 128 := by omega
  have EW : Hid (wh c q = ahd (kB c) c.thr.toNat c.str.toNat + A * (1 + sz c) + 1 + B) := Lib.hid (by unfold wh; rw [if_neg (by omega), if_pos h9, hA, hB]; rfl)
  clear hh h16 h128 hq h
  generalize ahd (kB c) c.thr.toNat c.str.toNat = n at *
  generalize sz c = Z at *
  have hm : A * (1 + Z) ≤ 4 * 129 := Nat.mul_le_mul hA4 (by omega)
  have e : (A : Int) * (1 + (Z : Int)) = ((A * (1 + Z) : Nat) : Int) := by simp
  generalize A * (1 + Z) = m at *
  unfold cfv plv at *
  rw [hA, hB, h9]
  go_enter Tryd.func34, Tryd.ntmps34
  obtain ⟨W0, hW0⟩ : ∃ W0, W0 = (w.alloc (.cells #[.int .u8 c.obj, .int .i64 c.inst, .int .i64 c.thr, .int .u8 c.kind, .int .i64 c.str, .int .i64 c.bits, .int .i64 c.cap, .int .i64 c.node, .int .i64 c.bat, .int .i64 c.chunk, .int .u64 c.lim, .int .u64 c.most] 24)).alloc (.cells #[.int .u8 10, .int .i64 A, .int .i64 B] 30) := ⟨_, rfl⟩
  have I : IsCf W0 w.heap.size c := by rw [hW0]; exact (cf_lit w c _ rfl).same (Below.heap_alloc _ _ _ (by simp))
  have P0 : W0.cell? ⟨w.heap.size + 1, 0, none⟩ = some (.int .u8 10) := by rw [hW0]; simp [go_sem]
  have P1 : W0.cell? ⟨w.heap.size + 1, 1, none⟩ = some (.int .i64 A) := by rw [hW0]; simp [go_sem]
  have P2 : W0.cell? ⟨w.heap.size + 1, 2, none⟩ = some (.int .i64 B) := by rw [hW0]; simp [go_sem]
  have hb0 : Below w.heap.size w W0 := by rw [hW0]; exact below_two _ _ _
  clear hA hB
  have f0 := I 0 _ rfl
  have f1 := I 1 _ rfl
  have f2 := I 2 _ rfl
  have f3 := I 3 _ rfl
  have f4 := I 4 _ rfl
  have f5 := I 5 _ rfl
  have f6 := I 6 _ rfl
  have f7 := I 7 _ rfl
  have f8 := I 8 _ rfl
  have f9 := I 9 _ rfl
  have f10 := I 10 _ rfl
  have f11 := I 11 _ rfl
  clear I
  go_wp2
  rw [← hW0]
  clear hW0
  have k0 := cell_regrown f0
  have k1 := cell_regrown f1
  have k2 := cell_regrown f2
  have k3 := cell_regrown f3
  have k4 := cell_regrown f4
  have k5 := cell_regrown f5
  have k6 := cell_regrown f6
  have k7 := cell_regrown f7
  have k8 := cell_regrown f8
  have k9 := cell_regrown f9
  have k10 := cell_regrown f10
  have k11 := cell_regrown f11
  have l1 := cell_regrown P1
  have l2 := cell_regrown P2
  refine wp_region_quiet_below (by kernel_rfl) (by kernel_rfl) ?_
  repeat (go_big_quiet_step (first | exact Calls.regrown_of (ha _) | exact Calls.regrown_of (hg _)))
  refine wpQuiet_nil ?_
  intro W3 hw'
  obtain ⟨⟨dq, osq⟩, hw''⟩ := hw'
  have hb3 := below_regrown W0 dq osq
  rw [← hw''] at hb3
  clear hw'' k0 k1 k2 k3 k4 k5 k6 k7 k8 k9 k10 k11 l1 l2
  go_wp2
  go_ret
  exact Ret.mk (i64_eq (by rw [EW.out]; omega)) (below_then hb0 hb3)

set_option maxHeartbeats 1000000 in
theorem where_low (c : Cf) (h : Ok c) (q : Pl) (hq : hasB c q = true) (p : Nat) (hp : q.p = p) (h1 : 1 ≤ p) (h8 : p ≤ 8) (w : World) : Calls Tryd.prog 34 #[cfv c, plv q] w (Ret (.int .i64 (wh c q : Nat)) w) := by
  have hh := (of_decide_eq_true hq : _ ∧ _ ∧ _ ∧ _)
  obtain ⟨q16, q128, q512⟩ := cnt_small c h q.p
  obtain ⟨A, hA⟩ : ∃ A : Nat, q.a = A := ⟨q.a.toNat, by omega⟩
  obtain ⟨B, hB⟩ : ∃ B : Nat, q.b = B := ⟨q.b.toNat, by omega⟩
  have hA4 : A ≤ 16 := by omega
  have hB4 : B ≤ 128 := by omega
  have EW : Hid (wh c q = sumP c p + A * cntB c (p : Int) + B) := Lib.hid (by unfold wh; rw [if_neg (by omega), if_neg (by omega), hA, hB, hp]; rfl)
  have HC := Lib.hid (rCounts_any c h)
  have HS := Lib.hid (fun k (hk : k ≤ 9) => sumP_le c h hk)
  have HP := Lib.hid (cnt_small c h)
  have H1 := Lib.hid (show sumP c 1 = 0 from rfl)
  clear hh q16 q128 q512 hq h
  unfold cfv plv at *
  rw [hA, hB, hp]
  go_enter Tryd.func34, Tryd.ntmps34
  obtain ⟨W0, hW0⟩ : ∃ W0, W0 = (w.alloc (.cells #[.int .u8 c.obj, .int .i64 c.inst, .int .i64 c.thr, .int .u8 c.kind, .int .i64 c.str, .int .i64 c.bits, .int .i64 c.cap, .int .i64 c.node, .int .i64 c.bat, .int .i64 c.chunk, .int .u64 c.lim, .int .u64 c.most] 24)).alloc (.cells #[.int .u8 p, .int .i64 A, .int .i64 B] 30) := ⟨_, rfl⟩
  have I : IsCf W0 w.heap.size c := by rw [hW0]; exact (cf_lit w c _ rfl).same (Below.heap_alloc _ _ _ (by simp))
  have P0 : W0.cell? ⟨w.heap.size + 1, 0, none⟩ = some (.int .u8 p) := by rw [hW0]; simp [go_sem]
  have P1 : W0.cell? ⟨w.heap.size + 1, 1, none⟩ = some (.int .i64 A) := by rw [hW0]; simp [go_sem]
  have P2 : W0.cell? ⟨w.heap.size + 1, 2, none⟩ = some (.int .i64 B) := by rw [hW0]; simp [go_sem]
  have hb0 : Below w.heap.size w W0 := by rw [hW0]; exact below_two _ _ _
  clear hA hB hp
  have b9 : ((p : Int) == 9) = false := by simp; omega
  have b10 : ((p : Int) == 10) = false := by simp; omega
  have HI := Lib.hid I
  clear I
  go_wp2
  rw [← hW0]
  clear hW0
  go_loopg [5, 6] (p - 1) (fun g nv pv wr => ∃ k : Nat, 1 ≤ k ∧ k ≤ p ∧ g = p - k ∧ pv = .int .u8 k ∧ nv = .int .i64 (sumP c k : Nat) ∧ Below W0.heap.size W0 wr)
  case atStart => exact ⟨1, by omega, by omega, rfl, rfl, by rw [H1.out]; rfl, Below.refl _ _⟩
  case round =>
    obtain ⟨k, hk1, hk, rfl, rfl, rfl, hbr⟩ := hrel
    have I := HI.out.same (hbr.block _ HI.out.lt)
    have g0 := (hbr.cell (World.block_lt_of_cell? _ _ P0)).trans P0
    have g1 := (hbr.cell (World.block_lt_of_cell? _ _ P1)).trans P1
    have g2 := (hbr.cell (World.block_lt_of_cell? _ _ P2)).trans P2
    have f0 := I 0 _ rfl
    have f1 := I 1 _ rfl
    have f2 := I 2 _ rfl
    have f3 := I 3 _ rfl
    have f4 := I 4 _ rfl
    have f5 := I 5 _ rfl
    have f6 := I 6 _ rfl
    have f7 := I 7 _ rfl
    have f8 := I 8 _ rfl
    have f9 := I 9 _ rfl
    have f10 := I 10 _ rfl
    have f11 := I 11 _ rfl
    clear I
    have hc := HC.out (k : Int)
    obtain ⟨h16, h128, h512⟩ := HP.out (k : Int)
    by_cases hlt : k < p
    · have EK := Lib.hid (sumP_succ c hk1)
      have hs := HS.out (k + 1) (by omega)
      rw [EK.out] at hs
      have e : ((cntA c (k : Int) : Nat) : Int) * ((cntB c (k : Int) : Nat) : Int) = ((cntA c (k : Int) * cntB c (k : Int) : Nat) : Int) := by simp
      generalize cntA c (k : Int) * cntB c (k : Int) = m at *
      generalize cntA c (k : Int) = a at *
      generalize cntB c (k : Int) = b at *
      generalize sumP c k = s at *
      go_wp2_with fail
      refine (hc _).mono ?_
      rintro e' w2 ⟨rfl, hb2⟩
      have hbr2 := below_then hbr hb2
      clear f0 f1 f2 f3 f4 f5 f6 f7 f8 f9 f10 f11 hb2 hc g0 g1 g2
      go_wp2
      go_roundg (p - (k + 1))
      case measure => omega
      case rel => exact ⟨k + 1, by omega, by omega, rfl, by go_num, i64_eq (by rw [EK.out]; omega), hbr2⟩
    · obtain rfl : k = p := by omega
      have hs := HS.out k (by omega)
      have hm : A * cntB c (k : Int) ≤ 16 * 128 := Nat.mul_le_mul hA4 h128
      have e : (A : Int) * ((cntB c (k : Int) : Nat) : Int) = ((A * cntB c (k : Int) : Nat) : Int) := by simp
      generalize A * cntB c (k : Int) = m at *
      generalize cntA c (k : Int) = a at *
      generalize cntB c (k : Int) = b at *
      generalize sumP c k = s at *
      go_wp2_with fail
      refine (hc _).mono ?_
      rintro e' w2 ⟨rfl, hb2⟩
      have hbr2 := below_then hbr hb2
      replace g1 := (hb2.cell (World.block_lt_of_cell? _ _ g1)).trans g1
      replace g2 := (hb2.cell (World.block_lt_of_cell? _ _ g2)).trans g2
      clear f0 f1 f2 f3 f4 f5 f6 f7 f8 f9 f10 f11 hb2 hc g0
      go_wp2
      go_ret
      exact Ret.mk (i64_eq (by rw [EW.out]; omega)) (below_then hb0 hbr2)

theorem rWhere_any (c : Cf) (h : Ok c) (q : Pl) (hq : hasB c q = true) (w : World) : Calls Tryd.prog 34 #[cfv c, plv q] w (Ret (.int .i64 (wh c q : Nat)) w) := by
  have hp := has_part hq
  by_cases h9 : q.p = 9
  · exact where_nine c h q hq h9 w
  · by_cases h10 : q.p = 10
    · exact where_ten c h q hq h10 w
    · exact where_low c h q hq q.p.toNat (by omega) (by omega) (by omega) w

theorem rAll_any (c : Cf) (h : Ok c) (w : World) : Calls Tryd.prog 30 #[cfv c] w (Ret (.int .i64 (all c : Nat)) w) := by
  have ha := rAhead_any c h
  have hg := rGreat_any c h
  have hz := sz_bounds h
  have hs := sumP_le c h (Nat.le_refl 9)
  rw [sumP_nine c h] at hs
  have hr := h.2.2
  unfold RestOk at hr
  obtain ⟨A, hA⟩ : ∃ A : Nat, c.inst = A := ⟨c.inst.toNat, by omega⟩
  have hA4 : A ≤ 4 := by omega
  have EW : Hid (all c = ahd (kB c) c.thr.toNat c.str.toNat + A * (1 + sz c)) := Lib.hid (by rw [all_eq, hA]; rfl)
  clear hr h
  generalize ahd (kB c) c.thr.toNat c.str.toNat = n at *
  generalize sz c = Z at *
  have hm : A * (1 + Z) ≤ 4 * 129 := Nat.mul_le_mul hA4 (by omega)
  have e : (A : Int) * (1 + (Z : Int)) = ((A * (1 + Z) : Nat) : Int) := by simp
  generalize A * (1 + Z) = m at *
  unfold cfv at *
  go_enter Tryd.func30, Tryd.ntmps30
  obtain ⟨W0, hW0⟩ : ∃ W0, W0 = w.alloc (.cells #[.int .u8 c.obj, .int .i64 c.inst, .int .i64 c.thr, .int .u8 c.kind, .int .i64 c.str, .int .i64 c.bits, .int .i64 c.cap, .int .i64 c.node, .int .i64 c.bat, .int .i64 c.chunk, .int .u64 c.lim, .int .u64 c.most] 24) := ⟨_, rfl⟩
  have I : IsCf W0 w.heap.size c := by rw [hW0]; exact cf_lit w c _ rfl
  have hb0 : Below w.heap.size w W0 := by rw [hW0]; exact below_one _ _
  have f0 := I 0 _ rfl
  have f1 := I 1 _ rfl
  have f2 := I 2 _ rfl
  have f3 := I 3 _ rfl
  have f4 := I 4 _ rfl
  have f5 := I 5 _ rfl
  have f6 := I 6 _ rfl
  have f7 := I 7 _ rfl
  have f8 := I 8 _ rfl
  have f9 := I 9 _ rfl
  have f10 := I 10 _ rfl
  have f11 := I 11 _ rfl
  have f1' : W0.cell? ⟨w.heap.size, 1, none⟩ = some (.int .i64 A) := by rw [← hA]; exact f1
  clear I f1
  rw [hA] at ha hg hW0 ⊢
  go_wp2
  rw [← hW0]
  clear hW0
  have f1 := f1'
  clear f1'
  have k0 := cell_regrown f0
  have k1 := cell_regrown f1
  have k2 := cell_regrown f2
  have k3 := cell_regrown f3
  have k4 := cell_regrown f4
  have k5 := cell_regrown f5
  have k6 := cell_regrown f6
  have k7 := cell_regrown f7
  have k8 := cell_regrown f8
  have k9 := cell_regrown f9
  have k10 := cell_regrown f10
  have k11 := cell_regrown f11
  refine wp_region_quiet_below (by kernel_rfl) (by kernel_rfl) ?_
  repeat (go_big_quiet_step (first | exact Calls.regrown_of (ha _) | exact Calls.regrown_of (hg _)))
  refine wpQuiet_nil ?_
  intro W3 hw'
  obtain ⟨⟨dq, osq⟩, hw''⟩ := hw'
  have hb3 := below_regrown W0 dq osq
  rw [← hw''] at hb3
  clear hw'' k0 k1 k2 k3 k4 k5 k6 k7 k8 k9 k10 k11 
  go_wp2
  go_ret
  exact Ret.mk (i64_eq (by rw [EW.out]; omega)) (below_then hb0 hb3)
end Go.Proofs.YtmnlfhpkfgfpoaaDoor
