/- The document's own answers on where a place stands. -/
import Derived.Test.YtmnlfhpkfgfpoaaDoorPtRef
import Derived.Test.YtmnlfhpkfgfpoaaDoorPtCount
namespace Go.Proofs.YtmnlfhpkfgfpoaaDoor
open Go.RowKit Pt

set_option maxHeartbeats 1000000 in
theorem rHas_any (c : Cf) (h : Ok c) (q : Pl) (w : World) : Calls Tryd.prog 33 #[cfv c, plv q] w (Ret (.bool (hasB c q)) w) := by
  have hcn := rCounts_any c h q.p
  have HH := Lib.hid (show hasB c q = decide (0 ≤ q.a ∧ q.a < cntA c q.p ∧ 0 ≤ q.b ∧ q.b < cntB c q.p) from rfl)
  clear h
  generalize cntA c q.p = a at *
  generalize cntB c q.p = b at *
  unfold cfv plv at *
  go_enter Tryd.func33, Tryd.ntmps33
  go_wp2_with fail
  refine (hcn _).mono ?_
  rintro e w1 ⟨rfl, hb1⟩
  obtain ⟨hc1, hf1⟩ := bcell hb1
  have p1 : w1.cell? ⟨w.heap.size + 1, 1, none⟩ = some (.int .i64 q.a) := by rw [hc1 _ _ (by simp)]; simp [go_sem]
  have p2 : w1.cell? ⟨w.heap.size + 1, 2, none⟩ = some (.int .i64 q.b) := by rw [hc1 _ _ (by simp)]; simp [go_sem]
  have hb := below_then (below_two w _ _) hb1
  clear hc1 hf1 hb1 hcn
  go_wp2
  all_goals go_ret
  all_goals refine Ret.mk (bool_eq (Bool.eq_iff_iff.2 ?_)) hb
  all_goals (rw [HH.out]; simp only [decide_eq_true_eq, Bool.and_eq_true, Bool.false_eq_true, false_iff]; omega)

set_option maxHeartbeats 1000000 in
theorem rAhead_any (c : Cf) (h : Ok c) (w : World) : Calls Tryd.prog 50 #[cfv c] w (Ret (.int .i64 (ahd (kB c) c.thr.toNat c.str.toNat : Nat)) w) := by
  have HC := Lib.hid (rCounts_any c h)
  have HS := Lib.hid (fun k (hk : k ≤ 9) => sumP_le c h hk)
  have HN := Lib.hid (sumP_nine c h)
  have HP := Lib.hid (cnt_small c h)
  have H1 := Lib.hid (show sumP c 1 = 0 from rfl)
  clear h
  unfold cfv at *
  go_enter Tryd.func50, Tryd.ntmps50
  go_wp2
  obtain ⟨W0, hW0⟩ : ∃ W0, W0 = w.alloc (.cells #[.int .u8 c.obj, .int .i64 c.inst, .int .i64 c.thr, .int .u8 c.kind, .int .i64 c.str, .int .i64 c.bits, .int .i64 c.cap, .int .i64 c.node, .int .i64 c.bat, .int .i64 c.chunk, .int .u64 c.lim, .int .u64 c.most] 24) := ⟨_, rfl⟩
  have HI : Hid (IsCf W0 w.heap.size c) := Lib.hid (by rw [hW0]; exact cf_lit w c _ rfl)
  have hb0 : Below w.heap.size w W0 := by rw [hW0]; exact below_one _ _
  rw [← hW0]
  clear hW0
  go_loopg [3, 4] 8 (fun g nv pv wr => ∃ k : Nat, 1 ≤ k ∧ k ≤ 9 ∧ g = 9 - k ∧ pv = .int .u8 k ∧ nv = .int .i64 (sumP c k : Nat) ∧ Below W0.heap.size W0 wr)
  case atStart => exact ⟨1, by omega, by omega, rfl, rfl, by rw [H1.out]; rfl, Below.refl _ _⟩
  case round =>
    obtain ⟨k, hk1, hk, rfl, rfl, rfl, hbr⟩ := hrel
    by_cases hlt : k ≤ 8
    · have I := HI.out.same (hbr.block _ HI.out.lt)
      have f0 := I 0 _ rfl
      have f1 := I 1 _ rfl
      have f2 := I 2 _ rfl
      have f3 := I 3 _ rfl
      have f4 := I 4 _ rfl
      have f5 := I 5 _ rfl
      have f6 := I 6 _ rfl
      have f7 := I 7 _ rfl
      have f8 := I 8 _ rfl
      have f9 := I 9 _ rfl
      have f10 := I 10 _ rfl
      have f11 := I 11 _ rfl
      clear I
      have hc := HC.out (k : Int)
      have EK := Lib.hid (sumP_succ c hk1)
      have hs := HS.out (k + 1) (by omega)
      rw [EK.out] at hs
      obtain ⟨h16, h128, h512⟩ := HP.out (k : Int)
      have e : ((cntA c (k : Int) : Nat) : Int) * ((cntB c (k : Int) : Nat) : Int) = ((cntA c (k : Int) * cntB c (k : Int) : Nat) : Int) := by simp
      generalize cntA c (k : Int) * cntB c (k : Int) = m at *
      generalize cntA c (k : Int) = a at *
      generalize cntB c (k : Int) = b at *
      generalize sumP c k = s at *
      go_wp2_with fail
      refine (hc _).mono ?_
      rintro e' w2 ⟨rfl, hb2⟩
      have hbr2 := below_then hbr hb2
      clear f0 f1 f2 f3 f4 f5 f6 f7 f8 f9 f10 f11 hb2 hc
      go_wp2
      go_roundg (9 - (k + 1))
      case measure => omega
      case rel => exact ⟨k + 1, by omega, by omega, rfl, by go_num, i64_eq (by rw [EK.out]; omega), hbr2⟩
    · obtain rfl : k = 9 := by omega
      go_wp2
      go_ret
      exact Ret.mk (i64_eq (by rw [HN.out])) (below_then hb0 hbr)
end Go.Proofs.YtmnlfhpkfgfpoaaDoor
