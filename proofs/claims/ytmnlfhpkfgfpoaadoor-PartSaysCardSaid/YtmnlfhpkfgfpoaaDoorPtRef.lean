/- The document's own answers on sizes and parts. -/
import Derived.Test.YtmnlfhpkfgfpoaaDoorPtRefMath
import Derived.Test.YtmnlfhpkfgfpoaaDoorPtWalks
import Derived.Test.YtmnlfhpkfgfpoaaDoorRrTop
import Derived.Test.YtmnlfhpkfgfpoaaDoorTail
import Derived.RegionTactic
import Derived.BigRegion
import Derived.BigQuiet
import Derived.Deep.QuietTactic
namespace Go.Proofs.YtmnlfhpkfgfpoaaDoor
open Go.RowKit Pt

set_option maxHeartbeats 2000000 in
theorem rGreat_any (c : Cf) (h : Ok c) (w : World) : Calls Tryd.prog 28 #[cfv c] w (Ret (.int .i64 (sz c : Nat)) w) := by
  obtain ⟨ho, _, hr⟩ := h
  unfold RestOk at hr
  by_cases h1 : c.obj = 1
  · have hb : 1 ≤ c.bits ∧ c.bits ≤ 6 := by unfold ObjOk at ho; omega
    obtain ⟨b, hb', b1, b6⟩ : ∃ b : Nat, c.bits = b ∧ 1 ≤ b ∧ b ≤ 6 := ⟨c.bits.toNat, by omega, by omega, by omega⟩
    have es : sz c = 2 ^ (b + 1) := by unfold sz; rw [if_pos h1, hb']; rfl
    have ES := Lib.hid es
    have HPW := Lib.hid (fun k (hk : k ≤ 6) => pow_small ⟨k, by omega⟩)
    clear ho hr hb es
    unfold cfv
    rw [h1, hb']
    go_enter Tryd.func28, Tryd.ntmps28
    go_wp2
    go_loopg [3, 4] b (fun g nv iv wr => wr = w.alloc (.cells #[.int .u8 1, .int .i64 c.inst, .int .i64 c.thr, .int .u8 c.kind, .int .i64 c.str, .int .i64 b, .int .i64 c.cap, .int .i64 c.node, .int .i64 c.bat, .int .i64 c.chunk, .int .u64 c.lim, .int .u64 c.most] 24) ∧ ∃ k : Nat, k ≤ b ∧ g = b - k ∧ iv = .int .i64 k ∧ nv = .int .i64 ((2 ^ (k + 1) : Nat) : Int))
    case atStart => exact ⟨rfl, 0, Nat.zero_le _, rfl, rfl, rfl⟩
    case round =>
      obtain ⟨rfl, k, hk, rfl, rfl, rfl⟩ := hrel
      by_cases hlt : k < b
      · have hp := HPW.out k (by omega)
        have EP : Hid (2 ^ (k + 1 + 1) = 2 * 2 ^ (k + 1)) := Lib.hid (by rw [Nat.pow_succ 2 (k + 1), Nat.mul_comm])
        generalize 2 ^ (k + 1) = x at *
        go_wp2
        go_roundg (b - (k + 1))
        case measure => omega
        case rel => exact ⟨rfl, k + 1, by omega, rfl, by go_num, i64_eq (by rw [EP.out]; omega)⟩
      · obtain rfl : k = b := by omega
        go_wp2
        go_ret
        exact Ret.mk (i64_eq (by rw [ES.out])) (below_one _ _)
  · by_cases h2 : c.obj = 2
    · have hb : 2 ≤ c.node ∧ c.node ≤ 4 := by unfold ObjOk at ho; omega
      obtain ⟨N, hN, N2, N4⟩ : ∃ N : Nat, c.node = N ∧ 2 ≤ N ∧ N ≤ 4 := ⟨c.node.toNat, by omega, by omega, by omega⟩
      obtain ⟨M, hM, M1, M32⟩ : ∃ M : Nat, c.cap = M ∧ 1 ≤ M ∧ M ≤ 32 := ⟨c.cap.toNat, by omega, by omega, by omega⟩
      have es : sz c = 1 + its c (lvs c) := by unfold sz; rw [if_neg h1, if_pos h2]
      have hl : ∀ k, k ≤ lvs c → its c k ≤ 63 := fun k hk => its_le (c := c) (by omega) hb hk
      have eT : lvs c = Rk.top M N + 1 := by unfold lvs; rw [hM, hN]; rfl
      have hs : ∀ k, its c (k + 1) = its c k + Rk.items M N k := fun k => by rw [its_succ, hM, hN]; rfl
      have hT := Rk.top_le M N
      have e0 : its c 0 = 0 := rfl
      have HL := Lib.hid hl
      have HS := Lib.hid hs
      have ES := Lib.hid es
      have ET := Lib.hid eT
      have E0 := Lib.hid e0
      have htop := fun W => rTop_nat M N M32 N2 N4 W
      have hit := fun k (hk : k ≤ 4) W => rItems_nat M N k M32 N2 N4 hk W
      clear ho hr hb es hl eT hs e0
      generalize Rk.top M N = T at *
      unfold cfv
      rw [h2, hM, hN]
      go_enter Tryd.func28, Tryd.ntmps28
      go_wp2
      obtain ⟨W0, hW0⟩ : ∃ W0, W0 = w.alloc (.cells #[.int .u8 2, .int .i64 c.inst, .int .i64 c.thr, .int .u8 c.kind, .int .i64 c.str, .int .i64 c.bits, .int .i64 M, .int .i64 N, .int .i64 c.bat, .int .i64 c.chunk, .int .u64 c.lim, .int .u64 c.most] 24) := ⟨_, rfl⟩
      have d6 : W0.cell? ⟨w.heap.size, 6, none⟩ = some (.int .i64 M) := by rw [hW0]; simp [go_sem]
      have d7 : W0.cell? ⟨w.heap.size, 7, none⟩ = some (.int .i64 N) := by rw [hW0]; simp [go_sem]
      have hb0 : Below w.heap.size w W0 := by rw [hW0]; exact below_one _ _
      have hlt0 := World.block_lt_of_cell? _ _ d6
      rw [← hW0]
      clear hW0
      go_loopg [5, 6] (T + 1) (fun g nv hv wr => ∃ k : Nat, k ≤ T + 1 ∧ g = T + 1 - k ∧ hv = .int .i64 k ∧ nv = .int .i64 ((1 + its c k : Nat) : Int) ∧ Below W0.heap.size W0 wr)
      case atStart => exact ⟨0, Nat.zero_le _, rfl, rfl, by rw [E0.out]; rfl, Below.refl _ _⟩
      case round =>
        obtain ⟨k, hk, rfl, rfl, rfl, hbr⟩ := hrel
        have g6 := (hbr.cell (p := ⟨w.heap.size, 6, none⟩) hlt0).trans d6
        have g7 := (hbr.cell (p := ⟨w.heap.size, 7, none⟩) hlt0).trans d7
        by_cases hlt : k ≤ T
        · have h1 := HL.out (k + 1) (by rw [ET.out]; omega)
          have EK := Lib.hid (HS.out k)
          rw [HS.out] at h1
          have hik := hit k (by omega)
          generalize Rk.items M N k = x at *
          generalize its c k = y at *
          go_wp2_with fail
          refine (htop _).mono ?_
          rintro e w2 ⟨rfl, hb2⟩
          have hbr2 := below_then hbr hb2
          have k6 := (hbr2.cell (p := ⟨w.heap.size, 6, none⟩) hlt0).trans d6
          have k7 := (hbr2.cell (p := ⟨w.heap.size, 7, none⟩) hlt0).trans d7
          clear g6 g7 hb2
          go_wp2_with fail
          refine (hik _).mono ?_
          rintro e w3 ⟨rfl, hb3⟩
          have hbr3 := below_then hbr2 hb3
          clear k6 k7 hb3
          go_wp2
          go_roundg (T + 1 - (k + 1))
          case measure => omega
          case rel => exact ⟨k + 1, by omega, rfl, by go_num, i64_eq (by rw [EK.out]; omega), hbr3⟩
        · obtain rfl : k = T + 1 := by omega
          go_wp2_with fail
          refine (htop _).mono ?_
          rintro e w2 ⟨rfl, hb2⟩
          go_wp2
          go_ret
          exact Ret.mk (i64_eq (by rw [ES.out, ET.out]; omega)) (below_then hb0 (below_then hbr hb2))
    · have es : ((sz c : Nat) : Int) = c.cap := by unfold sz; rw [if_neg h1, if_neg h2]; omega
      rw [es]
      clear es ho hr
      have e1 : (c.obj == 1) = false := by simpa using h1
      have e2 : (c.obj == 2) = false := by simpa using h2
      unfold cfv
      go_enter Tryd.func28, Tryd.ntmps28
      go_wp2
      go_ret
      exact Ret.mk rfl (below_one _ _)

theorem part_cases (p : Int) : p = 1 ∨ p = 2 ∨ p = 3 ∨ p = 4 ∨ p = 5 ∨ p = 6 ∨ p = 7 ∨ p = 8 ∨ p = 9 ∨ p = 10 ∨ (¬ p = 1 ∧ ¬ p = 2 ∧ ¬ p = 3 ∧ ¬ p = 4 ∧ ¬ p = 5 ∧ ¬ p = 6 ∧ ¬ p = 7 ∧ ¬ p = 8 ∧ ¬ p = 9 ∧ ¬ p = 10) := by omega

set_option maxHeartbeats 4000000 in
theorem rCounts_any (c : Cf) (h : Ok c) (p : Int) (w : World) : Calls Tryd.prog 51 #[cfv c, .int .u8 p] w (Ret2 (.int .i64 (cntA c p : Nat)) (.int .i64 (cntB c p : Nat)) w) := by
  have hr := h.2.2
  unfold RestOk at hr
  have hi := h.2.1
  unfold IndOk at hi
  have hg := rGreat_any c h
  obtain ⟨T, hT⟩ : ∃ T : Nat, c.thr = T := ⟨c.thr.toNat, by omega⟩
  obtain ⟨S, hS⟩ : ∃ S : Nat, c.str = S := ⟨c.str.toNat, by omega⟩
  obtain ⟨I, hI⟩ : ∃ I : Nat, c.inst = I := ⟨c.inst.toNat, by omega⟩
  have hk : c.kind = 1 ∨ c.kind = 2 := by omega
  clear hr hi h
  have fin : ∀ (a b : Int) (w1 : World), a = (cntA c p : Nat) → b = (cntB c p : Nat) → Below w.heap.size w w1 → Ret2 (.int .i64 (cntA c p : Nat)) (.int .i64 (cntB c p : Nat)) w (.returned (.tuple #[.int .i64 a, .int .i64 b])) w1 := fun a b w1 h1 h2 hb => Ret2.mk (by rw [h1]) (by rw [h2]) hb
  have FIN := Lib.hid fin
  clear fin
  unfold cfv at *
  rw [hT, hS, hI] at hg ⊢
  rcases part_cases p with rfl | rfl | rfl | rfl | rfl | rfl | rfl | rfl | rfl | rfl | ⟨e1, e2, e3, e4, e5, e6, e7, e8, e9, e10⟩
  · go_enter Tryd.func51, Tryd.ntmps51
    go_wp2
    go_ret2
    exact FIN.out _ _ _ (by simp [cntA, hT]) (by simp [cntB, hT]) (below_one _ _)
  · go_enter Tryd.func51, Tryd.ntmps51
    go_wp2
    go_ret2
    exact FIN.out _ _ _ (by simp [cntA, hT]) (by simp [cntB, hT]) (below_one _ _)
  · go_enter Tryd.func51, Tryd.ntmps51
    go_wp2
    go_ret2
    exact FIN.out _ _ _ (by simp [cntA, hT]) (by simp [cntB, hT]) (below_one _ _)
  · go_enter Tryd.func51, Tryd.ntmps51
    go_wp2
    go_ret2
    exact FIN.out _ _ _ (by simp [cntA, hT]) (by simp [cntB, hT]) (below_one _ _)
  · go_enter Tryd.func51, Tryd.ntmps51
    go_wp2
    go_ret2
    exact FIN.out _ _ _ (by simp [cntA, hT]) (by simp [cntB, hT]) (below_one _ _)
  · rcases hk with e | e
    · rw [e] at hg ⊢
      go_enter Tryd.func51, Tryd.ntmps51
      go_wp2
      obtain ⟨W0, hW0⟩ : ∃ W0, W0 = w.alloc (.cells #[.int .u8 c.obj, .int .i64 I, .int .i64 T, .int .u8 1, .int .i64 S, .int .i64 c.bits, .int .i64 c.cap, .int .i64 c.node, .int .i64 c.bat, .int .i64 c.chunk, .int .u64 c.lim, .int .u64 c.most] 24) := ⟨_, rfl⟩
      have d1 : W0.cell? ⟨w.heap.size, 1, none⟩ = some (.int .i64 I) := by rw [hW0]; simp [go_sem]
      have d2 : W0.cell? ⟨w.heap.size, 2, none⟩ = some (.int .i64 T) := by rw [hW0]; simp [go_sem]
      have d4 : W0.cell? ⟨w.heap.size, 4, none⟩ = some (.int .i64 S) := by rw [hW0]; simp [go_sem]
      have hb0 : Below w.heap.size w W0 := by rw [hW0]; exact below_one _ _
      rw [← hW0]
      clear hW0
      have k1 := cell_regrown d1
      have k2 := cell_regrown d2
      have k4 := cell_regrown d4
      refine wp_region_quiet_below (by kernel_rfl) (by kernel_rfl) ?_
      repeat (go_big_quiet_step (fail))
      refine wpQuiet_nil ?_
      intro W3 hw'
      obtain ⟨⟨dq, osq⟩, hw''⟩ := hw'
      have hb3 := below_regrown W0 dq osq
      rw [← hw''] at hb3
      clear hw'' k1 k2 k4
      go_wp2
      go_ret2
      exact FIN.out _ _ _ (by simp [cntA, hT, e]) (by simp [cntB, hT, e]) (below_then hb0 hb3)
    · rw [e] at hg ⊢
      go_enter Tryd.func51, Tryd.ntmps51
      go_wp2
      go_ret2
      exact FIN.out _ _ _ (by simp [cntA, e]) (by simp [cntB, e]) (below_one _ _)
  · rcases hk with e | e
    · rw [e] at hg ⊢
      go_enter Tryd.func51, Tryd.ntmps51
      go_wp2
      go_ret2
      exact FIN.out _ _ _ (by simp [cntA, e]) (by simp [cntB, e]) (below_one _ _)
    · rw [e] at hg ⊢
      go_enter Tryd.func51, Tryd.ntmps51
      go_wp2
      obtain ⟨W0, hW0⟩ : ∃ W0, W0 = w.alloc (.cells #[.int .u8 c.obj, .int .i64 I, .int .i64 T, .int .u8 2, .int .i64 S, .int .i64 c.bits, .int .i64 c.cap, .int .i64 c.node, .int .i64 c.bat, .int .i64 c.chunk, .int .u64 c.lim, .int .u64 c.most] 24) := ⟨_, rfl⟩
      have d1 : W0.cell? ⟨w.heap.size, 1, none⟩ = some (.int .i64 I) := by rw [hW0]; simp [go_sem]
      have d2 : W0.cell? ⟨w.heap.size, 2, none⟩ = some (.int .i64 T) := by rw [hW0]; simp [go_sem]
      have d4 : W0.cell? ⟨w.heap.size, 4, none⟩ = some (.int .i64 S) := by rw [hW0]; simp [go_sem]
      have hb0 : Below w.heap.size w W0 := by rw [hW0]; exact below_one _ _
      rw [← hW0]
      clear hW0
      have k1 := cell_regrown d1
      have k2 := cell_regrown d2
      have k4 := cell_regrown d4
      refine wp_region_quiet_below (by kernel_rfl) (by kernel_rfl) ?_
      repeat (go_big_quiet_step (fail))
      refine wpQuiet_nil ?_
      intro W3 hw'
      obtain ⟨⟨dq, osq⟩, hw''⟩ := hw'
      have hb3 := below_regrown W0 dq osq
      rw [← hw''] at hb3
      clear hw'' k1 k2 k4
      go_wp2
      go_ret2
      exact FIN.out _ _ _ (by simp [cntA, hS, e]) (by simp [cntB, hS, e]) (below_then hb0 hb3)
  · rcases hk with e | e
    · rw [e] at hg ⊢
      go_enter Tryd.func51, Tryd.ntmps51
      go_wp2
      go_ret2
      exact FIN.out _ _ _ (by simp [cntA, e]) (by simp [cntB, e]) (below_one _ _)
    · rw [e] at hg ⊢
      go_enter Tryd.func51, Tryd.ntmps51
      go_wp2
      obtain ⟨W0, hW0⟩ : ∃ W0, W0 = w.alloc (.cells #[.int .u8 c.obj, .int .i64 I, .int .i64 T, .int .u8 2, .int .i64 S, .int .i64 c.bits, .int .i64 c.cap, .int .i64 c.node, .int .i64 c.bat, .int .i64 c.chunk, .int .u64 c.lim, .int .u64 c.most] 24) := ⟨_, rfl⟩
      have d1 : W0.cell? ⟨w.heap.size, 1, none⟩ = some (.int .i64 I) := by rw [hW0]; simp [go_sem]
      have d2 : W0.cell? ⟨w.heap.size, 2, none⟩ = some (.int .i64 T) := by rw [hW0]; simp [go_sem]
      have d4 : W0.cell? ⟨w.heap.size, 4, none⟩ = some (.int .i64 S) := by rw [hW0]; simp [go_sem]
      have hb0 : Below w.heap.size w W0 := by rw [hW0]; exact below_one _ _
      rw [← hW0]
      clear hW0
      have k1 := cell_regrown d1
      have k2 := cell_regrown d2
      have k4 := cell_regrown d4
      refine wp_region_quiet_below (by kernel_rfl) (by kernel_rfl) ?_
      repeat (go_big_quiet_step (fail))
      refine wpQuiet_nil ?_
      intro W3 hw'
      obtain ⟨⟨dq, osq⟩, hw''⟩ := hw'
      have hb3 := below_regrown W0 dq osq
      rw [← hw''] at hb3
      clear hw'' k1 k2 k4
      go_wp2
      go_ret2
      exact FIN.out _ _ _ (by simp [cntA, hS, e]) (by simp [cntB, hS, e]) (below_then hb0 hb3)
  · go_enter Tryd.func51, Tryd.ntmps51
    go_wp2
    go_ret2
    exact FIN.out _ _ _ (by simp [cntA, hI]) (by simp [cntB, hI]) (below_one _ _)
  · go_enter Tryd.func51, Tryd.ntmps51
    go_wp2
    obtain ⟨W0, hW0⟩ : ∃ W0, W0 = w.alloc (.cells #[.int .u8 c.obj, .int .i64 I, .int .i64 T, .int .u8 c.kind, .int .i64 S, .int .i64 c.bits, .int .i64 c.cap, .int .i64 c.node, .int .i64 c.bat, .int .i64 c.chunk, .int .u64 c.lim, .int .u64 c.most] 24) := ⟨_, rfl⟩
    have d0 : W0.cell? ⟨w.heap.size, 0, none⟩ = some (.int .u8 c.obj) := by rw [hW0]; simp [go_sem]
    have d1 : W0.cell? ⟨w.heap.size, 1, none⟩ = some (.int .i64 I) := by rw [hW0]; simp [go_sem]
    have d2 : W0.cell? ⟨w.heap.size, 2, none⟩ = some (.int .i64 T) := by rw [hW0]; simp [go_sem]
    have d3 : W0.cell? ⟨w.heap.size, 3, none⟩ = some (.int .u8 c.kind) := by rw [hW0]; simp [go_sem]
    have d4 : W0.cell? ⟨w.heap.size, 4, none⟩ = some (.int .i64 S) := by rw [hW0]; simp [go_sem]
    have d5 : W0.cell? ⟨w.heap.size, 5, none⟩ = some (.int .i64 c.bits) := by rw [hW0]; simp [go_sem]
    have d6 : W0.cell? ⟨w.heap.size, 6, none⟩ = some (.int .i64 c.cap) := by rw [hW0]; simp [go_sem]
    have d7 : W0.cell? ⟨w.heap.size, 7, none⟩ = some (.int .i64 c.node) := by rw [hW0]; simp [go_sem]
    have d8 : W0.cell? ⟨w.heap.size, 8, none⟩ = some (.int .i64 c.bat) := by rw [hW0]; simp [go_sem]
    have d9 : W0.cell? ⟨w.heap.size, 9, none⟩ = some (.int .i64 c.chunk) := by rw [hW0]; simp [go_sem]
    have d10 : W0.cell? ⟨w.heap.size, 10, none⟩ = some (.int .u64 c.lim) := by rw [hW0]; simp [go_sem]
    have d11 : W0.cell? ⟨w.heap.size, 11, none⟩ = some (.int .u64 c.most) := by rw [hW0]; simp [go_sem]
    have hb0 : Below w.heap.size w W0 := by rw [hW0]; exact below_one _ _
    rw [← hW0]
    clear hW0
    have k0 := cell_regrown d0
    have k1 := cell_regrown d1
    have k2 := cell_regrown d2
    have k3 := cell_regrown d3
    have k4 := cell_regrown d4
    have k5 := cell_regrown d5
    have k6 := cell_regrown d6
    have k7 := cell_regrown d7
    have k8 := cell_regrown d8
    have k9 := cell_regrown d9
    have k10 := cell_regrown d10
    have k11 := cell_regrown d11
    refine wp_region_quiet_below (by kernel_rfl) (by kernel_rfl) ?_
    repeat (go_big_quiet_step (exact Calls.regrown_of (hg _)))
    refine wpQuiet_nil ?_
    intro W3 hw'
    obtain ⟨⟨dq, osq⟩, hw''⟩ := hw'
    have hb3 := below_regrown W0 dq osq
    rw [← hw''] at hb3
    clear hw'' k0 k1 k2 k3 k4 k5 k6 k7 k8 k9 k10 k11
    go_wp2
    go_ret2
    exact FIN.out _ _ _ (by simp [cntA, hI]) (by simp [cntB, hI]) (below_then hb0 hb3)
  · have f1 : (p == 1) = false := by simpa using e1
    have f2 : (p == 2) = false := by simpa using e2
    have f3 : (p == 3) = false := by simpa using e3
    have f4 : (p == 4) = false := by simpa using e4
    have f5 : (p == 5) = false := by simpa using e5
    have f6 : (p == 6) = false := by simpa using e6
    have f7 : (p == 7) = false := by simpa using e7
    have f8 : (p == 8) = false := by simpa using e8
    have f9 : (p == 9) = false := by simpa using e9
    have f10 : (p == 10) = false := by simpa using e10
    go_enter Tryd.func51, Tryd.ntmps51
    go_wp2
    go_ret2
    exact FIN.out _ _ _ (by simp [cntA, e1, e2, e3, e4, e5, e6, e7, e8, e9, e10]) (by simp [cntB, e1, e2, e3, e4, e5, e6, e7, e8, e9, e10]) (below_one _ _)

end Go.Proofs.YtmnlfhpkfgfpoaaDoor
