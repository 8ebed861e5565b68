/- The document's own answer on how great an object is. -/
import Derived.Test.YtfjpcdcaoefelaaDoorPtRefMath
import Derived.Test.YtfjpcdcaoefelaaDoorRrTop
import Derived.Test.YtfjpcdcaoefelaaDoorTail
import Derived.RegionTactic
import Derived.BigRegion
import Derived.BigQuiet
import Derived.Deep.QuietTactic
namespace Go.Proofs.YtfjpcdcaoefelaaDoor
open Go.RowKit Pt

set_option maxHeartbeats 2000000 in
theorem rGreat_any (c : Cf) (h : Ok c) (w : World) : Calls Tryd.prog 34 #[cfv c] w (Ret (.int .i64 (sz c : Nat)) w) := by
  obtain ⟨ho, _, hr⟩ := h
  unfold RestOk at hr
  by_cases h1 : c.obj = 1
  · have hb : 1 ≤ c.bits ∧ c.bits ≤ 6 := by unfold ObjOk at ho; omega
    obtain ⟨b, hb', b1, b6⟩ : ∃ b : Nat, c.bits = b ∧ 1 ≤ b ∧ b ≤ 6 := ⟨c.bits.toNat, by omega, by omega, by omega⟩
    have es : sz c = 2 ^ (b + 1) := by unfold sz; rw [if_pos h1, hb']; rfl
    have ES := Lib.hid es
    have HPW := Lib.hid (fun k (hk : k ≤ 6) => pow_small ⟨k, by omega⟩)
    clear ho hr hb es
    unfold cfv
    rw [h1, hb']
    go_enter Tryd.func34, Tryd.ntmps34
    go_wp2
    go_loopg [3, 4] b (fun g nv iv wr => wr = w.alloc (.cells #[.int .u8 1, .int .i64 c.inst, .int .i64 c.thr, .int .u8 c.kind, .int .i64 c.str, .int .i64 b, .int .i64 c.cap, .int .i64 c.node, .int .i64 c.bat, .int .i64 c.chunk, .int .u64 c.lim, .int .u64 c.most] 33) ∧ ∃ k : Nat, k ≤ b ∧ g = b - k ∧ iv = .int .i64 k ∧ nv = .int .i64 ((2 ^ (k + 1) : Nat) : Int))
    case atStart => exact ⟨rfl, 0, Nat.zero_le _, rfl, rfl, rfl⟩
    case round =>
      obtain ⟨rfl, k, hk, rfl, rfl, rfl⟩ := hrel
      by_cases hlt : k < b
      · have hp := HPW.out k (by omega)
        have EP : Hid (2 ^ (k + 1 + 1) = 2 * 2 ^ (k + 1)) := Lib.hid (by rw [Nat.pow_succ 2 (k + 1), Nat.mul_comm])
        generalize 2 ^ (k + 1) = x at *
        go_wp2
        go_roundg (b - (k + 1))
        case measure => omega
        case rel => exact ⟨rfl, k + 1, by omega, rfl, by go_num, i64_eq (by rw [EP.out]; omega)⟩
      · obtain rfl : k = b := by omega
        go_wp2
        go_ret
        exact Ret.mk (i64_eq (by rw [ES.out])) (below_one _ _)
  · by_cases h2 : c.obj = 2
    · have hb : 2 ≤ c.node ∧ c.node ≤ 4 := by unfold ObjOk at ho; omega
      obtain ⟨N, hN, N2, N4⟩ : ∃ N : Nat, c.node = N ∧ 2 ≤ N ∧ N ≤ 4 := ⟨c.node.toNat, by omega, by omega, by omega⟩
      obtain ⟨M, hM, M1, M32⟩ : ∃ M : Nat, c.cap = M ∧ 1 ≤ M ∧ M ≤ 32 := ⟨c.cap.toNat, by omega, by omega, by omega⟩
      have es : sz c = 1 + its c (lvs c) := by unfold sz; rw [if_neg h1, if_pos h2]
      have hl : ∀ k, k ≤ lvs c → its c k ≤ 63 := fun k hk => its_le (c := c) (by omega) hb hk
      have eT : lvs c = Rk.top M N + 1 := by unfold lvs; rw [hM, hN]; rfl
      have hs : ∀ k, its c (k + 1) = its c k + Rk.items M N k := fun k => by rw [its_succ, hM, hN]; rfl
      have hT := Rk.top_le M N
      have e0 : its c 0 = 0 := rfl
      have HL := Lib.hid hl
      have HS := Lib.hid hs
      have ES := Lib.hid es
      have ET := Lib.hid eT
      have E0 := Lib.hid e0
      have htop := fun W => rTop_nat M N M32 N2 N4 W
      have hit := fun k (hk : k ≤ 4) W => rItems_nat M N k M32 N2 N4 hk W
      clear ho hr hb es hl eT hs e0
      generalize Rk.top M N = T at *
      unfold cfv
      rw [h2, hM, hN]
      go_enter Tryd.func34, Tryd.ntmps34
      go_wp2
      obtain ⟨W0, hW0⟩ : ∃ W0, W0 = w.alloc (.cells #[.int .u8 2, .int .i64 c.inst, .int .i64 c.thr, .int .u8 c.kind, .int .i64 c.str, .int .i64 c.bits, .int .i64 M, .int .i64 N, .int .i64 c.bat, .int .i64 c.chunk, .int .u64 c.lim, .int .u64 c.most] 33) := ⟨_, rfl⟩
      have d6 : W0.cell? ⟨w.heap.size, 6, none⟩ = some (.int .i64 M) := by rw [hW0]; simp [go_sem]
      have d7 : W0.cell? ⟨w.heap.size, 7, none⟩ = some (.int .i64 N) := by rw [hW0]; simp [go_sem]
      have hb0 : Below w.heap.size w W0 := by rw [hW0]; exact below_one _ _
      have hlt0 := World.block_lt_of_cell? _ _ d6
      rw [← hW0]
      clear hW0
      go_loopg [5, 6] (T + 1) (fun g nv hv wr => ∃ k : Nat, k ≤ T + 1 ∧ g = T + 1 - k ∧ hv = .int .i64 k ∧ nv = .int .i64 ((1 + its c k : Nat) : Int) ∧ Below W0.heap.size W0 wr)
      case atStart => exact ⟨0, Nat.zero_le _, rfl, rfl, by rw [E0.out]; rfl, Below.refl _ _⟩
      case round =>
        obtain ⟨k, hk, rfl, rfl, rfl, hbr⟩ := hrel
        have g6 := (hbr.cell (p := ⟨w.heap.size, 6, none⟩) hlt0).trans d6
        have g7 := (hbr.cell (p := ⟨w.heap.size, 7, none⟩) hlt0).trans d7
        by_cases hlt : k ≤ T
        · have h1 := HL.out (k + 1) (by rw [ET.out]; omega)
          have EK := Lib.hid (HS.out k)
          rw [HS.out] at h1
          have hik := hit k (by omega)
          generalize Rk.items M N k = x at *
          generalize its c k = y at *
          go_wp2_with fail
          refine (htop _).mono ?_
          rintro e w2 ⟨rfl, hb2⟩
          have hbr2 := below_then hbr hb2
          have k6 := (hbr2.cell (p := ⟨w.heap.size, 6, none⟩) hlt0).trans d6
          have k7 := (hbr2.cell (p := ⟨w.heap.size, 7, none⟩) hlt0).trans d7
          clear g6 g7 hb2
          go_wp2_with fail
          refine (hik _).mono ?_
          rintro e w3 ⟨rfl, hb3⟩
          have hbr3 := below_then hbr2 hb3
          clear k6 k7 hb3
          go_wp2
          go_roundg (T + 1 - (k + 1))
          case measure => omega
          case rel => exact ⟨k + 1, by omega, rfl, by go_num, i64_eq (by rw [EK.out]; omega), hbr3⟩
        · obtain rfl : k = T + 1 := by omega
          go_wp2_with fail
          refine (htop _).mono ?_
          rintro e w2 ⟨rfl, hb2⟩
          go_wp2
          go_ret
          exact Ret.mk (i64_eq (by rw [ES.out, ET.out]; omega)) (below_then hb0 (below_then hbr hb2))
    · have es : ((sz c : Nat) : Int) = c.cap := by unfold sz; rw [if_neg h1, if_neg h2]; omega
      rw [es]
      clear es ho hr
      have e1 : (c.obj == 1) = false := by simpa using h1
      have e2 : (c.obj == 2) = false := by simpa using h2
      unfold cfv
      go_enter Tryd.func34, Tryd.ntmps34
      go_wp2
      go_ret
      exact Ret.mk rfl (below_one _ _)
end Go.Proofs.YtfjpcdcaoefelaaDoor
