/- The document's own answer on the node above one. The document's own answer on how wide a node may be. The document's own answers on the levels of a row: widths, items, the top. The document's own answer on which configs may be. The document's own answer on how great an object is. -/
import Derived.Test.YtmkehailohgebaaDoorProg
import Derived.Test.YtmkehailohgebaaDoorGMath
import Derived.Deep.LoopGhost
import Derived.RegionTactic
import Derived.BigRegion
import Derived.BigQuiet
import Derived.Deep.QuietTactic
import Derived.Test.YtmkehailohgebaaDoorGKit
namespace Go.Proofs.YtmkehailohgebaaDoor
open Go.RowKit
end Go.Proofs.YtmkehailohgebaaDoor

namespace Go.Proofs.YtmkehailohgebaaDoor
open Go.RowKit

set_option maxHeartbeats 400000 in
theorem rWide_any (n : Int) (w : World) :
    Calls Tryd.prog 71 #[.int .i64 n] w (Ret (.bool (decide (2 ≤ n ∧ n ≤ 4))) w) := by
  go_enter Tryd.func71, Tryd.ntmps71
  go_wp2
  all_goals go_ret
  all_goals exact Ret.mk (bool_eq (by rw [Bool.eq_iff_iff]; simp; omega)) (Below.refl _ _)
end Go.Proofs.YtmkehailohgebaaDoor

namespace Go.Proofs.YtmkehailohgebaaDoor
open Go.RowKit

set_option maxHeartbeats 1000000 in
theorem rItems_nat (m n h : Nat) (h1 : m ≤ 32) (h2 : 2 ≤ n) (h4 : n ≤ 4) (hh : h ≤ 4) (w : World) :
    Calls Tryd.prog 28 #[.int .i64 m, .int .i64 n, .int .i64 h] w (Ret (.int .i64 (Rk.items m n h : Nat)) w) := by
  go_enter Tryd.func28, Tryd.ntmps28
  go_wp2
  go_loopg [0, 7] h (fun g mv kv wr => w = wr ∧ ∃ k : Nat, k ≤ h ∧ g = h - k ∧ kv = .int .i64 k ∧ mv = .int .i64 (Rk.items m n k : Nat))
  case atStart => exact ⟨rfl, 0, Nat.zero_le _, rfl, rfl, by rw [Rk.items_zero]⟩
  case round =>
    obtain ⟨rfl, k, hk, rfl, rfl, rfl⟩ := hrel
    by_cases hlt : k < h
    · have q1 := Rk.items_le h1 h2 h4 (show k ≤ 4 by omega)
      have qs := Lib.hid (Rk.items_succ h1 h2 h4 (show k ≤ 4 by omega))
      generalize Rk.items m n k = q at *
      go_wp2
      go_loopg [8, 9] 33 (fun g nv iv wi => w = wi ∧ ∃ j t : Nat, j ≤ 32 ∧ g = 33 - j ∧ nv = .int .i64 j ∧ iv = .int .i64 t ∧ t = j * n ∧ t < q + n)
      case atStart => exact ⟨rfl, 0, 0, by omega, rfl, rfl, rfl, by simp, by omega⟩
      case round =>
        obtain ⟨rfl, j, t, hj, rfl, rfl, rfl, ht, htq⟩ := hrel
        have hjt := Rk.le_mul ht h2
        have HT := Lib.hid ht
        clear ht
        by_cases hin : t < q
        · go_wp2
          go_roundg (33 - (j + 1))
          case measure => omega
          case rel => exact ⟨rfl, j + 1, t + n, by omega, rfl, by go_num, by go_num, Rk.mul_step HT.out, by omega⟩
        · go_wp2
          go_roundg (h - (k + 1))
          case measure => omega
          case rel => exact ⟨rfl, k + 1, by omega, rfl, by go_num, i64_eq (by rw [← qs.out, Rk.ceil_at HT.out (by omega) htq])⟩
    · obtain rfl : k = h := by omega
      go_wp2
      go_ret
      exact Ret.mk rfl (Below.refl _ _)

set_option maxHeartbeats 1000000 in
theorem rTop_nat (m n : Nat) (h1 : m ≤ 32) (h2 : 2 ≤ n) (h4 : n ≤ 4) (w : World) :
    Calls Tryd.prog 40 #[.int .i64 m, .int .i64 n] w (Ret (.int .i64 (Rk.top m n : Nat)) w) := by
  go_enter Tryd.func40, Tryd.ntmps40
  go_wp2
  go_loopg [5] 5 (fun g kv wr => ∃ k : Nat, k ≤ 4 ∧ g = 5 - k ∧ (∀ j, j < k → n < Rk.items m n j) ∧ kv = .int .i64 k ∧ Below w.heap.size w wr)
  case atStart => exact ⟨0, by omega, rfl, fun j hj => by omega, rfl, Below.refl _ _⟩
  case round =>
    obtain ⟨k, hk, rfl, hlo, rfl, hbr⟩ := hrel
    have HLO := Lib.hid hlo
    clear hlo
    by_cases hle : Rk.items m n k ≤ n
    · have et := Lib.hid (Rk.top_first HLO.out hle h1 h2 h4)
      go_wp2_with (go_at_call 28; refine (rItems_nat m n k h1 h2 h4 hk _).mono ?_; rintro e w2 ⟨rfl, hb2⟩)
      go_ret
      exact Ret.mk (i64_eq (by rw [et.out])) (below_then hbr hb2)
    · have hk4 : k < 4 := by
        rcases Nat.lt_or_ge k 4 with g | g
        · exact g
        · obtain rfl : k = 4 := by omega
          exact absurd (Rk.items_four h1 h2 h4) hle
      go_wp2_with (go_at_call 28; refine (rItems_nat m n k h1 h2 h4 hk _).mono ?_; rintro e w2 ⟨rfl, hb2⟩)
      go_roundg (5 - (k + 1))
      case measure => omega
      case rel =>
        refine ⟨k + 1, by omega, rfl, fun j hj => ?_, by go_num, below_then hbr hb2⟩
        by_cases e : j = k
        · subst e; omega
        · exact HLO.out j (by omega)
end Go.Proofs.YtmkehailohgebaaDoor

namespace Go.Proofs.YtmkehailohgebaaDoor
open Go.RowKit Pt

theorem ok_true {c : Cf} (h : Ok c) : true = okB c := (decide_eq_true h).symm
theorem ok_false {c : Cf} (h : ¬ Ok c) : false = okB c := (decide_eq_false h).symm

set_option maxHeartbeats 4000000 in
theorem rMayBe_any (c : Cf) (w : World) : Calls Tryd.prog 35 #[cfv c] w (Ret (.bool (okB c)) w) := by
  unfold cfv
  go_enter Tryd.func35, Tryd.ntmps35
  go_wp2_with (go_at_call 71; refine (rWide_any c.node _).mono ?_; rintro e w1 ⟨rfl, hb1⟩; obtain ⟨hc1, hf1⟩ := bcell hb1)
  all_goals go_ret
  all_goals refine Ret.mk (bool_eq (Bool.eq_iff_iff.2 ?_)) (by first | exact below_one _ _ | exact below_b1 (by assumption))
  all_goals (try (simp only [beq_iff_eq, beq_eq_false_iff_ne, bne_iff_ne, bne_eq_false_iff_eq] at *))
  all_goals (unfold okB; simp only [decide_eq_true_eq, Bool.false_eq_true, false_iff]; unfold Ok ObjOk IndOk RestOk; omega)
end Go.Proofs.YtmkehailohgebaaDoor

namespace Go.Proofs.YtmkehailohgebaaDoor
open Go.RowKit Pt

set_option maxHeartbeats 2000000 in
theorem rGreat_any (c : Cf) (h : Ok c) (w : World) : Calls Tryd.prog 20 #[cfv c] w (Ret (.int .i64 (sz c : Nat)) w) := by
  obtain ⟨ho, _, hr⟩ := h
  unfold RestOk at hr
  by_cases h1 : c.obj = 1
  · have hb : 1 ≤ c.bits ∧ c.bits ≤ 6 := by unfold ObjOk at ho; omega
    obtain ⟨b, hb', b1, b6⟩ : ∃ b : Nat, c.bits = b ∧ 1 ≤ b ∧ b ≤ 6 := ⟨c.bits.toNat, by omega, by omega, by omega⟩
    have es : sz c = 2 ^ (b + 1) := by unfold sz; rw [if_pos h1, hb']; rfl
    have ES := Lib.hid es
    have HPW := Lib.hid (fun k (hk : k ≤ 6) => pow_small ⟨k, by omega⟩)
    clear ho hr hb es
    unfold cfv
    rw [h1, hb']
    go_enter Tryd.func20, Tryd.ntmps20
    go_wp2
    go_loopg [3, 4] b (fun g nv iv wr => wr = w.alloc (.cells #[.int .u8 1, .int .i64 c.inst, .int .i64 c.thr, .int .u8 c.kind, .int .i64 c.str, .int .i64 b, .int .i64 c.cap, .int .i64 c.node, .int .i64 c.bat, .int .i64 c.chunk, .int .u64 c.lim, .int .u64 c.most] 30) ∧ ∃ k : Nat, k ≤ b ∧ g = b - k ∧ iv = .int .i64 k ∧ nv = .int .i64 ((2 ^ (k + 1) : Nat) : Int))
    case atStart => exact ⟨rfl, 0, Nat.zero_le _, rfl, rfl, rfl⟩
    case round =>
      obtain ⟨rfl, k, hk, rfl, rfl, rfl⟩ := hrel
      by_cases hlt : k < b
      · have hp := HPW.out k (by omega)
        have EP : Hid (2 ^ (k + 1 + 1) = 2 * 2 ^ (k + 1)) := Lib.hid (by rw [Nat.pow_succ 2 (k + 1), Nat.mul_comm])
        generalize 2 ^ (k + 1) = x at *
        go_wp2
        go_roundg (b - (k + 1))
        case measure => omega
        case rel => exact ⟨rfl, k + 1, by omega, rfl, by go_num, i64_eq (by rw [EP.out]; omega)⟩
      · obtain rfl : k = b := by omega
        go_wp2
        go_ret
        exact Ret.mk (i64_eq (by rw [ES.out])) (below_one _ _)
  · by_cases h2 : c.obj = 2
    · have hb : 2 ≤ c.node ∧ c.node ≤ 4 := by unfold ObjOk at ho; omega
      obtain ⟨N, hN, N2, N4⟩ : ∃ N : Nat, c.node = N ∧ 2 ≤ N ∧ N ≤ 4 := ⟨c.node.toNat, by omega, by omega, by omega⟩
      obtain ⟨M, hM, M1, M32⟩ : ∃ M : Nat, c.cap = M ∧ 1 ≤ M ∧ M ≤ 32 := ⟨c.cap.toNat, by omega, by omega, by omega⟩
      have es : sz c = 1 + its c (lvs c) := by unfold sz; rw [if_neg h1, if_pos h2]
      have hl : ∀ k, k ≤ lvs c → its c k ≤ 63 := fun k hk => its_le (c := c) (by omega) hb hk
      have eT : lvs c = Rk.top M N + 1 := by unfold lvs; rw [hM, hN]; rfl
      have hs : ∀ k, its c (k + 1) = its c k + Rk.items M N k := fun k => by rw [its_succ, hM, hN]; rfl
      have hT := Rk.top_le M N
      have e0 : its c 0 = 0 := rfl
      have HL := Lib.hid hl
      have HS := Lib.hid hs
      have ES := Lib.hid es
      have ET := Lib.hid eT
      have E0 := Lib.hid e0
      have htop := fun W => rTop_nat M N M32 N2 N4 W
      have hit := fun k (hk : k ≤ 4) W => rItems_nat M N k M32 N2 N4 hk W
      clear ho hr hb es hl eT hs e0
      generalize Rk.top M N = T at *
      unfold cfv
      rw [h2, hM, hN]
      go_enter Tryd.func20, Tryd.ntmps20
      go_wp2
      obtain ⟨W0, hW0⟩ : ∃ W0, W0 = w.alloc (.cells #[.int .u8 2, .int .i64 c.inst, .int .i64 c.thr, .int .u8 c.kind, .int .i64 c.str, .int .i64 c.bits, .int .i64 M, .int .i64 N, .int .i64 c.bat, .int .i64 c.chunk, .int .u64 c.lim, .int .u64 c.most] 30) := ⟨_, rfl⟩
      have d6 : W0.cell? ⟨w.heap.size, 6, none⟩ = some (.int .i64 M) := by rw [hW0]; simp [go_sem]
      have d7 : W0.cell? ⟨w.heap.size, 7, none⟩ = some (.int .i64 N) := by rw [hW0]; simp [go_sem]
      have hb0 : Below w.heap.size w W0 := by rw [hW0]; exact below_one _ _
      have hlt0 := World.block_lt_of_cell? _ _ d6
      rw [← hW0]
      clear hW0
      go_loopg [5, 6] (T + 1) (fun g nv hv wr => ∃ k : Nat, k ≤ T + 1 ∧ g = T + 1 - k ∧ hv = .int .i64 k ∧ nv = .int .i64 ((1 + its c k : Nat) : Int) ∧ Below W0.heap.size W0 wr)
      case atStart => exact ⟨0, Nat.zero_le _, rfl, rfl, by rw [E0.out]; rfl, Below.refl _ _⟩
      case round =>
        obtain ⟨k, hk, rfl, rfl, rfl, hbr⟩ := hrel
        have g6 := (hbr.cell (p := ⟨w.heap.size, 6, none⟩) hlt0).trans d6
        have g7 := (hbr.cell (p := ⟨w.heap.size, 7, none⟩) hlt0).trans d7
        by_cases hlt : k ≤ T
        · have h1 := HL.out (k + 1) (by rw [ET.out]; omega)
          have EK := Lib.hid (HS.out k)
          rw [HS.out] at h1
          have hik := hit k (by omega)
          generalize Rk.items M N k = x at *
          generalize its c k = y at *
          go_wp2_with fail
          refine (htop _).mono ?_
          rintro e w2 ⟨rfl, hb2⟩
          have hbr2 := below_then hbr hb2
          have k6 := (hbr2.cell (p := ⟨w.heap.size, 6, none⟩) hlt0).trans d6
          have k7 := (hbr2.cell (p := ⟨w.heap.size, 7, none⟩) hlt0).trans d7
          clear g6 g7 hb2
          go_wp2_with fail
          refine (hik _).mono ?_
          rintro e w3 ⟨rfl, hb3⟩
          have hbr3 := below_then hbr2 hb3
          clear k6 k7 hb3
          go_wp2
          go_roundg (T + 1 - (k + 1))
          case measure => omega
          case rel => exact ⟨k + 1, by omega, rfl, by go_num, i64_eq (by rw [EK.out]; omega), hbr3⟩
        · obtain rfl : k = T + 1 := by omega
          go_wp2_with fail
          refine (htop _).mono ?_
          rintro e w2 ⟨rfl, hb2⟩
          go_wp2
          go_ret
          exact Ret.mk (i64_eq (by rw [ES.out, ET.out]; omega)) (below_then hb0 (below_then hbr hb2))
    · have es : ((sz c : Nat) : Int) = c.cap := by unfold sz; rw [if_neg h1, if_neg h2]; omega
      rw [es]
      clear es ho hr
      have e1 : (c.obj == 1) = false := by simpa using h1
      have e2 : (c.obj == 2) = false := by simpa using h2
      unfold cfv
      go_enter Tryd.func20, Tryd.ntmps20
      go_wp2
      go_ret
      exact Ret.mk rfl (below_one _ _)
end Go.Proofs.YtmkehailohgebaaDoor
