/- The document's own answers on operations. The document's own answer on which operations fit. The document's own answer on what a check says. -/
import Derived.Test.YtljhcegkekdjgaaDoorGOld
import Derived.Test.YtljhcegkekdjgaaDoorGMath
import Derived.Deep.LoopGhost
namespace Go.Proofs.YtljhcegkekdjgaaDoor
open Go.RowKit Pt Opn

set_option maxHeartbeats 400000 in
theorem rObject_any (k : Nat) (w : World) : Calls Tryd.prog 66 #[.int .u8 k] w (Ret (.int .u8 (objAt k : Nat)) w) := by
  obtain ⟨z, hz⟩ : ∃ z, objAt k = z := ⟨_, rfl⟩
  rw [hz]
  unfold objAt at hz
  go_enter Tryd.func66, Tryd.ntmps66
  go_wp2
  all_goals go_ret
  all_goals refine Ret.mk ?_ (Below.refl _ _)
  all_goals (refine congrArg (Value.int .u8) ?_)
  all_goals grind

set_option maxHeartbeats 1000000 in
theorem rPrefix_any (n a b : Nat) (hn : n ≤ 6) (w : World) : Calls Tryd.prog 86 #[.int .i64 n, .int .u32 a, .int .u32 b] w (Ret (.bool (decide (Prefix n a b))) w) := by
  have hw : IntKind.u32.wrap (n : Int) = n := by rw [IntKind.wrap_u32]; omega
  by_cases hb : b ≤ n
  · have hb' : ¬ (n : Int) < (b : Int) := by omega
    go_enter Tryd.func86, Tryd.ntmps86
    go_wp2
    go_loopg [7, 8] b (fun g nv iv wr => w = wr ∧ ∃ i : Nat, i ≤ b ∧ g = b - i ∧ nv = .int .u32 (2 ^ i : Nat) ∧ iv = .int .u32 i)
    case atStart => exact ⟨rfl, 0, Nat.zero_le _, rfl, rfl, rfl⟩
    case round =>
      obtain ⟨rfl, i, hi, rfl, rfl, rfl⟩ := hrel
      by_cases hlt : i < b
      · have hq : ∀ i : Fin 7, 2 ^ i.val ≤ 64 := by decide
        have hq := hq ⟨i, by omega⟩
        simp only at hq
        obtain ⟨q, hqe⟩ : ∃ q, 2 ^ i = q := ⟨_, rfl⟩
        rw [hqe] at hq
        have HE := Lib.hid hqe
        rw [hqe]
        clear hqe
        have hlt' : (i : Int) < (b : Int) := by omega
        go_wp2
        go_roundg (b - (i + 1))
        case measure => omega
        case rel => exact ⟨rfl, i + 1, by omega, rfl, by rw [Nat.pow_succ, HE.out]; refine congrArg (Value.int .u32) ?_; omega, by go_num⟩
      · obtain rfl : i = b := by omega
        have hq : ∀ i : Fin 7, 2 ^ i.val ≤ 64 := by decide
        have hq := hq ⟨i, by omega⟩
        simp only at hq
        obtain ⟨q, hqe⟩ : ∃ q, 2 ^ i = q := ⟨_, rfl⟩
        have HE := Lib.hid hqe
        rw [hqe] at hq ⊢
        clear hqe
        have hlt' : ¬ (i : Int) < (i : Int) := by omega
        go_wp2
        go_ret
        exact Ret.mk (bool_eq (by rw [Bool.eq_iff_iff]; simp; unfold Prefix; rw [HE.out]; omega)) (Below.refl _ _)
  · have hb' : (n : Int) < (b : Int) := by omega
    have hX : decide (Prefix n a b) = false := decide_eq_false (by unfold Prefix; omega)
    rw [hX]
    go_enter Tryd.func86, Tryd.ntmps86
    go_wp2
    go_ret
    exact Ret.mk rfl (Below.refl _ _)

set_option maxHeartbeats 1000000 in
theorem rNames_any (o : O) (ho : o.a < 4294967296) (w : World) : Calls Tryd.prog 99 #[opv o] w (Ret (.agg #[.int .u32 (o.a % 65536 : Nat), .int .u32 (o.a / 65536 : Nat), .int .u32 o.b]) w) := by
  unfold opv
  go_enter Tryd.func99, Tryd.ntmps99
  go_wp2
  have e1 : ((o.a % 65536 : Nat) : Int) = (o.a : Int) % 65536 := by omega
  have e2 : ((o.a / 65536 : Nat) : Int) = (o.a : Int) / 65536 := by omega
  rw [e1, e2]
  refine bodyPost_ret (v := .agg #[.int .u32 ((o.a : Int) % 65536), .int .u32 ((o.a : Int) / 65536), .int .u32 o.b]) ?_ rfl ⟨rfl, ?_⟩
  · simp [results, Tryd.results99, go_sem]
  · exact below_two _ _ _

set_option maxHeartbeats 1000000 in
theorem rPath_any (o : O) (ho : o.a < 4294967296) (w : World) : Calls Tryd.prog 87 #[opv o] w (Ret (.bool (decide (Path o.a o.b))) w) := by
  have hN := rNames_any o ho
  obtain ⟨d, hd⟩ : ∃ d, o.a / 65536 = d := ⟨_, rfl⟩
  obtain ⟨m, hm⟩ : ∃ m, o.a % 65536 = m := ⟨_, rfl⟩
  have hP : decide (Path o.a o.b) = decide (m ≠ 0 ∧ o.b ≤ 65535 ∧ (d ≠ 0 ∨ o.b = 0)) := by rw [decide_eq_decide]; unfold Path; rw [hd, hm]
  rw [hP]
  rw [hd, hm] at hN
  clear hP hd hm ho
  unfold opv at hN ⊢
  go_enter Tryd.func87, Tryd.ntmps87
  go_wp2_with (go_at_call 99; refine (hN _).mono ?_; rintro e w1 ⟨rfl, hb1⟩; obtain ⟨hc1, hf1⟩ := bcell hb1)
  all_goals go_ret
  all_goals refine Ret.mk (bool_eq ?_) (by first | exact below_then (below_one _ _) (below_then hb1 (below_one _ _)) | exact below_then (below_two _ _ _) hb1 | exact below_then (below_one _ _) hb1)
  all_goals (clear hN hc1 hf1 hb1)
  all_goals (rw [Bool.eq_iff_iff]; grind)
end Go.Proofs.YtljhcegkekdjgaaDoor

namespace Go.Proofs.YtljhcegkekdjgaaDoor
open Go.RowKit Pt Opn

theorem rfits_iff {n : Nat} {k a b c : Nat} : Fits n ⟨k, a, b, c⟩ ↔ ((k = 1 ∧ Prefix n a b ∧ c ≤ 2147483647) ∨ (k = 2 ∧ Prefix n a b ∧ c = 0) ∨ (k = 3 ∧ a < 2 ^ n ∧ b = 0 ∧ c = 0) ∨
  ((k = 4 ∨ k = 8) ∧ a ≤ 2147483647 ∧ b ≤ 2147483647 ∧ c = 0) ∨ ((k = 5 ∨ k = 6 ∨ k = 7) ∧ a ≤ 2147483647 ∧ b = 0 ∧ c = 0) ∨
  (k = 9 ∧ a ≤ 65535 ∧ b ≤ 65535 ∧ (c = 1 ∨ c = 2)) ∨ (k = 10 ∧ a ≤ 65535 ∧ b ≤ 65535 ∧ c = 0) ∨
  (k = 11 ∧ 1 ≤ a ∧ a ≤ 65535 ∧ 1 ≤ b ∧ b ≤ 65535 ∧ c = 0) ∨ (k = 12 ∧ Path a b ∧ c ≤ 2147483647) ∨ ((k = 13 ∨ k = 14) ∧ Path a b ∧ c = 0)) := Iff.rfl
theorem prefix_whole {n a : Nat} : Prefix n a n ↔ a < 2 ^ n := by unfold Prefix; simp

set_option maxRecDepth 10000 in
set_option maxHeartbeats 16000000 in
theorem rFits_route (c : Cf) (k a b v : Nat) (h : 0 ≤ c.bits ∧ c.bits ≤ 6) (ha : a < 4294967296) (hk : k = 1 ∨ k = 2 ∨ k = 3) (w : World) :
    Calls Tryd.prog 67 #[cfv c, .agg #[.int .u8 k, .int .u32 a, .int .u32 b, .int .u32 v]] w (Ret (.bool (decide (Fits c.bits.toNat ⟨k, a, b, v⟩))) w) := by
  obtain ⟨n, hn⟩ : ∃ n : Nat, c.bits = n := ⟨c.bits.toNat, by omega⟩
  unfold cfv
  rw [hn] at h ⊢
  rw [Int.toNat_natCast]
  have hX := rPrefix_any n a b (by omega)
  have hW := rPrefix_any n a n (by omega)
  have hp : ∀ (z : Int) (k' : Nat), z = (k' : Int) → ∀ w, Calls Tryd.prog 87 #[.agg #[.int .u8 z, .int .u32 a, .int .u32 b, .int .u32 v]] w (Ret (.bool (decide (Path a b))) w) := fun z k' e w => by
    rw [e]
    exact rPath_any ⟨k', a, b, v⟩ ha w
  obtain ⟨X, hY⟩ : ∃ X, decide (Fits n ⟨k, a, b, v⟩) = X := ⟨_, rfl⟩
  rw [hY]
  have hF := @rfits_iff n k a b v
  rw [← decide_eq_true_iff (p := Fits n _), hY, ← prefix_whole (n := n) (a := a)] at hF
  clear hY
  have HX := Lib.hid hX
  have HW := Lib.hid hW
  have HP := Lib.hid hp
  have HF := Lib.hid hF
  clear hX hW hp hF
  rcases hk with rfl | rfl | rfl
  · go_enter Tryd.func67, Tryd.ntmps67
    go_wp2_with fail
    refine (HX.out _).mono ?_
    rintro e w1 ⟨rfl, hb1⟩
    obtain ⟨hc1, hf1⟩ := bcell hb1
    go_wp2
    all_goals go_ret
    all_goals refine Ret.mk (bool_eq ?_) (by first | exact below_then (below_two _ _ _) hb1 | exact below_two _ _ _)
    all_goals (have hF := HF.out; first | clear HX HW HP HF hc1 hf1 hb1 | clear HX HW HP HF)
    all_goals (rw [Bool.eq_iff_iff, hF]; grind)
  · go_enter Tryd.func67, Tryd.ntmps67
    go_wp2_with fail
    refine (HX.out _).mono ?_
    rintro e w1 ⟨rfl, hb1⟩
    obtain ⟨hc1, hf1⟩ := bcell hb1
    go_wp2
    all_goals go_ret
    all_goals refine Ret.mk (bool_eq ?_) (by first | exact below_then (below_two _ _ _) hb1 | exact below_two _ _ _)
    all_goals (have hF := HF.out; first | clear HX HW HP HF hc1 hf1 hb1 | clear HX HW HP HF)
    all_goals (rw [Bool.eq_iff_iff, hF]; grind)
  · go_enter Tryd.func67, Tryd.ntmps67
    go_wp2_with fail
    refine (HW.out _).mono ?_
    rintro e w1 ⟨rfl, hb1⟩
    obtain ⟨hc1, hf1⟩ := bcell hb1
    go_wp2
    all_goals go_ret
    all_goals refine Ret.mk (bool_eq ?_) (by first | exact below_then (below_two _ _ _) hb1 | exact below_two _ _ _)
    all_goals (have hF := HF.out; first | clear HX HW HP HF hc1 hf1 hb1 | clear HX HW HP HF)
    all_goals (rw [Bool.eq_iff_iff, hF]; grind)

set_option maxRecDepth 10000 in
set_option maxHeartbeats 16000000 in
theorem rFits_index (c : Cf) (k a b v : Nat) (h : 0 ≤ c.bits ∧ c.bits ≤ 6) (ha : a < 4294967296) (hk : k = 4 ∨ k = 5 ∨ k = 6 ∨ k = 7 ∨ k = 8) (w : World) :
    Calls Tryd.prog 67 #[cfv c, .agg #[.int .u8 k, .int .u32 a, .int .u32 b, .int .u32 v]] w (Ret (.bool (decide (Fits c.bits.toNat ⟨k, a, b, v⟩))) w) := by
  obtain ⟨n, hn⟩ : ∃ n : Nat, c.bits = n := ⟨c.bits.toNat, by omega⟩
  unfold cfv
  rw [hn] at h ⊢
  rw [Int.toNat_natCast]
  have hX := rPrefix_any n a b (by omega)
  have hW := rPrefix_any n a n (by omega)
  have hp : ∀ (z : Int) (k' : Nat), z = (k' : Int) → ∀ w, Calls Tryd.prog 87 #[.agg #[.int .u8 z, .int .u32 a, .int .u32 b, .int .u32 v]] w (Ret (.bool (decide (Path a b))) w) := fun z k' e w => by
    rw [e]
    exact rPath_any ⟨k', a, b, v⟩ ha w
  obtain ⟨X, hY⟩ : ∃ X, decide (Fits n ⟨k, a, b, v⟩) = X := ⟨_, rfl⟩
  rw [hY]
  have hF := @rfits_iff n k a b v
  rw [← decide_eq_true_iff (p := Fits n _), hY, ← prefix_whole (n := n) (a := a)] at hF
  clear hY
  have HX := Lib.hid hX
  have HW := Lib.hid hW
  have HP := Lib.hid hp
  have HF := Lib.hid hF
  clear hX hW hp hF
  rcases hk with rfl | rfl | rfl | rfl | rfl
  · go_enter Tryd.func67, Tryd.ntmps67
    go_wp2
    all_goals go_ret
    all_goals refine Ret.mk (bool_eq ?_) (by first | exact below_then (below_two _ _ _) hb1 | exact below_two _ _ _)
    all_goals (have hF := HF.out; first | clear HX HW HP HF hc1 hf1 hb1 | clear HX HW HP HF)
    all_goals (rw [Bool.eq_iff_iff, hF]; grind)
  · go_enter Tryd.func67, Tryd.ntmps67
    go_wp2
    all_goals go_ret
    all_goals refine Ret.mk (bool_eq ?_) (by first | exact below_then (below_two _ _ _) hb1 | exact below_two _ _ _)
    all_goals (have hF := HF.out; first | clear HX HW HP HF hc1 hf1 hb1 | clear HX HW HP HF)
    all_goals (rw [Bool.eq_iff_iff, hF]; grind)
  · go_enter Tryd.func67, Tryd.ntmps67
    go_wp2
    all_goals go_ret
    all_goals refine Ret.mk (bool_eq ?_) (by first | exact below_then (below_two _ _ _) hb1 | exact below_two _ _ _)
    all_goals (have hF := HF.out; first | clear HX HW HP HF hc1 hf1 hb1 | clear HX HW HP HF)
    all_goals (rw [Bool.eq_iff_iff, hF]; grind)
  · go_enter Tryd.func67, Tryd.ntmps67
    go_wp2
    all_goals go_ret
    all_goals refine Ret.mk (bool_eq ?_) (by first | exact below_then (below_two _ _ _) hb1 | exact below_two _ _ _)
    all_goals (have hF := HF.out; first | clear HX HW HP HF hc1 hf1 hb1 | clear HX HW HP HF)
    all_goals (rw [Bool.eq_iff_iff, hF]; grind)
  · go_enter Tryd.func67, Tryd.ntmps67
    go_wp2
    all_goals go_ret
    all_goals refine Ret.mk (bool_eq ?_) (by first | exact below_then (below_two _ _ _) hb1 | exact below_two _ _ _)
    all_goals (have hF := HF.out; first | clear HX HW HP HF hc1 hf1 hb1 | clear HX HW HP HF)
    all_goals (rw [Bool.eq_iff_iff, hF]; grind)

set_option maxRecDepth 10000 in
set_option maxHeartbeats 16000000 in
theorem rFits_access (c : Cf) (k a b v : Nat) (h : 0 ≤ c.bits ∧ c.bits ≤ 6) (ha : a < 4294967296) (hk : k = 9 ∨ k = 10 ∨ k = 11) (w : World) :
    Calls Tryd.prog 67 #[cfv c, .agg #[.int .u8 k, .int .u32 a, .int .u32 b, .int .u32 v]] w (Ret (.bool (decide (Fits c.bits.toNat ⟨k, a, b, v⟩))) w) := by
  obtain ⟨n, hn⟩ : ∃ n : Nat, c.bits = n := ⟨c.bits.toNat, by omega⟩
  unfold cfv
  rw [hn] at h ⊢
  rw [Int.toNat_natCast]
  have hX := rPrefix_any n a b (by omega)
  have hW := rPrefix_any n a n (by omega)
  have hp : ∀ (z : Int) (k' : Nat), z = (k' : Int) → ∀ w, Calls Tryd.prog 87 #[.agg #[.int .u8 z, .int .u32 a, .int .u32 b, .int .u32 v]] w (Ret (.bool (decide (Path a b))) w) := fun z k' e w => by
    rw [e]
    exact rPath_any ⟨k', a, b, v⟩ ha w
  obtain ⟨X, hY⟩ : ∃ X, decide (Fits n ⟨k, a, b, v⟩) = X := ⟨_, rfl⟩
  rw [hY]
  have hF := @rfits_iff n k a b v
  rw [← decide_eq_true_iff (p := Fits n _), hY, ← prefix_whole (n := n) (a := a)] at hF
  clear hY
  have HX := Lib.hid hX
  have HW := Lib.hid hW
  have HP := Lib.hid hp
  have HF := Lib.hid hF
  clear hX hW hp hF
  rcases hk with rfl | rfl | rfl
  · go_enter Tryd.func67, Tryd.ntmps67
    go_wp2
    all_goals go_ret
    all_goals refine Ret.mk (bool_eq ?_) (by first | exact below_then (below_two _ _ _) hb1 | exact below_two _ _ _)
    all_goals (have hF := HF.out; first | clear HX HW HP HF hc1 hf1 hb1 | clear HX HW HP HF)
    all_goals (rw [Bool.eq_iff_iff, hF]; grind)
  · go_enter Tryd.func67, Tryd.ntmps67
    go_wp2
    all_goals go_ret
    all_goals refine Ret.mk (bool_eq ?_) (by first | exact below_then (below_two _ _ _) hb1 | exact below_two _ _ _)
    all_goals (have hF := HF.out; first | clear HX HW HP HF hc1 hf1 hb1 | clear HX HW HP HF)
    all_goals (rw [Bool.eq_iff_iff, hF]; grind)
  · go_enter Tryd.func67, Tryd.ntmps67
    go_wp2
    all_goals go_ret
    all_goals refine Ret.mk (bool_eq ?_) (by first | exact below_then (below_two _ _ _) hb1 | exact below_two _ _ _)
    all_goals (have hF := HF.out; first | clear HX HW HP HF hc1 hf1 hb1 | clear HX HW HP HF)
    all_goals (rw [Bool.eq_iff_iff, hF]; grind)

set_option maxRecDepth 10000 in
set_option maxHeartbeats 16000000 in
theorem rFits_config (c : Cf) (k a b v : Nat) (h : 0 ≤ c.bits ∧ c.bits ≤ 6) (ha : a < 4294967296) (hk : k = 12 ∨ k = 13 ∨ k = 14) (w : World) :
    Calls Tryd.prog 67 #[cfv c, .agg #[.int .u8 k, .int .u32 a, .int .u32 b, .int .u32 v]] w (Ret (.bool (decide (Fits c.bits.toNat ⟨k, a, b, v⟩))) w) := by
  obtain ⟨n, hn⟩ : ∃ n : Nat, c.bits = n := ⟨c.bits.toNat, by omega⟩
  unfold cfv
  rw [hn] at h ⊢
  rw [Int.toNat_natCast]
  have hX := rPrefix_any n a b (by omega)
  have hW := rPrefix_any n a n (by omega)
  have hp : ∀ (z : Int) (k' : Nat), z = (k' : Int) → ∀ w, Calls Tryd.prog 87 #[.agg #[.int .u8 z, .int .u32 a, .int .u32 b, .int .u32 v]] w (Ret (.bool (decide (Path a b))) w) := fun z k' e w => by
    rw [e]
    exact rPath_any ⟨k', a, b, v⟩ ha w
  obtain ⟨X, hY⟩ : ∃ X, decide (Fits n ⟨k, a, b, v⟩) = X := ⟨_, rfl⟩
  rw [hY]
  have hF := @rfits_iff n k a b v
  rw [← decide_eq_true_iff (p := Fits n _), hY, ← prefix_whole (n := n) (a := a)] at hF
  clear hY
  have HX := Lib.hid hX
  have HW := Lib.hid hW
  have HP := Lib.hid hp
  have HF := Lib.hid hF
  clear hX hW hp hF
  rcases hk with rfl | rfl | rfl
  · go_enter Tryd.func67, Tryd.ntmps67
    go_wp2_with fail
    refine (HP.out _ 12 rfl _).mono ?_
    rintro e w1 ⟨rfl, hb1⟩
    obtain ⟨hc1, hf1⟩ := bcell hb1
    go_wp2
    all_goals go_ret
    all_goals refine Ret.mk (bool_eq ?_) (by first | exact below_then (below_two _ _ _) hb1 | exact below_two _ _ _)
    all_goals (have hF := HF.out; first | clear HX HW HP HF hc1 hf1 hb1 | clear HX HW HP HF)
    all_goals (rw [Bool.eq_iff_iff, hF]; grind)
  · go_enter Tryd.func67, Tryd.ntmps67
    go_wp2_with fail
    refine (HP.out _ 13 rfl _).mono ?_
    rintro e w1 ⟨rfl, hb1⟩
    obtain ⟨hc1, hf1⟩ := bcell hb1
    go_wp2
    all_goals go_ret
    all_goals refine Ret.mk (bool_eq ?_) (by first | exact below_then (below_two _ _ _) hb1 | exact below_two _ _ _)
    all_goals (have hF := HF.out; first | clear HX HW HP HF hc1 hf1 hb1 | clear HX HW HP HF)
    all_goals (rw [Bool.eq_iff_iff, hF]; grind)
  · go_enter Tryd.func67, Tryd.ntmps67
    go_wp2_with fail
    refine (HP.out _ 14 rfl _).mono ?_
    rintro e w1 ⟨rfl, hb1⟩
    obtain ⟨hc1, hf1⟩ := bcell hb1
    go_wp2
    all_goals go_ret
    all_goals refine Ret.mk (bool_eq ?_) (by first | exact below_then (below_two _ _ _) hb1 | exact below_two _ _ _)
    all_goals (have hF := HF.out; first | clear HX HW HP HF hc1 hf1 hb1 | clear HX HW HP HF)
    all_goals (rw [Bool.eq_iff_iff, hF]; grind)
end Go.Proofs.YtljhcegkekdjgaaDoor

namespace Go.Proofs.YtljhcegkekdjgaaDoor
open Go.RowKit Pt Opn

theorem rOpFits_any (c : Cf) (o : O) (ho : Wf o) (h : Ok c) (hk : 1 ≤ o.k ∧ o.k ≤ 14) (w : World) : Calls Tryd.prog 67 #[cfv c, opv o] w (Ret (.bool (decide (Fits c.bits.toNat o))) w) := by
  obtain ⟨k, a, b, v⟩ := o
  have hb : 0 ≤ c.bits ∧ c.bits ≤ 6 := by have := h.1; unfold ObjOk at this; omega
  have ha : a < 4294967296 := ho.2.1
  simp only at hk
  by_cases h1 : k = 1 ∨ k = 2 ∨ k = 3
  · exact rFits_route c k a b v hb ha h1 w
  by_cases h3 : k = 4 ∨ k = 5 ∨ k = 6 ∨ k = 7 ∨ k = 8
  · exact rFits_index c k a b v hb ha h3 w
  by_cases h4 : k = 9 ∨ k = 10 ∨ k = 11
  · exact rFits_access c k a b v hb ha h4 w
  exact rFits_config c k a b v hb ha (by omega) w

theorem rObj_kind {c : Cf} (h : Ok c) {k : Nat} (e : (objAt k : Int) = c.obj) : 1 ≤ k ∧ k ≤ 14 := by
  have h1 : 1 ≤ c.obj := by have := h.1; unfold ObjOk at this; omega
  unfold objAt at e
  split at e
  · omega
  · refine ⟨by omega, ?_⟩
    by_cases h2 : k ≤ 14
    · exact h2
    · rw [if_neg (by omega), if_neg (by omega), if_neg (by omega), if_neg h2] at e; omega

set_option maxHeartbeats 4000000 in
theorem rCheck_op (c : Cf) (o : O) (ho : Wf o) (w : World) : Calls Tryd.prog 48 #[cfv c, opv o] w (Ret (.int .i64 (chk c o)) w) := by
  have HO := Lib.hid ho
  have hC := rMayBe_any c
  have hk := ho.1
  clear ho
  cases hok : okB c with
  | false =>
    have hx : chk c o = 40 := by unfold chk; rw [if_pos hok]
    rw [hx]
    rw [hok] at hC
    unfold cfv at *
    unfold opv
    go_enter Tryd.func48, Tryd.ntmps48
    go_wp2_with (go_at_call 26; refine (hC _).mono ?_; rintro e w1 ⟨rfl, hb1⟩; obtain ⟨hc1, hf1⟩ := bcell hb1)
    go_ret
    exact Ret.mk rfl (below_then (below_two _ _ _) hb1)
  | true =>
    rw [hok] at hC
    have hoc := ok_of hok
    by_cases hob : (objAt o.k : Int) = c.obj
    · have hkk := rObj_kind hoc hob
      have hfi := rOpFits_any c o HO.out hoc hkk
      have hob1 : ((objAt o.k : Int) != c.obj) = false := by simpa using hob
      have hob2 : ((objAt o.k : Int) == c.obj) = true := by simpa using hob
      cases hft : decide (Fits c.bits.toNat o) with
      | true =>
        have hx : chk c o = 0 := by unfold chk; rw [if_neg (by rw [hok]; simp), if_neg (by simp [hob]), if_pos (of_decide_eq_true hft)]
        rw [hx]
        rw [hft] at hfi
        clear hft hx
        unfold cfv at *
        unfold opv at *
        go_enter Tryd.func48, Tryd.ntmps48
        go_wp2_with (go_at_call 26; refine (hC _).mono ?_; rintro e w1 ⟨rfl, hb1⟩; obtain ⟨hc1, hf1⟩ := bcell hb1)
        have k0 := cell_regrown (show w1.cell? ⟨w.heap.size, 0, none⟩ = some (.int .u8 c.obj) from (hc1 _ _ (by simp; omega)).trans (by simp [go_sem]))
        have k1 := cell_regrown (show w1.cell? ⟨w.heap.size + 1, 0, none⟩ = some (.int .u8 o.k) from (hc1 _ _ (by simp)).trans (by simp [go_sem]))
        refine wp_region_quiet_below (by kernel_rfl) (by kernel_rfl) ?_
        repeat (go_big_quiet_step (exact Calls.regrown_of (rObject_any o.k _)))
        refine wpQuiet_nil ?_
        intro W3 hw'
        obtain ⟨⟨dq, osq⟩, hw''⟩ := hw'
        have hb3 := below_regrown w1 dq osq
        rw [← hw''] at hb3
        replace hb1 := below_then hb1 hb3
        clear hw'' k0 k1 hc1 hf1 hb3
        obtain ⟨hc1, hf1⟩ := bcell hb1
        go_wp2_with (go_at_call 67; refine (hfi _).mono ?_; rintro e w2 ⟨rfl, hb2⟩; replace hb1 := below_then hb1 hb2; clear hc1 hf1 hb2; obtain ⟨hc1, hf1⟩ := bcell hb1)
        go_ret
        exact Ret.mk rfl (below_then (below_two _ _ _) hb1)
      | false =>
        have hx : chk c o = 10 := by unfold chk; rw [if_neg (by rw [hok]; simp), if_neg (by simp [hob]), if_neg (of_decide_eq_false hft)]
        rw [hx]
        rw [hft] at hfi
        clear hft hx
        unfold cfv at *
        unfold opv at *
        go_enter Tryd.func48, Tryd.ntmps48
        go_wp2_with (go_at_call 26; refine (hC _).mono ?_; rintro e w1 ⟨rfl, hb1⟩; obtain ⟨hc1, hf1⟩ := bcell hb1)
        have k0 := cell_regrown (show w1.cell? ⟨w.heap.size, 0, none⟩ = some (.int .u8 c.obj) from (hc1 _ _ (by simp; omega)).trans (by simp [go_sem]))
        have k1 := cell_regrown (show w1.cell? ⟨w.heap.size + 1, 0, none⟩ = some (.int .u8 o.k) from (hc1 _ _ (by simp)).trans (by simp [go_sem]))
        refine wp_region_quiet_below (by kernel_rfl) (by kernel_rfl) ?_
        repeat (go_big_quiet_step (exact Calls.regrown_of (rObject_any o.k _)))
        refine wpQuiet_nil ?_
        intro W3 hw'
        obtain ⟨⟨dq, osq⟩, hw''⟩ := hw'
        have hb3 := below_regrown w1 dq osq
        rw [← hw''] at hb3
        replace hb1 := below_then hb1 hb3
        clear hw'' k0 k1 hc1 hf1 hb3
        obtain ⟨hc1, hf1⟩ := bcell hb1
        go_wp2_with (go_at_call 67; refine (hfi _).mono ?_; rintro e w2 ⟨rfl, hb2⟩; replace hb1 := below_then hb1 hb2; clear hc1 hf1 hb2; obtain ⟨hc1, hf1⟩ := bcell hb1)
        go_ret
        exact Ret.mk rfl (below_then (below_two _ _ _) hb1)
    · have hx : chk c o = 50 := by unfold chk; rw [if_neg (by rw [hok]; simp), if_pos hob]
      rw [hx]
      clear hx
      have hob1 : ((objAt o.k : Int) != c.obj) = true := by simpa using hob
      have hob2 : ((objAt o.k : Int) == c.obj) = false := by simpa using hob
      unfold cfv at *
      unfold opv at *
      go_enter Tryd.func48, Tryd.ntmps48
      go_wp2_with (go_at_call 26; refine (hC _).mono ?_; rintro e w1 ⟨rfl, hb1⟩; obtain ⟨hc1, hf1⟩ := bcell hb1)
      have k0 := cell_regrown (show w1.cell? ⟨w.heap.size, 0, none⟩ = some (.int .u8 c.obj) from (hc1 _ _ (by simp; omega)).trans (by simp [go_sem]))
      have k1 := cell_regrown (show w1.cell? ⟨w.heap.size + 1, 0, none⟩ = some (.int .u8 o.k) from (hc1 _ _ (by simp)).trans (by simp [go_sem]))
      refine wp_region_quiet_below (by kernel_rfl) (by kernel_rfl) ?_
      repeat (go_big_quiet_step (exact Calls.regrown_of (rObject_any o.k _)))
      refine wpQuiet_nil ?_
      intro W3 hw'
      obtain ⟨⟨dq, osq⟩, hw''⟩ := hw'
      have hb3 := below_regrown w1 dq osq
      rw [← hw''] at hb3
      replace hb1 := below_then hb1 hb3
      clear hw'' k0 k1 hc1 hf1 hb3
      obtain ⟨hc1, hf1⟩ := bcell hb1
      go_wp2
      go_ret
      exact Ret.mk rfl (below_then (below_two _ _ _) hb1)
end Go.Proofs.YtljhcegkekdjgaaDoor
