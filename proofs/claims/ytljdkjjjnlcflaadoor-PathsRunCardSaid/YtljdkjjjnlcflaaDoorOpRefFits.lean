/- The document's own answer on which operations fit. -/
import Derived.Test.YtljdkjjjnlcflaaDoorOpRef
namespace Go.Proofs.YtljdkjjjnlcflaaDoor
open Go.RowKit Pt Opn

theorem rfits_iff {n : Nat} {k a b c : Nat} : Fits n ⟨k, a, b, c⟩ ↔ ((k = 1 ∧ Prefix n a b ∧ c ≤ 2147483647) ∨ (k = 2 ∧ Prefix n a b ∧ c = 0) ∨ (k = 3 ∧ a < 2 ^ n ∧ b = 0 ∧ c = 0) ∨
  ((k = 4 ∨ k = 8) ∧ a ≤ 2147483647 ∧ b ≤ 2147483647 ∧ c = 0) ∨ ((k = 5 ∨ k = 6 ∨ k = 7) ∧ a ≤ 2147483647 ∧ b = 0 ∧ c = 0) ∨
  (k = 9 ∧ a ≤ 65535 ∧ b ≤ 65535 ∧ (c = 1 ∨ c = 2)) ∨ (k = 10 ∧ a ≤ 65535 ∧ b ≤ 65535 ∧ c = 0) ∨
  (k = 11 ∧ 1 ≤ a ∧ a ≤ 65535 ∧ 1 ≤ b ∧ b ≤ 65535 ∧ c = 0) ∨ (k = 12 ∧ Path a b ∧ c ≤ 2147483647) ∨ ((k = 13 ∨ k = 14) ∧ Path a b ∧ c = 0)) := Iff.rfl
theorem prefix_whole {n a : Nat} : Prefix n a n ↔ a < 2 ^ n := by unfold Prefix; simp

set_option maxRecDepth 10000 in
set_option maxHeartbeats 16000000 in
theorem rFits_route (c : Cf) (k a b v : Nat) (h : 0 ≤ c.bits ∧ c.bits ≤ 6) (ha : a < 4294967296) (hk : k = 1 ∨ k = 2 ∨ k = 3) (w : World) :
    Calls Tryd.prog 53 #[cfv c, .agg #[.int .u8 k, .int .u32 a, .int .u32 b, .int .u32 v]] w (Ret (.bool (decide (Fits c.bits.toNat ⟨k, a, b, v⟩))) w) := by
  obtain ⟨n, hn⟩ : ∃ n : Nat, c.bits = n := ⟨c.bits.toNat, by omega⟩
  unfold cfv
  rw [hn] at h ⊢
  rw [Int.toNat_natCast]
  have hX := rPrefix_any n a b (by omega)
  have hW := rPrefix_any n a n (by omega)
  have hp : ∀ (z : Int) (k' : Nat), z = (k' : Int) → ∀ w, Calls Tryd.prog 70 #[.agg #[.int .u8 z, .int .u32 a, .int .u32 b, .int .u32 v]] w (Ret (.bool (decide (Path a b))) w) := fun z k' e w => by
    rw [e]
    exact rPath_any ⟨k', a, b, v⟩ ha w
  obtain ⟨X, hY⟩ : ∃ X, decide (Fits n ⟨k, a, b, v⟩) = X := ⟨_, rfl⟩
  rw [hY]
  have hF := @rfits_iff n k a b v
  rw [← decide_eq_true_iff (p := Fits n _), hY, ← prefix_whole (n := n) (a := a)] at hF
  clear hY
  have HX := Lib.hid hX
  have HW := Lib.hid hW
  have HP := Lib.hid hp
  have HF := Lib.hid hF
  clear hX hW hp hF
  rcases hk with rfl | rfl | rfl
  · go_enter Tryd.func53, Tryd.ntmps53
    go_wp2_with fail
    refine (HX.out _).mono ?_
    rintro e w1 ⟨rfl, hb1⟩
    obtain ⟨hc1, hf1⟩ := bcell hb1
    go_wp2
    all_goals go_ret
    all_goals refine Ret.mk (bool_eq ?_) (by first | exact below_then (below_two _ _ _) hb1 | exact below_two _ _ _)
    all_goals (have hF := HF.out; first | clear HX HW HP HF hc1 hf1 hb1 | clear HX HW HP HF)
    all_goals (rw [Bool.eq_iff_iff, hF]; grind)
  · go_enter Tryd.func53, Tryd.ntmps53
    go_wp2_with fail
    refine (HX.out _).mono ?_
    rintro e w1 ⟨rfl, hb1⟩
    obtain ⟨hc1, hf1⟩ := bcell hb1
    go_wp2
    all_goals go_ret
    all_goals refine Ret.mk (bool_eq ?_) (by first | exact below_then (below_two _ _ _) hb1 | exact below_two _ _ _)
    all_goals (have hF := HF.out; first | clear HX HW HP HF hc1 hf1 hb1 | clear HX HW HP HF)
    all_goals (rw [Bool.eq_iff_iff, hF]; grind)
  · go_enter Tryd.func53, Tryd.ntmps53
    go_wp2_with fail
    refine (HW.out _).mono ?_
    rintro e w1 ⟨rfl, hb1⟩
    obtain ⟨hc1, hf1⟩ := bcell hb1
    go_wp2
    all_goals go_ret
    all_goals refine Ret.mk (bool_eq ?_) (by first | exact below_then (below_two _ _ _) hb1 | exact below_two _ _ _)
    all_goals (have hF := HF.out; first | clear HX HW HP HF hc1 hf1 hb1 | clear HX HW HP HF)
    all_goals (rw [Bool.eq_iff_iff, hF]; grind)

set_option maxRecDepth 10000 in
set_option maxHeartbeats 16000000 in
theorem rFits_index (c : Cf) (k a b v : Nat) (h : 0 ≤ c.bits ∧ c.bits ≤ 6) (ha : a < 4294967296) (hk : k = 4 ∨ k = 5 ∨ k = 6 ∨ k = 7 ∨ k = 8) (w : World) :
    Calls Tryd.prog 53 #[cfv c, .agg #[.int .u8 k, .int .u32 a, .int .u32 b, .int .u32 v]] w (Ret (.bool (decide (Fits c.bits.toNat ⟨k, a, b, v⟩))) w) := by
  obtain ⟨n, hn⟩ : ∃ n : Nat, c.bits = n := ⟨c.bits.toNat, by omega⟩
  unfold cfv
  rw [hn] at h ⊢
  rw [Int.toNat_natCast]
  have hX := rPrefix_any n a b (by omega)
  have hW := rPrefix_any n a n (by omega)
  have hp : ∀ (z : Int) (k' : Nat), z = (k' : Int) → ∀ w, Calls Tryd.prog 70 #[.agg #[.int .u8 z, .int .u32 a, .int .u32 b, .int .u32 v]] w (Ret (.bool (decide (Path a b))) w) := fun z k' e w => by
    rw [e]
    exact rPath_any ⟨k', a, b, v⟩ ha w
  obtain ⟨X, hY⟩ : ∃ X, decide (Fits n ⟨k, a, b, v⟩) = X := ⟨_, rfl⟩
  rw [hY]
  have hF := @rfits_iff n k a b v
  rw [← decide_eq_true_iff (p := Fits n _), hY, ← prefix_whole (n := n) (a := a)] at hF
  clear hY
  have HX := Lib.hid hX
  have HW := Lib.hid hW
  have HP := Lib.hid hp
  have HF := Lib.hid hF
  clear hX hW hp hF
  rcases hk with rfl | rfl | rfl | rfl | rfl
  · go_enter Tryd.func53, Tryd.ntmps53
    go_wp2
    all_goals go_ret
    all_goals refine Ret.mk (bool_eq ?_) (by first | exact below_then (below_two _ _ _) hb1 | exact below_two _ _ _)
    all_goals (have hF := HF.out; first | clear HX HW HP HF hc1 hf1 hb1 | clear HX HW HP HF)
    all_goals (rw [Bool.eq_iff_iff, hF]; grind)
  · go_enter Tryd.func53, Tryd.ntmps53
    go_wp2
    all_goals go_ret
    all_goals refine Ret.mk (bool_eq ?_) (by first | exact below_then (below_two _ _ _) hb1 | exact below_two _ _ _)
    all_goals (have hF := HF.out; first | clear HX HW HP HF hc1 hf1 hb1 | clear HX HW HP HF)
    all_goals (rw [Bool.eq_iff_iff, hF]; grind)
  · go_enter Tryd.func53, Tryd.ntmps53
    go_wp2
    all_goals go_ret
    all_goals refine Ret.mk (bool_eq ?_) (by first | exact below_then (below_two _ _ _) hb1 | exact below_two _ _ _)
    all_goals (have hF := HF.out; first | clear HX HW HP HF hc1 hf1 hb1 | clear HX HW HP HF)
    all_goals (rw [Bool.eq_iff_iff, hF]; grind)
  · go_enter Tryd.func53, Tryd.ntmps53
    go_wp2
    all_goals go_ret
    all_goals refine Ret.mk (bool_eq ?_) (by first | exact below_then (below_two _ _ _) hb1 | exact below_two _ _ _)
    all_goals (have hF := HF.out; first | clear HX HW HP HF hc1 hf1 hb1 | clear HX HW HP HF)
    all_goals (rw [Bool.eq_iff_iff, hF]; grind)
  · go_enter Tryd.func53, Tryd.ntmps53
    go_wp2
    all_goals go_ret
    all_goals refine Ret.mk (bool_eq ?_) (by first | exact below_then (below_two _ _ _) hb1 | exact below_two _ _ _)
    all_goals (have hF := HF.out; first | clear HX HW HP HF hc1 hf1 hb1 | clear HX HW HP HF)
    all_goals (rw [Bool.eq_iff_iff, hF]; grind)

set_option maxRecDepth 10000 in
set_option maxHeartbeats 16000000 in
theorem rFits_access (c : Cf) (k a b v : Nat) (h : 0 ≤ c.bits ∧ c.bits ≤ 6) (ha : a < 4294967296) (hk : k = 9 ∨ k = 10 ∨ k = 11) (w : World) :
    Calls Tryd.prog 53 #[cfv c, .agg #[.int .u8 k, .int .u32 a, .int .u32 b, .int .u32 v]] w (Ret (.bool (decide (Fits c.bits.toNat ⟨k, a, b, v⟩))) w) := by
  obtain ⟨n, hn⟩ : ∃ n : Nat, c.bits = n := ⟨c.bits.toNat, by omega⟩
  unfold cfv
  rw [hn] at h ⊢
  rw [Int.toNat_natCast]
  have hX := rPrefix_any n a b (by omega)
  have hW := rPrefix_any n a n (by omega)
  have hp : ∀ (z : Int) (k' : Nat), z = (k' : Int) → ∀ w, Calls Tryd.prog 70 #[.agg #[.int .u8 z, .int .u32 a, .int .u32 b, .int .u32 v]] w (Ret (.bool (decide (Path a b))) w) := fun z k' e w => by
    rw [e]
    exact rPath_any ⟨k', a, b, v⟩ ha w
  obtain ⟨X, hY⟩ : ∃ X, decide (Fits n ⟨k, a, b, v⟩) = X := ⟨_, rfl⟩
  rw [hY]
  have hF := @rfits_iff n k a b v
  rw [← decide_eq_true_iff (p := Fits n _), hY, ← prefix_whole (n := n) (a := a)] at hF
  clear hY
  have HX := Lib.hid hX
  have HW := Lib.hid hW
  have HP := Lib.hid hp
  have HF := Lib.hid hF
  clear hX hW hp hF
  rcases hk with rfl | rfl | rfl
  · go_enter Tryd.func53, Tryd.ntmps53
    go_wp2
    all_goals go_ret
    all_goals refine Ret.mk (bool_eq ?_) (by first | exact below_then (below_two _ _ _) hb1 | exact below_two _ _ _)
    all_goals (have hF := HF.out; first | clear HX HW HP HF hc1 hf1 hb1 | clear HX HW HP HF)
    all_goals (rw [Bool.eq_iff_iff, hF]; grind)
  · go_enter Tryd.func53, Tryd.ntmps53
    go_wp2
    all_goals go_ret
    all_goals refine Ret.mk (bool_eq ?_) (by first | exact below_then (below_two _ _ _) hb1 | exact below_two _ _ _)
    all_goals (have hF := HF.out; first | clear HX HW HP HF hc1 hf1 hb1 | clear HX HW HP HF)
    all_goals (rw [Bool.eq_iff_iff, hF]; grind)
  · go_enter Tryd.func53, Tryd.ntmps53
    go_wp2
    all_goals go_ret
    all_goals refine Ret.mk (bool_eq ?_) (by first | exact below_then (below_two _ _ _) hb1 | exact below_two _ _ _)
    all_goals (have hF := HF.out; first | clear HX HW HP HF hc1 hf1 hb1 | clear HX HW HP HF)
    all_goals (rw [Bool.eq_iff_iff, hF]; grind)

set_option maxRecDepth 10000 in
set_option maxHeartbeats 16000000 in
theorem rFits_config (c : Cf) (k a b v : Nat) (h : 0 ≤ c.bits ∧ c.bits ≤ 6) (ha : a < 4294967296) (hk : k = 12 ∨ k = 13 ∨ k = 14) (w : World) :
    Calls Tryd.prog 53 #[cfv c, .agg #[.int .u8 k, .int .u32 a, .int .u32 b, .int .u32 v]] w (Ret (.bool (decide (Fits c.bits.toNat ⟨k, a, b, v⟩))) w) := by
  obtain ⟨n, hn⟩ : ∃ n : Nat, c.bits = n := ⟨c.bits.toNat, by omega⟩
  unfold cfv
  rw [hn] at h ⊢
  rw [Int.toNat_natCast]
  have hX := rPrefix_any n a b (by omega)
  have hW := rPrefix_any n a n (by omega)
  have hp : ∀ (z : Int) (k' : Nat), z = (k' : Int) → ∀ w, Calls Tryd.prog 70 #[.agg #[.int .u8 z, .int .u32 a, .int .u32 b, .int .u32 v]] w (Ret (.bool (decide (Path a b))) w) := fun z k' e w => by
    rw [e]
    exact rPath_any ⟨k', a, b, v⟩ ha w
  obtain ⟨X, hY⟩ : ∃ X, decide (Fits n ⟨k, a, b, v⟩) = X := ⟨_, rfl⟩
  rw [hY]
  have hF := @rfits_iff n k a b v
  rw [← decide_eq_true_iff (p := Fits n _), hY, ← prefix_whole (n := n) (a := a)] at hF
  clear hY
  have HX := Lib.hid hX
  have HW := Lib.hid hW
  have HP := Lib.hid hp
  have HF := Lib.hid hF
  clear hX hW hp hF
  rcases hk with rfl | rfl | rfl
  · go_enter Tryd.func53, Tryd.ntmps53
    go_wp2_with fail
    refine (HP.out _ 12 rfl _).mono ?_
    rintro e w1 ⟨rfl, hb1⟩
    obtain ⟨hc1, hf1⟩ := bcell hb1
    go_wp2
    all_goals go_ret
    all_goals refine Ret.mk (bool_eq ?_) (by first | exact below_then (below_two _ _ _) hb1 | exact below_two _ _ _)
    all_goals (have hF := HF.out; first | clear HX HW HP HF hc1 hf1 hb1 | clear HX HW HP HF)
    all_goals (rw [Bool.eq_iff_iff, hF]; grind)
  · go_enter Tryd.func53, Tryd.ntmps53
    go_wp2_with fail
    refine (HP.out _ 13 rfl _).mono ?_
    rintro e w1 ⟨rfl, hb1⟩
    obtain ⟨hc1, hf1⟩ := bcell hb1
    go_wp2
    all_goals go_ret
    all_goals refine Ret.mk (bool_eq ?_) (by first | exact below_then (below_two _ _ _) hb1 | exact below_two _ _ _)
    all_goals (have hF := HF.out; first | clear HX HW HP HF hc1 hf1 hb1 | clear HX HW HP HF)
    all_goals (rw [Bool.eq_iff_iff, hF]; grind)
  · go_enter Tryd.func53, Tryd.ntmps53
    go_wp2_with fail
    refine (HP.out _ 14 rfl _).mono ?_
    rintro e w1 ⟨rfl, hb1⟩
    obtain ⟨hc1, hf1⟩ := bcell hb1
    go_wp2
    all_goals go_ret
    all_goals refine Ret.mk (bool_eq ?_) (by first | exact below_then (below_two _ _ _) hb1 | exact below_two _ _ _)
    all_goals (have hF := HF.out; first | clear HX HW HP HF hc1 hf1 hb1 | clear HX HW HP HF)
    all_goals (rw [Bool.eq_iff_iff, hF]; grind)
end Go.Proofs.YtljdkjjjnlcflaaDoor
