/- Package part: which configs may be. Package op: whose a kind is, whether it writes, whether an operation fits. Package op: which operations fit. Package op: what a check answers. Package rank: a trie's nodes, for every number. -/
import Derived.Test.YtljhcegkekdjgaaDoorProg
import Derived.Test.YtljhcegkekdjgaaDoorGMath
import Derived.Lib.Walk
import Derived.Lib.Strings
import Derived.Lib.Slices
import Derived.Lib.Small
import Derived.Lib.BitFns
namespace Go.Proofs.YtljhcegkekdjgaaDoor
open Go.RowKit Pt

set_option maxHeartbeats 400000 in
theorem isFrom_any (x lo hi : Int) (w : World) : Calls Tryd.prog 95 #[.int .i64 x, .int .i64 lo, .int .i64 hi] w (Ret (.bool (decide (lo ≤ x ∧ x ≤ hi))) w) := by
  go_enter Tryd.func95, Tryd.ntmps95
  go_wp2
  all_goals go_ret
  all_goals exact Ret.mk (bool_eq (by rw [Bool.eq_iff_iff]; simp; omega)) (Below.refl _ _)

set_option maxHeartbeats 400000 in
theorem isFromU_any (x lo hi : Int) (w : World) : Calls Tryd.prog 96 #[.int .u64 x, .int .u64 lo, .int .u64 hi] w (Ret (.bool (decide (lo ≤ x ∧ x ≤ hi))) w) := by
  go_enter Tryd.func96, Tryd.ntmps96
  go_wp2
  all_goals go_ret
  all_goals exact Ret.mk (bool_eq (by rw [Bool.eq_iff_iff]; simp; omega)) (Below.refl _ _)

set_option maxHeartbeats 1000000 in
theorem objMay_any (c : Cf) (w : World) : Calls Tryd.prog 93 #[cfv c] w (Ret (.bool (decide (ObjOk c))) w) := by
  unfold cfv
  go_enter Tryd.func93, Tryd.ntmps93
  go_wp2_with (go_at_call 95; refine (isFrom_any _ _ _ _).mono ?_; rintro e w1 ⟨rfl, hb1⟩; obtain ⟨hc1, hf1⟩ := bcell hb1)
  all_goals go_ret
  all_goals refine Ret.mk (bool_eq ?_) (by first | exact below_one _ _ | exact below_b1 (by assumption) | exact below_b2 (by assumption) (by assumption))
  all_goals (simp only [beq_iff_eq, beq_eq_false_iff_ne] at *; rw [Bool.eq_iff_iff]; simp only [beq_iff_eq, decide_eq_true_eq, Bool.and_eq_true, Bool.false_eq_true, false_iff]; unfold ObjOk; omega)

set_option maxHeartbeats 1000000 in
theorem indMay_any (c : Cf) (w : World) : Calls Tryd.prog 94 #[cfv c] w (Ret (.bool (decide (IndOk c))) w) := by
  unfold cfv
  go_enter Tryd.func94, Tryd.ntmps94
  go_wp2_with (first
    | (go_at_call 95; refine (isFrom_any _ _ _ _).mono ?_; rintro e w1 ⟨rfl, hb1⟩; obtain ⟨hc1, hf1⟩ := bcell hb1)
    | (go_at_call 96; refine (isFromU_any _ _ _ _).mono ?_; rintro e w1 ⟨rfl, hb1⟩; obtain ⟨hc1, hf1⟩ := bcell hb1))
  all_goals go_ret
  all_goals refine Ret.mk (bool_eq ?_) (by first | exact below_one _ _ | exact below_b1 (by assumption) | exact below_b2 (by assumption) (by assumption))
  all_goals (simp only [beq_iff_eq, beq_eq_false_iff_ne] at *; rw [Bool.eq_iff_iff]; simp only [beq_iff_eq, decide_eq_true_eq, Bool.and_eq_true, Bool.false_eq_true, false_iff]; unfold IndOk; omega)

theorem and_f {P Q : Prop} [Decidable P] [Decidable Q] (h : P → Q) (hq : Q → P) : decide P = decide Q := by
  rw [Bool.eq_iff_iff]; simp only [decide_eq_true_eq]; exact ⟨h, hq⟩

set_option maxHeartbeats 2000000 in
theorem mayBe_cfg (c : Cf) (w : World) : Calls Tryd.prog 70 #[cfv c] w (Ret (.bool (okB c)) w) := by
  by_cases ho : ObjOk c
  · have do' := decide_eq_true ho
    by_cases hi : IndOk c
    · have di := decide_eq_true hi
      have e : okB c = decide (RestOk c) := and_f (P := Ok c) (fun h => h.2.2) (fun h => ⟨ho, hi, h⟩)
      rw [e]
      clear ho hi e
      unfold cfv
      go_enter Tryd.func70, Tryd.ntmps70
      go_wp2_with (first
        | (go_at_call 93; refine (objMay_any c _).mono ?_; rintro e w1 ⟨rfl, hb1⟩; rw [do']; obtain ⟨hc1, hf1⟩ := bcell hb1)
        | (go_at_call 94; refine (indMay_any c _).mono ?_; rintro e w2 ⟨rfl, hb2⟩; rw [di]; have hb1 := below_then hb1 hb2; clear hb2 hc1 hf1; obtain ⟨hc1, hf1⟩ := bcell hb1)
        | (go_at_call 95; refine (isFrom_any _ _ _ _).mono ?_; rintro e w2 ⟨rfl, hb2⟩; have hb1 := below_then hb1 hb2; clear hb2 hc1 hf1; obtain ⟨hc1, hf1⟩ := bcell hb1)
        | (go_at_call 96; refine (isFromU_any _ _ _ _).mono ?_; rintro e w2 ⟨rfl, hb2⟩; have hb1 := below_then hb1 hb2; clear hb2 hc1 hf1; obtain ⟨hc1, hf1⟩ := bcell hb1))
      all_goals clear hc1 hf1
      all_goals go_ret
      all_goals refine Ret.mk (bool_eq ?_) (below_b1 hb1)
      all_goals (rw [Bool.eq_iff_iff]; simp only [decide_eq_true_eq, Bool.and_eq_true, Bool.false_eq_true, false_iff]; unfold RestOk; omega)
    · have di := decide_eq_false hi
      have e : okB c = false := decide_eq_false fun h => hi h.2.1
      rw [e]
      clear ho hi e
      unfold cfv
      go_enter Tryd.func70, Tryd.ntmps70
      go_wp2_with (first
        | (go_at_call 93; refine (objMay_any c _).mono ?_; rintro e w1 ⟨rfl, hb1⟩; rw [do']; obtain ⟨hc1, hf1⟩ := bcell hb1)
        | (go_at_call 94; refine (indMay_any c _).mono ?_; rintro e w2 ⟨rfl, hb2⟩; rw [di]; have hb1 := below_then hb1 hb2; clear hb2 hc1 hf1; obtain ⟨hc1, hf1⟩ := bcell hb1))
      go_ret
      exact Ret.mk rfl (below_b1 hb1)
  · have do' := decide_eq_false ho
    have e : okB c = false := decide_eq_false fun h => ho h.1
    rw [e]
    clear ho e
    unfold cfv
    go_enter Tryd.func70, Tryd.ntmps70
    go_wp2_with (go_at_call 93; refine (objMay_any c _).mono ?_; rintro e w1 ⟨rfl, hb1⟩; rw [do']; obtain ⟨hc1, hf1⟩ := bcell hb1)
    go_ret
    exact Ret.mk rfl (below_b1 hb1)

set_option maxHeartbeats 400000 in
theorem check_any (c : Cf) (w : World) : Calls Tryd.prog 53 #[cfv c] w (Ret (.int .i64 (Pt.err (okB c))) w) := by
  cases e : okB c with
  | true =>
    unfold cfv
    go_enter Tryd.func53, Tryd.ntmps53
    go_wp2_with (go_at_call 70; refine (mayBe_cfg c _).mono ?_; rintro e w1 ⟨rfl, hb1⟩; rw [e])
    go_ret
    exact Ret.mk rfl (below_b1 hb1)
  | false =>
    unfold cfv
    go_enter Tryd.func53, Tryd.ntmps53
    go_wp2_with (go_at_call 70; refine (mayBe_cfg c _).mono ?_; rintro e w1 ⟨rfl, hb1⟩; rw [e])
    go_ret
    exact Ret.mk rfl (below_b1 hb1)
end Go.Proofs.YtljhcegkekdjgaaDoor

namespace Go.Proofs.YtljhcegkekdjgaaDoor
open Go.RowKit Pt Opn

/-- The table holds the kinds' objects. -/
def Obs (W : World) : Prop := ∀ j, j < 15 → W.cell? ⟨0, j, none⟩ = some (.int .u8 (objAt j : Nat))
set_option maxRecDepth 100000 in
theorem Obs.below {W W' : World} (h : Obs W) (hb : Below W.heap.size W W') : Obs W' := fun j hj =>
  (hb.cell (World.block_lt_of_cell? _ _ (h j hj))).trans (h j hj)
set_option maxRecDepth 100000 in
theorem Obs.alloc {W : World} (h : Obs W) (o : Obj) : Obs (W.alloc o) := h.below (below_one W o)

set_option maxRecDepth 100000 in
set_option maxHeartbeats 400000 in
theorem object_any (k : Nat) (hk2 : k < 256) (w : World) (h : Obs w) : Calls Tryd.prog 55 #[.int .u8 k] w (Ret (.int .u8 (objAt k : Nat)) w) := by
  by_cases hk : k < 15
  · have hc := h k hk
    generalize objAt k = z at hc ⊢
    clear h
    have hi : (k : Int) < 15 := by omega
    have hw : wrap64 (k : Int) = k := by unfold wrap64; omega
    go_enter Tryd.func55, Tryd.ntmps55
    go_wp2
    go_ret
    exact Ret.mk rfl (Below.refl _ _)
  · have hz : objAt k = 0 := by unfold objAt; (repeat' split) <;> omega
    rw [hz]
    have hi : ¬ (k : Int) < 15 := by omega
    have hw : wrap64 (k : Int) = k := by unfold wrap64; omega
    go_enter Tryd.func55, Tryd.ntmps55
    go_wp2
    go_ret
    exact Ret.mk rfl (Below.refl _ _)

set_option maxRecDepth 100000 in
set_option maxHeartbeats 400000 in
theorem isValue_any (n : Nat) (w : World) : Calls Tryd.prog 72 #[.int .u32 n] w (Ret (.bool (decide (n ≤ 2147483647))) w) := by
  go_enter Tryd.func72, Tryd.ntmps72
  go_wp2
  go_ret
  exact Ret.mk (bool_eq (by rw [Bool.eq_iff_iff]; simp; omega)) (Below.refl _ _)
set_option maxRecDepth 100000 in
set_option maxHeartbeats 400000 in
theorem isWho_any (n : Nat) (w : World) : Calls Tryd.prog 73 #[.int .u32 n] w (Ret (.bool (decide (n ≤ 65535))) w) := by
  go_enter Tryd.func73, Tryd.ntmps73
  go_wp2
  go_ret
  exact Ret.mk (bool_eq (by rw [Bool.eq_iff_iff]; simp; omega)) (Below.refl _ _)

set_option maxRecDepth 100000 in
set_option maxHeartbeats 400000 in
theorem isPath_any (a b : Nat) (ha : a < 4294967296) (w : World) : Calls Tryd.prog 74 #[.int .u32 a, .int .u32 b] w (Ret (.bool (decide (Path a b))) w) := by
  have e1 : (a : Int) / 65536 = ((a / 65536 : Nat) : Int) := by omega
  have e2 : (a : Int).tmod 65536 = ((a % 65536 : Nat) : Int) := by rw [Int.tmod_eq_emod_of_nonneg (by omega)]; omega
  obtain ⟨d, hd⟩ : ∃ d, a / 65536 = d := ⟨_, rfl⟩
  obtain ⟨m, hm⟩ : ∃ m, a % 65536 = m := ⟨_, rfl⟩
  have hP : decide (Path a b) = decide (m ≠ 0 ∧ b ≤ 65535 ∧ (d ≠ 0 ∨ b = 0)) := by rw [decide_eq_decide]; unfold Path; rw [hd, hm]
  rw [hP]
  rw [hd] at e1
  rw [hm] at e2
  have hd2 : d < 65536 := by omega
  clear hP hd hm ha
  go_enter Tryd.func74, Tryd.ntmps74
  go_wp2
  all_goals go_ret
  all_goals exact Ret.mk (bool_eq (by rw [Bool.eq_iff_iff]; simp at *; omega)) (Below.refl _ _)

set_option maxRecDepth 100000 in
set_option maxHeartbeats 400000 in
theorem isPrefix_any (c : Cf) (a b : Nat) (hb : 0 ≤ c.bits ∧ c.bits ≤ 6) (w : World) : Calls Tryd.prog 71 #[cfv c, .int .u32 a, .int .u32 b] w (Ret (.bool (decide (Prefix c.bits.toNat a b))) w) := by
  unfold cfv
  go_enter Tryd.func71, Tryd.ntmps71
  go_wp2
  · have h6 : b ≤ 6 := by omega
    have h7 : ∀ i : Fin 7, ((2 : Int) ^ i.val % 4294967296) = ((2 ^ i.val : Nat) : Int) := by decide
    have h8 := h7 ⟨b, by omega⟩
    simp only at h8
    go_ret
    refine Ret.mk (bool_eq ?_) (below_one _ _)
    show decide ((a : Int) < 2 ^ b % 4294967296) = _
    rw [h8, decide_eq_decide]
    unfold Prefix
    omega
  · go_ret
    exact Ret.mk (bool_eq (by rw [eq_comm, decide_eq_false_iff_not]; unfold Prefix; omega)) (below_one _ _)
end Go.Proofs.YtljhcegkekdjgaaDoor

namespace Go.Proofs.YtljhcegkekdjgaaDoor
open Go.RowKit Pt Opn

theorem fits_iff {n : Nat} {k a b c : Nat} : Fits n ⟨k, a, b, c⟩ ↔ ((k = 1 ∧ Prefix n a b ∧ c ≤ 2147483647) ∨ (k = 2 ∧ Prefix n a b ∧ c = 0) ∨ (k = 3 ∧ a < 2 ^ n ∧ b = 0 ∧ c = 0) ∨
  ((k = 4 ∨ k = 8) ∧ a ≤ 2147483647 ∧ b ≤ 2147483647 ∧ c = 0) ∨ ((k = 5 ∨ k = 6 ∨ k = 7) ∧ a ≤ 2147483647 ∧ b = 0 ∧ c = 0) ∨
  (k = 9 ∧ a ≤ 65535 ∧ b ≤ 65535 ∧ (c = 1 ∨ c = 2)) ∨ (k = 10 ∧ a ≤ 65535 ∧ b ≤ 65535 ∧ c = 0) ∨
  (k = 11 ∧ 1 ≤ a ∧ a ≤ 65535 ∧ 1 ≤ b ∧ b ≤ 65535 ∧ c = 0) ∨ (k = 12 ∧ Path a b ∧ c ≤ 2147483647) ∨ ((k = 13 ∨ k = 14) ∧ Path a b ∧ c = 0)) := Iff.rfl
theorem pow_u32 {n : Nat} (h : n ≤ 6) : ((2 : Int) ^ n % 4294967296) = ((2 ^ n : Nat) : Int) := by
  have h7 : ∀ i : Fin 7, ((2 : Int) ^ i.val % 4294967296) = ((2 ^ i.val : Nat) : Int) := by decide
  exact h7 ⟨n, by omega⟩

set_option maxRecDepth 100000 in
set_option maxHeartbeats 16000000 in
theorem fits_route (c : Cf) (k a b v : Nat) (h : 0 ≤ c.bits ∧ c.bits ≤ 6) (_ : a < 4294967296) (hk : k = 1 ∨ k = 2) (w : World) :
    Calls Tryd.prog 56 #[cfv c, .agg #[.int .u8 k, .int .u32 a, .int .u32 b, .int .u32 v]] w (Ret (.bool (decide (Fits c.bits.toNat ⟨k, a, b, v⟩))) w) := by
  have hX := isPrefix_any c a b h
  obtain ⟨n, hn⟩ : ∃ n : Nat, c.bits = n := ⟨c.bits.toNat, by omega⟩
  unfold cfv at hX ⊢
  rw [hn] at hX h ⊢
  rw [Int.toNat_natCast] at hX ⊢
  have h8 := pow_u32 (n := n) (by omega)
  obtain ⟨X, hY⟩ : ∃ X, decide (Fits n ⟨k, a, b, v⟩) = X := ⟨_, rfl⟩
  rw [hY]
  have hF := @fits_iff n k a b v
  rw [← decide_eq_true_iff (p := Fits n _), hY] at hF
  clear hY
  rcases hk with rfl | rfl
  all_goals
    go_enter Tryd.func56, Tryd.ntmps56
    go_wp2_with (first
      | (go_at_call 71; refine (hX _).mono ?_; rintro e w1 ⟨rfl, hb1⟩; obtain ⟨hc1, hf1⟩ := bcell hb1)
      | (go_at_call 74; refine (isPath_any _ _ ha _).mono ?_; rintro e w1 ⟨rfl, hb1⟩; obtain ⟨hc1, hf1⟩ := bcell hb1)
      | (go_at_call 72; refine (isValue_any a _).mono ?_; rintro e w1 ⟨rfl, hb1⟩; obtain ⟨hc1, hf1⟩ := bcell hb1)
      | (go_at_call 73; refine (isWho_any a _).mono ?_; rintro e w1 ⟨rfl, hb1⟩; obtain ⟨hc1, hf1⟩ := bcell hb1)
      | (go_at_call 72; refine (isValue_any _ _).mono ?_; rintro e w2 ⟨rfl, hb2⟩; replace hb1 := below_then hb1 hb2; clear hc1 hf1 hb2; obtain ⟨hc1, hf1⟩ := bcell hb1)
      | (go_at_call 73; refine (isWho_any _ _).mono ?_; rintro e w2 ⟨rfl, hb2⟩; replace hb1 := below_then hb1 hb2; clear hc1 hf1 hb2; obtain ⟨hc1, hf1⟩ := bcell hb1))
  all_goals go_ret
  all_goals refine Ret.mk (bool_eq ?_) (by first | exact below_then (below_two _ _ _) hb1 | exact below_two _ _ _)
  all_goals (first | clear hX h8 hc1 hf1 hb1 | clear hX h8)
  all_goals (rw [Bool.eq_iff_iff, hF]; grind)

set_option maxRecDepth 100000 in
set_option maxHeartbeats 16000000 in
theorem fits_index (c : Cf) (k a b v : Nat) (h : 0 ≤ c.bits ∧ c.bits ≤ 6) (_ : a < 4294967296) (hk : k = 4 ∨ k = 5 ∨ k = 6 ∨ k = 7 ∨ k = 8) (w : World) :
    Calls Tryd.prog 56 #[cfv c, .agg #[.int .u8 k, .int .u32 a, .int .u32 b, .int .u32 v]] w (Ret (.bool (decide (Fits c.bits.toNat ⟨k, a, b, v⟩))) w) := by
  have hX := isPrefix_any c a b h
  obtain ⟨n, hn⟩ : ∃ n : Nat, c.bits = n := ⟨c.bits.toNat, by omega⟩
  unfold cfv at hX ⊢
  rw [hn] at hX h ⊢
  rw [Int.toNat_natCast] at hX ⊢
  have h8 := pow_u32 (n := n) (by omega)
  obtain ⟨X, hY⟩ : ∃ X, decide (Fits n ⟨k, a, b, v⟩) = X := ⟨_, rfl⟩
  rw [hY]
  have hF := @fits_iff n k a b v
  rw [← decide_eq_true_iff (p := Fits n _), hY] at hF
  clear hY
  rcases hk with rfl | rfl | rfl | rfl | rfl
  all_goals
    go_enter Tryd.func56, Tryd.ntmps56
    go_wp2_with (first
      | (go_at_call 71; refine (hX _).mono ?_; rintro e w1 ⟨rfl, hb1⟩; obtain ⟨hc1, hf1⟩ := bcell hb1)
      | (go_at_call 74; refine (isPath_any _ _ ha _).mono ?_; rintro e w1 ⟨rfl, hb1⟩; obtain ⟨hc1, hf1⟩ := bcell hb1)
      | (go_at_call 72; refine (isValue_any a _).mono ?_; rintro e w1 ⟨rfl, hb1⟩; obtain ⟨hc1, hf1⟩ := bcell hb1)
      | (go_at_call 73; refine (isWho_any a _).mono ?_; rintro e w1 ⟨rfl, hb1⟩; obtain ⟨hc1, hf1⟩ := bcell hb1)
      | (go_at_call 72; refine (isValue_any _ _).mono ?_; rintro e w2 ⟨rfl, hb2⟩; replace hb1 := below_then hb1 hb2; clear hc1 hf1 hb2; obtain ⟨hc1, hf1⟩ := bcell hb1)
      | (go_at_call 73; refine (isWho_any _ _).mono ?_; rintro e w2 ⟨rfl, hb2⟩; replace hb1 := below_then hb1 hb2; clear hc1 hf1 hb2; obtain ⟨hc1, hf1⟩ := bcell hb1))
  all_goals go_ret
  all_goals refine Ret.mk (bool_eq ?_) (by first | exact below_then (below_two _ _ _) hb1 | exact below_two _ _ _)
  all_goals (first | clear hX h8 hc1 hf1 hb1 | clear hX h8)
  all_goals (rw [Bool.eq_iff_iff, hF]; grind)

set_option maxRecDepth 100000 in
set_option maxHeartbeats 16000000 in
theorem fits_access (c : Cf) (k a b v : Nat) (h : 0 ≤ c.bits ∧ c.bits ≤ 6) (_ : a < 4294967296) (hk : k = 9 ∨ k = 10 ∨ k = 11) (w : World) :
    Calls Tryd.prog 56 #[cfv c, .agg #[.int .u8 k, .int .u32 a, .int .u32 b, .int .u32 v]] w (Ret (.bool (decide (Fits c.bits.toNat ⟨k, a, b, v⟩))) w) := by
  have hX := isPrefix_any c a b h
  obtain ⟨n, hn⟩ : ∃ n : Nat, c.bits = n := ⟨c.bits.toNat, by omega⟩
  unfold cfv at hX ⊢
  rw [hn] at hX h ⊢
  rw [Int.toNat_natCast] at hX ⊢
  have h8 := pow_u32 (n := n) (by omega)
  obtain ⟨X, hY⟩ : ∃ X, decide (Fits n ⟨k, a, b, v⟩) = X := ⟨_, rfl⟩
  rw [hY]
  have hF := @fits_iff n k a b v
  rw [← decide_eq_true_iff (p := Fits n _), hY] at hF
  clear hY
  rcases hk with rfl | rfl | rfl
  all_goals
    go_enter Tryd.func56, Tryd.ntmps56
    go_wp2_with (first
      | (go_at_call 71; refine (hX _).mono ?_; rintro e w1 ⟨rfl, hb1⟩; obtain ⟨hc1, hf1⟩ := bcell hb1)
      | (go_at_call 74; refine (isPath_any _ _ ha _).mono ?_; rintro e w1 ⟨rfl, hb1⟩; obtain ⟨hc1, hf1⟩ := bcell hb1)
      | (go_at_call 72; refine (isValue_any a _).mono ?_; rintro e w1 ⟨rfl, hb1⟩; obtain ⟨hc1, hf1⟩ := bcell hb1)
      | (go_at_call 73; refine (isWho_any a _).mono ?_; rintro e w1 ⟨rfl, hb1⟩; obtain ⟨hc1, hf1⟩ := bcell hb1)
      | (go_at_call 72; refine (isValue_any _ _).mono ?_; rintro e w2 ⟨rfl, hb2⟩; replace hb1 := below_then hb1 hb2; clear hc1 hf1 hb2; obtain ⟨hc1, hf1⟩ := bcell hb1)
      | (go_at_call 73; refine (isWho_any _ _).mono ?_; rintro e w2 ⟨rfl, hb2⟩; replace hb1 := below_then hb1 hb2; clear hc1 hf1 hb2; obtain ⟨hc1, hf1⟩ := bcell hb1))
  all_goals go_ret
  all_goals refine Ret.mk (bool_eq ?_) (by first | exact below_then (below_two _ _ _) hb1 | exact below_two _ _ _)
  all_goals (first | clear hX h8 hc1 hf1 hb1 | clear hX h8)
  all_goals (rw [Bool.eq_iff_iff, hF]; grind)

set_option maxRecDepth 100000 in
set_option maxHeartbeats 16000000 in
theorem fits_config (c : Cf) (k a b v : Nat) (h : 0 ≤ c.bits ∧ c.bits ≤ 6) (ha : a < 4294967296) (hk : k = 12 ∨ k = 13 ∨ k = 14) (w : World) :
    Calls Tryd.prog 56 #[cfv c, .agg #[.int .u8 k, .int .u32 a, .int .u32 b, .int .u32 v]] w (Ret (.bool (decide (Fits c.bits.toNat ⟨k, a, b, v⟩))) w) := by
  have hX := isPrefix_any c a b h
  obtain ⟨n, hn⟩ : ∃ n : Nat, c.bits = n := ⟨c.bits.toNat, by omega⟩
  unfold cfv at hX ⊢
  rw [hn] at hX h ⊢
  rw [Int.toNat_natCast] at hX ⊢
  have h8 := pow_u32 (n := n) (by omega)
  obtain ⟨X, hY⟩ : ∃ X, decide (Fits n ⟨k, a, b, v⟩) = X := ⟨_, rfl⟩
  rw [hY]
  have hF := @fits_iff n k a b v
  rw [← decide_eq_true_iff (p := Fits n _), hY] at hF
  clear hY
  rcases hk with rfl | rfl | rfl
  all_goals
    go_enter Tryd.func56, Tryd.ntmps56
    go_wp2_with (first
      | (go_at_call 71; refine (hX _).mono ?_; rintro e w1 ⟨rfl, hb1⟩; obtain ⟨hc1, hf1⟩ := bcell hb1)
      | (go_at_call 74; refine (isPath_any _ _ ha _).mono ?_; rintro e w1 ⟨rfl, hb1⟩; obtain ⟨hc1, hf1⟩ := bcell hb1)
      | (go_at_call 72; refine (isValue_any a _).mono ?_; rintro e w1 ⟨rfl, hb1⟩; obtain ⟨hc1, hf1⟩ := bcell hb1)
      | (go_at_call 73; refine (isWho_any a _).mono ?_; rintro e w1 ⟨rfl, hb1⟩; obtain ⟨hc1, hf1⟩ := bcell hb1)
      | (go_at_call 72; refine (isValue_any _ _).mono ?_; rintro e w2 ⟨rfl, hb2⟩; replace hb1 := below_then hb1 hb2; clear hc1 hf1 hb2; obtain ⟨hc1, hf1⟩ := bcell hb1)
      | (go_at_call 73; refine (isWho_any _ _).mono ?_; rintro e w2 ⟨rfl, hb2⟩; replace hb1 := below_then hb1 hb2; clear hc1 hf1 hb2; obtain ⟨hc1, hf1⟩ := bcell hb1))
  all_goals go_ret
  all_goals refine Ret.mk (bool_eq ?_) (by first | exact below_then (below_two _ _ _) hb1 | exact below_two _ _ _)
  all_goals (first | clear hX h8 hc1 hf1 hb1 | clear hX h8)
  all_goals (rw [Bool.eq_iff_iff, hF]; grind)

set_option maxRecDepth 100000 in
set_option maxHeartbeats 4000000 in
theorem fits_look (c : Cf) (a b v : Nat) (h : 0 ≤ c.bits ∧ c.bits ≤ 6) (w : World) :
    Calls Tryd.prog 56 #[cfv c, .agg #[.int .u8 3, .int .u32 a, .int .u32 b, .int .u32 v]] w (Ret (.bool (decide (Fits c.bits.toNat ⟨3, a, b, v⟩))) w) := by
  obtain ⟨n, hn⟩ : ∃ n : Nat, c.bits = n := ⟨c.bits.toNat, by omega⟩
  unfold cfv
  rw [hn] at h ⊢
  rw [Int.toNat_natCast]
  have h8 := pow_u32 (n := n) (by omega)
  obtain ⟨X, hY⟩ : ∃ X, decide (Fits n ⟨3, a, b, v⟩) = X := ⟨_, rfl⟩
  rw [hY]
  have hF := @fits_iff n 3 a b v
  rw [← decide_eq_true_iff (p := Fits n _), hY] at hF
  generalize 2 ^ n = q at h8 hF
  have hF2 : X = true ↔ a < q ∧ b = 0 ∧ v = 0 := by rw [hF]; grind
  clear hF hY
  go_enter Tryd.func56, Tryd.ntmps56
  go_wp2
  obtain ⟨W, hW⟩ : ∃ W, W = (w.alloc (Obj.cells #[Value.int IntKind.u8 c.obj, Value.int IntKind.i64 c.inst, Value.int IntKind.i64 c.thr, Value.int IntKind.u8 c.kind, Value.int IntKind.i64 c.str, Value.int IntKind.i64 (n : Nat), Value.int IntKind.i64 c.cap, Value.int IntKind.i64 c.node, Value.int IntKind.i64 c.bat, Value.int IntKind.i64 c.chunk, Value.int IntKind.u64 c.lim, Value.int IntKind.u64 c.most] 30)).alloc (Obj.cells #[Value.int IntKind.u8 3, Value.int IntKind.u32 a, Value.int IntKind.u32 b, Value.int IntKind.u32 v] 46) := ⟨_, rfl⟩
  have hb2 : Below w.heap.size w W := by rw [hW]; exact below_two _ _ _
  rw [← hW]
  have k0 := cell_regrown (show W.cell? ⟨w.heap.size, 5, none⟩ = some (.int .i64 n) by rw [hW]; simp [go_sem])
  have k1 := cell_regrown (show W.cell? ⟨w.heap.size + 1, 1, none⟩ = some (.int .u32 a) by rw [hW]; simp [go_sem])
  have k2 := cell_regrown (show W.cell? ⟨w.heap.size + 1, 2, none⟩ = some (.int .u32 b) by rw [hW]; simp [go_sem])
  have k3 := cell_regrown (show W.cell? ⟨w.heap.size + 1, 3, none⟩ = some (.int .u32 v) by rw [hW]; simp [go_sem])
  have FIN := Lib.hid (fun (x : Bool) (w4 : World) (e : x = X) (h : Below w.heap.size w w4) => (Ret.mk (bool_eq e) h : Ret (.bool X) w (.returned (.bool x)) w4))
  have HF := Lib.hid hF2
  clear hW hF2
  by_cases h1 : (a : Int) < (q : Int)
  · have h1' : decide ((a : Int) < (q : Int)) = true := decide_eq_true h1
    by_cases h2 : b = 0
    · have h2' : ((b : Int) == 0) = true := by rw [h2]; rfl
      refine wp_region_quiet_below (by kernel_rfl) (by kernel_rfl) ?_
      repeat (go_big_quiet_step (fail))
      refine wpQuiet_nil ?_
      intro _ hw'
      obtain ⟨⟨dq, osq⟩, hw''⟩ := hw'
      subst hw''
      go_wp2
      go_ret
      exact FIN.out _ _ (by have := HF.out; grind) (below_then hb2 (below_regrown W dq osq))
    · have h2' : ((b : Int) == 0) = false := by simp [h2]
      have h3 : ¬ (b : Int) = 0 := by omega
      refine wp_region_quiet_below (by kernel_rfl) (by kernel_rfl) ?_
      repeat (go_big_quiet_step (fail))
      refine wpQuiet_nil ?_
      intro _ hw'
      obtain ⟨⟨dq, osq⟩, hw''⟩ := hw'
      subst hw''
      go_wp2
      go_ret
      exact FIN.out _ _ (by have := HF.out; grind) (below_then hb2 (below_regrown W dq osq))
  · have h1' : decide ((a : Int) < (q : Int)) = false := decide_eq_false h1
    refine wp_region_quiet_below (by kernel_rfl) (by kernel_rfl) ?_
    repeat (go_big_quiet_step (fail))
    refine wpQuiet_nil ?_
    intro _ hw'
    obtain ⟨⟨dq, osq⟩, hw''⟩ := hw'
    subst hw''
    go_wp2
    go_ret
    exact FIN.out _ _ (by have := HF.out; grind) (below_then hb2 (below_regrown W dq osq))
end Go.Proofs.YtljhcegkekdjgaaDoor

namespace Go.Proofs.YtljhcegkekdjgaaDoor
open Go.RowKit Pt Opn

theorem opFits_any (c : Cf) (o : O) (ho : Wf o) (h : Ok c) (hk : 1 ≤ o.k ∧ o.k ≤ 14) (w : World) : Calls Tryd.prog 56 #[cfv c, opv o] w (Ret (.bool (decide (Fits c.bits.toNat o))) w) := by
  obtain ⟨k, a, b, v⟩ := o
  have hb : 0 ≤ c.bits ∧ c.bits ≤ 6 := by have := h.1; unfold ObjOk at this; omega
  have ha : a < 4294967296 := ho.2.1
  simp only at hk
  by_cases h1 : k = 1 ∨ k = 2
  · exact fits_route c k a b v hb ha h1 w
  by_cases h2 : k = 3
  · subst h2; exact fits_look c a b v hb w
  by_cases h3 : k = 4 ∨ k = 5 ∨ k = 6 ∨ k = 7 ∨ k = 8
  · exact fits_index c k a b v hb ha h3 w
  by_cases h4 : k = 9 ∨ k = 10 ∨ k = 11
  · exact fits_access c k a b v hb ha h4 w
  exact fits_config c k a b v hb ha (by omega) w

theorem obj_kind {c : Cf} (h : Ok c) {k : Nat} (e : (objAt k : Int) = c.obj) : 1 ≤ k ∧ k ≤ 14 := by
  have h1 : 1 ≤ c.obj := by have := h.1; unfold ObjOk at this; omega
  unfold objAt at e
  split at e
  · omega
  · refine ⟨by omega, ?_⟩
    by_cases h2 : k ≤ 14
    · exact h2
    · rw [if_neg (by omega), if_neg (by omega), if_neg (by omega), if_neg h2] at e; omega

set_option maxHeartbeats 4000000 in
theorem check_op (c : Cf) (o : O) (ho : Wf o) (w : World) (hp : Obs w) : Calls Tryd.prog 35 #[cfv c, opv o] w (Ret (.int .i64 (chk c o)) w) := by
  have HP := Lib.hid hp
  have HO := Lib.hid ho
  have hC := check_any c
  have hk := ho.1
  clear hp ho
  cases hok : okB c with
  | false =>
    have hx : chk c o = 40 := by unfold chk; rw [if_pos hok]
    rw [hx]
    rw [hok, show Pt.err false = 40 from rfl] at hC
    unfold cfv at *
    unfold opv
    go_enter Tryd.func35, Tryd.ntmps35
    go_wp2_with (go_at_call 53; refine (hC _).mono ?_; rintro e w1 ⟨rfl, hb1⟩; obtain ⟨hc1, hf1⟩ := bcell hb1)
    go_ret
    exact Ret.mk rfl (below_then (below_two _ _ _) hb1)
  | true =>
    rw [hok, show Pt.err true = 0 from rfl] at hC
    have hoc := ok_of hok
    by_cases hob : (objAt o.k : Int) = c.obj
    · have hkk := obj_kind hoc hob
      have hfi := opFits_any c o HO.out hoc hkk
      have hob1 : ((objAt o.k : Int) != c.obj) = false := by simpa using hob
      have hob2 : ((objAt o.k : Int) == c.obj) = true := by simpa using hob
      cases hft : decide (Fits c.bits.toNat o) with
      | true =>
        have hx : chk c o = 0 := by unfold chk; rw [if_neg (by rw [hok]; simp), if_neg (by simp [hob]), if_pos (of_decide_eq_true hft)]
        rw [hx]
        rw [hft] at hfi
        clear hft hx
        unfold cfv at *
        unfold opv at *
        go_enter Tryd.func35, Tryd.ntmps35
        go_wp2_with (go_at_call 53; refine (hC _).mono ?_; rintro e w1 ⟨rfl, hb1⟩; obtain ⟨hc1, hf1⟩ := bcell hb1)
        have HP1 := Lib.hid (HP.out.below (below_then (below_two _ _ _) hb1))
        have k0 := cell_regrown (show w1.cell? ⟨w.heap.size, 0, none⟩ = some (.int .u8 c.obj) from (hc1 _ _ (by simp; omega)).trans (by simp [go_sem]))
        have k1 := cell_regrown (show w1.cell? ⟨w.heap.size + 1, 0, none⟩ = some (.int .u8 o.k) from (hc1 _ _ (by simp)).trans (by simp [go_sem]))
        refine wp_region_quiet_below (by kernel_rfl) (by kernel_rfl) ?_
        repeat (go_big_quiet_step (exact Calls.regrown_of (object_any o.k hk _ (HP1.out.below (below_regrown _ _ _)))))
        refine wpQuiet_nil ?_
        intro W3 hw'
        obtain ⟨⟨dq, osq⟩, hw''⟩ := hw'
        have hb3 := below_regrown w1 dq osq
        rw [← hw''] at hb3
        replace hb1 := below_then hb1 hb3
        clear hw'' k0 k1 hc1 hf1 hb3
        obtain ⟨hc1, hf1⟩ := bcell hb1
        go_wp2_with (go_at_call 56; refine (hfi _).mono ?_; rintro e w2 ⟨rfl, hb2⟩; replace hb1 := below_then hb1 hb2; clear hc1 hf1 hb2; obtain ⟨hc1, hf1⟩ := bcell hb1)
        go_ret
        exact Ret.mk rfl (below_then (below_two _ _ _) hb1)
      | false =>
        have hx : chk c o = 10 := by unfold chk; rw [if_neg (by rw [hok]; simp), if_neg (by simp [hob]), if_neg (of_decide_eq_false hft)]
        rw [hx]
        rw [hft] at hfi
        clear hft hx
        unfold cfv at *
        unfold opv at *
        go_enter Tryd.func35, Tryd.ntmps35
        go_wp2_with (go_at_call 53; refine (hC _).mono ?_; rintro e w1 ⟨rfl, hb1⟩; obtain ⟨hc1, hf1⟩ := bcell hb1)
        have HP1 := Lib.hid (HP.out.below (below_then (below_two _ _ _) hb1))
        have k0 := cell_regrown (show w1.cell? ⟨w.heap.size, 0, none⟩ = some (.int .u8 c.obj) from (hc1 _ _ (by simp; omega)).trans (by simp [go_sem]))
        have k1 := cell_regrown (show w1.cell? ⟨w.heap.size + 1, 0, none⟩ = some (.int .u8 o.k) from (hc1 _ _ (by simp)).trans (by simp [go_sem]))
        refine wp_region_quiet_below (by kernel_rfl) (by kernel_rfl) ?_
        repeat (go_big_quiet_step (exact Calls.regrown_of (object_any o.k hk _ (HP1.out.below (below_regrown _ _ _)))))
        refine wpQuiet_nil ?_
        intro W3 hw'
        obtain ⟨⟨dq, osq⟩, hw''⟩ := hw'
        have hb3 := below_regrown w1 dq osq
        rw [← hw''] at hb3
        replace hb1 := below_then hb1 hb3
        clear hw'' k0 k1 hc1 hf1 hb3
        obtain ⟨hc1, hf1⟩ := bcell hb1
        go_wp2_with (go_at_call 56; refine (hfi _).mono ?_; rintro e w2 ⟨rfl, hb2⟩; replace hb1 := below_then hb1 hb2; clear hc1 hf1 hb2; obtain ⟨hc1, hf1⟩ := bcell hb1)
        go_ret
        exact Ret.mk rfl (below_then (below_two _ _ _) hb1)
    · have hx : chk c o = 50 := by unfold chk; rw [if_neg (by rw [hok]; simp), if_pos hob]
      rw [hx]
      clear hx
      have hob1 : ((objAt o.k : Int) != c.obj) = true := by simpa using hob
      have hob2 : ((objAt o.k : Int) == c.obj) = false := by simpa using hob
      unfold cfv at *
      unfold opv at *
      go_enter Tryd.func35, Tryd.ntmps35
      go_wp2_with (go_at_call 53; refine (hC _).mono ?_; rintro e w1 ⟨rfl, hb1⟩; obtain ⟨hc1, hf1⟩ := bcell hb1)
      have HP1 := Lib.hid (HP.out.below (below_then (below_two _ _ _) hb1))
      have k0 := cell_regrown (show w1.cell? ⟨w.heap.size, 0, none⟩ = some (.int .u8 c.obj) from (hc1 _ _ (by simp; omega)).trans (by simp [go_sem]))
      have k1 := cell_regrown (show w1.cell? ⟨w.heap.size + 1, 0, none⟩ = some (.int .u8 o.k) from (hc1 _ _ (by simp)).trans (by simp [go_sem]))
      refine wp_region_quiet_below (by kernel_rfl) (by kernel_rfl) ?_
      repeat (go_big_quiet_step (exact Calls.regrown_of (object_any o.k hk _ (HP1.out.below (below_regrown _ _ _)))))
      refine wpQuiet_nil ?_
      intro W3 hw'
      obtain ⟨⟨dq, osq⟩, hw''⟩ := hw'
      have hb3 := below_regrown w1 dq osq
      rw [← hw''] at hb3
      replace hb1 := below_then hb1 hb3
      clear hw'' k0 k1 hc1 hf1 hb3
      obtain ⟨hc1, hf1⟩ := bcell hb1
      go_wp2
      go_ret
      exact Ret.mk rfl (below_then (below_two _ _ _) hb1)
end Go.Proofs.YtljhcegkekdjgaaDoor

namespace Go.Proofs.YtljhcegkekdjgaaDoor
open Go.RowKit
end Go.Proofs.YtljhcegkekdjgaaDoor
