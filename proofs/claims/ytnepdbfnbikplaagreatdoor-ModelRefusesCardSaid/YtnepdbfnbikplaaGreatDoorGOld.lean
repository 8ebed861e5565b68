/- The document's own answer on how wide a node may be. The document's own answers on the levels of a row: widths, items, the top. Package rank: a trie's nodes, for every number. rank.Depth. The document's own answers on a node's depth, and on the node above one. The document's own answer on how great an object is. The document's own answer on which configs may be. Package part: which configs may be. -/
import Derived.Test.YtnepdbfnbikplaaGreatDoorProg
import Derived.Test.YtnepdbfnbikplaaGreatDoorGMath
import Derived.Deep.LoopGhost
import Derived.Lib.Walk
import Derived.Lib.Strings
import Derived.Lib.Slices
import Derived.Lib.Small
import Derived.Lib.BitFns
import Derived.Test.YtnepdbfnbikplaaGreatDoorGKit
import Derived.RegionTactic
import Derived.BigRegion
import Derived.BigQuiet
import Derived.Deep.QuietTactic
namespace Go.Proofs.YtnepdbfnbikplaaGreatDoor
open Go.RowKit
end Go.Proofs.YtnepdbfnbikplaaGreatDoor

namespace Go.Proofs.YtnepdbfnbikplaaGreatDoor
open Go.RowKit
end Go.Proofs.YtnepdbfnbikplaaGreatDoor

namespace Go.Proofs.YtnepdbfnbikplaaGreatDoor
open Go.RowKit

set_option maxHeartbeats 400000 in
theorem isNode_any (n : Int) (w : World) :
    Calls Tryz.prog 62 #[.int .i64 n] w (Ret (.bool (Rk.isN n)) w) := by
  go_enter Tryz.func62, Tryz.ntmps62
  go_wp2
  all_goals go_ret
  all_goals exact Ret.mk (bool_eq (by unfold Rk.isN; rw [Bool.eq_iff_iff]; simp; omega)) (Below.refl _ _)

set_option maxRecDepth 100000 in
set_option maxHeartbeats 1000000 in
theorem len64_any (x : Int) (h0 : 0 ≤ x) (h1 : x ≤ 127) (w : World) :
    Calls Tryz.prog 69 #[.int .u64 x] w (Ret (.int .i64 (Lib.bitLen x.toNat)) w) := by
  go_enter Tryz.func69, Tryz.ntmps69
  go_wp2
  go_ret
  exact Ret.mk (i64_eq (Rk.tab_small ⟨x.toNat, by omega⟩)) (Below.refl _ _)

theorem len_any (x : Int) (h0 : 0 ≤ x) (h1 : x ≤ 127) (w : World) :
    Calls Tryz.prog 66 #[.int .u64 x] w (Ret (.int .i64 (Lib.bitLen x.toNat)) w) := by
  go_enter Tryz.func66, Tryz.ntmps66
  go_wp2_with (go_at_call 69; refine (len64_any x h0 h1 _).mono ?_; rintro e w' ⟨rfl, hb⟩)
  go_ret
  exact Ret.mk rfl hb

theorem depthOf_any (x : Int) (h : Rk.isN x = true) (w : World) :
    Calls Tryz.prog 63 #[.int .i64 x] w (Ret (.int .i64 (Rk.dep x)) w) := by
  have h0 : 0 ≤ x := by have := Rk.isN_true h; omega
  have h1 : x ≤ 127 := by have := Rk.isN_true h; omega
  have hL := Rk.len_dep h
  obtain ⟨d0, d1⟩ := Rk.dep_bounds h
  clear h
  go_enter Tryz.func63, Tryz.ntmps63
  go_wp2_with (go_at_call 66; refine (len_any x h0 h1 _).mono ?_; rintro e w' ⟨rfl, hb⟩; rw [hL])
  go_ret
  exact Ret.mk (i64_eq (by omega)) hb

set_option maxHeartbeats 400000 in
theorem over_any (n k : Int) (w : World) :
    Calls Tryz.prog 55 #[.int .i64 n, .int .i64 k] w (Ret2 (.int .i64 (Rk.val (Rk.okO n k) (Rk.over n k))) (.int .i64 (Rk.err (Rk.okO n k))) w) := by
  cases h : Rk.isN n with
  | false =>
    have e : Rk.okO n k = false := by unfold Rk.okO; rw [h]; rfl
    rw [e]
    clear e
    go_enter Tryz.func55, Tryz.ntmps55
    go_wp2_with (go_at_call 62; refine (isNode_any n _).mono ?_; rintro e w' ⟨rfl, hb⟩)
    go_ret2
    exact Ret2.mk rfl rfl hb
  | true =>
    have h0 : 0 ≤ n := by have := Rk.isN_true h; omega
    have h1 : n ≤ 127 := by have := Rk.isN_true h; omega
    obtain ⟨d0, d1⟩ := Rk.dep_bounds h
    go_enter Tryz.func55, Tryz.ntmps55
    go_wp2_with (first
      | (go_at_call 62; refine (isNode_any n _).mono ?_; rintro e w' ⟨rfl, hb⟩)
      | (go_at_call 63; refine (depthOf_any n h _).mono ?_; rintro e w2 ⟨rfl, hb2⟩))
    · go_ret2
      exact Ret2.mk (i64_eq (Rk.val_f (Rk.okO_f (by omega)))) (i64_eq (Rk.err_f (Rk.okO_f (by omega)))) (below_then hb hb2)
    · go_ret2
      exact Ret2.mk (i64_eq (Rk.val_t (Rk.okO_t h (by omega) (by omega)) (Rk.over_eq h0))) (i64_eq (Rk.err_t (Rk.okO_t h (by omega) (by omega)))) (below_then hb hb2)
    · go_ret2
      exact Ret2.mk (i64_eq (Rk.val_f (Rk.okO_f (by omega)))) (i64_eq (Rk.err_f (Rk.okO_f (by omega)))) hb

set_option maxHeartbeats 1000000 in
theorem node_any (l p : Int) (w : World) :
    Calls Tryz.prog 56 #[.int .i64 l, .int .i64 p] w (Ret2 (.int .i64 (Rk.val (Rk.okP l p) (Rk.node l p))) (.int .i64 (Rk.err (Rk.okP l p))) w) := by
  by_cases h : 0 ≤ l ∧ l ≤ 6
  · obtain ⟨h0, h6⟩ := h
    rcases Rk.two_cases h0 h6 with rfl | rfl | rfl | rfl | rfl | rfl | rfl
    all_goals
      go_enter Tryz.func56, Tryz.ntmps56
      go_wp2
    all_goals go_ret2
    all_goals first
      | exact Ret2.mk (i64_eq (Rk.val_t (Rk.okP_t h0 h6 (by omega) (by simp; omega)) rfl)) (i64_eq (Rk.err_t (Rk.okP_t h0 h6 (by omega) (by simp; omega)))) (Below.refl _ _)
      | exact Ret2.mk (i64_eq (Rk.val_f (Rk.okP_f2 (by simp; omega)))) (i64_eq (Rk.err_f (Rk.okP_f2 (by simp; omega)))) (Below.refl _ _)
  · have e : Rk.okP l p = false := Rk.okP_f (by omega)
    rw [e]
    clear e
    go_enter Tryz.func56, Tryz.ntmps56
    go_wp2
    all_goals first
      | omega
      | (go_ret2; exact Ret2.mk rfl rfl (Below.refl _ _))
end Go.Proofs.YtnepdbfnbikplaaGreatDoor

namespace Go.Proofs.YtnepdbfnbikplaaGreatDoor
open Go.RowKit
end Go.Proofs.YtnepdbfnbikplaaGreatDoor

namespace Go.Proofs.YtnepdbfnbikplaaGreatDoor
open Go.RowKit
end Go.Proofs.YtnepdbfnbikplaaGreatDoor

namespace Go.Proofs.YtnepdbfnbikplaaGreatDoor
open Go.RowKit Pt
end Go.Proofs.YtnepdbfnbikplaaGreatDoor

namespace Go.Proofs.YtnepdbfnbikplaaGreatDoor
open Go.RowKit Pt

theorem ok_true {c : Cf} (h : Ok c) : true = okB c := (decide_eq_true h).symm
theorem ok_false {c : Cf} (h : ¬ Ok c) : false = okB c := (decide_eq_false h).symm

end Go.Proofs.YtnepdbfnbikplaaGreatDoor

namespace Go.Proofs.YtnepdbfnbikplaaGreatDoor
open Go.RowKit Pt

set_option maxHeartbeats 400000 in
theorem isFrom_any (x lo hi : Int) (w : World) : Calls Tryz.prog 23 #[.int .i64 x, .int .i64 lo, .int .i64 hi] w (Ret (.bool (decide (lo ≤ x ∧ x ≤ hi))) w) := by
  go_enter Tryz.func23, Tryz.ntmps23
  go_wp2
  all_goals go_ret
  all_goals exact Ret.mk (bool_eq (by rw [Bool.eq_iff_iff]; simp; omega)) (Below.refl _ _)

set_option maxHeartbeats 400000 in
theorem isFromU_any (x lo hi : Int) (w : World) : Calls Tryz.prog 24 #[.int .u64 x, .int .u64 lo, .int .u64 hi] w (Ret (.bool (decide (lo ≤ x ∧ x ≤ hi))) w) := by
  go_enter Tryz.func24, Tryz.ntmps24
  go_wp2
  all_goals go_ret
  all_goals exact Ret.mk (bool_eq (by rw [Bool.eq_iff_iff]; simp; omega)) (Below.refl _ _)

set_option maxHeartbeats 1000000 in
theorem objMay_any (c : Cf) (w : World) : Calls Tryz.prog 21 #[cfv c] w (Ret (.bool (decide (ObjOk c))) w) := by
  unfold cfv
  go_enter Tryz.func21, Tryz.ntmps21
  go_wp2_with (go_at_call 23; refine (isFrom_any _ _ _ _).mono ?_; rintro e w1 ⟨rfl, hb1⟩; obtain ⟨hc1, hf1⟩ := bcell hb1)
  all_goals go_ret
  all_goals refine Ret.mk (bool_eq ?_) (by first | exact below_one _ _ | exact below_b1 (by assumption) | exact below_b2 (by assumption) (by assumption))
  all_goals (simp only [beq_iff_eq, beq_eq_false_iff_ne] at *; rw [Bool.eq_iff_iff]; simp only [beq_iff_eq, decide_eq_true_eq, Bool.and_eq_true, Bool.false_eq_true, false_iff]; unfold ObjOk; omega)

set_option maxHeartbeats 1000000 in
theorem indMay_any (c : Cf) (w : World) : Calls Tryz.prog 22 #[cfv c] w (Ret (.bool (decide (IndOk c))) w) := by
  unfold cfv
  go_enter Tryz.func22, Tryz.ntmps22
  go_wp2_with (first
    | (go_at_call 23; refine (isFrom_any _ _ _ _).mono ?_; rintro e w1 ⟨rfl, hb1⟩; obtain ⟨hc1, hf1⟩ := bcell hb1)
    | (go_at_call 24; refine (isFromU_any _ _ _ _).mono ?_; rintro e w1 ⟨rfl, hb1⟩; obtain ⟨hc1, hf1⟩ := bcell hb1))
  all_goals go_ret
  all_goals refine Ret.mk (bool_eq ?_) (by first | exact below_one _ _ | exact below_b1 (by assumption) | exact below_b2 (by assumption) (by assumption))
  all_goals (simp only [beq_iff_eq, beq_eq_false_iff_ne] at *; rw [Bool.eq_iff_iff]; simp only [beq_iff_eq, decide_eq_true_eq, Bool.and_eq_true, Bool.false_eq_true, false_iff]; unfold IndOk; omega)

theorem and_f {P Q : Prop} [Decidable P] [Decidable Q] (h : P → Q) (hq : Q → P) : decide P = decide Q := by
  rw [Bool.eq_iff_iff]; simp only [decide_eq_true_eq]; exact ⟨h, hq⟩

set_option maxHeartbeats 2000000 in
theorem mayBe_cfg (c : Cf) (w : World) : Calls Tryz.prog 16 #[cfv c] w (Ret (.bool (okB c)) w) := by
  by_cases ho : ObjOk c
  · have do' := decide_eq_true ho
    by_cases hi : IndOk c
    · have di := decide_eq_true hi
      have e : okB c = decide (RestOk c) := and_f (P := Ok c) (fun h => h.2.2) (fun h => ⟨ho, hi, h⟩)
      rw [e]
      clear ho hi e
      unfold cfv
      go_enter Tryz.func16, Tryz.ntmps16
      go_wp2_with (first
        | (go_at_call 21; refine (objMay_any c _).mono ?_; rintro e w1 ⟨rfl, hb1⟩; rw [do']; obtain ⟨hc1, hf1⟩ := bcell hb1)
        | (go_at_call 22; refine (indMay_any c _).mono ?_; rintro e w2 ⟨rfl, hb2⟩; rw [di]; have hb1 := below_then hb1 hb2; clear hb2 hc1 hf1; obtain ⟨hc1, hf1⟩ := bcell hb1)
        | (go_at_call 23; refine (isFrom_any _ _ _ _).mono ?_; rintro e w2 ⟨rfl, hb2⟩; have hb1 := below_then hb1 hb2; clear hb2 hc1 hf1; obtain ⟨hc1, hf1⟩ := bcell hb1)
        | (go_at_call 24; refine (isFromU_any _ _ _ _).mono ?_; rintro e w2 ⟨rfl, hb2⟩; have hb1 := below_then hb1 hb2; clear hb2 hc1 hf1; obtain ⟨hc1, hf1⟩ := bcell hb1))
      all_goals clear hc1 hf1
      all_goals go_ret
      all_goals refine Ret.mk (bool_eq ?_) (below_b1 hb1)
      all_goals (rw [Bool.eq_iff_iff]; simp only [decide_eq_true_eq, Bool.and_eq_true, Bool.false_eq_true, false_iff]; unfold RestOk; omega)
    · have di := decide_eq_false hi
      have e : okB c = false := decide_eq_false fun h => hi h.2.1
      rw [e]
      clear ho hi e
      unfold cfv
      go_enter Tryz.func16, Tryz.ntmps16
      go_wp2_with (first
        | (go_at_call 21; refine (objMay_any c _).mono ?_; rintro e w1 ⟨rfl, hb1⟩; rw [do']; obtain ⟨hc1, hf1⟩ := bcell hb1)
        | (go_at_call 22; refine (indMay_any c _).mono ?_; rintro e w2 ⟨rfl, hb2⟩; rw [di]; have hb1 := below_then hb1 hb2; clear hb2 hc1 hf1; obtain ⟨hc1, hf1⟩ := bcell hb1))
      go_ret
      exact Ret.mk rfl (below_b1 hb1)
  · have do' := decide_eq_false ho
    have e : okB c = false := decide_eq_false fun h => ho h.1
    rw [e]
    clear ho e
    unfold cfv
    go_enter Tryz.func16, Tryz.ntmps16
    go_wp2_with (go_at_call 21; refine (objMay_any c _).mono ?_; rintro e w1 ⟨rfl, hb1⟩; rw [do']; obtain ⟨hc1, hf1⟩ := bcell hb1)
    go_ret
    exact Ret.mk rfl (below_b1 hb1)

set_option maxHeartbeats 400000 in
theorem check_any (c : Cf) (w : World) : Calls Tryz.prog 12 #[cfv c] w (Ret (.int .i64 (Pt.err (okB c))) w) := by
  cases e : okB c with
  | true =>
    unfold cfv
    go_enter Tryz.func12, Tryz.ntmps12
    go_wp2_with (go_at_call 16; refine (mayBe_cfg c _).mono ?_; rintro e w1 ⟨rfl, hb1⟩; rw [e])
    go_ret
    exact Ret.mk rfl (below_b1 hb1)
  | false =>
    unfold cfv
    go_enter Tryz.func12, Tryz.ntmps12
    go_wp2_with (go_at_call 16; refine (mayBe_cfg c _).mono ?_; rintro e w1 ⟨rfl, hb1⟩; rw [e])
    go_ret
    exact Ret.mk rfl (below_b1 hb1)
end Go.Proofs.YtnepdbfnbikplaaGreatDoor
