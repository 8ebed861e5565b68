/- Package part: which configs may be, and how great an object is. -/
import Derived.Test.YtmnlfhpkfgfpoaaDoorProg
import Derived.Test.YtmnlfhpkfgfpoaaDoorPtMath
import Derived.Test.YtmnlfhpkfgfpoaaDoorRrLevels
import Derived.Deep.LoopGhost
namespace Go.Proofs.YtmnlfhpkfgfpoaaDoor
open Go.RowKit Pt

/-- What was there is as it was, behind a box and two calls at most. -/
theorem below_b2 {w w1 w2 : World} {o : Obj} (h1 : Below (w.alloc o).heap.size (w.alloc o) w1) (h2 : Below w1.heap.size w1 w2) : Below w.heap.size w w2 := below_then (below_then (below_one _ _) h1) h2
theorem below_b1 {w w1 : World} {o : Obj} (h1 : Below (w.alloc o).heap.size (w.alloc o) w1) : Below w.heap.size w w1 := below_then (below_one _ _) h1

set_option maxHeartbeats 400000 in
theorem isFrom_any (x lo hi : Int) (w : World) : Calls Tryd.prog 45 #[.int .i64 x, .int .i64 lo, .int .i64 hi] w (Ret (.bool (decide (lo ≤ x ∧ x ≤ hi))) w) := by
  go_enter Tryd.func45, Tryd.ntmps45
  go_wp2
  all_goals go_ret
  all_goals exact Ret.mk (bool_eq (by rw [Bool.eq_iff_iff]; simp; omega)) (Below.refl _ _)

set_option maxHeartbeats 400000 in
theorem isFromU_any (x lo hi : Int) (w : World) : Calls Tryd.prog 46 #[.int .u64 x, .int .u64 lo, .int .u64 hi] w (Ret (.bool (decide (lo ≤ x ∧ x ≤ hi))) w) := by
  go_enter Tryd.func46, Tryd.ntmps46
  go_wp2
  all_goals go_ret
  all_goals exact Ret.mk (bool_eq (by rw [Bool.eq_iff_iff]; simp; omega)) (Below.refl _ _)

set_option maxHeartbeats 1000000 in
theorem objMay_any (c : Cf) (w : World) : Calls Tryd.prog 43 #[cfv c] w (Ret (.bool (decide (ObjOk c))) w) := by
  unfold cfv
  go_enter Tryd.func43, Tryd.ntmps43
  go_wp2_with (go_at_call 45; refine (isFrom_any _ _ _ _).mono ?_; rintro e w1 ⟨rfl, hb1⟩; obtain ⟨hc1, hf1⟩ := bcell hb1)
  all_goals go_ret
  all_goals refine Ret.mk (bool_eq ?_) (by first | exact below_one _ _ | exact below_b1 (by assumption) | exact below_b2 (by assumption) (by assumption))
  all_goals (simp only [beq_iff_eq, beq_eq_false_iff_ne] at *; rw [Bool.eq_iff_iff]; simp only [beq_iff_eq, decide_eq_true_eq, Bool.and_eq_true, Bool.false_eq_true, false_iff]; unfold ObjOk; omega)

set_option maxHeartbeats 1000000 in
theorem indMay_any (c : Cf) (w : World) : Calls Tryd.prog 44 #[cfv c] w (Ret (.bool (decide (IndOk c))) w) := by
  unfold cfv
  go_enter Tryd.func44, Tryd.ntmps44
  go_wp2_with (first
    | (go_at_call 45; refine (isFrom_any _ _ _ _).mono ?_; rintro e w1 ⟨rfl, hb1⟩; obtain ⟨hc1, hf1⟩ := bcell hb1)
    | (go_at_call 46; refine (isFromU_any _ _ _ _).mono ?_; rintro e w1 ⟨rfl, hb1⟩; obtain ⟨hc1, hf1⟩ := bcell hb1))
  all_goals go_ret
  all_goals refine Ret.mk (bool_eq ?_) (by first | exact below_one _ _ | exact below_b1 (by assumption) | exact below_b2 (by assumption) (by assumption))
  all_goals (simp only [beq_iff_eq, beq_eq_false_iff_ne] at *; rw [Bool.eq_iff_iff]; simp only [beq_iff_eq, decide_eq_true_eq, Bool.and_eq_true, Bool.false_eq_true, false_iff]; unfold IndOk; omega)

theorem and_f {P Q : Prop} [Decidable P] [Decidable Q] (h : P → Q) (hq : Q → P) : decide P = decide Q := by
  rw [Bool.eq_iff_iff]; simp only [decide_eq_true_eq]; exact ⟨h, hq⟩

set_option maxHeartbeats 2000000 in
theorem mayBe_cfg (c : Cf) (w : World) : Calls Tryd.prog 26 #[cfv c] w (Ret (.bool (okB c)) w) := by
  by_cases ho : ObjOk c
  · have do' := decide_eq_true ho
    by_cases hi : IndOk c
    · have di := decide_eq_true hi
      have e : okB c = decide (RestOk c) := and_f (P := Ok c) (fun h => h.2.2) (fun h => ⟨ho, hi, h⟩)
      rw [e]
      clear ho hi e
      unfold cfv
      go_enter Tryd.func26, Tryd.ntmps26
      go_wp2_with (first
        | (go_at_call 43; refine (objMay_any c _).mono ?_; rintro e w1 ⟨rfl, hb1⟩; rw [do']; obtain ⟨hc1, hf1⟩ := bcell hb1)
        | (go_at_call 44; refine (indMay_any c _).mono ?_; rintro e w2 ⟨rfl, hb2⟩; rw [di]; have hb1 := below_then hb1 hb2; clear hb2 hc1 hf1; obtain ⟨hc1, hf1⟩ := bcell hb1)
        | (go_at_call 45; refine (isFrom_any _ _ _ _).mono ?_; rintro e w2 ⟨rfl, hb2⟩; have hb1 := below_then hb1 hb2; clear hb2 hc1 hf1; obtain ⟨hc1, hf1⟩ := bcell hb1)
        | (go_at_call 46; refine (isFromU_any _ _ _ _).mono ?_; rintro e w2 ⟨rfl, hb2⟩; have hb1 := below_then hb1 hb2; clear hb2 hc1 hf1; obtain ⟨hc1, hf1⟩ := bcell hb1))
      all_goals clear hc1 hf1
      all_goals go_ret
      all_goals refine Ret.mk (bool_eq ?_) (below_b1 hb1)
      all_goals (rw [Bool.eq_iff_iff]; simp only [decide_eq_true_eq, Bool.and_eq_true, Bool.false_eq_true, false_iff]; unfold RestOk; omega)
    · have di := decide_eq_false hi
      have e : okB c = false := decide_eq_false fun h => hi h.2.1
      rw [e]
      clear ho hi e
      unfold cfv
      go_enter Tryd.func26, Tryd.ntmps26
      go_wp2_with (first
        | (go_at_call 43; refine (objMay_any c _).mono ?_; rintro e w1 ⟨rfl, hb1⟩; rw [do']; obtain ⟨hc1, hf1⟩ := bcell hb1)
        | (go_at_call 44; refine (indMay_any c _).mono ?_; rintro e w2 ⟨rfl, hb2⟩; rw [di]; have hb1 := below_then hb1 hb2; clear hb2 hc1 hf1; obtain ⟨hc1, hf1⟩ := bcell hb1))
      go_ret
      exact Ret.mk rfl (below_b1 hb1)
  · have do' := decide_eq_false ho
    have e : okB c = false := decide_eq_false fun h => ho h.1
    rw [e]
    clear ho e
    unfold cfv
    go_enter Tryd.func26, Tryd.ntmps26
    go_wp2_with (go_at_call 43; refine (objMay_any c _).mono ?_; rintro e w1 ⟨rfl, hb1⟩; rw [do']; obtain ⟨hc1, hf1⟩ := bcell hb1)
    go_ret
    exact Ret.mk rfl (below_b1 hb1)

set_option maxHeartbeats 400000 in
theorem check_any (c : Cf) (w : World) : Calls Tryd.prog 12 #[cfv c] w (Ret (.int .i64 (Pt.err (okB c))) w) := by
  cases e : okB c with
  | true =>
    unfold cfv
    go_enter Tryd.func12, Tryd.ntmps12
    go_wp2_with (go_at_call 26; refine (mayBe_cfg c _).mono ?_; rintro e w1 ⟨rfl, hb1⟩; rw [e])
    go_ret
    exact Ret.mk rfl (below_b1 hb1)
  | false =>
    unfold cfv
    go_enter Tryd.func12, Tryd.ntmps12
    go_wp2_with (go_at_call 26; refine (mayBe_cfg c _).mono ?_; rintro e w1 ⟨rfl, hb1⟩; rw [e])
    go_ret
    exact Ret.mk rfl (below_b1 hb1)

set_option maxHeartbeats 1000000 in
theorem itemsOf_any (c : Cf) (h1 : 1 ≤ c.cap ∧ c.cap ≤ 32) (h2 : 2 ≤ c.node ∧ c.node ≤ 4) (w : World) (hp : Pow w) :
    Calls Tryd.prog 36 #[cfv c] w (Ret (.int .i64 (its c (lvs c) : Nat)) w) := by
  have HI := Lib.hid (fun k (hk : k ≤ lvs c) => its_le h1 h2 hk)
  have eL : Rk.lvN c.cap c.node = lvs c := by
    unfold Rk.lvN lvs
    rw [show Rk.okV c.cap c.node = true by unfold Rk.okV Rk.mayBe; simp; omega]
    rfl
  have hl : lvs c ≤ 5 := by rw [← eL]; exact Rk.lvN_le _ _
  have HF := Lib.hid (fun j => show Rk.lvF c.cap c.node j = ((Rk.items c.cap.toNat c.node.toNat j : Nat) : Int) from rfl)
  have HP := Lib.hid hp
  clear hp h1 h2
  unfold cfv
  go_enter Tryd.func36, Tryd.ntmps36
  go_wp2_with fail
  refine (levels_any c.cap c.node _ (HP.out.alloc _)).mono ?_
  rintro e w2 ⟨A, cc, rfl, hc1, hc2, H2, hb2⟩
  rw [eL] at hc1 H2 ⊢
  obtain ⟨L, hL⟩ : ∃ L, lvs c = L := ⟨_, rfl⟩
  rw [hL] at hc1 H2 HI hl ⊢
  have HL := Lib.hid hL
  clear hL eL HP
  have hb := below_b1 hb2
  clear hb2
  go_wp2
  go_loopg [3, 18] L (fun g sv iv wr => w2 = wr ∧ ∃ k : Nat, k ≤ L ∧ g = L - k ∧ iv = .int .i64 k ∧ sv = .int .i64 (its c k : Nat))
  case atStart => exact ⟨rfl, 0, Nat.zero_le _, rfl, rfl, rfl⟩
  case round =>
    obtain ⟨rfl, k, hk, rfl, rfl, rfl⟩ := hrel
    by_cases hlt : k < L
    · obtain ⟨g, rfl, hck⟩ := H2.out k hlt
      rw [HF.out] at hck
      have e1 := HI.out (k + 1) (by omega)
      have ES := Lib.hid (its_succ c k)
      rw [its_succ] at e1
      generalize Rk.items c.cap.toNat c.node.toNat k = x at *
      go_wp2
      go_roundg (L - (k + 1))
      case measure => omega
      case rel => exact ⟨rfl, k + 1, by omega, rfl, by go_num, i64_eq (by rw [ES.out]; omega)⟩
    · obtain rfl : k = L := by omega
      go_wp2
      go_ret
      exact Ret.mk (i64_eq (by rw [HL.out])) hb

set_option maxHeartbeats 1000000 in
theorem sizeOf_any (c : Cf) (h : Ok c) (w : World) (hp : Pow w) : Calls Tryd.prog 23 #[cfv c] w (Ret (.int .i64 (sz c : Nat)) w) := by
  obtain ⟨ho, _, hr⟩ := h
  unfold RestOk at hr
  by_cases h1 : c.obj = 1
  · have hb : 1 ≤ c.bits ∧ c.bits ≤ 6 := by unfold ObjOk at ho; omega
    obtain ⟨b, hb', b1, b6⟩ : ∃ b : Nat, c.bits = b ∧ 1 ≤ b ∧ b ≤ 6 := ⟨c.bits.toNat, by omega, by omega, by omega⟩
    have es : sz c = 2 ^ (b + 1) := by unfold sz; rw [if_pos h1, hb']; rfl
    have hs := pow_small ⟨b, by omega⟩
    simp only at hs
    rw [es]
    clear es ho hr hb hp
    unfold cfv
    rw [h1, hb']
    go_enter Tryd.func23, Tryd.ntmps23
    go_wp2
    go_ret
    refine Ret.mk (i64_eq ?_) (below_one _ _)
    have e : ((2 : Int) ^ (b + 1)) = ((2 ^ (b + 1) : Nat) : Int) := by simp
    rw [e]
    generalize 2 ^ (b + 1) = x at *
    unfold wrap64
    omega
  · by_cases h2 : c.obj = 2
    · have hb : 2 ≤ c.node ∧ c.node ≤ 4 := by unfold ObjOk at ho; omega
      have es : sz c = 1 + its c (lvs c) := by unfold sz; rw [if_neg h1, if_pos h2]
      have hs := its_le (c := c) (by omega) hb (Nat.le_refl _)
      have HC := Lib.hid (itemsOf_any c (by omega) hb _ (hp.alloc (.cells #[.int .u8 c.obj, .int .i64 c.inst, .int .i64 c.thr, .int .u8 c.kind, .int .i64 c.str, .int .i64 c.bits, .int .i64 c.cap, .int .i64 c.node, .int .i64 c.bat, .int .i64 c.chunk, .int .u64 c.lim, .int .u64 c.most] 24)))
      rw [es]
      clear es ho hr hb hp
      generalize its c (lvs c) = x at *
      unfold cfv at HC ⊢
      rw [h2] at HC ⊢
      go_enter Tryd.func23, Tryd.ntmps23
      go_wp2_with (go_at_call 36; refine HC.out.mono ?_; rintro e w2 ⟨rfl, hb2⟩)
      go_ret
      exact Ret.mk (i64_eq (by omega)) (below_b1 hb2)
    · have hc : 1 ≤ c.cap ∧ c.cap ≤ 32 := by omega
      have es : ((sz c : Nat) : Int) = c.cap := by unfold sz; rw [if_neg h1, if_neg h2]; omega
      rw [es]
      clear es ho hr hp
      have e1 : (c.obj == 1) = false := by simpa using h1
      have e2 : (c.obj == 2) = false := by simpa using h2
      unfold cfv
      go_enter Tryd.func23, Tryd.ntmps23
      go_wp2
      go_ret
      exact Ret.mk rfl (below_one _ _)

set_option maxHeartbeats 400000 in
theorem rest_any (c : Cf) (h : Ok c) (w : World) : Calls Tryd.prog 31 #[cfv c] w (Ret (.int .u64 (c.inst + 5)) w) := by
  obtain ⟨_, _, hr⟩ := h
  unfold RestOk at hr
  unfold cfv
  go_enter Tryd.func31, Tryd.ntmps31
  go_wp2
  go_ret
  exact Ret.mk (by first | rfl | (refine u64_eq ?_; simp [IntKind.wrap_u64]; omega)) (below_one _ _)
end Go.Proofs.YtmnlfhpkfgfpoaaDoor
