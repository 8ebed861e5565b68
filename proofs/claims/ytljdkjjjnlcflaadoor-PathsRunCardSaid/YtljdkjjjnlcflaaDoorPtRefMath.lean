/- The document's own answers on configs and places: plain numbers. -/
import Derived.Test.YtljdkjjjnlcflaaDoorPtMath
namespace Go.Proofs.YtljdkjjjnlcflaaDoor.Pt

/-- How many numbers A, and B, a part has. -/
def cntA (c : Cf) (p : Int) : Nat :=
  if p = 1 ∨ p = 2 ∨ p = 3 then 1 else if p = 4 ∨ p = 5 then c.thr.toNat else if p = 6 then (if c.kind = 1 then 2 else 0) else if p = 7 ∨ p = 8 then (if c.kind = 2 then 2 else 0) else if p = 9 ∨ p = 10 then c.inst.toNat else 0
def cntB (c : Cf) (p : Int) : Nat :=
  if p = 1 ∨ p = 2 ∨ p = 3 then 1 else if p = 4 ∨ p = 5 then 1 else if p = 6 then (if c.kind = 1 then c.thr.toNat else 0) else if p = 7 ∨ p = 8 then (if c.kind = 2 then c.str.toNat else 0) else if p = 9 then 1 else if p = 10 then sz c else 0
def hasB (c : Cf) (q : Pl) : Bool := decide (0 ≤ q.a ∧ q.a < cntA c q.p ∧ 0 ≤ q.b ∧ q.b < cntB c q.p)
/-- The cells of the parts 1 to k - 1. -/
def sumP (c : Cf) : Nat → Nat
  | 0 => 0
  | 1 => 0
  | k + 2 => sumP c (k + 1) + cntA c ((k + 1 : Nat) : Int) * cntB c ((k + 1 : Nat) : Int)
/-- Where a place that there is stands. -/
def wh (c : Cf) (q : Pl) : Nat :=
  if q.p = 9 then ahd (kB c) c.thr.toNat c.str.toNat + q.a.toNat * (1 + sz c)
  else if q.p = 10 then ahd (kB c) c.thr.toNat c.str.toNat + q.a.toNat * (1 + sz c) + 1 + q.b.toNat
  else sumP c q.p.toNat + q.a.toNat * cntB c q.p + q.b.toNat

theorem sumP_succ (c : Cf) {k : Nat} (h : 1 ≤ k) : sumP c (k + 1) = sumP c k + cntA c (k : Int) * cntB c (k : Int) := by
  obtain ⟨j, rfl⟩ : ∃ j, k = j + 1 := ⟨k - 1, by omega⟩
  rfl
theorem sumP_nine (c : Cf) (h : Ok c) : sumP c 9 = ahd (kB c) c.thr.toNat c.str.toNat := by
  have hi := h.2.1
  unfold IndOk at hi
  unfold kB ahd
  by_cases hk : c.kind = 1
  · simp [sumP, cntA, cntB, hk]; omega
  · have hk2 : c.kind = 2 := by omega
    simp [sumP, cntA, cntB, hk2]; omega
theorem cnt_small (c : Cf) (h : Ok c) (p : Int) : cntA c p ≤ 16 ∧ cntB c p ≤ 128 ∧ cntA c p * cntB c p ≤ 512 := by
  have hz := sz_bounds h
  have hi := h.2.1
  have hr := h.2.2
  unfold IndOk at hi
  unfold RestOk at hr
  have h1 : cntA c p ≤ 16 := by unfold cntA; (repeat' split) <;> omega
  have h2 : cntB c p ≤ 128 := by unfold cntB; (repeat' split) <;> omega
  refine ⟨h1, h2, ?_⟩
  by_cases e : p = 9 ∨ p = 10
  · have h3 : cntA c p ≤ 4 := by unfold cntA; (repeat' split) <;> omega
    exact Nat.mul_le_mul h3 h2
  · have h3 : cntB c p ≤ 32 := by unfold cntB; (repeat' split) <;> omega
    exact Nat.mul_le_mul h1 h3
theorem sumP_le (c : Cf) (h : Ok c) {k : Nat} (hk : k ≤ 9) : sumP c k ≤ 80 := by
  have mono : ∀ i j, i ≤ j → sumP c i ≤ sumP c j := fun i j hij => by
    induction j with
    | zero => rw [show i = 0 by omega]; exact Nat.le_refl _
    | succ j ih =>
      by_cases e : i = j + 1
      · rw [e]; exact Nat.le_refl _
      · rcases Nat.eq_zero_or_pos j with e0 | e0
        · subst e0; obtain rfl : i = 0 := by omega
          exact Nat.le_refl _
        · rw [sumP_succ c e0]
          exact Nat.le_trans (ih (by omega)) (Nat.le_add_right _ _)
  have := mono k 9 hk
  rw [sumP_nine c h] at this
  have hi := h.2.1
  have hr := h.2.2
  unfold IndOk at hi
  unfold RestOk at hr
  unfold ahd at this
  split at this <;> omega
theorem has_part {c : Cf} {q : Pl} (h : hasB c q = true) : 1 ≤ q.p ∧ q.p ≤ 10 := by
  have := (of_decide_eq_true h : _ ∧ _ ∧ _ ∧ _)
  have e : cntA c q.p ≠ 0 := by omega
  unfold cntA at e
  rcases Int.lt_trichotomy q.p 1 with g | g | g
  · exfalso; apply e; (repeat' split) <;> omega
  · omega
  · rcases Int.lt_trichotomy q.p 10 with g2 | g2 | g2
    · omega
    · omega
    · exfalso; apply e; (repeat' split) <;> omega

theorem has9 (I : Nat) (q : Pl) : (⟨9, I, 1, 1⟩ : Blk).Has q ↔ q.p = 9 ∧ q.a = I ∧ q.b = 0 := by unfold Blk.Has; simp only; omega
theorem has10 (I Z : Nat) (q : Pl) : (⟨10, I, 1, Z⟩ : Blk).Has q ↔ q.p = 10 ∧ q.a = I ∧ 0 ≤ q.b ∧ q.b < Z := by unfold Blk.Has; simp only; omega
theorem find_pos {x : Blk} {xs : List Blk} {q : Pl} (h : x.Has q) : find (x :: xs) q = some (x.ix q) := if_pos h
theorem find_neg {x : Blk} {xs : List Blk} {q : Pl} (h : ¬ x.Has q) : find (x :: xs) q = (find xs q).map (x.cnt + ·) := if_neg h
theorem find_append (xs ys : List Blk) (q : Pl) : find (xs ++ ys) q = (match find xs q with | some a => some a | none => (find ys q).map (total xs + ·)) := by
  induction xs with
  | nil => simp [find, total]
  | cons x xs ih =>
    rw [List.cons_append]
    by_cases h : x.Has q
    · rw [find_pos h, find_pos h]
    · rw [find_neg h, find_neg h, ih]
      cases find xs q with
      | some a => rfl
      | none =>
        cases find ys q with
        | none => rfl
        | some b => simp [total]; omega
def instF (Z : Nat) (q : Pl) (I : Nat) : Option Nat :=
  if 0 ≤ q.a ∧ q.a < I then (if q.p = 9 ∧ q.b = 0 then some (q.a.toNat * (1 + Z)) else if q.p = 10 ∧ 0 ≤ q.b ∧ q.b < Z then some (q.a.toNat * (1 + Z) + 1 + q.b.toNat) else none) else none
theorem find_inst (Z : Nat) (q : Pl) : ∀ I, find ((List.range I).flatMap (instL Z)) q = instF Z q I
  | 0 => by unfold instF; rw [if_neg (by omega)]; rfl
  | I + 1 => by
    have hL : List.flatMap (instL Z) [I] = [⟨9, I, 1, 1⟩, ⟨10, I, 1, Z⟩] := by simp [instL]
    rw [List.range_succ, List.flatMap_append, find_append, find_inst Z q I, insts_total, hL]
    by_cases h0 : 0 ≤ q.a ∧ q.a < I
    · rw [find_neg (by rw [has9]; omega), find_neg (by rw [has10]; omega)]
      unfold instF
      rw [if_pos h0, if_pos (show 0 ≤ q.a ∧ q.a < ((I + 1 : Nat) : Int) by omega)]
      (repeat' split) <;> simp_all [find]
    · have e0 : instF Z q I = none := if_neg h0
      rw [e0]
      by_cases h1 : q.a = I
      · have ha : q.a.toNat = I := by omega
        unfold instF
        rw [if_pos (show 0 ≤ q.a ∧ q.a < ((I + 1 : Nat) : Int) by omega), ha]
        by_cases h9 : q.p = 9 ∧ q.b = 0
        · rw [find_pos ((has9 I q).2 ⟨h9.1, h1, h9.2⟩), if_pos h9]
          simp [Blk.ix, h1, h9.2]
        · rw [find_neg (by rw [has9]; omega), if_neg h9]
          by_cases h10 : q.p = 10 ∧ 0 ≤ q.b ∧ q.b < Z
          · rw [find_pos ((has10 I Z q).2 ⟨h10.1, h1, h10.2⟩), if_pos h10]
            simp [Blk.ix, Blk.cnt, h1]; omega
          · rw [find_neg (by rw [has10]; omega), if_neg h10]
            rfl
      · rw [find_neg (by rw [has9]; omega), find_neg (by rw [has10]; omega)]
        unfold instF
        rw [if_neg (by omega)]
        rfl

theorem has0 (p m n : Nat) (q : Pl) : (⟨p, 0, m, n⟩ : Blk).Has q ↔ q.p = p ∧ 0 ≤ q.a ∧ q.a < m ∧ 0 ≤ q.b ∧ q.b < n := by unfold Blk.Has; simp only; omega
/-- What a look-up tells, in the document's words. -/
theorem find_eq (c : Cf) (h : Ok c) (q : Pl) : find (bl c) q = if hasB c q = true then some (wh c q) else none := by
  have hi := h.2.1
  unfold IndOk at hi
  have hr := h.2.2
  unfold RestOk at hr
  have hp : q.p = 1 ∨ q.p = 2 ∨ q.p = 3 ∨ q.p = 4 ∨ q.p = 5 ∨ q.p = 6 ∨ q.p = 7 ∨ q.p = 8 ∨ q.p = 9 ∨ q.p = 10 ∨ (¬ q.p = 1 ∧ ¬ q.p = 2 ∧ ¬ q.p = 3 ∧ ¬ q.p = 4 ∧ ¬ q.p = 5 ∧ ¬ q.p = 6 ∧ ¬ q.p = 7 ∧ ¬ q.p = 8 ∧ ¬ q.p = 9 ∧ ¬ q.p = 10) := by omega
  have ht : total (headL (kB c) c.thr.toNat c.str.toNat) = ahd (kB c) c.thr.toNat c.str.toNat := head_total _ _ _
  unfold bl blks
  rw [find_append, find_inst, ht]
  by_cases hk : c.kind = 1
  · have hk2 : ¬ c.kind = 2 := by omega
    rcases hp with e | e | e | e | e | e | e | e | e | e | ⟨e1, e2, e3, e4, e5, e6, e7, e8, e9, e10⟩
    all_goals simp [headL, kB, find, has0, hasB, cntA, cntB, wh, instF, Blk.ix, Blk.cnt, sumP, *]
    all_goals (repeat' split)
    all_goals first | rfl | (exfalso; omega) | (simp_all; done) | (simp_all; omega) | trace_state
  · have hk2 : c.kind = 2 := by omega
    rcases hp with e | e | e | e | e | e | e | e | e | e | ⟨e1, e2, e3, e4, e5, e6, e7, e8, e9, e10⟩
    all_goals simp [headL, kB, find, has0, hasB, cntA, cntB, wh, instF, Blk.ix, Blk.cnt, sumP, *]
    all_goals (repeat' split)
    all_goals first | rfl | (exfalso; omega) | (simp_all; done) | (simp_all; omega) | trace_state
end Go.Proofs.YtljdkjjjnlcflaaDoor.Pt
