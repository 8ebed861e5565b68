/- The program of a table of routes ends, touches nodes that there are, and its frames fit into a cell: plain numbers. -/
import Derived.Test.YtjhgccfnihbokaaDoorTrRef
namespace Go.Proofs.YtjhgccfnihbokaaDoor
open Pt Opn

/-- How many acts a start has, at most. -/
theorem leftT_start {c : Cf} {o : O} (hc : c.obj = 1) (h : TMay c (startF o)) : leftT c (startF o) ≤ if o.k = 3 then c.bits.toNat + 1 else 2 * (c.bits.toNat + 1) + 2 := by
  have hf := fitsT hc h.1
  unfold leftT
  unfold startF at hf ⊢
  simp only at hf ⊢
  by_cases hk : o.k = 3
  · rw [if_pos hk, if_pos hk]; simp
  · rw [if_neg hk, if_neg hk]
    simp
    omega
/-- It is done where none is left. -/
theorem leftT_zero {c : Cf} {f : Ds} (hc : c.obj = 1) (h : TMay c f) (h0 : leftT c f = 0) : (stepT c f).kind = 4 := by
  have hp := pcsT h.2.1
  have hks : f.kind = 1 ∨ f.kind = 2 ∨ f.kind = 3 := by rcases fitsT hc h.1 with g | g | g <;> omega
  have hpc : f.pc = 6 ∨ f.pc = 7 ∨ f.pc = 8 := by
    unfold leftT at h0
    (repeat' split at h0) <;> omega
  unfold stepT
  rw [if_neg (by omega), if_neg (by omega), if_neg (by omega), if_neg (by omega), if_neg (by omega)]
  (repeat' split) <;> rfl
/-- What it touches are nodes that there are; a look-up writes nothing. -/
theorem stepT_place {c : Cf} {f : Ds} (hc : Ok c) (hobj : c.obj = 1) (h : TMay c f) (hd : (stepT c f).kind ≠ 4) : 1 ≤ (stepT c f).pl ∧ (stepT c f).pl < 2 ^ (c.bits.toNat + 1) ∧ ((stepT c f).kind = 1 ∨ ((stepT c f).kind = 2 ∧ f.kind ≠ 3)) := by
  obtain ⟨b1, b2, b3, b4, b5, b6, b7, b8⟩ := mayT_bounds hc hobj h
  have hp := pcsT h.2.1
  have hw1 : 2 ^ topT c f ≤ wholeT c f := by unfold wholeT; omega
  have hw2 : wholeT c f < 2 ^ (topT c f + 1) := by unfold wholeT; rw [Nat.pow_succ]; omega
  have hw3 : 2 ^ (topT c f + 1) ≤ 2 ^ (c.bits.toNat + 1) := Nat.pow_le_pow_right (by decide) (by omega)
  have h1 : 1 ≤ 2 ^ topT c f := Nat.one_le_two_pow
  have hd1 : 1 ≤ deepT c f := by
    unfold deepT
    refine (Nat.le_div_iff_mul_le (Nat.two_pow_pos _)).2 ?_
    have : 2 ^ (topT c f - f.h) ≤ 2 ^ topT c f := Nat.pow_le_pow_right (by decide) (by omega)
    omega
  have hd2 : deepT c f ≤ wholeT c f := Nat.div_le_self _ _
  have h2 : 2 ≤ 2 ^ (c.bits.toNat + 1) := by rw [Nat.pow_succ]; have := Nat.one_le_two_pow (n := c.bits.toNat); omega
  have hpc : f.pc = 0 ∨ f.pc = 1 ∨ f.pc = 2 ∨ f.pc = 3 ∨ f.pc = 5 := by
    have hne : f.pc ≠ 6 ∧ f.pc ≠ 7 ∧ f.pc ≠ 8 := by
      refine ⟨fun e => hd ?_, fun e => hd ?_, fun e => hd ?_⟩ <;> unfold stepT <;> simp [e]
    omega
  have hk3 : f.kind = 3 → f.pc = 0 := fun e => by have := hp.2.2 e; omega
  rcases hpc with e | e | e | e | e <;> unfold stepT <;> simp only [e]
  · by_cases hk : f.kind = 3
    · simp [hk] <;> omega
    · simp [hk] <;> omega
  · simp <;> omega
  · simp <;> omega
  · simp <;> omega
  · simp <;> omega
/-- A frame that goes on fits into a cell. -/
def SmallT (f : Ds) : Prop := f.tag = 0 ∧ f.k = 0 ∧ f.seq = 0 ∧ f.i = 0 ∧ f.j = 0 ∧ f.p = 0 ∧ f.n < 64
theorem small_start (o : O) : SmallT (startF o) := by unfold SmallT startF; simp
theorem small_behind {c : Cf} {f : Ds} (h : SmallT f) (A B : Nat) : SmallT (behindT c f A B) := by
  obtain ⟨_, _, _, _, o5, o6, o7, o8, o9, o10⟩ := behindT_op c f A B
  obtain ⟨h1, h2, h3, h4, h5, h6, h7⟩ := h
  have hn : (behindT c f A B).n < 64 := by
    unfold behindT lookT
    simp only
    (repeat' split) <;> (try simp) <;> omega
  unfold SmallT
  exact ⟨by rw [o8]; exact h1, by rw [o9]; exact h2, by rw [o10]; exact h3, by rw [o5]; exact h4, by rw [o6]; exact h5, by rw [o7]; exact h6, hn⟩
theorem small_fits {c : Cf} {f : Ds} (hc : Ok c) (hobj : c.obj = 1) (h : TMay c f) (hs : SmallT f) : DFits f := by
  obtain ⟨b1, b2, b3, b4, b5, b6, b7, b8⟩ := mayT_bounds hc hobj h
  have hp := pcsT h.2.1
  unfold SmallT at hs
  unfold DFits
  omega
end Go.Proofs.YtjhgccfnihbokaaDoor
