/- Operations: plain numbers. -/
import Derived.Test.YtpepahecjkkpbaaPtMath
import Derived.Test.YtpepahecjkkpbaaPkMath
namespace Go.Proofs.Ytpepahecjkkpbaa.Opn
open Pt

/-- An operation. -/
structure O where
  k : Nat
  a : Nat
  b : Nat
  c : Nat
def opv (o : O) : Value := .agg #[.int .u8 (o.k : Nat), .int .u32 (o.a : Nat), .int .u32 (o.b : Nat), .int .u32 (o.c : Nat)]
theorem O.ext' {x y : O} (h : x.k = y.k) (h1 : x.a = y.a) (h2 : x.b = y.b) (h3 : x.c = y.c) : x = y := by cases x; cases y; simp_all
/-- Its numbers are of the types. -/
def Wf (o : O) : Prop := o.k < 256 ∧ o.a < 4294967296 ∧ o.b < 4294967296 ∧ o.c < 4294967296

/-- Whose a kind is. -/
def objAt (k : Nat) : Nat := if k = 0 then 0 else if k ≤ 3 then 1 else if k ≤ 8 then 2 else if k ≤ 11 then 3 else if k ≤ 14 then 4 else 0
def wrB (k : Nat) : Bool := decide (k = 1 ∨ k = 2 ∨ k = 4 ∨ k = 5 ∨ k = 9 ∨ k = 10 ∨ k = 12 ∨ k = 13)
def Prefix (n a b : Nat) : Prop := b ≤ n ∧ a < 2 ^ b
def Path (a b : Nat) : Prop := a % 65536 ≠ 0 ∧ b ≤ 65535 ∧ (a / 65536 ≠ 0 ∨ b = 0)
/-- Does an operation fit? n: a key's bits. -/
def Fits (n : Nat) (o : O) : Prop :=
  (o.k = 1 ∧ Prefix n o.a o.b ∧ o.c ≤ 2147483647) ∨ (o.k = 2 ∧ Prefix n o.a o.b ∧ o.c = 0) ∨ (o.k = 3 ∧ o.a < 2 ^ n ∧ o.b = 0 ∧ o.c = 0) ∨
  ((o.k = 4 ∨ o.k = 8) ∧ o.a ≤ 2147483647 ∧ o.b ≤ 2147483647 ∧ o.c = 0) ∨ ((o.k = 5 ∨ o.k = 6 ∨ o.k = 7) ∧ o.a ≤ 2147483647 ∧ o.b = 0 ∧ o.c = 0) ∨
  (o.k = 9 ∧ o.a ≤ 65535 ∧ o.b ≤ 65535 ∧ (o.c = 1 ∨ o.c = 2)) ∨ (o.k = 10 ∧ o.a ≤ 65535 ∧ o.b ≤ 65535 ∧ o.c = 0) ∨
  (o.k = 11 ∧ 1 ≤ o.a ∧ o.a ≤ 65535 ∧ 1 ≤ o.b ∧ o.b ≤ 65535 ∧ o.c = 0) ∨ (o.k = 12 ∧ Path o.a o.b ∧ o.c ≤ 2147483647) ∨ ((o.k = 13 ∨ o.k = 14) ∧ Path o.a o.b ∧ o.c = 0)
instance (n a b : Nat) : Decidable (Prefix n a b) := by unfold Prefix; infer_instance
instance (a b : Nat) : Decidable (Path a b) := by unfold Path; infer_instance
instance (n : Nat) (o : O) : Decidable (Fits n o) := by unfold Fits; infer_instance
/-- What a check answers. -/
def chk (c : Cf) (o : O) : Int := if okB c = false then 40 else if (objAt o.k : Int) ≠ c.obj then 50 else if Fits c.bits.toNat o then 0 else 10

/-- The cell by which it is announced. -/
def laidA (o : O) : Nat := o.a * 256 + o.k
/-- What a cell's words announce. -/
def ofO (a b c : Nat) : O := ⟨a % 256, a / 256 % 4294967296, b % 4294967296, c % 4294967296⟩
theorem laid_lt {o : O} (h : Wf o) : laidA o < 1099511627776 := by unfold Wf at h; unfold laidA; omega
theorem of_wf (a b c : Nat) : Wf (ofO a b c) := by unfold Wf ofO; simp only; omega
theorem of_laid {o : O} (h : Wf o) : ofO (laidA o) o.b o.c = o := by
  unfold Wf at h
  unfold ofO laidA
  refine O.ext' ?_ ?_ ?_ ?_ <;> simp only <;> omega
theorem laid_same {o p : O} (ho : Wf o) (hp : Wf p) : (laidA o = laidA p ∧ o.b = p.b ∧ o.c = p.c) ↔ o = p := by
  refine ⟨fun h => ?_, fun h => by rw [h]; exact ⟨rfl, rfl, rfl⟩⟩
  rw [← of_laid ho, ← of_laid hp, h.1, h.2.1, h.2.2]

/-- As pack joins it. -/
theorem join_eq {k a : Nat} (hk : k < 256) (_ : a < 4294967296) : Pk.put (Pk.put 0 0 8 k) 8 32 a = a * 256 + k := by
  have h1 : Pk.put 0 0 8 k = k := by unfold Pk.put; simp
  rw [h1]
  unfold Pk.put
  have h2 : k &&& (18446744073709551615 - (2 ^ 32 - 1) * 2 ^ 8) = k := by
    rw [show 18446744073709551615 - (2 ^ 32 - 1) * 2 ^ 8 = 18446742974197924095 by decide]
    apply Nat.eq_of_testBit_eq
    intro i
    rw [Nat.testBit_and]
    by_cases hi : i < 8
    · have : ∀ j : Fin 8, Nat.testBit 18446742974197924095 j.val = true := by decide
      rw [this ⟨i, hi⟩, Bool.and_true]
    · have : Nat.testBit k i = false := Nat.testBit_lt_two_pow (Nat.lt_of_lt_of_le hk (Nat.pow_le_pow_right (n := 2) (i := 8) (by decide) (by omega)))
      rw [this, Bool.false_and]
  rw [h2]
  have h3 := Nat.shiftLeft_add_eq_or_of_lt (b := k) (i := 8) (by omega) a
  rw [Nat.shiftLeft_eq, Nat.or_comm] at h3
  rw [← h3]
theorem field_k (x : Nat) : Pk.field x 0 8 = x % 256 := by unfold Pk.field; simp
theorem field_a (x : Nat) : Pk.field x 8 32 = x / 256 % 4294967296 := by unfold Pk.field; simp
theorem field_w (x : Nat) : Pk.field x 0 32 = x % 4294967296 := by unfold Pk.field; simp
end Go.Proofs.Ytpepahecjkkpbaa.Opn
