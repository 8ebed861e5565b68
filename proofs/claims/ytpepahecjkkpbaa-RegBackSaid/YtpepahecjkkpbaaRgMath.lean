/- How far a batch is on an instance, and its cell: plain numbers. -/
import Derived.Test.YtpepahecjkkpbaaOpMath
namespace Go.Proofs.Ytpepahecjkkpbaa
open Opn

/-- A desc: its tag, which update, its thread's number, and its frame's fields. -/
structure Ds where
  tag : Nat
  k : Nat
  seq : Nat
  kind : Nat
  a : Nat
  b : Nat
  pc : Nat
  i : Nat
  j : Nat
  n : Nat
  p : Nat
  h : Nat
  x : Nat
  y : Nat
theorem Ds.ext' {x y : Ds} (h : x.tag = y.tag ∧ x.k = y.k ∧ x.seq = y.seq ∧ x.kind = y.kind ∧ x.a = y.a ∧ x.b = y.b ∧ x.pc = y.pc ∧ x.i = y.i ∧ x.j = y.j ∧ x.n = y.n ∧ x.p = y.p ∧ x.h = y.h ∧ x.x = y.x ∧ x.y = y.y) : x = y := by
  cases x
  cases y
  simp_all
instance : DecidableEq Ds := fun x y => if h : x.tag = y.tag ∧ x.k = y.k ∧ x.seq = y.seq ∧ x.kind = y.kind ∧ x.a = y.a ∧ x.b = y.b ∧ x.pc = y.pc ∧ x.i = y.i ∧ x.j = y.j ∧ x.n = y.n ∧ x.p = y.p ∧ x.h = y.h ∧ x.x = y.x ∧ x.y = y.y then isTrue (Ds.ext' h) else isFalse fun e => h (by rw [e]; simp)
/-- The fields are as wide as their types. -/
def DWf (d : Ds) : Prop := d.tag < 18446744073709551616 ∧ d.k < 256 ∧ d.seq < 256 ∧ d.kind < 256 ∧ d.a < 4294967296 ∧ d.b < 4294967296 ∧ d.pc < 256 ∧ d.i < 256 ∧ d.j < 256 ∧ d.n < 256 ∧ d.p < 256 ∧ d.h < 256 ∧ d.x < 4294967296 ∧ d.y < 4294967296
/-- It fits. -/
def DFits (d : Ds) : Prop := d.k < 32 ∧ d.pc < 32 ∧ d.seq < 128 ∧ d.i < 128 ∧ d.j < 128 ∧ d.kind < 16 ∧ d.n < 64 ∧ d.p < 64 ∧ d.h < 8
instance (d : Ds) : Decidable (DFits d) := by unfold DFits; infer_instance
instance (d : Ds) : Decidable (DWf d) := by unfold DWf; infer_instance
/-- The word of small fields. -/
def dA (d : Ds) : Nat := (((((((d.h * 64 + d.p) * 64 + d.n) * 128 + d.j) * 128 + d.i) * 32 + d.pc) * 16 + d.kind) * 128 + d.seq) * 32 + d.k
def dB (d : Ds) : Nat := d.a + 4294967296 * d.b
def dC (d : Ds) : Nat := d.x + 4294967296 * d.y
/-- The desc whose bits a cell has. -/
def ofC (t A B C : Nat) : Ds := ⟨t, A % 32, A / 32 % 128, A / 32 / 128 % 16, B % 4294967296, B / 4294967296, A / 32 / 128 / 16 % 32, A / 32 / 128 / 16 / 32 % 128, A / 32 / 128 / 16 / 32 / 128 % 128, A / 32 / 128 / 16 / 32 / 128 / 128 % 64, A / 32 / 128 / 16 / 32 / 128 / 128 / 64 % 64, A / 32 / 128 / 16 / 32 / 128 / 128 / 64 / 64 % 8, C % 4294967296, C / 4294967296⟩
/-- A frame starts. -/
def startF (o : O) : Ds := ⟨0, 0, 0, o.k, o.a, o.b, 0, 0, 0, 0, 0, 0, 0, o.c⟩

theorem dA_lt {d : Ds} (h : DFits d) : dA d < 1125899906842624 := by
  unfold DFits at h
  unfold dA
  omega
theorem dB_lt {d : Ds} (h : DWf d) : dB d < 18446744073709551616 := by unfold DWf at h; unfold dB; omega
theorem dC_lt {d : Ds} (h : DWf d) : dC d < 18446744073709551616 := by unfold DWf at h; unfold dC; omega
theorem ofC_laid {d : Ds} (h : DFits d) (hw : DWf d) : ofC d.tag (dA d) (dB d) (dC d) = d := by
  obtain ⟨t, k, seq, kind, a, b, pc, i, j, n, p, hh, x, y⟩ := d
  unfold DFits at h
  unfold DWf at hw
  unfold ofC dA dB dC
  simp only at h hw ⊢
  simp only [Ds.mk.injEq, true_and]
  refine ⟨?_, ?_, ?_, ?_, ?_, ?_, ?_, ?_, ?_, ?_, ?_, ?_, ?_⟩ <;> omega
theorem ofC_fits (t A B C : Nat) : DFits (ofC t A B C) := by
  unfold DFits ofC
  simp only
  omega
theorem ofC_wf {t A B C : Nat} (ht : t < 18446744073709551616) (hB : B < 18446744073709551616) (hC : C < 18446744073709551616) : DWf (ofC t A B C) := by
  unfold DWf ofC
  simp only
  omega
theorem ofC_back (t A B C : Nat) : dA (ofC t A B C) = A % 1125899906842624 ∧ dB (ofC t A B C) = B ∧ dC (ofC t A B C) = C := by
  unfold dA dB dC ofC
  simp only
  refine ⟨?_, ?_, ?_⟩ <;> omega
end Go.Proofs.Ytpepahecjkkpbaa
