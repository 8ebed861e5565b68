/- What a call that only makes memory of its own leaves: one value, or two, and all that was there as it was. -/
import Derived.WalkKit
import Derived.Lib.Hide
import Derived.Lib.QuietBelow
import Derived.BigQuiet
namespace Go.Proofs.Ytpepahecjkkpbaa
open Go.RowKit

/-- It returns v; what was there is as it was. -/
def Ret (v : Value) (w : World) (e : Ending) (w' : World) : Prop := e = .returned v ∧ Below w.heap.size w w'
theorem Ret.mk {v u : Value} {w w' : World} (h : u = v) (hb : Below w.heap.size w w') : Ret v w (.returned u) w' := ⟨by rw [h], hb⟩

def Ret2 (v0 v1 : Value) (w : World) (e : Ending) (w' : World) : Prop := e = .returned (.tuple #[v0, v1]) ∧ Below w.heap.size w w'
theorem Ret2.mk {v0 v1 u0 u1 : Value} {w w' : World} (h0 : u0 = v0) (h1 : u1 = v1) (hb : Below w.heap.size w w') : Ret2 v0 v1 w (.returned (.tuple #[u0, u1])) w' := ⟨by rw [h0, h1], hb⟩

theorem below_one (w : World) (o : Obj) : Below w.heap.size w (w.alloc o) := (Below.refl _ _).alloc (Nat.le_refl _) _
theorem below_two (w : World) (o o' : Obj) : Below w.heap.size w ((w.alloc o).alloc o') := (below_one w o).alloc (by simp) _
theorem below_three (w : World) (o o' o'' : Obj) : Below w.heap.size w (((w.alloc o).alloc o').alloc o'') := (below_two w o o').alloc (by simp; omega) _

/-- Two steps of which the second is said from the first one's end on. -/
theorem below_then {w w1 w2 : World} (h : Below w.heap.size w w1) (k : Below w1.heap.size w1 w2) : Below w.heap.size w w2 := h.trans (k.mono h.size)

/-- A cell of an old block that may be written, in every world of the class. -/
theorem frozen_regrown {w : World} {a : Addr} {v : Value} {f : Bool} (h : w.cell? a = some v) (hf : w.frozen? a = f) (d : Nat) (os : Array Obj) : (Go.Sort.grow (redrawn w d) os).frozen? a = f := by
  rw [(below_regrown w d os).frozen (World.block_lt_of_cell? _ _ h)]; exact hf

/-- What was there reads as it did. -/
theorem bcell {W w1 : World} (hb : Below W.heap.size W w1) : (∀ b o, b < W.heap.size → w1.cell? ⟨b, o, none⟩ = W.cell? ⟨b, o, none⟩) ∧ (∀ b o, b < W.heap.size → w1.frozen? ⟨b, o, none⟩ = W.frozen? ⟨b, o, none⟩) :=
  ⟨fun b o h => hb.cell (p := ⟨b, o, none⟩) h, fun b o h => hb.frozen (p := ⟨b, o, none⟩) h⟩

theorem u64_eq {a b : Int} (h : a = b) : Value.int .u64 a = .int .u64 b := by rw [h]
theorem i64_eq {a b : Int} (h : a = b) : Value.int .i64 a = .int .i64 b := by rw [h]
theorem bool_eq {a b : Bool} (h : a = b) : Value.bool a = .bool b := by rw [h]

/-- A number of 64 bits without a sign. -/
theorem u64_nat {x : Int} (h : (Lit.int .u64 x).wf = true) : ∃ n : Nat, x = n ∧ n < 18446744073709551616 := by
  have hx : 0 ≤ x ∧ x ≤ 18446744073709551615 := by simpa [Lit.wf, IntKind.min, IntKind.max, IntKind.signed, IntKind.bits] using h
  exact ⟨x.toNat, by omega, by omega⟩
theorem i64_bounds {x : Int} (h : (Lit.int .i64 x).wf = true) : -9223372036854775808 ≤ x ∧ x ≤ 9223372036854775807 := by
  simpa [Lit.wf, IntKind.min, IntKind.max, IntKind.signed, IntKind.bits] using h

/-- What lay in W lies so in X: kept by whatever only makes memory. -/
theorem keep0 (W : World) : W.heap.size ≤ W.drew.heap.size ∧ ∀ b j, b < W.heap.size → W.drew.cell? ⟨b, j, none⟩ = W.cell? ⟨b, j, none⟩ := ⟨Nat.le_refl _, fun _ _ _ => rfl⟩
theorem keep_alloc {W X : World} (h : W.heap.size ≤ X.heap.size ∧ ∀ b j, b < W.heap.size → X.cell? ⟨b, j, none⟩ = W.cell? ⟨b, j, none⟩) (o : Obj) : W.heap.size ≤ (X.alloc o).heap.size ∧ ∀ b j, b < W.heap.size → (X.alloc o).cell? ⟨b, j, none⟩ = W.cell? ⟨b, j, none⟩ :=
  ⟨by have := h.1; simp; omega, fun b j hb => ((below_one X o).cell (p := ⟨b, j, none⟩) (Nat.lt_of_lt_of_le hb h.1)).trans (h.2 b j hb)⟩
theorem keep1 (W : World) (o : Obj) : W.heap.size ≤ (W.alloc o).drew.heap.size ∧ ∀ b j, b < W.heap.size → (W.alloc o).drew.cell? ⟨b, j, none⟩ = W.cell? ⟨b, j, none⟩ := keep_alloc (keep0 W) o
theorem keep_alloc' {W X : World} (h : W.heap.size ≤ X.heap.size ∧ ∀ b j, b < W.heap.size → X.cell? ⟨b, j, none⟩ = W.cell? ⟨b, j, none⟩) (o : Obj) : W.heap.size ≤ (X.alloc o).drew.heap.size ∧ ∀ b j, b < W.heap.size → (X.alloc o).drew.cell? ⟨b, j, none⟩ = W.cell? ⟨b, j, none⟩ := keep_alloc h o
theorem keep_below {W X w3 : World} (hb : Below X.heap.size X w3) (h : W.heap.size ≤ X.heap.size ∧ ∀ b j, b < W.heap.size → X.cell? ⟨b, j, none⟩ = W.cell? ⟨b, j, none⟩) : W.heap.size ≤ w3.heap.size ∧ ∀ b j, b < W.heap.size → w3.cell? ⟨b, j, none⟩ = W.cell? ⟨b, j, none⟩ :=
  ⟨Nat.le_trans h.1 hb.size, fun b j hj => (hb.cell (p := ⟨b, j, none⟩) (Nat.lt_of_lt_of_le hj h.1)).trans (h.2 b j hj)⟩
theorem keep_set {W X : World} (h : W.heap.size ≤ X.heap.size ∧ ∀ b j, b < W.heap.size → X.cell? ⟨b, j, none⟩ = W.cell? ⟨b, j, none⟩) (g j' : Nat) (v : Value) (hg : W.heap.size ≤ g) : W.heap.size ≤ (X.setCell ⟨g, j', none⟩ v).heap.size ∧ ∀ b j, b < W.heap.size → (X.setCell ⟨g, j', none⟩ v).cell? ⟨b, j, none⟩ = W.cell? ⟨b, j, none⟩ :=
  ⟨by simpa [World.setCell] using h.1, fun b j hb => (World.cell?_of_block (w := X) (Below.heap_setCell X ⟨g, j', none⟩ v b (by simp; omega))).trans (h.2 b j hb)⟩
/-- What was there is as it was, behind a box and two calls at most. -/
theorem below_b2 {w w1 w2 : World} {o : Obj} (h1 : Below (w.alloc o).heap.size (w.alloc o) w1) (h2 : Below w1.heap.size w1 w2) : Below w.heap.size w w2 := below_then (below_then (below_one _ _) h1) h2
theorem below_b1 {w w1 : World} {o : Obj} (h1 : Below (w.alloc o).heap.size (w.alloc o) w1) : Below w.heap.size w w1 := below_then (below_one _ _) h1
end Go.Proofs.Ytpepahecjkkpbaa
