/- Cells, accesses, and what becomes of a memory: plain mathematics of package cell. -/
import Derived.WalkKit
namespace Go.Proofs.YtmnlfhpkfgfpoaaDoor.Ce
open Go.RowKit

/-- A cell: a tag and three words. -/
structure C4 where
  t : Int
  a : Int
  b : Int
  c : Int
@[ext] theorem C4.ext' {x y : C4} (h0 : x.t = y.t) (h1 : x.a = y.a) (h2 : x.b = y.b) (h3 : x.c = y.c) : x = y := by
  cases x; cases y; simp_all
def C4.zero : C4 := ⟨0, 0, 0, 0⟩
def eqB (x y : C4) : Bool := decide (x.t = y.t ∧ x.a = y.a ∧ x.b = y.b ∧ x.c = y.c)
theorem eqB_iff {x y : C4} : eqB x y = true ↔ x = y := by
  unfold eqB
  rw [decide_eq_true_iff]
  exact ⟨fun ⟨h0, h1, h2, h3⟩ => C4.ext' h0 h1 h2 h3, fun h => by subst h; exact ⟨rfl, rfl, rfl, rfl⟩⟩
theorem eqB_refl (x : C4) : eqB x x = true := eqB_iff.2 rfl

/-- An access. -/
structure Acc where
  k : Int
  i : Int
  o : C4
  n : C4

def mayB (n : Nat) (a : Acc) : Bool := decide (1 ≤ a.k ∧ a.k ≤ 4 ∧ 0 ≤ a.i ∧ a.i < (n : Int))
theorem may_true {n : Nat} {a : Acc} (h : mayB n a = true) : 1 ≤ a.k ∧ a.k ≤ 4 ∧ 0 ≤ a.i ∧ a.i < (n : Int) := of_decide_eq_true h
theorem may_false {n : Nat} {a : Acc} (h : mayB n a = false) : ¬ (1 ≤ a.k ∧ a.k ≤ 4 ∧ 0 ≤ a.i ∧ a.i < (n : Int)) := of_decide_eq_false h

def becomes (was : C4) (a : Acc) : C4 :=
  if a.k = 2 then a.n else if a.k = 3 then (if eqB was a.o = true then a.n else was) else if a.k = 4 then ⟨was.t, IntKind.u64.wrap (was.a + a.n.a), was.b, was.c⟩ else was
def doneB (was : C4) (a : Acc) : Bool := if a.k = 3 then eqB was a.o else true

def upd (cf : Nat → C4) (i : Nat) (x : C4) : Nat → C4 := fun j => if j = i then x else cf j
theorem upd_same (cf : Nat → C4) (i : Nat) (x : C4) : upd cf i x i = x := by simp [upd]
theorem upd_other {cf : Nat → C4} {i j : Nat} {x : C4} (h : j ≠ i) : upd cf i x j = cf j := by simp [upd, h]
theorem upd_self (cf : Nat → C4) (i : Nat) : upd cf i (cf i) = cf := by funext j; unfold upd; split <;> simp_all

/-- The cells behind one access, and behind the first k. -/
def step (n : Nat) (cf : Nat → C4) (a : Acc) : Nat → C4 := if mayB n a = true then upd cf a.i.toNat (becomes (cf a.i.toNat) a) else cf
def st (n : Nat) (cf : Nat → C4) (af : Nat → Acc) : Nat → Nat → C4
  | 0 => cf
  | k + 1 => step n (st n cf af k) (af k)
/-- The first k accesses may be. -/
def okTo (n : Nat) (af : Nat → Acc) : Nat → Bool
  | 0 => true
  | k + 1 => okTo n af k && mayB n (af k)
theorem okTo_le {n : Nat} {af : Nat → Acc} {j k : Nat} (h : j ≤ k) (ho : okTo n af k = true) : okTo n af j = true := by
  induction k with
  | zero => obtain rfl : j = 0 := by omega
            exact ho
  | succ k ih =>
    by_cases e : j = k + 1
    · subst e; exact ho
    · unfold okTo at ho; rw [Bool.and_eq_true] at ho; exact ih (by omega) ho.1
theorem okTo_at {n : Nat} {af : Nat → Acc} {j k : Nat} (h : j < k) (ho : okTo n af k = true) : mayB n (af j) = true := by
  have := okTo_le (show j + 1 ≤ k by omega) ho
  unfold okTo at this; rw [Bool.and_eq_true] at this; exact this.2
theorem okTo_false {n : Nat} {af : Nat → Acc} {j k : Nat} (h : j < k) (hm : mayB n (af j) = false) : okTo n af k = false := by
  cases e : okTo n af k with
  | false => rfl
  | true => rw [okTo_at h e] at hm; cases hm
theorem okTo_iff {n : Nat} {af : Nat → Acc} {k : Nat} : okTo n af k = true ↔ ∀ j, j < k → mayB n (af j) = true := by
  refine ⟨fun h j hj => okTo_at hj h, fun h => ?_⟩
  induction k with
  | zero => rfl
  | succ k ih => unfold okTo; rw [ih fun j hj => h j (by omega), h k (by omega)]; rfl

/-- What the access number k saw: the cell, and whether it was done. -/
def sawC (n : Nat) (cf : Nat → C4) (af : Nat → Acc) (k : Nat) : C4 := if mayB n (af k) = true then st n cf af k (af k).i.toNat else C4.zero
def sawD (n : Nat) (cf : Nat → C4) (af : Nat → Acc) (k : Nat) : Bool := if mayB n (af k) = true then doneB (st n cf af k (af k).i.toNat) (af k) else false

/-- How values look. -/
abbrev cv (x : C4) : Value := .agg #[.int .u64 x.t, .int .u64 x.a, .int .u64 x.b, .int .u64 x.c]
abbrev av (a : Acc) : Value := .agg #[.int .u8 a.k, .int .i64 a.i, .int .u64 a.o.t, .int .u64 a.o.a, .int .u64 a.o.b, .int .u64 a.o.c, .int .u64 a.n.t, .int .u64 a.n.a, .int .u64 a.n.b, .int .u64 a.n.c]
abbrev sv (x : C4) (d : Bool) : Value := .agg #[.int .u64 x.t, .int .u64 x.a, .int .u64 x.b, .int .u64 x.c, .bool d]

/-- The four cells of a cell lie at g, o. -/
def At4 (w : World) (g o : Nat) (x : C4) : Prop := w.cell? ⟨g, o, none⟩ = some (.int .u64 x.t) ∧ w.cell? ⟨g, o + 1, none⟩ = some (.int .u64 x.a) ∧ w.cell? ⟨g, o + 2, none⟩ = some (.int .u64 x.b) ∧ w.cell? ⟨g, o + 3, none⟩ = some (.int .u64 x.c)
def At5 (w : World) (g o : Nat) (x : C4) (d : Bool) : Prop := At4 w g o x ∧ w.cell? ⟨g, o + 4, none⟩ = some (.bool d)
def At10 (w : World) (g o : Nat) (a : Acc) : Prop := w.cell? ⟨g, o, none⟩ = some (.int .u8 a.k) ∧ w.cell? ⟨g, o + 1, none⟩ = some (.int .i64 a.i) ∧ At4 w g (o + 2) a.o ∧ At4 w g (o + 6) a.n

theorem At4.lt {w : World} {g o : Nat} {x : C4} (h : At4 w g o x) : g < w.heap.size := World.block_lt_of_cell? _ _ h.1
theorem At4.same {w w' : World} {g o : Nat} {x : C4} (h : At4 w g o x) (hs : w'.heap[g]? = w.heap[g]?) : At4 w' g o x := by
  have e : ∀ k, w'.cell? ⟨g, k, none⟩ = w.cell? ⟨g, k, none⟩ := fun k => World.cell?_of_block (w := w) hs
  exact ⟨(e _).trans h.1, (e _).trans h.2.1, (e _).trans h.2.2.1, (e _).trans h.2.2.2⟩
theorem At5.lt {w : World} {g o : Nat} {x : C4} {d : Bool} (h : At5 w g o x d) : g < w.heap.size := h.1.lt
theorem At5.same {w w' : World} {g o : Nat} {x : C4} {d : Bool} (h : At5 w g o x d) (hs : w'.heap[g]? = w.heap[g]?) : At5 w' g o x d :=
  ⟨h.1.same hs, (World.cell?_of_block (w := w) (a := ⟨g, o + 4, none⟩) hs).trans h.2⟩
theorem At10.lt {w : World} {g o : Nat} {a : Acc} (h : At10 w g o a) : g < w.heap.size := World.block_lt_of_cell? _ _ h.1
theorem At10.same {w w' : World} {g o : Nat} {a : Acc} (h : At10 w g o a) (hs : w'.heap[g]? = w.heap[g]?) : At10 w' g o a := by
  have e : ∀ k, w'.cell? ⟨g, k, none⟩ = w.cell? ⟨g, k, none⟩ := fun k => World.cell?_of_block (w := w) hs
  exact ⟨(e _).trans h.1, (e _).trans h.2.1, h.2.2.1.same hs, h.2.2.2.same hs⟩

/-- Rows: n cells, accesses, things seen lie at A, in w. -/
def IsCells (w : World) (A : Option Addr) (n : Nat) (cf : Nat → C4) : Prop := ∀ i, i < n → ∃ b off, A = some ⟨b, off, none⟩ ∧ At4 w b (off + i * 4) (cf i)
def IsSeen (w : World) (A : Option Addr) (n : Nat) (cf : Nat → C4) (df : Nat → Bool) : Prop := ∀ i, i < n → ∃ b off, A = some ⟨b, off, none⟩ ∧ At5 w b (off + i * 5) (cf i) (df i)
def IsAccs (w : World) (A : Option Addr) (n : Nat) (af : Nat → Acc) : Prop := ∀ i, i < n → ∃ b off, A = some ⟨b, off, none⟩ ∧ At10 w b (off + i * 10) (af i)
theorem IsCells.same {w w' : World} {A : Option Addr} {n : Nat} {cf : Nat → C4} (h : IsCells w A n cf) (hs : ∀ k, k < w.heap.size → w'.heap[k]? = w.heap[k]?) : IsCells w' A n cf := fun i hi => by
  obtain ⟨b, off, e, h1⟩ := h i hi; exact ⟨b, off, e, h1.same (hs b h1.lt)⟩
theorem IsSeen.same {w w' : World} {A : Option Addr} {n : Nat} {cf : Nat → C4} {df : Nat → Bool} (h : IsSeen w A n cf df) (hs : ∀ k, k < w.heap.size → w'.heap[k]? = w.heap[k]?) : IsSeen w' A n cf df := fun i hi => by
  obtain ⟨b, off, e, h1⟩ := h i hi; exact ⟨b, off, e, h1.same (hs b h1.lt)⟩
theorem IsAccs.same {w w' : World} {A : Option Addr} {n : Nat} {af : Nat → Acc} (h : IsAccs w A n af) (hs : ∀ k, k < w.heap.size → w'.heap[k]? = w.heap[k]?) : IsAccs w' A n af := fun i hi => by
  obtain ⟨b, off, e, h1⟩ := h i hi; exact ⟨b, off, e, h1.same (hs b h1.lt)⟩
theorem IsCells.congr {w : World} {A : Option Addr} {n : Nat} {cf cg : Nat → C4} (h : IsCells w A n cf) (e : ∀ i, i < n → cf i = cg i) : IsCells w A n cg := fun i hi => by rw [← e i hi]; exact h i hi
theorem IsSeen.congr {w : World} {A : Option Addr} {n : Nat} {cf cg : Nat → C4} {df dg : Nat → Bool} (h : IsSeen w A n cf df) (e : ∀ i, i < n → cf i = cg i ∧ df i = dg i) : IsSeen w A n cg dg := fun i hi => by rw [← (e i hi).1, ← (e i hi).2]; exact h i hi
theorem IsAccs.congr {w : World} {A : Option Addr} {n : Nat} {cf cg : Nat → Acc} (h : IsAccs w A n cf) (e : ∀ i, i < n → cf i = cg i) : IsAccs w A n cg := fun i hi => by rw [← e i hi]; exact h i hi
end Go.Proofs.YtmnlfhpkfgfpoaaDoor.Ce
