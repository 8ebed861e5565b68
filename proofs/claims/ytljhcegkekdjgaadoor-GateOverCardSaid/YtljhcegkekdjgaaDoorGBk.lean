/- A region that draws its order, and the reads that it may make of what was there; worlds that get a name. A cell as a value. Blocks of cells: worlds that get a name; what lies in a block, what is kept, step by step. -/
import Derived.Test.YtljhcegkekdjgaaDoorGTr
import Derived.Test.YtljhcegkekdjgaaDoorGKit
import Derived.BigQuiet
import Derived.Deep.DeepCutAuto
import Derived.Deep.LoopGhost
import Derived.Test.YtljhcegkekdjgaaDoorGOpen
namespace Go.Proofs.YtljhcegkekdjgaaDoor
open Go.RowKit Go.Lib Pt Opn

/-- What lay in W reads so in every world that has only grown. -/
theorem reads_regrown (W : World) : ∀ b o, b < W.heap.size → ∀ d os, (Go.Sort.grow (redrawn W d) os).cell? ⟨b, o, none⟩ = W.cell? ⟨b, o, none⟩ := fun b o h d os => (below_regrown W d os).cell (p := ⟨b, o, none⟩) h

section
open Go.Sort
variable {P : Program} {id : Nat} {Q : Exit → Act → World → Prop} {a : Act} {w : World} {l : List Oper}
/-- A region that draws its order, and the reads that it may make of what was there. -/
theorem wp_region_quiet_reads (hm : P.follows .mixedOrders = true) (hB : Region.lexB .any l.toArray = true)
    (h : (∀ b o, b < w.heap.size → ∀ d os, (grow (redrawn w d) os).cell? ⟨b, o, none⟩ = w.cell? ⟨b, o, none⟩) → wpQuiet P l.toArray (fun w' => ∃ p : Regrown, w' = grow (redrawn w p.d) p.os) (fun a' => ∀ w', (∃ p : Regrown, w' = grow (redrawn w p.d) p.os) → Q .normal a' w') l a) : (Code.region id l.toArray true).wp P Q a w :=
  wp_region_quiet_below hm hB (h (reads_regrown w))
theorem wp_region_tail_reads (n : Nat) (hm : P.follows .mixedOrders = true) (hB : Region.lexTailB .any l.toArray n = true)
    (h : (∀ b o, b < w.heap.size → ∀ d os, (grow (redrawn w d) os).cell? ⟨b, o, none⟩ = w.cell? ⟨b, o, none⟩) → wpQuiet P l.toArray (fun w' => ∃ p : Regrown, w' = grow (redrawn w p.d) p.os) (fun a' => ∀ w', (∃ p : Regrown, w' = grow (redrawn w p.d) p.os) → wpList P l.toArray Q (l.drop n) a' w') (l.take n) a) : (Code.region id l.toArray true).wp P Q a w :=
  wp_region_tail_below n hm hB (h (reads_regrown w))
end

/-- Two new blocks: the world gets a name. -/
theorem ent2 {P : Program} {code : Code} {Q : Exit → Act → World → Prop} {x : Act} {w : World} {a b : Obj}
    (h : ∀ W, Below w.heap.size w W → W.heap[w.heap.size]? = some a → W.heap[w.heap.size + 1]? = some b → w.heap.size < W.heap.size → w.heap.size + 1 < W.heap.size → code.wp P Q x W) : code.wp P Q x ((w.alloc a).alloc b) :=
  h _ (below_two w a b) (((below_one (w.alloc a) b).block w.heap.size (by simp)).trans (heap_alloc_new w a)) (by simpa using heap_alloc_new (w.alloc a) b) (by simp; omega) (by simp)
theorem cl12 {w : World} {g : Nat} {a0 a1 a2 a3 a4 a5 a6 a7 a8 a9 a10 a11 : Value} {t : TypeId} (hh : w.heap[g]? = some (.cells #[a0, a1, a2, a3, a4, a5, a6, a7, a8, a9, a10, a11] t (0, 0))) :
    w.cell? ⟨g, 0, none⟩ = some a0 ∧ w.cell? ⟨g, 1, none⟩ = some a1 ∧ w.cell? ⟨g, 2, none⟩ = some a2 ∧ w.cell? ⟨g, 3, none⟩ = some a3 ∧ w.cell? ⟨g, 4, none⟩ = some a4 ∧ w.cell? ⟨g, 5, none⟩ = some a5 ∧ w.cell? ⟨g, 6, none⟩ = some a6 ∧ w.cell? ⟨g, 7, none⟩ = some a7 ∧ w.cell? ⟨g, 8, none⟩ = some a8 ∧ w.cell? ⟨g, 9, none⟩ = some a9 ∧ w.cell? ⟨g, 10, none⟩ = some a10 ∧ w.cell? ⟨g, 11, none⟩ = some a11 := by
  refine ⟨?_, ?_, ?_, ?_, ?_, ?_, ?_, ?_, ?_, ?_, ?_, ?_⟩ <;> simp [World.cell?, hh]
theorem cl11 {w : World} {g : Nat} {a0 a1 a2 a3 a4 a5 a6 a7 a8 a9 a10 : Value} {t : TypeId} (hh : w.heap[g]? = some (.cells #[a0, a1, a2, a3, a4, a5, a6, a7, a8, a9, a10] t (0, 0))) :
    w.cell? ⟨g, 0, none⟩ = some a0 ∧ w.cell? ⟨g, 1, none⟩ = some a1 ∧ w.cell? ⟨g, 2, none⟩ = some a2 ∧ w.cell? ⟨g, 3, none⟩ = some a3 ∧ w.cell? ⟨g, 4, none⟩ = some a4 ∧ w.cell? ⟨g, 5, none⟩ = some a5 ∧ w.cell? ⟨g, 6, none⟩ = some a6 ∧ w.cell? ⟨g, 7, none⟩ = some a7 ∧ w.cell? ⟨g, 8, none⟩ = some a8 ∧ w.cell? ⟨g, 9, none⟩ = some a9 ∧ w.cell? ⟨g, 10, none⟩ = some a10 := by
  refine ⟨?_, ?_, ?_, ?_, ?_, ?_, ?_, ?_, ?_, ?_, ?_⟩ <;> simp [World.cell?, hh]
end Go.Proofs.YtljhcegkekdjgaaDoor

namespace Go.Proofs.YtljhcegkekdjgaaDoor
open Go.RowKit Go.Lib Opn

/-- A cell. -/
def cvT (t A B C : Nat) : Value := .agg #[.int .u64 (t : Nat), .int .u64 (A : Nat), .int .u64 (B : Nat), .int .u64 (C : Nat)]
end Go.Proofs.YtljhcegkekdjgaaDoor

namespace Go.Proofs.YtljhcegkekdjgaaDoor
open Go.RowKit Go.Lib Pt Opn

/-- Three new blocks: the world gets a name, and what lies in them is told. -/
theorem enter3 {P : Program} {code : Code} {Q : Exit → Act → World → Prop} {x : Act} {w : World} {a b c : Obj}
    (h : ∀ W, Below w.heap.size w W → W.heap[w.heap.size]? = some a → W.heap[w.heap.size + 1]? = some b → W.heap[w.heap.size + 1 + 1]? = some c → w.heap.size < W.heap.size → w.heap.size + 1 < W.heap.size → w.heap.size + 1 + 1 < W.heap.size → code.wp P Q x W) : code.wp P Q x (((w.alloc a).alloc b).alloc c) :=
  h _ (below_three w a b c) (((below_two (w.alloc a) b c).block w.heap.size (by simp)).trans (heap_alloc_new w a)) (((below_one ((w.alloc a).alloc b) c).block (w.heap.size + 1) (by simp)).trans (by simpa using heap_alloc_new (w.alloc a) b)) (new_third w a b c) (by simp; omega) (by simp) (by simp)

theorem cells27 {w : World} {g : Nat} {a0 a1 a2 a3 a4 a5 a6 a7 a8 a9 a10 a11 a12 a13 a14 a15 a16 a17 a18 a19 a20 a21 a22 a23 a24 a25 a26 : Value} {t : TypeId} (hh : w.heap[g]? = some (.cells #[a0, a1, a2, a3, a4, a5, a6, a7, a8, a9, a10, a11, a12, a13, a14, a15, a16, a17, a18, a19, a20, a21, a22, a23, a24, a25, a26] t (0, 0))) :
    w.cell? ⟨g, 0, none⟩ = some a0 ∧ w.cell? ⟨g, 1, none⟩ = some a1 ∧ w.cell? ⟨g, 2, none⟩ = some a2 ∧ w.cell? ⟨g, 3, none⟩ = some a3 ∧ w.cell? ⟨g, 4, none⟩ = some a4 ∧ w.cell? ⟨g, 5, none⟩ = some a5 ∧ w.cell? ⟨g, 6, none⟩ = some a6 ∧ w.cell? ⟨g, 7, none⟩ = some a7 ∧ w.cell? ⟨g, 8, none⟩ = some a8 ∧ w.cell? ⟨g, 9, none⟩ = some a9 ∧ w.cell? ⟨g, 10, none⟩ = some a10 ∧ w.cell? ⟨g, 11, none⟩ = some a11 ∧ w.cell? ⟨g, 12, none⟩ = some a12 ∧ w.cell? ⟨g, 13, none⟩ = some a13 ∧ w.cell? ⟨g, 14, none⟩ = some a14 ∧ w.cell? ⟨g, 15, none⟩ = some a15 ∧ w.cell? ⟨g, 16, none⟩ = some a16 ∧ w.cell? ⟨g, 17, none⟩ = some a17 ∧ w.cell? ⟨g, 18, none⟩ = some a18 ∧ w.cell? ⟨g, 19, none⟩ = some a19 ∧ w.cell? ⟨g, 20, none⟩ = some a20 ∧ w.cell? ⟨g, 21, none⟩ = some a21 ∧ w.cell? ⟨g, 22, none⟩ = some a22 ∧ w.cell? ⟨g, 23, none⟩ = some a23 ∧ w.cell? ⟨g, 24, none⟩ = some a24 ∧ w.cell? ⟨g, 25, none⟩ = some a25 ∧ w.cell? ⟨g, 26, none⟩ = some a26 := by
  refine ⟨?_, ?_, ?_, ?_, ?_, ?_, ?_, ?_, ?_, ?_, ?_, ?_, ?_, ?_, ?_, ?_, ?_, ?_, ?_, ?_, ?_, ?_, ?_, ?_, ?_, ?_, ?_⟩ <;> simp [World.cell?, hh]

/-- One new block: the world gets a name. -/
theorem enter1 {P : Program} {code : Code} {Q : Exit → Act → World → Prop} {x : Act} {w : World} {a : Obj}
    (h : ∀ W, Below w.heap.size w W → W.heap[w.heap.size]? = some a → w.heap.size < W.heap.size → code.wp P Q x W) : code.wp P Q x (w.alloc a) :=
  h _ (below_one w a) (heap_alloc_new w a) (by simp)

/-- .. and a draw behind it. -/
theorem enter1d {P : Program} {code : Code} {Q : Exit → Act → World → Prop} {x : Act} {w : World} {a : Obj}
    (h : ∀ W, Below w.heap.size w W → W.heap[w.heap.size]? = some a → w.heap.size < W.heap.size → code.wp P Q x W) : code.wp P Q x (w.alloc a).drew :=
  h _ (below_then (below_one w a) ⟨rfl, rfl, rfl, Nat.le_refl _, fun _ _ => rfl⟩) (heap_alloc_new w a) (by simp)

theorem kx0 (W : World) (p q : Nat) : W.heap.size ≤ W.drew.heap.size ∧ ∀ b o, b < W.heap.size → b ≠ p → b ≠ q → W.drew.cell? ⟨b, o, none⟩ = W.cell? ⟨b, o, none⟩ := ⟨Nat.le_refl _, fun _ _ _ _ _ => rfl⟩
theorem below_drew' {w X : World} (h : Below w.heap.size w X) : Below w.heap.size w X.drew := below_then h ⟨rfl, rfl, rfl, Nat.le_refl _, fun _ _ => rfl⟩
theorem kx_refl (W : World) (p q : Nat) : W.heap.size ≤ W.heap.size ∧ ∀ b o, b < W.heap.size → b ≠ p → b ≠ q → W.cell? ⟨b, o, none⟩ = W.cell? ⟨b, o, none⟩ := ⟨Nat.le_refl _, fun _ _ _ _ _ => rfl⟩
theorem kx_drew {W X : World} {p q : Nat} (h : W.heap.size ≤ X.heap.size ∧ ∀ b o, b < W.heap.size → b ≠ p → b ≠ q → X.cell? ⟨b, o, none⟩ = W.cell? ⟨b, o, none⟩) : W.heap.size ≤ X.drew.heap.size ∧ ∀ b o, b < W.heap.size → b ≠ p → b ≠ q → X.drew.cell? ⟨b, o, none⟩ = W.cell? ⟨b, o, none⟩ := h
theorem kx_below {W X w3 : World} {p q : Nat} (hb : Below X.heap.size X w3) (h : W.heap.size ≤ X.heap.size ∧ ∀ b o, b < W.heap.size → b ≠ p → b ≠ q → X.cell? ⟨b, o, none⟩ = W.cell? ⟨b, o, none⟩) : W.heap.size ≤ w3.heap.size ∧ ∀ b o, b < W.heap.size → b ≠ p → b ≠ q → w3.cell? ⟨b, o, none⟩ = W.cell? ⟨b, o, none⟩ :=
  ⟨Nat.le_trans h.1 hb.size, fun b j hj h1 h2 => (hb.cell (p := ⟨b, j, none⟩) (Nat.lt_of_lt_of_le hj h.1)).trans (h.2 b j hj h1 h2)⟩
theorem kx_setp {W X : World} {p q : Nat} (h : W.heap.size ≤ X.heap.size ∧ ∀ b o, b < W.heap.size → b ≠ p → b ≠ q → X.cell? ⟨b, o, none⟩ = W.cell? ⟨b, o, none⟩) (j' : Nat) (v : Value) : W.heap.size ≤ (X.setCell ⟨p, j', none⟩ v).heap.size ∧ ∀ b o, b < W.heap.size → b ≠ p → b ≠ q → (X.setCell ⟨p, j', none⟩ v).cell? ⟨b, o, none⟩ = W.cell? ⟨b, o, none⟩ :=
  ⟨by simpa [World.setCell] using h.1, fun b j hb h1 h2 => (World.cell?_setCell_other _ _ _ _ (fun e => h1 (by injection e with e; exact e.symm))).trans (h.2 b j hb h1 h2)⟩
theorem kx_setq {W X : World} {p q : Nat} (h : W.heap.size ≤ X.heap.size ∧ ∀ b o, b < W.heap.size → b ≠ p → b ≠ q → X.cell? ⟨b, o, none⟩ = W.cell? ⟨b, o, none⟩) (j' : Nat) (v : Value) : W.heap.size ≤ (X.setCell ⟨q, j', none⟩ v).heap.size ∧ ∀ b o, b < W.heap.size → b ≠ p → b ≠ q → (X.setCell ⟨q, j', none⟩ v).cell? ⟨b, o, none⟩ = W.cell? ⟨b, o, none⟩ :=
  ⟨by simpa [World.setCell] using h.1, fun b j hb h1 h2 => (World.cell?_setCell_other _ _ _ _ (fun e => h2 (by injection e with e; exact e.symm))).trans (h.2 b j hb h1 h2)⟩
theorem kx_p7 {W X : World} {p q : Nat} (h : W.heap.size ≤ X.heap.size ∧ ∀ b o, b < W.heap.size → b ≠ p → b ≠ q → X.cell? ⟨b, o, none⟩ = W.cell? ⟨b, o, none⟩) (v0 v1 v2 v3 v4 v5 v6 : Value) : W.heap.size ≤ (((((((X.setCell ⟨p, 0, none⟩ v0).setCell ⟨p, 1, none⟩ v1).setCell ⟨p, 2, none⟩ v2).setCell ⟨p, 3, none⟩ v3).setCell ⟨p, 4, none⟩ v4).setCell ⟨p, 5, none⟩ v5).setCell ⟨p, 6, none⟩ v6).heap.size ∧ ∀ b o, b < W.heap.size → b ≠ p → b ≠ q → (((((((X.setCell ⟨p, 0, none⟩ v0).setCell ⟨p, 1, none⟩ v1).setCell ⟨p, 2, none⟩ v2).setCell ⟨p, 3, none⟩ v3).setCell ⟨p, 4, none⟩ v4).setCell ⟨p, 5, none⟩ v5).setCell ⟨p, 6, none⟩ v6).cell? ⟨b, o, none⟩ = W.cell? ⟨b, o, none⟩ :=
  (kx_setp (kx_setp (kx_setp (kx_setp (kx_setp (kx_setp (kx_setp h 0 v0) 1 v1) 2 v2) 3 v3) 4 v4) 5 v5) 6 v6)
theorem kx_q11 {W X : World} {p q : Nat} (h : W.heap.size ≤ X.heap.size ∧ ∀ b o, b < W.heap.size → b ≠ p → b ≠ q → X.cell? ⟨b, o, none⟩ = W.cell? ⟨b, o, none⟩) (v0 v1 v2 v3 v4 v5 v6 v7 v8 v9 v10 : Value) : W.heap.size ≤ (((((((((((X.setCell ⟨q, 0, none⟩ v0).setCell ⟨q, 1, none⟩ v1).setCell ⟨q, 2, none⟩ v2).setCell ⟨q, 3, none⟩ v3).setCell ⟨q, 4, none⟩ v4).setCell ⟨q, 5, none⟩ v5).setCell ⟨q, 6, none⟩ v6).setCell ⟨q, 7, none⟩ v7).setCell ⟨q, 8, none⟩ v8).setCell ⟨q, 9, none⟩ v9).setCell ⟨q, 10, none⟩ v10).heap.size ∧ ∀ b o, b < W.heap.size → b ≠ p → b ≠ q → (((((((((((X.setCell ⟨q, 0, none⟩ v0).setCell ⟨q, 1, none⟩ v1).setCell ⟨q, 2, none⟩ v2).setCell ⟨q, 3, none⟩ v3).setCell ⟨q, 4, none⟩ v4).setCell ⟨q, 5, none⟩ v5).setCell ⟨q, 6, none⟩ v6).setCell ⟨q, 7, none⟩ v7).setCell ⟨q, 8, none⟩ v8).setCell ⟨q, 9, none⟩ v9).setCell ⟨q, 10, none⟩ v10).cell? ⟨b, o, none⟩ = W.cell? ⟨b, o, none⟩ :=
  (kx_setq (kx_setq (kx_setq (kx_setq (kx_setq (kx_setq (kx_setq (kx_setq (kx_setq (kx_setq (kx_setq h 0 v0) 1 v1) 2 v2) 3 v3) 4 v4) 5 v5) 6 v6) 7 v7) 8 v8) 9 v9) 10 v10)
theorem keep_set7 {W X : World} (h : W.heap.size ≤ X.heap.size ∧ ∀ b j, b < W.heap.size → X.cell? ⟨b, j, none⟩ = W.cell? ⟨b, j, none⟩) (g : Nat) (hg : W.heap.size ≤ g) (v0 v1 v2 v3 v4 v5 v6 : Value) :
    W.heap.size ≤ (((((((X.setCell ⟨g, 0, none⟩ v0).setCell ⟨g, 1, none⟩ v1).setCell ⟨g, 2, none⟩ v2).setCell ⟨g, 3, none⟩ v3).setCell ⟨g, 4, none⟩ v4).setCell ⟨g, 5, none⟩ v5).setCell ⟨g, 6, none⟩ v6).heap.size ∧ ∀ b j, b < W.heap.size → (((((((X.setCell ⟨g, 0, none⟩ v0).setCell ⟨g, 1, none⟩ v1).setCell ⟨g, 2, none⟩ v2).setCell ⟨g, 3, none⟩ v3).setCell ⟨g, 4, none⟩ v4).setCell ⟨g, 5, none⟩ v5).setCell ⟨g, 6, none⟩ v6).cell? ⟨b, j, none⟩ = W.cell? ⟨b, j, none⟩ := (keep_set (keep_set (keep_set (keep_set (keep_set (keep_set (keep_set h g 0 v0 hg) g 1 v1 hg) g 2 v2 hg) g 3 v3 hg) g 4 v4 hg) g 5 v5 hg) g 6 v6 hg)

theorem cells12 {w : World} {g : Nat} {a0 a1 a2 a3 a4 a5 a6 a7 a8 a9 a10 a11 : Value} {t : TypeId} (hh : w.heap[g]? = some (.cells #[a0, a1, a2, a3, a4, a5, a6, a7, a8, a9, a10, a11] t (0, 0))) :
    w.cell? ⟨g, 0, none⟩ = some a0 ∧ w.cell? ⟨g, 1, none⟩ = some a1 ∧ w.cell? ⟨g, 2, none⟩ = some a2 ∧ w.cell? ⟨g, 3, none⟩ = some a3 ∧ w.cell? ⟨g, 4, none⟩ = some a4 ∧ w.cell? ⟨g, 5, none⟩ = some a5 ∧ w.cell? ⟨g, 6, none⟩ = some a6 ∧ w.cell? ⟨g, 7, none⟩ = some a7 ∧ w.cell? ⟨g, 8, none⟩ = some a8 ∧ w.cell? ⟨g, 9, none⟩ = some a9 ∧ w.cell? ⟨g, 10, none⟩ = some a10 ∧ w.cell? ⟨g, 11, none⟩ = some a11 := by
  refine ⟨?_, ?_, ?_, ?_, ?_, ?_, ?_, ?_, ?_, ?_, ?_, ?_⟩ <;> simp [World.cell?, hh]

theorem keep_refl (W : World) : W.heap.size ≤ W.heap.size ∧ ∀ b j, b < W.heap.size → W.cell? ⟨b, j, none⟩ = W.cell? ⟨b, j, none⟩ := ⟨Nat.le_refl _, fun _ _ _ => rfl⟩
theorem keep_drew {W X : World} (h : W.heap.size ≤ X.heap.size ∧ ∀ b j, b < W.heap.size → X.cell? ⟨b, j, none⟩ = W.cell? ⟨b, j, none⟩) : W.heap.size ≤ X.drew.heap.size ∧ ∀ b j, b < W.heap.size → X.drew.cell? ⟨b, j, none⟩ = W.cell? ⟨b, j, none⟩ := h
theorem blk_alloc {w : World} {g : Nat} {o a : Obj} (h : w.heap[g]? = some o) : (w.alloc a).heap[g]? = some o := blk_below h (below_one w a)
theorem new1d (W : World) (a : Obj) : (W.alloc a).drew.heap[W.heap.size]? = some a := heap_alloc_new W a
theorem new2d (W : World) (a b : Obj) : ((W.alloc a).alloc b).drew.heap[W.heap.size + 1]? = some b := by
  show ((W.alloc a).alloc b).heap[W.heap.size + 1]? = some b
  have := heap_alloc_new (W.alloc a) b
  simpa using this
theorem new2e (W : World) (a b : Obj) : ((W.alloc a).alloc b).drew.heap[W.heap.size]? = some a := ((below_one (W.alloc a) b).block W.heap.size (by simp)).trans (heap_alloc_new W a)
theorem new2m (W : World) (a b : Obj) : ((W.alloc a).alloc b).heap[W.heap.size + 1]? = some b := by
  have := heap_alloc_new (W.alloc a) b
  simpa using this
theorem new2n (W : World) (a b : Obj) : ((W.alloc a).alloc b).heap[W.heap.size]? = some a := ((below_one (W.alloc a) b).block W.heap.size (by simp)).trans (heap_alloc_new W a)
/-- The cells of an act, of a frame. -/
def ActAt (w : World) (g : Nat) (x : Ac) : Prop := w.cell? ⟨g, 0, none⟩ = some (.int .u8 (x.kind : Nat)) ∧ w.cell? ⟨g, 1, none⟩ = some (.int .i64 (x.pl : Nat)) ∧ w.cell? ⟨g, 2, none⟩ = some (.int .u64 (x.a : Nat)) ∧ w.cell? ⟨g, 3, none⟩ = some (.int .u64 (x.b : Nat)) ∧ w.cell? ⟨g, 4, none⟩ = some (.int .u64 (x.c : Nat)) ∧ w.cell? ⟨g, 5, none⟩ = some (.int .i64 x.code) ∧ w.cell? ⟨g, 6, none⟩ = some (.int .u32 (x.v : Nat))
def FrmAt (w : World) (g : Nat) (f : Ds) : Prop := w.cell? ⟨g, 0, none⟩ = some (.int .u8 (f.kind : Nat)) ∧ w.cell? ⟨g, 1, none⟩ = some (.int .u32 (f.a : Nat)) ∧ w.cell? ⟨g, 2, none⟩ = some (.int .u32 (f.b : Nat)) ∧ w.cell? ⟨g, 3, none⟩ = some (.int .u8 (f.pc : Nat)) ∧ w.cell? ⟨g, 4, none⟩ = some (.int .u8 (f.i : Nat)) ∧ w.cell? ⟨g, 5, none⟩ = some (.int .u8 (f.j : Nat)) ∧ w.cell? ⟨g, 6, none⟩ = some (.int .u8 (f.n : Nat)) ∧ w.cell? ⟨g, 7, none⟩ = some (.int .u8 (f.p : Nat)) ∧ w.cell? ⟨g, 8, none⟩ = some (.int .u8 (f.h : Nat)) ∧ w.cell? ⟨g, 9, none⟩ = some (.int .u32 (f.x : Nat)) ∧ w.cell? ⟨g, 10, none⟩ = some (.int .u32 (f.y : Nat))

theorem enter4 {P : Program} {code : Code} {Q : Exit → Act → World → Prop} {x : Act} {w : World} {a b c d : Obj}
    (h : ∀ W, Below w.heap.size w W → W.heap[w.heap.size]? = some a → W.heap[w.heap.size + 1]? = some b → W.heap[w.heap.size + 1 + 1]? = some c → W.heap[w.heap.size + 1 + 1 + 1]? = some d → w.heap.size < W.heap.size → w.heap.size + 1 < W.heap.size → w.heap.size + 1 + 1 < W.heap.size → w.heap.size + 1 + 1 + 1 < W.heap.size → code.wp P Q x W) : code.wp P Q x ((((w.alloc a).alloc b).alloc c).alloc d) :=
  h _ (below_then (below_three w a b c) (below_one _ d)) (blk_alloc (((below_two (w.alloc a) b c).block w.heap.size (by simp)).trans (heap_alloc_new w a))) (blk_alloc (((below_one ((w.alloc a).alloc b) c).block (w.heap.size + 1) (by simp)).trans (by simpa using heap_alloc_new (w.alloc a) b))) (blk_alloc (new_third w a b c)) (new_fourth w a b c d) (by simp; try omega) (by simp; try omega) (by simp; try omega) (by simp; try omega)
theorem cells4p {w : World} {g : Nat} {a b c d : Value} {t : TypeId} (hh : w.heap[g]? = some (.cells #[a, b, c, d] t (0, 0))) : w.cell? ⟨g, 0, none⟩ = some a ∧ w.cell? ⟨g, 1, none⟩ = some b ∧ w.cell? ⟨g, 2, none⟩ = some c ∧ w.cell? ⟨g, 3, none⟩ = some d := by
  refine ⟨?_, ?_, ?_, ?_⟩ <;> simp [World.cell?, hh]

/-! What lies in a block, step by step: made, kept, stored into. -/
theorem bk_drew {X : World} {g : Nat} {o : Obj} (h : X.heap[g]? = some o) : X.drew.heap[g]? = some o := h
theorem bk_new (W : World) (a : Obj) : (W.alloc a).heap[W.heap.size]? = some a := heap_alloc_new W a
theorem bk_newd (W : World) (a : Obj) : (W.drew.alloc a).heap[W.heap.size]? = some a := heap_alloc_new W.drew a
theorem bk_below {X W : World} {g : Nat} {o : Obj} (hb : Below X.heap.size X W) (h : X.heap[g]? = some o) : W.heap[g]? = some o := blk_below h hb
theorem bk_other {X : World} {g p j : Nat} {o : Obj} {v : Value} (hne : p ≠ g) (h : X.heap[g]? = some o) : (X.setCell ⟨p, j, none⟩ v).heap[g]? = some o := by
  simp only [World.setCell, Array.getElem?_modify, if_neg hne, h]
theorem bk_store {X : World} {g : Nat} {cs : Array Value} {t : TypeId} (h : X.heap[g]? = some (.cells cs t (0, 0))) (i : Nat) (v : Value) : (X.setCell ⟨g, i, none⟩ v).heap[g]? = some (.cells (cs.setIfInBounds i v) t (0, 0)) := by
  simp [World.setCell, Array.getElem?_modify, h]
theorem bk_other7 {X : World} {g p : Nat} {o : Obj} {v0 v1 v2 v3 v4 v5 v6 : Value} (hne : p ≠ g) (h : X.heap[g]? = some o) : (((((((X.setCell ⟨p, 0, none⟩ v0).setCell ⟨p, 1, none⟩ v1).setCell ⟨p, 2, none⟩ v2).setCell ⟨p, 3, none⟩ v3).setCell ⟨p, 4, none⟩ v4).setCell ⟨p, 5, none⟩ v5).setCell ⟨p, 6, none⟩ v6).heap[g]? = some o :=
  (bk_other hne (bk_other hne (bk_other hne (bk_other hne (bk_other hne (bk_other hne (bk_other hne h)))))))
theorem bk_set7 {X : World} {g : Nat} {z0 z1 z2 z3 z4 z5 z6 : Value} {t : TypeId} {v0 v1 v2 v3 v4 v5 v6 : Value} (h : X.heap[g]? = some (.cells #[z0, z1, z2, z3, z4, z5, z6] t (0, 0))) : (((((((X.setCell ⟨g, 0, none⟩ v0).setCell ⟨g, 1, none⟩ v1).setCell ⟨g, 2, none⟩ v2).setCell ⟨g, 3, none⟩ v3).setCell ⟨g, 4, none⟩ v4).setCell ⟨g, 5, none⟩ v5).setCell ⟨g, 6, none⟩ v6).heap[g]? = some (.cells #[v0, v1, v2, v3, v4, v5, v6] t (0, 0)) := by
  have H := (bk_store (bk_store (bk_store (bk_store (bk_store (bk_store (bk_store h 0 v0) 1 v1) 2 v2) 3 v3) 4 v4) 5 v5) 6 v6)
  simpa using H
theorem bw_set7 {B : Nat} {w X : World} {g : Nat} {v0 v1 v2 v3 v4 v5 v6 : Value} (hg : B ≤ g) (h : Below B w X) : Below B w (((((((X.setCell ⟨g, 0, none⟩ v0).setCell ⟨g, 1, none⟩ v1).setCell ⟨g, 2, none⟩ v2).setCell ⟨g, 3, none⟩ v3).setCell ⟨g, 4, none⟩ v4).setCell ⟨g, 5, none⟩ v5).setCell ⟨g, 6, none⟩ v6) :=
  (Below.setCell (Below.setCell (Below.setCell (Below.setCell (Below.setCell (Below.setCell (Below.setCell h hg v0) hg v1) hg v2) hg v3) hg v4) hg v5) hg v6)
theorem bk_other11 {X : World} {g p : Nat} {o : Obj} {v0 v1 v2 v3 v4 v5 v6 v7 v8 v9 v10 : Value} (hne : p ≠ g) (h : X.heap[g]? = some o) : (((((((((((X.setCell ⟨p, 0, none⟩ v0).setCell ⟨p, 1, none⟩ v1).setCell ⟨p, 2, none⟩ v2).setCell ⟨p, 3, none⟩ v3).setCell ⟨p, 4, none⟩ v4).setCell ⟨p, 5, none⟩ v5).setCell ⟨p, 6, none⟩ v6).setCell ⟨p, 7, none⟩ v7).setCell ⟨p, 8, none⟩ v8).setCell ⟨p, 9, none⟩ v9).setCell ⟨p, 10, none⟩ v10).heap[g]? = some o :=
  (bk_other hne (bk_other hne (bk_other hne (bk_other hne (bk_other hne (bk_other hne (bk_other hne (bk_other hne (bk_other hne (bk_other hne (bk_other hne h)))))))))))
theorem bk_set11 {X : World} {g : Nat} {z0 z1 z2 z3 z4 z5 z6 z7 z8 z9 z10 : Value} {t : TypeId} {v0 v1 v2 v3 v4 v5 v6 v7 v8 v9 v10 : Value} (h : X.heap[g]? = some (.cells #[z0, z1, z2, z3, z4, z5, z6, z7, z8, z9, z10] t (0, 0))) : (((((((((((X.setCell ⟨g, 0, none⟩ v0).setCell ⟨g, 1, none⟩ v1).setCell ⟨g, 2, none⟩ v2).setCell ⟨g, 3, none⟩ v3).setCell ⟨g, 4, none⟩ v4).setCell ⟨g, 5, none⟩ v5).setCell ⟨g, 6, none⟩ v6).setCell ⟨g, 7, none⟩ v7).setCell ⟨g, 8, none⟩ v8).setCell ⟨g, 9, none⟩ v9).setCell ⟨g, 10, none⟩ v10).heap[g]? = some (.cells #[v0, v1, v2, v3, v4, v5, v6, v7, v8, v9, v10] t (0, 0)) := by
  have H := (bk_store (bk_store (bk_store (bk_store (bk_store (bk_store (bk_store (bk_store (bk_store (bk_store (bk_store h 0 v0) 1 v1) 2 v2) 3 v3) 4 v4) 5 v5) 6 v6) 7 v7) 8 v8) 9 v9) 10 v10)
  simpa using H
theorem bw_set11 {B : Nat} {w X : World} {g : Nat} {v0 v1 v2 v3 v4 v5 v6 v7 v8 v9 v10 : Value} (hg : B ≤ g) (h : Below B w X) : Below B w (((((((((((X.setCell ⟨g, 0, none⟩ v0).setCell ⟨g, 1, none⟩ v1).setCell ⟨g, 2, none⟩ v2).setCell ⟨g, 3, none⟩ v3).setCell ⟨g, 4, none⟩ v4).setCell ⟨g, 5, none⟩ v5).setCell ⟨g, 6, none⟩ v6).setCell ⟨g, 7, none⟩ v7).setCell ⟨g, 8, none⟩ v8).setCell ⟨g, 9, none⟩ v9).setCell ⟨g, 10, none⟩ v10) :=
  (Below.setCell (Below.setCell (Below.setCell (Below.setCell (Below.setCell (Below.setCell (Below.setCell (Below.setCell (Below.setCell (Below.setCell (Below.setCell h hg v0) hg v1) hg v2) hg v3) hg v4) hg v5) hg v6) hg v7) hg v8) hg v9) hg v10)
/-! A block of 7, of 11 cells, whatever lies in them. -/
def Bk7 (W : World) (g : Nat) (t : TypeId) : Prop := ∃ z0 z1 z2 z3 z4 z5 z6 : Value, W.heap[g]? = some (.cells #[z0, z1, z2, z3, z4, z5, z6] t (0, 0))
theorem Bk7.drew {X : World} {g : Nat} {t : TypeId} (h : Bk7 X g t) : Bk7 X.drew g t := h
theorem Bk7.new {X : World} {g : Nat} {t : TypeId} {z0 z1 z2 z3 z4 z5 z6 : Value} (hg : g = X.heap.size) : Bk7 (X.alloc (.cells #[z0, z1, z2, z3, z4, z5, z6] t)) g t := by
  subst hg
  exact ⟨_, _, _, _, _, _, _, heap_alloc_new _ _⟩
theorem Bk7.alloc {X : World} {g : Nat} {t : TypeId} {a : Obj} (h : Bk7 X g t) : Bk7 (X.alloc a) g t := by
  obtain ⟨z0, z1, z2, z3, z4, z5, z6, h⟩ := h
  exact ⟨_, _, _, _, _, _, _, blk_alloc h⟩
theorem Bk7.below {X W : World} {g : Nat} {t : TypeId} (hb : Below X.heap.size X W) (h : Bk7 X g t) : Bk7 W g t := by
  obtain ⟨z0, z1, z2, z3, z4, z5, z6, h⟩ := h
  exact ⟨_, _, _, _, _, _, _, blk_below h hb⟩
theorem Bk7.other7 {X : World} {g p : Nat} {t : TypeId} {v0 v1 v2 v3 v4 v5 v6 : Value} (hne : p ≠ g) (h : Bk7 X g t) : Bk7 (((((((X.setCell ⟨p, 0, none⟩ v0).setCell ⟨p, 1, none⟩ v1).setCell ⟨p, 2, none⟩ v2).setCell ⟨p, 3, none⟩ v3).setCell ⟨p, 4, none⟩ v4).setCell ⟨p, 5, none⟩ v5).setCell ⟨p, 6, none⟩ v6) g t := by
  obtain ⟨z0, z1, z2, z3, z4, z5, z6, h⟩ := h
  exact ⟨_, _, _, _, _, _, _, bk_other7 hne h⟩
theorem Bk7.other11 {X : World} {g p : Nat} {t : TypeId} {v0 v1 v2 v3 v4 v5 v6 v7 v8 v9 v10 : Value} (hne : p ≠ g) (h : Bk7 X g t) : Bk7 (((((((((((X.setCell ⟨p, 0, none⟩ v0).setCell ⟨p, 1, none⟩ v1).setCell ⟨p, 2, none⟩ v2).setCell ⟨p, 3, none⟩ v3).setCell ⟨p, 4, none⟩ v4).setCell ⟨p, 5, none⟩ v5).setCell ⟨p, 6, none⟩ v6).setCell ⟨p, 7, none⟩ v7).setCell ⟨p, 8, none⟩ v8).setCell ⟨p, 9, none⟩ v9).setCell ⟨p, 10, none⟩ v10) g t := by
  obtain ⟨z0, z1, z2, z3, z4, z5, z6, h⟩ := h
  exact ⟨_, _, _, _, _, _, _, bk_other11 hne h⟩
theorem Bk7.set {X : World} {g : Nat} {t : TypeId} {v0 v1 v2 v3 v4 v5 v6 : Value} (h : Bk7 X g t) : (((((((X.setCell ⟨g, 0, none⟩ v0).setCell ⟨g, 1, none⟩ v1).setCell ⟨g, 2, none⟩ v2).setCell ⟨g, 3, none⟩ v3).setCell ⟨g, 4, none⟩ v4).setCell ⟨g, 5, none⟩ v5).setCell ⟨g, 6, none⟩ v6).heap[g]? = some (.cells #[v0, v1, v2, v3, v4, v5, v6] t (0, 0)) := by
  obtain ⟨z0, z1, z2, z3, z4, z5, z6, h⟩ := h
  exact bk_set7 h
def Bk11 (W : World) (g : Nat) (t : TypeId) : Prop := ∃ z0 z1 z2 z3 z4 z5 z6 z7 z8 z9 z10 : Value, W.heap[g]? = some (.cells #[z0, z1, z2, z3, z4, z5, z6, z7, z8, z9, z10] t (0, 0))
theorem Bk11.drew {X : World} {g : Nat} {t : TypeId} (h : Bk11 X g t) : Bk11 X.drew g t := h
theorem Bk11.new {X : World} {g : Nat} {t : TypeId} {z0 z1 z2 z3 z4 z5 z6 z7 z8 z9 z10 : Value} (hg : g = X.heap.size) : Bk11 (X.alloc (.cells #[z0, z1, z2, z3, z4, z5, z6, z7, z8, z9, z10] t)) g t := by
  subst hg
  exact ⟨_, _, _, _, _, _, _, _, _, _, _, heap_alloc_new _ _⟩
theorem Bk11.alloc {X : World} {g : Nat} {t : TypeId} {a : Obj} (h : Bk11 X g t) : Bk11 (X.alloc a) g t := by
  obtain ⟨z0, z1, z2, z3, z4, z5, z6, z7, z8, z9, z10, h⟩ := h
  exact ⟨_, _, _, _, _, _, _, _, _, _, _, blk_alloc h⟩
theorem Bk11.below {X W : World} {g : Nat} {t : TypeId} (hb : Below X.heap.size X W) (h : Bk11 X g t) : Bk11 W g t := by
  obtain ⟨z0, z1, z2, z3, z4, z5, z6, z7, z8, z9, z10, h⟩ := h
  exact ⟨_, _, _, _, _, _, _, _, _, _, _, blk_below h hb⟩
theorem Bk11.other7 {X : World} {g p : Nat} {t : TypeId} {v0 v1 v2 v3 v4 v5 v6 : Value} (hne : p ≠ g) (h : Bk11 X g t) : Bk11 (((((((X.setCell ⟨p, 0, none⟩ v0).setCell ⟨p, 1, none⟩ v1).setCell ⟨p, 2, none⟩ v2).setCell ⟨p, 3, none⟩ v3).setCell ⟨p, 4, none⟩ v4).setCell ⟨p, 5, none⟩ v5).setCell ⟨p, 6, none⟩ v6) g t := by
  obtain ⟨z0, z1, z2, z3, z4, z5, z6, z7, z8, z9, z10, h⟩ := h
  exact ⟨_, _, _, _, _, _, _, _, _, _, _, bk_other7 hne h⟩
theorem Bk11.other11 {X : World} {g p : Nat} {t : TypeId} {v0 v1 v2 v3 v4 v5 v6 v7 v8 v9 v10 : Value} (hne : p ≠ g) (h : Bk11 X g t) : Bk11 (((((((((((X.setCell ⟨p, 0, none⟩ v0).setCell ⟨p, 1, none⟩ v1).setCell ⟨p, 2, none⟩ v2).setCell ⟨p, 3, none⟩ v3).setCell ⟨p, 4, none⟩ v4).setCell ⟨p, 5, none⟩ v5).setCell ⟨p, 6, none⟩ v6).setCell ⟨p, 7, none⟩ v7).setCell ⟨p, 8, none⟩ v8).setCell ⟨p, 9, none⟩ v9).setCell ⟨p, 10, none⟩ v10) g t := by
  obtain ⟨z0, z1, z2, z3, z4, z5, z6, z7, z8, z9, z10, h⟩ := h
  exact ⟨_, _, _, _, _, _, _, _, _, _, _, bk_other11 hne h⟩
theorem Bk11.set {X : World} {g : Nat} {t : TypeId} {v0 v1 v2 v3 v4 v5 v6 v7 v8 v9 v10 : Value} (h : Bk11 X g t) : (((((((((((X.setCell ⟨g, 0, none⟩ v0).setCell ⟨g, 1, none⟩ v1).setCell ⟨g, 2, none⟩ v2).setCell ⟨g, 3, none⟩ v3).setCell ⟨g, 4, none⟩ v4).setCell ⟨g, 5, none⟩ v5).setCell ⟨g, 6, none⟩ v6).setCell ⟨g, 7, none⟩ v7).setCell ⟨g, 8, none⟩ v8).setCell ⟨g, 9, none⟩ v9).setCell ⟨g, 10, none⟩ v10).heap[g]? = some (.cells #[v0, v1, v2, v3, v4, v5, v6, v7, v8, v9, v10] t (0, 0)) := by
  obtain ⟨z0, z1, z2, z3, z4, z5, z6, z7, z8, z9, z10, h⟩ := h
  exact bk_set11 h
theorem bk_newg {X : World} {g : Nat} {a : Obj} (hg : g = X.heap.size) : (X.alloc a).heap[g]? = some a := by
  subst hg
  exact heap_alloc_new _ _
theorem bw_alloc {w X : World} {a : Obj} (h : Below w.heap.size w X) : Below w.heap.size w (X.alloc a) := below_then h (below_one X a)
theorem bw_drew {w X : World} (h : Below w.heap.size w X) : Below w.heap.size w X.drew := below_drew' h
theorem bw_below {w X W : World} (hb : Below X.heap.size X W) (h : Below w.heap.size w X) : Below w.heap.size w W := below_then h hb
theorem act_of {w : World} {g : Nat} {x : Ac} {t : TypeId} (h : w.heap[g]? = some (.cells #[.int .u8 (x.kind : Nat), .int .i64 (x.pl : Nat), .int .u64 (x.a : Nat), .int .u64 (x.b : Nat), .int .u64 (x.c : Nat), .int .i64 x.code, .int .u32 (x.v : Nat)] t (0, 0))) : ActAt w g x := by
  refine ⟨?_, ?_, ?_, ?_, ?_, ?_, ?_⟩ <;> simp [World.cell?, h]
theorem frm_of {w : World} {g : Nat} {f : Ds} {t : TypeId} (h : w.heap[g]? = some (.cells #[.int .u8 (f.kind : Nat), .int .u32 (f.a : Nat), .int .u32 (f.b : Nat), .int .u8 (f.pc : Nat), .int .u8 (f.i : Nat), .int .u8 (f.j : Nat), .int .u8 (f.n : Nat), .int .u8 (f.p : Nat), .int .u8 (f.h : Nat), .int .u32 (f.x : Nat), .int .u32 (f.y : Nat)] t (0, 0))) : FrmAt w g f := by
  refine ⟨?_, ?_, ?_, ?_, ?_, ?_, ?_, ?_, ?_, ?_, ?_⟩ <;> simp [World.cell?, h]
/-! One block is turned, no other. -/
theorem st_of {X : World} {g : Nat} {o o' : Obj} (h : X.heap[g]? = some o) (e : o = o') : X.heap[g]? = some o' := e ▸ h
theorem only_set {W X : World} {g : Nat} (h : Only (fun k => k = g) W X) (i : Nat) (v : Value) : Only (fun k => k = g) W (X.setCell ⟨g, i, none⟩ v) := h.setCell (p := ⟨g, i, none⟩) (.inl rfl) v
theorem only_cells {W X : World} {g : Nat} (h : Only (fun k => k = g) W X) : ∀ b j, b < W.heap.size → b ≠ g → X.cell? ⟨b, j, none⟩ = W.cell? ⟨b, j, none⟩ := fun b _ hb hn => World.cell?_of_block (h.block b hb hn)
theorem only_blk {W X : World} {g k : Nat} {o : Obj} (h : Only (fun k => k = g) W X) (hk : W.heap[k]? = some o) (hne : k ≠ g) : X.heap[k]? = some o := (h.block k (Array.getElem?_eq_some_iff.1 hk).1 hne).trans hk
/-- A store into a block: the world gets a name. -/
theorem entSet {P : Program} {code : Code} {Q : Exit → Act → World → Prop} {x : Act} {W : World} {g i : Nat} {v : Value} {cs cs' : Array Value} {t : TypeId} (hg : W.heap[g]? = some (.cells cs t (0, 0)))
    (hcs : cs.setIfInBounds i v = cs') (h : ∀ W', W'.heap[g]? = some (.cells cs' t (0, 0)) → Only (fun k => k = g) W W' → code.wp P Q x W') : code.wp P Q x (W.setCell ⟨g, i, none⟩ v) := by
  subst hcs
  exact h _ (bk_store hg i v) (only_set (Only.refl _ W) i v)
end Go.Proofs.YtljhcegkekdjgaaDoor
