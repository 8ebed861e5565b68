/- The program of an index, the program's own call: the frame behind: what lies ahead of the walk. -/
import Derived.Test.YtmkehailohgebaaDoorTpH
import Derived.Test.YtmkehailohgebaaDoorTpT
import Derived.Test.YtmkehailohgebaaDoorTeAft
import Derived.Test.YtmkehailohgebaaDoorTeXY
import Derived.Deep.Cut
import Derived.Deep.RegionHeld3
import Derived.Deep.DeepCutAuto
namespace Go.Proofs.YtmkehailohgebaaDoor
open Go.RowKit Go.Lib Pt Opn

/-! A block of 18 cells. -/
def Bk18 (W : World) (g : Nat) (t : TypeId) : Prop := ∃ z0 z1 z2 z3 z4 z5 z6 z7 z8 z9 z10 z11 z12 z13 z14 z15 z16 z17 : Value, W.heap[g]? = some (.cells #[z0, z1, z2, z3, z4, z5, z6, z7, z8, z9, z10, z11, z12, z13, z14, z15, z16, z17] t (0, 0))
theorem Bk18.drew {X : World} {g : Nat} {t : TypeId} (h : Bk18 X g t) : Bk18 X.drew g t := h
theorem Bk18.new {X : World} {g : Nat} {t : TypeId} {z0 z1 z2 z3 z4 z5 z6 z7 z8 z9 z10 z11 z12 z13 z14 z15 z16 z17 : Value} (hg : g = X.heap.size) : Bk18 (X.alloc (.cells #[z0, z1, z2, z3, z4, z5, z6, z7, z8, z9, z10, z11, z12, z13, z14, z15, z16, z17] t)) g t := by
  subst hg
  exact ⟨_, _, _, _, _, _, _, _, _, _, _, _, _, _, _, _, _, _, heap_alloc_new _ _⟩
theorem Bk18.below {X W : World} {g : Nat} {t : TypeId} (hb : Below X.heap.size X W) (h : Bk18 X g t) : Bk18 W g t := by
  obtain ⟨z0, z1, z2, z3, z4, z5, z6, z7, z8, z9, z10, z11, z12, z13, z14, z15, z16, z17, h⟩ := h
  exact ⟨_, _, _, _, _, _, _, _, _, _, _, _, _, _, _, _, _, _, blk_below h hb⟩
theorem Bk18.set {X : World} {g : Nat} {t : TypeId} {v0 v1 v2 v3 v4 v5 v6 v7 v8 v9 v10 v11 v12 v13 v14 v15 v16 v17 : Value} (h : Bk18 X g t) : ((((((((((((((((((X.setCell ⟨g, 0, none⟩ v0).setCell ⟨g, 1, none⟩ v1).setCell ⟨g, 2, none⟩ v2).setCell ⟨g, 3, none⟩ v3).setCell ⟨g, 4, none⟩ v4).setCell ⟨g, 5, none⟩ v5).setCell ⟨g, 6, none⟩ v6).setCell ⟨g, 7, none⟩ v7).setCell ⟨g, 8, none⟩ v8).setCell ⟨g, 9, none⟩ v9).setCell ⟨g, 10, none⟩ v10).setCell ⟨g, 11, none⟩ v11).setCell ⟨g, 12, none⟩ v12).setCell ⟨g, 13, none⟩ v13).setCell ⟨g, 14, none⟩ v14).setCell ⟨g, 15, none⟩ v15).setCell ⟨g, 16, none⟩ v16).setCell ⟨g, 17, none⟩ v17).heap[g]? = some (.cells #[v0, v1, v2, v3, v4, v5, v6, v7, v8, v9, v10, v11, v12, v13, v14, v15, v16, v17] t (0, 0)) := by
  obtain ⟨z0, z1, z2, z3, z4, z5, z6, z7, z8, z9, z10, z11, z12, z13, z14, z15, z16, z17, h⟩ := h
  have H := bk_store (bk_store (bk_store (bk_store (bk_store (bk_store (bk_store (bk_store (bk_store (bk_store (bk_store (bk_store (bk_store (bk_store (bk_store (bk_store (bk_store (bk_store h 0 v0) 1 v1) 2 v2) 3 v3) 4 v4) 5 v5) 6 v6) 7 v7) 8 v8) 9 v9) 10 v10) 11 v11) 12 v12) 13 v13) 14 v14) 15 v15) 16 v16) 17 v17
  simpa using H
theorem bw_set18 {B : Nat} {w X : World} {g : Nat} {v0 v1 v2 v3 v4 v5 v6 v7 v8 v9 v10 v11 v12 v13 v14 v15 v16 v17 : Value} (hg : B ≤ g) (h : Below B w X) : Below B w ((((((((((((((((((X.setCell ⟨g, 0, none⟩ v0).setCell ⟨g, 1, none⟩ v1).setCell ⟨g, 2, none⟩ v2).setCell ⟨g, 3, none⟩ v3).setCell ⟨g, 4, none⟩ v4).setCell ⟨g, 5, none⟩ v5).setCell ⟨g, 6, none⟩ v6).setCell ⟨g, 7, none⟩ v7).setCell ⟨g, 8, none⟩ v8).setCell ⟨g, 9, none⟩ v9).setCell ⟨g, 10, none⟩ v10).setCell ⟨g, 11, none⟩ v11).setCell ⟨g, 12, none⟩ v12).setCell ⟨g, 13, none⟩ v13).setCell ⟨g, 14, none⟩ v14).setCell ⟨g, 15, none⟩ v15).setCell ⟨g, 16, none⟩ v16).setCell ⟨g, 17, none⟩ v17) :=
  (Below.setCell (Below.setCell (Below.setCell (Below.setCell (Below.setCell (Below.setCell (Below.setCell (Below.setCell (Below.setCell (Below.setCell (Below.setCell (Below.setCell (Below.setCell (Below.setCell (Below.setCell (Below.setCell (Below.setCell (Below.setCell h hg v0) hg v1) hg v2) hg v3) hg v4) hg v5) hg v6) hg v7) hg v8) hg v9) hg v10) hg v11) hg v12) hg v13) hg v14) hg v15) hg v16) hg v17)
theorem keep_set18 {W X : World} (h : W.heap.size ≤ X.heap.size ∧ ∀ b j, b < W.heap.size → X.cell? ⟨b, j, none⟩ = W.cell? ⟨b, j, none⟩) (g : Nat) (hg : W.heap.size ≤ g) (v0 v1 v2 v3 v4 v5 v6 v7 v8 v9 v10 v11 v12 v13 v14 v15 v16 v17 : Value) :
    W.heap.size ≤ ((((((((((((((((((X.setCell ⟨g, 0, none⟩ v0).setCell ⟨g, 1, none⟩ v1).setCell ⟨g, 2, none⟩ v2).setCell ⟨g, 3, none⟩ v3).setCell ⟨g, 4, none⟩ v4).setCell ⟨g, 5, none⟩ v5).setCell ⟨g, 6, none⟩ v6).setCell ⟨g, 7, none⟩ v7).setCell ⟨g, 8, none⟩ v8).setCell ⟨g, 9, none⟩ v9).setCell ⟨g, 10, none⟩ v10).setCell ⟨g, 11, none⟩ v11).setCell ⟨g, 12, none⟩ v12).setCell ⟨g, 13, none⟩ v13).setCell ⟨g, 14, none⟩ v14).setCell ⟨g, 15, none⟩ v15).setCell ⟨g, 16, none⟩ v16).setCell ⟨g, 17, none⟩ v17).heap.size ∧ ∀ b j, b < W.heap.size → ((((((((((((((((((X.setCell ⟨g, 0, none⟩ v0).setCell ⟨g, 1, none⟩ v1).setCell ⟨g, 2, none⟩ v2).setCell ⟨g, 3, none⟩ v3).setCell ⟨g, 4, none⟩ v4).setCell ⟨g, 5, none⟩ v5).setCell ⟨g, 6, none⟩ v6).setCell ⟨g, 7, none⟩ v7).setCell ⟨g, 8, none⟩ v8).setCell ⟨g, 9, none⟩ v9).setCell ⟨g, 10, none⟩ v10).setCell ⟨g, 11, none⟩ v11).setCell ⟨g, 12, none⟩ v12).setCell ⟨g, 13, none⟩ v13).setCell ⟨g, 14, none⟩ v14).setCell ⟨g, 15, none⟩ v15).setCell ⟨g, 16, none⟩ v16).setCell ⟨g, 17, none⟩ v17).cell? ⟨b, j, none⟩ = W.cell? ⟨b, j, none⟩ := by
  refine ⟨by simpa [World.setCell] using h.1, fun b j hb => ?_⟩
  have hne : ∀ i, (⟨g, i, none⟩ : Addr) ≠ ⟨b, j, none⟩ := fun i e => by injection e with e; omega
  simp only [World.cell?_setCell_other _ _ _ _ (hne _)]
  exact h.2 b j hb

/-! A row of cells is stored. -/
def setFrom : Array Value → Nat → List Value → Array Value
  | cs, _, [] => cs
  | cs, o, v :: r => setFrom (cs.setIfInBounds o v) (o + 1) r
theorem setCells_row (g : Nat) (t : TypeId) : ∀ (vs : List Value) (o : Nat) (cs : Array Value) (X : World), X.heap[g]? = some (.cells cs t (0, 0)) → (X.setCells g o vs).heap[g]? = some (.cells (setFrom cs o vs) t (0, 0))
  | [], _, _, _, h => h
  | v :: r, o, cs, X, h => by
    rw [World.setCells]
    exact setCells_row g t r (o + 1) _ _ (bk_store h o v)
theorem setCells_only (g : Nat) : ∀ (vs : List Value) (o : Nat) (W X : World), Only (fun k => k = g) W X → Only (fun k => k = g) W (X.setCells g o vs)
  | [], _, _, _, h => h
  | v :: r, o, W, X, h => by
    rw [World.setCells]
    exact setCells_only g r (o + 1) W _ (only_set h o v)
theorem setCells_below (g : Nat) {B : Nat} {w : World} (hg : B ≤ g) : ∀ (vs : List Value) (o : Nat) (X : World), Below B w X → Below B w (X.setCells g o vs)
  | [], _, _, h => h
  | v :: r, o, X, h => by
    rw [World.setCells]
    exact setCells_below g hg r (o + 1) _ (h.setCell (p := ⟨g, o, none⟩) hg v)
theorem keep_cells (g : Nat) {W : World} (hg : W.heap.size ≤ g) : ∀ (vs : List Value) (o : Nat) (X : World), (W.heap.size ≤ X.heap.size ∧ ∀ b j, b < W.heap.size → X.cell? ⟨b, j, none⟩ = W.cell? ⟨b, j, none⟩) → W.heap.size ≤ (X.setCells g o vs).heap.size ∧ ∀ b j, b < W.heap.size → (X.setCells g o vs).cell? ⟨b, j, none⟩ = W.cell? ⟨b, j, none⟩
  | [], _, _, h => h
  | v :: r, o, X, h => by
    rw [World.setCells]
    exact keep_cells g hg r (o + 1) _ (keep_set h g o v hg)
theorem stored18 {X : World} {g : Nat} {t : TypeId} {z0 z1 z2 z3 z4 z5 z6 z7 z8 z9 z10 z11 z12 z13 z14 z15 z16 z17 v0 v1 v2 v3 v4 v5 v6 v7 v8 v9 v10 v11 v12 v13 v14 v15 v16 v17 : Value} (h : X.heap[g]? = some (.cells #[z0, z1, z2, z3, z4, z5, z6, z7, z8, z9, z10, z11, z12, z13, z14, z15, z16, z17] t (0, 0))) : (X.setCells g 0 [v0, v1, v2, v3, v4, v5, v6, v7, v8, v9, v10, v11, v12, v13, v14, v15, v16, v17]).heap[g]? = some (.cells #[v0, v1, v2, v3, v4, v5, v6, v7, v8, v9, v10, v11, v12, v13, v14, v15, v16, v17] t (0, 0)) := by
  rw [setCells_row g t _ 0 _ X h]
  simp [setFrom]
theorem cl18 {w : World} {g : Nat} {a0 a1 a2 a3 a4 a5 a6 a7 a8 a9 a10 a11 a12 a13 a14 a15 a16 a17 : Value} {t : TypeId} (hh : w.heap[g]? = some (.cells #[a0, a1, a2, a3, a4, a5, a6, a7, a8, a9, a10, a11, a12, a13, a14, a15, a16, a17] t (0, 0))) :
    w.cell? ⟨g, 0, none⟩ = some a0 ∧ w.cell? ⟨g, 1, none⟩ = some a1 ∧ w.cell? ⟨g, 2, none⟩ = some a2 ∧ w.cell? ⟨g, 3, none⟩ = some a3 ∧ w.cell? ⟨g, 4, none⟩ = some a4 ∧ w.cell? ⟨g, 5, none⟩ = some a5 ∧ w.cell? ⟨g, 6, none⟩ = some a6 ∧ w.cell? ⟨g, 7, none⟩ = some a7 ∧ w.cell? ⟨g, 8, none⟩ = some a8 ∧ w.cell? ⟨g, 9, none⟩ = some a9 ∧ w.cell? ⟨g, 10, none⟩ = some a10 ∧ w.cell? ⟨g, 11, none⟩ = some a11 ∧ w.cell? ⟨g, 12, none⟩ = some a12 ∧ w.cell? ⟨g, 13, none⟩ = some a13 ∧ w.cell? ⟨g, 14, none⟩ = some a14 ∧ w.cell? ⟨g, 15, none⟩ = some a15 ∧ w.cell? ⟨g, 16, none⟩ = some a16 ∧ w.cell? ⟨g, 17, none⟩ = some a17 := by
  refine ⟨?_, ?_, ?_, ?_, ?_, ?_, ?_, ?_, ?_, ?_, ?_, ?_, ?_, ?_, ?_, ?_, ?_, ?_⟩ <;> simp [World.cell?, hh]
theorem there_row {X : World} {g : Nat} {cs : Array Value} {t : TypeId} (h : X.heap[g]? = some (.cells cs t (0, 0))) (n : Nat) (hn : cs.size = n) : X.there g 0 n := fun j hj => by
  rw [Nat.zero_add]
  refine ⟨?_, ?_⟩
  · unfold World.cell?
    rw [h]
    simp
    omega
  · unfold World.frozen?
    rw [h]
    simp

theorem pTurn_any {c : Cf} {C N K : Nat} (s : SzX c C N K) (A0 : Option Addr) (cp : Nat) (g : Nat) (f : Ds) (ht : ThereX f.kind f.pc) (q : FitX c C K f) (tt A B Cc : Nat) (hg : g ≠ 1) (w : World) (hP : Pow w) (hs : StX c (.slice A0 (topX c + 1 : Nat) cp) g f 0 0 false w) :
    Calls Tryd.prog 32 #[.pointer (some ⟨g, 0, none⟩), cvT tt A B Cc] w (TurnX c (.slice A0 (topX c + 1 : Nat) cp) g (behindX c f A B).1 (toldX (behindX c f A B)).1 (toldX (behindX c f A B)).2 (behindX c f A B).2 w) := by
  rcases pcs_of ht with e | e | e | e | e | e | e | e | e | e | e | e | e | e | e | e | e
  · exact pTurn_0 s A0 cp g f e q tt A B Cc hg w hP hs
  · exact pTurn_1 s A0 cp g f e q tt A B Cc hg w hP hs
  · exact pTurn_3 s A0 cp g f e q tt A B Cc hg w hP hs
  · exact pTurn_4 s A0 cp g f e q tt A B Cc hg w hP hs
  · exact pTurn_5 s A0 cp g f e q tt A B Cc hg w hP hs
  · exact pTurn_6 s A0 cp g f e q tt A B Cc hg w hP hs
  · exact pTurn_7 s A0 cp g f e q tt A B Cc hg w hP hs
  · exact pTurn_8 s A0 cp g f e q tt A B Cc hg w hP hs
  · exact pTurn_9 s A0 cp g f e q tt A B Cc hg w hP hs
  · exact pTurn_11 s A0 cp g f e q tt A B Cc hg w hP hs
  · exact pTurn_12 s A0 cp g f e q tt A B Cc hg w hP hs
  · exact pTurn_13 s A0 cp g f e q tt A B Cc hg w hP hs
  · exact pTurn_14 s A0 cp g f e q tt A B Cc hg w hP hs
  · exact pTurn_15 s A0 cp g f e q tt A B Cc hg w hP hs
  · exact pTurn_16 s A0 cp g f e q tt A B Cc hg w hP hs
  · exact pTurn_17 s A0 cp g f e q tt A B Cc hg w hP hs
  · exact pTurn_20 s A0 cp g f e q tt A B Cc hg w hP hs
end Go.Proofs.YtmkehailohgebaaDoor
