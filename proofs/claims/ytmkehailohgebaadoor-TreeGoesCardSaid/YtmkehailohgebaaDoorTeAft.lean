/- What becomes of a frame of an index: the document's own call; what is known of a frame that may be. -/
import Derived.Test.YtmkehailohgebaaDoorTeBehB
import Derived.Test.YtmkehailohgebaaDoorTeBehC
import Derived.Test.YtmkehailohgebaaDoorTeMay
import Derived.Test.YtmkehailohgebaaDoorGTe1
import Derived.Deep.RegionHeld3
namespace Go.Proofs.YtmkehailohgebaaDoor
open Go.RowKit Go.Lib Pt Opn

theorem fit_of {c : Cf} {C N K : Nat} (s : SzX c C N K) (ho : c.obj = 2) {f : Ds} (hw : DWf f) (hm : XMay c f) : FitX c C K f := by
  obtain ⟨h1, h2, ⟨⟨n1, n2, n3, n4⟩, m6, m9, m12⟩, h4⟩ := hm
  rw [s.cap] at n1 n2
  rw [s.chunk] at n3
  have hk := kind_at h2
  have hf := fitsX ho h1
  have c2 := s.c2
  have t4 := topX_le c
  unfold DWf at hw
  refine ⟨by omega, by omega, by omega, by omega, n4, by omega, by omega, by omega, by omega, fun e => ?_, fun e => ⟨m6 e, by omega⟩, fun e => ?_, fun e => ?_, fun e => ?_, fun e => ?_⟩
  · have hp : placeX c f = offX c f.h f.i := by simp [placeX, e]
    rw [hp, s.lev] at h4
    have := Rk.items_le (m := C) (w := N) (h := f.h) c2 s.n1 s.n2 (by omega)
    omega
  · have hp : placeX c f = offX c 0 (f.i - 1) := by simp [placeX, e]
    rw [hp, s.zero] at h4
    omega
  · have := (m9 (.inr e)).2
    rw [s.up] at this
    have := Rk.items_le (m := f.n) (w := N) (h := f.h) (by omega) s.n1 s.n2 (by omega)
    omega
  · have hp : placeX c f = offX c 0 (f.n - 1) := by simp [placeX, e]
    rw [hp, s.zero] at h4
    omega
  · rcases e with e | e | e
    · exact hk.2.2.1 (.inl e)
    · exact hk.2.2.1 (.inr (.inr e))
    · exact .inr (hk.2.2.2.1 e)
theorem pcs_of {k p : Nat} (h : ThereX k p) : p = 0 ∨ p = 1 ∨ p = 3 ∨ p = 4 ∨ p = 5 ∨ p = 6 ∨ p = 7 ∨ p = 8 ∨ p = 9 ∨ p = 11 ∨ p = 12 ∨ p = 13 ∨ p = 14 ∨ p = 15 ∨ p = 16 ∨ p = 17 ∨ (20 ≤ p ∧ p ≤ 25) := by
  unfold ThereX pcsX at h
  (repeat' split at h) <;> simp at h <;> omega
theorem rBehX_any {c : Cf} {C N K : Nat} (s : SzX c C N K) (f : Ds) (ht : ThereX f.kind f.pc) (q : FitX c C K f) (tt A B Cc : Nat) (w : World) :
    Calls Tryd.prog 38 #[cfv c, frv f, cvT tt A B Cc] w (Ret2 (frv (behindX c f A B).1) (.bool (behindX c f A B).2) w) := by
  rcases pcs_of ht with e | e | e | e | e | e | e | e | e | e | e | e | e | e | e | e | e
  · exact rBeh_0 s f e q tt A B Cc w
  · exact rBeh_1 s f e q tt A B Cc w
  · exact rBeh_3 s f e q tt A B Cc w
  · exact rBeh_4 s f e q tt A B Cc w
  · exact rBeh_5 s f e q tt A B Cc w
  · exact rBeh_6 s f e q tt A B Cc w
  · exact rBeh_7 s f e q tt A B Cc w
  · exact rBeh_8 s f e q tt A B Cc w
  · exact rBeh_9 s f e q tt A B Cc w
  · exact rBeh_11 s f e q tt A B Cc w
  · exact rBeh_12 s f e q tt A B Cc w
  · exact rBeh_13 s f e q tt A B Cc w
  · exact rBeh_14 s f e q tt A B Cc w
  · exact rBeh_15 s f e q tt A B Cc w
  · exact rBeh_16 s f e q tt A B Cc w
  · exact rBeh_17 s f e q tt A B Cc w
  · exact rBeh_20 s f e q tt A B Cc w

/-- Five new blocks: the world gets a name. -/
theorem enter5 {P : Program} {code : Code} {Q : Exit → Act → World → Prop} {x : Act} {w : World} {a b c d e : Obj}
    (h : ∀ W, Below w.heap.size w W → W.heap[w.heap.size]? = some a → W.heap[w.heap.size + 1]? = some b → W.heap[w.heap.size + 1 + 1]? = some c → W.heap[w.heap.size + 1 + 1 + 1]? = some d → W.heap[w.heap.size + 1 + 1 + 1 + 1]? = some e → code.wp P Q x W) : code.wp P Q x (((((w.alloc a).alloc b).alloc c).alloc d).alloc e) := by
  have key : ∀ W4 : World, Below w.heap.size w W4 → W4.heap[w.heap.size]? = some a → W4.heap[w.heap.size + 1]? = some b → W4.heap[w.heap.size + 1 + 1]? = some c → W4.heap[w.heap.size + 1 + 1 + 1]? = some d → W4.heap.size = w.heap.size + 1 + 1 + 1 + 1 → code.wp P Q x (W4.alloc e) := fun W4 hb g0 g1 g2 g3 hz =>
    h _ (below_then hb (below_one W4 e)) (blk_alloc g0) (blk_alloc g1) (blk_alloc g2) (blk_alloc g3) (by rw [← hz]; exact bk_new W4 e)
  exact key _ (below_then (below_three w a b c) (below_one _ d)) (blk_alloc (((below_two (w.alloc a) b c).block w.heap.size (by simp)).trans (heap_alloc_new w a))) (blk_alloc (((below_one ((w.alloc a).alloc b) c).block (w.heap.size + 1) (by simp)).trans (by simpa using heap_alloc_new (w.alloc a) b))) (blk_alloc (new_third w a b c)) (new_fourth w a b c d) (by simp)
/-- What is told, as a value. -/
def rwv (r : Nat × Nat) : Value := .agg #[.int .u64 (r.1 : Nat), .int .u64 (r.2 : Nat)]
/-- A call answers a frame, a row, whether it is told, and an error. -/
def Ret4 (v0 v1 v2 v3 : Value) (w : World) (e : Ending) (w' : World) : Prop := e = .returned (.tuple #[v0, v1, v2, v3]) ∧ Below w.heap.size w w'
theorem cells2 {w : World} {g : Nat} {a b : Value} {t : TypeId} (hh : w.heap[g]? = some (.cells #[a, b] t (0, 0))) : w.cell? ⟨g, 0, none⟩ = some a ∧ w.frozen? ⟨g, 0, none⟩ = false ∧ w.cell? ⟨g, 1, none⟩ = some b ∧ w.frozen? ⟨g, 1, none⟩ = false := by
  refine ⟨?_, ?_, ?_, ?_⟩ <;> simp [World.cell?, World.frozen?, hh]
/-! A block of 2 cells, whatever lies in them. -/
def Bk2 (W : World) (g : Nat) (t : TypeId) : Prop := ∃ z0 z1 : Value, W.heap[g]? = some (.cells #[z0, z1] t (0, 0))
theorem Bk2.drew {X : World} {g : Nat} {t : TypeId} (h : Bk2 X g t) : Bk2 X.drew g t := h
theorem Bk2.alloc {X : World} {g : Nat} {t : TypeId} {a : Obj} (h : Bk2 X g t) : Bk2 (X.alloc a) g t := by
  obtain ⟨z0, z1, h⟩ := h
  exact ⟨_, _, blk_alloc h⟩
theorem Bk2.below {X W : World} {g : Nat} {t : TypeId} (hb : Below X.heap.size X W) (h : Bk2 X g t) : Bk2 W g t := by
  obtain ⟨z0, z1, h⟩ := h
  exact ⟨_, _, blk_below h hb⟩
theorem Bk2.other11 {X : World} {g p : Nat} {t : TypeId} {v0 v1 v2 v3 v4 v5 v6 v7 v8 v9 v10 : Value} (hne : p ≠ g) (h : Bk2 X g t) : Bk2 (((((((((((X.setCell ⟨p, 0, none⟩ v0).setCell ⟨p, 1, none⟩ v1).setCell ⟨p, 2, none⟩ v2).setCell ⟨p, 3, none⟩ v3).setCell ⟨p, 4, none⟩ v4).setCell ⟨p, 5, none⟩ v5).setCell ⟨p, 6, none⟩ v6).setCell ⟨p, 7, none⟩ v7).setCell ⟨p, 8, none⟩ v8).setCell ⟨p, 9, none⟩ v9).setCell ⟨p, 10, none⟩ v10) g t := by
  obtain ⟨z0, z1, h⟩ := h
  exact ⟨_, _, bk_other11 hne h⟩
theorem Bk2.set {X : World} {g : Nat} {t : TypeId} {v0 v1 : Value} (h : Bk2 X g t) : ((X.setCell ⟨g, 0, none⟩ v0).setCell ⟨g, 1, none⟩ v1).heap[g]? = some (.cells #[v0, v1] t (0, 0)) := by
  obtain ⟨z0, z1, h⟩ := h
  have H := bk_store (bk_store h 0 v0) 1 v1
  simpa using H
theorem bk_other2 {X : World} {g p : Nat} {o : Obj} {v0 v1 : Value} (hne : p ≠ g) (h : X.heap[g]? = some o) : ((X.setCell ⟨p, 0, none⟩ v0).setCell ⟨p, 1, none⟩ v1).heap[g]? = some o := bk_other hne (bk_other hne h)
theorem Bk11.other2 {X : World} {g p : Nat} {t : TypeId} {v0 v1 : Value} (hne : p ≠ g) (h : Bk11 X g t) : Bk11 ((X.setCell ⟨p, 0, none⟩ v0).setCell ⟨p, 1, none⟩ v1) g t := by
  obtain ⟨z0, z1, z2, z3, z4, z5, z6, z7, z8, z9, z10, h⟩ := h
  exact ⟨_, _, _, _, _, _, _, _, _, _, _, bk_other2 hne h⟩
theorem bw_set2 {B : Nat} {w X : World} {g : Nat} {v0 v1 : Value} (hg : B ≤ g) (h : Below B w X) : Below B w ((X.setCell ⟨g, 0, none⟩ v0).setCell ⟨g, 1, none⟩ v1) := Below.setCell (Below.setCell h hg v0) hg v1
theorem bk11_of {W : World} {g : Nat} {t : TypeId} {z0 z1 z2 z3 z4 z5 z6 z7 z8 z9 z10 : Value} (h : W.heap[g]? = some (.cells #[z0, z1, z2, z3, z4, z5, z6, z7, z8, z9, z10] t (0, 0))) : Bk11 W g t := ⟨_, _, _, _, _, _, _, _, _, _, _, h⟩
theorem bk2_of {W : World} {g : Nat} {t : TypeId} {z0 z1 : Value} (h : W.heap[g]? = some (.cells #[z0, z1] t (0, 0))) : Bk2 W g t := ⟨_, _, h⟩
theorem ret_in {P : Program} {fn : Func} {R : Ending → World → Prop} {a : Act} {W : World} (h : ∀ W', W' = W → bodyPost P fn R .ret a W') : bodyPost P fn R .ret a W := h W rfl
end Go.Proofs.YtmkehailohgebaaDoor
