/- An operation that is done alone on a list of cells, as the laws of a set of access rules do it: what its walk leans on. -/
import Derived.Test.YtljhcegkekdjgaaDoorGGtM
import Derived.Test.YtljhcegkekdjgaaDoorGpH
import Derived.Test.YtljhcegkekdjgaaDoorGRg
import Derived.Deep.LoopGhost
import Derived.Deep.DeepCutAuto
import Derived.Deep.RegionHeld3
import Derived.Deep.CutRange
namespace Go.Proofs.YtljhcegkekdjgaaDoor
open Go.RowKit Go.Lib Pt Opn

theorem cells3 {w : World} {g : Nat} {a b c : Value} {t : TypeId} (h : w.heap[g]? = some (.cells #[a, b, c] t (0, 0))) :
    w.cell? ⟨g, 0, none⟩ = some a ∧ w.frozen? ⟨g, 0, none⟩ = false ∧ w.cell? ⟨g, 1, none⟩ = some b ∧ w.frozen? ⟨g, 1, none⟩ = false ∧ w.cell? ⟨g, 2, none⟩ = some c ∧ w.frozen? ⟨g, 2, none⟩ = false := by
  refine ⟨?_, ?_, ?_, ?_, ?_, ?_⟩ <;> simp [World.cell?, World.frozen?, h]
theorem cellQ_info : (Tryd.prog.info? 37).map (fun i => (i.zero, i.size, i.bytes)) = some (some (.agg #[.int .u64 0, .int .u64 0, .int .u64 0, .int .u64 0]), 4, 32) := by kernel_rfl
theorem own_q4 {w : World} {B : Nat} {e : TypeId} {v : Value} {l : List Q4} (h : MadeX w B e 4 q4L v l) (hl : 0 < l.length) : ∃ g cap, v = .slice (some ⟨g, 0, none⟩) l.length cap ∧ B ≤ g ∧ g < w.heap.size ∧ (∀ o, w.frozen? ⟨g, o, none⟩ = false) ∧ IsL w (some ⟨g, 0, none⟩) 4 q4L l := by
  obtain ⟨A, c, e1, _, _, h1⟩ := MadeX.form q4L_len h
  rcases h.2 with ⟨_, h0⟩ | ⟨g, cap, cur, g1, g2, g3, _⟩
  · omega
  · rw [e1] at g1
    injection g1 with g1 _ g4
    subst g1 g4
    exact ⟨g, c, e1, g2, (Array.getElem?_eq_some_iff.1 g3).1, fun o => by unfold World.frozen?; rw [g3]; simp, h1⟩
theorem hx_len {N : Nat} {l : List Q4} (h : l.length = N) (A : Option Addr) (d : Nat) : Value.slice A N d = .slice A l.length d := by rw [h]
theorem hA_len {N : Nat} {l : List Q4} {A : Option Addr} {d : Nat} (h : l.length = N) (h2 : A = none → N = 0 ∧ d = 0) : A = none → l.length = 0 ∧ d = 0 := by rw [h]; exact h2
theorem len_le1 {N : Nat} {l : List Q4} (h : l.length = N) (h2 : N ≤ 1000) : ([] : List Q4).length + l.length ≤ 9223372036854775807 := by simp; omega
theorem len_le2 {N : Nat} {l : List Q4} (h : l.length = N) (h2 : N ≤ 1000) : (([] : List Q4).length + l.length) * 32 ≤ 140737488351232 := by simp; omega
theorem Obs.drew' {W : World} (h : Obs W) : Obs W.drew := h
theorem Obs.alloc' {W : World} (h : Obs W) (o : Obj) : Obs (W.alloc o) := h.below (below_one _ _)
theorem wr_cell {w3 w6 : World} {lit : Obj} (hb6 : Below w3.heap.size (w3.alloc lit) w6) {b j : Nat} {v : Value} (hc : w3.cell? ⟨b, j, none⟩ = some v) : w6.cell? ⟨b, j, none⟩ = some v :=
  (hb6.cell (p := ⟨b, j, none⟩) (World.block_lt_of_cell? _ _ hc)).trans (((below_one w3 lit).cell (p := ⟨b, j, none⟩) (World.block_lt_of_cell? _ _ hc)).trans hc)
theorem set4z {w : World} {g : Nat} {l : List Q4} {i : Nat} (hi : i < l.length) (h : IsL w (some ⟨g, 0, none⟩) 4 q4L l) (a b c : Nat) :
    IsL ((((w.setCell ⟨g, i * 4, none⟩ (.int .u64 0)).setCell ⟨g, i * 4 + 1, none⟩ (.int .u64 (a : Nat))).setCell ⟨g, i * 4 + 2, none⟩ (.int .u64 (b : Nat))).setCell ⟨g, i * 4 + 3, none⟩ (.int .u64 (c : Nat))) (some ⟨g, 0, none⟩) 4 q4L (l.set i (0, a, b, c)) := set4 hi h (0, a, b, c)
theorem bdrew (w : World) : Below w.heap.size w w.drew := ⟨rfl, rfl, rfl, Nat.le_refl _, fun _ _ => rfl⟩

theorem ret_inG {P : Program} {fn : Func} {R : Ending → World → Prop} {a : Act} {W : World} (h : ∀ W', W' = W → bodyPost P fn R .ret a W') : bodyPost P fn R .ret a W := h W rfl
/-- Four new blocks: the world gets a name. -/
def tlO (t : Nat × Nat) : Obj := .cells #[.int .i64 (t.1 : Nat), .int .i64 (t.2 : Nat), .int .i64 0] 62 (0, 0)
/-- What lies there in a round: the config, the answer, the count of the answer, the frame, the count. -/
def BlkG (c : Cf) (w : World) (fb : Nat) (f : Ds) (t : Nat × Nat) (W : World) : Prop :=
  W.heap[w.heap.size]? = some (.cells #[.int .u8 c.obj, .int .i64 c.inst, .int .i64 c.thr, .int .u8 c.kind, .int .i64 c.str, .int .i64 c.bits, .int .i64 c.cap, .int .i64 c.node, .int .i64 c.bat, .int .i64 c.chunk, .int .u64 c.lim, .int .u64 c.most] 30 (0, 0)) ∧ W.heap[w.heap.size + 1 + 1]? = some (.cells #[.int .i64 0, .int .u32 0, .slice none 0 0] 58 (0, 0)) ∧ W.heap[w.heap.size + 1 + 1 + 1]? = some (.cells #[.int .i64 0, .int .i64 0, .int .i64 0] 62 (0, 0)) ∧
    W.heap[fb]? = some (.cells (frA f) 32 (0, 0)) ∧ W.heap[fb + 1]? = some (.cells #[.int .i64 (t.1 : Nat), .int .i64 (t.2 : Nat), .int .i64 0] 62 (0, 0)) ∧ Below w.heap.size w W ∧ w.heap.size + 1 + 1 + 1 < fb
theorem BlkG.below {c : Cf} {w : World} {fb : Nat} {f : Ds} {t : Nat × Nat} {W W' : World} (h : BlkG c w fb f t W) (hb : Below W.heap.size W W') : BlkG c w fb f t W' := by
  obtain ⟨h1, h2, h3, h4, h5, h6, h7⟩ := h
  exact ⟨blk_below h1 hb, blk_below h2 hb, blk_below h3 hb, blk_below h4 hb, blk_below h5 hb, below_then h6 hb, h7⟩
/-- The count is turned. -/
theorem BlkG.count {c : Cf} {w : World} {fb : Nat} {f : Ds} {t t' : Nat × Nat} {W W' : World} (h : BlkG c w fb f t W) (ho : Only (fun k => k = fb + 1) W W') (ht : W'.heap[fb + 1]? = some (.cells #[.int .i64 (t'.1 : Nat), .int .i64 (t'.2 : Nat), .int .i64 0] 62 (0, 0))) : BlkG c w fb f t' W' := by
  obtain ⟨h1, h2, h3, h4, h5, h6, h7⟩ := h
  exact ⟨only_blk ho h1 (by omega), only_blk ho h2 (by omega), only_blk ho h3 (by omega), only_blk ho h4 (by omega), ht, Only.then_below (Nat.le_refl _) h6 ho (fun k hk => by omega), h7⟩
/-- The frame is turned. -/
theorem BlkG.frame {c : Cf} {w : World} {fb : Nat} {f f' : Ds} {t : Nat × Nat} {W W' : World} (h : BlkG c w fb f t W) (ho : Only (fun k => k = fb) W W') (hf : W'.heap[fb]? = some (.cells (frA f') 32 (0, 0))) : BlkG c w fb f' t W' := by
  obtain ⟨h1, h2, h3, h4, h5, h6, h7⟩ := h
  exact ⟨only_blk ho h1 (by omega), only_blk ho h2 (by omega), only_blk ho h3 (by omega), hf, only_blk ho h5 (by omega), Only.then_below (Nat.le_refl _) h6 ho (fun k hk => by omega), h7⟩
theorem isl_only {X : Type} {s : Nat} {L : X → List Value} {Y W : World} {A : Option Addr} {l : List X} {C : Nat → Prop} (h : IsL Y A s L l) (ho : Only C Y W) (hA : 0 < l.length → ∀ b o, A = some ⟨b, o, none⟩ → ¬ C b) : IsL W A s L l := fun i x hx => by
  obtain ⟨b, off, e, h1⟩ := h i x hx
  exact ⟨b, off, e, fun j u hu => ho.cell (h1 j u hu) (hA (by have := (List.getElem?_eq_some_iff.1 hx).1; omega) b off e)⟩
/-- The cells, the answer, the count, whether it is done. -/
def DoneG (z : List Q4 × (Int × Nat) × (Nat × Nat) × Bool) (w : World) (e : Ending) (w' : World) : Prop :=
  ∃ A d, e = .returned (.tuple #[.slice A z.1.length d, .agg #[.int .i64 z.2.1.1, .int .u32 (z.2.1.2 : Nat), .slice none 0 0], .agg #[.int .i64 (z.2.2.1.1 : Nat), .int .i64 (z.2.2.1.2 : Nat), .int .i64 0], .bool z.2.2.2]) ∧ (A = none → z.1.length = 0 ∧ d = 0) ∧ IsL w' A 4 q4L z.1 ∧ Below w.heap.size w w'
/-- Two blocks are turned: the answer's. -/
theorem only_set2 {W X : World} {p q : Nat} (h : Only (fun k => k = p ∨ k = q) W X) (i : Nat) (v : Value) : Only (fun k => k = p ∨ k = q) W (X.setCell ⟨p, i, none⟩ v) := h.setCell (p := ⟨p, i, none⟩) (.inl (.inl rfl)) v
theorem only_set2' {W X : World} {p q : Nat} (h : Only (fun k => k = p ∨ k = q) W X) (i : Nat) (v : Value) : Only (fun k => k = p ∨ k = q) W (X.setCell ⟨q, i, none⟩ v) := h.setCell (p := ⟨q, i, none⟩) (.inl (.inr rfl)) v
end Go.Proofs.YtljhcegkekdjgaaDoor
