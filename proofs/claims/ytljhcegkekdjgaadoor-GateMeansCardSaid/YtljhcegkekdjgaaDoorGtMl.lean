/- A result that lies in a block of its own, behind a call that answers rows, or cells: for a set of access rules. -/
import Derived.Test.YtljhcegkekdjgaaDoorGtAlive
import Derived.Test.YtljhcegkekdjgaaDoorGtTell
namespace Go.Proofs.YtljhcegkekdjgaaDoor
open Go.RowKit Go.Lib Pt Opn Tb

/-- Behind the model's own step: the rows, and the result in block g. -/
def LfR (W X : World) (u : Value) (rows : List R) (g : Nat) (x y : Int) : Prop := IsRV X u rows ∧ Below W.heap.size W X ∧ X.cell? ⟨g, 0, none⟩ = some (.int .i64 x) ∧ X.cell? ⟨g, 1, none⟩ = some (.int .u32 y) ∧ X.cell? ⟨g, 2, none⟩ = some (.slice none 0 0)
theorem three_t {W w4 : World} {a b c : Value} {t : TypeId} (h4 : Below (W.alloc (.cells #[a, b, c] t)).drew.heap.size (W.alloc (.cells #[a, b, c] t)).drew w4) : Three w4 W.heap.size a b c :=
  res_cells ((h4.block _ (by simp)).trans (heap_alloc_new W _))
theorem lfr_first {W w4 : World} {u : Value} {rows : List R} (x y : Int) {t : TypeId} (hm : IsRV w4 u rows) (hb : Below (W.alloc (.cells #[.int .i64 0, .int .u32 0, .slice none 0 0] t)).drew.heap.size (W.alloc (.cells #[.int .i64 0, .int .u32 0, .slice none 0 0] t)).drew w4) :
    LfR W (((w4.setCell ⟨W.heap.size, 0, none⟩ (.int .i64 x)).setCell ⟨W.heap.size, 1, none⟩ (.int .u32 y)).setCell ⟨W.heap.size, 2, none⟩ (.slice none 0 0)) u rows W.heap.size x y := by
  have hT := three_t hb
  obtain ⟨A, c, rfl, h1, h2, h3⟩ := hm
  obtain ⟨r0, -, r1, -, r2, -⟩ := hT
  refine ⟨⟨A, c, rfl, h1, h2, isr_set3 h3 (three_t hb) _ _ _⟩, below_set3 (below_then (below_then (below_one W _) (below_drew _)) hb) (Nat.le_refl _) _ _ _, ?_, ?_, ?_⟩ <;> simp [go_sem, r0, r1, r2]
theorem lfr_last {W w4 : World} {u : Value} {rows : List R} (x y : Int) (hm : IsRV w4 u rows) (hb : Below W.drew.heap.size W.drew w4) (t : TypeId) :
    LfR W (w4.alloc (.cells #[.int .i64 x, .int .u32 y, .slice none 0 0] t)) u rows w4.heap.size x y := by
  refine ⟨hm.below (below_one _ _), below_then (below_then (below_drew _) hb) (below_one _ _), ?_, ?_, ?_⟩ <;> simp [go_sem]
/-- Behind an operation that is done alone: the cells, and the result in block g. -/
def LfC (W X : World) (A : Option Addr) (cs : List Q4) (g : Nat) (x : Int) (v : Nat) : Prop := IsL X A 4 q4L cs ∧ Below W.heap.size W X ∧ X.cell? ⟨g, 0, none⟩ = some (.int .i64 x) ∧ X.cell? ⟨g, 1, none⟩ = some (.int .u32 (v : Nat)) ∧ X.cell? ⟨g, 2, none⟩ = some (.slice none 0 0)
theorem lfc_of {W w2 W' : World} {A : Option Addr} {cs : List Q4} {rb tb : Nat} {x : Int} {v : Nat} (hI : IsL w2 A 4 q4L cs) (hc : 0 < cs.length) (hw : Below W.heap.size W w2) (ho : Only (fun k => k = rb ∨ k = tb) w2 W') (hr : W.heap.size ≤ rb) (ht : W.heap.size ≤ tb)
    (hR : BkR w2 rb ∨ w2.heap.size ≤ rb) (hT : BkR w2 tb ∨ w2.heap.size ≤ tb) (h1 : Cx W' rb (.int .i64 x) (.int .u32 (v : Nat)) (.slice none 0 0)) : LfC W W' A cs rb x v := by
  have hlt : ∀ b o, A = some ⟨b, o, none⟩ → b < w2.heap.size := fun b o e => by
    obtain ⟨q, hq⟩ : ∃ q, cs[0]? = some q := ⟨_, List.getElem?_eq_getElem hc⟩
    obtain ⟨b', off, e3, h⟩ := hI 0 q hq
    rw [e] at e3
    injection e3 with e3
    injection e3 with e3 _ _
    rw [e3]
    exact World.block_lt_of_cell? _ _ (h 0 _ rfl)
  have f1 : ∀ b o, A = some ⟨b, o, none⟩ → b ≠ rb := fun b o e => by
    rcases hR with h | h
    · exact gfar h hI hc b o e
    · have := hlt b o e; omega
  have f2 : ∀ b o, A = some ⟨b, o, none⟩ → b ≠ tb := fun b o e => by
    rcases hT with h | h
    · exact gfar h hI hc b o e
    · have := hlt b o e; omega
  obtain ⟨t1, h1⟩ := h1
  obtain ⟨r0, -, r1, -, r2, -⟩ := cells3 h1
  exact ⟨isl_only hI ho (fun _ b o e hh => by rcases hh with hh | hh; exact f1 b o e hh; exact f2 b o e hh), Only.then_below (Nat.le_refl _) hw ho (fun k hk => by omega), r0, r1, r2⟩
theorem lfc_of2 {W w2 W' : World} {A : Option Addr} {cs : List Q4} {rb tb : Nat} {x : Int} {v : Nat} (hI : IsL w2 A 4 q4L cs) (hc : 0 < cs.length) (hw : Below W.heap.size W w2) (ho : Only (fun k => k = rb ∨ k = tb) w2 W') (hr : W.heap.size ≤ rb) (ht : W.heap.size ≤ tb)
    (hR : BkR w2 rb ∨ w2.heap.size ≤ rb) (hT : BkR w2 tb ∨ w2.heap.size ≤ tb) (h1 : Cx W' rb (.int .i64 x) (.int .u32 (v : Nat)) (.slice none 0 0)) : LfC W W' A cs rb x v ∧ W.heap.size ≤ tb := ⟨lfc_of hI hc hw ho hr ht hR hT h1, ht⟩
/-- An operation that is let go: its code. -/
theorem doUR_code {c : Cf} {l l' : List R} {o : O} {x y : Int} (h : IsRu c l) (hs : doUR c l o = (l', x, y)) (h1 : x ≠ 50) (h2 : x ≠ 10) : chk c o = 0 := by
  by_cases hb : chk c o = 0
  · exact hb
  · exfalso
    rw [doUR_bad h hb] at hs
    simp only [Prod.mk.injEq] at hs
    obtain ⟨-, rfl, -⟩ := hs
    unfold chk at h1 h2 hb
    rw [if_neg (by rw [show okB c = true from decide_eq_true h.1]; simp)] at h1 h2 hb
    (repeat' split at h1) <;> simp_all
end Go.Proofs.YtljhcegkekdjgaaDoor
