/- The chapter's examples of a set of access rules: what their walk leans on. -/
import Derived.Test.YtljhcegkekdjgaaDoorGtDone
namespace Go.Proofs.YtljhcegkekdjgaaDoor
open Go.RowKit Go.Lib Pt Opn

def cfG : Cf := ⟨3, 2, 1, 1, 0, 0, 3, 0, 1, 0, 131072, 0⟩
set_option maxHeartbeats 1000000 in
theorem gconf_any (w : World) : Calls Tryd.prog 10 #[] w (Ret (cfv cfG) w) := by
  unfold cfv cfG
  go_enter Tryd.func10, Tryd.ntmps10
  go_wp2
  refine bodyPost_ret (v := .agg #[.int .u8 3, .int .i64 2, .int .i64 1, .int .u8 1, .int .i64 0, .int .i64 0, .int .i64 3, .int .i64 0, .int .i64 1, .int .i64 0, .int .u64 131072, .int .u64 0]) ?_ rfl ⟨rfl, ?_⟩
  · simp [results, Tryd.results10, go_sem]
  · exact below_one _ _
/-- A list of cells that is made: noughts. -/
theorem grun_make (n : Nat) (hn : n ≤ 1000000) (w : World) : (Instr.makeSlice 47 (.int .i64 (n : Nat)) (.int .i64 (n : Nat))).run Tryd.prog w =
    .ok (.slice (some ⟨w.heap.size, 0, none⟩) n n) (w.alloc (.cells (madeCells #[.int .u64 0, .int .u64 0, .int .u64 0, .int .u64 0] (n * 4)) 37)) := by
  obtain ⟨i0, hi, hz0, hz1, hz2⟩ := info_parts cellQ_info
  have h := run_make (P := Tryd.prog) w 47 37 i0 _ Tryd.underlying47 hi hz0 .i64 .i64 n n (by omega) (by omega) (by rw [hz2]; omega) (by omega)
  rw [h, hz1]
  simp [Value.cells]
theorem gmade_zero (m i : Nat) (h : i < m) : (madeCells #[.int .u64 0, .int .u64 0, .int .u64 0, .int .u64 0] m)[i]? = some (.int .u64 0) := by
  have e : i % 4 = 0 ∨ i % 4 = 1 ∨ i % 4 = 2 ∨ i % 4 = 3 := by omega
  simp only [madeCells, Array.getElem?_map, Array.getElem?_range]
  rw [if_pos h]
  show some (#[Value.int .u64 0, .int .u64 0, .int .u64 0, .int .u64 0][i % 4]!) = _
  rcases e with e | e | e | e <;> rw [e] <;> rfl
theorem gisl_zeros (w : World) (g : Nat) (hg : w.heap.size = g) (N : Nat) (t : TypeId) : IsL (w.alloc (.cells (madeCells #[.int .u64 0, .int .u64 0, .int .u64 0, .int .u64 0] (N * 4)) t)) (some ⟨g, 0, none⟩) 4 q4L (List.replicate N (0, 0, 0, 0)) := fun i x hx => by
  subst hg
  obtain ⟨h1, h2⟩ := List.getElem?_eq_some_iff.1 hx
  rw [List.getElem_replicate] at h2
  rw [List.length_replicate] at h1
  subst h2
  refine ⟨w.heap.size, 0, rfl, fun j u hu => ?_⟩
  have hj : j < 4 := (List.getElem?_eq_some_iff.1 hu).1
  have e : u = .int .u64 0 := by
    rcases (show j = 0 ∨ j = 1 ∨ j = 2 ∨ j = 3 by omega) with rfl | rfl | rfl | rfl <;> simpa [q4L] using hu.symm
  subst e
  unfold World.cell?
  rw [heap_alloc_new, Nat.zero_add]
  exact gmade_zero (N * 4) (i * 4 + j) (by omega)
theorem gmake3 (w : World) : (Instr.makeSlice 47 (.int .i64 3) (.int .i64 3)).run Tryd.prog w = .ok (.slice (some ⟨w.heap.size, 0, none⟩) 3 3) (w.alloc (.cells (madeCells #[.int .u64 0, .int .u64 0, .int .u64 0, .int .u64 0] 12) 37)) := grun_make 3 (by omega) w
/-- The chapter's examples, in numbers. -/
def gZ : List Q4 := [(0, 0, 0, 0), (0, 0, 0, 0), (0, 0, 0, 0)]
theorem gisl_z3 (w : World) (g : Nat) (hg : w.heap.size = g) (t : TypeId) : IsL (w.alloc (.cells (madeCells #[.int .u64 0, .int .u64 0, .int .u64 0, .int .u64 0] 12) t)) (some ⟨g, 0, none⟩) 4 q4L gZ := gisl_zeros w g hg 3 t
def gX : List Q4 := [(0, 2, 1, 7), (0, 0, 0, 0), (0, 0, 0, 0)]
def gY : List Q4 := [(0, 2, 1, 7), (0, 1, 1, 0), (0, 0, 0, 0)]
def gW : List Q4 := [(0, 0, 0, 0), (0, 1, 1, 0), (0, 0, 0, 0)]
theorem gr1 : goG cfG 80 gZ (startF ⟨9, 1, 7, 2⟩) (0, 0) = (gX, (0, 0), (3, 1), true) := by decide +kernel
theorem gr2 : goG cfG 80 gX (startF ⟨9, 1, 0, 1⟩) (0, 0) = (gY, (0, 0), (3, 1), true) := by decide +kernel
theorem gr3 : goG cfG 80 gY (startF ⟨11, 1, 7, 0⟩) (0, 0) = (gY, (0, 2), (1, 0), true) := by decide +kernel
theorem gr4 : goG cfG 80 gY (startF ⟨11, 1, 5, 0⟩) (0, 0) = (gY, (0, 1), (3, 0), true) := by decide +kernel
theorem gr5 : goG cfG 80 gY (startF ⟨10, 1, 7, 0⟩) (0, 0) = (gW, (0, 2), (1, 1), true) := by decide +kernel
theorem gsome {X : World} {A : Option Addr} {x : Q4} {l : List Q4} (h : IsL X A 4 q4L (x :: l)) : A ≠ none := fun e => by
  obtain ⟨b, off, e2, _⟩ := h 0 x rfl
  rw [e] at e2
  cases e2
/-- One of them done: what is there behind. -/
def RunG (A : Option Addr) (cs : List Q4) (code : Int) (v : Int) (ta tb : Int) (w : World) (e : Ending) (w' : World) : Prop :=
  ∃ d, e = .returned (.tuple #[.slice A 3 d, .agg #[.int .i64 code, .int .u32 v, .slice none 0 0], .agg #[.int .i64 ta, .int .i64 tb, .int .i64 0], .bool true]) ∧ IsL w' A 4 q4L cs ∧ Below w.heap.size w w'
theorem grun (cs cs' : List Q4) (o : O) (ho : Wf o) (v : Nat) (ta tb : Nat) (hgo : goG cfG 80 cs (startF o) (0, 0) = (cs', (0, v), (ta, tb), true)) (hl : cs.length = 3) (hl' : cs'.length = 3) (hq : ∀ x ∈ cs, QWf x)
    (A : Option Addr) (d : Nat) (hA : A ≠ none) (w : World) (hO : Obs w) (h : IsL w A 4 q4L cs) :
    Calls Tryd.prog 19 #[cfv cfG, .slice A 3 d, opv o] w (fun e w' => ∃ A', RunG A' cs' 0 (v : Nat) (ta : Nat) (tb : Nat) w e w') := by
  have H := doneG_any cfG A d cs o ho (by omega) (fun e => absurd e hA) hq w hO h
  rw [hgo, hl] at H
  refine H.mono ?_
  rintro e w' ⟨A', d', rfl, _, h1, h2⟩
  exact ⟨A', d', by simp [hl'], h1, h2⟩

/-! Blocks of three cells of which none is a cell's word. -/
def BkR (X : World) (g : Nat) : Prop := ∃ z0 z1 z2 t, X.heap[g]? = some (.cells #[z0, z1, z2] t (0, 0)) ∧ (∀ n, z0 ≠ .int .u64 n) ∧ (∀ n, z1 ≠ .int .u64 n) ∧ (∀ n, z2 ≠ .int .u64 n)
theorem BkR.drew {X : World} {g : Nat} (h : BkR X g) : BkR X.drew g := h
theorem BkR.below {X W : World} {g : Nat} (hb : Below X.heap.size X W) (h : BkR X g) : BkR W g := by
  obtain ⟨z0, z1, z2, t, h, h1⟩ := h
  exact ⟨z0, z1, z2, t, blk_below h hb, h1⟩
theorem BkR.alloc {X : World} {g : Nat} {o : Obj} (h : BkR X g) : BkR (X.alloc o) g := h.below (below_one X o)
theorem BkR.newR {X : World} {g : Nat} {a b : Int} {t : TypeId} (hg : g = X.heap.size) : BkR (X.alloc (.cells #[.int .i64 a, .int .u32 b, .slice none 0 0] t)) g := by
  subst hg
  exact ⟨_, _, _, t, heap_alloc_new _ _, fun n e => by (injection e with e; cases e), fun n e => by (injection e with e; cases e), fun n e => by cases e⟩
theorem BkR.newT {X : World} {g : Nat} {a b c : Int} {t : TypeId} (hg : g = X.heap.size) : BkR (X.alloc (.cells #[.int .i64 a, .int .i64 b, .int .i64 c] t)) g := by
  subst hg
  exact ⟨_, _, _, t, heap_alloc_new _ _, fun n e => by (injection e with e; cases e), fun n e => by (injection e with e; cases e), fun n e => by (injection e with e; cases e)⟩
theorem gfar {X : World} {A : Option Addr} {rb : Nat} {cs : List Q4} (hr : BkR X rb) (hI : IsL X A 4 q4L cs) (hc : 0 < cs.length) : ∀ b o, A = some ⟨b, o, none⟩ → b ≠ rb := fun b o e e2 => by
  subst e2
  obtain ⟨z0, z1, z2, t, hrb, hx, hy, hz⟩ := hr
  obtain ⟨q, hq⟩ : ∃ q, cs[0]? = some q := ⟨_, List.getElem?_eq_getElem hc⟩
  obtain ⟨b', off, e3, h⟩ := hI 0 q hq
  rw [e] at e3
  injection e3 with e3
  injection e3 with e3 e4 _
  subst e3 e4
  have h0 := h 0 (.int .u64 (q.1 : Nat)) rfl
  unfold World.cell? at h0
  rw [hrb] at h0
  simp only [Nat.zero_mul, Nat.add_zero] at h0
  have hlt := (Array.getElem?_eq_some_iff.1 h0).1
  simp at hlt
  rcases (show o = 0 ∨ o = 1 ∨ o = 2 by omega) with rfl | rfl | rfl
  · exact hx _ (by simpa using h0)
  · exact hy _ (by simpa using h0)
  · exact hz _ (by simpa using h0)
/-- Three cells of a block. -/
def Cx (X : World) (g : Nat) (a b c : Value) : Prop := ∃ t, X.heap[g]? = some (.cells #[a, b, c] t (0, 0))
theorem Cx.drew {X : World} {g : Nat} {a b c : Value} (h : Cx X g a b c) : Cx X.drew g a b c := h
theorem Cx.alloc {X : World} {g : Nat} {a b c : Value} {o : Obj} (h : Cx X g a b c) : Cx (X.alloc o) g a b c := h.imp fun _ h => blk_alloc h
theorem Cx.new {X : World} {g : Nat} {a b c : Value} {t : TypeId} (hg : g = X.heap.size) : Cx (X.alloc (.cells #[a, b, c] t)) g a b c := by
  subst hg
  exact ⟨t, heap_alloc_new _ _⟩
theorem Cx.other {X : World} {g p j : Nat} {a b c v : Value} (hne : p ≠ g) (h : Cx X g a b c) : Cx (X.setCell ⟨p, j, none⟩ v) g a b c := h.imp fun _ h => bk_other hne h
theorem Cx.set {X : World} {g : Nat} {a b c : Value} (h : BkR X g) : Cx (((X.setCell ⟨g, 0, none⟩ a).setCell ⟨g, 1, none⟩ b).setCell ⟨g, 2, none⟩ c) g a b c := by
  obtain ⟨z0, z1, z2, t, h, -⟩ := h
  exact ⟨t, st_of (bk_store (bk_store (bk_store h 0 a) 1 b) 2 c) rfl⟩
theorem BkR.other {X : World} {g p j : Nat} {v : Value} (hne : p ≠ g) (h : BkR X g) : BkR (X.setCell ⟨p, j, none⟩ v) g := by
  obtain ⟨z0, z1, z2, t, h, h1⟩ := h
  exact ⟨z0, z1, z2, t, bk_other hne h, h1⟩
/-- What lies there behind the first operation. -/
def LiveG (w : World) (A : Option Addr) (cs : List Q4) (rb tb : Nat) (v ta tt : Int) (wx : World) : Prop :=
  IsL wx A 4 q4L cs ∧ Below w.heap.size w wx ∧ wx.cell? ⟨rb, 0, none⟩ = some (.int .i64 0) ∧ wx.cell? ⟨rb, 1, none⟩ = some (.int .u32 v) ∧ wx.cell? ⟨tb, 0, none⟩ = some (.int .i64 ta) ∧ wx.cell? ⟨tb, 1, none⟩ = some (.int .i64 tt) ∧ wx.cell? ⟨tb, 2, none⟩ = some (.int .i64 0)
theorem live_of {w w2 W' : World} {A : Option Addr} {cs : List Q4} {rb tb : Nat} {v ta tt : Int} (hI : IsL w2 A 4 q4L cs) (hc : 0 < cs.length) (hw : Below w.heap.size w w2) (ho : Only (fun k => k = rb ∨ k = tb) w2 W') (hr : w.heap.size ≤ rb) (ht : w.heap.size ≤ tb)
    (hR : BkR w2 rb ∨ w2.heap.size ≤ rb) (hT : BkR w2 tb ∨ w2.heap.size ≤ tb) (h1 : Cx W' rb (.int .i64 0) (.int .u32 v) (.slice none 0 0)) (h2 : Cx W' tb (.int .i64 ta) (.int .i64 tt) (.int .i64 0)) : LiveG w A cs rb tb v ta tt W' := by
  have hlt : ∀ b o, A = some ⟨b, o, none⟩ → b < w2.heap.size := fun b o e => by
    obtain ⟨q, hq⟩ : ∃ q, cs[0]? = some q := ⟨_, List.getElem?_eq_getElem hc⟩
    obtain ⟨b', off, e3, h⟩ := hI 0 q hq
    rw [e] at e3
    injection e3 with e3
    injection e3 with e3 _ _
    rw [e3]
    exact World.block_lt_of_cell? _ _ (h 0 _ rfl)
  have f1 : ∀ b o, A = some ⟨b, o, none⟩ → b ≠ rb := fun b o e => by
    rcases hR with h | h
    · exact gfar h hI hc b o e
    · have := hlt b o e; omega
  have f2 : ∀ b o, A = some ⟨b, o, none⟩ → b ≠ tb := fun b o e => by
    rcases hT with h | h
    · exact gfar h hI hc b o e
    · have := hlt b o e; omega
  obtain ⟨t1, h1⟩ := h1
  obtain ⟨t2, h2⟩ := h2
  obtain ⟨r0, -, r1, -, -⟩ := cells3 h1
  obtain ⟨s0, -, s1, -, s2, -⟩ := cells3 h2
  exact ⟨isl_only hI ho (fun _ b o e hh => by rcases hh with hh | hh; exact f1 b o e hh; exact f2 b o e hh), Only.then_below (Nat.le_refl _) hw ho (fun k hk => by omega), r0, r1, s0, s1, s2⟩
end Go.Proofs.YtljhcegkekdjgaaDoor
