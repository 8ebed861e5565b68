/- The document's own program of a table of routes: whether a frame may be, its act, what becomes of it. A program of a table of routes that is done alone, on a list of cells: plain lists; and such lists in memory. -/
import Derived.Test.YtljhcegkekdjgaaDoorGOpen
import Derived.Test.YtljhcegkekdjgaaDoorGOld
import Derived.Test.YtljhcegkekdjgaaDoorGOpRef
import Derived.Test.YtljhcegkekdjgaaDoorGKit
namespace Go.Proofs.YtljhcegkekdjgaaDoor
open Go.RowKit Pt Opn
/-- The bounds of a frame that may be. -/
theorem mayT_bounds {c : Cf} {f : Ds} (hc : Ok c) (hobj : c.obj = 1) (h : TMay c f) : (0 ≤ c.bits ∧ c.bits ≤ 6) ∧ topT c f ≤ 6 ∧ f.a < 2 ^ topT c f ∧ f.a ≤ 63 ∧ f.h ≤ topT c f ∧ (f.kind = 1 ∨ f.kind = 2 ∨ f.kind = 3) ∧ topT c f ≤ c.bits.toNat ∧ 1 ≤ c.bits := by
  obtain ⟨h1, h2, h3⟩ := h
  have hb : 1 ≤ c.bits ∧ c.bits ≤ 6 := by have := hc.1; unfold ObjOk at this; omega
  have ht : topT c f ≤ c.bits.toNat ∧ f.a < 2 ^ topT c f ∧ (f.kind = 1 ∨ f.kind = 2 ∨ f.kind = 3) := by
    unfold topT
    rcases fitsT hobj h1 with ⟨g1, g2, g3, _⟩ | ⟨g1, g2, g3⟩ | ⟨g1, g2, _⟩
    · rw [if_neg (by omega)]; exact ⟨g2, g3, .inl g1⟩
    · rw [if_neg (by omega)]; exact ⟨g2, g3, .inr (.inl g1)⟩
    · rw [if_pos g1]; exact ⟨Nat.le_refl _, g2, .inr (.inr g1)⟩
  have : 2 ^ topT c f ≤ 2 ^ 6 := Nat.pow_le_pow_right (by decide) (by omega)
  exact ⟨by omega, by omega, ht.2.1, by omega, h3, ht.2.2, ht.1, hb.1⟩

theorem new_third (w : World) (a b c : Obj) : (((w.alloc a).alloc b).alloc c).heap[w.heap.size + 1 + 1]? = some c := by simpa using heap_alloc_new ((w.alloc a).alloc b) c
theorem blk_below {w w' : World} {g : Nat} {o : Obj} (h : w.heap[g]? = some o) (hb : Below w.heap.size w w') : w'.heap[g]? = some o := (hb.block g (Array.getElem?_eq_some_iff.1 h).1).trans h
theorem cells7 {w : World} {g : Nat} {a b c d e f h : Value} {t : TypeId} (hh : w.heap[g]? = some (.cells #[a, b, c, d, e, f, h] t (0, 0))) :
    w.cell? ⟨g, 0, none⟩ = some a ∧ w.frozen? ⟨g, 0, none⟩ = false ∧ w.cell? ⟨g, 1, none⟩ = some b ∧ w.frozen? ⟨g, 1, none⟩ = false ∧ w.cell? ⟨g, 2, none⟩ = some c ∧ w.frozen? ⟨g, 2, none⟩ = false ∧ w.cell? ⟨g, 3, none⟩ = some d ∧ w.frozen? ⟨g, 3, none⟩ = false ∧
      w.cell? ⟨g, 4, none⟩ = some e ∧ w.frozen? ⟨g, 4, none⟩ = false ∧ w.cell? ⟨g, 5, none⟩ = some f ∧ w.frozen? ⟨g, 5, none⟩ = false ∧ w.cell? ⟨g, 6, none⟩ = some h ∧ w.frozen? ⟨g, 6, none⟩ = false := by
  refine ⟨?_, ?_, ?_, ?_, ?_, ?_, ?_, ?_, ?_, ?_, ?_, ?_, ?_, ?_⟩ <;> simp [World.cell?, World.frozen?, hh]

theorem new_fourth (w : World) (a b c d : Obj) : ((((w.alloc a).alloc b).alloc c).alloc d).heap[w.heap.size + 1 + 1 + 1]? = some d := by simpa using heap_alloc_new (((w.alloc a).alloc b).alloc c) d
theorem cells11 {w : World} {g : Nat} {a b c d e f h i j k l : Value} {t : TypeId} (hh : w.heap[g]? = some (.cells #[a, b, c, d, e, f, h, i, j, k, l] t (0, 0))) :
    w.cell? ⟨g, 0, none⟩ = some a ∧ w.frozen? ⟨g, 0, none⟩ = false ∧ w.cell? ⟨g, 1, none⟩ = some b ∧ w.frozen? ⟨g, 1, none⟩ = false ∧ w.cell? ⟨g, 2, none⟩ = some c ∧ w.frozen? ⟨g, 2, none⟩ = false ∧ w.cell? ⟨g, 3, none⟩ = some d ∧ w.frozen? ⟨g, 3, none⟩ = false ∧ w.cell? ⟨g, 4, none⟩ = some e ∧ w.frozen? ⟨g, 4, none⟩ = false ∧ w.cell? ⟨g, 5, none⟩ = some f ∧ w.frozen? ⟨g, 5, none⟩ = false ∧ w.cell? ⟨g, 6, none⟩ = some h ∧ w.frozen? ⟨g, 6, none⟩ = false ∧ w.cell? ⟨g, 7, none⟩ = some i ∧ w.frozen? ⟨g, 7, none⟩ = false ∧ w.cell? ⟨g, 8, none⟩ = some j ∧ w.frozen? ⟨g, 8, none⟩ = false ∧ w.cell? ⟨g, 9, none⟩ = some k ∧ w.frozen? ⟨g, 9, none⟩ = false ∧ w.cell? ⟨g, 10, none⟩ = some l ∧ w.frozen? ⟨g, 10, none⟩ = false := by
  refine ⟨?_, ?_, ?_, ?_, ?_, ?_, ?_, ?_, ?_, ?_, ?_, ?_, ?_, ?_, ?_, ?_, ?_, ?_, ?_, ?_, ?_, ?_⟩ <;> simp [World.cell?, World.frozen?, hh]
theorem set_off (w : World) (g i j : Nat) (x : Value) (h : i ≠ j) : (w.setCell ⟨g, i, none⟩ x).cell? ⟨g, j, none⟩ = w.cell? ⟨g, j, none⟩ := World.cell?_setCell_other _ _ _ _ (fun e => h (by injection e))
theorem set_on (w : World) (g i : Nat) (x : Value) (h : (w.cell? ⟨g, i, none⟩).isSome = true) : (w.setCell ⟨g, i, none⟩ x).cell? ⟨g, i, none⟩ = some x := by
  obtain ⟨u, hu⟩ := Option.isSome_iff_exists.1 h
  exact World.cell?_setCell_same _ _ _ hu
theorem set7_old {w : World} {g : Nat} {a0 a1 a2 a3 a4 a5 a6 : Value} (hg : g < w.heap.size) (r0 : w.cell? ⟨g, 0, none⟩ = some a0) (r1 : w.cell? ⟨g, 1, none⟩ = some a1) (r2 : w.cell? ⟨g, 2, none⟩ = some a2) (r3 : w.cell? ⟨g, 3, none⟩ = some a3) (r4 : w.cell? ⟨g, 4, none⟩ = some a4)
    (r5 : w.cell? ⟨g, 5, none⟩ = some a5) (r6 : w.cell? ⟨g, 6, none⟩ = some a6) (x0 x1 x2 x3 x4 x5 x6 : Value) (o : Obj) :
    ((((((((w.setCell ⟨g, 0, none⟩ x0).setCell ⟨g, 1, none⟩ x1).setCell ⟨g, 2, none⟩ x2).setCell ⟨g, 3, none⟩ x3).setCell ⟨g, 4, none⟩ x4).setCell ⟨g, 5, none⟩ x5).setCell ⟨g, 6, none⟩ x6).alloc o).cell? ⟨g, 0, none⟩ = some x0 ∧ ((((((((w.setCell ⟨g, 0, none⟩ x0).setCell ⟨g, 1, none⟩ x1).setCell ⟨g, 2, none⟩ x2).setCell ⟨g, 3, none⟩ x3).setCell ⟨g, 4, none⟩ x4).setCell ⟨g, 5, none⟩ x5).setCell ⟨g, 6, none⟩ x6).alloc o).cell? ⟨g, 1, none⟩ = some x1 ∧ ((((((((w.setCell ⟨g, 0, none⟩ x0).setCell ⟨g, 1, none⟩ x1).setCell ⟨g, 2, none⟩ x2).setCell ⟨g, 3, none⟩ x3).setCell ⟨g, 4, none⟩ x4).setCell ⟨g, 5, none⟩ x5).setCell ⟨g, 6, none⟩ x6).alloc o).cell? ⟨g, 2, none⟩ = some x2 ∧ ((((((((w.setCell ⟨g, 0, none⟩ x0).setCell ⟨g, 1, none⟩ x1).setCell ⟨g, 2, none⟩ x2).setCell ⟨g, 3, none⟩ x3).setCell ⟨g, 4, none⟩ x4).setCell ⟨g, 5, none⟩ x5).setCell ⟨g, 6, none⟩ x6).alloc o).cell? ⟨g, 3, none⟩ = some x3 ∧ ((((((((w.setCell ⟨g, 0, none⟩ x0).setCell ⟨g, 1, none⟩ x1).setCell ⟨g, 2, none⟩ x2).setCell ⟨g, 3, none⟩ x3).setCell ⟨g, 4, none⟩ x4).setCell ⟨g, 5, none⟩ x5).setCell ⟨g, 6, none⟩ x6).alloc o).cell? ⟨g, 4, none⟩ = some x4 ∧ ((((((((w.setCell ⟨g, 0, none⟩ x0).setCell ⟨g, 1, none⟩ x1).setCell ⟨g, 2, none⟩ x2).setCell ⟨g, 3, none⟩ x3).setCell ⟨g, 4, none⟩ x4).setCell ⟨g, 5, none⟩ x5).setCell ⟨g, 6, none⟩ x6).alloc o).cell? ⟨g, 5, none⟩ = some x5 ∧ ((((((((w.setCell ⟨g, 0, none⟩ x0).setCell ⟨g, 1, none⟩ x1).setCell ⟨g, 2, none⟩ x2).setCell ⟨g, 3, none⟩ x3).setCell ⟨g, 4, none⟩ x4).setCell ⟨g, 5, none⟩ x5).setCell ⟨g, 6, none⟩ x6).alloc o).cell? ⟨g, 6, none⟩ = some x6 := by
  have hs : g < (((((((w.setCell ⟨g, 0, none⟩ x0).setCell ⟨g, 1, none⟩ x1).setCell ⟨g, 2, none⟩ x2).setCell ⟨g, 3, none⟩ x3).setCell ⟨g, 4, none⟩ x4).setCell ⟨g, 5, none⟩ x5).setCell ⟨g, 6, none⟩ x6).heap.size := by simpa [World.setCell] using hg
  have hk : ∀ j, ((((((((w.setCell ⟨g, 0, none⟩ x0).setCell ⟨g, 1, none⟩ x1).setCell ⟨g, 2, none⟩ x2).setCell ⟨g, 3, none⟩ x3).setCell ⟨g, 4, none⟩ x4).setCell ⟨g, 5, none⟩ x5).setCell ⟨g, 6, none⟩ x6).alloc o).cell? ⟨g, j, none⟩ = (((((((w.setCell ⟨g, 0, none⟩ x0).setCell ⟨g, 1, none⟩ x1).setCell ⟨g, 2, none⟩ x2).setCell ⟨g, 3, none⟩ x3).setCell ⟨g, 4, none⟩ x4).setCell ⟨g, 5, none⟩ x5).setCell ⟨g, 6, none⟩ x6).cell? ⟨g, j, none⟩ := fun j => (below_one _ o).cell (p := ⟨g, j, none⟩) hs
  refine ⟨?_, ?_, ?_, ?_, ?_, ?_, ?_⟩ <;> rw [hk] <;> simp [set_off, set_on, r0, r1, r2, r3, r4, r5, r6]
end Go.Proofs.YtljhcegkekdjgaaDoor

namespace Go.Proofs.YtljhcegkekdjgaaDoor
open Go.RowKit Go.Lib Pt Opn

/-- A cell: its tag, its words. -/
abbrev Q4 := Nat × Nat × Nat × Nat
def q4L (x : Q4) : List Value := [.int .u64 (x.1 : Nat), .int .u64 (x.2.1 : Nat), .int .u64 (x.2.2.1 : Nat), .int .u64 (x.2.2.2 : Nat)]
theorem q4L_len (x : Q4) : (q4L x).length = 4 := rfl
def QWf (x : Q4) : Prop := x.1 < 18446744073709551616 ∧ x.2.1 < 18446744073709551616 ∧ x.2.2.1 < 18446744073709551616 ∧ x.2.2.2 < 18446744073709551616
instance (x : Q4) : Decidable (QWf x) := by unfold QWf; infer_instance
theorem q4_one : ∀ x : Q4, ∀ u ∈ q4L x, u.oneCell' = true := fun x u hu => by
  simp [q4L] at hu
  rcases hu with rfl | rfl | rfl | rfl <;> rfl
def natL (n : Nat) : List Value := [.int .i64 (n : Nat)]
theorem natL_len (n : Nat) : (natL n).length = 1 := rfl

/-- An operation goes on, so many acts at most: the cells, the code and the value, the places, whether it is done. -/
def goT (c : Cf) : Nat → List Q4 → Ds → List Nat → List Q4 × (Int × Nat) × List Nat × Bool
  | 0, cs, _, ps => (cs, (0, 0), ps, false)
  | n + 1, cs, f, ps =>
    if (nextT c f).2 ≠ 0 then (cs, (0, 0), ps, false)
    else if (nextT c f).1.kind = 4 then (cs, ((nextT c f).1.code, (nextT c f).1.v), ps, true)
    else if 1 ≤ (nextT c f).1.pl ∧ (nextT c f).1.pl < cs.length ∧ ((nextT c f).1.kind = 1 ∨ (nextT c f).1.kind = 2) then
      (let ds := if (nextT c f).1.kind = 2 then cs.set (nextT c f).1.pl (0, (nextT c f).1.a, (nextT c f).1.b, (nextT c f).1.c) else cs
       let x := ds[(nextT c f).1.pl]?.getD (0, 0, 0, 0)
       if (afterT c f x.2.1 x.2.2.1).2 ≠ 0 then (ds, (0, 0), ps ++ [(nextT c f).1.pl], false) else goT c n ds (afterT c f x.2.1 x.2.2.1).1 (ps ++ [(nextT c f).1.pl]))
    else (cs, (0, 0), ps, false)

theorem nextT_wf {c : Cf} {f : Ds} (hw : DWf f) : (nextT c f).1.a < 18446744073709551616 ∧ (nextT c f).1.b < 18446744073709551616 ∧ (nextT c f).1.c = 0 := by
  have hy : f.y < 4294967296 ∧ f.x < 4294967296 := by unfold DWf at hw; exact ⟨hw.2.2.2.2.2.2.2.2.2.2.2.2.2, hw.2.2.2.2.2.2.2.2.2.2.2.2.1⟩
  have hs : (stepT c f).a < 18446744073709551616 ∧ (stepT c f).b < 18446744073709551616 ∧ (stepT c f).c = 0 := by
    unfold stepT
    refine ⟨?_, ?_, ?_⟩ <;> (repeat' split) <;> (try simp) <;> (try split) <;> (try simp) <;> (try split) <;> omega
  unfold nextT
  split
  · decide
  · split
    · decide
    · exact hs
theorem afterT_wf {c : Cf} {f : Ds} (hw : DWf f) (A B : Nat) : DWf (afterT c f A B).1 := by
  unfold afterT
  split
  · decide
  · rename_i hok
    have hok := Classical.not_not.1 hok
    split
    · decide
    · rename_i hm
      have hm := Classical.not_not.1 hm
      obtain ⟨_, h2, _, _, h5, _⟩ := mayT_bounds hok.1 hok.2 hm
      have ho := behindT_op c f A B
      obtain ⟨_, g2, _⟩ := behindT_fine hok.2 hm A B
      have hx : (behindT c f A B).x < 4294967296 ∧ (behindT c f A B).n < 256 ∧ (behindT c f A B).pc < 256 := by
        unfold DWf at hw
        unfold behindT lookT
        simp only
        (repeat' split) <;> (try simp) <;> omega
      unfold DWf at hw ⊢
      simp only
      omega

/-- The cells of a frame. -/
def frA (f : Ds) : Array Value := #[.int .u8 (f.kind : Nat), .int .u32 (f.a : Nat), .int .u32 (f.b : Nat), .int .u8 (f.pc : Nat), .int .u8 (f.i : Nat), .int .u8 (f.j : Nat), .int .u8 (f.n : Nat), .int .u8 (f.p : Nat), .int .u8 (f.h : Nat), .int .u32 (f.x : Nat), .int .u32 (f.y : Nat)]
theorem isl_at {X : Type} {L : X → List Value} {s : Nat} {w : World} {g : Nat} {l : List X} (h : IsL w (some ⟨g, 0, none⟩) s L l) {i : Nat} {y : X} (hi : l[i]? = some y) (j : Nat) (u : Value) (hu : (L y)[j]? = some u) : w.cell? ⟨g, i * s + j, none⟩ = some u := by
  obtain ⟨b, off, e1, h1⟩ := h i y hi
  injection e1 with e1
  injection e1 with e1 e2 _
  subst e1 e2
  have := h1 j u hu
  rw [Nat.zero_add] at this
  exact this
/-- Four cells of a list are laid anew: the element that lies there. -/
theorem set4 {w : World} {g : Nat} {l : List Q4} {i : Nat} (hi : i < l.length) (h : IsL w (some ⟨g, 0, none⟩) 4 q4L l) (x : Q4) :
    IsL ((((w.setCell ⟨g, i * 4, none⟩ (.int .u64 (x.1 : Nat))).setCell ⟨g, i * 4 + 1, none⟩ (.int .u64 (x.2.1 : Nat))).setCell ⟨g, i * 4 + 2, none⟩ (.int .u64 (x.2.2.1 : Nat))).setCell ⟨g, i * 4 + 3, none⟩ (.int .u64 (x.2.2.2 : Nat))) (some ⟨g, 0, none⟩) 4 q4L (l.set i x) := fun m y hy => by
  refine ⟨g, 0, rfl, fun j u hu => ?_⟩
  have hj : j < 4 := by rw [← q4L_len y]; exact (List.getElem?_eq_some_iff.1 hu).1
  by_cases e : i = m
  · subst e
    rw [List.getElem?_set_self hi] at hy
    injection hy with hy
    subst hy
    have h1 := isl_at h (List.getElem?_eq_getElem hi)
    have q0 := h1 0 (.int .u64 ((l[i]).1 : Nat)) rfl
    have q1 := h1 1 (.int .u64 ((l[i]).2.1 : Nat)) rfl
    have q2 := h1 2 (.int .u64 ((l[i]).2.2.1 : Nat)) rfl
    have q3 := h1 3 (.int .u64 ((l[i]).2.2.2 : Nat)) rfl
    clear h1 h
    rw [Nat.zero_add]
    rw [Nat.add_zero] at q0
    generalize l[i] = z at *
    rcases (show j = 0 ∨ j = 1 ∨ j = 2 ∨ j = 3 by omega) with rfl | rfl | rfl | rfl
    · obtain rfl : (.int .u64 (x.1 : Nat)) = u := by simpa [q4L] using hu
      rw [Nat.add_zero, set_off _ _ _ _ _ (by omega), set_off _ _ _ _ _ (by omega), set_off _ _ _ _ _ (by omega)]
      exact set_on _ _ _ _ (by rw [q0]; rfl)
    · obtain rfl : (.int .u64 (x.2.1 : Nat)) = u := by simpa [q4L] using hu
      rw [set_off _ _ _ _ _ (by omega), set_off _ _ _ _ _ (by omega)]
      exact set_on _ _ _ _ (by rw [set_off _ _ _ _ _ (by omega), q1]; rfl)
    · obtain rfl : (.int .u64 (x.2.2.1 : Nat)) = u := by simpa [q4L] using hu
      rw [set_off _ _ _ _ _ (by omega)]
      exact set_on _ _ _ _ (by rw [set_off _ _ _ _ _ (by omega), set_off _ _ _ _ _ (by omega), q2]; rfl)
    · obtain rfl : (.int .u64 (x.2.2.2 : Nat)) = u := by simpa [q4L] using hu
      exact set_on _ _ _ _ (by rw [set_off _ _ _ _ _ (by omega), set_off _ _ _ _ _ (by omega), set_off _ _ _ _ _ (by omega), q3]; rfl)
  · rw [List.getElem?_set_ne e] at hy
    have q := isl_at h hy j u hu
    rw [Nat.zero_add]
    rw [set_off _ _ _ _ _ (by omega), set_off _ _ _ _ _ (by omega), set_off _ _ _ _ _ (by omega), set_off _ _ _ _ _ (by omega)]
    exact q
/-- A store elsewhere leaves a list. -/
theorem isl_far {w w' : World} {X : Type} {s : Nat} {L : X → List Value} {A : Option Addr} {l : List X} {g : Nat} (h : IsL w A s L l) (hA : ∀ b o, A = some ⟨b, o, none⟩ → b ≠ g) (hk : ∀ b j, b ≠ g → w'.cell? ⟨b, j, none⟩ = w.cell? ⟨b, j, none⟩) : IsL w' A s L l := fun i x hx => by
  obtain ⟨b, off, e, h1⟩ := h i x hx
  exact ⟨b, off, e, fun j u hu => (hk b _ (hA b off e)).trans (h1 j u hu)⟩
/-- A frame lies there. -/
def FrAt (w : World) (g : Nat) (f : Ds) : Prop := ∀ j v, (frA f)[j]? = some v → w.cell? ⟨g, j, none⟩ = some v
theorem frAt_new {w : World} {g : Nat} {f : Ds} {t : TypeId} (h : w.heap[g]? = some (.cells (frA f) t (0, 0))) : FrAt w g f := fun j v hv => by
  unfold World.cell?
  simp only [h]
  exact hv
theorem FrAt.cells {w : World} {g : Nat} {f : Ds} (h : FrAt w g f) : w.cell? ⟨g, 0, none⟩ = some (.int .u8 (f.kind : Nat)) ∧ w.cell? ⟨g, 1, none⟩ = some (.int .u32 (f.a : Nat)) ∧ w.cell? ⟨g, 2, none⟩ = some (.int .u32 (f.b : Nat)) ∧ w.cell? ⟨g, 3, none⟩ = some (.int .u8 (f.pc : Nat)) ∧ w.cell? ⟨g, 4, none⟩ = some (.int .u8 (f.i : Nat)) ∧ w.cell? ⟨g, 5, none⟩ = some (.int .u8 (f.j : Nat)) ∧ w.cell? ⟨g, 6, none⟩ = some (.int .u8 (f.n : Nat)) ∧ w.cell? ⟨g, 7, none⟩ = some (.int .u8 (f.p : Nat)) ∧ w.cell? ⟨g, 8, none⟩ = some (.int .u8 (f.h : Nat)) ∧ w.cell? ⟨g, 9, none⟩ = some (.int .u32 (f.x : Nat)) ∧ w.cell? ⟨g, 10, none⟩ = some (.int .u32 (f.y : Nat)) := ⟨h 0 _ rfl, h 1 _ rfl, h 2 _ rfl, h 3 _ rfl, h 4 _ rfl, h 5 _ rfl, h 6 _ rfl, h 7 _ rfl, h 8 _ rfl, h 9 _ rfl, h 10 _ rfl⟩
set_option maxHeartbeats 1000000 in
theorem frAt_set {w : World} {g : Nat} {a b c d e f' h i j k l : Value} {t : TypeId} (hh : w.heap[g]? = some (.cells #[a, b, c, d, e, f', h, i, j, k, l] t (0, 0))) (f : Ds) :
    FrAt (((((((((((w.setCell ⟨g, 0, none⟩ (.int .u8 (f.kind : Nat))).setCell ⟨g, 1, none⟩ (.int .u32 (f.a : Nat))).setCell ⟨g, 2, none⟩ (.int .u32 (f.b : Nat))).setCell ⟨g, 3, none⟩ (.int .u8 (f.pc : Nat))).setCell ⟨g, 4, none⟩ (.int .u8 (f.i : Nat))).setCell ⟨g, 5, none⟩ (.int .u8 (f.j : Nat))).setCell ⟨g, 6, none⟩ (.int .u8 (f.n : Nat))).setCell ⟨g, 7, none⟩ (.int .u8 (f.p : Nat))).setCell ⟨g, 8, none⟩ (.int .u8 (f.h : Nat))).setCell ⟨g, 9, none⟩ (.int .u32 (f.x : Nat))).setCell ⟨g, 10, none⟩ (.int .u32 (f.y : Nat))) g f := fun m v hv => by
  obtain ⟨q0, _, q1, _, q2, _, q3, _, q4, _, q5, _, q6, _, q7, _, q8, _, q9, _, q10, _⟩ := cells11 hh
  have hm : m < 11 := (Array.getElem?_eq_some_iff.1 hv).1
  rcases (show m = 0 ∨ m = 1 ∨ m = 2 ∨ m = 3 ∨ m = 4 ∨ m = 5 ∨ m = 6 ∨ m = 7 ∨ m = 8 ∨ m = 9 ∨ m = 10 by omega) with rfl | rfl | rfl | rfl | rfl | rfl | rfl | rfl | rfl | rfl | rfl
  all_goals
    simp only [frA, List.getElem?_toArray, List.getElem?_cons_zero, List.getElem?_cons_succ, Option.some.injEq] at hv
    subst hv
    simp [set_off, set_on, q0, q1, q2, q3, q4, q5, q6, q7, q8, q9, q10]
/-- Behind a call that answers a frame: it lies in a block of its own, and nothing that was there has turned. -/
def MidT (W : World) (f : Ds) (g : Nat) (wx : World) : Prop := FrAt wx g f ∧ W.heap.size ≤ g ∧ g < wx.heap.size ∧ Below W.heap.size W wx
theorem midT_first {W w5 : World} {f : Ds} {a b c d e f' h i j k l : Value} {t : TypeId} (hb : Below (W.alloc (.cells #[a, b, c, d, e, f', h, i, j, k, l] t)).drew.heap.size (W.alloc (.cells #[a, b, c, d, e, f', h, i, j, k, l] t)).drew w5) :
    MidT W f W.heap.size (((((((((((w5.setCell ⟨W.heap.size, 0, none⟩ (.int .u8 (f.kind : Nat))).setCell ⟨W.heap.size, 1, none⟩ (.int .u32 (f.a : Nat))).setCell ⟨W.heap.size, 2, none⟩ (.int .u32 (f.b : Nat))).setCell ⟨W.heap.size, 3, none⟩ (.int .u8 (f.pc : Nat))).setCell ⟨W.heap.size, 4, none⟩ (.int .u8 (f.i : Nat))).setCell ⟨W.heap.size, 5, none⟩ (.int .u8 (f.j : Nat))).setCell ⟨W.heap.size, 6, none⟩ (.int .u8 (f.n : Nat))).setCell ⟨W.heap.size, 7, none⟩ (.int .u8 (f.p : Nat))).setCell ⟨W.heap.size, 8, none⟩ (.int .u8 (f.h : Nat))).setCell ⟨W.heap.size, 9, none⟩ (.int .u32 (f.x : Nat))).setCell ⟨W.heap.size, 10, none⟩ (.int .u32 (f.y : Nat))) := by
  have h0 := (hb.block W.heap.size (by simp)).trans (heap_alloc_new W _)
  have hbb : Below W.heap.size W w5 := below_then (below_one W (.cells #[a, b, c, d, e, f', h, i, j, k, l] t)).drew hb
  have hs : W.heap.size < w5.heap.size := (Array.getElem?_eq_some_iff.1 h0).1
  exact ⟨frAt_set h0 f, Nat.le_refl _, by simpa [World.setCell] using hs, (((((((((((hbb.setCell (p := ⟨W.heap.size, 0, none⟩) (Nat.le_refl _) (.int .u8 (f.kind : Nat))).setCell (p := ⟨W.heap.size, 1, none⟩) (Nat.le_refl _) (.int .u32 (f.a : Nat))).setCell (p := ⟨W.heap.size, 2, none⟩) (Nat.le_refl _) (.int .u32 (f.b : Nat))).setCell (p := ⟨W.heap.size, 3, none⟩) (Nat.le_refl _) (.int .u8 (f.pc : Nat))).setCell (p := ⟨W.heap.size, 4, none⟩) (Nat.le_refl _) (.int .u8 (f.i : Nat))).setCell (p := ⟨W.heap.size, 5, none⟩) (Nat.le_refl _) (.int .u8 (f.j : Nat))).setCell (p := ⟨W.heap.size, 6, none⟩) (Nat.le_refl _) (.int .u8 (f.n : Nat))).setCell (p := ⟨W.heap.size, 7, none⟩) (Nat.le_refl _) (.int .u8 (f.p : Nat))).setCell (p := ⟨W.heap.size, 8, none⟩) (Nat.le_refl _) (.int .u8 (f.h : Nat))).setCell (p := ⟨W.heap.size, 9, none⟩) (Nat.le_refl _) (.int .u32 (f.x : Nat))).setCell (p := ⟨W.heap.size, 10, none⟩) (Nat.le_refl _) (.int .u32 (f.y : Nat)))⟩
theorem midT_last {W w5 : World} {f : Ds} {t : TypeId} (hb : Below W.drew.heap.size W.drew w5) : MidT W f w5.heap.size (w5.alloc (.cells #[.int .u8 (f.kind : Nat), .int .u32 (f.a : Nat), .int .u32 (f.b : Nat), .int .u8 (f.pc : Nat), .int .u8 (f.i : Nat), .int .u8 (f.j : Nat), .int .u8 (f.n : Nat), .int .u8 (f.p : Nat), .int .u8 (f.h : Nat), .int .u32 (f.x : Nat), .int .u32 (f.y : Nat)] t)) := by
  have hbb : Below W.heap.size W w5 := ⟨hb.os, hb.tape, hb.output, hb.size, hb.block⟩
  exact ⟨frAt_new (f := f) (heap_alloc_new w5 _), hbb.size, by simp, hbb.alloc hbb.size _⟩
theorem keep_set11 {W X : World} (h : W.heap.size ≤ X.heap.size ∧ ∀ b j, b < W.heap.size → X.cell? ⟨b, j, none⟩ = W.cell? ⟨b, j, none⟩) (g : Nat) (hg : W.heap.size ≤ g) (x0 x1 x2 x3 x4 x5 x6 x7 x8 x9 x10 : Value) :
    W.heap.size ≤ (((((((((((X.setCell ⟨g, 0, none⟩ x0).setCell ⟨g, 1, none⟩ x1).setCell ⟨g, 2, none⟩ x2).setCell ⟨g, 3, none⟩ x3).setCell ⟨g, 4, none⟩ x4).setCell ⟨g, 5, none⟩ x5).setCell ⟨g, 6, none⟩ x6).setCell ⟨g, 7, none⟩ x7).setCell ⟨g, 8, none⟩ x8).setCell ⟨g, 9, none⟩ x9).setCell ⟨g, 10, none⟩ x10).heap.size ∧ ∀ b j, b < W.heap.size → (((((((((((X.setCell ⟨g, 0, none⟩ x0).setCell ⟨g, 1, none⟩ x1).setCell ⟨g, 2, none⟩ x2).setCell ⟨g, 3, none⟩ x3).setCell ⟨g, 4, none⟩ x4).setCell ⟨g, 5, none⟩ x5).setCell ⟨g, 6, none⟩ x6).setCell ⟨g, 7, none⟩ x7).setCell ⟨g, 8, none⟩ x8).setCell ⟨g, 9, none⟩ x9).setCell ⟨g, 10, none⟩ x10).cell? ⟨b, j, none⟩ = W.cell? ⟨b, j, none⟩ := (keep_set (keep_set (keep_set (keep_set (keep_set (keep_set (keep_set (keep_set (keep_set (keep_set (keep_set h g 0 x0 hg) g 1 x1 hg) g 2 x2 hg) g 3 x3 hg) g 4 x4 hg) g 5 x5 hg) g 6 x6 hg) g 7 x7 hg) g 8 x8 hg) g 9 x9 hg) g 10 x10 hg)
theorem held_cells {W w5 : World} {a b c d e f' h i j k l : Value} {t : TypeId} (hb : Below (W.alloc (.cells #[a, b, c, d, e, f', h, i, j, k, l] t)).drew.heap.size (W.alloc (.cells #[a, b, c, d, e, f', h, i, j, k, l] t)).drew w5) :
    w5.cell? ⟨W.heap.size, 0, none⟩ = some a ∧ w5.frozen? ⟨W.heap.size, 0, none⟩ = false ∧ w5.cell? ⟨W.heap.size, 1, none⟩ = some b ∧ w5.frozen? ⟨W.heap.size, 1, none⟩ = false ∧ w5.cell? ⟨W.heap.size, 2, none⟩ = some c ∧ w5.frozen? ⟨W.heap.size, 2, none⟩ = false ∧ w5.cell? ⟨W.heap.size, 3, none⟩ = some d ∧ w5.frozen? ⟨W.heap.size, 3, none⟩ = false ∧ w5.cell? ⟨W.heap.size, 4, none⟩ = some e ∧ w5.frozen? ⟨W.heap.size, 4, none⟩ = false ∧ w5.cell? ⟨W.heap.size, 5, none⟩ = some f' ∧ w5.frozen? ⟨W.heap.size, 5, none⟩ = false ∧ w5.cell? ⟨W.heap.size, 6, none⟩ = some h ∧ w5.frozen? ⟨W.heap.size, 6, none⟩ = false ∧ w5.cell? ⟨W.heap.size, 7, none⟩ = some i ∧ w5.frozen? ⟨W.heap.size, 7, none⟩ = false ∧ w5.cell? ⟨W.heap.size, 8, none⟩ = some j ∧ w5.frozen? ⟨W.heap.size, 8, none⟩ = false ∧ w5.cell? ⟨W.heap.size, 9, none⟩ = some k ∧ w5.frozen? ⟨W.heap.size, 9, none⟩ = false ∧ w5.cell? ⟨W.heap.size, 10, none⟩ = some l ∧ w5.frozen? ⟨W.heap.size, 10, none⟩ = false := cells11 ((hb.block W.heap.size (by simp)).trans (heap_alloc_new W _))
theorem heap_set {w : World} {g : Nat} {xs : Array Value} {t : TypeId} (h : w.heap[g]? = some (.cells xs t (0, 0))) (o : Nat) (x : Value) : (w.setCell ⟨g, o, none⟩ x).heap[g]? = some (.cells (xs.setIfInBounds o x) t (0, 0)) := by
  rw [setCell_eq_setRow w g o xs t (0, 0) x h]
  exact setRow_heap w g xs _ t (0, 0) h
theorem set_grown {w w' : World} {g : Nat} (h : w.grownBy w' (some g)) (o : Nat) (x : Value) : w.grownBy (w'.setCell ⟨g, o, none⟩ x) (some g) :=
  ⟨h.os, h.tape, h.output, by simpa [World.setCell] using h.size, fun i hi hne => (Below.heap_setCell w' ⟨g, o, none⟩ x i (fun e => hne (by rw [e]))).trans (h.block i hi hne)⟩
set_option maxHeartbeats 2000000 in
/-- A frame is stored where one lay. -/
theorem set11_heap {w : World} {g : Nat} {a b c d e f' h i j k l : Value} {t : TypeId} (h0 : w.heap[g]? = some (.cells #[a, b, c, d, e, f', h, i, j, k, l] t (0, 0))) (f : Ds) : (((((((((((w.setCell ⟨g, 0, none⟩ (.int .u8 (f.kind : Nat))).setCell ⟨g, 1, none⟩ (.int .u32 (f.a : Nat))).setCell ⟨g, 2, none⟩ (.int .u32 (f.b : Nat))).setCell ⟨g, 3, none⟩ (.int .u8 (f.pc : Nat))).setCell ⟨g, 4, none⟩ (.int .u8 (f.i : Nat))).setCell ⟨g, 5, none⟩ (.int .u8 (f.j : Nat))).setCell ⟨g, 6, none⟩ (.int .u8 (f.n : Nat))).setCell ⟨g, 7, none⟩ (.int .u8 (f.p : Nat))).setCell ⟨g, 8, none⟩ (.int .u8 (f.h : Nat))).setCell ⟨g, 9, none⟩ (.int .u32 (f.x : Nat))).setCell ⟨g, 10, none⟩ (.int .u32 (f.y : Nat))).heap[g]? = some (.cells (frA f) t (0, 0)) := by
  have h := (heap_set (heap_set (heap_set (heap_set (heap_set (heap_set (heap_set (heap_set (heap_set (heap_set (heap_set h0 0 (.int .u8 (f.kind : Nat))) 1 (.int .u32 (f.a : Nat))) 2 (.int .u32 (f.b : Nat))) 3 (.int .u8 (f.pc : Nat))) 4 (.int .u8 (f.i : Nat))) 5 (.int .u8 (f.j : Nat))) 6 (.int .u8 (f.n : Nat))) 7 (.int .u8 (f.p : Nat))) 8 (.int .u8 (f.h : Nat))) 9 (.int .u32 (f.x : Nat))) 10 (.int .u32 (f.y : Nat)))
  rw [h]
  simp [frA]
theorem set11_grown (w : World) (g : Nat) (x0 x1 x2 x3 x4 x5 x6 x7 x8 x9 x10 : Value) : w.grownBy (((((((((((w.setCell ⟨g, 0, none⟩ x0).setCell ⟨g, 1, none⟩ x1).setCell ⟨g, 2, none⟩ x2).setCell ⟨g, 3, none⟩ x3).setCell ⟨g, 4, none⟩ x4).setCell ⟨g, 5, none⟩ x5).setCell ⟨g, 6, none⟩ x6).setCell ⟨g, 7, none⟩ x7).setCell ⟨g, 8, none⟩ x8).setCell ⟨g, 9, none⟩ x9).setCell ⟨g, 10, none⟩ x10) (some g) := (set_grown (set_grown (set_grown (set_grown (set_grown (set_grown (set_grown (set_grown (set_grown (set_grown (set_grown (World.grownBy.refl w (some g)) 0 x0) 1 x1) 2 x2) 3 x3) 4 x4) 5 x5) 6 x6) 7 x7) 8 x8) 9 x9) 10 x10)
end Go.Proofs.YtljhcegkekdjgaaDoor
