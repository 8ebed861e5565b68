/- A constant table of numbers, a row or rows of rows, as the form's condition lays it: where its cells lie. What the rows' condition says of package op's table of objects. Rows and lists of operations that come in. -/
import Derived.Test.YtljhcegkekdjgaaDoorGOpen
import Derived.LaidMore
import Derived.Stop.Joined
import Derived.Test.YtljhcegkekdjgaaDoorGOp
import Derived.Test.YtljhcegkekdjgaaDoorTie
import Derived.Test.YtljhcegkekdjgaaDoorCards
import Derived.SevenTiedAt
import Derived.Test.YtljhcegkekdjgaaDoorGRow
namespace Go.Proofs.YtljhcegkekdjgaaDoor
open Go.ChangeShapes Go.WideShapes Go.ChangeAt Go.RowKit

section
variable {H : Type} {enc : TypeId × Value → H} {P : Program} {w : World} {base : Nat} {spare : Nat → Bool} {held : Bool}

def rowData (k : IntKind) (ds : List Int) : DataW H := .agg (ds.map fun z => .lit (.int k z))

theorem ints_row {fuel : Nat} {t e : TypeId} {C : Nat} {k : IntKind} {cs : List Value} {x : DataW H × List MemPlace} (ht : P.underlying t = some (.array C e)) (he : P.underlying e = some (.int k)) (hc : P.cellsOf e = 1)
    (h : DataW.trod enc P w base spare held fuel t cs = some x) (ds : List Int) (hx : x.1 = rowData k ds) : ∀ (j : Nat) (z : Int), ds[j]? = some z → cs[j]? = some (.int k z) := by
  obtain ⟨xs, m, rfl, rfl, _, hn, hel⟩ := DataW.trod_array ht h
  intro j z hj
  simp only [rowData, DataW.agg.injEq] at hx
  have h1 : (xs.map (·.1))[j]? = some (.lit (.int k z)) := by rw [hx, List.getElem?_map, hj]; rfl
  rw [List.getElem?_map, Option.map_eq_some_iff] at h1
  obtain ⟨y, hy, hy1⟩ := h1
  have hjn : j < C := by rw [← hn]; exact (List.getElem?_eq_some_iff.1 hy).1
  have h2 := hel j hjn
  rw [hy, hc, Nat.mul_one] at h2
  obtain ⟨k', e1, rfl, _⟩ := DataW.trod_int he h2
  have : k' = z := by simpa using hy1
  subst this
  have h3 := congrArg (fun l : List Value => l[0]?) e1
  simpa [List.getElem?_take] using h3

theorem ints_rows {fuel : Nat} {T t e : TypeId} {R C : Nat} {k : IntKind} {cs : List Value} {x : DataW H × List MemPlace} (hT : P.underlying T = some (.array R t)) (ht : P.underlying t = some (.array C e)) (he : P.underlying e = some (.int k)) (hc : P.cellsOf e = 1) (hC : P.cellsOf t = C)
    (h : DataW.trod enc P w base spare held fuel T cs = some x) (ds : List (List Int)) (hx : x.1 = .agg (ds.map (rowData k))) : ∀ (i j : Nat) (r : List Int) (z : Int), ds[i]? = some r → r[j]? = some z → j < C → cs[i * C + j]? = some (.int k z) := by
  obtain ⟨xs, m, rfl, rfl, _, hn, hel⟩ := DataW.trod_array hT h
  intro i j r z hi hj hjC
  simp only [DataW.agg.injEq] at hx
  have h1 : (xs.map (·.1))[i]? = some (rowData k r) := by rw [hx, List.getElem?_map, hi]; rfl
  rw [List.getElem?_map, Option.map_eq_some_iff] at h1
  obtain ⟨y, hy, hy1⟩ := h1
  have hin : i < R := by rw [← hn]; exact (List.getElem?_eq_some_iff.1 hy).1
  have h2 := hel i hin
  rw [hy, hC] at h2
  have h3 := ints_row ht he hc h2 r hy1 j z hj
  rw [List.getElem?_take, if_pos hjC, List.getElem?_drop] at h3
  exact h3
end
end Go.Proofs.YtljhcegkekdjgaaDoor

namespace Go.Proofs.YtljhcegkekdjgaaDoor
open Go.ChangeShapes Go.WideShapes Go.ChangeAt Go.RowKit Opn

/-- What the rows list. -/
abbrev laidL : List (String × DataW Unit) := [("bascule/op.objects", Rows.laid_bascule_op_objects)]

theorem gObjects : Tryd.prog.globalNamed "bascule/op.objects" = some 0 := by kernel_rfl
theorem tObjects : (Tryd.prog.globals[0]?).map (·.type) = some 125 := by kernel_rfl
theorem cByte : Tryd.prog.cellsOf 5 = 1 := by kernel_rfl

theorem of_laid {W : World} (h : laidMetH Tryd.prog laidL W) : Obs W := by
  rw [MakeChecks.laidMetH_plain _ _ _ (by kernel_rfl)] at h
  obtain ⟨ps, ⟨g0, t0, cs0, f0, p0, q0, hg0, ht0, hv0, hd0, _⟩, _⟩ := h
  obtain rfl := Option.some.inj (gObjects.symm.trans hg0)
  obtain rfl := Option.some.inj (tObjects.symm.trans ht0)
  have key := ints_row Tryd.underlying125 Tryd.underlying5 cByte hd0 [0, 1, 1, 1, 2, 2, 2, 2, 2, 3, 3, 3, 4, 4, 4] rfl
  intro j hj
  have hc := World.var?_cell hg0 hv0 j
  rw [hc]
  have hk : ∀ i : Fin 15, ([0, 1, 1, 1, 2, 2, 2, 2, 2, 3, 3, 3, 4, 4, 4] : List Int)[i.val]? = some ((objAt i.val : Nat) : Int) := by decide +kernel
  have := key j _ (hk ⟨j, hj⟩)
  rw [← Array.getElem?_toList, this]

theorem door_met (os : Os) (args : Array Value) : laidMetH Tryd.prog laidL ((World.doorLaid Tryd.prog 400 os).forCall (fun _ _ => 0) ⟨#[], args, []⟩).memory :=
  laidMetH_of_parts3 (fuel := 8) (laidMet_of_run' 8 (by kernel_rfl) (by kernel_rfl)) (by kernel_rfl) (by kernel_rfl)
theorem Obs.keep {W X : World} (h : Obs W) (k : W.heap.size ≤ X.heap.size ∧ ∀ b j, b < W.heap.size → X.cell? ⟨b, j, none⟩ = W.cell? ⟨b, j, none⟩) : Obs X := fun j hj =>
  (k.2 _ _ (World.block_lt_of_cell? _ _ (h j hj))).trans (h j hj)
end Go.Proofs.YtljhcegkekdjgaaDoor

namespace Go.Proofs.YtljhcegkekdjgaaDoor
open Go.ChangeShapes Go.WideShapes Go.ChangeAt Go.RowKit Go.Deep Opn Tb

set_option maxRecDepth 100000 in
theorem u64_nat' {x : Int} (h : (Lit.int .u64 x).wf = true) : ∃ n : Nat, x = n ∧ n < 18446744073709551616 := u64_nat h

/-- A row that fits two words. -/
abbrev RB := {x : R // x.1 < 18446744073709551616 ∧ x.2 < 18446744073709551616}

section
variable {H : Type} {enc : TypeId × Value → H} {W : World} {b : Nat} {sp : Nat → Bool} {hd : Bool} {r : Reach} {base : Nat}

set_option maxRecDepth 100000 in
theorem row_of {n : Nat} {cs : List Value} {y : DataW H × List MemPlace} (h : DataW.trod enc Tryd.prog W b sp hd n 83 cs = some y) : ∃ x, cs = rowL x := by
  obtain ⟨xs, m, _, _, hlen, hl, hf⟩ := DataW.trod_struct Tryd.underlying83 h
  rw [show Tryd.prog.cellsOf 83 = 2 by kernel_rfl] at hlen
  have g : ∀ j, j < 2 → ∃ y, xs[j]? = some y := fun j hj => ⟨_, List.getElem?_eq_getElem (by rw [hl]; exact hj)⟩
  have q0 : DataW.trod enc Tryd.prog W b sp hd m 22 ((cs.drop 0).take (Tryd.prog.cellsOf 22)) = xs[0]? := hf 0 _ rfl
  have q1 : DataW.trod enc Tryd.prog W b sp hd m 22 ((cs.drop 1).take (Tryd.prog.cellsOf 22)) = xs[1]? := hf 1 _ rfl
  obtain ⟨k0, h0, w0⟩ := word_of Tryd.underlying22 (by kernel_rfl) (g 0 (by omega)) q0
  obtain ⟨k1, h1, w1⟩ := word_of Tryd.underlying22 (by kernel_rfl) (g 1 (by omega)) q1
  obtain ⟨n0, rfl, _⟩ := u64_nat w0
  obtain ⟨n1, rfl, _⟩ := u64_nat w1
  refine ⟨(n0, n1), ?_⟩
  match cs, hlen with
  | [a, c], _ =>
    simp at h0 h1
    rw [h0, h1]; rfl

set_option maxRecDepth 100000 in
/-- From a row by numbers to a list. -/
theorem isl_of {X : Type} {A : Option Addr} {N s : Nat} {L : X → List Value} {f : Nat → X} (h : IsRow W A N s (fun i => L (f i))) : IsL W A s L ((List.range N).map f) := fun i x hx => by
  rw [List.getElem?_map, Option.map_eq_some_iff] at hx
  obtain ⟨j, hj, rfl⟩ := hx
  obtain ⟨hj1, hj2⟩ := List.getElem?_eq_some_iff.1 hj
  rw [List.length_range] at hj1
  have : j = i := by rw [← hj2]; simp
  subst this
  exact h j hj1

set_option maxRecDepth 100000 in
theorem open_tab {v : Value} {d : DataW H} {p : List MemPlace} (hv : Value.okWide Tryd.prog W r base 56 v) (h : DataW.Trod enc Tryd.prog W b (fun _ => true) hd 56 v d p) :
    ∃ A c, ∃ l : List R, v = .slice A l.length c ∧ (l.length ≤ c ∧ c ≤ 9223372036854775807) ∧ (A = none → l.length = 0 ∧ c = 0) ∧ IsR W A l := by
  obtain ⟨A, N, c, f, rfl, h1, h2, h3, _⟩ := open_rows (0, 0) rowL (s := 2) Tryd.underlying56 (by kernel_rfl) (by decide) rowL_len (fun n cs y h => row_of h) hv h
  have e : ((List.range N).map f).length = N := by simp
  exact ⟨A, c, (List.range N).map f, by rw [e], by rw [e]; exact h1, by rw [e]; exact h2, isl_of h3⟩

set_option maxRecDepth 100000 in
/-- .. with the numbers' bounds. -/
theorem row_ofB {n : Nat} {cs : List Value} {y : DataW H × List MemPlace} (h : DataW.trod enc Tryd.prog W b sp hd n 83 cs = some y) : ∃ x : RB, cs = rowL x.1 := by
  obtain ⟨xs, m, _, _, hlen, hl, hf⟩ := DataW.trod_struct Tryd.underlying83 h
  rw [show Tryd.prog.cellsOf 83 = 2 by kernel_rfl] at hlen
  have g : ∀ j, j < 2 → ∃ y, xs[j]? = some y := fun j hj => ⟨_, List.getElem?_eq_getElem (by rw [hl]; exact hj)⟩
  have q0 : DataW.trod enc Tryd.prog W b sp hd m 22 ((cs.drop 0).take (Tryd.prog.cellsOf 22)) = xs[0]? := hf 0 _ rfl
  have q1 : DataW.trod enc Tryd.prog W b sp hd m 22 ((cs.drop 1).take (Tryd.prog.cellsOf 22)) = xs[1]? := hf 1 _ rfl
  obtain ⟨k0, h0, w0⟩ := word_of Tryd.underlying22 (by kernel_rfl) (g 0 (by omega)) q0
  obtain ⟨k1, h1, w1⟩ := word_of Tryd.underlying22 (by kernel_rfl) (g 1 (by omega)) q1
  obtain ⟨n0, rfl, b0⟩ := u64_nat w0
  obtain ⟨n1, rfl, b1⟩ := u64_nat w1
  refine ⟨⟨(n0, n1), b0, b1⟩, ?_⟩
  match cs, hlen with
  | [a, c], _ =>
    simp at h0 h1
    rw [h0, h1]; rfl

set_option maxRecDepth 100000 in
theorem open_tabB {v : Value} {d : DataW H} {p : List MemPlace} (hv : Value.okWide Tryd.prog W r base 56 v) (h : DataW.Trod enc Tryd.prog W b (fun _ => true) hd 56 v d p) :
    ∃ A c, ∃ l : List R, (∀ x ∈ l, x.1 < 18446744073709551616 ∧ x.2 < 18446744073709551616) ∧ v = .slice A l.length c ∧ (l.length ≤ c ∧ c ≤ 9223372036854775807) ∧ (A = none → l.length = 0 ∧ c = 0) ∧ IsR W A l := by
  obtain ⟨A, N, c, f, rfl, h1, h2, h3, _⟩ := open_rows (⟨(0, 0), by decide, by decide⟩ : RB) (fun x : RB => rowL x.1) (s := 2) Tryd.underlying56 (by kernel_rfl) (by decide) (fun x => rowL_len x.1) (fun n cs y h => row_ofB h) hv h
  have e : ((List.range N).map fun i => (f i).1).length = N := by simp
  exact ⟨A, c, (List.range N).map fun i => (f i).1, fun x hx => by obtain ⟨i, _, rfl⟩ := List.mem_map.1 hx; exact (f i).2, by rw [e], by rw [e]; exact h1, by rw [e]; exact h2, isl_of (f := fun i => (f i).1) h3⟩

abbrev OW := {o : O // Wf o}
set_option maxRecDepth 100000 in
theorem opc_len (o : OW) : (opc o).length = 4 := rfl
set_option maxRecDepth 100000 in
theorem open_ops {v : Value} {d : DataW H} {p : List MemPlace} (hv : Value.okWide Tryd.prog W r base 54 v) (h : DataW.Trod enc Tryd.prog W b (fun _ => true) hd 54 v d p) :
    ∃ A c, ∃ l : List OW, v = .slice A l.length c ∧ (A = none → l.length = 0 ∧ c = 0) ∧ IsL W A 4 opc l := by
  obtain ⟨A, N, c, f, rfl, h1, h2, h3, _⟩ := open_rows (⟨⟨0, 0, 0, 0⟩, by unfold Wf; decide⟩ : OW) opc (s := 4) Tryd.underlying54 (by kernel_rfl) (by decide) opc_len (fun n cs y h => op_of h) hv h
  have e : ((List.range N).map f).length = N := by simp
  exact ⟨A, c, (List.range N).map f, by rw [e], by rw [e]; exact h2, isl_of h3⟩
end
end Go.Proofs.YtljhcegkekdjgaaDoor
