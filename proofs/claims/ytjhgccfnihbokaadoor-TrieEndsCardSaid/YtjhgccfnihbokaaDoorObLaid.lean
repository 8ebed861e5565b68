/- What the rows' condition says of package op's table of objects. -/
import Derived.Test.YtjhgccfnihbokaaDoorTable
import Derived.Test.YtjhgccfnihbokaaDoorGOp
import Derived.Test.YtjhgccfnihbokaaDoorTie
import Derived.Test.YtjhgccfnihbokaaDoorCards
import Derived.SevenTiedAt
namespace Go.Proofs.YtjhgccfnihbokaaDoor
open Go.ChangeShapes Go.WideShapes Go.ChangeAt Go.RowKit Opn

/-- What the rows list. -/
abbrev laidL : List (String × DataW Unit) := [("bascule/op.objects", Rows.laid_bascule_op_objects)]

theorem gObjects : Tryd.prog.globalNamed "bascule/op.objects" = some 0 := by kernel_rfl
theorem tObjects : (Tryd.prog.globals[0]?).map (·.type) = some 126 := by kernel_rfl
theorem cByte : Tryd.prog.cellsOf 5 = 1 := by kernel_rfl

theorem of_laid {W : World} (h : laidMetH Tryd.prog laidL W) : Obs W := by
  rw [MakeChecks.laidMetH_plain _ _ _ (by kernel_rfl)] at h
  obtain ⟨ps, ⟨g0, t0, cs0, f0, p0, q0, hg0, ht0, hv0, hd0, _⟩, _⟩ := h
  obtain rfl := Option.some.inj (gObjects.symm.trans hg0)
  obtain rfl := Option.some.inj (tObjects.symm.trans ht0)
  have key := ints_row Tryd.underlying126 Tryd.underlying5 cByte hd0 [0, 1, 1, 1, 2, 2, 2, 2, 2, 3, 3, 3, 4, 4, 4] rfl
  intro j hj
  have hc := World.var?_cell hg0 hv0 j
  rw [hc]
  have hk : ∀ i : Fin 15, ([0, 1, 1, 1, 2, 2, 2, 2, 2, 3, 3, 3, 4, 4, 4] : List Int)[i.val]? = some ((objAt i.val : Nat) : Int) := by decide +kernel
  have := key j _ (hk ⟨j, hj⟩)
  rw [← Array.getElem?_toList, this]

theorem door_met (os : Os) (args : Array Value) : laidMetH Tryd.prog laidL ((World.doorLaid Tryd.prog 400 os).forCall (fun _ _ => 0) ⟨#[], args, []⟩).memory :=
  laidMetH_of_parts3 (fuel := 8) (laidMet_of_run' 8 (by kernel_rfl) (by kernel_rfl)) (by kernel_rfl) (by kernel_rfl)
theorem Obs.keep {W X : World} (h : Obs W) (k : W.heap.size ≤ X.heap.size ∧ ∀ b j, b < W.heap.size → X.cell? ⟨b, j, none⟩ = W.cell? ⟨b, j, none⟩) : Obs X := fun j hj =>
  (k.2 _ _ (World.block_lt_of_cell? _ _ (h j hj))).trans (h j hj)
end Go.Proofs.YtjhgccfnihbokaaDoor
