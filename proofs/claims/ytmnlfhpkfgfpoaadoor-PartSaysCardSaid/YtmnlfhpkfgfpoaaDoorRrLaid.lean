/- What the rows' condition says of package rank's table of powers. -/
import Derived.Test.YtmnlfhpkfgfpoaaDoorTable
import Derived.Test.YtmnlfhpkfgfpoaaDoorRrItems
import Derived.Test.YtmnlfhpkfgfpoaaDoorTie
import Derived.Test.YtmnlfhpkfgfpoaaDoorCards
import Derived.SevenTiedAt
namespace Go.Proofs.YtmnlfhpkfgfpoaaDoor
open Go.ChangeShapes Go.WideShapes Go.ChangeAt Go.RowKit

/-- What the rows list. -/
abbrev laidL : List (String × DataW Unit) := [("bascule/rank.powers", Rows.laid_bascule_rank_powers)]

theorem gPowers : Tryd.prog.globalNamed "bascule/rank.powers" = some 0 := by kernel_rfl
theorem tPowers : (Tryd.prog.globals[0]?).map (·.type) = some 87 := by kernel_rfl
theorem cInt : Tryd.prog.cellsOf 3 = 1 := by kernel_rfl
theorem cRow : Tryd.prog.cellsOf 86 = 5 := by kernel_rfl

theorem of_laid {W : World} (h : laidMetH Tryd.prog laidL W) : Pow W := by
  rw [MakeChecks.laidMetH_plain _ _ _ (by kernel_rfl)] at h
  obtain ⟨ps, ⟨g0, t0, cs0, f0, p0, q0, hg0, ht0, hv0, hd0, _⟩, _⟩ := h
  obtain rfl := Option.some.inj (gPowers.symm.trans hg0)
  obtain rfl := Option.some.inj (tPowers.symm.trans ht0)
  have key := ints_rows Tryd.underlying87 Tryd.underlying86 Tryd.underlying3 cInt cRow hd0 [[1, 2, 4, 8, 16], [1, 3, 9, 27, 81], [1, 4, 16, 64, 256]] rfl
  intro j hj
  have hc := World.var?_cell hg0 hv0 j
  rw [hc]
  have hk : ∀ i : Fin 15, ∃ r z, ([[1, 2, 4, 8, 16], [1, 3, 9, 27, 81], [1, 4, 16, 64, 256]] : List (List Int))[i.val / 5]? = some r ∧ r[i.val % 5]? = some z ∧ z = Rk.powAt i.val := fun i => by
    have : ∀ i : Fin 15, (([[1, 2, 4, 8, 16], [1, 3, 9, 27, 81], [1, 4, 16, 64, 256]] : List (List Int))[i.val / 5]?.bind fun r => r[i.val % 5]?) = some (Rk.powAt i.val) := by decide +kernel
    have := this i
    rw [Option.bind_eq_some_iff] at this
    obtain ⟨r, h1, h2⟩ := this
    exact ⟨r, _, h1, h2, rfl⟩
  obtain ⟨r, z, h1, h2, h3⟩ := hk ⟨j, hj⟩
  have := key _ _ r z h1 h2 (Nat.mod_lt _ (by decide))
  simp only at this
  rw [Nat.div_add_mod' j 5] at this
  rw [← Array.getElem?_toList, this, h3]

theorem door_met (os : Os) (args : Array Value) : laidMetH Tryd.prog laidL ((World.doorLaid Tryd.prog 400 os).forCall (fun _ _ => 0) ⟨#[], args, []⟩).memory :=
  laidMetH_of_parts3 (fuel := 8) (laidMet_of_run' 8 (by kernel_rfl) (by kernel_rfl)) (by kernel_rfl) (by kernel_rfl)
end Go.Proofs.YtmnlfhpkfgfpoaaDoor
