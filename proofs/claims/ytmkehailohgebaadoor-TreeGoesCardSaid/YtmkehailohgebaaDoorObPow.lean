/- What the rows' condition says of package rank's table of powers and package op's table of objects. -/
import Derived.Test.YtmkehailohgebaaDoorGTab
import Derived.Test.YtmkehailohgebaaDoorGRr
namespace Go.Proofs.YtmkehailohgebaaDoor
open Go.ChangeShapes Go.WideShapes Go.ChangeAt Go.RowKit Opn

/-- What the rows list. -/
abbrev laidT : List (String × DataW Unit) := [("bascule/rank.powers", Rows.laid_bascule_rank_powers), ("bascule/op.objects", Rows.laid_bascule_op_objects)]

theorem gPowers : Tryd.prog.globalNamed "bascule/rank.powers" = some 1 := by kernel_rfl
theorem tPowers : (Tryd.prog.globals[1]?).map (·.type) = some 172 := by kernel_rfl
theorem cInt : Tryd.prog.cellsOf 3 = 1 := by kernel_rfl
theorem cRow : Tryd.prog.cellsOf 171 = 5 := by kernel_rfl

theorem of_laidT {W : World} (h : laidMetH Tryd.prog laidT W) : Obs W ∧ Pow W := by
  rw [MakeChecks.laidMetH_plain _ _ _ (by kernel_rfl)] at h
  obtain ⟨ps, ⟨g0, t0, cs0, f0, p0, q0, hg0, ht0, hv0, hd0, ⟨g1, t1, cs1, f1, p1, q1, hg1, ht1, hv1, hd1, _⟩, _⟩, _⟩ := h
  constructor
  · obtain rfl := Option.some.inj (gObjects.symm.trans hg1)
    obtain rfl := Option.some.inj (tObjects.symm.trans ht1)
    have key := ints_row Tryd.underlying162 Tryd.underlying5 cByte hd1 [0, 1, 1, 1, 2, 2, 2, 2, 2, 3, 3, 3, 4, 4, 4] rfl
    intro j hj
    have hc := World.var?_cell hg1 hv1 j
    rw [hc]
    have hk : ∀ i : Fin 15, ([0, 1, 1, 1, 2, 2, 2, 2, 2, 3, 3, 3, 4, 4, 4] : List Int)[i.val]? = some ((objAt i.val : Nat) : Int) := by decide +kernel
    have := key j _ (hk ⟨j, hj⟩)
    rw [← Array.getElem?_toList, this]
  · obtain rfl := Option.some.inj (gPowers.symm.trans hg0)
    obtain rfl := Option.some.inj (tPowers.symm.trans ht0)
    have key := ints_rows Tryd.underlying172 Tryd.underlying171 Tryd.underlying3 cInt cRow hd0 [[1, 2, 4, 8, 16], [1, 3, 9, 27, 81], [1, 4, 16, 64, 256]] rfl
    intro j hj
    have hc := World.var?_cell hg0 hv0 j
    rw [hc]
    have hk : ∀ i : Fin 15, ∃ r z, ([[1, 2, 4, 8, 16], [1, 3, 9, 27, 81], [1, 4, 16, 64, 256]] : List (List Int))[i.val / 5]? = some r ∧ r[i.val % 5]? = some z ∧ z = Rk.powAt i.val := fun i => by
      have : ∀ i : Fin 15, (([[1, 2, 4, 8, 16], [1, 3, 9, 27, 81], [1, 4, 16, 64, 256]] : List (List Int))[i.val / 5]?.bind fun r => r[i.val % 5]?) = some (Rk.powAt i.val) := by decide +kernel
      have := this i
      rw [Option.bind_eq_some_iff] at this
      obtain ⟨r, h1, h2⟩ := this
      exact ⟨r, _, h1, h2, rfl⟩
    obtain ⟨r, z, h1, h2, h3⟩ := hk ⟨j, hj⟩
    have := key _ _ r z h1 h2 (Nat.mod_lt _ (by decide))
    simp only at this
    rw [Nat.div_add_mod' j 5] at this
    rw [← Array.getElem?_toList, this, h3]
theorem door_metT (os : Os) (args : Array Value) : laidMetH Tryd.prog laidT ((World.doorLaid Tryd.prog 400 os).forCall (fun _ _ => 0) ⟨#[], args, []⟩).memory :=
  laidMetH_of_parts3 (fuel := 8) (laidMet_of_run' 8 (by kernel_rfl) (by kernel_rfl)) (by kernel_rfl) (by kernel_rfl)
end Go.Proofs.YtmkehailohgebaaDoor
