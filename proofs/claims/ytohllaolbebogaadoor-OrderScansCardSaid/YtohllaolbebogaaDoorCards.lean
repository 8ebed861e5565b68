/-
  DERIVED. GIVEN WITH THE SEED: THE CARDS: each row of YtohllaolbebogaaDoorRows.lean that lists a variable, with what it lists TIED to the program's text (the seventh form; the later family's looks); each row that meets fmt, with fmt's text TOLD by the authors' own Lean function (tested against real Go, not proved from fmt's source: count such statements apart). THE CARD IS WHAT COUNTS. Prove the row's statement (the work); the ties are given (YtohllaolbebogaaDoorTie.lean); close each card by the builder's one call (the guide's Derived/Test/ToyasCard.lean, 'card_holds'). Laid BY PROGRAM, IN A SANDBOX (cutbox-door.mjs). By AI agents, Wed Nov 11 2026. No macro, syntax, notation, axiom, sorry.
-/
import Derived.Test.YtohllaolbebogaaDoorRows
import GoSem.ClaimSeven
namespace Go.Proofs.YtohllaolbebogaaDoor
namespace Rows

/-- THE TIED CARD OF 'basculelaw07.OrderNames'. -/
def orderNamesCard : Claim7 := { stood := { row := orderNamesRow, standIns := [], harness := (true, "4de31c1f4004523ef2cddc79abdefe915d1159ff710d6c059d89b93468efec59"), looks := false }, kinds := [], alts := [], laidByText := true, laidKinds := [.data], laidTests := true, laidLooks := .later }
def OrderNamesCardSaid : Prop := Claim7.holds Tryd.pinned (.plain (OpenSpec.ofChange orderNamesSpec)) orderNamesCard

/-- THE TIED CARD OF 'basculelaw07.OrderDoes'. -/
def orderDoesCard : Claim7 := { stood := { row := orderDoesRow, standIns := [], harness := (true, "4de31c1f4004523ef2cddc79abdefe915d1159ff710d6c059d89b93468efec59"), looks := false }, kinds := [], alts := [], laidByText := true, laidKinds := [.data], laidTests := true, laidLooks := .later }
def OrderDoesCardSaid : Prop := Claim7.holds Tryd.pinned (.plain (OpenSpec.ofChange orderDoesSpec)) orderDoesCard

/-- THE TIED CARD OF 'basculelaw07.OrderRuns'. -/
def orderRunsCard : Claim7 := { stood := { row := orderRunsRow, standIns := [], harness := (true, "4de31c1f4004523ef2cddc79abdefe915d1159ff710d6c059d89b93468efec59"), looks := false }, kinds := [], alts := [], laidByText := true, laidKinds := [.data], laidTests := true, laidLooks := .later }
def OrderRunsCardSaid : Prop := Claim7.holds Tryd.pinned (.plain (OpenSpec.ofChange orderRunsSpec)) orderRunsCard

/-- THE TIED CARD OF 'basculelaw07.OrderStays'. -/
def orderStaysCard : Claim7 := { stood := { row := orderStaysRow, standIns := [], harness := (true, "4de31c1f4004523ef2cddc79abdefe915d1159ff710d6c059d89b93468efec59"), looks := false }, kinds := [], alts := [], laidByText := true, laidKinds := [.data], laidTests := true, laidLooks := .later }
def OrderStaysCardSaid : Prop := Claim7.holds Tryd.pinned (.plain (OpenSpec.ofChange orderStaysSpec)) orderStaysCard

/-- THE TIED CARD OF 'basculelaw07.OrderGets'. -/
def orderGetsCard : Claim7 := { stood := { row := orderGetsRow, standIns := [], harness := (true, "4de31c1f4004523ef2cddc79abdefe915d1159ff710d6c059d89b93468efec59"), looks := false }, kinds := [], alts := [], laidByText := true, laidKinds := [.data], laidTests := true, laidLooks := .later }
def OrderGetsCardSaid : Prop := Claim7.holds Tryd.pinned (.plain (OpenSpec.ofChange orderGetsSpec)) orderGetsCard

/-- THE TIED CARD OF 'basculelaw07.OrderScans'. -/
def orderScansCard : Claim7 := { stood := { row := orderScansRow, standIns := [], harness := (true, "4de31c1f4004523ef2cddc79abdefe915d1159ff710d6c059d89b93468efec59"), looks := false }, kinds := [], alts := [], laidByText := true, laidKinds := [.data], laidTests := true, laidLooks := .later }
def OrderScansCardSaid : Prop := Claim7.holds Tryd.pinned (.plain (OpenSpec.ofChange orderScansSpec)) orderScansCard

/-- THE TIED CARD OF 'basculelaw07.OrderFloors'. -/
def orderFloorsCard : Claim7 := { stood := { row := orderFloorsRow, standIns := [], harness := (true, "4de31c1f4004523ef2cddc79abdefe915d1159ff710d6c059d89b93468efec59"), looks := false }, kinds := [], alts := [], laidByText := true, laidKinds := [.data], laidTests := true, laidLooks := .later }
def OrderFloorsCardSaid : Prop := Claim7.holds Tryd.pinned (.plain (OpenSpec.ofChange orderFloorsSpec)) orderFloorsCard

/-- THE SECOND FORM's CARD OF 'basculelaw07.OrderNames'. -/
def orderNamesUptoCard : Claim7 := { stood := { row := orderNamesUptoRow, standIns := [], harness := (true, "4de31c1f4004523ef2cddc79abdefe915d1159ff710d6c059d89b93468efec59"), looks := false }, kinds := [], alts := [], laidByText := true, laidKinds := [.data], laidTests := true, laidLooks := .later }
def OrderNamesUptoCardSaid : Prop := Claim7.holds Tryd.pinned (.plain (OpenSpec.upto orderNamesSpec)) orderNamesUptoCard

/-- THE SECOND FORM's CARD OF 'basculelaw07.OrderDoes'. -/
def orderDoesUptoCard : Claim7 := { stood := { row := orderDoesUptoRow, standIns := [], harness := (true, "4de31c1f4004523ef2cddc79abdefe915d1159ff710d6c059d89b93468efec59"), looks := false }, kinds := [], alts := [], laidByText := true, laidKinds := [.data], laidTests := true, laidLooks := .later }
def OrderDoesUptoCardSaid : Prop := Claim7.holds Tryd.pinned (.plain (OpenSpec.upto orderDoesSpec)) orderDoesUptoCard

/-- THE SECOND FORM's CARD OF 'basculelaw07.OrderRuns'. -/
def orderRunsUptoCard : Claim7 := { stood := { row := orderRunsUptoRow, standIns := [], harness := (true, "4de31c1f4004523ef2cddc79abdefe915d1159ff710d6c059d89b93468efec59"), looks := false }, kinds := [], alts := [], laidByText := true, laidKinds := [.data], laidTests := true, laidLooks := .later }
def OrderRunsUptoCardSaid : Prop := Claim7.holds Tryd.pinned (.plain (OpenSpec.upto orderRunsSpec)) orderRunsUptoCard

/-- THE SECOND FORM's CARD OF 'basculelaw07.OrderStays'. -/
def orderStaysUptoCard : Claim7 := { stood := { row := orderStaysUptoRow, standIns := [], harness := (true, "4de31c1f4004523ef2cddc79abdefe915d1159ff710d6c059d89b93468efec59"), looks := false }, kinds := [], alts := [], laidByText := true, laidKinds := [.data], laidTests := true, laidLooks := .later }
def OrderStaysUptoCardSaid : Prop := Claim7.holds Tryd.pinned (.plain (OpenSpec.upto orderStaysSpec)) orderStaysUptoCard

/-- THE SECOND FORM's CARD OF 'basculelaw07.OrderGets'. -/
def orderGetsUptoCard : Claim7 := { stood := { row := orderGetsUptoRow, standIns := [], harness := (true, "4de31c1f4004523ef2cddc79abdefe915d1159ff710d6c059d89b93468efec59"), looks := false }, kinds := [], alts := [], laidByText := true, laidKinds := [.data], laidTests := true, laidLooks := .later }
def OrderGetsUptoCardSaid : Prop := Claim7.holds Tryd.pinned (.plain (OpenSpec.upto orderGetsSpec)) orderGetsUptoCard

/-- THE SECOND FORM's CARD OF 'basculelaw07.OrderScans'. -/
def orderScansUptoCard : Claim7 := { stood := { row := orderScansUptoRow, standIns := [], harness := (true, "4de31c1f4004523ef2cddc79abdefe915d1159ff710d6c059d89b93468efec59"), looks := false }, kinds := [], alts := [], laidByText := true, laidKinds := [.data], laidTests := true, laidLooks := .later }
def OrderScansUptoCardSaid : Prop := Claim7.holds Tryd.pinned (.plain (OpenSpec.upto orderScansSpec)) orderScansUptoCard

/-- THE SECOND FORM's CARD OF 'basculelaw07.OrderFloors'. -/
def orderFloorsUptoCard : Claim7 := { stood := { row := orderFloorsUptoRow, standIns := [], harness := (true, "4de31c1f4004523ef2cddc79abdefe915d1159ff710d6c059d89b93468efec59"), looks := false }, kinds := [], alts := [], laidByText := true, laidKinds := [.data], laidTests := true, laidLooks := .later }
def OrderFloorsUptoCardSaid : Prop := Claim7.holds Tryd.pinned (.plain (OpenSpec.upto orderFloorsSpec)) orderFloorsUptoCard
end Rows
end Go.Proofs.YtohllaolbebogaaDoor
