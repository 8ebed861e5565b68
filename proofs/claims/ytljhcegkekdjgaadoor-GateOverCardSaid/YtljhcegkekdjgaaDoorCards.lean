/-
  DERIVED. GIVEN WITH THE SEED: THE CARDS: each row of YtljhcegkekdjgaaDoorRows.lean that lists a variable, with what it lists TIED to the program's text (the seventh form; the later family's looks); each row that meets fmt, with fmt's text TOLD by the authors' own Lean function (tested against real Go, not proved from fmt's source: count such statements apart). THE CARD IS WHAT COUNTS. Prove the row's statement (the work); the ties are given (YtljhcegkekdjgaaDoorTie.lean); close each card by the builder's one call (the guide's Derived/Test/ToyasCard.lean, 'card_holds'). Laid BY PROGRAM, IN A SANDBOX (cutbox-door.mjs). By AI agents, Wed Nov 11 2026. No macro, syntax, notation, axiom, sorry.
-/
import Derived.Test.YtljhcegkekdjgaaDoorRows
import GoSem.ClaimSeven
namespace Go.Proofs.YtljhcegkekdjgaaDoor
namespace Rows

/-- THE TIED CARD OF 'basculelaw14.GateNames'. -/
def gateNamesCard : Claim7 := { stood := { row := gateNamesRow, standIns := [], harness := (true, "4d8f993726e7836b22bfb535eef0514f79d9514c5b75e4373ef58188db9c60b0"), looks := false }, kinds := [], alts := [], laidByText := true, laidKinds := [.data], laidTests := true, laidLooks := .later }
def GateNamesCardSaid : Prop := Claim7.holds Tryd.pinned (.plain (OpenSpec.ofChange gateNamesSpec)) gateNamesCard

/-- THE TIED CARD OF 'basculelaw14.GateActs'. -/
def gateActsCard : Claim7 := { stood := { row := gateActsRow, standIns := [], harness := (true, "4d8f993726e7836b22bfb535eef0514f79d9514c5b75e4373ef58188db9c60b0"), looks := false }, kinds := [], alts := [], laidByText := true, laidKinds := [.data], laidTests := true, laidLooks := .later }
def GateActsCardSaid : Prop := Claim7.holds Tryd.pinned (.plain (OpenSpec.ofChange gateActsSpec)) gateActsCard

/-- THE TIED CARD OF 'basculelaw14.GateGoes'. -/
def gateGoesCard : Claim7 := { stood := { row := gateGoesRow, standIns := [], harness := (true, "4d8f993726e7836b22bfb535eef0514f79d9514c5b75e4373ef58188db9c60b0"), looks := false }, kinds := [], alts := [], laidByText := true, laidKinds := [.data], laidTests := true, laidLooks := .later }
def GateGoesCardSaid : Prop := Claim7.holds Tryd.pinned (.plain (OpenSpec.ofChange gateGoesSpec)) gateGoesCard

/-- THE TIED CARD OF 'basculelaw14.GateEnds'. -/
def gateEndsCard : Claim7 := { stood := { row := gateEndsRow, standIns := [], harness := (true, "4d8f993726e7836b22bfb535eef0514f79d9514c5b75e4373ef58188db9c60b0"), looks := false }, kinds := [], alts := [], laidByText := true, laidKinds := [.data], laidTests := true, laidLooks := .later }
def GateEndsCardSaid : Prop := Claim7.holds Tryd.pinned (.plain (OpenSpec.ofChange gateEndsSpec)) gateEndsCard

/-- THE TIED CARD OF 'basculelaw14.GateMeans'. -/
def gateMeansCard : Claim7 := { stood := { row := gateMeansRow, standIns := [], harness := (true, "4d8f993726e7836b22bfb535eef0514f79d9514c5b75e4373ef58188db9c60b0"), looks := false }, kinds := [], alts := [], laidByText := true, laidKinds := [.data], laidTests := true, laidLooks := .later }
def GateMeansCardSaid : Prop := Claim7.holds Tryd.pinned (.plain (OpenSpec.ofChange gateMeansSpec)) gateMeansCard

/-- THE TIED CARD OF 'basculelaw14.GateOver'. -/
def gateOverCard : Claim7 := { stood := { row := gateOverRow, standIns := [], harness := (true, "4d8f993726e7836b22bfb535eef0514f79d9514c5b75e4373ef58188db9c60b0"), looks := false }, kinds := [], alts := [], laidByText := true, laidKinds := [.data], laidTests := true, laidLooks := .later }
def GateOverCardSaid : Prop := Claim7.holds Tryd.pinned (.plain (OpenSpec.ofChange gateOverSpec)) gateOverCard

/-- THE SECOND FORM's CARD OF 'basculelaw14.GateNames'. -/
def gateNamesUptoCard : Claim7 := { stood := { row := gateNamesUptoRow, standIns := [], harness := (true, "4d8f993726e7836b22bfb535eef0514f79d9514c5b75e4373ef58188db9c60b0"), looks := false }, kinds := [], alts := [], laidByText := true, laidKinds := [.data], laidTests := true, laidLooks := .later }
def GateNamesUptoCardSaid : Prop := Claim7.holds Tryd.pinned (.plain (OpenSpec.upto gateNamesSpec)) gateNamesUptoCard

/-- THE SECOND FORM's CARD OF 'basculelaw14.GateActs'. -/
def gateActsUptoCard : Claim7 := { stood := { row := gateActsUptoRow, standIns := [], harness := (true, "4d8f993726e7836b22bfb535eef0514f79d9514c5b75e4373ef58188db9c60b0"), looks := false }, kinds := [], alts := [], laidByText := true, laidKinds := [.data], laidTests := true, laidLooks := .later }
def GateActsUptoCardSaid : Prop := Claim7.holds Tryd.pinned (.plain (OpenSpec.upto gateActsSpec)) gateActsUptoCard

/-- THE SECOND FORM's CARD OF 'basculelaw14.GateGoes'. -/
def gateGoesUptoCard : Claim7 := { stood := { row := gateGoesUptoRow, standIns := [], harness := (true, "4d8f993726e7836b22bfb535eef0514f79d9514c5b75e4373ef58188db9c60b0"), looks := false }, kinds := [], alts := [], laidByText := true, laidKinds := [.data], laidTests := true, laidLooks := .later }
def GateGoesUptoCardSaid : Prop := Claim7.holds Tryd.pinned (.plain (OpenSpec.upto gateGoesSpec)) gateGoesUptoCard

/-- THE SECOND FORM's CARD OF 'basculelaw14.GateEnds'. -/
def gateEndsUptoCard : Claim7 := { stood := { row := gateEndsUptoRow, standIns := [], harness := (true, "4d8f993726e7836b22bfb535eef0514f79d9514c5b75e4373ef58188db9c60b0"), looks := false }, kinds := [], alts := [], laidByText := true, laidKinds := [.data], laidTests := true, laidLooks := .later }
def GateEndsUptoCardSaid : Prop := Claim7.holds Tryd.pinned (.plain (OpenSpec.upto gateEndsSpec)) gateEndsUptoCard

/-- THE SECOND FORM's CARD OF 'basculelaw14.GateMeans'. -/
def gateMeansUptoCard : Claim7 := { stood := { row := gateMeansUptoRow, standIns := [], harness := (true, "4d8f993726e7836b22bfb535eef0514f79d9514c5b75e4373ef58188db9c60b0"), looks := false }, kinds := [], alts := [], laidByText := true, laidKinds := [.data], laidTests := true, laidLooks := .later }
def GateMeansUptoCardSaid : Prop := Claim7.holds Tryd.pinned (.plain (OpenSpec.upto gateMeansSpec)) gateMeansUptoCard

/-- THE SECOND FORM's CARD OF 'basculelaw14.GateOver'. -/
def gateOverUptoCard : Claim7 := { stood := { row := gateOverUptoRow, standIns := [], harness := (true, "4d8f993726e7836b22bfb535eef0514f79d9514c5b75e4373ef58188db9c60b0"), looks := false }, kinds := [], alts := [], laidByText := true, laidKinds := [.data], laidTests := true, laidLooks := .later }
def GateOverUptoCardSaid : Prop := Claim7.holds Tryd.pinned (.plain (OpenSpec.upto gateOverSpec)) gateOverUptoCard
end Rows
end Go.Proofs.YtljhcegkekdjgaaDoor
