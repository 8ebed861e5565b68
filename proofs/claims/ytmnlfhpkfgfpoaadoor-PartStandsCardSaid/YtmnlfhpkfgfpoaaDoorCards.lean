/-
  DERIVED. GIVEN WITH THE SEED: THE CARDS: each row of YtmnlfhpkfgfpoaaDoorRows.lean that lists a variable, with what it lists TIED to the program's text (the seventh form; the later family's looks); each row that meets fmt, with fmt's text TOLD by the authors' own Lean function (tested against real Go, not proved from fmt's source: count such statements apart). THE CARD IS WHAT COUNTS. Prove the row's statement (the work); the ties are given (YtmnlfhpkfgfpoaaDoorTie.lean); close each card by the builder's one call (the guide's Derived/Test/ToyasCard.lean, 'card_holds'). Laid BY PROGRAM, IN A SANDBOX (cutbox-door.mjs). By AI agents, Wed Nov 11 2026. No macro, syntax, notation, axiom, sorry.
-/
import Derived.Test.YtmnlfhpkfgfpoaaDoorRows
import GoSem.ClaimSeven
namespace Go.Proofs.YtmnlfhpkfgfpoaaDoor
namespace Rows

/-- THE TIED CARD OF 'basculelaw04.PartNames'. -/
def partNamesCard : Claim7 := { stood := { row := partNamesRow, standIns := [], harness := (true, "2ccf2de1849617b5e765308792c030c6849f204c5a4e4cc58ed08124b63b0a16"), looks := false }, kinds := [], alts := [], laidByText := true, laidKinds := [.data], laidTests := true, laidLooks := .later }
def PartNamesCardSaid : Prop := Claim7.holds Tryd.pinned (.plain (OpenSpec.ofChange partNamesSpec)) partNamesCard

/-- THE TIED CARD OF 'basculelaw04.PartSays'. -/
def partSaysCard : Claim7 := { stood := { row := partSaysRow, standIns := [], harness := (true, "2ccf2de1849617b5e765308792c030c6849f204c5a4e4cc58ed08124b63b0a16"), looks := false }, kinds := [], alts := [], laidByText := true, laidKinds := [.data], laidTests := true, laidLooks := .later }
def PartSaysCardSaid : Prop := Claim7.holds Tryd.pinned (.plain (OpenSpec.ofChange partSaysSpec)) partSaysCard

/-- THE TIED CARD OF 'basculelaw04.PartStands'. -/
def partStandsCard : Claim7 := { stood := { row := partStandsRow, standIns := [], harness := (true, "2ccf2de1849617b5e765308792c030c6849f204c5a4e4cc58ed08124b63b0a16"), looks := false }, kinds := [], alts := [], laidByText := true, laidKinds := [.data], laidTests := true, laidLooks := .later }
def PartStandsCardSaid : Prop := Claim7.holds Tryd.pinned (.plain (OpenSpec.ofChange partStandsSpec)) partStandsCard

/-- THE TIED CARD OF 'basculelaw04.PartOne'. -/
def partOneCard : Claim7 := { stood := { row := partOneRow, standIns := [], harness := (true, "2ccf2de1849617b5e765308792c030c6849f204c5a4e4cc58ed08124b63b0a16"), looks := false }, kinds := [], alts := [], laidByText := true, laidKinds := [.data], laidTests := true, laidLooks := .later }
def PartOneCardSaid : Prop := Claim7.holds Tryd.pinned (.plain (OpenSpec.ofChange partOneSpec)) partOneCard

/-- THE TIED CARD OF 'basculelaw04.PartBack'. -/
def partBackCard : Claim7 := { stood := { row := partBackRow, standIns := [], harness := (true, "2ccf2de1849617b5e765308792c030c6849f204c5a4e4cc58ed08124b63b0a16"), looks := false }, kinds := [], alts := [], laidByText := true, laidKinds := [.data], laidTests := true, laidLooks := .later }
def PartBackCardSaid : Prop := Claim7.holds Tryd.pinned (.plain (OpenSpec.ofChange partBackSpec)) partBackCard

/-- THE TIED CARD OF 'basculelaw04.PartFresh'. -/
def partFreshCard : Claim7 := { stood := { row := partFreshRow, standIns := [], harness := (true, "2ccf2de1849617b5e765308792c030c6849f204c5a4e4cc58ed08124b63b0a16"), looks := false }, kinds := [], alts := [], laidByText := true, laidKinds := [.data], laidTests := true, laidLooks := .later }
def PartFreshCardSaid : Prop := Claim7.holds Tryd.pinned (.plain (OpenSpec.ofChange partFreshSpec)) partFreshCard

/-- THE SECOND FORM's CARD OF 'basculelaw04.PartNames'. -/
def partNamesUptoCard : Claim7 := { stood := { row := partNamesUptoRow, standIns := [], harness := (true, "2ccf2de1849617b5e765308792c030c6849f204c5a4e4cc58ed08124b63b0a16"), looks := false }, kinds := [], alts := [], laidByText := true, laidKinds := [.data], laidTests := true, laidLooks := .later }
def PartNamesUptoCardSaid : Prop := Claim7.holds Tryd.pinned (.plain (OpenSpec.upto partNamesSpec)) partNamesUptoCard

/-- THE SECOND FORM's CARD OF 'basculelaw04.PartSays'. -/
def partSaysUptoCard : Claim7 := { stood := { row := partSaysUptoRow, standIns := [], harness := (true, "2ccf2de1849617b5e765308792c030c6849f204c5a4e4cc58ed08124b63b0a16"), looks := false }, kinds := [], alts := [], laidByText := true, laidKinds := [.data], laidTests := true, laidLooks := .later }
def PartSaysUptoCardSaid : Prop := Claim7.holds Tryd.pinned (.plain (OpenSpec.upto partSaysSpec)) partSaysUptoCard

/-- THE SECOND FORM's CARD OF 'basculelaw04.PartStands'. -/
def partStandsUptoCard : Claim7 := { stood := { row := partStandsUptoRow, standIns := [], harness := (true, "2ccf2de1849617b5e765308792c030c6849f204c5a4e4cc58ed08124b63b0a16"), looks := false }, kinds := [], alts := [], laidByText := true, laidKinds := [.data], laidTests := true, laidLooks := .later }
def PartStandsUptoCardSaid : Prop := Claim7.holds Tryd.pinned (.plain (OpenSpec.upto partStandsSpec)) partStandsUptoCard

/-- THE SECOND FORM's CARD OF 'basculelaw04.PartOne'. -/
def partOneUptoCard : Claim7 := { stood := { row := partOneUptoRow, standIns := [], harness := (true, "2ccf2de1849617b5e765308792c030c6849f204c5a4e4cc58ed08124b63b0a16"), looks := false }, kinds := [], alts := [], laidByText := true, laidKinds := [.data], laidTests := true, laidLooks := .later }
def PartOneUptoCardSaid : Prop := Claim7.holds Tryd.pinned (.plain (OpenSpec.upto partOneSpec)) partOneUptoCard

/-- THE SECOND FORM's CARD OF 'basculelaw04.PartBack'. -/
def partBackUptoCard : Claim7 := { stood := { row := partBackUptoRow, standIns := [], harness := (true, "2ccf2de1849617b5e765308792c030c6849f204c5a4e4cc58ed08124b63b0a16"), looks := false }, kinds := [], alts := [], laidByText := true, laidKinds := [.data], laidTests := true, laidLooks := .later }
def PartBackUptoCardSaid : Prop := Claim7.holds Tryd.pinned (.plain (OpenSpec.upto partBackSpec)) partBackUptoCard

/-- THE SECOND FORM's CARD OF 'basculelaw04.PartFresh'. -/
def partFreshUptoCard : Claim7 := { stood := { row := partFreshUptoRow, standIns := [], harness := (true, "2ccf2de1849617b5e765308792c030c6849f204c5a4e4cc58ed08124b63b0a16"), looks := false }, kinds := [], alts := [], laidByText := true, laidKinds := [.data], laidTests := true, laidLooks := .later }
def PartFreshUptoCardSaid : Prop := Claim7.holds Tryd.pinned (.plain (OpenSpec.upto partFreshSpec)) partFreshUptoCard
end Rows
end Go.Proofs.YtmnlfhpkfgfpoaaDoor
