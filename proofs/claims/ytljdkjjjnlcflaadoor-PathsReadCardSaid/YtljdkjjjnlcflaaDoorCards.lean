/-
  DERIVED. GIVEN WITH THE SEED: THE CARDS: each row of YtljdkjjjnlcflaaDoorRows.lean that lists a variable, with what it lists TIED to the program's text (the seventh form; the later family's looks); each row that meets fmt, with fmt's text TOLD by the authors' own Lean function (tested against real Go, not proved from fmt's source: count such statements apart). THE CARD IS WHAT COUNTS. Prove the row's statement (the work); the ties are given (YtljdkjjjnlcflaaDoorTie.lean); close each card by the builder's one call (the guide's Derived/Test/ToyasCard.lean, 'card_holds'). Laid BY PROGRAM, IN A SANDBOX (cutbox-door.mjs). By AI agents, Wed Nov 11 2026. No macro, syntax, notation, axiom, sorry.
-/
import Derived.Test.YtljdkjjjnlcflaaDoorRows
import GoSem.ClaimSeven
namespace Go.Proofs.YtljdkjjjnlcflaaDoor
namespace Rows

/-- THE TIED CARD OF 'basculelaw09.PathsNames'. -/
def pathsNamesCard : Claim7 := { stood := { row := pathsNamesRow, standIns := [], harness := (true, "96ac06ed9408c0e7a9cea2ff4cba3fb656e6a6324a87bd536efd035d47362b01"), looks := false }, kinds := [], alts := [], laidByText := true, laidKinds := [.data], laidTests := true, laidLooks := .later }
def PathsNamesCardSaid : Prop := Claim7.holds Tryd.pinned (.plain (OpenSpec.ofChange pathsNamesSpec)) pathsNamesCard

/-- THE TIED CARD OF 'basculelaw09.PathsDo'. -/
def pathsDoCard : Claim7 := { stood := { row := pathsDoRow, standIns := [], harness := (true, "96ac06ed9408c0e7a9cea2ff4cba3fb656e6a6324a87bd536efd035d47362b01"), looks := false }, kinds := [], alts := [], laidByText := true, laidKinds := [.data], laidTests := true, laidLooks := .later }
def PathsDoCardSaid : Prop := Claim7.holds Tryd.pinned (.plain (OpenSpec.ofChange pathsDoSpec)) pathsDoCard

/-- THE TIED CARD OF 'basculelaw09.PathsRun'. -/
def pathsRunCard : Claim7 := { stood := { row := pathsRunRow, standIns := [], harness := (true, "96ac06ed9408c0e7a9cea2ff4cba3fb656e6a6324a87bd536efd035d47362b01"), looks := false }, kinds := [], alts := [], laidByText := true, laidKinds := [.data], laidTests := true, laidLooks := .later }
def PathsRunCardSaid : Prop := Claim7.holds Tryd.pinned (.plain (OpenSpec.ofChange pathsRunSpec)) pathsRunCard

/-- THE TIED CARD OF 'basculelaw09.PathsStay'. -/
def pathsStayCard : Claim7 := { stood := { row := pathsStayRow, standIns := [], harness := (true, "96ac06ed9408c0e7a9cea2ff4cba3fb656e6a6324a87bd536efd035d47362b01"), looks := false }, kinds := [], alts := [], laidByText := true, laidKinds := [.data], laidTests := true, laidLooks := .later }
def PathsStayCardSaid : Prop := Claim7.holds Tryd.pinned (.plain (OpenSpec.ofChange pathsStaySpec)) pathsStayCard

/-- THE TIED CARD OF 'basculelaw09.PathsRead'. -/
def pathsReadCard : Claim7 := { stood := { row := pathsReadRow, standIns := [], harness := (true, "96ac06ed9408c0e7a9cea2ff4cba3fb656e6a6324a87bd536efd035d47362b01"), looks := false }, kinds := [], alts := [], laidByText := true, laidKinds := [.data], laidTests := true, laidLooks := .later }
def PathsReadCardSaid : Prop := Claim7.holds Tryd.pinned (.plain (OpenSpec.ofChange pathsReadSpec)) pathsReadCard

/-- THE TIED CARD OF 'basculelaw09.PathsTake'. -/
def pathsTakeCard : Claim7 := { stood := { row := pathsTakeRow, standIns := [], harness := (true, "96ac06ed9408c0e7a9cea2ff4cba3fb656e6a6324a87bd536efd035d47362b01"), looks := false }, kinds := [], alts := [], laidByText := true, laidKinds := [.data], laidTests := true, laidLooks := .later }
def PathsTakeCardSaid : Prop := Claim7.holds Tryd.pinned (.plain (OpenSpec.ofChange pathsTakeSpec)) pathsTakeCard

/-- THE SECOND FORM's CARD OF 'basculelaw09.PathsNames'. -/
def pathsNamesUptoCard : Claim7 := { stood := { row := pathsNamesUptoRow, standIns := [], harness := (true, "96ac06ed9408c0e7a9cea2ff4cba3fb656e6a6324a87bd536efd035d47362b01"), looks := false }, kinds := [], alts := [], laidByText := true, laidKinds := [.data], laidTests := true, laidLooks := .later }
def PathsNamesUptoCardSaid : Prop := Claim7.holds Tryd.pinned (.plain (OpenSpec.upto pathsNamesSpec)) pathsNamesUptoCard

/-- THE SECOND FORM's CARD OF 'basculelaw09.PathsDo'. -/
def pathsDoUptoCard : Claim7 := { stood := { row := pathsDoUptoRow, standIns := [], harness := (true, "96ac06ed9408c0e7a9cea2ff4cba3fb656e6a6324a87bd536efd035d47362b01"), looks := false }, kinds := [], alts := [], laidByText := true, laidKinds := [.data], laidTests := true, laidLooks := .later }
def PathsDoUptoCardSaid : Prop := Claim7.holds Tryd.pinned (.plain (OpenSpec.upto pathsDoSpec)) pathsDoUptoCard

/-- THE SECOND FORM's CARD OF 'basculelaw09.PathsRun'. -/
def pathsRunUptoCard : Claim7 := { stood := { row := pathsRunUptoRow, standIns := [], harness := (true, "96ac06ed9408c0e7a9cea2ff4cba3fb656e6a6324a87bd536efd035d47362b01"), looks := false }, kinds := [], alts := [], laidByText := true, laidKinds := [.data], laidTests := true, laidLooks := .later }
def PathsRunUptoCardSaid : Prop := Claim7.holds Tryd.pinned (.plain (OpenSpec.upto pathsRunSpec)) pathsRunUptoCard

/-- THE SECOND FORM's CARD OF 'basculelaw09.PathsStay'. -/
def pathsStayUptoCard : Claim7 := { stood := { row := pathsStayUptoRow, standIns := [], harness := (true, "96ac06ed9408c0e7a9cea2ff4cba3fb656e6a6324a87bd536efd035d47362b01"), looks := false }, kinds := [], alts := [], laidByText := true, laidKinds := [.data], laidTests := true, laidLooks := .later }
def PathsStayUptoCardSaid : Prop := Claim7.holds Tryd.pinned (.plain (OpenSpec.upto pathsStaySpec)) pathsStayUptoCard

/-- THE SECOND FORM's CARD OF 'basculelaw09.PathsRead'. -/
def pathsReadUptoCard : Claim7 := { stood := { row := pathsReadUptoRow, standIns := [], harness := (true, "96ac06ed9408c0e7a9cea2ff4cba3fb656e6a6324a87bd536efd035d47362b01"), looks := false }, kinds := [], alts := [], laidByText := true, laidKinds := [.data], laidTests := true, laidLooks := .later }
def PathsReadUptoCardSaid : Prop := Claim7.holds Tryd.pinned (.plain (OpenSpec.upto pathsReadSpec)) pathsReadUptoCard

/-- THE SECOND FORM's CARD OF 'basculelaw09.PathsTake'. -/
def pathsTakeUptoCard : Claim7 := { stood := { row := pathsTakeUptoRow, standIns := [], harness := (true, "96ac06ed9408c0e7a9cea2ff4cba3fb656e6a6324a87bd536efd035d47362b01"), looks := false }, kinds := [], alts := [], laidByText := true, laidKinds := [.data], laidTests := true, laidLooks := .later }
def PathsTakeUptoCardSaid : Prop := Claim7.holds Tryd.pinned (.plain (OpenSpec.upto pathsTakeSpec)) pathsTakeUptoCard
end Rows
end Go.Proofs.YtljdkjjjnlcflaaDoor
