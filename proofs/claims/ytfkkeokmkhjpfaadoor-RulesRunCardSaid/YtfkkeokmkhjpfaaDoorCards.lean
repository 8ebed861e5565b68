/-
  DERIVED. GIVEN WITH THE SEED: THE CARDS: each row of YtfkkeokmkhjpfaaDoorRows.lean that lists a variable, with what it lists TIED to the program's text (the seventh form; the later family's looks); each row that meets fmt, with fmt's text TOLD by the authors' own Lean function (tested against real Go, not proved from fmt's source: count such statements apart). THE CARD IS WHAT COUNTS. Prove the row's statement (the work); the ties are given (YtfkkeokmkhjpfaaDoorTie.lean); close each card by the builder's one call (the guide's Derived/Test/ToyasCard.lean, 'card_holds'). Laid BY PROGRAM, IN A SANDBOX (cutbox-door.mjs). By AI agents, Wed Nov 11 2026. No macro, syntax, notation, axiom, sorry.
-/
import Derived.Test.YtfkkeokmkhjpfaaDoorRows
import GoSem.ClaimSeven
namespace Go.Proofs.YtfkkeokmkhjpfaaDoor
namespace Rows

/-- THE TIED CARD OF 'basculelaw08.RulesNames'. -/
def rulesNamesCard : Claim7 := { stood := { row := rulesNamesRow, standIns := [], harness := (true, "5db8316f841287c81486abaf0ed4f06c1b2765bfc9466459ad4c9b3413636ed7"), looks := false }, kinds := [], alts := [], laidByText := true, laidKinds := [.data], laidTests := true, laidLooks := .later }
def RulesNamesCardSaid : Prop := Claim7.holds Tryd.pinned (.plain (OpenSpec.ofChange rulesNamesSpec)) rulesNamesCard

/-- THE TIED CARD OF 'basculelaw08.RulesDo'. -/
def rulesDoCard : Claim7 := { stood := { row := rulesDoRow, standIns := [], harness := (true, "5db8316f841287c81486abaf0ed4f06c1b2765bfc9466459ad4c9b3413636ed7"), looks := false }, kinds := [], alts := [], laidByText := true, laidKinds := [.data], laidTests := true, laidLooks := .later }
def RulesDoCardSaid : Prop := Claim7.holds Tryd.pinned (.plain (OpenSpec.ofChange rulesDoSpec)) rulesDoCard

/-- THE TIED CARD OF 'basculelaw08.RulesRun'. -/
def rulesRunCard : Claim7 := { stood := { row := rulesRunRow, standIns := [], harness := (true, "5db8316f841287c81486abaf0ed4f06c1b2765bfc9466459ad4c9b3413636ed7"), looks := false }, kinds := [], alts := [], laidByText := true, laidKinds := [.data], laidTests := true, laidLooks := .later }
def RulesRunCardSaid : Prop := Claim7.holds Tryd.pinned (.plain (OpenSpec.ofChange rulesRunSpec)) rulesRunCard

/-- THE TIED CARD OF 'basculelaw08.RulesStay'. -/
def rulesStayCard : Claim7 := { stood := { row := rulesStayRow, standIns := [], harness := (true, "5db8316f841287c81486abaf0ed4f06c1b2765bfc9466459ad4c9b3413636ed7"), looks := false }, kinds := [], alts := [], laidByText := true, laidKinds := [.data], laidTests := true, laidLooks := .later }
def RulesStayCardSaid : Prop := Claim7.holds Tryd.pinned (.plain (OpenSpec.ofChange rulesStaySpec)) rulesStayCard

/-- THE TIED CARD OF 'basculelaw08.RulesTell'. -/
def rulesTellCard : Claim7 := { stood := { row := rulesTellRow, standIns := [], harness := (true, "5db8316f841287c81486abaf0ed4f06c1b2765bfc9466459ad4c9b3413636ed7"), looks := false }, kinds := [], alts := [], laidByText := true, laidKinds := [.data], laidTests := true, laidLooks := .later }
def RulesTellCardSaid : Prop := Claim7.holds Tryd.pinned (.plain (OpenSpec.ofChange rulesTellSpec)) rulesTellCard

/-- THE TIED CARD OF 'basculelaw08.RulesOver'. -/
def rulesOverCard : Claim7 := { stood := { row := rulesOverRow, standIns := [], harness := (true, "5db8316f841287c81486abaf0ed4f06c1b2765bfc9466459ad4c9b3413636ed7"), looks := false }, kinds := [], alts := [], laidByText := true, laidKinds := [.data], laidTests := true, laidLooks := .later }
def RulesOverCardSaid : Prop := Claim7.holds Tryd.pinned (.plain (OpenSpec.ofChange rulesOverSpec)) rulesOverCard

/-- THE SECOND FORM's CARD OF 'basculelaw08.RulesNames'. -/
def rulesNamesUptoCard : Claim7 := { stood := { row := rulesNamesUptoRow, standIns := [], harness := (true, "5db8316f841287c81486abaf0ed4f06c1b2765bfc9466459ad4c9b3413636ed7"), looks := false }, kinds := [], alts := [], laidByText := true, laidKinds := [.data], laidTests := true, laidLooks := .later }
def RulesNamesUptoCardSaid : Prop := Claim7.holds Tryd.pinned (.plain (OpenSpec.upto rulesNamesSpec)) rulesNamesUptoCard

/-- THE SECOND FORM's CARD OF 'basculelaw08.RulesDo'. -/
def rulesDoUptoCard : Claim7 := { stood := { row := rulesDoUptoRow, standIns := [], harness := (true, "5db8316f841287c81486abaf0ed4f06c1b2765bfc9466459ad4c9b3413636ed7"), looks := false }, kinds := [], alts := [], laidByText := true, laidKinds := [.data], laidTests := true, laidLooks := .later }
def RulesDoUptoCardSaid : Prop := Claim7.holds Tryd.pinned (.plain (OpenSpec.upto rulesDoSpec)) rulesDoUptoCard

/-- THE SECOND FORM's CARD OF 'basculelaw08.RulesRun'. -/
def rulesRunUptoCard : Claim7 := { stood := { row := rulesRunUptoRow, standIns := [], harness := (true, "5db8316f841287c81486abaf0ed4f06c1b2765bfc9466459ad4c9b3413636ed7"), looks := false }, kinds := [], alts := [], laidByText := true, laidKinds := [.data], laidTests := true, laidLooks := .later }
def RulesRunUptoCardSaid : Prop := Claim7.holds Tryd.pinned (.plain (OpenSpec.upto rulesRunSpec)) rulesRunUptoCard

/-- THE SECOND FORM's CARD OF 'basculelaw08.RulesStay'. -/
def rulesStayUptoCard : Claim7 := { stood := { row := rulesStayUptoRow, standIns := [], harness := (true, "5db8316f841287c81486abaf0ed4f06c1b2765bfc9466459ad4c9b3413636ed7"), looks := false }, kinds := [], alts := [], laidByText := true, laidKinds := [.data], laidTests := true, laidLooks := .later }
def RulesStayUptoCardSaid : Prop := Claim7.holds Tryd.pinned (.plain (OpenSpec.upto rulesStaySpec)) rulesStayUptoCard

/-- THE SECOND FORM's CARD OF 'basculelaw08.RulesTell'. -/
def rulesTellUptoCard : Claim7 := { stood := { row := rulesTellUptoRow, standIns := [], harness := (true, "5db8316f841287c81486abaf0ed4f06c1b2765bfc9466459ad4c9b3413636ed7"), looks := false }, kinds := [], alts := [], laidByText := true, laidKinds := [.data], laidTests := true, laidLooks := .later }
def RulesTellUptoCardSaid : Prop := Claim7.holds Tryd.pinned (.plain (OpenSpec.upto rulesTellSpec)) rulesTellUptoCard

/-- THE SECOND FORM's CARD OF 'basculelaw08.RulesOver'. -/
def rulesOverUptoCard : Claim7 := { stood := { row := rulesOverUptoRow, standIns := [], harness := (true, "5db8316f841287c81486abaf0ed4f06c1b2765bfc9466459ad4c9b3413636ed7"), looks := false }, kinds := [], alts := [], laidByText := true, laidKinds := [.data], laidTests := true, laidLooks := .later }
def RulesOverUptoCardSaid : Prop := Claim7.holds Tryd.pinned (.plain (OpenSpec.upto rulesOverSpec)) rulesOverUptoCard
end Rows
end Go.Proofs.YtfkkeokmkhjpfaaDoor
