/-
  DERIVED. GIVEN WITH THE SEED: THE CARDS: each row of YtgodedghmddhpaaDoorRows.lean that lists a variable, with what it lists TIED to the program's text (the seventh form; the later family's looks); each row that meets fmt, with fmt's text TOLD by the authors' own Lean function (tested against real Go, not proved from fmt's source: count such statements apart). THE CARD IS WHAT COUNTS. Prove the row's statement (the work); the ties are given (YtgodedghmddhpaaDoorTie.lean); close each card by the builder's one call (the guide's Derived/Test/ToyasCard.lean, 'card_holds'). Laid BY PROGRAM, IN A SANDBOX (cutbox-door.mjs). By AI agents, Wed Nov 11 2026. No macro, syntax, notation, axiom, sorry.
-/
import Derived.Test.YtgodedghmddhpaaDoorRows
import GoSem.ClaimSeven
namespace Go.Proofs.YtgodedghmddhpaaDoor
namespace Rows

/-- THE TIED CARD OF 'basculelaw03.RankNames'. -/
def rankNamesCard : Claim7 := { stood := { row := rankNamesRow, standIns := [], harness := (true, "99ac52a40f40cbe07d9bc6a45680ea1356db72d53aa36d84fd35a71f3ff7b5bf"), looks := false }, kinds := [], alts := [], laidByText := true, laidKinds := [.data], laidTests := true, laidLooks := .later }
def RankNamesCardSaid : Prop := Claim7.holds Tryd.pinned (.plain (OpenSpec.ofChange rankNamesSpec)) rankNamesCard

/-- THE TIED CARD OF 'basculelaw03.RankLevels'. -/
def rankLevelsCard : Claim7 := { stood := { row := rankLevelsRow, standIns := [], harness := (true, "99ac52a40f40cbe07d9bc6a45680ea1356db72d53aa36d84fd35a71f3ff7b5bf"), looks := false }, kinds := [], alts := [], laidByText := true, laidKinds := [.data], laidTests := true, laidLooks := .later }
def RankLevelsCardSaid : Prop := Claim7.holds Tryd.pinned (.plain (OpenSpec.ofChange rankLevelsSpec)) rankLevelsCard

/-- THE TIED CARD OF 'basculelaw03.RankPath'. -/
def rankPathCard : Claim7 := { stood := { row := rankPathRow, standIns := [], harness := (true, "99ac52a40f40cbe07d9bc6a45680ea1356db72d53aa36d84fd35a71f3ff7b5bf"), looks := false }, kinds := [], alts := [], laidByText := true, laidKinds := [.data], laidTests := true, laidLooks := .later }
def RankPathCardSaid : Prop := Claim7.holds Tryd.pinned (.plain (OpenSpec.ofChange rankPathSpec)) rankPathCard

/-- THE TIED CARD OF 'basculelaw03.RankAll'. -/
def rankAllCard : Claim7 := { stood := { row := rankAllRow, standIns := [], harness := (true, "99ac52a40f40cbe07d9bc6a45680ea1356db72d53aa36d84fd35a71f3ff7b5bf"), looks := false }, kinds := [], alts := [], laidByText := true, laidKinds := [.data], laidTests := true, laidLooks := .later }
def RankAllCardSaid : Prop := Claim7.holds Tryd.pinned (.plain (OpenSpec.ofChange rankAllSpec)) rankAllCard

/-- THE TIED CARD OF 'basculelaw03.RankTop'. -/
def rankTopCard : Claim7 := { stood := { row := rankTopRow, standIns := [], harness := (true, "99ac52a40f40cbe07d9bc6a45680ea1356db72d53aa36d84fd35a71f3ff7b5bf"), looks := false }, kinds := [], alts := [], laidByText := true, laidKinds := [.data], laidTests := true, laidLooks := .later }
def RankTopCardSaid : Prop := Claim7.holds Tryd.pinned (.plain (OpenSpec.ofChange rankTopSpec)) rankTopCard

/-- THE SECOND FORM's CARD OF 'basculelaw03.RankNames'. -/
def rankNamesUptoCard : Claim7 := { stood := { row := rankNamesUptoRow, standIns := [], harness := (true, "99ac52a40f40cbe07d9bc6a45680ea1356db72d53aa36d84fd35a71f3ff7b5bf"), looks := false }, kinds := [], alts := [], laidByText := true, laidKinds := [.data], laidTests := true, laidLooks := .later }
def RankNamesUptoCardSaid : Prop := Claim7.holds Tryd.pinned (.plain (OpenSpec.upto rankNamesSpec)) rankNamesUptoCard

/-- THE SECOND FORM's CARD OF 'basculelaw03.RankLevels'. -/
def rankLevelsUptoCard : Claim7 := { stood := { row := rankLevelsUptoRow, standIns := [], harness := (true, "99ac52a40f40cbe07d9bc6a45680ea1356db72d53aa36d84fd35a71f3ff7b5bf"), looks := false }, kinds := [], alts := [], laidByText := true, laidKinds := [.data], laidTests := true, laidLooks := .later }
def RankLevelsUptoCardSaid : Prop := Claim7.holds Tryd.pinned (.plain (OpenSpec.upto rankLevelsSpec)) rankLevelsUptoCard

/-- THE SECOND FORM's CARD OF 'basculelaw03.RankPath'. -/
def rankPathUptoCard : Claim7 := { stood := { row := rankPathUptoRow, standIns := [], harness := (true, "99ac52a40f40cbe07d9bc6a45680ea1356db72d53aa36d84fd35a71f3ff7b5bf"), looks := false }, kinds := [], alts := [], laidByText := true, laidKinds := [.data], laidTests := true, laidLooks := .later }
def RankPathUptoCardSaid : Prop := Claim7.holds Tryd.pinned (.plain (OpenSpec.upto rankPathSpec)) rankPathUptoCard

/-- THE SECOND FORM's CARD OF 'basculelaw03.RankAll'. -/
def rankAllUptoCard : Claim7 := { stood := { row := rankAllUptoRow, standIns := [], harness := (true, "99ac52a40f40cbe07d9bc6a45680ea1356db72d53aa36d84fd35a71f3ff7b5bf"), looks := false }, kinds := [], alts := [], laidByText := true, laidKinds := [.data], laidTests := true, laidLooks := .later }
def RankAllUptoCardSaid : Prop := Claim7.holds Tryd.pinned (.plain (OpenSpec.upto rankAllSpec)) rankAllUptoCard

/-- THE SECOND FORM's CARD OF 'basculelaw03.RankTop'. -/
def rankTopUptoCard : Claim7 := { stood := { row := rankTopUptoRow, standIns := [], harness := (true, "99ac52a40f40cbe07d9bc6a45680ea1356db72d53aa36d84fd35a71f3ff7b5bf"), looks := false }, kinds := [], alts := [], laidByText := true, laidKinds := [.data], laidTests := true, laidLooks := .later }
def RankTopUptoCardSaid : Prop := Claim7.holds Tryd.pinned (.plain (OpenSpec.upto rankTopSpec)) rankTopUptoCard
end Rows
end Go.Proofs.YtgodedghmddhpaaDoor
