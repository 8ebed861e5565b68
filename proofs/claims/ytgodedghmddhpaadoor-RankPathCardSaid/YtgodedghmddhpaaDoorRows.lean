/-
  NARROWER THAN 'FOR EVERY INPUT', by the rows' own cells (each row's printed sentence says how): RankNames: laid · RankLevels: laid · RankPath: laid · RankAll: laid · RankTop: laid.
  DERIVED. THE GIVEN ROWS OF THIS SEAT. 5 by the template 'for every input the law returns true; each argument reads behind the call as it read before'; 0 by the template 'total and deterministic' (their statements: YtgodedghmddhpaaDoorTotals.lean).
  GIVEN WITH THE SEED: the statements are not yours to turn. If you find one false, say at which input.
  Laid BY PROGRAM, IN A SANDBOX (cutbox-rows.mjs): the forced cells as the released guide's own fill.sh prints them over the translation 50413d7d1a2c09c6… (all of the seat's roots in one cut). By AI agents, Wed Nov 11 2026. No macro, syntax, notation, axiom, sorry.
-/
import Derived.Test.YtgodedghmddhpaaDoorChecked
import GoSem.Claim
import GoSem.ClaimJoined
import GoSem.ClaimMapViews
import Derived.JoinedTies
import Derived.KernelRfl
namespace Go.Proofs.YtgodedghmddhpaaDoor
/- THE CELL 'sum', in the pinned program and in every row, IS THE sha256 OF THE DUMP (.gsa) THAT YtgodedghmddhpaaDoorProg.lean LOADS. Nothing in Lean hashes anything: it is a label: what it is worth is what the hold of that sum in a sandbox is worth. -/
noncomputable def Tryd.pinned : Pinned := { name := "ytgodedghmddhpaadoor", sum := "50413d7d1a2c09c6bcabddeb251464135bbb3387a46022e050d79c99950cfcec", checked := Tryd.checked }
namespace Rows
def none {H : Type} : Left H := { results := [], args := [] }

/- WHAT THE LISTED PACKAGE-LEVEL VARIABLES READ AS WHEN THE CALL BEGINS. Each datum BY PROGRAM (the guide's laid-datum.mjs) off the statement by which the dump's own 'gosem.cut.vars' lays the variable. In a bare row this is a premise. The card (YtgodedghmddhpaaDoorCards.lean) ties it to the program's text. -/
def laid_bascule_rank_powers {H : Type} : DataW H := .agg [.agg [.lit (.int .i64 1), .lit (.int .i64 2), .lit (.int .i64 4), .lit (.int .i64 8), .lit (.int .i64 16)], .agg [.lit (.int .i64 1), .lit (.int .i64 3), .lit (.int .i64 9), .lit (.int .i64 27), .lit (.int .i64 81)], .agg [.lit (.int .i64 1), .lit (.int .i64 4), .lit (.int .i64 16), .lit (.int .i64 64), .lit (.int .i64 256)]]

/-- 'basculelaw03.RankNames': WHATEVER THE INPUT: true; the input reads as it did. -/
def rankNamesSpec : ChangeSpec := { name := "rankNames", fn := fun _ => fun
  | [] => { results := [.lit (.bool true)], args := [] }
  | _ => none }
def rankNamesRow : OpenClaim := { program := "ytgodedghmddhpaadoor", sum := "50413d7d1a2c09c6bcabddeb251464135bbb3387a46022e050d79c99950cfcec", func := "bascule/basculelaw03.RankNames", spec := "rankNames", named := ["bascule/rank.powers"], apart := false, laid := [("bascule/rank.powers", laid_bascule_rank_powers)] }
def RankNamesSaid : Prop := rankNamesRow.holds Tryd.pinned (OpenSpec.ofChange rankNamesSpec)

/-- ITS FALSE NEIGHBOUR: 'it returns false'. Refute it at one input. -/
def rankNamesWrong : ChangeSpec := { name := "rankNames", fn := fun _ => fun
  | [] => { results := [.lit (.bool false)], args := [] }
  | _ => none }
def RankNamesWrongFalsely : Prop := rankNamesRow.holds Tryd.pinned (OpenSpec.ofChange rankNamesWrong)

/-- 'basculelaw03.RankLevels': WHATEVER THE INPUT: true; the input reads as it did. -/
def rankLevelsSpec : ChangeSpec := { name := "rankLevels", fn := fun _ => fun
  | [d1, d2, d3, d4] => { results := [.lit (.bool true)], args := [d1, d2, d3, d4] }
  | _ => none }
def rankLevelsRow : OpenClaim := { program := "ytgodedghmddhpaadoor", sum := "50413d7d1a2c09c6bcabddeb251464135bbb3387a46022e050d79c99950cfcec", func := "bascule/basculelaw03.RankLevels", spec := "rankLevels", named := ["bascule/rank.powers"], apart := false, laid := [("bascule/rank.powers", laid_bascule_rank_powers)] }
def RankLevelsSaid : Prop := rankLevelsRow.holds Tryd.pinned (OpenSpec.ofChange rankLevelsSpec)

/-- ITS FALSE NEIGHBOUR: 'it returns false'. Refute it at one input. -/
def rankLevelsWrong : ChangeSpec := { name := "rankLevels", fn := fun _ => fun
  | [d1, d2, d3, d4] => { results := [.lit (.bool false)], args := [d1, d2, d3, d4] }
  | _ => none }
def RankLevelsWrongFalsely : Prop := rankLevelsRow.holds Tryd.pinned (OpenSpec.ofChange rankLevelsWrong)

/-- 'basculelaw03.RankPath': WHATEVER THE INPUT: true; the input reads as it did. -/
def rankPathSpec : ChangeSpec := { name := "rankPath", fn := fun _ => fun
  | [d1, d2, d3, d4] => { results := [.lit (.bool true)], args := [d1, d2, d3, d4] }
  | _ => none }
def rankPathRow : OpenClaim := { program := "ytgodedghmddhpaadoor", sum := "50413d7d1a2c09c6bcabddeb251464135bbb3387a46022e050d79c99950cfcec", func := "bascule/basculelaw03.RankPath", spec := "rankPath", named := ["bascule/rank.powers"], apart := false, laid := [("bascule/rank.powers", laid_bascule_rank_powers)] }
def RankPathSaid : Prop := rankPathRow.holds Tryd.pinned (OpenSpec.ofChange rankPathSpec)

/-- ITS FALSE NEIGHBOUR: 'it returns false'. Refute it at one input. -/
def rankPathWrong : ChangeSpec := { name := "rankPath", fn := fun _ => fun
  | [d1, d2, d3, d4] => { results := [.lit (.bool false)], args := [d1, d2, d3, d4] }
  | _ => none }
def RankPathWrongFalsely : Prop := rankPathRow.holds Tryd.pinned (OpenSpec.ofChange rankPathWrong)

/-- 'basculelaw03.RankAll': WHATEVER THE INPUT: true; the input reads as it did. -/
def rankAllSpec : ChangeSpec := { name := "rankAll", fn := fun _ => fun
  | [d1, d2, d3] => { results := [.lit (.bool true)], args := [d1, d2, d3] }
  | _ => none }
def rankAllRow : OpenClaim := { program := "ytgodedghmddhpaadoor", sum := "50413d7d1a2c09c6bcabddeb251464135bbb3387a46022e050d79c99950cfcec", func := "bascule/basculelaw03.RankAll", spec := "rankAll", named := ["bascule/rank.powers"], apart := false, laid := [("bascule/rank.powers", laid_bascule_rank_powers)] }
def RankAllSaid : Prop := rankAllRow.holds Tryd.pinned (OpenSpec.ofChange rankAllSpec)

/-- ITS FALSE NEIGHBOUR: 'it returns false'. Refute it at one input. -/
def rankAllWrong : ChangeSpec := { name := "rankAll", fn := fun _ => fun
  | [d1, d2, d3] => { results := [.lit (.bool false)], args := [d1, d2, d3] }
  | _ => none }
def RankAllWrongFalsely : Prop := rankAllRow.holds Tryd.pinned (OpenSpec.ofChange rankAllWrong)

/-- 'basculelaw03.RankTop': WHATEVER THE INPUT: true; the input reads as it did. -/
def rankTopSpec : ChangeSpec := { name := "rankTop", fn := fun _ => fun
  | [d1, d2] => { results := [.lit (.bool true)], args := [d1, d2] }
  | _ => none }
def rankTopRow : OpenClaim := { program := "ytgodedghmddhpaadoor", sum := "50413d7d1a2c09c6bcabddeb251464135bbb3387a46022e050d79c99950cfcec", func := "bascule/basculelaw03.RankTop", spec := "rankTop", named := ["bascule/rank.powers"], apart := false, laid := [("bascule/rank.powers", laid_bascule_rank_powers)] }
def RankTopSaid : Prop := rankTopRow.holds Tryd.pinned (OpenSpec.ofChange rankTopSpec)

/-- ITS FALSE NEIGHBOUR: 'it returns false'. Refute it at one input. -/
def rankTopWrong : ChangeSpec := { name := "rankTop", fn := fun _ => fun
  | [d1, d2] => { results := [.lit (.bool false)], args := [d1, d2] }
  | _ => none }
def RankTopWrongFalsely : Prop := rankTopRow.holds Tryd.pinned (OpenSpec.ofChange rankTopWrong)

/- THE SECOND FORM. 'bulk': how many values and letters a reading holds, each counted each time it is reached (what is shared counts as often as it is met; a slice's spare places count too). A statement '..UptoSaid' is the law's where the arguments, and the package variables that the reading takes, are together of bulk at most 1048576: NARROWER than '..Said'. Prove '..Said' where nothing that the law and all that it calls make is longer than what came in: it says more and counts as full. Else prove '..UptoSaid'. A law counts once. -/
mutual
def uptoBulk {H : Type} : DataW H → Nat
  | .lit (.string bytes) => bytes.length + 1
  | .lit _ => 1
  | .nil => 1
  | .ptr d => uptoBulk d + 1
  | .slice elems spare => uptoBulkAll elems + uptoBulkAll spare + 1
  | .agg parts => uptoBulkAll parts + 1
  | .iface _ d => uptoBulk d + 1
  | .map entries => uptoBulkEntries entries + 1
  | .held _ => 1
def uptoBulkAll {H : Type} : List (DataW H) → Nat
  | [] => 0
  | d :: r => uptoBulk d + uptoBulkAll r
def uptoBulkEntries {H : Type} : List (Lit × DataW H) → Nat
  | [] => 0
  | x :: r => uptoBulkEntry x + uptoBulkEntries r
def uptoBulkEntry {H : Type} : Lit × DataW H → Nat
  | (.string bytes, d) => bytes.length + uptoBulk d + 1
  | (_, d) => uptoBulk d + 1
 end
def uptoSmall : (H : Type) → List (DataW H) → Bool := fun _ ds => decide (uptoBulkAll ds ≤ 1048576)
def OpenSpec.upto (s : _root_.Go.ChangeSpec) : _root_.Go.OpenSpec := { _root_.Go.OpenSpec.ofChange s with cond := some uptoSmall }

/-- 'basculelaw03.RankNames', WHERE WHAT IT READS IS OF BULK AT MOST 1048576: true; the input reads as it did. -/
def rankNamesUptoRow : OpenClaim := { program := "ytgodedghmddhpaadoor", sum := "50413d7d1a2c09c6bcabddeb251464135bbb3387a46022e050d79c99950cfcec", func := "bascule/basculelaw03.RankNames", spec := "rankNames", named := ["bascule/rank.powers"], apart := false, laid := [("bascule/rank.powers", laid_bascule_rank_powers)], narrowed := true }
def RankNamesUptoSaid : Prop := rankNamesUptoRow.holds Tryd.pinned (OpenSpec.upto rankNamesSpec)

/-- 'basculelaw03.RankLevels', WHERE WHAT IT READS IS OF BULK AT MOST 1048576: true; the input reads as it did. -/
def rankLevelsUptoRow : OpenClaim := { program := "ytgodedghmddhpaadoor", sum := "50413d7d1a2c09c6bcabddeb251464135bbb3387a46022e050d79c99950cfcec", func := "bascule/basculelaw03.RankLevels", spec := "rankLevels", named := ["bascule/rank.powers"], apart := false, laid := [("bascule/rank.powers", laid_bascule_rank_powers)], narrowed := true }
def RankLevelsUptoSaid : Prop := rankLevelsUptoRow.holds Tryd.pinned (OpenSpec.upto rankLevelsSpec)

/-- 'basculelaw03.RankPath', WHERE WHAT IT READS IS OF BULK AT MOST 1048576: true; the input reads as it did. -/
def rankPathUptoRow : OpenClaim := { program := "ytgodedghmddhpaadoor", sum := "50413d7d1a2c09c6bcabddeb251464135bbb3387a46022e050d79c99950cfcec", func := "bascule/basculelaw03.RankPath", spec := "rankPath", named := ["bascule/rank.powers"], apart := false, laid := [("bascule/rank.powers", laid_bascule_rank_powers)], narrowed := true }
def RankPathUptoSaid : Prop := rankPathUptoRow.holds Tryd.pinned (OpenSpec.upto rankPathSpec)

/-- 'basculelaw03.RankAll', WHERE WHAT IT READS IS OF BULK AT MOST 1048576: true; the input reads as it did. -/
def rankAllUptoRow : OpenClaim := { program := "ytgodedghmddhpaadoor", sum := "50413d7d1a2c09c6bcabddeb251464135bbb3387a46022e050d79c99950cfcec", func := "bascule/basculelaw03.RankAll", spec := "rankAll", named := ["bascule/rank.powers"], apart := false, laid := [("bascule/rank.powers", laid_bascule_rank_powers)], narrowed := true }
def RankAllUptoSaid : Prop := rankAllUptoRow.holds Tryd.pinned (OpenSpec.upto rankAllSpec)

/-- 'basculelaw03.RankTop', WHERE WHAT IT READS IS OF BULK AT MOST 1048576: true; the input reads as it did. -/
def rankTopUptoRow : OpenClaim := { program := "ytgodedghmddhpaadoor", sum := "50413d7d1a2c09c6bcabddeb251464135bbb3387a46022e050d79c99950cfcec", func := "bascule/basculelaw03.RankTop", spec := "rankTop", named := ["bascule/rank.powers"], apart := false, laid := [("bascule/rank.powers", laid_bascule_rank_powers)], narrowed := true }
def RankTopUptoSaid : Prop := rankTopUptoRow.holds Tryd.pinned (OpenSpec.upto rankTopSpec)

end Rows
end Go.Proofs.YtgodedghmddhpaaDoor
