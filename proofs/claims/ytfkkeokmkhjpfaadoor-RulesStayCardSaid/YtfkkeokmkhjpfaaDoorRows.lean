/-
  NARROWER THAN 'FOR EVERY INPUT', by the rows' own cells (each row's printed sentence says how): RulesNames: laid · RulesDo: laid · RulesRun: laid · RulesStay: laid · RulesTell: laid · RulesOver: laid.
  DERIVED. THE GIVEN ROWS OF THIS SEAT. 6 by the template 'for every input the law returns true; each argument reads behind the call as it read before'; 0 by the template 'total and deterministic' (their statements: YtfkkeokmkhjpfaaDoorTotals.lean).
  GIVEN WITH THE SEED: the statements are not yours to turn. If you find one false, say at which input.
  Laid BY PROGRAM, IN A SANDBOX (cutbox-rows.mjs): the forced cells as the released guide's own fill.sh prints them over the translation d67321ab68091de5… (all of the seat's roots in one cut). By AI agents, Wed Nov 11 2026. No macro, syntax, notation, axiom, sorry.
-/
import Derived.Test.YtfkkeokmkhjpfaaDoorChecked
import GoSem.Claim
import GoSem.ClaimJoined
import GoSem.ClaimMapViews
import Derived.JoinedTies
import Derived.KernelRfl
namespace Go.Proofs.YtfkkeokmkhjpfaaDoor
/- THE CELL 'sum', in the pinned program and in every row, IS THE sha256 OF THE DUMP (.gsa) THAT YtfkkeokmkhjpfaaDoorProg.lean LOADS. Nothing in Lean hashes anything: it is a label: what it is worth is what the hold of that sum in a sandbox is worth. -/
noncomputable def Tryd.pinned : Pinned := { name := "ytfkkeokmkhjpfaadoor", sum := "d67321ab68091de523707d702dbd46a04f4870bd828590e5124dc71ab94042fc", checked := Tryd.checked }
namespace Rows
def none {H : Type} : Left H := { results := [], args := [] }

/- WHAT THE LISTED PACKAGE-LEVEL VARIABLES READ AS WHEN THE CALL BEGINS. Each datum BY PROGRAM (the guide's laid-datum.mjs) off the statement by which the dump's own 'gosem.cut.vars' lays the variable. In a bare row this is a premise. The card (YtfkkeokmkhjpfaaDoorCards.lean) ties it to the program's text. -/
def laid_bascule_op_objects {H : Type} : DataW H := .agg [.lit (.int .u8 0), .lit (.int .u8 1), .lit (.int .u8 1), .lit (.int .u8 1), .lit (.int .u8 2), .lit (.int .u8 2), .lit (.int .u8 2), .lit (.int .u8 2), .lit (.int .u8 2), .lit (.int .u8 3), .lit (.int .u8 3), .lit (.int .u8 3), .lit (.int .u8 4), .lit (.int .u8 4), .lit (.int .u8 4)]

/-- 'basculelaw08.RulesNames': WHATEVER THE INPUT: true; the input reads as it did. -/
def rulesNamesSpec : ChangeSpec := { name := "rulesNames", fn := fun _ => fun
  | [] => { results := [.lit (.bool true)], args := [] }
  | _ => none }
def rulesNamesRow : OpenClaim := { program := "ytfkkeokmkhjpfaadoor", sum := "d67321ab68091de523707d702dbd46a04f4870bd828590e5124dc71ab94042fc", func := "bascule/basculelaw08.RulesNames", spec := "rulesNames", inPlace := ["slices.overlaps[bascule/api.Row]"], unfollowed := true, recurses := true, named := ["bascule/op.objects"], apart := false, laid := [("bascule/op.objects", laid_bascule_op_objects)] }
def RulesNamesSaid : Prop := rulesNamesRow.holds Tryd.pinned (OpenSpec.ofChange rulesNamesSpec)

/-- ITS FALSE NEIGHBOUR: 'it returns false'. Refute it at one input. -/
def rulesNamesWrong : ChangeSpec := { name := "rulesNames", fn := fun _ => fun
  | [] => { results := [.lit (.bool false)], args := [] }
  | _ => none }
def RulesNamesWrongFalsely : Prop := rulesNamesRow.holds Tryd.pinned (OpenSpec.ofChange rulesNamesWrong)

/-- 'basculelaw08.RulesDo': WHATEVER THE INPUT: true; the input reads as it did. -/
def rulesDoSpec : ChangeSpec := { name := "rulesDo", fn := fun _ => fun
  | [d1, d2, d3] => { results := [.lit (.bool true)], args := [d1, d2, d3] }
  | _ => none }
def rulesDoRow : OpenClaim := { program := "ytfkkeokmkhjpfaadoor", sum := "d67321ab68091de523707d702dbd46a04f4870bd828590e5124dc71ab94042fc", func := "bascule/basculelaw08.RulesDo", spec := "rulesDo", inPlace := ["slices.overlaps[bascule/api.Row]"], unfollowed := true, recurses := true, named := ["bascule/op.objects"], apart := false, laid := [("bascule/op.objects", laid_bascule_op_objects)] }
def RulesDoSaid : Prop := rulesDoRow.holds Tryd.pinned (OpenSpec.ofChange rulesDoSpec)

/-- ITS FALSE NEIGHBOUR: 'it returns false'. Refute it at one input. -/
def rulesDoWrong : ChangeSpec := { name := "rulesDo", fn := fun _ => fun
  | [d1, d2, d3] => { results := [.lit (.bool false)], args := [d1, d2, d3] }
  | _ => none }
def RulesDoWrongFalsely : Prop := rulesDoRow.holds Tryd.pinned (OpenSpec.ofChange rulesDoWrong)

/-- 'basculelaw08.RulesRun': WHATEVER THE INPUT: true; the input reads as it did. -/
def rulesRunSpec : ChangeSpec := { name := "rulesRun", fn := fun _ => fun
  | [d1, d2] => { results := [.lit (.bool true)], args := [d1, d2] }
  | _ => none }
def rulesRunRow : OpenClaim := { program := "ytfkkeokmkhjpfaadoor", sum := "d67321ab68091de523707d702dbd46a04f4870bd828590e5124dc71ab94042fc", func := "bascule/basculelaw08.RulesRun", spec := "rulesRun", inPlace := ["slices.overlaps[bascule/api.Row]"], unfollowed := true, recurses := true, named := ["bascule/op.objects"], apart := false, laid := [("bascule/op.objects", laid_bascule_op_objects)] }
def RulesRunSaid : Prop := rulesRunRow.holds Tryd.pinned (OpenSpec.ofChange rulesRunSpec)

/-- ITS FALSE NEIGHBOUR: 'it returns false'. Refute it at one input. -/
def rulesRunWrong : ChangeSpec := { name := "rulesRun", fn := fun _ => fun
  | [d1, d2] => { results := [.lit (.bool false)], args := [d1, d2] }
  | _ => none }
def RulesRunWrongFalsely : Prop := rulesRunRow.holds Tryd.pinned (OpenSpec.ofChange rulesRunWrong)

/-- 'basculelaw08.RulesStay': WHATEVER THE INPUT: true; the input reads as it did. -/
def rulesStaySpec : ChangeSpec := { name := "rulesStay", fn := fun _ => fun
  | [d1, d2, d3] => { results := [.lit (.bool true)], args := [d1, d2, d3] }
  | _ => none }
def rulesStayRow : OpenClaim := { program := "ytfkkeokmkhjpfaadoor", sum := "d67321ab68091de523707d702dbd46a04f4870bd828590e5124dc71ab94042fc", func := "bascule/basculelaw08.RulesStay", spec := "rulesStay", inPlace := ["slices.overlaps[bascule/api.Row]"], unfollowed := true, recurses := true, named := ["bascule/op.objects"], apart := false, laid := [("bascule/op.objects", laid_bascule_op_objects)] }
def RulesStaySaid : Prop := rulesStayRow.holds Tryd.pinned (OpenSpec.ofChange rulesStaySpec)

/-- ITS FALSE NEIGHBOUR: 'it returns false'. Refute it at one input. -/
def rulesStayWrong : ChangeSpec := { name := "rulesStay", fn := fun _ => fun
  | [d1, d2, d3] => { results := [.lit (.bool false)], args := [d1, d2, d3] }
  | _ => none }
def RulesStayWrongFalsely : Prop := rulesStayRow.holds Tryd.pinned (OpenSpec.ofChange rulesStayWrong)

/-- 'basculelaw08.RulesTell': WHATEVER THE INPUT: true; the input reads as it did. -/
def rulesTellSpec : ChangeSpec := { name := "rulesTell", fn := fun _ => fun
  | [d1, d2, d3, d4] => { results := [.lit (.bool true)], args := [d1, d2, d3, d4] }
  | _ => none }
def rulesTellRow : OpenClaim := { program := "ytfkkeokmkhjpfaadoor", sum := "d67321ab68091de523707d702dbd46a04f4870bd828590e5124dc71ab94042fc", func := "bascule/basculelaw08.RulesTell", spec := "rulesTell", inPlace := ["slices.overlaps[bascule/api.Row]"], unfollowed := true, recurses := true, named := ["bascule/op.objects"], apart := false, laid := [("bascule/op.objects", laid_bascule_op_objects)] }
def RulesTellSaid : Prop := rulesTellRow.holds Tryd.pinned (OpenSpec.ofChange rulesTellSpec)

/-- ITS FALSE NEIGHBOUR: 'it returns false'. Refute it at one input. -/
def rulesTellWrong : ChangeSpec := { name := "rulesTell", fn := fun _ => fun
  | [d1, d2, d3, d4] => { results := [.lit (.bool false)], args := [d1, d2, d3, d4] }
  | _ => none }
def RulesTellWrongFalsely : Prop := rulesTellRow.holds Tryd.pinned (OpenSpec.ofChange rulesTellWrong)

/-- 'basculelaw08.RulesOver': WHATEVER THE INPUT: true; the input reads as it did. -/
def rulesOverSpec : ChangeSpec := { name := "rulesOver", fn := fun _ => fun
  | [d1, d2, d3, d4, d5] => { results := [.lit (.bool true)], args := [d1, d2, d3, d4, d5] }
  | _ => none }
def rulesOverRow : OpenClaim := { program := "ytfkkeokmkhjpfaadoor", sum := "d67321ab68091de523707d702dbd46a04f4870bd828590e5124dc71ab94042fc", func := "bascule/basculelaw08.RulesOver", spec := "rulesOver", inPlace := ["slices.overlaps[bascule/api.Row]"], unfollowed := true, recurses := true, named := ["bascule/op.objects"], apart := false, laid := [("bascule/op.objects", laid_bascule_op_objects)] }
def RulesOverSaid : Prop := rulesOverRow.holds Tryd.pinned (OpenSpec.ofChange rulesOverSpec)

/-- ITS FALSE NEIGHBOUR: 'it returns false'. Refute it at one input. -/
def rulesOverWrong : ChangeSpec := { name := "rulesOver", fn := fun _ => fun
  | [d1, d2, d3, d4, d5] => { results := [.lit (.bool false)], args := [d1, d2, d3, d4, d5] }
  | _ => none }
def RulesOverWrongFalsely : Prop := rulesOverRow.holds Tryd.pinned (OpenSpec.ofChange rulesOverWrong)

/- THE SECOND FORM. 'bulk': how many values and letters a reading holds, each counted each time it is reached (what is shared counts as often as it is met; a slice's spare places count too). A statement '..UptoSaid' is the law's where the arguments, and the package variables that the reading takes, are together of bulk at most 1048576: NARROWER than '..Said'. Prove '..Said' where nothing that the law and all that it calls make is longer than what came in: it says more and counts as full. Else prove '..UptoSaid'. A law counts once. -/
mutual
def uptoBulk {H : Type} : DataW H → Nat
  | .lit (.string bytes) => bytes.length + 1
  | .lit _ => 1
  | .nil => 1
  | .ptr d => uptoBulk d + 1
  | .slice elems spare => uptoBulkAll elems + uptoBulkAll spare + 1
  | .agg parts => uptoBulkAll parts + 1
  | .iface _ d => uptoBulk d + 1
  | .map entries => uptoBulkEntries entries + 1
  | .held _ => 1
def uptoBulkAll {H : Type} : List (DataW H) → Nat
  | [] => 0
  | d :: r => uptoBulk d + uptoBulkAll r
def uptoBulkEntries {H : Type} : List (Lit × DataW H) → Nat
  | [] => 0
  | x :: r => uptoBulkEntry x + uptoBulkEntries r
def uptoBulkEntry {H : Type} : Lit × DataW H → Nat
  | (.string bytes, d) => bytes.length + uptoBulk d + 1
  | (_, d) => uptoBulk d + 1
 end
def uptoSmall : (H : Type) → List (DataW H) → Bool := fun _ ds => decide (uptoBulkAll ds ≤ 1048576)
def OpenSpec.upto (s : _root_.Go.ChangeSpec) : _root_.Go.OpenSpec := { _root_.Go.OpenSpec.ofChange s with cond := some uptoSmall }

/-- 'basculelaw08.RulesNames', WHERE WHAT IT READS IS OF BULK AT MOST 1048576: true; the input reads as it did. -/
def rulesNamesUptoRow : OpenClaim := { program := "ytfkkeokmkhjpfaadoor", sum := "d67321ab68091de523707d702dbd46a04f4870bd828590e5124dc71ab94042fc", func := "bascule/basculelaw08.RulesNames", spec := "rulesNames", inPlace := ["slices.overlaps[bascule/api.Row]"], unfollowed := true, recurses := true, named := ["bascule/op.objects"], apart := false, laid := [("bascule/op.objects", laid_bascule_op_objects)], narrowed := true }
def RulesNamesUptoSaid : Prop := rulesNamesUptoRow.holds Tryd.pinned (OpenSpec.upto rulesNamesSpec)

/-- 'basculelaw08.RulesDo', WHERE WHAT IT READS IS OF BULK AT MOST 1048576: true; the input reads as it did. -/
def rulesDoUptoRow : OpenClaim := { program := "ytfkkeokmkhjpfaadoor", sum := "d67321ab68091de523707d702dbd46a04f4870bd828590e5124dc71ab94042fc", func := "bascule/basculelaw08.RulesDo", spec := "rulesDo", inPlace := ["slices.overlaps[bascule/api.Row]"], unfollowed := true, recurses := true, named := ["bascule/op.objects"], apart := false, laid := [("bascule/op.objects", laid_bascule_op_objects)], narrowed := true }
def RulesDoUptoSaid : Prop := rulesDoUptoRow.holds Tryd.pinned (OpenSpec.upto rulesDoSpec)

/-- 'basculelaw08.RulesRun', WHERE WHAT IT READS IS OF BULK AT MOST 1048576: true; the input reads as it did. -/
def rulesRunUptoRow : OpenClaim := { program := "ytfkkeokmkhjpfaadoor", sum := "d67321ab68091de523707d702dbd46a04f4870bd828590e5124dc71ab94042fc", func := "bascule/basculelaw08.RulesRun", spec := "rulesRun", inPlace := ["slices.overlaps[bascule/api.Row]"], unfollowed := true, recurses := true, named := ["bascule/op.objects"], apart := false, laid := [("bascule/op.objects", laid_bascule_op_objects)], narrowed := true }
def RulesRunUptoSaid : Prop := rulesRunUptoRow.holds Tryd.pinned (OpenSpec.upto rulesRunSpec)

/-- 'basculelaw08.RulesStay', WHERE WHAT IT READS IS OF BULK AT MOST 1048576: true; the input reads as it did. -/
def rulesStayUptoRow : OpenClaim := { program := "ytfkkeokmkhjpfaadoor", sum := "d67321ab68091de523707d702dbd46a04f4870bd828590e5124dc71ab94042fc", func := "bascule/basculelaw08.RulesStay", spec := "rulesStay", inPlace := ["slices.overlaps[bascule/api.Row]"], unfollowed := true, recurses := true, named := ["bascule/op.objects"], apart := false, laid := [("bascule/op.objects", laid_bascule_op_objects)], narrowed := true }
def RulesStayUptoSaid : Prop := rulesStayUptoRow.holds Tryd.pinned (OpenSpec.upto rulesStaySpec)

/-- 'basculelaw08.RulesTell', WHERE WHAT IT READS IS OF BULK AT MOST 1048576: true; the input reads as it did. -/
def rulesTellUptoRow : OpenClaim := { program := "ytfkkeokmkhjpfaadoor", sum := "d67321ab68091de523707d702dbd46a04f4870bd828590e5124dc71ab94042fc", func := "bascule/basculelaw08.RulesTell", spec := "rulesTell", inPlace := ["slices.overlaps[bascule/api.Row]"], unfollowed := true, recurses := true, named := ["bascule/op.objects"], apart := false, laid := [("bascule/op.objects", laid_bascule_op_objects)], narrowed := true }
def RulesTellUptoSaid : Prop := rulesTellUptoRow.holds Tryd.pinned (OpenSpec.upto rulesTellSpec)

/-- 'basculelaw08.RulesOver', WHERE WHAT IT READS IS OF BULK AT MOST 1048576: true; the input reads as it did. -/
def rulesOverUptoRow : OpenClaim := { program := "ytfkkeokmkhjpfaadoor", sum := "d67321ab68091de523707d702dbd46a04f4870bd828590e5124dc71ab94042fc", func := "bascule/basculelaw08.RulesOver", spec := "rulesOver", inPlace := ["slices.overlaps[bascule/api.Row]"], unfollowed := true, recurses := true, named := ["bascule/op.objects"], apart := false, laid := [("bascule/op.objects", laid_bascule_op_objects)], narrowed := true }
def RulesOverUptoSaid : Prop := rulesOverUptoRow.holds Tryd.pinned (OpenSpec.upto rulesOverSpec)

end Rows
end Go.Proofs.YtfkkeokmkhjpfaaDoor
