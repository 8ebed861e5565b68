/-
  NARROWER THAN 'FOR EVERY INPUT', by the rows' own cells (each row's printed sentence says how): GateNames: laid · GateActs: laid · GateGoes: laid · GateEnds: laid · GateMeans: laid · GateOver: laid.
  DERIVED. THE GIVEN ROWS OF THIS SEAT. 6 by the template 'for every input the law returns true; each argument reads behind the call as it read before'; 0 by the template 'total and deterministic' (their statements: YtljhcegkekdjgaaDoorTotals.lean).
  GIVEN WITH THE SEED: the statements are not yours to turn. If you find one false, say at which input.
  Laid BY PROGRAM, IN A SANDBOX (cutbox-rows.mjs): the forced cells as the released guide's own fill.sh prints them over the translation e453eb689b8111c6… (all of the seat's roots in one cut). By AI agents, Wed Nov 11 2026. No macro, syntax, notation, axiom, sorry.
-/
import Derived.Test.YtljhcegkekdjgaaDoorChecked
import GoSem.Claim
import GoSem.ClaimJoined
import GoSem.ClaimMapViews
import Derived.JoinedTies
import Derived.KernelRfl
namespace Go.Proofs.YtljhcegkekdjgaaDoor
/- THE CELL 'sum', in the pinned program and in every row, IS THE sha256 OF THE DUMP (.gsa) THAT YtljhcegkekdjgaaDoorProg.lean LOADS. Nothing in Lean hashes anything: it is a label: what it is worth is what the hold of that sum in a sandbox is worth. -/
noncomputable def Tryd.pinned : Pinned := { name := "ytljhcegkekdjgaadoor", sum := "e453eb689b8111c6e4929af85ec27d02821f52698bfa1b4010c9d6d56e951767", checked := Tryd.checked }
namespace Rows
def none {H : Type} : Left H := { results := [], args := [] }

/- WHAT THE LISTED PACKAGE-LEVEL VARIABLES READ AS WHEN THE CALL BEGINS. Each datum BY PROGRAM (the guide's laid-datum.mjs) off the statement by which the dump's own 'gosem.cut.vars' lays the variable. In a bare row this is a premise. The card (YtljhcegkekdjgaaDoorCards.lean) ties it to the program's text. -/
def laid_bascule_op_objects {H : Type} : DataW H := .agg [.lit (.int .u8 0), .lit (.int .u8 1), .lit (.int .u8 1), .lit (.int .u8 1), .lit (.int .u8 2), .lit (.int .u8 2), .lit (.int .u8 2), .lit (.int .u8 2), .lit (.int .u8 2), .lit (.int .u8 3), .lit (.int .u8 3), .lit (.int .u8 3), .lit (.int .u8 4), .lit (.int .u8 4), .lit (.int .u8 4)]

/-- 'basculelaw14.GateNames': WHATEVER THE INPUT: true; the input reads as it did. -/
def gateNamesSpec : ChangeSpec := { name := "gateNames", fn := fun _ => fun
  | [] => { results := [.lit (.bool true)], args := [] }
  | _ => none }
def gateNamesRow : OpenClaim := { program := "ytljhcegkekdjgaadoor", sum := "e453eb689b8111c6e4929af85ec27d02821f52698bfa1b4010c9d6d56e951767", func := "bascule/basculelaw14.GateNames", spec := "gateNames", unfollowed := true, recurses := true, named := ["bascule/op.objects"], apart := false, laid := [("bascule/op.objects", laid_bascule_op_objects)] }
def GateNamesSaid : Prop := gateNamesRow.holds Tryd.pinned (OpenSpec.ofChange gateNamesSpec)

/-- ITS FALSE NEIGHBOUR: 'it returns false'. Refute it at one input. -/
def gateNamesWrong : ChangeSpec := { name := "gateNames", fn := fun _ => fun
  | [] => { results := [.lit (.bool false)], args := [] }
  | _ => none }
def GateNamesWrongFalsely : Prop := gateNamesRow.holds Tryd.pinned (OpenSpec.ofChange gateNamesWrong)

/-- 'basculelaw14.GateActs': WHATEVER THE INPUT: true; the input reads as it did. -/
def gateActsSpec : ChangeSpec := { name := "gateActs", fn := fun _ => fun
  | [d1, d2] => { results := [.lit (.bool true)], args := [d1, d2] }
  | _ => none }
def gateActsRow : OpenClaim := { program := "ytljhcegkekdjgaadoor", sum := "e453eb689b8111c6e4929af85ec27d02821f52698bfa1b4010c9d6d56e951767", func := "bascule/basculelaw14.GateActs", spec := "gateActs", named := ["bascule/op.objects"], apart := false, laid := [("bascule/op.objects", laid_bascule_op_objects)] }
def GateActsSaid : Prop := gateActsRow.holds Tryd.pinned (OpenSpec.ofChange gateActsSpec)

/-- ITS FALSE NEIGHBOUR: 'it returns false'. Refute it at one input. -/
def gateActsWrong : ChangeSpec := { name := "gateActs", fn := fun _ => fun
  | [d1, d2] => { results := [.lit (.bool false)], args := [d1, d2] }
  | _ => none }
def GateActsWrongFalsely : Prop := gateActsRow.holds Tryd.pinned (OpenSpec.ofChange gateActsWrong)

/-- 'basculelaw14.GateGoes': WHATEVER THE INPUT: true; the input reads as it did. -/
def gateGoesSpec : ChangeSpec := { name := "gateGoes", fn := fun _ => fun
  | [d1, d2, d3] => { results := [.lit (.bool true)], args := [d1, d2, d3] }
  | _ => none }
def gateGoesRow : OpenClaim := { program := "ytljhcegkekdjgaadoor", sum := "e453eb689b8111c6e4929af85ec27d02821f52698bfa1b4010c9d6d56e951767", func := "bascule/basculelaw14.GateGoes", spec := "gateGoes", unfollowed := true, recurses := true, named := ["bascule/op.objects"], apart := false, laid := [("bascule/op.objects", laid_bascule_op_objects)] }
def GateGoesSaid : Prop := gateGoesRow.holds Tryd.pinned (OpenSpec.ofChange gateGoesSpec)

/-- ITS FALSE NEIGHBOUR: 'it returns false'. Refute it at one input. -/
def gateGoesWrong : ChangeSpec := { name := "gateGoes", fn := fun _ => fun
  | [d1, d2, d3] => { results := [.lit (.bool false)], args := [d1, d2, d3] }
  | _ => none }
def GateGoesWrongFalsely : Prop := gateGoesRow.holds Tryd.pinned (OpenSpec.ofChange gateGoesWrong)

/-- 'basculelaw14.GateEnds': WHATEVER THE INPUT: true; the input reads as it did. -/
def gateEndsSpec : ChangeSpec := { name := "gateEnds", fn := fun _ => fun
  | [d1, d2, d3] => { results := [.lit (.bool true)], args := [d1, d2, d3] }
  | _ => none }
def gateEndsRow : OpenClaim := { program := "ytljhcegkekdjgaadoor", sum := "e453eb689b8111c6e4929af85ec27d02821f52698bfa1b4010c9d6d56e951767", func := "bascule/basculelaw14.GateEnds", spec := "gateEnds", unfollowed := true, recurses := true, named := ["bascule/op.objects"], apart := false, laid := [("bascule/op.objects", laid_bascule_op_objects)] }
def GateEndsSaid : Prop := gateEndsRow.holds Tryd.pinned (OpenSpec.ofChange gateEndsSpec)

/-- ITS FALSE NEIGHBOUR: 'it returns false'. Refute it at one input. -/
def gateEndsWrong : ChangeSpec := { name := "gateEnds", fn := fun _ => fun
  | [d1, d2, d3] => { results := [.lit (.bool false)], args := [d1, d2, d3] }
  | _ => none }
def GateEndsWrongFalsely : Prop := gateEndsRow.holds Tryd.pinned (OpenSpec.ofChange gateEndsWrong)

/-- 'basculelaw14.GateMeans': WHATEVER THE INPUT: true; the input reads as it did. -/
def gateMeansSpec : ChangeSpec := { name := "gateMeans", fn := fun _ => fun
  | [d1, d2] => { results := [.lit (.bool true)], args := [d1, d2] }
  | _ => none }
def gateMeansRow : OpenClaim := { program := "ytljhcegkekdjgaadoor", sum := "e453eb689b8111c6e4929af85ec27d02821f52698bfa1b4010c9d6d56e951767", func := "bascule/basculelaw14.GateMeans", spec := "gateMeans", inPlace := ["slices.overlaps[bascule/api.Row]"], unfollowed := true, recurses := true, named := ["bascule/op.objects"], apart := false, laid := [("bascule/op.objects", laid_bascule_op_objects)] }
def GateMeansSaid : Prop := gateMeansRow.holds Tryd.pinned (OpenSpec.ofChange gateMeansSpec)

/-- ITS FALSE NEIGHBOUR: 'it returns false'. Refute it at one input. -/
def gateMeansWrong : ChangeSpec := { name := "gateMeans", fn := fun _ => fun
  | [d1, d2] => { results := [.lit (.bool false)], args := [d1, d2] }
  | _ => none }
def GateMeansWrongFalsely : Prop := gateMeansRow.holds Tryd.pinned (OpenSpec.ofChange gateMeansWrong)

/-- 'basculelaw14.GateOver': WHATEVER THE INPUT: true; the input reads as it did. -/
def gateOverSpec : ChangeSpec := { name := "gateOver", fn := fun _ => fun
  | [d1, d2, d3, d4, d5] => { results := [.lit (.bool true)], args := [d1, d2, d3, d4, d5] }
  | _ => none }
def gateOverRow : OpenClaim := { program := "ytljhcegkekdjgaadoor", sum := "e453eb689b8111c6e4929af85ec27d02821f52698bfa1b4010c9d6d56e951767", func := "bascule/basculelaw14.GateOver", spec := "gateOver", unfollowed := true, recurses := true, named := ["bascule/op.objects"], apart := false, laid := [("bascule/op.objects", laid_bascule_op_objects)] }
def GateOverSaid : Prop := gateOverRow.holds Tryd.pinned (OpenSpec.ofChange gateOverSpec)

/-- ITS FALSE NEIGHBOUR: 'it returns false'. Refute it at one input. -/
def gateOverWrong : ChangeSpec := { name := "gateOver", fn := fun _ => fun
  | [d1, d2, d3, d4, d5] => { results := [.lit (.bool false)], args := [d1, d2, d3, d4, d5] }
  | _ => none }
def GateOverWrongFalsely : Prop := gateOverRow.holds Tryd.pinned (OpenSpec.ofChange gateOverWrong)

/- THE SECOND FORM. 'bulk': how many values and letters a reading holds, each counted each time it is reached (what is shared counts as often as it is met; a slice's spare places count too). A statement '..UptoSaid' is the law's where the arguments, and the package variables that the reading takes, are together of bulk at most 1048576: NARROWER than '..Said'. Prove '..Said' where nothing that the law and all that it calls make is longer than what came in: it says more and counts as full. Else prove '..UptoSaid'. A law counts once. -/
mutual
def uptoBulk {H : Type} : DataW H → Nat
  | .lit (.string bytes) => bytes.length + 1
  | .lit _ => 1
  | .nil => 1
  | .ptr d => uptoBulk d + 1
  | .slice elems spare => uptoBulkAll elems + uptoBulkAll spare + 1
  | .agg parts => uptoBulkAll parts + 1
  | .iface _ d => uptoBulk d + 1
  | .map entries => uptoBulkEntries entries + 1
  | .held _ => 1
def uptoBulkAll {H : Type} : List (DataW H) → Nat
  | [] => 0
  | d :: r => uptoBulk d + uptoBulkAll r
def uptoBulkEntries {H : Type} : List (Lit × DataW H) → Nat
  | [] => 0
  | x :: r => uptoBulkEntry x + uptoBulkEntries r
def uptoBulkEntry {H : Type} : Lit × DataW H → Nat
  | (.string bytes, d) => bytes.length + uptoBulk d + 1
  | (_, d) => uptoBulk d + 1
 end
def uptoSmall : (H : Type) → List (DataW H) → Bool := fun _ ds => decide (uptoBulkAll ds ≤ 1048576)
def OpenSpec.upto (s : _root_.Go.ChangeSpec) : _root_.Go.OpenSpec := { _root_.Go.OpenSpec.ofChange s with cond := some uptoSmall }

/-- 'basculelaw14.GateNames', WHERE WHAT IT READS IS OF BULK AT MOST 1048576: true; the input reads as it did. -/
def gateNamesUptoRow : OpenClaim := { program := "ytljhcegkekdjgaadoor", sum := "e453eb689b8111c6e4929af85ec27d02821f52698bfa1b4010c9d6d56e951767", func := "bascule/basculelaw14.GateNames", spec := "gateNames", unfollowed := true, recurses := true, named := ["bascule/op.objects"], apart := false, laid := [("bascule/op.objects", laid_bascule_op_objects)], narrowed := true }
def GateNamesUptoSaid : Prop := gateNamesUptoRow.holds Tryd.pinned (OpenSpec.upto gateNamesSpec)

/-- 'basculelaw14.GateActs', WHERE WHAT IT READS IS OF BULK AT MOST 1048576: true; the input reads as it did. -/
def gateActsUptoRow : OpenClaim := { program := "ytljhcegkekdjgaadoor", sum := "e453eb689b8111c6e4929af85ec27d02821f52698bfa1b4010c9d6d56e951767", func := "bascule/basculelaw14.GateActs", spec := "gateActs", named := ["bascule/op.objects"], apart := false, laid := [("bascule/op.objects", laid_bascule_op_objects)], narrowed := true }
def GateActsUptoSaid : Prop := gateActsUptoRow.holds Tryd.pinned (OpenSpec.upto gateActsSpec)

/-- 'basculelaw14.GateGoes', WHERE WHAT IT READS IS OF BULK AT MOST 1048576: true; the input reads as it did. -/
def gateGoesUptoRow : OpenClaim := { program := "ytljhcegkekdjgaadoor", sum := "e453eb689b8111c6e4929af85ec27d02821f52698bfa1b4010c9d6d56e951767", func := "bascule/basculelaw14.GateGoes", spec := "gateGoes", unfollowed := true, recurses := true, named := ["bascule/op.objects"], apart := false, laid := [("bascule/op.objects", laid_bascule_op_objects)], narrowed := true }
def GateGoesUptoSaid : Prop := gateGoesUptoRow.holds Tryd.pinned (OpenSpec.upto gateGoesSpec)

/-- 'basculelaw14.GateEnds', WHERE WHAT IT READS IS OF BULK AT MOST 1048576: true; the input reads as it did. -/
def gateEndsUptoRow : OpenClaim := { program := "ytljhcegkekdjgaadoor", sum := "e453eb689b8111c6e4929af85ec27d02821f52698bfa1b4010c9d6d56e951767", func := "bascule/basculelaw14.GateEnds", spec := "gateEnds", unfollowed := true, recurses := true, named := ["bascule/op.objects"], apart := false, laid := [("bascule/op.objects", laid_bascule_op_objects)], narrowed := true }
def GateEndsUptoSaid : Prop := gateEndsUptoRow.holds Tryd.pinned (OpenSpec.upto gateEndsSpec)

/-- 'basculelaw14.GateMeans', WHERE WHAT IT READS IS OF BULK AT MOST 1048576: true; the input reads as it did. -/
def gateMeansUptoRow : OpenClaim := { program := "ytljhcegkekdjgaadoor", sum := "e453eb689b8111c6e4929af85ec27d02821f52698bfa1b4010c9d6d56e951767", func := "bascule/basculelaw14.GateMeans", spec := "gateMeans", inPlace := ["slices.overlaps[bascule/api.Row]"], unfollowed := true, recurses := true, named := ["bascule/op.objects"], apart := false, laid := [("bascule/op.objects", laid_bascule_op_objects)], narrowed := true }
def GateMeansUptoSaid : Prop := gateMeansUptoRow.holds Tryd.pinned (OpenSpec.upto gateMeansSpec)

/-- 'basculelaw14.GateOver', WHERE WHAT IT READS IS OF BULK AT MOST 1048576: true; the input reads as it did. -/
def gateOverUptoRow : OpenClaim := { program := "ytljhcegkekdjgaadoor", sum := "e453eb689b8111c6e4929af85ec27d02821f52698bfa1b4010c9d6d56e951767", func := "bascule/basculelaw14.GateOver", spec := "gateOver", unfollowed := true, recurses := true, named := ["bascule/op.objects"], apart := false, laid := [("bascule/op.objects", laid_bascule_op_objects)], narrowed := true }
def GateOverUptoSaid : Prop := gateOverUptoRow.holds Tryd.pinned (OpenSpec.upto gateOverSpec)

end Rows
end Go.Proofs.YtljhcegkekdjgaaDoor
