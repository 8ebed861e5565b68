/-
  NARROWER THAN 'FOR EVERY INPUT', by the rows' own cells (each row's printed sentence says how): OrderNames: laid · OrderDoes: laid · OrderRuns: laid · OrderStays: laid · OrderGets: laid · OrderScans: laid · OrderFloors: laid.
  DERIVED. THE GIVEN ROWS OF THIS SEAT. 7 by the template 'for every input the law returns true; each argument reads behind the call as it read before'; 0 by the template 'total and deterministic' (their statements: YtohllaolbebogaaDoorTotals.lean).
  GIVEN WITH THE SEED: the statements are not yours to turn. If you find one false, say at which input.
  Laid BY PROGRAM, IN A SANDBOX (cutbox-rows.mjs): the forced cells as the released guide's own fill.sh prints them over the translation 7b4de0ad217a38f9… (all of the seat's roots in one cut). By AI agents, Wed Nov 11 2026. No macro, syntax, notation, axiom, sorry.
-/
import Derived.Test.YtohllaolbebogaaDoorChecked
import GoSem.Claim
import GoSem.ClaimJoined
import GoSem.ClaimMapViews
import Derived.JoinedTies
import Derived.KernelRfl
namespace Go.Proofs.YtohllaolbebogaaDoor
/- THE CELL 'sum', in the pinned program and in every row, IS THE sha256 OF THE DUMP (.gsa) THAT YtohllaolbebogaaDoorProg.lean LOADS. Nothing in Lean hashes anything: it is a label: what it is worth is what the hold of that sum in a sandbox is worth. -/
noncomputable def Tryd.pinned : Pinned := { name := "ytohllaolbebogaadoor", sum := "7b4de0ad217a38f986a8107b873c07eff52daab39a83e8fccd4331e8d70bfc70", checked := Tryd.checked }
namespace Rows
def none {H : Type} : Left H := { results := [], args := [] }

/- WHAT THE LISTED PACKAGE-LEVEL VARIABLES READ AS WHEN THE CALL BEGINS. Each datum BY PROGRAM (the guide's laid-datum.mjs) off the statement by which the dump's own 'gosem.cut.vars' lays the variable. In a bare row this is a premise. The card (YtohllaolbebogaaDoorCards.lean) ties it to the program's text. -/
def laid_bascule_op_objects {H : Type} : DataW H := .agg [.lit (.int .u8 0), .lit (.int .u8 1), .lit (.int .u8 1), .lit (.int .u8 1), .lit (.int .u8 2), .lit (.int .u8 2), .lit (.int .u8 2), .lit (.int .u8 2), .lit (.int .u8 2), .lit (.int .u8 3), .lit (.int .u8 3), .lit (.int .u8 3), .lit (.int .u8 4), .lit (.int .u8 4), .lit (.int .u8 4)]

/-- 'basculelaw07.OrderNames': WHATEVER THE INPUT: true; the input reads as it did. -/
def orderNamesSpec : ChangeSpec := { name := "orderNames", fn := fun _ => fun
  | [] => { results := [.lit (.bool true)], args := [] }
  | _ => none }
def orderNamesRow : OpenClaim := { program := "ytohllaolbebogaadoor", sum := "7b4de0ad217a38f986a8107b873c07eff52daab39a83e8fccd4331e8d70bfc70", func := "bascule/basculelaw07.OrderNames", spec := "orderNames", inPlace := ["slices.overlaps[bascule/api.Row]"], unfollowed := true, recurses := true, named := ["bascule/op.objects"], apart := false, laid := [("bascule/op.objects", laid_bascule_op_objects)] }
def OrderNamesSaid : Prop := orderNamesRow.holds Tryd.pinned (OpenSpec.ofChange orderNamesSpec)

/-- ITS FALSE NEIGHBOUR: 'it returns false'. Refute it at one input. -/
def orderNamesWrong : ChangeSpec := { name := "orderNames", fn := fun _ => fun
  | [] => { results := [.lit (.bool false)], args := [] }
  | _ => none }
def OrderNamesWrongFalsely : Prop := orderNamesRow.holds Tryd.pinned (OpenSpec.ofChange orderNamesWrong)

/-- 'basculelaw07.OrderDoes': WHATEVER THE INPUT: true; the input reads as it did. -/
def orderDoesSpec : ChangeSpec := { name := "orderDoes", fn := fun _ => fun
  | [d1, d2, d3] => { results := [.lit (.bool true)], args := [d1, d2, d3] }
  | _ => none }
def orderDoesRow : OpenClaim := { program := "ytohllaolbebogaadoor", sum := "7b4de0ad217a38f986a8107b873c07eff52daab39a83e8fccd4331e8d70bfc70", func := "bascule/basculelaw07.OrderDoes", spec := "orderDoes", inPlace := ["slices.overlaps[bascule/api.Row]"], unfollowed := true, recurses := true, named := ["bascule/op.objects"], apart := false, laid := [("bascule/op.objects", laid_bascule_op_objects)] }
def OrderDoesSaid : Prop := orderDoesRow.holds Tryd.pinned (OpenSpec.ofChange orderDoesSpec)

/-- ITS FALSE NEIGHBOUR: 'it returns false'. Refute it at one input. -/
def orderDoesWrong : ChangeSpec := { name := "orderDoes", fn := fun _ => fun
  | [d1, d2, d3] => { results := [.lit (.bool false)], args := [d1, d2, d3] }
  | _ => none }
def OrderDoesWrongFalsely : Prop := orderDoesRow.holds Tryd.pinned (OpenSpec.ofChange orderDoesWrong)

/-- 'basculelaw07.OrderRuns': WHATEVER THE INPUT: true; the input reads as it did. -/
def orderRunsSpec : ChangeSpec := { name := "orderRuns", fn := fun _ => fun
  | [d1, d2] => { results := [.lit (.bool true)], args := [d1, d2] }
  | _ => none }
def orderRunsRow : OpenClaim := { program := "ytohllaolbebogaadoor", sum := "7b4de0ad217a38f986a8107b873c07eff52daab39a83e8fccd4331e8d70bfc70", func := "bascule/basculelaw07.OrderRuns", spec := "orderRuns", inPlace := ["slices.overlaps[bascule/api.Row]"], unfollowed := true, recurses := true, named := ["bascule/op.objects"], apart := false, laid := [("bascule/op.objects", laid_bascule_op_objects)] }
def OrderRunsSaid : Prop := orderRunsRow.holds Tryd.pinned (OpenSpec.ofChange orderRunsSpec)

/-- ITS FALSE NEIGHBOUR: 'it returns false'. Refute it at one input. -/
def orderRunsWrong : ChangeSpec := { name := "orderRuns", fn := fun _ => fun
  | [d1, d2] => { results := [.lit (.bool false)], args := [d1, d2] }
  | _ => none }
def OrderRunsWrongFalsely : Prop := orderRunsRow.holds Tryd.pinned (OpenSpec.ofChange orderRunsWrong)

/-- 'basculelaw07.OrderStays': WHATEVER THE INPUT: true; the input reads as it did. -/
def orderStaysSpec : ChangeSpec := { name := "orderStays", fn := fun _ => fun
  | [d1, d2, d3] => { results := [.lit (.bool true)], args := [d1, d2, d3] }
  | _ => none }
def orderStaysRow : OpenClaim := { program := "ytohllaolbebogaadoor", sum := "7b4de0ad217a38f986a8107b873c07eff52daab39a83e8fccd4331e8d70bfc70", func := "bascule/basculelaw07.OrderStays", spec := "orderStays", inPlace := ["slices.overlaps[bascule/api.Row]"], unfollowed := true, recurses := true, named := ["bascule/op.objects"], apart := false, laid := [("bascule/op.objects", laid_bascule_op_objects)] }
def OrderStaysSaid : Prop := orderStaysRow.holds Tryd.pinned (OpenSpec.ofChange orderStaysSpec)

/-- ITS FALSE NEIGHBOUR: 'it returns false'. Refute it at one input. -/
def orderStaysWrong : ChangeSpec := { name := "orderStays", fn := fun _ => fun
  | [d1, d2, d3] => { results := [.lit (.bool false)], args := [d1, d2, d3] }
  | _ => none }
def OrderStaysWrongFalsely : Prop := orderStaysRow.holds Tryd.pinned (OpenSpec.ofChange orderStaysWrong)

/-- 'basculelaw07.OrderGets': WHATEVER THE INPUT: true; the input reads as it did. -/
def orderGetsSpec : ChangeSpec := { name := "orderGets", fn := fun _ => fun
  | [d1, d2, d3, d4] => { results := [.lit (.bool true)], args := [d1, d2, d3, d4] }
  | _ => none }
def orderGetsRow : OpenClaim := { program := "ytohllaolbebogaadoor", sum := "7b4de0ad217a38f986a8107b873c07eff52daab39a83e8fccd4331e8d70bfc70", func := "bascule/basculelaw07.OrderGets", spec := "orderGets", inPlace := ["slices.overlaps[bascule/api.Row]"], unfollowed := true, recurses := true, named := ["bascule/op.objects"], apart := false, laid := [("bascule/op.objects", laid_bascule_op_objects)] }
def OrderGetsSaid : Prop := orderGetsRow.holds Tryd.pinned (OpenSpec.ofChange orderGetsSpec)

/-- ITS FALSE NEIGHBOUR: 'it returns false'. Refute it at one input. -/
def orderGetsWrong : ChangeSpec := { name := "orderGets", fn := fun _ => fun
  | [d1, d2, d3, d4] => { results := [.lit (.bool false)], args := [d1, d2, d3, d4] }
  | _ => none }
def OrderGetsWrongFalsely : Prop := orderGetsRow.holds Tryd.pinned (OpenSpec.ofChange orderGetsWrong)

/-- 'basculelaw07.OrderScans': WHATEVER THE INPUT: true; the input reads as it did. -/
def orderScansSpec : ChangeSpec := { name := "orderScans", fn := fun _ => fun
  | [d1, d2, d3, d4, d5] => { results := [.lit (.bool true)], args := [d1, d2, d3, d4, d5] }
  | _ => none }
def orderScansRow : OpenClaim := { program := "ytohllaolbebogaadoor", sum := "7b4de0ad217a38f986a8107b873c07eff52daab39a83e8fccd4331e8d70bfc70", func := "bascule/basculelaw07.OrderScans", spec := "orderScans", inPlace := ["slices.overlaps[bascule/api.Row]"], unfollowed := true, recurses := true, named := ["bascule/op.objects"], apart := false, laid := [("bascule/op.objects", laid_bascule_op_objects)] }
def OrderScansSaid : Prop := orderScansRow.holds Tryd.pinned (OpenSpec.ofChange orderScansSpec)

/-- ITS FALSE NEIGHBOUR: 'it returns false'. Refute it at one input. -/
def orderScansWrong : ChangeSpec := { name := "orderScans", fn := fun _ => fun
  | [d1, d2, d3, d4, d5] => { results := [.lit (.bool false)], args := [d1, d2, d3, d4, d5] }
  | _ => none }
def OrderScansWrongFalsely : Prop := orderScansRow.holds Tryd.pinned (OpenSpec.ofChange orderScansWrong)

/-- 'basculelaw07.OrderFloors': WHATEVER THE INPUT: true; the input reads as it did. -/
def orderFloorsSpec : ChangeSpec := { name := "orderFloors", fn := fun _ => fun
  | [d1, d2, d3] => { results := [.lit (.bool true)], args := [d1, d2, d3] }
  | _ => none }
def orderFloorsRow : OpenClaim := { program := "ytohllaolbebogaadoor", sum := "7b4de0ad217a38f986a8107b873c07eff52daab39a83e8fccd4331e8d70bfc70", func := "bascule/basculelaw07.OrderFloors", spec := "orderFloors", inPlace := ["slices.overlaps[bascule/api.Row]"], unfollowed := true, recurses := true, named := ["bascule/op.objects"], apart := false, laid := [("bascule/op.objects", laid_bascule_op_objects)] }
def OrderFloorsSaid : Prop := orderFloorsRow.holds Tryd.pinned (OpenSpec.ofChange orderFloorsSpec)

/-- ITS FALSE NEIGHBOUR: 'it returns false'. Refute it at one input. -/
def orderFloorsWrong : ChangeSpec := { name := "orderFloors", fn := fun _ => fun
  | [d1, d2, d3] => { results := [.lit (.bool false)], args := [d1, d2, d3] }
  | _ => none }
def OrderFloorsWrongFalsely : Prop := orderFloorsRow.holds Tryd.pinned (OpenSpec.ofChange orderFloorsWrong)

/- THE SECOND FORM. 'bulk': how many values and letters a reading holds, each counted each time it is reached (what is shared counts as often as it is met; a slice's spare places count too). A statement '..UptoSaid' is the law's where the arguments, and the package variables that the reading takes, are together of bulk at most 1048576: NARROWER than '..Said'. Prove '..Said' where nothing that the law and all that it calls make is longer than what came in: it says more and counts as full. Else prove '..UptoSaid'. A law counts once. -/
mutual
def uptoBulk {H : Type} : DataW H → Nat
  | .lit (.string bytes) => bytes.length + 1
  | .lit _ => 1
  | .nil => 1
  | .ptr d => uptoBulk d + 1
  | .slice elems spare => uptoBulkAll elems + uptoBulkAll spare + 1
  | .agg parts => uptoBulkAll parts + 1
  | .iface _ d => uptoBulk d + 1
  | .map entries => uptoBulkEntries entries + 1
  | .held _ => 1
def uptoBulkAll {H : Type} : List (DataW H) → Nat
  | [] => 0
  | d :: r => uptoBulk d + uptoBulkAll r
def uptoBulkEntries {H : Type} : List (Lit × DataW H) → Nat
  | [] => 0
  | x :: r => uptoBulkEntry x + uptoBulkEntries r
def uptoBulkEntry {H : Type} : Lit × DataW H → Nat
  | (.string bytes, d) => bytes.length + uptoBulk d + 1
  | (_, d) => uptoBulk d + 1
 end
def uptoSmall : (H : Type) → List (DataW H) → Bool := fun _ ds => decide (uptoBulkAll ds ≤ 1048576)
def OpenSpec.upto (s : _root_.Go.ChangeSpec) : _root_.Go.OpenSpec := { _root_.Go.OpenSpec.ofChange s with cond := some uptoSmall }

/-- 'basculelaw07.OrderNames', WHERE WHAT IT READS IS OF BULK AT MOST 1048576: true; the input reads as it did. -/
def orderNamesUptoRow : OpenClaim := { program := "ytohllaolbebogaadoor", sum := "7b4de0ad217a38f986a8107b873c07eff52daab39a83e8fccd4331e8d70bfc70", func := "bascule/basculelaw07.OrderNames", spec := "orderNames", inPlace := ["slices.overlaps[bascule/api.Row]"], unfollowed := true, recurses := true, named := ["bascule/op.objects"], apart := false, laid := [("bascule/op.objects", laid_bascule_op_objects)], narrowed := true }
def OrderNamesUptoSaid : Prop := orderNamesUptoRow.holds Tryd.pinned (OpenSpec.upto orderNamesSpec)

/-- 'basculelaw07.OrderDoes', WHERE WHAT IT READS IS OF BULK AT MOST 1048576: true; the input reads as it did. -/
def orderDoesUptoRow : OpenClaim := { program := "ytohllaolbebogaadoor", sum := "7b4de0ad217a38f986a8107b873c07eff52daab39a83e8fccd4331e8d70bfc70", func := "bascule/basculelaw07.OrderDoes", spec := "orderDoes", inPlace := ["slices.overlaps[bascule/api.Row]"], unfollowed := true, recurses := true, named := ["bascule/op.objects"], apart := false, laid := [("bascule/op.objects", laid_bascule_op_objects)], narrowed := true }
def OrderDoesUptoSaid : Prop := orderDoesUptoRow.holds Tryd.pinned (OpenSpec.upto orderDoesSpec)

/-- 'basculelaw07.OrderRuns', WHERE WHAT IT READS IS OF BULK AT MOST 1048576: true; the input reads as it did. -/
def orderRunsUptoRow : OpenClaim := { program := "ytohllaolbebogaadoor", sum := "7b4de0ad217a38f986a8107b873c07eff52daab39a83e8fccd4331e8d70bfc70", func := "bascule/basculelaw07.OrderRuns", spec := "orderRuns", inPlace := ["slices.overlaps[bascule/api.Row]"], unfollowed := true, recurses := true, named := ["bascule/op.objects"], apart := false, laid := [("bascule/op.objects", laid_bascule_op_objects)], narrowed := true }
def OrderRunsUptoSaid : Prop := orderRunsUptoRow.holds Tryd.pinned (OpenSpec.upto orderRunsSpec)

/-- 'basculelaw07.OrderStays', WHERE WHAT IT READS IS OF BULK AT MOST 1048576: true; the input reads as it did. -/
def orderStaysUptoRow : OpenClaim := { program := "ytohllaolbebogaadoor", sum := "7b4de0ad217a38f986a8107b873c07eff52daab39a83e8fccd4331e8d70bfc70", func := "bascule/basculelaw07.OrderStays", spec := "orderStays", inPlace := ["slices.overlaps[bascule/api.Row]"], unfollowed := true, recurses := true, named := ["bascule/op.objects"], apart := false, laid := [("bascule/op.objects", laid_bascule_op_objects)], narrowed := true }
def OrderStaysUptoSaid : Prop := orderStaysUptoRow.holds Tryd.pinned (OpenSpec.upto orderStaysSpec)

/-- 'basculelaw07.OrderGets', WHERE WHAT IT READS IS OF BULK AT MOST 1048576: true; the input reads as it did. -/
def orderGetsUptoRow : OpenClaim := { program := "ytohllaolbebogaadoor", sum := "7b4de0ad217a38f986a8107b873c07eff52daab39a83e8fccd4331e8d70bfc70", func := "bascule/basculelaw07.OrderGets", spec := "orderGets", inPlace := ["slices.overlaps[bascule/api.Row]"], unfollowed := true, recurses := true, named := ["bascule/op.objects"], apart := false, laid := [("bascule/op.objects", laid_bascule_op_objects)], narrowed := true }
def OrderGetsUptoSaid : Prop := orderGetsUptoRow.holds Tryd.pinned (OpenSpec.upto orderGetsSpec)

/-- 'basculelaw07.OrderScans', WHERE WHAT IT READS IS OF BULK AT MOST 1048576: true; the input reads as it did. -/
def orderScansUptoRow : OpenClaim := { program := "ytohllaolbebogaadoor", sum := "7b4de0ad217a38f986a8107b873c07eff52daab39a83e8fccd4331e8d70bfc70", func := "bascule/basculelaw07.OrderScans", spec := "orderScans", inPlace := ["slices.overlaps[bascule/api.Row]"], unfollowed := true, recurses := true, named := ["bascule/op.objects"], apart := false, laid := [("bascule/op.objects", laid_bascule_op_objects)], narrowed := true }
def OrderScansUptoSaid : Prop := orderScansUptoRow.holds Tryd.pinned (OpenSpec.upto orderScansSpec)

/-- 'basculelaw07.OrderFloors', WHERE WHAT IT READS IS OF BULK AT MOST 1048576: true; the input reads as it did. -/
def orderFloorsUptoRow : OpenClaim := { program := "ytohllaolbebogaadoor", sum := "7b4de0ad217a38f986a8107b873c07eff52daab39a83e8fccd4331e8d70bfc70", func := "bascule/basculelaw07.OrderFloors", spec := "orderFloors", inPlace := ["slices.overlaps[bascule/api.Row]"], unfollowed := true, recurses := true, named := ["bascule/op.objects"], apart := false, laid := [("bascule/op.objects", laid_bascule_op_objects)], narrowed := true }
def OrderFloorsUptoSaid : Prop := orderFloorsUptoRow.holds Tryd.pinned (OpenSpec.upto orderFloorsSpec)

end Rows
end Go.Proofs.YtohllaolbebogaaDoor
