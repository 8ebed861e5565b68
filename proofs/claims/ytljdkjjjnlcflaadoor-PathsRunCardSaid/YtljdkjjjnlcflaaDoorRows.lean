/-
  NARROWER THAN 'FOR EVERY INPUT', by the rows' own cells (each row's printed sentence says how): PathsNames: laid · PathsDo: laid · PathsRun: laid · PathsStay: laid · PathsRead: laid · PathsTake: laid.
  DERIVED. THE GIVEN ROWS OF THIS SEAT. 6 by the template 'for every input the law returns true; each argument reads behind the call as it read before'; 0 by the template 'total and deterministic' (their statements: YtljdkjjjnlcflaaDoorTotals.lean).
  GIVEN WITH THE SEED: the statements are not yours to turn. If you find one false, say at which input.
  Laid BY PROGRAM, IN A SANDBOX (cutbox-rows.mjs): the forced cells as the released guide's own fill.sh prints them over the translation f29630c21cc9e0b2… (all of the seat's roots in one cut). By AI agents, Wed Nov 11 2026. No macro, syntax, notation, axiom, sorry.
-/
import Derived.Test.YtljdkjjjnlcflaaDoorChecked
import GoSem.Claim
import GoSem.ClaimJoined
import GoSem.ClaimMapViews
import Derived.JoinedTies
import Derived.KernelRfl
namespace Go.Proofs.YtljdkjjjnlcflaaDoor
/- THE CELL 'sum', in the pinned program and in every row, IS THE sha256 OF THE DUMP (.gsa) THAT YtljdkjjjnlcflaaDoorProg.lean LOADS. Nothing in Lean hashes anything: it is a label: what it is worth is what the hold of that sum in a sandbox is worth. -/
noncomputable def Tryd.pinned : Pinned := { name := "ytljdkjjjnlcflaadoor", sum := "f29630c21cc9e0b260194e4db13ea288cf260481b446befe30a24dc0f1ca158c", checked := Tryd.checked }
namespace Rows
def none {H : Type} : Left H := { results := [], args := [] }

/- WHAT THE LISTED PACKAGE-LEVEL VARIABLES READ AS WHEN THE CALL BEGINS. Each datum BY PROGRAM (the guide's laid-datum.mjs) off the statement by which the dump's own 'gosem.cut.vars' lays the variable. In a bare row this is a premise. The card (YtljdkjjjnlcflaaDoorCards.lean) ties it to the program's text. -/
def laid_bascule_op_objects {H : Type} : DataW H := .agg [.lit (.int .u8 0), .lit (.int .u8 1), .lit (.int .u8 1), .lit (.int .u8 1), .lit (.int .u8 2), .lit (.int .u8 2), .lit (.int .u8 2), .lit (.int .u8 2), .lit (.int .u8 2), .lit (.int .u8 3), .lit (.int .u8 3), .lit (.int .u8 3), .lit (.int .u8 4), .lit (.int .u8 4), .lit (.int .u8 4)]

/-- 'basculelaw09.PathsNames': WHATEVER THE INPUT: true; the input reads as it did. -/
def pathsNamesSpec : ChangeSpec := { name := "pathsNames", fn := fun _ => fun
  | [] => { results := [.lit (.bool true)], args := [] }
  | _ => none }
def pathsNamesRow : OpenClaim := { program := "ytljdkjjjnlcflaadoor", sum := "f29630c21cc9e0b260194e4db13ea288cf260481b446befe30a24dc0f1ca158c", func := "bascule/basculelaw09.PathsNames", spec := "pathsNames", unfollowed := true, recurses := true, named := ["bascule/op.objects"], apart := false, laid := [("bascule/op.objects", laid_bascule_op_objects)] }
def PathsNamesSaid : Prop := pathsNamesRow.holds Tryd.pinned (OpenSpec.ofChange pathsNamesSpec)

/-- ITS FALSE NEIGHBOUR: 'it returns false'. Refute it at one input. -/
def pathsNamesWrong : ChangeSpec := { name := "pathsNames", fn := fun _ => fun
  | [] => { results := [.lit (.bool false)], args := [] }
  | _ => none }
def PathsNamesWrongFalsely : Prop := pathsNamesRow.holds Tryd.pinned (OpenSpec.ofChange pathsNamesWrong)

/-- 'basculelaw09.PathsDo': WHATEVER THE INPUT: true; the input reads as it did. -/
def pathsDoSpec : ChangeSpec := { name := "pathsDo", fn := fun _ => fun
  | [d1, d2, d3] => { results := [.lit (.bool true)], args := [d1, d2, d3] }
  | _ => none }
def pathsDoRow : OpenClaim := { program := "ytljdkjjjnlcflaadoor", sum := "f29630c21cc9e0b260194e4db13ea288cf260481b446befe30a24dc0f1ca158c", func := "bascule/basculelaw09.PathsDo", spec := "pathsDo", unfollowed := true, recurses := true, named := ["bascule/op.objects"], apart := false, laid := [("bascule/op.objects", laid_bascule_op_objects)] }
def PathsDoSaid : Prop := pathsDoRow.holds Tryd.pinned (OpenSpec.ofChange pathsDoSpec)

/-- ITS FALSE NEIGHBOUR: 'it returns false'. Refute it at one input. -/
def pathsDoWrong : ChangeSpec := { name := "pathsDo", fn := fun _ => fun
  | [d1, d2, d3] => { results := [.lit (.bool false)], args := [d1, d2, d3] }
  | _ => none }
def PathsDoWrongFalsely : Prop := pathsDoRow.holds Tryd.pinned (OpenSpec.ofChange pathsDoWrong)

/-- 'basculelaw09.PathsRun': WHATEVER THE INPUT: true; the input reads as it did. -/
def pathsRunSpec : ChangeSpec := { name := "pathsRun", fn := fun _ => fun
  | [d1, d2] => { results := [.lit (.bool true)], args := [d1, d2] }
  | _ => none }
def pathsRunRow : OpenClaim := { program := "ytljdkjjjnlcflaadoor", sum := "f29630c21cc9e0b260194e4db13ea288cf260481b446befe30a24dc0f1ca158c", func := "bascule/basculelaw09.PathsRun", spec := "pathsRun", unfollowed := true, recurses := true, named := ["bascule/op.objects"], apart := false, laid := [("bascule/op.objects", laid_bascule_op_objects)] }
def PathsRunSaid : Prop := pathsRunRow.holds Tryd.pinned (OpenSpec.ofChange pathsRunSpec)

/-- ITS FALSE NEIGHBOUR: 'it returns false'. Refute it at one input. -/
def pathsRunWrong : ChangeSpec := { name := "pathsRun", fn := fun _ => fun
  | [d1, d2] => { results := [.lit (.bool false)], args := [d1, d2] }
  | _ => none }
def PathsRunWrongFalsely : Prop := pathsRunRow.holds Tryd.pinned (OpenSpec.ofChange pathsRunWrong)

/-- 'basculelaw09.PathsStay': WHATEVER THE INPUT: true; the input reads as it did. -/
def pathsStaySpec : ChangeSpec := { name := "pathsStay", fn := fun _ => fun
  | [d1, d2, d3] => { results := [.lit (.bool true)], args := [d1, d2, d3] }
  | _ => none }
def pathsStayRow : OpenClaim := { program := "ytljdkjjjnlcflaadoor", sum := "f29630c21cc9e0b260194e4db13ea288cf260481b446befe30a24dc0f1ca158c", func := "bascule/basculelaw09.PathsStay", spec := "pathsStay", unfollowed := true, recurses := true, named := ["bascule/op.objects"], apart := false, laid := [("bascule/op.objects", laid_bascule_op_objects)] }
def PathsStaySaid : Prop := pathsStayRow.holds Tryd.pinned (OpenSpec.ofChange pathsStaySpec)

/-- ITS FALSE NEIGHBOUR: 'it returns false'. Refute it at one input. -/
def pathsStayWrong : ChangeSpec := { name := "pathsStay", fn := fun _ => fun
  | [d1, d2, d3] => { results := [.lit (.bool false)], args := [d1, d2, d3] }
  | _ => none }
def PathsStayWrongFalsely : Prop := pathsStayRow.holds Tryd.pinned (OpenSpec.ofChange pathsStayWrong)

/-- 'basculelaw09.PathsRead': WHATEVER THE INPUT: true; the input reads as it did. -/
def pathsReadSpec : ChangeSpec := { name := "pathsRead", fn := fun _ => fun
  | [d1, d2, d3, d4] => { results := [.lit (.bool true)], args := [d1, d2, d3, d4] }
  | _ => none }
def pathsReadRow : OpenClaim := { program := "ytljdkjjjnlcflaadoor", sum := "f29630c21cc9e0b260194e4db13ea288cf260481b446befe30a24dc0f1ca158c", func := "bascule/basculelaw09.PathsRead", spec := "pathsRead", unfollowed := true, recurses := true, named := ["bascule/op.objects"], apart := false, laid := [("bascule/op.objects", laid_bascule_op_objects)] }
def PathsReadSaid : Prop := pathsReadRow.holds Tryd.pinned (OpenSpec.ofChange pathsReadSpec)

/-- ITS FALSE NEIGHBOUR: 'it returns false'. Refute it at one input. -/
def pathsReadWrong : ChangeSpec := { name := "pathsRead", fn := fun _ => fun
  | [d1, d2, d3, d4] => { results := [.lit (.bool false)], args := [d1, d2, d3, d4] }
  | _ => none }
def PathsReadWrongFalsely : Prop := pathsReadRow.holds Tryd.pinned (OpenSpec.ofChange pathsReadWrong)

/-- 'basculelaw09.PathsTake': WHATEVER THE INPUT: true; the input reads as it did. -/
def pathsTakeSpec : ChangeSpec := { name := "pathsTake", fn := fun _ => fun
  | [d1, d2, d3, d4] => { results := [.lit (.bool true)], args := [d1, d2, d3, d4] }
  | _ => none }
def pathsTakeRow : OpenClaim := { program := "ytljdkjjjnlcflaadoor", sum := "f29630c21cc9e0b260194e4db13ea288cf260481b446befe30a24dc0f1ca158c", func := "bascule/basculelaw09.PathsTake", spec := "pathsTake", unfollowed := true, recurses := true, named := ["bascule/op.objects"], apart := false, laid := [("bascule/op.objects", laid_bascule_op_objects)] }
def PathsTakeSaid : Prop := pathsTakeRow.holds Tryd.pinned (OpenSpec.ofChange pathsTakeSpec)

/-- ITS FALSE NEIGHBOUR: 'it returns false'. Refute it at one input. -/
def pathsTakeWrong : ChangeSpec := { name := "pathsTake", fn := fun _ => fun
  | [d1, d2, d3, d4] => { results := [.lit (.bool false)], args := [d1, d2, d3, d4] }
  | _ => none }
def PathsTakeWrongFalsely : Prop := pathsTakeRow.holds Tryd.pinned (OpenSpec.ofChange pathsTakeWrong)

/- THE SECOND FORM. 'bulk': how many values and letters a reading holds, each counted each time it is reached (what is shared counts as often as it is met; a slice's spare places count too). A statement '..UptoSaid' is the law's where the arguments, and the package variables that the reading takes, are together of bulk at most 1048576: NARROWER than '..Said'. Prove '..Said' where nothing that the law and all that it calls make is longer than what came in: it says more and counts as full. Else prove '..UptoSaid'. A law counts once. -/
mutual
def uptoBulk {H : Type} : DataW H → Nat
  | .lit (.string bytes) => bytes.length + 1
  | .lit _ => 1
  | .nil => 1
  | .ptr d => uptoBulk d + 1
  | .slice elems spare => uptoBulkAll elems + uptoBulkAll spare + 1
  | .agg parts => uptoBulkAll parts + 1
  | .iface _ d => uptoBulk d + 1
  | .map entries => uptoBulkEntries entries + 1
  | .held _ => 1
def uptoBulkAll {H : Type} : List (DataW H) → Nat
  | [] => 0
  | d :: r => uptoBulk d + uptoBulkAll r
def uptoBulkEntries {H : Type} : List (Lit × DataW H) → Nat
  | [] => 0
  | x :: r => uptoBulkEntry x + uptoBulkEntries r
def uptoBulkEntry {H : Type} : Lit × DataW H → Nat
  | (.string bytes, d) => bytes.length + uptoBulk d + 1
  | (_, d) => uptoBulk d + 1
 end
def uptoSmall : (H : Type) → List (DataW H) → Bool := fun _ ds => decide (uptoBulkAll ds ≤ 1048576)
def OpenSpec.upto (s : _root_.Go.ChangeSpec) : _root_.Go.OpenSpec := { _root_.Go.OpenSpec.ofChange s with cond := some uptoSmall }

/-- 'basculelaw09.PathsNames', WHERE WHAT IT READS IS OF BULK AT MOST 1048576: true; the input reads as it did. -/
def pathsNamesUptoRow : OpenClaim := { program := "ytljdkjjjnlcflaadoor", sum := "f29630c21cc9e0b260194e4db13ea288cf260481b446befe30a24dc0f1ca158c", func := "bascule/basculelaw09.PathsNames", spec := "pathsNames", unfollowed := true, recurses := true, named := ["bascule/op.objects"], apart := false, laid := [("bascule/op.objects", laid_bascule_op_objects)], narrowed := true }
def PathsNamesUptoSaid : Prop := pathsNamesUptoRow.holds Tryd.pinned (OpenSpec.upto pathsNamesSpec)

/-- 'basculelaw09.PathsDo', WHERE WHAT IT READS IS OF BULK AT MOST 1048576: true; the input reads as it did. -/
def pathsDoUptoRow : OpenClaim := { program := "ytljdkjjjnlcflaadoor", sum := "f29630c21cc9e0b260194e4db13ea288cf260481b446befe30a24dc0f1ca158c", func := "bascule/basculelaw09.PathsDo", spec := "pathsDo", unfollowed := true, recurses := true, named := ["bascule/op.objects"], apart := false, laid := [("bascule/op.objects", laid_bascule_op_objects)], narrowed := true }
def PathsDoUptoSaid : Prop := pathsDoUptoRow.holds Tryd.pinned (OpenSpec.upto pathsDoSpec)

/-- 'basculelaw09.PathsRun', WHERE WHAT IT READS IS OF BULK AT MOST 1048576: true; the input reads as it did. -/
def pathsRunUptoRow : OpenClaim := { program := "ytljdkjjjnlcflaadoor", sum := "f29630c21cc9e0b260194e4db13ea288cf260481b446befe30a24dc0f1ca158c", func := "bascule/basculelaw09.PathsRun", spec := "pathsRun", unfollowed := true, recurses := true, named := ["bascule/op.objects"], apart := false, laid := [("bascule/op.objects", laid_bascule_op_objects)], narrowed := true }
def PathsRunUptoSaid : Prop := pathsRunUptoRow.holds Tryd.pinned (OpenSpec.upto pathsRunSpec)

/-- 'basculelaw09.PathsStay', WHERE WHAT IT READS IS OF BULK AT MOST 1048576: true; the input reads as it did. -/
def pathsStayUptoRow : OpenClaim := { program := "ytljdkjjjnlcflaadoor", sum := "f29630c21cc9e0b260194e4db13ea288cf260481b446befe30a24dc0f1ca158c", func := "bascule/basculelaw09.PathsStay", spec := "pathsStay", unfollowed := true, recurses := true, named := ["bascule/op.objects"], apart := false, laid := [("bascule/op.objects", laid_bascule_op_objects)], narrowed := true }
def PathsStayUptoSaid : Prop := pathsStayUptoRow.holds Tryd.pinned (OpenSpec.upto pathsStaySpec)

/-- 'basculelaw09.PathsRead', WHERE WHAT IT READS IS OF BULK AT MOST 1048576: true; the input reads as it did. -/
def pathsReadUptoRow : OpenClaim := { program := "ytljdkjjjnlcflaadoor", sum := "f29630c21cc9e0b260194e4db13ea288cf260481b446befe30a24dc0f1ca158c", func := "bascule/basculelaw09.PathsRead", spec := "pathsRead", unfollowed := true, recurses := true, named := ["bascule/op.objects"], apart := false, laid := [("bascule/op.objects", laid_bascule_op_objects)], narrowed := true }
def PathsReadUptoSaid : Prop := pathsReadUptoRow.holds Tryd.pinned (OpenSpec.upto pathsReadSpec)

/-- 'basculelaw09.PathsTake', WHERE WHAT IT READS IS OF BULK AT MOST 1048576: true; the input reads as it did. -/
def pathsTakeUptoRow : OpenClaim := { program := "ytljdkjjjnlcflaadoor", sum := "f29630c21cc9e0b260194e4db13ea288cf260481b446befe30a24dc0f1ca158c", func := "bascule/basculelaw09.PathsTake", spec := "pathsTake", unfollowed := true, recurses := true, named := ["bascule/op.objects"], apart := false, laid := [("bascule/op.objects", laid_bascule_op_objects)], narrowed := true }
def PathsTakeUptoSaid : Prop := pathsTakeUptoRow.holds Tryd.pinned (OpenSpec.upto pathsTakeSpec)

end Rows
end Go.Proofs.YtljdkjjjnlcflaaDoor
