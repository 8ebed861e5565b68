/-
  No cell of these rows narrows 'for every input' (looked for: loops, veiled, ifaces, maps, wideKeys, modest, calm, conditions, laid).
  DERIVED. THE GIVEN ROWS OF THIS SEAT. 5 by the template 'for every input the law returns true; each argument reads behind the call as it read before'; 0 by the template 'total and deterministic' (their statements: YtpepahecjkkpbaaTotals.lean).
  GIVEN WITH THE SEED: the statements are not yours to turn. If you find one false, say at which input.
  Laid BY PROGRAM, IN A SANDBOX (cutbox-rows.mjs): the forced cells as the released guide's own fill.sh prints them over the translation 1c3f8a5744552f11… (all of the seat's roots in one cut). By AI agents, Wed Nov 11 2026. No macro, syntax, notation, axiom, sorry.
-/
import Derived.Test.YtpepahecjkkpbaaChecked
import GoSem.Claim
import GoSem.ClaimJoined
import GoSem.ClaimMapViews
import Derived.JoinedTies
import Derived.KernelRfl
namespace Go.Proofs.Ytpepahecjkkpbaa
/- THE CELL 'sum', in the pinned program and in every row, IS THE sha256 OF THE DUMP (.gsa) THAT YtpepahecjkkpbaaProg.lean LOADS. Nothing in Lean hashes anything: it is a label: what it is worth is what the hold of that sum in a sandbox is worth. -/
noncomputable def Try.pinned : Pinned := { name := "ytpepahecjkkpbaa", sum := "1c3f8a5744552f11a1c39cfa87bf02423337f4ce6892635b8c41ccaa3236e32f", checked := Try.checked }
namespace Rows
def none {H : Type} : Left H := { results := [], args := [] }

/-- 'basculelaw11.RegNames': WHATEVER THE INPUT: true; the input reads as it did. -/
def regNamesSpec : ChangeSpec := { name := "regNames", fn := fun _ => fun
  | [] => { results := [.lit (.bool true)], args := [] }
  | _ => none }
def regNamesRow : OpenClaim := { program := "ytpepahecjkkpbaa", sum := "1c3f8a5744552f11a1c39cfa87bf02423337f4ce6892635b8c41ccaa3236e32f", func := "bascule/basculelaw11.RegNames", spec := "regNames", unfollowed := true, recurses := true, apart := false }
def RegNamesSaid : Prop := regNamesRow.holds Try.pinned (OpenSpec.ofChange regNamesSpec)

/-- ITS FALSE NEIGHBOUR: 'it returns false'. Refute it at one input. -/
def regNamesWrong : ChangeSpec := { name := "regNames", fn := fun _ => fun
  | [] => { results := [.lit (.bool false)], args := [] }
  | _ => none }
def RegNamesWrongFalsely : Prop := regNamesRow.holds Try.pinned (OpenSpec.ofChange regNamesWrong)

/-- 'basculelaw11.RegLays': WHATEVER THE INPUT: true; the input reads as it did. -/
def regLaysSpec : ChangeSpec := { name := "regLays", fn := fun _ => fun
  | [d1, d2, d3] => { results := [.lit (.bool true)], args := [d1, d2, d3] }
  | _ => none }
def regLaysRow : OpenClaim := { program := "ytpepahecjkkpbaa", sum := "1c3f8a5744552f11a1c39cfa87bf02423337f4ce6892635b8c41ccaa3236e32f", func := "bascule/basculelaw11.RegLays", spec := "regLays", unfollowed := true, recurses := true, apart := false }
def RegLaysSaid : Prop := regLaysRow.holds Try.pinned (OpenSpec.ofChange regLaysSpec)

/-- ITS FALSE NEIGHBOUR: 'it returns false'. Refute it at one input. -/
def regLaysWrong : ChangeSpec := { name := "regLays", fn := fun _ => fun
  | [d1, d2, d3] => { results := [.lit (.bool false)], args := [d1, d2, d3] }
  | _ => none }
def RegLaysWrongFalsely : Prop := regLaysRow.holds Try.pinned (OpenSpec.ofChange regLaysWrong)

/-- 'basculelaw11.RegBack': WHATEVER THE INPUT: true; the input reads as it did. -/
def regBackSpec : ChangeSpec := { name := "regBack", fn := fun _ => fun
  | [d] => { results := [.lit (.bool true)], args := [d] }
  | _ => none }
def regBackRow : OpenClaim := { program := "ytpepahecjkkpbaa", sum := "1c3f8a5744552f11a1c39cfa87bf02423337f4ce6892635b8c41ccaa3236e32f", func := "bascule/basculelaw11.RegBack", spec := "regBack", unfollowed := true, recurses := true, apart := false }
def RegBackSaid : Prop := regBackRow.holds Try.pinned (OpenSpec.ofChange regBackSpec)

/-- ITS FALSE NEIGHBOUR: 'it returns false'. Refute it at one input. -/
def regBackWrong : ChangeSpec := { name := "regBack", fn := fun _ => fun
  | [d] => { results := [.lit (.bool false)], args := [d] }
  | _ => none }
def RegBackWrongFalsely : Prop := regBackRow.holds Try.pinned (OpenSpec.ofChange regBackWrong)

/-- 'basculelaw11.RegThere': WHATEVER THE INPUT: true; the input reads as it did. -/
def regThereSpec : ChangeSpec := { name := "regThere", fn := fun _ => fun
  | [d] => { results := [.lit (.bool true)], args := [d] }
  | _ => none }
def regThereRow : OpenClaim := { program := "ytpepahecjkkpbaa", sum := "1c3f8a5744552f11a1c39cfa87bf02423337f4ce6892635b8c41ccaa3236e32f", func := "bascule/basculelaw11.RegThere", spec := "regThere", unfollowed := true, recurses := true, apart := false }
def RegThereSaid : Prop := regThereRow.holds Try.pinned (OpenSpec.ofChange regThereSpec)

/-- ITS FALSE NEIGHBOUR: 'it returns false'. Refute it at one input. -/
def regThereWrong : ChangeSpec := { name := "regThere", fn := fun _ => fun
  | [d] => { results := [.lit (.bool false)], args := [d] }
  | _ => none }
def RegThereWrongFalsely : Prop := regThereRow.holds Try.pinned (OpenSpec.ofChange regThereWrong)

/-- 'basculelaw11.RegStarts': WHATEVER THE INPUT: true; the input reads as it did. -/
def regStartsSpec : ChangeSpec := { name := "regStarts", fn := fun _ => fun
  | [d1, d2] => { results := [.lit (.bool true)], args := [d1, d2] }
  | _ => none }
def regStartsRow : OpenClaim := { program := "ytpepahecjkkpbaa", sum := "1c3f8a5744552f11a1c39cfa87bf02423337f4ce6892635b8c41ccaa3236e32f", func := "bascule/basculelaw11.RegStarts", spec := "regStarts", unfollowed := true, recurses := true, apart := false }
def RegStartsSaid : Prop := regStartsRow.holds Try.pinned (OpenSpec.ofChange regStartsSpec)

/-- ITS FALSE NEIGHBOUR: 'it returns false'. Refute it at one input. -/
def regStartsWrong : ChangeSpec := { name := "regStarts", fn := fun _ => fun
  | [d1, d2] => { results := [.lit (.bool false)], args := [d1, d2] }
  | _ => none }
def RegStartsWrongFalsely : Prop := regStartsRow.holds Try.pinned (OpenSpec.ofChange regStartsWrong)

/- THE SECOND FORM. 'bulk': how many values and letters a reading holds, each counted each time it is reached (what is shared counts as often as it is met; a slice's spare places count too). A statement '..UptoSaid' is the law's where the arguments, and the package variables that the reading takes, are together of bulk at most 1048576: NARROWER than '..Said'. Prove '..Said' where nothing that the law and all that it calls make is longer than what came in: it says more and counts as full. Else prove '..UptoSaid'. A law counts once. -/
mutual
def uptoBulk {H : Type} : DataW H → Nat
  | .lit (.string bytes) => bytes.length + 1
  | .lit _ => 1
  | .nil => 1
  | .ptr d => uptoBulk d + 1
  | .slice elems spare => uptoBulkAll elems + uptoBulkAll spare + 1
  | .agg parts => uptoBulkAll parts + 1
  | .iface _ d => uptoBulk d + 1
  | .map entries => uptoBulkEntries entries + 1
  | .held _ => 1
def uptoBulkAll {H : Type} : List (DataW H) → Nat
  | [] => 0
  | d :: r => uptoBulk d + uptoBulkAll r
def uptoBulkEntries {H : Type} : List (Lit × DataW H) → Nat
  | [] => 0
  | x :: r => uptoBulkEntry x + uptoBulkEntries r
def uptoBulkEntry {H : Type} : Lit × DataW H → Nat
  | (.string bytes, d) => bytes.length + uptoBulk d + 1
  | (_, d) => uptoBulk d + 1
 end
def uptoSmall : (H : Type) → List (DataW H) → Bool := fun _ ds => decide (uptoBulkAll ds ≤ 1048576)
def OpenSpec.upto (s : _root_.Go.ChangeSpec) : _root_.Go.OpenSpec := { _root_.Go.OpenSpec.ofChange s with cond := some uptoSmall }

/-- 'basculelaw11.RegNames', WHERE WHAT IT READS IS OF BULK AT MOST 1048576: true; the input reads as it did. -/
def regNamesUptoRow : OpenClaim := { program := "ytpepahecjkkpbaa", sum := "1c3f8a5744552f11a1c39cfa87bf02423337f4ce6892635b8c41ccaa3236e32f", func := "bascule/basculelaw11.RegNames", spec := "regNames", unfollowed := true, recurses := true, apart := false, narrowed := true }
def RegNamesUptoSaid : Prop := regNamesUptoRow.holds Try.pinned (OpenSpec.upto regNamesSpec)

/-- 'basculelaw11.RegLays', WHERE WHAT IT READS IS OF BULK AT MOST 1048576: true; the input reads as it did. -/
def regLaysUptoRow : OpenClaim := { program := "ytpepahecjkkpbaa", sum := "1c3f8a5744552f11a1c39cfa87bf02423337f4ce6892635b8c41ccaa3236e32f", func := "bascule/basculelaw11.RegLays", spec := "regLays", unfollowed := true, recurses := true, apart := false, narrowed := true }
def RegLaysUptoSaid : Prop := regLaysUptoRow.holds Try.pinned (OpenSpec.upto regLaysSpec)

/-- 'basculelaw11.RegBack', WHERE WHAT IT READS IS OF BULK AT MOST 1048576: true; the input reads as it did. -/
def regBackUptoRow : OpenClaim := { program := "ytpepahecjkkpbaa", sum := "1c3f8a5744552f11a1c39cfa87bf02423337f4ce6892635b8c41ccaa3236e32f", func := "bascule/basculelaw11.RegBack", spec := "regBack", unfollowed := true, recurses := true, apart := false, narrowed := true }
def RegBackUptoSaid : Prop := regBackUptoRow.holds Try.pinned (OpenSpec.upto regBackSpec)

/-- 'basculelaw11.RegThere', WHERE WHAT IT READS IS OF BULK AT MOST 1048576: true; the input reads as it did. -/
def regThereUptoRow : OpenClaim := { program := "ytpepahecjkkpbaa", sum := "1c3f8a5744552f11a1c39cfa87bf02423337f4ce6892635b8c41ccaa3236e32f", func := "bascule/basculelaw11.RegThere", spec := "regThere", unfollowed := true, recurses := true, apart := false, narrowed := true }
def RegThereUptoSaid : Prop := regThereUptoRow.holds Try.pinned (OpenSpec.upto regThereSpec)

/-- 'basculelaw11.RegStarts', WHERE WHAT IT READS IS OF BULK AT MOST 1048576: true; the input reads as it did. -/
def regStartsUptoRow : OpenClaim := { program := "ytpepahecjkkpbaa", sum := "1c3f8a5744552f11a1c39cfa87bf02423337f4ce6892635b8c41ccaa3236e32f", func := "bascule/basculelaw11.RegStarts", spec := "regStarts", unfollowed := true, recurses := true, apart := false, narrowed := true }
def RegStartsUptoSaid : Prop := regStartsUptoRow.holds Try.pinned (OpenSpec.upto regStartsSpec)

end Rows
end Go.Proofs.Ytpepahecjkkpbaa
