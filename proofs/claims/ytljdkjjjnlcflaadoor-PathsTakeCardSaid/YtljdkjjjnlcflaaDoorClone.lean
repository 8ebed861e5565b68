/- A copy of rows in new memory: slices.Clone. -/
import Derived.Test.YtljdkjjjnlcflaaDoorRowProg
namespace Go.Proofs.YtljdkjjjnlcflaaDoor
open Go.RowKit Go.Lib Tb Pt Opn

set_option maxRecDepth 100000 in
set_option maxHeartbeats 1000000 in
theorem clone_any (A : Option Addr) (l : List R) (d : Nat) (hl : l.length ≤ 1000000) (hA : A = none → l.length = 0 ∧ d = 0) (w : World) (h : IsR w A l) :
    Calls Tryd.prog 23 #[.slice A l.length d] w (RetR l w) := by
  have HA := Lib.hid h
  have HN := Lib.hid hA
  clear h hA
  cases A with
  | none =>
    obtain ⟨h1, h2⟩ := HN.out rfl
    obtain rfl : l = [] := List.eq_nil_of_length_eq_zero h1
    subst h2
    have hE := sl_nil
    go_enter Tryd.func23, Tryd.ntmps23
    go_wp2
    go_ret
    exact ⟨_, rfl, MadeX.nil _ _ _ _ _, Below.refl _ _⟩
  | some ad =>
    have hE := sl_some ad
    go_enter Tryd.func23, Tryd.ntmps23
    go_wp2_with (at_builtin
                 refine wpList_joinX (w0 := w) rfl (.tmp 5) (.tmp 6) _ rfl Tryd.underlying25 row_info rfl (by decide) (B := w.heap.size) (l := []) rowL_len rfl (World.ownsRow_lit w #[] 0 (Nat.le_refl _) (by unfold maxLen; omega) rfl) rfl HN.out (HA.out.below (below_one _ _)) row_one (by simp; omega) (by simp; omega) (Nat.le_refl _) (below_one _ _) ?_
                 intro v W Hv hbW Hg)
    go_ret
    exact ⟨_, rfl, Hv.out, hbW⟩
end Go.Proofs.YtljdkjjjnlcflaaDoor
