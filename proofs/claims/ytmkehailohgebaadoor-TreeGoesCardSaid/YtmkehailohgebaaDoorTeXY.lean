/- A frame of an index keeps to the numbers of its registers X and Y. -/
import Derived.Test.YtmkehailohgebaaDoorGTe1
namespace Go.Proofs.YtmkehailohgebaaDoor
open Pt Opn

def BdX (f : Ds) : Prop := f.x < 4294967296 ∧ f.y < 4294967296
theorem bd_fresh {c : Cf} {f : Ds} (h : BdX f) : BdX (freshX c f) := by
  unfold freshX
  (repeat' split) <;> exact h
theorem bd_next {f : Ds} (h : BdX f) : BdX (nextOne f) := by
  unfold nextOne
  (repeat' split) <;> exact h
theorem bd_on {c : Cf} {f : Ds} (h : BdX f) : BdX (onX c f).1 := by
  unfold onX
  (repeat' split) <;> first | exact h | exact bd_next (f := { f with j := f.j + 1 }) h
theorem bd_found {c : Cf} {f : Ds} (h : BdX f) : BdX (foundX c f).1 := by
  unfold foundX
  (repeat' split) <;> first | exact h | exact bd_on h | exact bd_fresh h
theorem bd_none {c : Cf} {f : Ds} (h : BdX f) : BdX (noneX c f) := by
  unfold noneX
  (repeat' split) <;> first | exact h | exact bd_fresh (f := { f with p := f.n }) h
theorem bd_goUp {c : Cf} : ∀ (m : Nat) (f : Ds), BdX f → BdX (goUp c m f)
  | 0, f, h => by unfold goUp; split <;> exact h
  | m + 1, f, h => by
    simp only [goUp]
    split
    · exact h
    · split
      · exact h
      · exact bd_goUp m _ h
theorem bd_over (f : Ds) (A B : Nat) : BdX (overX f A B) := ⟨Nat.mod_lt _ (by decide), Nat.mod_lt _ (by decide)⟩
theorem bd_item {c : Cf} {f : Ds} (h : BdX f) (A B : Nat) : BdX (itemX c f A B).1 := by
  unfold itemX
  split
  · split
    · exact bd_found (bd_over _ _ _)
    · exact h
  · split
    · exact bd_none h
    · exact h
theorem bd_head {c : Cf} {f : Ds} (h : BdX f) (A : Nat) : BdX (headX c f A) := by
  unfold headX
  generalize (if (A : Int) < c.cap then A else c.cap.toNat) = n
  simp only
  split
  · exact bd_none (f := { f with n := 0 }) h
  · exact h
theorem bd_behind {c : Cf} {f : Ds} (h : BdX f) (A B : Nat) : BdX (behindX c f A B).1 := by
  by_cases e0 : f.pc = 0
  · rw [bh_0 e0]
    exact bd_head h A
  by_cases e1 : f.pc = 1
  · rw [bh_1 e1]
    exact bd_item h A B
  by_cases e3 : f.pc = 3
  · rw [bh_3 e3]
    exact bd_over f A B
  by_cases e4 : f.pc = 4
  · rw [bh_4 e4]
    exact h
  by_cases e5 : f.pc = 5
  · rw [bh_5 e5]
    exact bd_over f A B
  by_cases e6 : f.pc = 6
  · rw [bh_6 e6]
    (split <;> exact h)
  by_cases e7 : f.pc = 7
  · rw [bh_7 e7]
    exact h
  by_cases e8 : f.pc = 8
  · rw [bh_8 e8]
    exact bd_goUp _ _ h
  by_cases e9 : f.pc = 9
  · rw [bh_9 e9]
    exact bd_over f A B
  by_cases e11 : f.pc = 11
  · rw [bh_11 e11]
    split
    · exact h
    · split
      · exact h
      · exact bd_goUp _ _ h
  by_cases e12 : f.pc = 12
  · rw [bh_12 e12]
    exact bd_goUp _ _ h
  by_cases e13 : f.pc = 13
  · rw [bh_13 e13]
    exact bd_over f A B
  by_cases e14 : f.pc = 14
  · rw [bh_14 e14]
    (split <;> exact h)
  by_cases e15 : f.pc = 15
  · rw [bh_15 e15]
    exact h
  by_cases e16 : f.pc = 16
  · rw [bh_16 e16]
    exact bd_next (f := { f with j := 0 }) h
  by_cases e17 : f.pc = 17
  · rw [bh_17 e17]
    exact bd_on (bd_over _ _ _)
  rw [show behindX c f A B = (f, false) from by unfold behindX; (repeat rw [if_neg (by assumption)])]
  exact h
end Go.Proofs.YtmkehailohgebaaDoor
