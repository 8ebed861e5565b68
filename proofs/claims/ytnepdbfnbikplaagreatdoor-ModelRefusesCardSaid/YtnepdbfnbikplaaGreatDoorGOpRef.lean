/- The document's own answers on operations. The document's own answer on which operations fit. The document's own answer on what a check says. -/
import Derived.Test.YtnepdbfnbikplaaGreatDoorGOld
import Derived.Test.YtnepdbfnbikplaaGreatDoorGMath
import Derived.Deep.LoopGhost
namespace Go.Proofs.YtnepdbfnbikplaaGreatDoor
open Go.RowKit Pt Opn
end Go.Proofs.YtnepdbfnbikplaaGreatDoor

namespace Go.Proofs.YtnepdbfnbikplaaGreatDoor
open Go.RowKit Pt Opn

theorem rfits_iff {n : Nat} {k a b c : Nat} : Fits n ⟨k, a, b, c⟩ ↔ ((k = 1 ∧ Prefix n a b ∧ c ≤ 2147483647) ∨ (k = 2 ∧ Prefix n a b ∧ c = 0) ∨ (k = 3 ∧ a < 2 ^ n ∧ b = 0 ∧ c = 0) ∨
  ((k = 4 ∨ k = 8) ∧ a ≤ 2147483647 ∧ b ≤ 2147483647 ∧ c = 0) ∨ ((k = 5 ∨ k = 6 ∨ k = 7) ∧ a ≤ 2147483647 ∧ b = 0 ∧ c = 0) ∨
  (k = 9 ∧ a ≤ 65535 ∧ b ≤ 65535 ∧ (c = 1 ∨ c = 2)) ∨ (k = 10 ∧ a ≤ 65535 ∧ b ≤ 65535 ∧ c = 0) ∨
  (k = 11 ∧ 1 ≤ a ∧ a ≤ 65535 ∧ 1 ≤ b ∧ b ≤ 65535 ∧ c = 0) ∨ (k = 12 ∧ Path a b ∧ c ≤ 2147483647) ∨ ((k = 13 ∨ k = 14) ∧ Path a b ∧ c = 0)) := Iff.rfl
theorem prefix_whole {n a : Nat} : Prefix n a n ↔ a < 2 ^ n := by unfold Prefix; simp

end Go.Proofs.YtnepdbfnbikplaaGreatDoor

namespace Go.Proofs.YtnepdbfnbikplaaGreatDoor
open Go.RowKit Pt Opn
theorem rObj_kind {c : Cf} (h : Ok c) {k : Nat} (e : (objAt k : Int) = c.obj) : 1 ≤ k ∧ k ≤ 14 := by
  have h1 : 1 ≤ c.obj := by have := h.1; unfold ObjOk at this; omega
  unfold objAt at e
  split at e
  · omega
  · refine ⟨by omega, ?_⟩
    by_cases h2 : k ≤ 14
    · exact h2
    · rw [if_neg (by omega), if_neg (by omega), if_neg (by omega), if_neg h2] at e; omega

end Go.Proofs.YtnepdbfnbikplaaGreatDoor
