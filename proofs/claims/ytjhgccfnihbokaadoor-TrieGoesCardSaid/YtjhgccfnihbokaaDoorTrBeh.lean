/- What becomes of a frame of a table of routes: the document's own. -/
import Derived.Test.YtjhgccfnihbokaaDoorTrRef
namespace Go.Proofs.YtjhgccfnihbokaaDoor
open Go.RowKit Pt Opn

/-- A cell. -/
def cvT (t A B C : Nat) : Value := .agg #[.int .u64 (t : Nat), .int .u64 (A : Nat), .int .u64 (B : Nat), .int .u64 (C : Nat)]

set_option maxRecDepth 100000 in
set_option maxHeartbeats 8000000 in
theorem rLookT_any (c : Cf) (f : Ds) (t A B C : Nat) (hb : 0 ≤ c.bits ∧ c.bits ≤ 6) (hh : f.h ≤ 6) (w : World) : Calls Tryd.prog 52 #[cfv c, frv f, cvT t A B C] w (Ret (frv (lookT c f A B)) w) := by
  obtain ⟨X, hX⟩ : ∃ X, lookT c f A B = X := ⟨_, rfl⟩
  rw [hX]
  obtain ⟨nb, hnb⟩ : ∃ n : Nat, c.bits = n := ⟨c.bits.toNat, by omega⟩
  unfold lookT at hX
  rw [hnb] at hX hb
  simp only [Int.toNat_natCast] at hX
  unfold cfv cvT frv
  rw [hnb]
  clear hnb
  obtain ⟨t', k, seq, kind, a, b, pc, i, j, n, p, h, x, y⟩ := f
  obtain ⟨V, hV⟩ : ∃ V, A % 4294967296 = V := ⟨_, rfl⟩
  have e1 : IntKind.u32.wrap ((A : Int) % 4294967296) = (V : Int) := by rw [IntKind.wrap_u32]; omega
  rw [hV] at hX
  clear hV
  simp only at hX hh ⊢
  have h1 : IntKind.u8.wrap ((h : Int) + 1) = ((h + 1 : Nat) : Int) := by rw [IntKind.wrap_u8]; omega
  have hv : V = 0 ∨ (V ≠ 0 ∧ ((V : Int) != 0) = true ∧ ((V : Int) == 0) = false) := by
    by_cases g : V = 0
    · exact .inl g
    · exact .inr ⟨g, by simp; omega, by simp; omega⟩
  have hB : (1 < B ∧ (1 : Int) < B) ∨ B = 1 ∨ B = 0 := by omega
  have hlt : (h < nb ∧ (h : Int) < nb) ∨ (¬ h < nb ∧ ¬ (h : Int) < nb) := by omega
  have hx : x = 0 ∨ (x ≠ 0 ∧ ((x : Int) != 0) = true) := by
    by_cases g : x = 0
    · exact .inl g
    · exact .inr ⟨g, by simp; omega⟩
  rcases hx with rfl | ⟨x1, x2⟩ <;> rcases hv with rfl | ⟨v1, v2, v3⟩ <;> rcases hB with ⟨B1, B2⟩ | rfl | rfl <;> rcases hlt with ⟨g1, g2⟩ | ⟨g1, g2⟩
  all_goals
    simp [*] at hX
    subst hX
    go_enter Tryd.func52, Tryd.ntmps52
    go_wp2
    refine bodyPost_ret ?_ rfl ⟨rfl, ?_⟩
    · simp [results, Tryd.results52, go_sem]
    · (repeat' (first | with_reducible exact Below.refl _ _ | (with_reducible refine Below.setCell ?_ ?_ _) | (with_reducible refine Below.alloc ?_ ?_ _))) <;> (simp; try omega)
end Go.Proofs.YtjhgccfnihbokaaDoor
