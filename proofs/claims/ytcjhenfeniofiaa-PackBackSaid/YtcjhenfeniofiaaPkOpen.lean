/- Lists of fields and of numbers that come in. -/
import Derived.Deep.SlicePairs
import Derived.ProofKit
import Derived.OpenShut
import Derived.ChangeSlices
import Derived.Test.YtcjhenfeniofiaaPkSplit
namespace Go.Proofs.Ytcjhenfeniofiaa
open Go.ChangeShapes Go.WideShapes Go.ChangeAt Go.RowKit Go.Deep

section
variable {H : Type} {enc : TypeId × Value → H} {W : World} {b : Nat} {sp : Nat → Bool} {hd : Bool} {r : Reach} {base : Nat}

/-- An address that holds a cell. -/
theorem addr_of_cell {w : World} {a : Addr} {n : Nat} {v : Value} (hn : n = 0) (h : w.cell? (a.add n) = some v) : ∃ bk off, a = ⟨bk, off, none⟩ := by
  subst hn
  obtain ⟨bk, off, v'⟩ := a
  cases v' with
  | none => exact ⟨bk, off, rfl⟩
  | some x =>
    exfalso
    simp only [Addr.add, World.cell?] at h
    split at h
    · split at h <;> simp_all
    · cases h

theorem add_eq (bk off n : Nat) : (⟨bk, off, none⟩ : Addr).add n = ⟨bk, off + n, none⟩ := by
  unfold Addr.add
  split
  · rename_i h; subst h; rfl
  · rfl

theorem fields_cells : Try.prog.cellsOf 29 = 2 := by kernel_rfl

theorem open_fields {v : Value} {d : DataW H} {p : List MemPlace} (hv : Value.okWide Try.prog W r base 30 v) (h : DataW.Trod enc Try.prog W b (fun _ => true) hd 30 v d p) :
    ∃ A N c bf vf, v = .slice A N c ∧ (N ≤ c ∧ c ≤ 9223372036854775807) ∧ (A = none → N = 0 ∧ c = 0) ∧ IsFields W A N bf vf ∧ (∀ i, i < N → vf i < 18446744073709551616 ∧ (Lit.int .i64 (bf i)).wf = true) := by
  obtain ⟨a, len, cap, rfl⟩ := okWide_slice Try.underlying30 hv
  obtain ⟨fuel, hf⟩ := h
  rcases open_slice_pairs Try.underlying30 Try.underlying29 fields_cells rfl rfl (by kernel_rfl) (by kernel_rfl) hf with ⟨hcs, _⟩ | ⟨a', len', cap', m, n, V0, V1, D0, D1, P0, P1, hcs, _, hl, hm, hmm, _, hc⟩
  · simp [Value.cells] at hcs
    obtain ⟨rfl, rfl, rfl⟩ := hcs
    exact ⟨none, 0, 0, fun _ => 0, fun _ => 0, rfl, by omega, fun _ => ⟨rfl, rfl⟩, fun i hi => by omega, fun i hi => by omega⟩
  · simp [Value.cells] at hcs
    obtain ⟨rfl, rfl, rfl⟩ := hcs
    simp only [if_true] at hmm
    subst hmm
    have each : ∀ i, ∃ q : Int × Nat, i < len → V0 i = .int .i64 q.1 ∧ V1 i = .int .u64 (q.2 : Nat) ∧ q.2 < 18446744073709551616 ∧ (Lit.int .i64 q.1).wf = true := fun i => by
      by_cases hi : i < len
      · obtain ⟨_, _, t0, t1⟩ := hc i (by omega)
        obtain ⟨x, e0, _, w0⟩ := DataW.trod_int Try.underlying3 t0
        obtain ⟨y, e1, _, w1⟩ := DataW.trod_int Try.underlying22 t1
        obtain ⟨Y, rfl, hY⟩ := u64_nat w1
        simp at e0 e1
        exact ⟨(x, Y), fun _ => ⟨e0, e1, hY, w0⟩⟩
      · exact ⟨(0, 0), fun h => absurd h hi⟩
    obtain ⟨q, hq⟩ := Classical.axiomOfChoice each
    refine ⟨_, len, _, fun i => (q i).1, fun i => (q i).2, rfl, ⟨hl, by unfold maxLen at hm; omega⟩, (fun h => by cases h), fun i hi => ?_, fun i hi => ⟨(hq i hi).2.2.1, (hq i hi).2.2.2⟩⟩
    obtain ⟨c0, c1, _, _⟩ := hc i (by omega)
    obtain ⟨bk, off, rfl⟩ := addr_of_cell (by omega) (hc 0 (by omega)).1
    rw [add_eq] at c0 c1
    exact ⟨bk, off, rfl, by rw [c0, (hq i hi).1], by rw [Nat.add_assoc, c1, (hq i hi).2.1]⟩

theorem open_numbers {v : Value} {d : DataW H} {p : List MemPlace} (hv : Value.okWide Try.prog W r base 34 v) (h : DataW.Trod enc Try.prog W b (fun _ => true) hd 34 v d p) :
    ∃ A N c bf, v = .slice A N c ∧ (N ≤ c ∧ c ≤ 9223372036854775807) ∧ (A = none → N = 0 ∧ c = 0) ∧ IsInts W A N bf ∧ (∀ i, i < N → (Lit.int .i64 (bf i)).wf = true) := by
  obtain ⟨a, len, cap, rfl⟩ := okWide_slice Try.underlying34 hv
  obtain ⟨fuel, hf⟩ := h
  rcases open_ints Try.underlying34 Try.underlying3 (by kernel_rfl) hf with ⟨hcs, _⟩ | ⟨a', len', cap', zs, hcs, _, hl, hm, hz, _, hc, hw⟩
  · simp [Value.cells] at hcs
    obtain ⟨rfl, rfl, rfl⟩ := hcs
    exact ⟨none, 0, 0, fun _ => 0, rfl, by omega, fun _ => ⟨rfl, rfl⟩, fun i hi => by omega, fun i hi => by omega⟩
  · simp [Value.cells] at hcs
    obtain ⟨rfl, rfl, rfl⟩ := hcs
    simp only [if_true] at hz
    refine ⟨_, len, cap, fun i => zs.getD i 0, rfl, ⟨hl, by unfold maxLen at hm; omega⟩, (fun h => by cases h), fun i hi => ?_, fun i hi => ?_⟩
    · have c0 := hc i (by omega)
      obtain ⟨bk, off, rfl⟩ := addr_of_cell rfl (hc 0 (by omega))
      rw [add_eq] at c0
      exact ⟨bk, off, rfl, c0⟩
    · have hi' : i < zs.length := by omega
      have e : zs.getD i 0 = zs[i] := by simp [hi']
      show (Lit.int .i64 (zs.getD i 0)).wf = true
      rw [e]
      exact hw _ (List.getElem_mem hi')
end
end Go.Proofs.Ytcjhenfeniofiaa
