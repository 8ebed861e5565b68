/- Rows of cells and of numbers that come in. -/
import Derived.Deep.Slices
import Derived.Deep.Fields
import Derived.ChangeSame
import Derived.ProofKit
import Derived.OpenShut
import Derived.ChangeSlices
import Derived.Test.YtiaimenngmfnmaaCeRow
import Derived.Test.YtiaimenngmfnmaaLaw
namespace Go.Proofs.Ytiaimenngmfnmaa
open Go.ChangeShapes Go.WideShapes Go.ChangeAt Go.RowKit Go.Deep Ce

section
variable {H : Type} {enc : TypeId × Value → H} {W : World} {b : Nat} {sp : Nat → Bool} {hd : Bool} {r : Reach} {base : Nat}

theorem addr_of_cell {w : World} {a : Addr} {n : Nat} {v : Value} (hn : n = 0) (h : w.cell? (a.add n) = some v) : ∃ bk off, a = ⟨bk, off, none⟩ := by
  subst hn
  obtain ⟨bk, off, v'⟩ := a
  cases v' with
  | none => exact ⟨bk, off, rfl⟩
  | some x =>
    exfalso
    simp only [Addr.add, World.cell?] at h
    split at h
    · split at h <;> simp_all
    · cases h
theorem add_eq (bk off n : Nat) : (⟨bk, off, none⟩ : Addr).add n = ⟨bk, off + n, none⟩ := by
  unfold Addr.add
  split
  · rename_i h; subst h; rfl
  · rfl

theorem cells_four : Try.prog.cellsOf 25 = 4 := by kernel_rfl

/-- Four words that are read at one place. -/
theorem words_of {n : Nat} {cs : List Value} {y : DataW H × List MemPlace} (h : DataW.trod enc Try.prog W b sp hd n 25 cs = some y) : ∃ x : C4, cs = [.int .u64 x.t, .int .u64 x.a, .int .u64 x.b, .int .u64 x.c] := by
  obtain ⟨xs, m, _, _, hlen, _, hf⟩ := DataW.trod_struct Try.underlying25 h
  rw [cells_four] at hlen
  match cs, hlen with
  | [v0, v1, v2, v3], _ =>
    have k : Try.prog.cellsOf 23 = 1 := by kernel_rfl
    have h0 : DataW.trod enc Try.prog W b sp hd m 23 (([v0, v1, v2, v3].drop 0).take (Try.prog.cellsOf 23)) = xs[0]? := hf 0 _ rfl
    have h1 : DataW.trod enc Try.prog W b sp hd m 23 (([v0, v1, v2, v3].drop 1).take (Try.prog.cellsOf 23)) = xs[1]? := hf 1 _ rfl
    have h2 : DataW.trod enc Try.prog W b sp hd m 23 (([v0, v1, v2, v3].drop 2).take (Try.prog.cellsOf 23)) = xs[2]? := hf 2 _ rfl
    have h3 : DataW.trod enc Try.prog W b sp hd m 23 (([v0, v1, v2, v3].drop 3).take (Try.prog.cellsOf 23)) = xs[3]? := hf 3 _ rfl
    rw [k] at h0 h1 h2 h3
    have hl : xs.length = 4 := by assumption
    have g : ∀ j, j < 4 → ∃ y, xs[j]? = some y := fun j hj => ⟨_, List.getElem?_eq_getElem (by omega)⟩
    obtain ⟨y0, e0⟩ := g 0 (by omega)
    obtain ⟨y1, e1⟩ := g 1 (by omega)
    obtain ⟨y2, e2⟩ := g 2 (by omega)
    obtain ⟨y3, e3⟩ := g 3 (by omega)
    obtain ⟨x0, f0, _, _⟩ := DataW.trod_int Try.underlying23 (h0.trans e0)
    obtain ⟨x1, f1, _, _⟩ := DataW.trod_int Try.underlying23 (h1.trans e1)
    obtain ⟨x2, f2, _, _⟩ := DataW.trod_int Try.underlying23 (h2.trans e2)
    obtain ⟨x3, f3, _, _⟩ := DataW.trod_int Try.underlying23 (h3.trans e3)
    simp at f0 f1 f2 f3
    exact ⟨⟨x0, x1, x2, x3⟩, by rw [f0, f1, f2, f3]⟩

theorem open_cells {v : Value} {d : DataW H} {p : List MemPlace} (hv : Value.okWide Try.prog W r base 35 v) (h : DataW.Trod enc Try.prog W b (fun _ => true) hd 35 v d p) :
    ∃ A N c cf, v = .slice A N c ∧ (N ≤ c ∧ c ≤ 9223372036854775807) ∧ (A = none → N = 0 ∧ c = 0) ∧ IsCells W A N cf := by
  obtain ⟨a, len, cap, rfl⟩ := okWide_slice Try.underlying35 hv
  obtain ⟨fuel, hf⟩ := h
  rcases open_slice Try.underlying35 hf with ⟨hcs, _⟩ | ⟨a', len', cap', m, n, D, Pl, hcs, _, hl, hm, hmm, _, hi⟩
  · simp [Value.cells] at hcs
    obtain ⟨rfl, rfl, rfl⟩ := hcs
    exact ⟨none, 0, 0, fun _ => C4.zero, rfl, by omega, fun _ => ⟨rfl, rfl⟩, fun i hi => by omega⟩
  · simp [Value.cells] at hcs
    obtain ⟨rfl, rfl, rfl⟩ := hcs
    simp only [if_true] at hmm
    subst hmm
    have each : ∀ i, ∃ x : C4, i < len → ∀ j u, (l4 x)[j]? = some u → W.cell? (a'.add (i * 4 + j)) = some u := fun i => by
      by_cases hlt : i < len
      · obtain ⟨cs', hc, ht⟩ := hi i (by omega)
        rw [cells_four] at hc
        obtain ⟨x, rfl⟩ := words_of ht
        obtain ⟨_, _, hat⟩ := World.cells?_some hc
        refine ⟨x, fun _ j u hu => ?_⟩
        have hj : j < 4 := (List.getElem?_eq_some_iff.1 hu).1
        have := hat j hj
        rw [← Go.Deep.add_add, this]
        exact hu
      · exact ⟨C4.zero, fun h => absurd h hlt⟩
    obtain ⟨cf, hcf⟩ := Classical.axiomOfChoice each
    refine ⟨_, len, _, cf, rfl, ⟨hl, by unfold maxLen at hm; omega⟩, (fun h => by cases h), fun i hlt => ?_⟩
    have h0 := hcf i hlt 0 _ rfl
    obtain ⟨bk, off, rfl⟩ : ∃ bk off, a' = ⟨bk, off, none⟩ := addr_of_cell (w := W) (n := 0 * 4 + 0) (by omega) (hcf 0 (by omega) 0 _ rfl)
    have c : ∀ j u, (l4 (cf i))[j]? = some u → W.cell? ⟨bk, off + i * 4 + j, none⟩ = some u := fun j u hu => by
      have := hcf i hlt j u hu
      rwa [add_eq, ← Nat.add_assoc] at this
    exact ⟨bk, off, rfl, c 0 _ rfl, c 1 _ rfl, c 2 _ rfl, c 3 _ rfl⟩

/-- n numbers of 64 bits lie at A. -/
def IsNums (k : IntKind) (w : World) (A : Option Addr) (n : Nat) (f : Nat → Int) : Prop := ∀ i, i < n → ∃ b off, A = some ⟨b, off, none⟩ ∧ w.cell? ⟨b, off + i, none⟩ = some (.int k (f i))
theorem IsNums.same {k : IntKind} {w w' : World} {A : Option Addr} {n : Nat} {f : Nat → Int} (h : IsNums k w A n f) (hs : ∀ k, k < w.heap.size → w'.heap[k]? = w.heap[k]?) : IsNums k w' A n f := fun i hi => by
  obtain ⟨b, off, e, h1⟩ := h i hi
  exact ⟨b, off, e, (World.cell?_of_block (w := w) (hs b (World.block_lt_of_cell? _ _ h1))).trans h1⟩
theorem open_nums {k : IntKind} {t e : TypeId} (ht : Try.prog.underlying t = some (.slice e)) (he : Try.prog.underlying e = some (.int k)) (hc1 : Try.prog.cellsOf e = 1) {v : Value} {d : DataW H} {p : List MemPlace} (hv : Value.okWide Try.prog W r base t v) (h : DataW.Trod enc Try.prog W b (fun _ => true) hd t v d p) :
    ∃ A N c f, v = .slice A N c ∧ (N ≤ c ∧ c ≤ 9223372036854775807) ∧ (A = none → N = 0 ∧ c = 0) ∧ IsNums k W A N f := by
  obtain ⟨a, len, cap, rfl⟩ := okWide_slice ht hv
  obtain ⟨fuel, hf⟩ := h
  rcases open_ints ht he hc1 hf with ⟨hcs, _⟩ | ⟨a', len', cap', zs, hcs, _, hl, hm, hz, _, hc, hw⟩
  · simp [Value.cells] at hcs
    obtain ⟨rfl, rfl, rfl⟩ := hcs
    exact ⟨none, 0, 0, fun _ => 0, rfl, by omega, fun _ => ⟨rfl, rfl⟩, fun i hi => by omega⟩
  · simp [Value.cells] at hcs
    obtain ⟨rfl, rfl, rfl⟩ := hcs
    simp only [if_true] at hz
    refine ⟨_, len, cap, fun i => zs.getD i 0, rfl, ⟨hl, by unfold maxLen at hm; omega⟩, (fun h => by cases h), fun i hi => ?_⟩
    have c0 := hc i (by omega)
    obtain ⟨bk, off, rfl⟩ := addr_of_cell rfl (hc 0 (by omega))
    rw [add_eq] at c0
    exact ⟨bk, off, rfl, c0⟩
end
end Go.Proofs.Ytiaimenngmfnmaa
