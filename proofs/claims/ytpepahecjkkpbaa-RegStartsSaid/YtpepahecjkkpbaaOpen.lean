/- Rows that come in, of elements of whatever plain type: one opening for all. -/
import Derived.Deep.Slices
import Derived.Deep.Fields
import Derived.ChangeSame
import Derived.ProofKit
import Derived.OpenShut
import Derived.ChangeSlices
import Derived.Test.YtpepahecjkkpbaaLaw
namespace Go.Proofs.Ytpepahecjkkpbaa
open Go.ChangeShapes Go.WideShapes Go.ChangeAt Go.RowKit Go.Deep

set_option maxRecDepth 100000 in
theorem addr_none {w : World} {a : Addr} {n : Nat} {v : Value} (hn : n = 0) (h : w.cell? (a.add n) = some v) : ∃ bk off, a = ⟨bk, off, none⟩ := by
  subst hn
  obtain ⟨bk, off, v'⟩ := a
  cases v' with
  | none => exact ⟨bk, off, rfl⟩
  | some x =>
    exfalso
    simp only [Addr.add, World.cell?] at h
    split at h
    · split at h <;> simp_all
    · cases h
set_option maxRecDepth 100000 in
theorem addr_add (bk off n : Nat) : (⟨bk, off, none⟩ : Addr).add n = ⟨bk, off + n, none⟩ := by
  unfold Addr.add
  split
  · rename_i h; subst h; rfl
  · rfl

/-- n elements of s cells each lie at A: those of number i are L i. -/
def IsRow (w : World) (A : Option Addr) (n s : Nat) (L : Nat → List Value) : Prop := ∀ i, i < n → ∃ b off, A = some ⟨b, off, none⟩ ∧ ∀ j u, (L i)[j]? = some u → w.cell? ⟨b, off + i * s + j, none⟩ = some u
set_option maxRecDepth 100000 in
theorem IsRow.same {w w' : World} {A : Option Addr} {n s : Nat} {L : Nat → List Value} (h : IsRow w A n s L) (hs : ∀ k, k < w.heap.size → w'.heap[k]? = w.heap[k]?) : IsRow w' A n s L := fun i hi => by
  obtain ⟨b, off, e, h1⟩ := h i hi
  refine ⟨b, off, e, fun j u hu => ?_⟩
  have h2 := h1 j u hu
  exact (World.cell?_of_block (w := w) (hs b (World.block_lt_of_cell? _ _ h2))).trans h2
set_option maxRecDepth 100000 in
theorem IsRow.congr {w : World} {A : Option Addr} {n s : Nat} {L M : Nat → List Value} (h : IsRow w A n s L) (e : ∀ i, i < n → L i = M i) : IsRow w A n s M := fun i hi => by rw [← e i hi]; exact h i hi

section
variable {H : Type} {enc : TypeId × Value → H} {W : World} {b : Nat} {sp : Nat → Bool} {hd : Bool} {r : Reach} {base : Nat}

set_option maxRecDepth 100000 in
theorem open_rows {X : Type} (x0 : X) (L : X → List Value) {t e : TypeId} {s : Nat} (ht : Try.prog.underlying t = some (.slice e)) (hs : Try.prog.cellsOf e = s) (hs0 : 0 < s) (hL : ∀ x, (L x).length = s)
    (each : ∀ n cs y, DataW.trod enc Try.prog W b (fun _ => true) hd n e cs = some y → ∃ x, cs = L x)
    {v : Value} {d : DataW H} {p : List MemPlace} (hv : Value.okWide Try.prog W r base t v) (h : DataW.Trod enc Try.prog W b (fun _ => true) hd t v d p) :
    ∃ A N c, ∃ f : Nat → X, v = .slice A N c ∧ (N ≤ c ∧ c ≤ 9223372036854775807) ∧ (A = none → N = 0 ∧ c = 0) ∧ IsRow W A N s (fun i => L (f i)) ∧ (N = 0 ∨ ∃ E S, d = .slice E S ∧ E.length = N) := by
  obtain ⟨a, len, cap, rfl⟩ := okWide_slice ht hv
  obtain ⟨fuel, hf⟩ := h
  rcases open_slice ht hf with ⟨hcs, _⟩ | ⟨a', len', cap', m, n, D, Pl, hcs, _, hl, hm, hmm, hdat, hi⟩
  · simp [Value.cells] at hcs
    obtain ⟨rfl, rfl, rfl⟩ := hcs
    exact ⟨none, 0, 0, fun _ => x0, rfl, by omega, fun _ => ⟨rfl, rfl⟩, (fun i hi => by omega), .inl rfl⟩
  · simp [Value.cells] at hcs
    obtain ⟨rfl, rfl, rfl⟩ := hcs
    simp only [if_true] at hmm
    subst hmm
    have one : ∀ i, ∃ x : X, i < len → ∀ j u, (L x)[j]? = some u → W.cell? (a'.add (i * s + j)) = some u := fun i => by
      by_cases hlt : i < len
      · obtain ⟨cs', hc, ht'⟩ := hi i (by omega)
        rw [hs] at hc
        obtain ⟨x, rfl⟩ := each _ _ _ ht'
        obtain ⟨_, _, hat⟩ := World.cells?_some hc
        refine ⟨x, fun _ j u hu => ?_⟩
        have hj : j < s := by rw [← hL x]; exact (List.getElem?_eq_some_iff.1 hu).1
        have := hat j hj
        rw [← Go.Deep.add_add, this]
        exact hu
      · exact ⟨x0, fun h => absurd h hlt⟩
    obtain ⟨f, hf⟩ := Classical.axiomOfChoice one
    refine ⟨_, len, _, f, rfl, ⟨hl, by unfold maxLen at hm; omega⟩, (fun h => by cases h), (fun i hlt => ?_), .inr ⟨_, _, (Prod.mk.inj hdat).1, by simp⟩⟩
    obtain ⟨u0, h0⟩ : ∃ u, (L (f 0))[0]? = some u := ⟨_, List.getElem?_eq_getElem (by rw [hL]; exact hs0)⟩
    obtain ⟨bk, off, rfl⟩ : ∃ bk off, a' = ⟨bk, off, none⟩ := addr_none (w := W) (n := 0 * s + 0) (by omega) (hf 0 (by omega) 0 _ h0)
    refine ⟨bk, off, rfl, fun j u hu => ?_⟩
    have := hf i hlt j u hu
    rwa [addr_add, ← Nat.add_assoc] at this

set_option maxRecDepth 100000 in
/-- A struct that comes in by value. -/
theorem open_value {X : Type} (L : X → List Value) {t : TypeId} {fs : Array Field} (ht : Try.prog.underlying t = some (.struct fs))
    (each : ∀ n cs y, DataW.trod enc Try.prog W b sp hd n t cs = some y → ∃ x, cs = L x)
    {v : Value} {d : DataW H} {p : List MemPlace} (hv : Value.okWide Try.prog W r base t v) (h : DataW.Trod enc Try.prog W b sp hd t v d p) : ∃ x, v = .agg (L x).toArray := by
  obtain ⟨cs, rfl, _⟩ := okWide_struct ht hv
  obtain ⟨fuel, hf⟩ := h
  obtain ⟨x, hx⟩ := each _ _ _ hf
  refine ⟨x, ?_⟩
  rw [← hx]
  simp [Value.cells]

/-- One word of a struct. -/
theorem word_of {n : Nat} {t : TypeId} {k : IntKind} (ht : Try.prog.underlying t = some (.int k)) (hc : Try.prog.cellsOf t = 1) {cs : List Value} {off : Nat} {y : Option (DataW H × List MemPlace)} (hy : ∃ z, y = some z)
    (h : DataW.trod enc Try.prog W b sp hd n t ((cs.drop off).take (Try.prog.cellsOf t)) = y) : ∃ x, cs[off]? = some (.int k x) ∧ (Lit.int k x).wf = true := by
  obtain ⟨z, rfl⟩ := hy
  rw [hc] at h
  obtain ⟨x, f, _, hw⟩ := DataW.trod_int ht h
  refine ⟨x, ?_, hw⟩
  have : ((cs.drop off).take 1)[0]? = some (.int k x) := by rw [f]; rfl
  simpa [List.getElem?_take, List.getElem?_drop] using this
end
end Go.Proofs.Ytpepahecjkkpbaa
