/- A constant table of numbers, a row or rows of rows, as the form's condition lays it: where its cells lie. -/
import Derived.Test.YtjhgccfnihbokaaDoorGOpen
import Derived.LaidMore
import Derived.Stop.Joined
namespace Go.Proofs.YtjhgccfnihbokaaDoor
open Go.ChangeShapes Go.WideShapes Go.ChangeAt Go.RowKit

section
variable {H : Type} {enc : TypeId × Value → H} {P : Program} {w : World} {base : Nat} {spare : Nat → Bool} {held : Bool}

def rowData (k : IntKind) (ds : List Int) : DataW H := .agg (ds.map fun z => .lit (.int k z))

theorem ints_row {fuel : Nat} {t e : TypeId} {C : Nat} {k : IntKind} {cs : List Value} {x : DataW H × List MemPlace} (ht : P.underlying t = some (.array C e)) (he : P.underlying e = some (.int k)) (hc : P.cellsOf e = 1)
    (h : DataW.trod enc P w base spare held fuel t cs = some x) (ds : List Int) (hx : x.1 = rowData k ds) : ∀ (j : Nat) (z : Int), ds[j]? = some z → cs[j]? = some (.int k z) := by
  obtain ⟨xs, m, rfl, rfl, _, hn, hel⟩ := DataW.trod_array ht h
  intro j z hj
  simp only [rowData, DataW.agg.injEq] at hx
  have h1 : (xs.map (·.1))[j]? = some (.lit (.int k z)) := by rw [hx, List.getElem?_map, hj]; rfl
  rw [List.getElem?_map, Option.map_eq_some_iff] at h1
  obtain ⟨y, hy, hy1⟩ := h1
  have hjn : j < C := by rw [← hn]; exact (List.getElem?_eq_some_iff.1 hy).1
  have h2 := hel j hjn
  rw [hy, hc, Nat.mul_one] at h2
  obtain ⟨k', e1, rfl, _⟩ := DataW.trod_int he h2
  have : k' = z := by simpa using hy1
  subst this
  have h3 := congrArg (fun l : List Value => l[0]?) e1
  simpa [List.getElem?_take] using h3

theorem ints_rows {fuel : Nat} {T t e : TypeId} {R C : Nat} {k : IntKind} {cs : List Value} {x : DataW H × List MemPlace} (hT : P.underlying T = some (.array R t)) (ht : P.underlying t = some (.array C e)) (he : P.underlying e = some (.int k)) (hc : P.cellsOf e = 1) (hC : P.cellsOf t = C)
    (h : DataW.trod enc P w base spare held fuel T cs = some x) (ds : List (List Int)) (hx : x.1 = .agg (ds.map (rowData k))) : ∀ (i j : Nat) (r : List Int) (z : Int), ds[i]? = some r → r[j]? = some z → j < C → cs[i * C + j]? = some (.int k z) := by
  obtain ⟨xs, m, rfl, rfl, _, hn, hel⟩ := DataW.trod_array hT h
  intro i j r z hi hj hjC
  simp only [DataW.agg.injEq] at hx
  have h1 : (xs.map (·.1))[i]? = some (rowData k r) := by rw [hx, List.getElem?_map, hi]; rfl
  rw [List.getElem?_map, Option.map_eq_some_iff] at h1
  obtain ⟨y, hy, hy1⟩ := h1
  have hin : i < R := by rw [← hn]; exact (List.getElem?_eq_some_iff.1 hy).1
  have h2 := hel i hin
  rw [hy, hC] at h2
  have h3 := ints_row ht he hc h2 r hy1 j z hj
  rw [List.getElem?_take, if_pos hjC, List.getElem?_drop] at h3
  exact h3
end
end Go.Proofs.YtjhgccfnihbokaaDoor
