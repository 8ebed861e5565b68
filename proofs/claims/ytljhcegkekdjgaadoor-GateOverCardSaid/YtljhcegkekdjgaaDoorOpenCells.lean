/- Lists of cells that come in. -/
import Derived.Test.YtljhcegkekdjgaaDoorGOpen
import Derived.Test.YtljhcegkekdjgaaDoorGTr
namespace Go.Proofs.YtljhcegkekdjgaaDoor
open Go.ChangeShapes Go.WideShapes Go.ChangeAt Go.RowKit Go.Deep

section
variable {H : Type} {enc : TypeId × Value → H} {W : World} {b : Nat} {sp : Nat → Bool} {hd : Bool} {r : Reach} {base : Nat}
set_option maxRecDepth 100000 in
theorem open_cells {v : Value} {d : DataW H} {p : List MemPlace} (hv : Value.okWide Tryd.prog W r base 47 v) (h : DataW.Trod enc Tryd.prog W b (fun _ => true) hd 47 v d p) :
    ∃ A c, ∃ l : List Q4, v = .slice A l.length c ∧ (A = none → l.length = 0 ∧ c = 0) ∧ (∀ x ∈ l, QWf x) ∧ IsL W A 4 q4L l := by
  obtain ⟨A, N, c, f, rfl, h1, h2, h3, _⟩ := open_rows (⟨0, 0, 0, 0, by decide, by decide, by decide, by decide⟩ : W4) cec (s := 4) Tryd.underlying47 (by kernel_rfl) (by decide) (fun _ => rfl) (fun n cs y h => cell_of h) hv h
  have e : ((List.range N).map fun i => (((f i).t, (f i).a, (f i).b, (f i).c) : Q4)).length = N := by simp
  refine ⟨A, c, (List.range N).map fun i => (((f i).t, (f i).a, (f i).b, (f i).c) : Q4), by rw [e], by rw [e]; exact h2, fun x hx => ?_, ?_⟩
  · obtain ⟨i, _, rfl⟩ := List.mem_map.1 hx
    exact ⟨(f i).ht, (f i).ha, (f i).hb, (f i).hc⟩
  · intro i x hx
    obtain ⟨h4, h5⟩ := List.getElem?_eq_some_iff.1 hx
    rw [e] at h4
    have h6 : x = ((f i).t, (f i).a, (f i).b, (f i).c) := by rw [← h5]; simp
    subst h6
    have := h3 i h4
    exact this
end
end Go.Proofs.YtljhcegkekdjgaaDoor
