/- Accesses that come in: one, by value, and rows of them. -/
import Derived.Test.YtiaimenngmfnmaaCeOpen
import Derived.Test.YtiaimenngmfnmaaOpen
namespace Go.Proofs.Ytiaimenngmfnmaa
open Go.ChangeShapes Go.WideShapes Go.ChangeAt Go.RowKit Go.Deep Ce

section
variable {H : Type} {enc : TypeId × Value → H} {W : World} {b : Nat} {sp : Nat → Bool} {hd : Bool} {r : Reach} {base : Nat}

theorem acc_of {n : Nat} {cs : List Value} {y : DataW H × List MemPlace} (h : DataW.trod enc Try.prog W b sp hd n 32 cs = some y) : ∃ a : Acc, cs = l10 a := by
  obtain ⟨xs, m, _, _, hlen, hl, hf⟩ := DataW.trod_struct Try.underlying32 h
  rw [show Try.prog.cellsOf 32 = 10 by kernel_rfl] at hlen
  have g : ∀ j, j < 4 → ∃ y, xs[j]? = some y := fun j hj => ⟨_, List.getElem?_eq_getElem (by rw [hl]; exact hj)⟩
  have q0 : DataW.trod enc Try.prog W b sp hd m 5 ((cs.drop 0).take (Try.prog.cellsOf 5)) = xs[0]? := hf 0 _ rfl
  have q1 : DataW.trod enc Try.prog W b sp hd m 3 ((cs.drop 1).take (Try.prog.cellsOf 3)) = xs[1]? := hf 1 _ rfl
  have q2 : DataW.trod enc Try.prog W b sp hd m 25 ((cs.drop 2).take (Try.prog.cellsOf 25)) = xs[2]? := hf 2 _ rfl
  have q3 : DataW.trod enc Try.prog W b sp hd m 25 ((cs.drop 6).take (Try.prog.cellsOf 25)) = xs[3]? := hf 3 _ rfl
  obtain ⟨k, h0, _⟩ := word_of Try.underlying5 (by kernel_rfl) (g 0 (by omega)) q0
  obtain ⟨i, h1, _⟩ := word_of Try.underlying3 (by kernel_rfl) (g 1 (by omega)) q1
  obtain ⟨y2, e2⟩ := g 2 (by omega)
  obtain ⟨y3, e3⟩ := g 3 (by omega)
  obtain ⟨o, h2⟩ := words_of (q2.trans e2)
  obtain ⟨x, h3⟩ := words_of (q3.trans e3)
  rw [cells_four] at h2 h3
  match cs, hlen with
  | [v0, v1, v2, v3, v4, v5, v6, v7, v8, v9], _ =>
    simp at h0 h1 h2 h3
    refine ⟨⟨k, i, o, x⟩, ?_⟩
    simp [l10, h0, h1, h2, h3]

theorem open_acc {v : Value} {d : DataW H} {p : List MemPlace} (hv : Value.okWide Try.prog W r base 32 v) (h : DataW.Trod enc Try.prog W b sp hd 32 v d p) : ∃ a : Acc, v = av a := by
  obtain ⟨a, rfl⟩ := open_value (fun a : Acc => l10 a) Try.underlying32 (fun _ _ _ h => acc_of h) hv h
  exact ⟨a, rfl⟩

theorem open_accs {v : Value} {d : DataW H} {p : List MemPlace} (hv : Value.okWide Try.prog W r base 39 v) (h : DataW.Trod enc Try.prog W b (fun _ => true) hd 39 v d p) :
    ∃ A N c, ∃ af : Nat → Acc, v = .slice A N c ∧ (N ≤ c ∧ c ≤ 9223372036854775807) ∧ (A = none → N = 0 ∧ c = 0) ∧ IsAccs W A N af := by
  obtain ⟨A, N, c, af, rfl, hc, hA, hr, _⟩ := open_rows (⟨0, 0, C4.zero, C4.zero⟩ : Acc) (fun a : Acc => l10 a) Try.underlying39 (s := 10) (by kernel_rfl) (by decide) (fun _ => rfl) (fun _ _ _ h => acc_of h) hv h
  refine ⟨A, N, c, af, rfl, hc, hA, fun i hi => ?_⟩
  obtain ⟨bk, off, e, h1⟩ := hr i hi
  exact ⟨bk, off, e, h1 0 _ rfl, h1 1 _ rfl, ⟨h1 2 _ rfl, h1 3 _ rfl, h1 4 _ rfl, h1 5 _ rfl⟩, ⟨h1 6 _ rfl, h1 7 _ rfl, h1 8 _ rfl, h1 9 _ rfl⟩⟩

/-- Rows of cells, and what their datum is. -/
theorem open_cells' {v : Value} {d : DataW H} {p : List MemPlace} (hv : Value.okWide Try.prog W r base 35 v) (h : DataW.Trod enc Try.prog W b (fun _ => true) hd 35 v d p) :
    ∃ A N c, ∃ cf : Nat → C4, v = .slice A N c ∧ (N ≤ c ∧ c ≤ 9223372036854775807) ∧ (A = none → N = 0 ∧ c = 0) ∧ IsCells W A N cf ∧ (N = 0 ∨ ∃ E S, d = .slice E S ∧ E.length = N) := by
  obtain ⟨A, N, c, cf, rfl, hc, hA, hr, hD⟩ := open_rows C4.zero l4 Try.underlying35 (s := 4) (by kernel_rfl) (by decide) (fun _ => rfl) (fun _ _ _ h => words_of h) hv h
  refine ⟨A, N, c, cf, rfl, hc, hA, (fun i hi => ?_), hD⟩
  obtain ⟨bk, off, e, h1⟩ := hr i hi
  exact ⟨bk, off, e, h1 0 _ rfl, h1 1 _ rfl, h1 2 _ rfl, h1 3 _ rfl⟩
end
end Go.Proofs.Ytiaimenngmfnmaa
