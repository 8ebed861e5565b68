/- Cells that come in. -/
import Derived.Test.YtpepahecjkkpbaaOpen
import Derived.Test.YtpepahecjkkpbaaProg
namespace Go.Proofs.Ytpepahecjkkpbaa
open Go.ChangeShapes Go.WideShapes Go.ChangeAt Go.RowKit Go.Deep

/-- A cell's words. -/
structure W4 where
  t : Nat
  a : Nat
  b : Nat
  c : Nat
  ht : t < 18446744073709551616
  ha : a < 18446744073709551616
  hb : b < 18446744073709551616
  hc : c < 18446744073709551616
def cec (y : W4) : List Value := [.int .u64 (y.t : Nat), .int .u64 (y.a : Nat), .int .u64 (y.b : Nat), .int .u64 (y.c : Nat)]


section
variable {H : Type} {enc : TypeId × Value → H} {W : World} {b : Nat} {sp : Nat → Bool} {hd : Bool} {r : Reach} {base : Nat}

theorem cell_of {n : Nat} {cs : List Value} {y : DataW H × List MemPlace} (h : DataW.trod enc Try.prog W b sp hd n 29 cs = some y) : ∃ o, cs = cec o := by
  obtain ⟨xs, m, _, _, hlen, hl, hf⟩ := DataW.trod_struct Try.underlying29 h
  rw [show Try.prog.cellsOf 29 = 4 by kernel_rfl] at hlen
  have g : ∀ j, j < 4 → ∃ y, xs[j]? = some y := fun j hj => ⟨_, List.getElem?_eq_getElem (by rw [hl]; exact hj)⟩
  have q0 : DataW.trod enc Try.prog W b sp hd m 22 ((cs.drop 0).take (Try.prog.cellsOf 22)) = xs[0]? := hf 0 _ rfl
  have q1 : DataW.trod enc Try.prog W b sp hd m 22 ((cs.drop 1).take (Try.prog.cellsOf 22)) = xs[1]? := hf 1 _ rfl
  have q2 : DataW.trod enc Try.prog W b sp hd m 22 ((cs.drop 2).take (Try.prog.cellsOf 22)) = xs[2]? := hf 2 _ rfl
  have q3 : DataW.trod enc Try.prog W b sp hd m 22 ((cs.drop 3).take (Try.prog.cellsOf 22)) = xs[3]? := hf 3 _ rfl
  obtain ⟨k0, h0, w0⟩ := word_of Try.underlying22 (by kernel_rfl) (g 0 (by omega)) q0
  obtain ⟨k1, h1, w1⟩ := word_of Try.underlying22 (by kernel_rfl) (g 1 (by omega)) q1
  obtain ⟨k2, h2, w2⟩ := word_of Try.underlying22 (by kernel_rfl) (g 2 (by omega)) q2
  obtain ⟨k3, h3, w3⟩ := word_of Try.underlying22 (by kernel_rfl) (g 3 (by omega)) q3
  obtain ⟨n0, rfl, l0⟩ := u64_nat w0
  obtain ⟨n1, rfl, l1⟩ := u64_nat w1
  obtain ⟨n2, rfl, l2⟩ := u64_nat w2
  obtain ⟨n3, rfl, l3⟩ := u64_nat w3
  match cs, hlen with
  | [v0, v1, v2, v3], _ =>
    simp at h0 h1 h2 h3
    refine ⟨⟨n0, n1, n2, n3, l0, l1, l2, l3⟩, ?_⟩
    simp [cec, h0, h1, h2, h3]

theorem open_cell {v : Value} {d : DataW H} {p : List MemPlace} (hv : Value.okWide Try.prog W r base 29 v) (h : DataW.Trod enc Try.prog W b sp hd 29 v d p) : ∃ y : W4, v = .agg #[.int .u64 (y.t : Nat), .int .u64 (y.a : Nat), .int .u64 (y.b : Nat), .int .u64 (y.c : Nat)] := by
  obtain ⟨a, rfl⟩ := open_value (fun a : W4 => cec a) Try.underlying29 (fun _ _ _ h => cell_of h) hv h
  exact ⟨a, rfl⟩
end
end Go.Proofs.Ytpepahecjkkpbaa
