/- Configs that come in. -/
import Derived.Test.YtljdkjjjnlcflaaDoorOpen
import Derived.Test.YtljdkjjjnlcflaaDoorPtMath
import Derived.Test.YtljdkjjjnlcflaaDoorProg
namespace Go.Proofs.YtljdkjjjnlcflaaDoor
open Go.ChangeShapes Go.WideShapes Go.ChangeAt Go.RowKit Go.Deep Pt

section
variable {H : Type} {enc : TypeId × Value → H} {W : World} {b : Nat} {sp : Nat → Bool} {hd : Bool} {r : Reach} {base : Nat}

set_option maxRecDepth 100000 in
theorem cfg_of {n : Nat} {cs : List Value} {y : DataW H × List MemPlace} (h : DataW.trod enc Tryd.prog W b sp hd n 33 cs = some y) : ∃ a : Cf, cs = cl a := by
  obtain ⟨xs, m, _, _, hlen, hl, hf⟩ := DataW.trod_struct Tryd.underlying33 h
  rw [show Tryd.prog.cellsOf 33 = 12 by kernel_rfl] at hlen
  have g : ∀ j, j < 12 → ∃ y, xs[j]? = some y := fun j hj => ⟨_, List.getElem?_eq_getElem (by rw [hl]; exact hj)⟩
  have q0 : DataW.trod enc Tryd.prog W b sp hd m 5 ((cs.drop 0).take (Tryd.prog.cellsOf 5)) = xs[0]? := hf 0 _ rfl
  have q1 : DataW.trod enc Tryd.prog W b sp hd m 3 ((cs.drop 1).take (Tryd.prog.cellsOf 3)) = xs[1]? := hf 1 _ rfl
  have q2 : DataW.trod enc Tryd.prog W b sp hd m 3 ((cs.drop 2).take (Tryd.prog.cellsOf 3)) = xs[2]? := hf 2 _ rfl
  have q3 : DataW.trod enc Tryd.prog W b sp hd m 5 ((cs.drop 3).take (Tryd.prog.cellsOf 5)) = xs[3]? := hf 3 _ rfl
  have q4 : DataW.trod enc Tryd.prog W b sp hd m 3 ((cs.drop 4).take (Tryd.prog.cellsOf 3)) = xs[4]? := hf 4 _ rfl
  have q5 : DataW.trod enc Tryd.prog W b sp hd m 3 ((cs.drop 5).take (Tryd.prog.cellsOf 3)) = xs[5]? := hf 5 _ rfl
  have q6 : DataW.trod enc Tryd.prog W b sp hd m 3 ((cs.drop 6).take (Tryd.prog.cellsOf 3)) = xs[6]? := hf 6 _ rfl
  have q7 : DataW.trod enc Tryd.prog W b sp hd m 3 ((cs.drop 7).take (Tryd.prog.cellsOf 3)) = xs[7]? := hf 7 _ rfl
  have q8 : DataW.trod enc Tryd.prog W b sp hd m 3 ((cs.drop 8).take (Tryd.prog.cellsOf 3)) = xs[8]? := hf 8 _ rfl
  have q9 : DataW.trod enc Tryd.prog W b sp hd m 3 ((cs.drop 9).take (Tryd.prog.cellsOf 3)) = xs[9]? := hf 9 _ rfl
  have q10 : DataW.trod enc Tryd.prog W b sp hd m 22 ((cs.drop 10).take (Tryd.prog.cellsOf 22)) = xs[10]? := hf 10 _ rfl
  have q11 : DataW.trod enc Tryd.prog W b sp hd m 22 ((cs.drop 11).take (Tryd.prog.cellsOf 22)) = xs[11]? := hf 11 _ rfl
  obtain ⟨k0, h0, _⟩ := word_of Tryd.underlying5 (by kernel_rfl) (g 0 (by omega)) q0
  obtain ⟨k1, h1, _⟩ := word_of Tryd.underlying3 (by kernel_rfl) (g 1 (by omega)) q1
  obtain ⟨k2, h2, _⟩ := word_of Tryd.underlying3 (by kernel_rfl) (g 2 (by omega)) q2
  obtain ⟨k3, h3, _⟩ := word_of Tryd.underlying5 (by kernel_rfl) (g 3 (by omega)) q3
  obtain ⟨k4, h4, _⟩ := word_of Tryd.underlying3 (by kernel_rfl) (g 4 (by omega)) q4
  obtain ⟨k5, h5, _⟩ := word_of Tryd.underlying3 (by kernel_rfl) (g 5 (by omega)) q5
  obtain ⟨k6, h6, _⟩ := word_of Tryd.underlying3 (by kernel_rfl) (g 6 (by omega)) q6
  obtain ⟨k7, h7, _⟩ := word_of Tryd.underlying3 (by kernel_rfl) (g 7 (by omega)) q7
  obtain ⟨k8, h8, _⟩ := word_of Tryd.underlying3 (by kernel_rfl) (g 8 (by omega)) q8
  obtain ⟨k9, h9, _⟩ := word_of Tryd.underlying3 (by kernel_rfl) (g 9 (by omega)) q9
  obtain ⟨k10, h10, _⟩ := word_of Tryd.underlying22 (by kernel_rfl) (g 10 (by omega)) q10
  obtain ⟨k11, h11, _⟩ := word_of Tryd.underlying22 (by kernel_rfl) (g 11 (by omega)) q11
  match cs, hlen with
  | [v0, v1, v2, v3, v4, v5, v6, v7, v8, v9, v10, v11], _ =>
    simp at h0 h1 h2 h3 h4 h5 h6 h7 h8 h9 h10 h11
    refine ⟨⟨k0, k1, k2, k3, k4, k5, k6, k7, k8, k9, k10, k11⟩, ?_⟩
    simp [cl, h0, h1, h2, h3, h4, h5, h6, h7, h8, h9, h10, h11]

set_option maxRecDepth 100000 in
theorem open_cfg {v : Value} {d : DataW H} {p : List MemPlace} (hv : Value.okWide Tryd.prog W r base 33 v) (h : DataW.Trod enc Tryd.prog W b sp hd 33 v d p) : ∃ c : Cf, v = cfv c := by
  obtain ⟨a, rfl⟩ := open_value (fun a : Cf => cl a) Tryd.underlying33 (fun _ _ _ h => cfg_of h) hv h
  exact ⟨a, rfl⟩
end
end Go.Proofs.YtljdkjjjnlcflaaDoor
