/- Operations that come in. -/
import Derived.Test.YtpepahecjkkpbaaOpen
import Derived.Test.YtpepahecjkkpbaaOpMath
import Derived.Test.YtpepahecjkkpbaaProg
namespace Go.Proofs.Ytpepahecjkkpbaa
open Go.ChangeShapes Go.WideShapes Go.ChangeAt Go.RowKit Go.Deep Opn

set_option maxRecDepth 100000 in
theorem u32_nat {x : Int} (h : (Lit.int .u32 x).wf = true) : ∃ n : Nat, x = n ∧ n < 4294967296 := by
  have hx : 0 ≤ x ∧ x ≤ 4294967295 := by simpa [Lit.wf, IntKind.min, IntKind.max, IntKind.signed, IntKind.bits] using h
  exact ⟨x.toNat, by omega, by omega⟩
set_option maxRecDepth 100000 in
theorem u8_nat {x : Int} (h : (Lit.int .u8 x).wf = true) : ∃ n : Nat, x = n ∧ n < 256 := by
  have hx : 0 ≤ x ∧ x ≤ 255 := by simpa [Lit.wf, IntKind.min, IntKind.max, IntKind.signed, IntKind.bits] using h
  exact ⟨x.toNat, by omega, by omega⟩

section
variable {H : Type} {enc : TypeId × Value → H} {W : World} {b : Nat} {sp : Nat → Bool} {hd : Bool} {r : Reach} {base : Nat}

def opc (o : {o : O // Wf o}) : List Value := [.int .u8 (o.1.k : Nat), .int .u32 (o.1.a : Nat), .int .u32 (o.1.b : Nat), .int .u32 (o.1.c : Nat)]
set_option maxRecDepth 100000 in
theorem op_of {n : Nat} {cs : List Value} {y : DataW H × List MemPlace} (h : DataW.trod enc Try.prog W b sp hd n 36 cs = some y) : ∃ o, cs = opc o := by
  obtain ⟨xs, m, _, _, hlen, hl, hf⟩ := DataW.trod_struct Try.underlying36 h
  rw [show Try.prog.cellsOf 36 = 4 by kernel_rfl] at hlen
  have g : ∀ j, j < 4 → ∃ y, xs[j]? = some y := fun j hj => ⟨_, List.getElem?_eq_getElem (by rw [hl]; exact hj)⟩
  have q0 : DataW.trod enc Try.prog W b sp hd m 5 ((cs.drop 0).take (Try.prog.cellsOf 5)) = xs[0]? := hf 0 _ rfl
  have q1 : DataW.trod enc Try.prog W b sp hd m 23 ((cs.drop 1).take (Try.prog.cellsOf 23)) = xs[1]? := hf 1 _ rfl
  have q2 : DataW.trod enc Try.prog W b sp hd m 23 ((cs.drop 2).take (Try.prog.cellsOf 23)) = xs[2]? := hf 2 _ rfl
  have q3 : DataW.trod enc Try.prog W b sp hd m 23 ((cs.drop 3).take (Try.prog.cellsOf 23)) = xs[3]? := hf 3 _ rfl
  obtain ⟨k0, h0, w0⟩ := word_of Try.underlying5 (by kernel_rfl) (g 0 (by omega)) q0
  obtain ⟨k1, h1, w1⟩ := word_of Try.underlying23 (by kernel_rfl) (g 1 (by omega)) q1
  obtain ⟨k2, h2, w2⟩ := word_of Try.underlying23 (by kernel_rfl) (g 2 (by omega)) q2
  obtain ⟨k3, h3, w3⟩ := word_of Try.underlying23 (by kernel_rfl) (g 3 (by omega)) q3
  obtain ⟨n0, rfl, l0⟩ := u8_nat w0
  obtain ⟨n1, rfl, l1⟩ := u32_nat w1
  obtain ⟨n2, rfl, l2⟩ := u32_nat w2
  obtain ⟨n3, rfl, l3⟩ := u32_nat w3
  match cs, hlen with
  | [v0, v1, v2, v3], _ =>
    simp at h0 h1 h2 h3
    refine ⟨⟨⟨n0, n1, n2, n3⟩, l0, l1, l2, l3⟩, ?_⟩
    simp [opc, h0, h1, h2, h3]

set_option maxRecDepth 100000 in
theorem open_op {v : Value} {d : DataW H} {p : List MemPlace} (hv : Value.okWide Try.prog W r base 36 v) (h : DataW.Trod enc Try.prog W b sp hd 36 v d p) : ∃ o : O, Wf o ∧ v = opv o := by
  obtain ⟨a, rfl⟩ := open_value (fun a : {o : O // Wf o} => opc a) Try.underlying36 (fun _ _ _ h => op_of h) hv h
  exact ⟨a.1, a.2, rfl⟩
end
end Go.Proofs.Ytpepahecjkkpbaa
