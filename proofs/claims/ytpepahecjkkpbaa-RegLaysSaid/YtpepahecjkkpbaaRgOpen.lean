/- Descs that come in. -/
import Derived.Test.YtpepahecjkkpbaaRgVal
import Derived.Test.YtpepahecjkkpbaaOpenOp
namespace Go.Proofs.Ytpepahecjkkpbaa
open Go.ChangeShapes Go.WideShapes Go.ChangeAt Go.RowKit Go.Deep Opn

section
variable {H : Type} {enc : TypeId × Value → H} {W : World} {b : Nat} {sp : Nat → Bool} {hd : Bool} {r : Reach} {base : Nat}

abbrev DW := {d : Ds // DWf d}
def frc (d : Ds) : List Value := [.int .u8 (d.kind : Nat), .int .u32 (d.a : Nat), .int .u32 (d.b : Nat), .int .u8 (d.pc : Nat), .int .u8 (d.i : Nat), .int .u8 (d.j : Nat), .int .u8 (d.n : Nat), .int .u8 (d.p : Nat), .int .u8 (d.h : Nat), .int .u32 (d.x : Nat), .int .u32 (d.y : Nat)]
def dsc (d : DW) : List Value := [.int .u64 (d.1.tag : Nat), .int .u8 (d.1.k : Nat), .int .u8 (d.1.seq : Nat), .int .u8 (d.1.kind : Nat), .int .u32 (d.1.a : Nat), .int .u32 (d.1.b : Nat), .int .u8 (d.1.pc : Nat), .int .u8 (d.1.i : Nat), .int .u8 (d.1.j : Nat), .int .u8 (d.1.n : Nat), .int .u8 (d.1.p : Nat), .int .u8 (d.1.h : Nat), .int .u32 (d.1.x : Nat), .int .u32 (d.1.y : Nat)]
set_option maxRecDepth 100000 in
set_option maxHeartbeats 2000000 in
theorem frame_of {n : Nat} {cs : List Value} {y : DataW H × List MemPlace} (h : DataW.trod enc Try.prog W b sp hd n 25 cs = some y) :
    ∃ n0 n1 n2 n3 n4 n5 n6 n7 n8 n9 n10 : Nat, (n0 < 256 ∧ n1 < 4294967296 ∧ n2 < 4294967296 ∧ n3 < 256 ∧ n4 < 256 ∧ n5 < 256 ∧ n6 < 256 ∧ n7 < 256 ∧ n8 < 256 ∧ n9 < 4294967296 ∧ n10 < 4294967296) ∧ cs = [.int .u8 (n0 : Nat), .int .u32 (n1 : Nat), .int .u32 (n2 : Nat), .int .u8 (n3 : Nat), .int .u8 (n4 : Nat), .int .u8 (n5 : Nat), .int .u8 (n6 : Nat), .int .u8 (n7 : Nat), .int .u8 (n8 : Nat), .int .u32 (n9 : Nat), .int .u32 (n10 : Nat)] := by
  obtain ⟨xs, m, _, _, hlen, hl, hf⟩ := DataW.trod_struct Try.underlying25 h
  rw [show Try.prog.cellsOf 25 = 11 by kernel_rfl] at hlen
  have g : ∀ j, j < 11 → ∃ y, xs[j]? = some y := fun j hj => ⟨_, List.getElem?_eq_getElem (by rw [hl]; exact hj)⟩
  have q0 : DataW.trod enc Try.prog W b sp hd m 5 ((cs.drop 0).take (Try.prog.cellsOf 5)) = xs[0]? := hf 0 _ rfl
  have q1 : DataW.trod enc Try.prog W b sp hd m 23 ((cs.drop 1).take (Try.prog.cellsOf 23)) = xs[1]? := hf 1 _ rfl
  have q2 : DataW.trod enc Try.prog W b sp hd m 23 ((cs.drop 2).take (Try.prog.cellsOf 23)) = xs[2]? := hf 2 _ rfl
  have q3 : DataW.trod enc Try.prog W b sp hd m 5 ((cs.drop 3).take (Try.prog.cellsOf 5)) = xs[3]? := hf 3 _ rfl
  have q4 : DataW.trod enc Try.prog W b sp hd m 5 ((cs.drop 4).take (Try.prog.cellsOf 5)) = xs[4]? := hf 4 _ rfl
  have q5 : DataW.trod enc Try.prog W b sp hd m 5 ((cs.drop 5).take (Try.prog.cellsOf 5)) = xs[5]? := hf 5 _ rfl
  have q6 : DataW.trod enc Try.prog W b sp hd m 5 ((cs.drop 6).take (Try.prog.cellsOf 5)) = xs[6]? := hf 6 _ rfl
  have q7 : DataW.trod enc Try.prog W b sp hd m 5 ((cs.drop 7).take (Try.prog.cellsOf 5)) = xs[7]? := hf 7 _ rfl
  have q8 : DataW.trod enc Try.prog W b sp hd m 5 ((cs.drop 8).take (Try.prog.cellsOf 5)) = xs[8]? := hf 8 _ rfl
  have q9 : DataW.trod enc Try.prog W b sp hd m 23 ((cs.drop 9).take (Try.prog.cellsOf 23)) = xs[9]? := hf 9 _ rfl
  have q10 : DataW.trod enc Try.prog W b sp hd m 23 ((cs.drop 10).take (Try.prog.cellsOf 23)) = xs[10]? := hf 10 _ rfl
  obtain ⟨k0, h0, w0⟩ := word_of Try.underlying5 (by kernel_rfl) (g 0 (by omega)) q0
  obtain ⟨k1, h1, w1⟩ := word_of Try.underlying23 (by kernel_rfl) (g 1 (by omega)) q1
  obtain ⟨k2, h2, w2⟩ := word_of Try.underlying23 (by kernel_rfl) (g 2 (by omega)) q2
  obtain ⟨k3, h3, w3⟩ := word_of Try.underlying5 (by kernel_rfl) (g 3 (by omega)) q3
  obtain ⟨k4, h4, w4⟩ := word_of Try.underlying5 (by kernel_rfl) (g 4 (by omega)) q4
  obtain ⟨k5, h5, w5⟩ := word_of Try.underlying5 (by kernel_rfl) (g 5 (by omega)) q5
  obtain ⟨k6, h6, w6⟩ := word_of Try.underlying5 (by kernel_rfl) (g 6 (by omega)) q6
  obtain ⟨k7, h7, w7⟩ := word_of Try.underlying5 (by kernel_rfl) (g 7 (by omega)) q7
  obtain ⟨k8, h8, w8⟩ := word_of Try.underlying5 (by kernel_rfl) (g 8 (by omega)) q8
  obtain ⟨k9, h9, w9⟩ := word_of Try.underlying23 (by kernel_rfl) (g 9 (by omega)) q9
  obtain ⟨k10, h10, w10⟩ := word_of Try.underlying23 (by kernel_rfl) (g 10 (by omega)) q10
  obtain ⟨n0, rfl, l0⟩ := u8_nat w0
  obtain ⟨n1, rfl, l1⟩ := u32_nat w1
  obtain ⟨n2, rfl, l2⟩ := u32_nat w2
  obtain ⟨n3, rfl, l3⟩ := u8_nat w3
  obtain ⟨n4, rfl, l4⟩ := u8_nat w4
  obtain ⟨n5, rfl, l5⟩ := u8_nat w5
  obtain ⟨n6, rfl, l6⟩ := u8_nat w6
  obtain ⟨n7, rfl, l7⟩ := u8_nat w7
  obtain ⟨n8, rfl, l8⟩ := u8_nat w8
  obtain ⟨n9, rfl, l9⟩ := u32_nat w9
  obtain ⟨n10, rfl, l10⟩ := u32_nat w10
  match cs, hlen with
  | [v0, v1, v2, v3, v4, v5, v6, v7, v8, v9, v10], _ =>
    simp at h0 h1 h2 h3 h4 h5 h6 h7 h8 h9 h10
    exact ⟨n0, n1, n2, n3, n4, n5, n6, n7, n8, n9, n10, ⟨l0, l1, l2, l3, l4, l5, l6, l7, l8, l9, l10⟩, by rw [h0, h1, h2, h3, h4, h5, h6, h7, h8, h9, h10]⟩
set_option maxRecDepth 100000 in
set_option maxHeartbeats 2000000 in
theorem desc_of {n : Nat} {cs : List Value} {y : DataW H × List MemPlace} (h : DataW.trod enc Try.prog W b sp hd n 27 cs = some y) : ∃ d, cs = dsc d := by
  obtain ⟨xs, m, _, _, hlen, hl, hf⟩ := DataW.trod_struct Try.underlying27 h
  rw [show Try.prog.cellsOf 27 = 14 by kernel_rfl] at hlen
  have g : ∀ j, j < 4 → ∃ y, xs[j]? = some y := fun j hj => ⟨_, List.getElem?_eq_getElem (by rw [hl]; exact hj)⟩
  have q0 : DataW.trod enc Try.prog W b sp hd m 22 ((cs.drop 0).take (Try.prog.cellsOf 22)) = xs[0]? := hf 0 _ rfl
  have q1 : DataW.trod enc Try.prog W b sp hd m 5 ((cs.drop 1).take (Try.prog.cellsOf 5)) = xs[1]? := hf 1 _ rfl
  have q2 : DataW.trod enc Try.prog W b sp hd m 5 ((cs.drop 2).take (Try.prog.cellsOf 5)) = xs[2]? := hf 2 _ rfl
  have q3 : DataW.trod enc Try.prog W b sp hd m 25 ((cs.drop 3).take (Try.prog.cellsOf 25)) = xs[3]? := hf 3 _ rfl
  obtain ⟨k0, h0, w0⟩ := word_of Try.underlying22 (by kernel_rfl) (g 0 (by omega)) q0
  obtain ⟨k1, h1, w1⟩ := word_of Try.underlying5 (by kernel_rfl) (g 1 (by omega)) q1
  obtain ⟨k2, h2, w2⟩ := word_of Try.underlying5 (by kernel_rfl) (g 2 (by omega)) q2
  obtain ⟨y3, hy3⟩ := g 3 (by omega)
  rw [hy3, show Try.prog.cellsOf 25 = 11 by kernel_rfl] at q3
  obtain ⟨n0, n1, n2, n3, n4, n5, n6, n7, n8, n9, n10, ⟨l0, l1, l2, l3, l4, l5, l6, l7, l8, l9, l10⟩, hfr⟩ := frame_of q3
  obtain ⟨m0, rfl, b0⟩ := u64_nat w0
  obtain ⟨m1, rfl, b1⟩ := u8_nat w1
  obtain ⟨m2, rfl, b2⟩ := u8_nat w2
  match cs, hlen with
  | [v0, v1, v2, v3, v4, v5, v6, v7, v8, v9, v10, v11, v12, v13], _ =>
    simp at h0 h1 h2 hfr
    obtain ⟨rfl, rfl, rfl, rfl, rfl, rfl, rfl, rfl, rfl, rfl, rfl⟩ := hfr
    refine ⟨⟨⟨m0, m1, m2, n0, n1, n2, n3, n4, n5, n6, n7, n8, n9, n10⟩, ⟨b0, b1, b2, l0, l1, l2, l3, l4, l5, l6, l7, l8, l9, l10⟩⟩, ?_⟩
    simp only [dsc]
    rw [h0, h1, h2]
set_option maxRecDepth 100000 in
set_option maxHeartbeats 2000000 in
theorem open_desc {v : Value} {d : DataW H} {p : List MemPlace} (hv : Value.okWide Try.prog W r base 27 v) (h : DataW.Trod enc Try.prog W b sp hd 27 v d p) : ∃ d : Ds, DWf d ∧ v = dsv d := by
  obtain ⟨a, rfl⟩ := open_value (fun a : DW => dsc a) Try.underlying27 (fun _ _ _ h => desc_of h) hv h
  exact ⟨a.1, a.2, rfl⟩
set_option maxHeartbeats 2000000 in
theorem open_frame {v : Value} {d : DataW H} {p : List MemPlace} (hv : Value.okWide Try.prog W r base 25 v) (h : DataW.Trod enc Try.prog W b sp hd 25 v d p) : ∃ d : Ds, DWf d ∧ v = frv d := by
  obtain ⟨a, rfl⟩ := open_value (fun a : DW => frc a.1) Try.underlying25 (fun _ cs _ h => by
    obtain ⟨n0, n1, n2, n3, n4, n5, n6, n7, n8, n9, n10, hl, e⟩ := frame_of h
    exact ⟨⟨⟨0, 0, 0, n0, n1, n2, n3, n4, n5, n6, n7, n8, n9, n10⟩, by unfold DWf; simp only; omega⟩, e⟩) hv h
  exact ⟨a.1, a.2, rfl⟩
end
end Go.Proofs.Ytpepahecjkkpbaa
