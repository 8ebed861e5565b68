/- What is known of a frame that may be. -/
import Derived.Test.YtmkehailohgebaaDoorGTe1
namespace Go.Proofs.YtmkehailohgebaaDoor
open Go.RowKit Go.Lib Pt Opn

/-- What is known of a frame that may be. -/
structure FitX (c : Cf) (C K : Nat) (f : Ds) : Prop where
  k5 : f.kind = 4 ∨ f.kind = 5 ∨ f.kind = 6 ∨ f.kind = 7 ∨ f.kind = 8
  n : f.n ≤ C
  p : f.p ≤ C
  j : f.j ≤ K
  h : f.h ≤ topX c
  a : f.a < 4294967296
  b : f.b < 4294967296
  x : f.x < 4294967296
  y : f.y < 4294967296
  i1 : f.pc = 1 → f.i < 60
  i6 : f.pc = 6 → 1 ≤ f.i ∧ f.i < 256
  i14 : f.pc = 14 → f.i < 200
  i11 : f.pc = 11 → f.i < 200
  n15 : f.pc = 15 → 1 ≤ f.n
  k4 : f.pc = 8 ∨ f.pc = 11 ∨ f.pc = 12 → f.kind = 4 ∨ f.kind = 5
end Go.Proofs.YtmkehailohgebaaDoor
