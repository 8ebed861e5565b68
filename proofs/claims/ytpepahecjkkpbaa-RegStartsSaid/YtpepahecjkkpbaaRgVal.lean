/- Descs and frames as values; two of them compared; those that come in. -/
import Derived.Test.YtpepahecjkkpbaaRgMath
import Derived.Test.YtpepahecjkkpbaaOpenOp
namespace Go.Proofs.Ytpepahecjkkpbaa
open Go.ChangeShapes Go.WideShapes Go.ChangeAt Go.RowKit Go.Deep Opn

/-- A frame. -/
def frv (d : Ds) : Value := .agg #[.int .u8 (d.kind : Nat), .int .u32 (d.a : Nat), .int .u32 (d.b : Nat), .int .u8 (d.pc : Nat), .int .u8 (d.i : Nat), .int .u8 (d.j : Nat), .int .u8 (d.n : Nat), .int .u8 (d.p : Nat), .int .u8 (d.h : Nat), .int .u32 (d.x : Nat), .int .u32 (d.y : Nat)]
/-- A desc. -/
def dsv (d : Ds) : Value := .agg #[.int .u64 (d.tag : Nat), .int .u8 (d.k : Nat), .int .u8 (d.seq : Nat), .int .u8 (d.kind : Nat), .int .u32 (d.a : Nat), .int .u32 (d.b : Nat), .int .u8 (d.pc : Nat), .int .u8 (d.i : Nat), .int .u8 (d.j : Nat), .int .u8 (d.n : Nat), .int .u8 (d.p : Nat), .int .u8 (d.h : Nat), .int .u32 (d.x : Nat), .int .u32 (d.y : Nat)]

set_option maxRecDepth 100000 in
set_option maxHeartbeats 4000000 in
theorem eq_frame_int (kindl al bl pcl il jl nl pl hl xl yl kindr ar br pcr ir jr nr pr hr xr yr : Int) (W : World) :
    (binOp .eql 25 (.agg #[.int .u8 kindl, .int .u32 al, .int .u32 bl, .int .u8 pcl, .int .u8 il, .int .u8 jl, .int .u8 nl, .int .u8 pl, .int .u8 hl, .int .u32 xl, .int .u32 yl]) (.agg #[.int .u8 kindr, .int .u32 ar, .int .u32 br, .int .u8 pcr, .int .u8 ir, .int .u8 jr, .int .u8 nr, .int .u8 pr, .int .u8 hr, .int .u32 xr, .int .u32 yr])).run Try.prog W = .ok (.bool (decide (kindl = kindr ∧ al = ar ∧ bl = br ∧ pcl = pcr ∧ il = ir ∧ jl = jr ∧ nl = nr ∧ pl = pr ∧ hl = hr ∧ xl = xr ∧ yl = yr))) W := by
  by_cases h0 : kindl = kindr
  · by_cases h1 : al = ar
    · by_cases h2 : bl = br
      · by_cases h3 : pcl = pcr
        · by_cases h4 : il = ir
          · by_cases h5 : jl = jr
            · by_cases h6 : nl = nr
              · by_cases h7 : pl = pr
                · by_cases h8 : hl = hr
                  · by_cases h9 : xl = xr
                    · by_cases h10 : yl = yr
                      · go_simp
                      · go_simp
                    · go_simp
                  · go_simp
                · go_simp
              · go_simp
            · go_simp
          · go_simp
        · go_simp
      · go_simp
    · go_simp
  · go_simp
set_option maxRecDepth 100000 in
theorem eq_frame (d e : Ds) (r : Bool) (hr : decide (d.kind = e.kind ∧ d.a = e.a ∧ d.b = e.b ∧ d.pc = e.pc ∧ d.i = e.i ∧ d.j = e.j ∧ d.n = e.n ∧ d.p = e.p ∧ d.h = e.h ∧ d.x = e.x ∧ d.y = e.y) = r) (W : World) :
    (binOp .eql 25 (.agg #[.int .u8 (d.kind : Nat), .int .u32 (d.a : Nat), .int .u32 (d.b : Nat), .int .u8 (d.pc : Nat), .int .u8 (d.i : Nat), .int .u8 (d.j : Nat), .int .u8 (d.n : Nat), .int .u8 (d.p : Nat), .int .u8 (d.h : Nat), .int .u32 (d.x : Nat), .int .u32 (d.y : Nat)]) (.agg #[.int .u8 (e.kind : Nat), .int .u32 (e.a : Nat), .int .u32 (e.b : Nat), .int .u8 (e.pc : Nat), .int .u8 (e.i : Nat), .int .u8 (e.j : Nat), .int .u8 (e.n : Nat), .int .u8 (e.p : Nat), .int .u8 (e.h : Nat), .int .u32 (e.x : Nat), .int .u32 (e.y : Nat)])).run Try.prog W = .ok (.bool r) W := by
  rw [eq_frame_int, ← hr]
  congr 2
  rw [decide_eq_decide]
  omega

set_option maxRecDepth 100000 in
set_option maxHeartbeats 4000000 in
theorem eq_desc_int (tagl kl seql kindl al bl pcl il jl nl pl hl xl yl tagr kr seqr kindr ar br pcr ir jr nr pr hr xr yr : Int) (W : World) :
    (binOp .eql 27 (.agg #[.int .u64 tagl, .int .u8 kl, .int .u8 seql, .int .u8 kindl, .int .u32 al, .int .u32 bl, .int .u8 pcl, .int .u8 il, .int .u8 jl, .int .u8 nl, .int .u8 pl, .int .u8 hl, .int .u32 xl, .int .u32 yl]) (.agg #[.int .u64 tagr, .int .u8 kr, .int .u8 seqr, .int .u8 kindr, .int .u32 ar, .int .u32 br, .int .u8 pcr, .int .u8 ir, .int .u8 jr, .int .u8 nr, .int .u8 pr, .int .u8 hr, .int .u32 xr, .int .u32 yr])).run Try.prog W = .ok (.bool (decide (tagl = tagr ∧ kl = kr ∧ seql = seqr ∧ kindl = kindr ∧ al = ar ∧ bl = br ∧ pcl = pcr ∧ il = ir ∧ jl = jr ∧ nl = nr ∧ pl = pr ∧ hl = hr ∧ xl = xr ∧ yl = yr))) W := by
  by_cases h0 : tagl = tagr
  · by_cases h1 : kl = kr
    · by_cases h2 : seql = seqr
      · by_cases h3 : kindl = kindr
        · by_cases h4 : al = ar
          · by_cases h5 : bl = br
            · by_cases h6 : pcl = pcr
              · by_cases h7 : il = ir
                · by_cases h8 : jl = jr
                  · by_cases h9 : nl = nr
                    · by_cases h10 : pl = pr
                      · by_cases h11 : hl = hr
                        · by_cases h12 : xl = xr
                          · by_cases h13 : yl = yr
                            · go_simp
                            · go_simp
                          · go_simp
                        · go_simp
                      · go_simp
                    · go_simp
                  · go_simp
                · go_simp
              · go_simp
            · go_simp
          · go_simp
        · go_simp
      · go_simp
    · go_simp
  · go_simp
set_option maxRecDepth 100000 in
theorem eq_desc (d e : Ds) (r : Bool) (hr : decide (d.tag = e.tag ∧ d.k = e.k ∧ d.seq = e.seq ∧ d.kind = e.kind ∧ d.a = e.a ∧ d.b = e.b ∧ d.pc = e.pc ∧ d.i = e.i ∧ d.j = e.j ∧ d.n = e.n ∧ d.p = e.p ∧ d.h = e.h ∧ d.x = e.x ∧ d.y = e.y) = r) (W : World) :
    (binOp .eql 27 (.agg #[.int .u64 (d.tag : Nat), .int .u8 (d.k : Nat), .int .u8 (d.seq : Nat), .int .u8 (d.kind : Nat), .int .u32 (d.a : Nat), .int .u32 (d.b : Nat), .int .u8 (d.pc : Nat), .int .u8 (d.i : Nat), .int .u8 (d.j : Nat), .int .u8 (d.n : Nat), .int .u8 (d.p : Nat), .int .u8 (d.h : Nat), .int .u32 (d.x : Nat), .int .u32 (d.y : Nat)]) (.agg #[.int .u64 (e.tag : Nat), .int .u8 (e.k : Nat), .int .u8 (e.seq : Nat), .int .u8 (e.kind : Nat), .int .u32 (e.a : Nat), .int .u32 (e.b : Nat), .int .u8 (e.pc : Nat), .int .u8 (e.i : Nat), .int .u8 (e.j : Nat), .int .u8 (e.n : Nat), .int .u8 (e.p : Nat), .int .u8 (e.h : Nat), .int .u32 (e.x : Nat), .int .u32 (e.y : Nat)])).run Try.prog W = .ok (.bool r) W := by
  rw [eq_desc_int, ← hr]
  congr 2
  rw [decide_eq_decide]
  omega
/-- What Laid answers: a cell, an error. -/
def laidD (d : Ds) : (Nat × Nat × Nat × Nat) × Int := if DFits d then ((d.tag, dA d, dB d, dC d), 0) else ((0, 0, 0, 0), 10)
def clv (c : Nat × Nat × Nat × Nat) : Value := .agg #[.int .u64 (c.1 : Nat), .int .u64 (c.2.1 : Nat), .int .u64 (c.2.2.1 : Nat), .int .u64 (c.2.2.2 : Nat)]
end Go.Proofs.Ytpepahecjkkpbaa
