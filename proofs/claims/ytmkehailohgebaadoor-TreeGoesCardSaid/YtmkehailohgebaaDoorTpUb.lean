/- The program of an index, the program's own call: a frame that may not be. -/
import Derived.Test.YtmkehailohgebaaDoorTpUa
namespace Go.Proofs.YtmkehailohgebaaDoor
open Go.RowKit Go.Lib Pt Opn

set_option maxRecDepth 100000 in
set_option maxHeartbeats 16000000 in
theorem pAfterX_bad (c : Cf) (f : Ds) (E : Int) (Y : Ac) (hE : nextX c f = (Y, E)) (h0 : E ≠ 0) (hw : DWf f) (tt A B Cc : Nat) (w : World) (hO : Obs w) (hPP : Pow w) :
    Calls Tryd.prog 11 #[cfv c, frv f, cvT tt A B Cc] w (Ret4 (frv frZero) (rwv (0, 0)) (.bool false) (.int .i64 E) w) := by
  have HN := Lib.hid (fun W ho hp => pNextX_any c f hw W ho hp)
  rw [hE] at HN
  have HO := Lib.hid hO
  have HPO := Lib.hid hPP
  have h4 : (E != 0) = true := by simpa using h0
  clear hE hw hO hPP h0
  unfold frZero
  unfold cfv frv rwv cvT acv at *
  simp only at *
  go_enter Tryd.func11, Tryd.ntmps11
  go_upto_region 1 with fail
  refine enter5 fun W hb g0 g1 g2 g3 g4 => ?_
  have HO1 := Lib.hid (HO.out.below hb)
  have HP1 := Lib.hid (HPO.out.below hb)
  obtain ⟨r0, r1, r2, r3, r4, r5, r6, r7, r8, r9, r10, r11⟩ := cl12 g0
  obtain ⟨k0, y0, k1, y1, k2, y2, k3, y3, k4, y4, k5, y5, k6, y6, k7, y7, k8, y8, k9, y9, k10, y10⟩ := cells11 g1
  obtain ⟨c0, c1, c2, c3⟩ := cells4p g2
  obtain ⟨u0, v0, u1, v1, u2, v2, u3, v3, u4, v4, u5, v5, u6, v6, u7, v7, u8, v8, u9, v9, u10, v10⟩ := cells11 g3
  obtain ⟨p0, o0, p1, o1⟩ := cells2 g4
  have q0 := (Array.getElem?_eq_some_iff.1 g0).1
  have q1 := (Array.getElem?_eq_some_iff.1 g1).1
  have q2 := (Array.getElem?_eq_some_iff.1 g2).1
  have q3 := (Array.getElem?_eq_some_iff.1 g3).1
  have q4 := (Array.getElem?_eq_some_iff.1 g4).1
  go_wp2_with (go_at_call 9; refine (HN.out _ HO1.out HP1.out).mono ?_; rintro e w1 ⟨rfl, hb1⟩; have HP2 := Lib.hid (HP1.out.below hb1); replace hb := below_then hb hb1; replace g0 := blk_below g0 hb1; replace g1 := blk_below g1 hb1; replace g2 := blk_below g2 hb1; replace g3 := blk_below g3 hb1; replace g4 := blk_below g4 hb1; clear hb1; clear r0 r1 r2 r3 r4 r5 r6 r7 r8 r9 r10 r11 k0 y0 k1 y1 k2 y2 k3 y3 k4 y4 k5 y5 k6 y6 k7 y7 k8 y8 k9 y9 k10 y10 u0 v0 u1 v1 u2 v2 u3 v3 u4 v4 u5 v5 u6 v6 u7 v7 u8 v8 u9 v9 u10 v10 c0 c1 c2 c3 p0 o0 p1 o1 q0 q1 q2 q3 q4; obtain ⟨r0, r1, r2, r3, r4, r5, r6, r7, r8, r9, r10, r11⟩ := cl12 g0; obtain ⟨k0, y0, k1, y1, k2, y2, k3, y3, k4, y4, k5, y5, k6, y6, k7, y7, k8, y8, k9, y9, k10, y10⟩ := cells11 g1; obtain ⟨c0, c1, c2, c3⟩ := cells4p g2; obtain ⟨u0, v0, u1, v1, u2, v2, u3, v3, u4, v4, u5, v5, u6, v6, u7, v7, u8, v8, u9, v9, u10, v10⟩ := cells11 g3; obtain ⟨p0, o0, p1, o1⟩ := cells2 g4; have q0 := (Array.getElem?_eq_some_iff.1 g0).1; have q1 := (Array.getElem?_eq_some_iff.1 g1).1; have q2 := (Array.getElem?_eq_some_iff.1 g2).1; have q3 := (Array.getElem?_eq_some_iff.1 g3).1; have q4 := (Array.getElem?_eq_some_iff.1 g4).1)
  have HB := Lib.hid hb
  refine ret_in fun W' hW' => ?_
  have G3 : W'.heap[w.heap.size + 1 + 1 + 1]? = some (.cells #[.int .u8 0, .int .u32 0, .int .u32 0, .int .u8 0, .int .u8 0, .int .u8 0, .int .u8 0, .int .u8 0, .int .u8 0, .int .u32 0, .int .u32 0] 32 (0, 0)) := by
    rw [hW']
    repeat' (first
      | with_reducible refine Bk11.set ?_
      | with_reducible refine Bk2.set ?_
      | with_reducible refine bk_other11 ?_ ?_
      | with_reducible refine bk_other2 ?_ ?_
      | with_reducible refine Bk11.other11 ?_ ?_
      | with_reducible refine Bk11.other2 ?_ ?_
      | with_reducible refine Bk2.other11 ?_ ?_
      | with_reducible refine bk_drew ?_
      | with_reducible refine Bk11.drew ?_
      | with_reducible refine Bk2.drew ?_
      | with_reducible refine blk_alloc ?_
      | with_reducible refine Bk11.alloc ?_
      | with_reducible refine Bk2.alloc ?_
      | with_reducible refine Bk11.below hb6 ?_
      | with_reducible refine Bk2.below hb6 ?_
      | with_reducible exact bk11_of g3
      | with_reducible exact bk2_of g4
      | omega)
  have G4 : W'.heap[w.heap.size + 1 + 1 + 1 + 1]? = some (.cells #[.int .u64 0, .int .u64 0] 35 (0, 0)) := by
    rw [hW']
    repeat' (first
      | with_reducible refine Bk11.set ?_
      | with_reducible refine Bk2.set ?_
      | with_reducible refine bk_other11 ?_ ?_
      | with_reducible refine bk_other2 ?_ ?_
      | with_reducible refine Bk11.other11 ?_ ?_
      | with_reducible refine Bk11.other2 ?_ ?_
      | with_reducible refine Bk2.other11 ?_ ?_
      | with_reducible refine bk_drew ?_
      | with_reducible refine Bk11.drew ?_
      | with_reducible refine Bk2.drew ?_
      | with_reducible refine blk_alloc ?_
      | with_reducible refine Bk11.alloc ?_
      | with_reducible refine Bk2.alloc ?_
      | with_reducible refine Bk11.below hb6 ?_
      | with_reducible refine Bk2.below hb6 ?_
      | with_reducible exact bk11_of g3
      | with_reducible exact bk2_of g4
      | omega)
  have HW : Below w.heap.size w W' := by
    rw [hW']
    repeat' (first
      | with_reducible refine bw_set11 ?_ ?_
      | with_reducible refine bw_set2 ?_ ?_
      | with_reducible refine bw_drew ?_
      | with_reducible refine bw_alloc ?_
      | with_reducible refine bw_below hb6 ?_
      | with_reducible exact HB.out
      | omega)
  clear hW' r0 r1 r2 r3 r4 r5 r6 r7 r8 r9 r10 r11 k0 y0 k1 y1 k2 y2 k3 y3 k4 y4 k5 y5 k6 y6 k7 y7 k8 y8 k9 y9 k10 y10 u0 v0 u1 v1 u2 v2 u3 v3 u4 v4 u5 v5 u6 v6 u7 v7 u8 v8 u9 v9 u10 v10 c0 c1 c2 c3 p0 o0 p1 o1 q0 q1 q2 q3 q4
  obtain ⟨u0, v0, u1, v1, u2, v2, u3, v3, u4, v4, u5, v5, u6, v6, u7, v7, u8, v8, u9, v9, u10, v10⟩ := cells11 G3
  obtain ⟨p0, o0, p1, o1⟩ := cells2 G4
  refine bodyPost_ret ?_ rfl ⟨rfl, HW⟩
  simp [results, Tryd.results11, go_sem, u0, u1, u2, u3, u4, u5, u6, u7, u8, u9, u10, p0, p1]
end Go.Proofs.YtmkehailohgebaaDoor
