/- What becomes of a frame of an index: the document's own call: whole. -/
import Derived.Test.YtmkehailohgebaaDoorTeAft
import Derived.Test.YtmkehailohgebaaDoorTeXY
import Derived.Deep.RegionHeld3
namespace Go.Proofs.YtmkehailohgebaaDoor
open Go.RowKit Go.Lib Pt Opn

theorem behX_bounds {c : Cf} {C N K : Nat} (_ : SzX c C N K) (_ : c.obj = 2) {f : Ds} (hw : DWf f) (_ : XMay c f) (A B : Nat) : (behindX c f A B).1.x < 4294967296 ∧ (behindX c f A B).1.y < 4294967296 := by
  unfold DWf at hw
  exact bd_behind (show BdX f from ⟨by omega, by omega⟩) A B

set_option maxRecDepth 100000 in
set_option maxHeartbeats 16000000 in
theorem rAfterX_any (c : Cf) (f : Ds) (hw : DWf f) (tt A B Cc : Nat) (w : World) : Calls Tryd.prog 16 #[cfv c, frv f, cvT tt A B Cc] w (Ret4 (frv (afterX c f A B).1) (rwv (afterX c f A B).2.1) (.bool (afterX c f A B).2.2.1) (.int .i64 (afterX c f A B).2.2.2) w) := by
  have HM := Lib.hid (fun W => rMayBe_any c W)
  by_cases hok : Ok c ∧ c.obj = 2
  · rw [show okB c = true from decide_eq_true hok.1] at HM
    obtain ⟨C, N, K, s⟩ := szX hok.1 hok.2
    have HY := Lib.hid (fun W => rMayX_any s f hw W)
    have h1 : (c.obj != 2) = false := by simp [hok.2]
    by_cases hm : XMay c f
    · rw [decide_eq_true hm] at HY
      have HS := Lib.hid (fun W => rBehX_any s f hm.2.1 (fit_of s hok.2 hw hm) tt A B Cc W)
      have hbx := behX_bounds s hok.2 hw hm A B
      have hx : afterX c f A B = ((behindX c f A B).1, toldX (behindX c f A B), (behindX c f A B).2, 0) := by unfold afterX; rw [if_neg (not_not_intro hok), if_neg (not_not_intro hm)]
      rw [hx]
      obtain ⟨⟨X, bo⟩, hX⟩ : ∃ X, behindX c f A B = X := ⟨_, rfl⟩
      rw [hX] at HS hbx ⊢
      simp only at HS hbx ⊢
      have HRW := Lib.hid (fun W => rRowX_any X hbx.1 hbx.2 W)
      clear hx hX hm hok hw hbx s
      unfold frv rwv at *
      unfold cfv cvT at *
      cases bo with
      | false =>
        simp only [toldX]
        go_enter Tryd.func16, Tryd.ntmps16
        go_upto_region 1 with fail
        refine enter5 fun W hb g0 g1 g2 g3 g4 => ?_
        obtain ⟨r0, r1, r2, r3, r4, r5, r6, r7, r8, r9, r10, r11⟩ := cl12 g0
        obtain ⟨k0, y0, k1, y1, k2, y2, k3, y3, k4, y4, k5, y5, k6, y6, k7, y7, k8, y8, k9, y9, k10, y10⟩ := cells11 g1
        obtain ⟨c0, c1, c2, c3⟩ := cells4p g2
        obtain ⟨u0, v0, u1, v1, u2, v2, u3, v3, u4, v4, u5, v5, u6, v6, u7, v7, u8, v8, u9, v9, u10, v10⟩ := cells11 g3
        obtain ⟨p0, o0, p1, o1⟩ := cells2 g4
        have q0 := (Array.getElem?_eq_some_iff.1 g0).1
        have q1 := (Array.getElem?_eq_some_iff.1 g1).1
        have q2 := (Array.getElem?_eq_some_iff.1 g2).1
        have q3 := (Array.getElem?_eq_some_iff.1 g3).1
        have q4 := (Array.getElem?_eq_some_iff.1 g4).1
        go_wp2_with (first | (go_at_call 35; refine (HM.out _).mono ?_; rintro e w1 ⟨rfl, hb1⟩; replace hb := below_then hb hb1; replace g0 := blk_below g0 hb1; replace g1 := blk_below g1 hb1; replace g2 := blk_below g2 hb1; replace g3 := blk_below g3 hb1; replace g4 := blk_below g4 hb1; clear hb1; clear r0 r1 r2 r3 r4 r5 r6 r7 r8 r9 r10 r11 k0 y0 k1 y1 k2 y2 k3 y3 k4 y4 k5 y5 k6 y6 k7 y7 k8 y8 k9 y9 k10 y10 u0 v0 u1 v1 u2 v2 u3 v3 u4 v4 u5 v5 u6 v6 u7 v7 u8 v8 u9 v9 u10 v10 c0 c1 c2 c3 p0 o0 p1 o1 q0 q1 q2 q3 q4; obtain ⟨r0, r1, r2, r3, r4, r5, r6, r7, r8, r9, r10, r11⟩ := cl12 g0; obtain ⟨k0, y0, k1, y1, k2, y2, k3, y3, k4, y4, k5, y5, k6, y6, k7, y7, k8, y8, k9, y9, k10, y10⟩ := cells11 g1; obtain ⟨c0, c1, c2, c3⟩ := cells4p g2; obtain ⟨u0, v0, u1, v1, u2, v2, u3, v3, u4, v4, u5, v5, u6, v6, u7, v7, u8, v8, u9, v9, u10, v10⟩ := cells11 g3; obtain ⟨p0, o0, p1, o1⟩ := cells2 g4; have q0 := (Array.getElem?_eq_some_iff.1 g0).1; have q1 := (Array.getElem?_eq_some_iff.1 g1).1; have q2 := (Array.getElem?_eq_some_iff.1 g2).1; have q3 := (Array.getElem?_eq_some_iff.1 g3).1; have q4 := (Array.getElem?_eq_some_iff.1 g4).1) | (go_at_call 36; refine (HY.out _).mono ?_; rintro e w2 ⟨rfl, hb2⟩; replace hb := below_then hb hb2; replace g0 := blk_below g0 hb2; replace g1 := blk_below g1 hb2; replace g2 := blk_below g2 hb2; replace g3 := blk_below g3 hb2; replace g4 := blk_below g4 hb2; clear hb2; clear r0 r1 r2 r3 r4 r5 r6 r7 r8 r9 r10 r11 k0 y0 k1 y1 k2 y2 k3 y3 k4 y4 k5 y5 k6 y6 k7 y7 k8 y8 k9 y9 k10 y10 u0 v0 u1 v1 u2 v2 u3 v3 u4 v4 u5 v5 u6 v6 u7 v7 u8 v8 u9 v9 u10 v10 c0 c1 c2 c3 p0 o0 p1 o1 q0 q1 q2 q3 q4; obtain ⟨r0, r1, r2, r3, r4, r5, r6, r7, r8, r9, r10, r11⟩ := cl12 g0; obtain ⟨k0, y0, k1, y1, k2, y2, k3, y3, k4, y4, k5, y5, k6, y6, k7, y7, k8, y8, k9, y9, k10, y10⟩ := cells11 g1; obtain ⟨c0, c1, c2, c3⟩ := cells4p g2; obtain ⟨u0, v0, u1, v1, u2, v2, u3, v3, u4, v4, u5, v5, u6, v6, u7, v7, u8, v8, u9, v9, u10, v10⟩ := cells11 g3; obtain ⟨p0, o0, p1, o1⟩ := cells2 g4; have q0 := (Array.getElem?_eq_some_iff.1 g0).1; have q1 := (Array.getElem?_eq_some_iff.1 g1).1; have q2 := (Array.getElem?_eq_some_iff.1 g2).1; have q3 := (Array.getElem?_eq_some_iff.1 g3).1; have q4 := (Array.getElem?_eq_some_iff.1 g4).1) | (go_at_call 38; refine (HS.out _).mono ?_; rintro e w3 ⟨rfl, hb3⟩; replace hb := below_then hb hb3; replace g0 := blk_below g0 hb3; replace g1 := blk_below g1 hb3; replace g2 := blk_below g2 hb3; replace g3 := blk_below g3 hb3; replace g4 := blk_below g4 hb3; clear hb3; clear r0 r1 r2 r3 r4 r5 r6 r7 r8 r9 r10 r11 k0 y0 k1 y1 k2 y2 k3 y3 k4 y4 k5 y5 k6 y6 k7 y7 k8 y8 k9 y9 k10 y10 u0 v0 u1 v1 u2 v2 u3 v3 u4 v4 u5 v5 u6 v6 u7 v7 u8 v8 u9 v9 u10 v10 c0 c1 c2 c3 p0 o0 p1 o1 q0 q1 q2 q3 q4; obtain ⟨r0, r1, r2, r3, r4, r5, r6, r7, r8, r9, r10, r11⟩ := cl12 g0; obtain ⟨k0, y0, k1, y1, k2, y2, k3, y3, k4, y4, k5, y5, k6, y6, k7, y7, k8, y8, k9, y9, k10, y10⟩ := cells11 g1; obtain ⟨c0, c1, c2, c3⟩ := cells4p g2; obtain ⟨u0, v0, u1, v1, u2, v2, u3, v3, u4, v4, u5, v5, u6, v6, u7, v7, u8, v8, u9, v9, u10, v10⟩ := cells11 g3; obtain ⟨p0, o0, p1, o1⟩ := cells2 g4; have q0 := (Array.getElem?_eq_some_iff.1 g0).1; have q1 := (Array.getElem?_eq_some_iff.1 g1).1; have q2 := (Array.getElem?_eq_some_iff.1 g2).1; have q3 := (Array.getElem?_eq_some_iff.1 g3).1; have q4 := (Array.getElem?_eq_some_iff.1 g4).1))
        have HB := Lib.hid hb
        refine ret_in fun W' hW' => ?_
        have G3 : W'.heap[w.heap.size + 1 + 1 + 1]? = some (.cells #[.int .u8 (X.kind : Nat), .int .u32 (X.a : Nat), .int .u32 (X.b : Nat), .int .u8 (X.pc : Nat), .int .u8 (X.i : Nat), .int .u8 (X.j : Nat), .int .u8 (X.n : Nat), .int .u8 (X.p : Nat), .int .u8 (X.h : Nat), .int .u32 (X.x : Nat), .int .u32 (X.y : Nat)] 32 (0, 0)) := by
          rw [hW']
          repeat' (first
            | with_reducible refine Bk11.set ?_
            | with_reducible refine Bk2.set ?_
            | with_reducible refine bk_other11 ?_ ?_
            | with_reducible refine bk_other2 ?_ ?_
            | with_reducible refine Bk11.other11 ?_ ?_
            | with_reducible refine Bk11.other2 ?_ ?_
            | with_reducible refine Bk2.other11 ?_ ?_
            | with_reducible refine bk_drew ?_
            | with_reducible refine Bk11.drew ?_
            | with_reducible refine Bk2.drew ?_
            | with_reducible refine blk_alloc ?_
            | with_reducible refine Bk11.alloc ?_
            | with_reducible refine Bk2.alloc ?_
            | with_reducible refine Bk11.below hb6 ?_
            | with_reducible refine Bk2.below hb6 ?_
            | with_reducible exact bk11_of g3
            | with_reducible exact bk2_of g4
            | omega)
        have G4 : W'.heap[w.heap.size + 1 + 1 + 1 + 1]? = some (.cells #[.int .u64 0, .int .u64 0] 35 (0, 0)) := by
          rw [hW']
          repeat' (first
            | with_reducible refine Bk11.set ?_
            | with_reducible refine Bk2.set ?_
            | with_reducible refine bk_other11 ?_ ?_
            | with_reducible refine bk_other2 ?_ ?_
            | with_reducible refine Bk11.other11 ?_ ?_
            | with_reducible refine Bk11.other2 ?_ ?_
            | with_reducible refine Bk2.other11 ?_ ?_
            | with_reducible refine bk_drew ?_
            | with_reducible refine Bk11.drew ?_
            | with_reducible refine Bk2.drew ?_
            | with_reducible refine blk_alloc ?_
            | with_reducible refine Bk11.alloc ?_
            | with_reducible refine Bk2.alloc ?_
            | with_reducible refine Bk11.below hb6 ?_
            | with_reducible refine Bk2.below hb6 ?_
            | with_reducible exact bk11_of g3
            | with_reducible exact bk2_of g4
            | omega)
        have HW : Below w.heap.size w W' := by
          rw [hW']
          repeat' (first
            | with_reducible refine bw_set11 ?_ ?_
            | with_reducible refine bw_set2 ?_ ?_
            | with_reducible refine bw_drew ?_
            | with_reducible refine bw_alloc ?_
            | with_reducible refine bw_below hb6 ?_
            | with_reducible exact HB.out
            | omega)
        clear hW' r0 r1 r2 r3 r4 r5 r6 r7 r8 r9 r10 r11 k0 y0 k1 y1 k2 y2 k3 y3 k4 y4 k5 y5 k6 y6 k7 y7 k8 y8 k9 y9 k10 y10 u0 v0 u1 v1 u2 v2 u3 v3 u4 v4 u5 v5 u6 v6 u7 v7 u8 v8 u9 v9 u10 v10 c0 c1 c2 c3 p0 o0 p1 o1 q0 q1 q2 q3 q4
        obtain ⟨u0, v0, u1, v1, u2, v2, u3, v3, u4, v4, u5, v5, u6, v6, u7, v7, u8, v8, u9, v9, u10, v10⟩ := cells11 G3
        obtain ⟨p0, o0, p1, o1⟩ := cells2 G4
        refine bodyPost_ret ?_ rfl ⟨rfl, HW⟩
        simp [results, Tryd.results16, go_sem, u0, u1, u2, u3, u4, u5, u6, u7, u8, u9, u10, p0, p1]
      | true =>
        simp only [toldX]
        go_enter Tryd.func16, Tryd.ntmps16
        go_upto_region 1 with fail
        refine enter5 fun W hb g0 g1 g2 g3 g4 => ?_
        obtain ⟨r0, r1, r2, r3, r4, r5, r6, r7, r8, r9, r10, r11⟩ := cl12 g0
        obtain ⟨k0, y0, k1, y1, k2, y2, k3, y3, k4, y4, k5, y5, k6, y6, k7, y7, k8, y8, k9, y9, k10, y10⟩ := cells11 g1
        obtain ⟨c0, c1, c2, c3⟩ := cells4p g2
        obtain ⟨u0, v0, u1, v1, u2, v2, u3, v3, u4, v4, u5, v5, u6, v6, u7, v7, u8, v8, u9, v9, u10, v10⟩ := cells11 g3
        obtain ⟨p0, o0, p1, o1⟩ := cells2 g4
        have q0 := (Array.getElem?_eq_some_iff.1 g0).1
        have q1 := (Array.getElem?_eq_some_iff.1 g1).1
        have q2 := (Array.getElem?_eq_some_iff.1 g2).1
        have q3 := (Array.getElem?_eq_some_iff.1 g3).1
        have q4 := (Array.getElem?_eq_some_iff.1 g4).1
        go_upto_region 8 with (first | (go_at_call 35; refine (HM.out _).mono ?_; rintro e w1 ⟨rfl, hb1⟩; replace hb := below_then hb hb1; replace g0 := blk_below g0 hb1; replace g1 := blk_below g1 hb1; replace g2 := blk_below g2 hb1; replace g3 := blk_below g3 hb1; replace g4 := blk_below g4 hb1; clear hb1; clear r0 r1 r2 r3 r4 r5 r6 r7 r8 r9 r10 r11 k0 y0 k1 y1 k2 y2 k3 y3 k4 y4 k5 y5 k6 y6 k7 y7 k8 y8 k9 y9 k10 y10 u0 v0 u1 v1 u2 v2 u3 v3 u4 v4 u5 v5 u6 v6 u7 v7 u8 v8 u9 v9 u10 v10 c0 c1 c2 c3 p0 o0 p1 o1 q0 q1 q2 q3 q4; obtain ⟨r0, r1, r2, r3, r4, r5, r6, r7, r8, r9, r10, r11⟩ := cl12 g0; obtain ⟨k0, y0, k1, y1, k2, y2, k3, y3, k4, y4, k5, y5, k6, y6, k7, y7, k8, y8, k9, y9, k10, y10⟩ := cells11 g1; obtain ⟨c0, c1, c2, c3⟩ := cells4p g2; obtain ⟨u0, v0, u1, v1, u2, v2, u3, v3, u4, v4, u5, v5, u6, v6, u7, v7, u8, v8, u9, v9, u10, v10⟩ := cells11 g3; obtain ⟨p0, o0, p1, o1⟩ := cells2 g4; have q0 := (Array.getElem?_eq_some_iff.1 g0).1; have q1 := (Array.getElem?_eq_some_iff.1 g1).1; have q2 := (Array.getElem?_eq_some_iff.1 g2).1; have q3 := (Array.getElem?_eq_some_iff.1 g3).1; have q4 := (Array.getElem?_eq_some_iff.1 g4).1) | (go_at_call 36; refine (HY.out _).mono ?_; rintro e w2 ⟨rfl, hb2⟩; replace hb := below_then hb hb2; replace g0 := blk_below g0 hb2; replace g1 := blk_below g1 hb2; replace g2 := blk_below g2 hb2; replace g3 := blk_below g3 hb2; replace g4 := blk_below g4 hb2; clear hb2; clear r0 r1 r2 r3 r4 r5 r6 r7 r8 r9 r10 r11 k0 y0 k1 y1 k2 y2 k3 y3 k4 y4 k5 y5 k6 y6 k7 y7 k8 y8 k9 y9 k10 y10 u0 v0 u1 v1 u2 v2 u3 v3 u4 v4 u5 v5 u6 v6 u7 v7 u8 v8 u9 v9 u10 v10 c0 c1 c2 c3 p0 o0 p1 o1 q0 q1 q2 q3 q4; obtain ⟨r0, r1, r2, r3, r4, r5, r6, r7, r8, r9, r10, r11⟩ := cl12 g0; obtain ⟨k0, y0, k1, y1, k2, y2, k3, y3, k4, y4, k5, y5, k6, y6, k7, y7, k8, y8, k9, y9, k10, y10⟩ := cells11 g1; obtain ⟨c0, c1, c2, c3⟩ := cells4p g2; obtain ⟨u0, v0, u1, v1, u2, v2, u3, v3, u4, v4, u5, v5, u6, v6, u7, v7, u8, v8, u9, v9, u10, v10⟩ := cells11 g3; obtain ⟨p0, o0, p1, o1⟩ := cells2 g4; have q0 := (Array.getElem?_eq_some_iff.1 g0).1; have q1 := (Array.getElem?_eq_some_iff.1 g1).1; have q2 := (Array.getElem?_eq_some_iff.1 g2).1; have q3 := (Array.getElem?_eq_some_iff.1 g3).1; have q4 := (Array.getElem?_eq_some_iff.1 g4).1) | (go_at_call 38; refine (HS.out _).mono ?_; rintro e w3 ⟨rfl, hb3⟩; replace hb := below_then hb hb3; replace g0 := blk_below g0 hb3; replace g1 := blk_below g1 hb3; replace g2 := blk_below g2 hb3; replace g3 := blk_below g3 hb3; replace g4 := blk_below g4 hb3; clear hb3; clear r0 r1 r2 r3 r4 r5 r6 r7 r8 r9 r10 r11 k0 y0 k1 y1 k2 y2 k3 y3 k4 y4 k5 y5 k6 y6 k7 y7 k8 y8 k9 y9 k10 y10 u0 v0 u1 v1 u2 v2 u3 v3 u4 v4 u5 v5 u6 v6 u7 v7 u8 v8 u9 v9 u10 v10 c0 c1 c2 c3 p0 o0 p1 o1 q0 q1 q2 q3 q4; obtain ⟨r0, r1, r2, r3, r4, r5, r6, r7, r8, r9, r10, r11⟩ := cl12 g0; obtain ⟨k0, y0, k1, y1, k2, y2, k3, y3, k4, y4, k5, y5, k6, y6, k7, y7, k8, y8, k9, y9, k10, y10⟩ := cells11 g1; obtain ⟨c0, c1, c2, c3⟩ := cells4p g2; obtain ⟨u0, v0, u1, v1, u2, v2, u3, v3, u4, v4, u5, v5, u6, v6, u7, v7, u8, v8, u9, v9, u10, v10⟩ := cells11 g3; obtain ⟨p0, o0, p1, o1⟩ := cells2 g4; have q0 := (Array.getElem?_eq_some_iff.1 g0).1; have q1 := (Array.getElem?_eq_some_iff.1 g1).1; have q2 := (Array.getElem?_eq_some_iff.1 g2).1; have q3 := (Array.getElem?_eq_some_iff.1 g3).1; have q4 := (Array.getElem?_eq_some_iff.1 g4).1))
        refine enter1 fun W8 hb8 g8 q8 => ?_
        replace hb := below_then hb hb8
        replace g3 := blk_below g3 hb8
        replace g4 := blk_below g4 hb8
        clear g0 g1 g2 r0 r1 r2 r3 r4 r5 r6 r7 r8 r9 r10 r11 k0 y0 k1 y1 k2 y2 k3 y3 k4 y4 k5 y5 k6 y6 k7 y7 k8 y8 k9 y9 k10 y10 u0 v0 u1 v1 u2 v2 u3 v3 u4 v4 u5 v5 u6 v6 u7 v7 u8 v8 u9 v9 u10 v10 c0 c1 c2 c3 p0 o0 p1 o1 q0 q1 q2 q3 q4
        obtain ⟨k0, y0, k1, y1, k2, y2, k3, y3, k4, y4, k5, y5, k6, y6, k7, y7, k8, y8, k9, y9, k10, y10⟩ := cells11 g8
        have q3 := (Array.getElem?_eq_some_iff.1 g3).1
        have q4 := (Array.getElem?_eq_some_iff.1 g4).1
        refine wp_region_tail_reads 3 (by kernel_rfl) (by kernel_rfl) fun HR => ?_
        simp only [List.take_succ_cons, List.take_zero, List.drop_succ_cons, List.drop_zero]
        repeat (go_big_quiet_step (first | with_reducible exact Calls.regrown_of (HRW.out _)))
        refine wpQuiet_nil ?_
        intro W9 hw'
        obtain ⟨⟨dq, osq⟩, hw''⟩ := hw'
        have hb9 : Below W8.heap.size W8 W9 := by rw [hw'']; exact below_regrown _ dq osq
        clear hw'' HR dq osq k0 y0 k1 y1 k2 y2 k3 y3 k4 y4 k5 y5 k6 y6 k7 y7 k8 y8 k9 y9 k10 y10 q3 q4
        replace hb := below_then hb hb9
        replace g3 := blk_below g3 hb9
        replace g4 := blk_below g4 hb9
        clear hb8 hb9 g8 q8
        obtain ⟨u0, v0, u1, v1, u2, v2, u3, v3, u4, v4, u5, v5, u6, v6, u7, v7, u8, v8, u9, v9, u10, v10⟩ := cells11 g3
        obtain ⟨p0, o0, p1, o1⟩ := cells2 g4
        have q3 := (Array.getElem?_eq_some_iff.1 g3).1
        have q4 := (Array.getElem?_eq_some_iff.1 g4).1
        go_wp2_with fail
        have HB := Lib.hid hb
        refine ret_in fun W' hW' => ?_
        have G3 : W'.heap[w.heap.size + 1 + 1 + 1]? = some (.cells #[.int .u8 (X.kind : Nat), .int .u32 (X.a : Nat), .int .u32 (X.b : Nat), .int .u8 (X.pc : Nat), .int .u8 (X.i : Nat), .int .u8 (X.j : Nat), .int .u8 (X.n : Nat), .int .u8 (X.p : Nat), .int .u8 (X.h : Nat), .int .u32 (X.x : Nat), .int .u32 (X.y : Nat)] 32 (0, 0)) := by
          rw [hW']
          repeat' (first
            | with_reducible refine Bk11.set ?_
            | with_reducible refine Bk2.set ?_
            | with_reducible refine bk_other11 ?_ ?_
            | with_reducible refine bk_other2 ?_ ?_
            | with_reducible refine Bk11.other11 ?_ ?_
            | with_reducible refine Bk11.other2 ?_ ?_
            | with_reducible refine Bk2.other11 ?_ ?_
            | with_reducible refine bk_drew ?_
            | with_reducible refine Bk11.drew ?_
            | with_reducible refine Bk2.drew ?_
            | with_reducible refine blk_alloc ?_
            | with_reducible refine Bk11.alloc ?_
            | with_reducible refine Bk2.alloc ?_
            | with_reducible refine Bk11.below hb6 ?_
            | with_reducible refine Bk2.below hb6 ?_
            | with_reducible exact bk11_of g3
            | with_reducible exact bk2_of g4
            | omega)
        have G4 : W'.heap[w.heap.size + 1 + 1 + 1 + 1]? = some (.cells #[.int .u64 (X.x : Nat), .int .u64 (X.y : Nat)] 35 (0, 0)) := by
          rw [hW']
          repeat' (first
            | with_reducible refine Bk11.set ?_
            | with_reducible refine Bk2.set ?_
            | with_reducible refine bk_other11 ?_ ?_
            | with_reducible refine bk_other2 ?_ ?_
            | with_reducible refine Bk11.other11 ?_ ?_
            | with_reducible refine Bk11.other2 ?_ ?_
            | with_reducible refine Bk2.other11 ?_ ?_
            | with_reducible refine bk_drew ?_
            | with_reducible refine Bk11.drew ?_
            | with_reducible refine Bk2.drew ?_
            | with_reducible refine blk_alloc ?_
            | with_reducible refine Bk11.alloc ?_
            | with_reducible refine Bk2.alloc ?_
            | with_reducible refine Bk11.below hb6 ?_
            | with_reducible refine Bk2.below hb6 ?_
            | with_reducible exact bk11_of g3
            | with_reducible exact bk2_of g4
            | omega)
        have HW : Below w.heap.size w W' := by
          rw [hW']
          repeat' (first
            | with_reducible refine bw_set11 ?_ ?_
            | with_reducible refine bw_set2 ?_ ?_
            | with_reducible refine bw_drew ?_
            | with_reducible refine bw_alloc ?_
            | with_reducible refine bw_below hb6 ?_
            | with_reducible exact HB.out
            | omega)
        clear hW' u0 v0 u1 v1 u2 v2 u3 v3 u4 v4 u5 v5 u6 v6 u7 v7 u8 v8 u9 v9 u10 v10 p0 o0 p1 o1 q3 q4
        obtain ⟨u0, v0, u1, v1, u2, v2, u3, v3, u4, v4, u5, v5, u6, v6, u7, v7, u8, v8, u9, v9, u10, v10⟩ := cells11 G3
        obtain ⟨p0, o0, p1, o1⟩ := cells2 G4
        refine bodyPost_ret ?_ rfl ⟨rfl, HW⟩
        simp [results, Tryd.results16, go_sem, u0, u1, u2, u3, u4, u5, u6, u7, u8, u9, u10, p0, p1]
    · rw [decide_eq_false hm] at HY
      have hx : afterX c f A B = (frZero, (0, 0), false, 2) := by unfold afterX; rw [if_neg (not_not_intro hok), if_pos hm]
      rw [hx]
      clear hx hm hok hw s
      unfold frZero
      unfold cfv frv rwv cvT at *
      simp only
      go_enter Tryd.func16, Tryd.ntmps16
      go_upto_region 1 with fail
      refine enter5 fun W hb g0 g1 g2 g3 g4 => ?_
      obtain ⟨r0, r1, r2, r3, r4, r5, r6, r7, r8, r9, r10, r11⟩ := cl12 g0
      obtain ⟨k0, y0, k1, y1, k2, y2, k3, y3, k4, y4, k5, y5, k6, y6, k7, y7, k8, y8, k9, y9, k10, y10⟩ := cells11 g1
      obtain ⟨c0, c1, c2, c3⟩ := cells4p g2
      obtain ⟨u0, v0, u1, v1, u2, v2, u3, v3, u4, v4, u5, v5, u6, v6, u7, v7, u8, v8, u9, v9, u10, v10⟩ := cells11 g3
      obtain ⟨p0, o0, p1, o1⟩ := cells2 g4
      have q0 := (Array.getElem?_eq_some_iff.1 g0).1
      have q1 := (Array.getElem?_eq_some_iff.1 g1).1
      have q2 := (Array.getElem?_eq_some_iff.1 g2).1
      have q3 := (Array.getElem?_eq_some_iff.1 g3).1
      have q4 := (Array.getElem?_eq_some_iff.1 g4).1
      go_wp2_with (first | (go_at_call 35; refine (HM.out _).mono ?_; rintro e w1 ⟨rfl, hb1⟩; replace hb := below_then hb hb1; replace g0 := blk_below g0 hb1; replace g1 := blk_below g1 hb1; replace g2 := blk_below g2 hb1; replace g3 := blk_below g3 hb1; replace g4 := blk_below g4 hb1; clear hb1; clear r0 r1 r2 r3 r4 r5 r6 r7 r8 r9 r10 r11 k0 y0 k1 y1 k2 y2 k3 y3 k4 y4 k5 y5 k6 y6 k7 y7 k8 y8 k9 y9 k10 y10 u0 v0 u1 v1 u2 v2 u3 v3 u4 v4 u5 v5 u6 v6 u7 v7 u8 v8 u9 v9 u10 v10 c0 c1 c2 c3 p0 o0 p1 o1 q0 q1 q2 q3 q4; obtain ⟨r0, r1, r2, r3, r4, r5, r6, r7, r8, r9, r10, r11⟩ := cl12 g0; obtain ⟨k0, y0, k1, y1, k2, y2, k3, y3, k4, y4, k5, y5, k6, y6, k7, y7, k8, y8, k9, y9, k10, y10⟩ := cells11 g1; obtain ⟨c0, c1, c2, c3⟩ := cells4p g2; obtain ⟨u0, v0, u1, v1, u2, v2, u3, v3, u4, v4, u5, v5, u6, v6, u7, v7, u8, v8, u9, v9, u10, v10⟩ := cells11 g3; obtain ⟨p0, o0, p1, o1⟩ := cells2 g4; have q0 := (Array.getElem?_eq_some_iff.1 g0).1; have q1 := (Array.getElem?_eq_some_iff.1 g1).1; have q2 := (Array.getElem?_eq_some_iff.1 g2).1; have q3 := (Array.getElem?_eq_some_iff.1 g3).1; have q4 := (Array.getElem?_eq_some_iff.1 g4).1) | (go_at_call 36; refine (HY.out _).mono ?_; rintro e w2 ⟨rfl, hb2⟩; replace hb := below_then hb hb2; replace g0 := blk_below g0 hb2; replace g1 := blk_below g1 hb2; replace g2 := blk_below g2 hb2; replace g3 := blk_below g3 hb2; replace g4 := blk_below g4 hb2; clear hb2; clear r0 r1 r2 r3 r4 r5 r6 r7 r8 r9 r10 r11 k0 y0 k1 y1 k2 y2 k3 y3 k4 y4 k5 y5 k6 y6 k7 y7 k8 y8 k9 y9 k10 y10 u0 v0 u1 v1 u2 v2 u3 v3 u4 v4 u5 v5 u6 v6 u7 v7 u8 v8 u9 v9 u10 v10 c0 c1 c2 c3 p0 o0 p1 o1 q0 q1 q2 q3 q4; obtain ⟨r0, r1, r2, r3, r4, r5, r6, r7, r8, r9, r10, r11⟩ := cl12 g0; obtain ⟨k0, y0, k1, y1, k2, y2, k3, y3, k4, y4, k5, y5, k6, y6, k7, y7, k8, y8, k9, y9, k10, y10⟩ := cells11 g1; obtain ⟨c0, c1, c2, c3⟩ := cells4p g2; obtain ⟨u0, v0, u1, v1, u2, v2, u3, v3, u4, v4, u5, v5, u6, v6, u7, v7, u8, v8, u9, v9, u10, v10⟩ := cells11 g3; obtain ⟨p0, o0, p1, o1⟩ := cells2 g4; have q0 := (Array.getElem?_eq_some_iff.1 g0).1; have q1 := (Array.getElem?_eq_some_iff.1 g1).1; have q2 := (Array.getElem?_eq_some_iff.1 g2).1; have q3 := (Array.getElem?_eq_some_iff.1 g3).1; have q4 := (Array.getElem?_eq_some_iff.1 g4).1))
      have HB := Lib.hid hb
      refine ret_in fun W' hW' => ?_
      have G3 : W'.heap[w.heap.size + 1 + 1 + 1]? = some (.cells #[.int .u8 0, .int .u32 0, .int .u32 0, .int .u8 0, .int .u8 0, .int .u8 0, .int .u8 0, .int .u8 0, .int .u8 0, .int .u32 0, .int .u32 0] 32 (0, 0)) := by
        rw [hW']
        repeat' (first
          | with_reducible refine Bk11.set ?_
          | with_reducible refine Bk2.set ?_
          | with_reducible refine bk_other11 ?_ ?_
          | with_reducible refine bk_other2 ?_ ?_
          | with_reducible refine Bk11.other11 ?_ ?_
          | with_reducible refine Bk11.other2 ?_ ?_
          | with_reducible refine Bk2.other11 ?_ ?_
          | with_reducible refine bk_drew ?_
          | with_reducible refine Bk11.drew ?_
          | with_reducible refine Bk2.drew ?_
          | with_reducible refine blk_alloc ?_
          | with_reducible refine Bk11.alloc ?_
          | with_reducible refine Bk2.alloc ?_
          | with_reducible refine Bk11.below hb6 ?_
          | with_reducible refine Bk2.below hb6 ?_
          | with_reducible exact bk11_of g3
          | with_reducible exact bk2_of g4
          | omega)
      have G4 : W'.heap[w.heap.size + 1 + 1 + 1 + 1]? = some (.cells #[.int .u64 0, .int .u64 0] 35 (0, 0)) := by
        rw [hW']
        repeat' (first
          | with_reducible refine Bk11.set ?_
          | with_reducible refine Bk2.set ?_
          | with_reducible refine bk_other11 ?_ ?_
          | with_reducible refine bk_other2 ?_ ?_
          | with_reducible refine Bk11.other11 ?_ ?_
          | with_reducible refine Bk11.other2 ?_ ?_
          | with_reducible refine Bk2.other11 ?_ ?_
          | with_reducible refine bk_drew ?_
          | with_reducible refine Bk11.drew ?_
          | with_reducible refine Bk2.drew ?_
          | with_reducible refine blk_alloc ?_
          | with_reducible refine Bk11.alloc ?_
          | with_reducible refine Bk2.alloc ?_
          | with_reducible refine Bk11.below hb6 ?_
          | with_reducible refine Bk2.below hb6 ?_
          | with_reducible exact bk11_of g3
          | with_reducible exact bk2_of g4
          | omega)
      have HW : Below w.heap.size w W' := by
        rw [hW']
        repeat' (first
          | with_reducible refine bw_set11 ?_ ?_
          | with_reducible refine bw_set2 ?_ ?_
          | with_reducible refine bw_drew ?_
          | with_reducible refine bw_alloc ?_
          | with_reducible refine bw_below hb6 ?_
          | with_reducible exact HB.out
          | omega)
      clear hW' r0 r1 r2 r3 r4 r5 r6 r7 r8 r9 r10 r11 k0 y0 k1 y1 k2 y2 k3 y3 k4 y4 k5 y5 k6 y6 k7 y7 k8 y8 k9 y9 k10 y10 u0 v0 u1 v1 u2 v2 u3 v3 u4 v4 u5 v5 u6 v6 u7 v7 u8 v8 u9 v9 u10 v10 c0 c1 c2 c3 p0 o0 p1 o1 q0 q1 q2 q3 q4
      obtain ⟨u0, v0, u1, v1, u2, v2, u3, v3, u4, v4, u5, v5, u6, v6, u7, v7, u8, v8, u9, v9, u10, v10⟩ := cells11 G3
      obtain ⟨p0, o0, p1, o1⟩ := cells2 G4
      refine bodyPost_ret ?_ rfl ⟨rfl, HW⟩
      simp [results, Tryd.results16, go_sem, u0, u1, u2, u3, u4, u5, u6, u7, u8, u9, u10, p0, p1]
  · have hx : afterX c f A B = (frZero, (0, 0), false, 40) := by unfold afterX; rw [if_pos hok]
    rw [hx]
    clear hx hw
    cases hk : okB c with
    | false =>
      rw [hk] at HM
      clear hok hk
      unfold frZero
      unfold cfv frv rwv cvT at *
      simp only
      go_enter Tryd.func16, Tryd.ntmps16
      go_upto_region 1 with fail
      refine enter5 fun W hb g0 g1 g2 g3 g4 => ?_
      obtain ⟨r0, r1, r2, r3, r4, r5, r6, r7, r8, r9, r10, r11⟩ := cl12 g0
      obtain ⟨k0, y0, k1, y1, k2, y2, k3, y3, k4, y4, k5, y5, k6, y6, k7, y7, k8, y8, k9, y9, k10, y10⟩ := cells11 g1
      obtain ⟨c0, c1, c2, c3⟩ := cells4p g2
      obtain ⟨u0, v0, u1, v1, u2, v2, u3, v3, u4, v4, u5, v5, u6, v6, u7, v7, u8, v8, u9, v9, u10, v10⟩ := cells11 g3
      obtain ⟨p0, o0, p1, o1⟩ := cells2 g4
      have q0 := (Array.getElem?_eq_some_iff.1 g0).1
      have q1 := (Array.getElem?_eq_some_iff.1 g1).1
      have q2 := (Array.getElem?_eq_some_iff.1 g2).1
      have q3 := (Array.getElem?_eq_some_iff.1 g3).1
      have q4 := (Array.getElem?_eq_some_iff.1 g4).1
      go_wp2_with (go_at_call 35; refine (HM.out _).mono ?_; rintro e w1 ⟨rfl, hb1⟩; replace hb := below_then hb hb1; replace g0 := blk_below g0 hb1; replace g1 := blk_below g1 hb1; replace g2 := blk_below g2 hb1; replace g3 := blk_below g3 hb1; replace g4 := blk_below g4 hb1; clear hb1; clear r0 r1 r2 r3 r4 r5 r6 r7 r8 r9 r10 r11 k0 y0 k1 y1 k2 y2 k3 y3 k4 y4 k5 y5 k6 y6 k7 y7 k8 y8 k9 y9 k10 y10 u0 v0 u1 v1 u2 v2 u3 v3 u4 v4 u5 v5 u6 v6 u7 v7 u8 v8 u9 v9 u10 v10 c0 c1 c2 c3 p0 o0 p1 o1 q0 q1 q2 q3 q4; obtain ⟨r0, r1, r2, r3, r4, r5, r6, r7, r8, r9, r10, r11⟩ := cl12 g0; obtain ⟨k0, y0, k1, y1, k2, y2, k3, y3, k4, y4, k5, y5, k6, y6, k7, y7, k8, y8, k9, y9, k10, y10⟩ := cells11 g1; obtain ⟨c0, c1, c2, c3⟩ := cells4p g2; obtain ⟨u0, v0, u1, v1, u2, v2, u3, v3, u4, v4, u5, v5, u6, v6, u7, v7, u8, v8, u9, v9, u10, v10⟩ := cells11 g3; obtain ⟨p0, o0, p1, o1⟩ := cells2 g4; have q0 := (Array.getElem?_eq_some_iff.1 g0).1; have q1 := (Array.getElem?_eq_some_iff.1 g1).1; have q2 := (Array.getElem?_eq_some_iff.1 g2).1; have q3 := (Array.getElem?_eq_some_iff.1 g3).1; have q4 := (Array.getElem?_eq_some_iff.1 g4).1)
      have HB := Lib.hid hb
      refine ret_in fun W' hW' => ?_
      have G3 : W'.heap[w.heap.size + 1 + 1 + 1]? = some (.cells #[.int .u8 0, .int .u32 0, .int .u32 0, .int .u8 0, .int .u8 0, .int .u8 0, .int .u8 0, .int .u8 0, .int .u8 0, .int .u32 0, .int .u32 0] 32 (0, 0)) := by
        rw [hW']
        repeat' (first
          | with_reducible refine Bk11.set ?_
          | with_reducible refine Bk2.set ?_
          | with_reducible refine bk_other11 ?_ ?_
          | with_reducible refine bk_other2 ?_ ?_
          | with_reducible refine Bk11.other11 ?_ ?_
          | with_reducible refine Bk11.other2 ?_ ?_
          | with_reducible refine Bk2.other11 ?_ ?_
          | with_reducible refine bk_drew ?_
          | with_reducible refine Bk11.drew ?_
          | with_reducible refine Bk2.drew ?_
          | with_reducible refine blk_alloc ?_
          | with_reducible refine Bk11.alloc ?_
          | with_reducible refine Bk2.alloc ?_
          | with_reducible refine Bk11.below hb6 ?_
          | with_reducible refine Bk2.below hb6 ?_
          | with_reducible exact bk11_of g3
          | with_reducible exact bk2_of g4
          | omega)
      have G4 : W'.heap[w.heap.size + 1 + 1 + 1 + 1]? = some (.cells #[.int .u64 0, .int .u64 0] 35 (0, 0)) := by
        rw [hW']
        repeat' (first
          | with_reducible refine Bk11.set ?_
          | with_reducible refine Bk2.set ?_
          | with_reducible refine bk_other11 ?_ ?_
          | with_reducible refine bk_other2 ?_ ?_
          | with_reducible refine Bk11.other11 ?_ ?_
          | with_reducible refine Bk11.other2 ?_ ?_
          | with_reducible refine Bk2.other11 ?_ ?_
          | with_reducible refine bk_drew ?_
          | with_reducible refine Bk11.drew ?_
          | with_reducible refine Bk2.drew ?_
          | with_reducible refine blk_alloc ?_
          | with_reducible refine Bk11.alloc ?_
          | with_reducible refine Bk2.alloc ?_
          | with_reducible refine Bk11.below hb6 ?_
          | with_reducible refine Bk2.below hb6 ?_
          | with_reducible exact bk11_of g3
          | with_reducible exact bk2_of g4
          | omega)
      have HW : Below w.heap.size w W' := by
        rw [hW']
        repeat' (first
          | with_reducible refine bw_set11 ?_ ?_
          | with_reducible refine bw_set2 ?_ ?_
          | with_reducible refine bw_drew ?_
          | with_reducible refine bw_alloc ?_
          | with_reducible refine bw_below hb6 ?_
          | with_reducible exact HB.out
          | omega)
      clear hW' r0 r1 r2 r3 r4 r5 r6 r7 r8 r9 r10 r11 k0 y0 k1 y1 k2 y2 k3 y3 k4 y4 k5 y5 k6 y6 k7 y7 k8 y8 k9 y9 k10 y10 u0 v0 u1 v1 u2 v2 u3 v3 u4 v4 u5 v5 u6 v6 u7 v7 u8 v8 u9 v9 u10 v10 c0 c1 c2 c3 p0 o0 p1 o1 q0 q1 q2 q3 q4
      obtain ⟨u0, v0, u1, v1, u2, v2, u3, v3, u4, v4, u5, v5, u6, v6, u7, v7, u8, v8, u9, v9, u10, v10⟩ := cells11 G3
      obtain ⟨p0, o0, p1, o1⟩ := cells2 G4
      refine bodyPost_ret ?_ rfl ⟨rfl, HW⟩
      simp [results, Tryd.results16, go_sem, u0, u1, u2, u3, u4, u5, u6, u7, u8, u9, u10, p0, p1]
    | true =>
      rw [hk] at HM
      have h1 : (c.obj != 2) = true := bne_iff_ne.2 fun g => hok ⟨of_decide_eq_true hk, g⟩
      clear hok hk
      unfold frZero
      unfold cfv frv rwv cvT at *
      simp only
      go_enter Tryd.func16, Tryd.ntmps16
      go_upto_region 1 with fail
      refine enter5 fun W hb g0 g1 g2 g3 g4 => ?_
      obtain ⟨r0, r1, r2, r3, r4, r5, r6, r7, r8, r9, r10, r11⟩ := cl12 g0
      obtain ⟨k0, y0, k1, y1, k2, y2, k3, y3, k4, y4, k5, y5, k6, y6, k7, y7, k8, y8, k9, y9, k10, y10⟩ := cells11 g1
      obtain ⟨c0, c1, c2, c3⟩ := cells4p g2
      obtain ⟨u0, v0, u1, v1, u2, v2, u3, v3, u4, v4, u5, v5, u6, v6, u7, v7, u8, v8, u9, v9, u10, v10⟩ := cells11 g3
      obtain ⟨p0, o0, p1, o1⟩ := cells2 g4
      have q0 := (Array.getElem?_eq_some_iff.1 g0).1
      have q1 := (Array.getElem?_eq_some_iff.1 g1).1
      have q2 := (Array.getElem?_eq_some_iff.1 g2).1
      have q3 := (Array.getElem?_eq_some_iff.1 g3).1
      have q4 := (Array.getElem?_eq_some_iff.1 g4).1
      go_wp2_with (go_at_call 35; refine (HM.out _).mono ?_; rintro e w1 ⟨rfl, hb1⟩; replace hb := below_then hb hb1; replace g0 := blk_below g0 hb1; replace g1 := blk_below g1 hb1; replace g2 := blk_below g2 hb1; replace g3 := blk_below g3 hb1; replace g4 := blk_below g4 hb1; clear hb1; clear r0 r1 r2 r3 r4 r5 r6 r7 r8 r9 r10 r11 k0 y0 k1 y1 k2 y2 k3 y3 k4 y4 k5 y5 k6 y6 k7 y7 k8 y8 k9 y9 k10 y10 u0 v0 u1 v1 u2 v2 u3 v3 u4 v4 u5 v5 u6 v6 u7 v7 u8 v8 u9 v9 u10 v10 c0 c1 c2 c3 p0 o0 p1 o1 q0 q1 q2 q3 q4; obtain ⟨r0, r1, r2, r3, r4, r5, r6, r7, r8, r9, r10, r11⟩ := cl12 g0; obtain ⟨k0, y0, k1, y1, k2, y2, k3, y3, k4, y4, k5, y5, k6, y6, k7, y7, k8, y8, k9, y9, k10, y10⟩ := cells11 g1; obtain ⟨c0, c1, c2, c3⟩ := cells4p g2; obtain ⟨u0, v0, u1, v1, u2, v2, u3, v3, u4, v4, u5, v5, u6, v6, u7, v7, u8, v8, u9, v9, u10, v10⟩ := cells11 g3; obtain ⟨p0, o0, p1, o1⟩ := cells2 g4; have q0 := (Array.getElem?_eq_some_iff.1 g0).1; have q1 := (Array.getElem?_eq_some_iff.1 g1).1; have q2 := (Array.getElem?_eq_some_iff.1 g2).1; have q3 := (Array.getElem?_eq_some_iff.1 g3).1; have q4 := (Array.getElem?_eq_some_iff.1 g4).1)
      have HB := Lib.hid hb
      refine ret_in fun W' hW' => ?_
      have G3 : W'.heap[w.heap.size + 1 + 1 + 1]? = some (.cells #[.int .u8 0, .int .u32 0, .int .u32 0, .int .u8 0, .int .u8 0, .int .u8 0, .int .u8 0, .int .u8 0, .int .u8 0, .int .u32 0, .int .u32 0] 32 (0, 0)) := by
        rw [hW']
        repeat' (first
          | with_reducible refine Bk11.set ?_
          | with_reducible refine Bk2.set ?_
          | with_reducible refine bk_other11 ?_ ?_
          | with_reducible refine bk_other2 ?_ ?_
          | with_reducible refine Bk11.other11 ?_ ?_
          | with_reducible refine Bk11.other2 ?_ ?_
          | with_reducible refine Bk2.other11 ?_ ?_
          | with_reducible refine bk_drew ?_
          | with_reducible refine Bk11.drew ?_
          | with_reducible refine Bk2.drew ?_
          | with_reducible refine blk_alloc ?_
          | with_reducible refine Bk11.alloc ?_
          | with_reducible refine Bk2.alloc ?_
          | with_reducible refine Bk11.below hb6 ?_
          | with_reducible refine Bk2.below hb6 ?_
          | with_reducible exact bk11_of g3
          | with_reducible exact bk2_of g4
          | omega)
      have G4 : W'.heap[w.heap.size + 1 + 1 + 1 + 1]? = some (.cells #[.int .u64 0, .int .u64 0] 35 (0, 0)) := by
        rw [hW']
        repeat' (first
          | with_reducible refine Bk11.set ?_
          | with_reducible refine Bk2.set ?_
          | with_reducible refine bk_other11 ?_ ?_
          | with_reducible refine bk_other2 ?_ ?_
          | with_reducible refine Bk11.other11 ?_ ?_
          | with_reducible refine Bk11.other2 ?_ ?_
          | with_reducible refine Bk2.other11 ?_ ?_
          | with_reducible refine bk_drew ?_
          | with_reducible refine Bk11.drew ?_
          | with_reducible refine Bk2.drew ?_
          | with_reducible refine blk_alloc ?_
          | with_reducible refine Bk11.alloc ?_
          | with_reducible refine Bk2.alloc ?_
          | with_reducible refine Bk11.below hb6 ?_
          | with_reducible refine Bk2.below hb6 ?_
          | with_reducible exact bk11_of g3
          | with_reducible exact bk2_of g4
          | omega)
      have HW : Below w.heap.size w W' := by
        rw [hW']
        repeat' (first
          | with_reducible refine bw_set11 ?_ ?_
          | with_reducible refine bw_set2 ?_ ?_
          | with_reducible refine bw_drew ?_
          | with_reducible refine bw_alloc ?_
          | with_reducible refine bw_below hb6 ?_
          | with_reducible exact HB.out
          | omega)
      clear hW' r0 r1 r2 r3 r4 r5 r6 r7 r8 r9 r10 r11 k0 y0 k1 y1 k2 y2 k3 y3 k4 y4 k5 y5 k6 y6 k7 y7 k8 y8 k9 y9 k10 y10 u0 v0 u1 v1 u2 v2 u3 v3 u4 v4 u5 v5 u6 v6 u7 v7 u8 v8 u9 v9 u10 v10 c0 c1 c2 c3 p0 o0 p1 o1 q0 q1 q2 q3 q4
      obtain ⟨u0, v0, u1, v1, u2, v2, u3, v3, u4, v4, u5, v5, u6, v6, u7, v7, u8, v8, u9, v9, u10, v10⟩ := cells11 G3
      obtain ⟨p0, o0, p1, o1⟩ := cells2 G4
      refine bodyPost_ret ?_ rfl ⟨rfl, HW⟩
      simp [results, Tryd.results16, go_sem, u0, u1, u2, u3, u4, u5, u6, u7, u8, u9, u10, p0, p1]
end Go.Proofs.YtmkehailohgebaaDoor
