/- The program of a table of routes, the program's own: the frame behind, of one that may be. -/
import Derived.Test.YtjhgccfnihbokaaDoorTrPl
import Derived.Test.YtjhgccfnihbokaaDoorTrBeh
namespace Go.Proofs.YtjhgccfnihbokaaDoor
open Go.RowKit Go.Lib Pt Opn

set_option maxRecDepth 100000 in
set_option maxHeartbeats 32000000 in
theorem pAfter_good (c : Cf) (f : Ds) (t A B C : Nat) (hc : Ok c) (hobj : c.obj = 1) (hm : TMay c f) (hw : DWf f) (w : World) (hO : Obs w) : Calls Tryd.prog 10 #[cfv c, frv f, cvT t A B C] w (Ret2 (frv (behindT c f A B)) (.int .i64 0) w) := by
  have HC := Lib.hid (fun W hp => pCheck_any c f hw W hp)
  rw [show chkT c f = 0 from by unfold chkT; rw [if_neg (not_not_intro ⟨hc, hobj⟩), if_neg (not_not_intro hm)]] at HC
  obtain ⟨F, hF, hE, hG⟩ := pRow_any c f t A B C hc hobj hm hw
  have HR := Lib.hid (fun W => pRowOf_any f W)
  rw [hF] at HR
  have HF := Lib.hid hG
  have HO := Lib.hid hO
  clear hG hF hc hobj hm hw hO
  obtain ⟨X, hX⟩ : ∃ X, stepT c f = X := ⟨_, rfl⟩
  obtain ⟨Y, hY⟩ : ∃ Y, behindT c f A B = Y := ⟨_, rfl⟩
  rw [hX, hY] at HF
  rw [hY]
  clear hX hY
  unfold acv frv at HF
  unfold stV at HF
  unfold cfv frv at HC
  unfold frv fnV at HR
  unfold cfv frv cvT
  push_cast at HF
  go_enter Tryd.func10, Tryd.ntmps10
  go_upto_region 1 with fail
  refine enter4 fun W hb g0 g1 gl g2 q0 q1 ql q2 => ?_
  have HO1 := Lib.hid (HO.out.below hb)
  obtain ⟨r0, r1, r2, r3, r4, r5, r6, r7, r8, r9, r10, r11⟩ := cells12 g0
  obtain ⟨k0, y0, k1, y1, k2, y2, k3, y3, k4, y4, k5, y5, k6, y6, k7, y7, k8, y8, k9, y9, k10, y10⟩ := cells11 g1
  go_wp2_with (go_at_call 24; refine (HC.out _ HO1.out).mono ?_; rintro e w1 ⟨rfl, hb1⟩; have hs1 := hb1.size; have G2 := blk_below g2 hb1)
  have G0 := blk_below g0 hb1
  have G1 := blk_below g1 hb1
  have GL := blk_below gl hb1
  have z0 := (Array.getElem?_eq_some_iff.1 G0).1
  have z1 := (Array.getElem?_eq_some_iff.1 G1).1
  have zl := (Array.getElem?_eq_some_iff.1 GL).1
  clear r0 r1 r2 r3 r4 r5 r6 r7 r8 r9 r10 r11 k0 y0 k1 y1 k2 y2 k3 y3 k4 y4 k5 y5 k6 y6 k7 y7 k8 y8 k9 y9 k10 y10 g0 g1 g2 hs1 gl
  obtain ⟨r0, r1, r2, r3, r4, r5, r6, r7, r8, r9, r10, r11⟩ := cells12 G0
  obtain ⟨k0, y0, k1, y1, k2, y2, k3, y3, k4, y4, k5, y5, k6, y6, k7, y7, k8, y8, k9, y9, k10, y10⟩ := cells11 G1
  obtain ⟨l0, l1, l2, l3⟩ := cells4p GL
  have HG2 := Lib.hid G2
  have HBW := Lib.hid (below_then hb hb1)
  clear G0 G1 G2 hb hb1 q0 q1 q2 HO HO1 HC GL ql
  go_cut [10] (fun s7 wx => ∃ g : Nat, s7 = .pointer (some ⟨g, 0, none⟩) ∧ Hid (FrmAt wx g Y ∧ Below w1.heap.size w1 wx))
  case first =>
    go_region_held3 (fun X => w1.heap.size ≤ X.heap.size ∧ ∀ b o, b < w1.heap.size → X.cell? ⟨b, o, none⟩ = w1.cell? ⟨b, o, none⟩)
      (first
        | ((repeat' (first
            | with_reducible refine keep_set11 ?_ _ ?_ _ _ _ _ _ _ _ _ _ _ _
            | with_reducible refine keep_set7 ?_ _ ?_ _ _ _ _ _ _ _
            | with_reducible refine keep_drew ?_
            | with_reducible refine keep_alloc ?_ _
            | with_reducible refine keep_below hb6 ?_
            | with_reducible refine keep_below hb5 ?_
            | with_reducible exact keep_refl _
            | (first | with_reducible exact Nat.le_refl _ | omega)));
           done)
        | fail)
      (first
        | ((with_reducible refine (HR.out _).mono ?_); rintro e w5 ⟨rfl, hb5⟩; have hs5 := hb5.size; simp at hs5; obtain ⟨hc5, hf5⟩ := bcell hb5; (try have p1 : w1.heap.size < w5.heap.size := by omega); (try have p2 : w1.heap.size + 1 < w5.heap.size := by omega))
        | ((with_reducible refine (HF.out _).mono ?_); rintro e w6 ⟨rfl, hb6⟩; have hs6 := hb6.size; (try simp at hs6); obtain ⟨hc6, hf6⟩ := bcell hb6; (try have p3 : w5.heap.size < w6.heap.size := by omega); (try have p4 : w5.heap.size + 1 < w6.heap.size := by omega); (try have p5 : w1.heap.size < w6.heap.size := by omega); (try have p6 : w1.heap.size + 1 < w6.heap.size := by omega)))
    all_goals
      go_wp2_with fail
      go_meet
      clear HF HR HG2 HBW hE r0 r1 r2 r3 r4 r5 r6 r7 r8 r9 r10 r11 k0 y0 k1 y1 k2 y2 k3 y3 k4 y4 k5 y5 k6 y6 k7 y7 k8 y8 k9 y9 k10 y10 z0 z1 hc5 hf5 hc6 hf6
      refine ⟨_, rfl, Lib.hid ⟨frm_of (t := 32) ?_, ?_⟩⟩
      · (repeat' (first
          | with_reducible refine Bk11.set ?_
          | with_reducible refine bk_other7 ?_ ?_
          | with_reducible refine Bk11.other7 ?_ ?_
          | with_reducible refine Bk11.drew ?_
          | (with_reducible refine Bk11.new ?_; simp; done)
          | with_reducible refine Bk11.alloc ?_
          | with_reducible refine Bk11.below hb6 ?_
          | with_reducible refine Bk11.below hb5 ?_
          | (with_reducible refine bk_newg ?_; simp; done)
          | with_reducible refine blk_alloc ?_
          | omega))
      · (repeat' (first
          | with_reducible refine bw_set11 ?_ ?_
          | with_reducible refine bw_set7 ?_ ?_
          | with_reducible refine bw_drew ?_
          | with_reducible refine bw_alloc ?_
          | with_reducible refine bw_below hb6 ?_
          | with_reducible refine bw_below hb5 ?_
          | with_reducible exact Below.refl _ _
          | omega))
  case rest =>
    obtain ⟨g, rfl, HM⟩ := hcut
    obtain ⟨hat, hbc⟩ := HM.out
    unfold FrmAt at hat
    obtain ⟨a0, a1, a2, a3, a4, a5, a6, a7, a8, a9, a10⟩ := hat
    have G2 := blk_below HG2.out hbc
    have HB := Lib.hid (below_then HBW.out hbc)
    clear HM HG2 HBW hbc HR HF hE r0 r1 r2 r3 r4 r5 r6 r7 r8 r9 r10 r11 k0 y0 k1 y1 k2 y2 k3 y3 k4 y4 k5 y5 k6 y6 k7 y7 k8 y8 k9 y9 k10 y10 z0 z1 zl l0 l1 l2 l3
    obtain ⟨m0, d0, m1, d1, m2, d2, m3, d3, m4, d4, m5, d5, m6, d6, m7, d7, m8, d8, m9, d9, m10, d10⟩ := cells11 G2
    clear G2
    go_wp2
    refine bodyPost_ret ?_ rfl ⟨rfl, ?_⟩
    · simp [results, Tryd.results10, go_sem, m0, m1, m2, m3, m4, m5, m6, m7, m8, m9, m10]
    · (repeat' (first | with_reducible exact HB.out | (with_reducible refine Below.setCell ?_ ?_ _))) <;> (simp; try omega)
end Go.Proofs.YtjhgccfnihbokaaDoor
