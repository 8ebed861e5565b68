/- The program of an index, the program's own: which frames may be. -/
import Derived.Test.YtmkehailohgebaaDoorTpQ
import Derived.Test.YtmkehailohgebaaDoorGOp
import Derived.Deep.Cut
import Derived.Deep.RegionHeld3
import Derived.BigQuiet
namespace Go.Proofs.YtmkehailohgebaaDoor
open Go.RowKit Go.Lib Pt Opn

set_option maxRecDepth 100000 in
set_option maxHeartbeats 1000000 in
theorem pOpOfX_any (f : Ds) (w : World) : Calls Tryd.prog 53 #[frv f] w (Ret (opv (frX f)) w) := by
  obtain ⟨t, k, seq, kind, a, b, pc, i, j, n, p, h, x, y⟩ := f
  by_cases hk : kind = 5
  · subst hk
    unfold frv frX opv
    simp only [↓reduceIte]
    go_enter Tryd.func53, Tryd.ntmps53
    go_wp2
    refine bodyPost_ret (v := .agg #[.int .u8 (5 : Nat), .int .u32 (a : Nat), .int .u32 (0 : Nat), .int .u32 (0 : Nat)]) ?_ rfl ⟨rfl, ?_⟩
    · simp [results, Tryd.results53, go_sem]
    · (repeat' (first | with_reducible exact below_two _ _ _ | (with_reducible refine Below.setCell ?_ ?_ _) | (with_reducible refine Below.alloc ?_ ?_ _))) <;> (simp; try omega)
  · have hk' : ((kind : Int) == 5) = false := by simp; omega
    unfold frv frX opv
    simp only [if_neg hk]
    go_enter Tryd.func53, Tryd.ntmps53
    go_wp2
    refine bodyPost_ret (v := .agg #[.int .u8 (kind : Nat), .int .u32 (a : Nat), .int .u32 (b : Nat), .int .u32 (0 : Nat)]) ?_ rfl ⟨rfl, ?_⟩
    · simp [results, Tryd.results53, go_sem]
    · (repeat' (first | with_reducible exact below_two _ _ _ | (with_reducible refine Below.setCell ?_ ?_ _) | (with_reducible refine Below.alloc ?_ ?_ _))) <;> (simp; try omega)

/-- A frame's registers. -/
def RegsX (c : Cf) (f : Ds) : Prop := (f.n : Int) ≤ c.cap ∧ (f.p : Int) ≤ c.cap ∧ (f.j : Int) ≤ c.chunk ∧ f.h ≤ topX c
instance (c : Cf) (f : Ds) : Decidable (RegsX c f) := by unfold RegsX; infer_instance
/-- What the check answers. -/
def chkX (c : Cf) (f : Ds) : Int := if ¬ (Ok c ∧ c.obj = 2) then 40 else if ¬ (chk c (frX f) = 0 ∧ ThereX f.kind f.pc ∧ RegsX c f) then 2 else 0

set_option maxRecDepth 100000 in
set_option maxHeartbeats 16000000 in
theorem pCheckX_any (c : Cf) (f : Ds) (hw : DWf f) (w : World) (hO : Obs w) (hPP : Pow w) : Calls Tryd.prog 29 #[cfv c, frv f] w (Ret (.int .i64 (chkX c f)) w) := by
  have hof : Wf (frX f) := by
    unfold DWf at hw
    unfold Wf frX
    simp only
    refine ⟨by omega, by omega, ?_, by omega⟩
    split <;> omega
  have HP := Lib.hid (fun W => pOpOfX_any f W)
  have HK := Lib.hid (fun W hp => check_op c (frX f) hof W hp)
  have HOB := Lib.hid hO
  have HPO := Lib.hid hPP
  obtain ⟨E, hE⟩ : ∃ E, chk c (frX f) = E := ⟨_, rfl⟩
  rw [hE] at HK
  by_cases hok : Ok c ∧ c.obj = 2
  · have hE40 : E ≠ 40 := by
      rw [← hE]
      unfold chk
      rw [if_neg (by rw [show okB c = true from decide_eq_true hok.1]; simp)]
      (repeat' split) <;> decide
    have h1 : (E == 40) = false := by simpa using hE40
    have h2 : (c.obj != 2) = false := by simp [hok.2]
    by_cases hE0 : E = 0
    · have h4 : (E != 0) = false := by simpa using hE0
      have t4 := topX_le c
      obtain ⟨C, N, K, s⟩ := szX hok.1 hok.2
      have HKA := Lib.hid (fun W => pKindsAt_any f.pc W)
      have hh := hw
      unfold DWf at hh
      by_cases ht : ThereX f.kind f.pc
      · have HCO := Lib.hid (fun A cp hcp W hA => pHasK_any A (kindsP f.pc) cp f.kind true (by rw [decide_eq_true ((kinds_there _ _).1 ht)]) hcp W hA)
        have HSH := Lib.hid (fun W hp => pShapeX_any s W hp)
        by_cases hr : RegsX c f
        · have hx : chkX c f = 0 := by unfold chkX; rw [if_neg (not_not_intro hok), if_neg (not_not_intro ⟨hE.trans hE0, ht, hr⟩)]
          rw [hx]
          have HRG := Lib.hid (fun sb cp W => pRegs_any c (some ⟨sb, 0, none⟩) cp f t4 (by omega) W)
          unfold RegsX at hr
          rw [decide_eq_true hr] at HRG
          clear hE hok hw hof hO hPP hx s hr ht hh t4
          unfold shX frv at HRG
          unfold RetS shX cfv at HSH
          generalize kindsP f.pc = KS at *
          generalize topX c = T at *
          obtain ⟨t', k, seq, kind, a, b, pc, i, j, n, p, h, x, y⟩ := f
          unfold frv at HP ⊢
          unfold cfv at HK ⊢
          unfold opv at HP HK
          simp only at *
          go_enter Tryd.func29, Tryd.ntmps29
          go_upto_region 1 with fail
          refine ent2 fun W hb g0 g1 q0 q1 => ?_
          have HO1 := Lib.hid (HOB.out.below hb)
          have HPW := Lib.hid (HPO.out.below hb)
          obtain ⟨r0, r1, r2, r3, r4, r5, r6, r7, r8, r9, r10, r11⟩ := cl12 g0
          obtain ⟨k0, k1, k2, k3, k4, k5, k6, k7, k8, k9, k10⟩ := cl11 g1
          refine wp_region_quiet_reads (by kernel_rfl) (by kernel_rfl) fun HR => ?_
          repeat (go_big_quiet_step (first | with_reducible exact Calls.regrown_of (HP.out _) | with_reducible exact Calls.regrown_of (HK.out _ (HO1.out.below (below_regrown _ _ _)))))
          refine wpQuiet_nil ?_
          intro W3 hw'
          obtain ⟨⟨dq, osq⟩, hw''⟩ := hw'
          have hb3 : Below W.heap.size W W3 := by rw [hw'']; exact below_regrown _ dq osq
          clear hw'' HR dq osq r0 r1 r2 r3 r4 r5 r6 r7 r8 r9 r10 r11 k0 k1 k2 k3 k4 k5 k6 k7 k8 k9 k10 q0 q1
          replace g0 := blk_below g0 hb3
          replace g1 := blk_below g1 hb3
          have HB := Lib.hid (below_then hb hb3)
          have HP3 := Lib.hid (HPW.out.below hb3)
          clear hb hb3
          have q0 := (Array.getElem?_eq_some_iff.1 g0).1
          have q1 := (Array.getElem?_eq_some_iff.1 g1).1
          obtain ⟨r0, r1, r2, r3, r4, r5, r6, r7, r8, r9, r10, r11⟩ := cl12 g0
          obtain ⟨k0, k1, k2, k3, k4, k5, k6, k7, k8, k9, k10⟩ := cl11 g1
          clear g0 g1 HO1 HPW
          go_wp2_with fail
          go_region_held3 (fun X => W3.heap.size ≤ X.heap.size ∧ ∀ b o, b < W3.heap.size → X.cell? ⟨b, o, none⟩ = W3.cell? ⟨b, o, none⟩)
            (first
              | ((repeat' (first
                  | with_reducible refine keep_drew ?_
                  | with_reducible refine keep_below hb8 ?_
                  | with_reducible refine keep_below hb7 ?_
                  | with_reducible refine keep_below hb6 ?_
                  | with_reducible refine keep_below hb5 ?_
                  | with_reducible exact keep_refl _
                  | (first | with_reducible exact Nat.le_refl _ | omega)));
                 done)
              | fail)
                (first
                  | ((with_reducible refine (HKA.out _).mono ?_); rintro e w5 ⟨A5, cp5, rfl, hk5, hl5, hy5, hb5⟩; have HY5 := Lib.hid hy5; have HKL := Lib.hid (And.intro hk5 hl5); have HP5 := Lib.hid (Pow.below (by exact HP3.out) hb5); clear hy5 hk5 hl5; have hs5 := hb5.size; (try simp at hs5); obtain ⟨hc5, hf5⟩ := bcell hb5; (try have p1 : w.heap.size < w5.heap.size := by omega); (try have p2 : w.heap.size + 1 < w5.heap.size := by omega))
                  | ((with_reducible refine (HCO.out _ _ HKL.out _ (by first | with_reducible exact HY5.out | exact HY5.out)).mono ?_); rintro e w6 ⟨rfl, hb6⟩; have HP6 := Lib.hid (Pow.below (by exact HP5.out) hb6); have hs6 := hb6.size; (try simp at hs6); obtain ⟨hc6, hf6⟩ := bcell hb6; (try have p3 : w.heap.size < w6.heap.size := by omega); (try have p4 : w.heap.size + 1 < w6.heap.size := by omega))
                  | ((with_reducible refine (HSH.out _ (by exact HP6.out)).mono ?_); rintro e w7 ⟨sb7, cp7, rfl, hx7, hy7, _, _, hb7⟩; have hs7 := hb7.size; (try simp at hs7); obtain ⟨hc7, hf7⟩ := bcell hb7; (try have p5 : w.heap.size < w7.heap.size := by omega); (try have p6 : w.heap.size + 1 < w7.heap.size := by omega))
                  | ((with_reducible refine (HRG.out _ _ _).mono ?_); rintro e w8 ⟨rfl, hb8⟩))
          all_goals
            go_wp2_with fail
            go_ret
            refine Ret.mk rfl (below_then HB.out ?_)
            repeat' (first | with_reducible exact Below.refl _ _ | with_reducible refine bw_drew ?_ | with_reducible refine bw_below hb8 ?_ | with_reducible refine bw_below hb7 ?_ | with_reducible refine bw_below hb6 ?_ | with_reducible refine bw_below hb5 ?_)
        · have hx : chkX c f = 2 := by unfold chkX; rw [if_neg (not_not_intro hok), if_pos (fun g => hr g.2.2)]
          rw [hx]
          have HRG := Lib.hid (fun sb cp W => pRegs_any c (some ⟨sb, 0, none⟩) cp f t4 (by omega) W)
          unfold RegsX at hr
          rw [decide_eq_false hr] at HRG
          clear hE hok hw hof hO hPP hx s hr ht hh t4
          unfold shX frv at HRG
          unfold RetS shX cfv at HSH
          generalize kindsP f.pc = KS at *
          generalize topX c = T at *
          obtain ⟨t', k, seq, kind, a, b, pc, i, j, n, p, h, x, y⟩ := f
          unfold frv at HP ⊢
          unfold cfv at HK ⊢
          unfold opv at HP HK
          simp only at *
          go_enter Tryd.func29, Tryd.ntmps29
          go_upto_region 1 with fail
          refine ent2 fun W hb g0 g1 q0 q1 => ?_
          have HO1 := Lib.hid (HOB.out.below hb)
          have HPW := Lib.hid (HPO.out.below hb)
          obtain ⟨r0, r1, r2, r3, r4, r5, r6, r7, r8, r9, r10, r11⟩ := cl12 g0
          obtain ⟨k0, k1, k2, k3, k4, k5, k6, k7, k8, k9, k10⟩ := cl11 g1
          refine wp_region_quiet_reads (by kernel_rfl) (by kernel_rfl) fun HR => ?_
          repeat (go_big_quiet_step (first | with_reducible exact Calls.regrown_of (HP.out _) | with_reducible exact Calls.regrown_of (HK.out _ (HO1.out.below (below_regrown _ _ _)))))
          refine wpQuiet_nil ?_
          intro W3 hw'
          obtain ⟨⟨dq, osq⟩, hw''⟩ := hw'
          have hb3 : Below W.heap.size W W3 := by rw [hw'']; exact below_regrown _ dq osq
          clear hw'' HR dq osq r0 r1 r2 r3 r4 r5 r6 r7 r8 r9 r10 r11 k0 k1 k2 k3 k4 k5 k6 k7 k8 k9 k10 q0 q1
          replace g0 := blk_below g0 hb3
          replace g1 := blk_below g1 hb3
          have HB := Lib.hid (below_then hb hb3)
          have HP3 := Lib.hid (HPW.out.below hb3)
          clear hb hb3
          have q0 := (Array.getElem?_eq_some_iff.1 g0).1
          have q1 := (Array.getElem?_eq_some_iff.1 g1).1
          obtain ⟨r0, r1, r2, r3, r4, r5, r6, r7, r8, r9, r10, r11⟩ := cl12 g0
          obtain ⟨k0, k1, k2, k3, k4, k5, k6, k7, k8, k9, k10⟩ := cl11 g1
          clear g0 g1 HO1 HPW
          go_wp2_with fail
          go_region_held3 (fun X => W3.heap.size ≤ X.heap.size ∧ ∀ b o, b < W3.heap.size → X.cell? ⟨b, o, none⟩ = W3.cell? ⟨b, o, none⟩)
            (first
              | ((repeat' (first
                  | with_reducible refine keep_drew ?_
                  | with_reducible refine keep_below hb8 ?_
                  | with_reducible refine keep_below hb7 ?_
                  | with_reducible refine keep_below hb6 ?_
                  | with_reducible refine keep_below hb5 ?_
                  | with_reducible exact keep_refl _
                  | (first | with_reducible exact Nat.le_refl _ | omega)));
                 done)
              | fail)
                (first
                  | ((with_reducible refine (HKA.out _).mono ?_); rintro e w5 ⟨A5, cp5, rfl, hk5, hl5, hy5, hb5⟩; have HY5 := Lib.hid hy5; have HKL := Lib.hid (And.intro hk5 hl5); have HP5 := Lib.hid (Pow.below (by exact HP3.out) hb5); clear hy5 hk5 hl5; have hs5 := hb5.size; (try simp at hs5); obtain ⟨hc5, hf5⟩ := bcell hb5; (try have p1 : w.heap.size < w5.heap.size := by omega); (try have p2 : w.heap.size + 1 < w5.heap.size := by omega))
                  | ((with_reducible refine (HCO.out _ _ HKL.out _ (by first | with_reducible exact HY5.out | exact HY5.out)).mono ?_); rintro e w6 ⟨rfl, hb6⟩; have HP6 := Lib.hid (Pow.below (by exact HP5.out) hb6); have hs6 := hb6.size; (try simp at hs6); obtain ⟨hc6, hf6⟩ := bcell hb6; (try have p3 : w.heap.size < w6.heap.size := by omega); (try have p4 : w.heap.size + 1 < w6.heap.size := by omega))
                  | ((with_reducible refine (HSH.out _ (by exact HP6.out)).mono ?_); rintro e w7 ⟨sb7, cp7, rfl, hx7, hy7, _, _, hb7⟩; have hs7 := hb7.size; (try simp at hs7); obtain ⟨hc7, hf7⟩ := bcell hb7; (try have p5 : w.heap.size < w7.heap.size := by omega); (try have p6 : w.heap.size + 1 < w7.heap.size := by omega))
                  | ((with_reducible refine (HRG.out _ _ _).mono ?_); rintro e w8 ⟨rfl, hb8⟩))
          all_goals
            go_wp2_with fail
            go_ret
            refine Ret.mk rfl (below_then HB.out ?_)
            repeat' (first | with_reducible exact Below.refl _ _ | with_reducible refine bw_drew ?_ | with_reducible refine bw_below hb8 ?_ | with_reducible refine bw_below hb7 ?_ | with_reducible refine bw_below hb6 ?_ | with_reducible refine bw_below hb5 ?_)
      · have hx : chkX c f = 2 := by unfold chkX; rw [if_neg (not_not_intro hok), if_pos (fun g => ht g.2.1)]
        rw [hx]
        have HCO := Lib.hid (fun A cp hcp W hA => pHasK_any A (kindsP f.pc) cp f.kind false (by rw [decide_eq_false (fun g => ht ((kinds_there _ _).2 g))]) hcp W hA)
        clear hE hok hw hof hO hPP hx s ht hh t4
        generalize kindsP f.pc = KS at *
        obtain ⟨t', k, seq, kind, a, b, pc, i, j, n, p, h, x, y⟩ := f
        unfold frv at HP ⊢
        unfold cfv at HK ⊢
        unfold opv at HP HK
        simp only at *
        go_enter Tryd.func29, Tryd.ntmps29
        go_upto_region 1 with fail
        refine ent2 fun W hb g0 g1 q0 q1 => ?_
        have HO1 := Lib.hid (HOB.out.below hb)
        have HPW := Lib.hid (HPO.out.below hb)
        obtain ⟨r0, r1, r2, r3, r4, r5, r6, r7, r8, r9, r10, r11⟩ := cl12 g0
        obtain ⟨k0, k1, k2, k3, k4, k5, k6, k7, k8, k9, k10⟩ := cl11 g1
        refine wp_region_quiet_reads (by kernel_rfl) (by kernel_rfl) fun HR => ?_
        repeat (go_big_quiet_step (first | with_reducible exact Calls.regrown_of (HP.out _) | with_reducible exact Calls.regrown_of (HK.out _ (HO1.out.below (below_regrown _ _ _)))))
        refine wpQuiet_nil ?_
        intro W3 hw'
        obtain ⟨⟨dq, osq⟩, hw''⟩ := hw'
        have hb3 : Below W.heap.size W W3 := by rw [hw'']; exact below_regrown _ dq osq
        clear hw'' HR dq osq r0 r1 r2 r3 r4 r5 r6 r7 r8 r9 r10 r11 k0 k1 k2 k3 k4 k5 k6 k7 k8 k9 k10 q0 q1
        replace g0 := blk_below g0 hb3
        replace g1 := blk_below g1 hb3
        have HB := Lib.hid (below_then hb hb3)
        have HP3 := Lib.hid (HPW.out.below hb3)
        clear hb hb3
        have q0 := (Array.getElem?_eq_some_iff.1 g0).1
        have q1 := (Array.getElem?_eq_some_iff.1 g1).1
        obtain ⟨r0, r1, r2, r3, r4, r5, r6, r7, r8, r9, r10, r11⟩ := cl12 g0
        obtain ⟨k0, k1, k2, k3, k4, k5, k6, k7, k8, k9, k10⟩ := cl11 g1
        clear g0 g1 HO1 HPW
        go_wp2_with fail
        go_region_with (first
          | (go_at_call 55; refine (HKA.out _).mono ?_; rintro e w5 ⟨A5, cp5, rfl, hk5, hl5, hy5, hb5⟩; have HY5 := Lib.hid hy5; have HKL := Lib.hid (And.intro hk5 hl5); clear hy5 hk5 hl5; have n0 : w5.cell? ⟨w.heap.size + 1, 0, none⟩ = some (.int .u8 (kind : Nat)) := (Below.cell hb5 (p := ⟨w.heap.size + 1, 0, none⟩) (by exact q1)).trans k0)
          | (go_at_call 54; refine (HCO.out _ _ HKL.out _ (by first | with_reducible exact HY5.out | exact HY5.out)).mono ?_; rintro e w6 ⟨rfl, hb6⟩))
        all_goals
          go_wp2_with fail
          go_ret
          refine Ret.mk rfl (below_then HB.out ?_)
          repeat' (first | with_reducible exact Below.refl _ _ | with_reducible refine bw_drew ?_ | with_reducible refine bw_below hb6 ?_ | with_reducible refine bw_below hb5 ?_)
    · have hx : chkX c f = 2 := by unfold chkX; rw [if_neg (not_not_intro hok), if_pos (fun g => hE0 (hE.symm.trans g.1))]
      rw [hx]
      have h4 : (E != 0) = true := by simpa using hE0
      clear hE hok hw hof hO hPP hx
      obtain ⟨t', k, seq, kind, a, b, pc, i, j, n, p, h, x, y⟩ := f
      unfold frv at HP ⊢
      unfold cfv at HK ⊢
      unfold opv at HP HK
      simp only at *
      go_enter Tryd.func29, Tryd.ntmps29
      go_upto_region 1 with fail
      refine ent2 fun W hb g0 g1 q0 q1 => ?_
      have HO1 := Lib.hid (HOB.out.below hb)
      have HPW := Lib.hid (HPO.out.below hb)
      obtain ⟨r0, r1, r2, r3, r4, r5, r6, r7, r8, r9, r10, r11⟩ := cl12 g0
      obtain ⟨k0, k1, k2, k3, k4, k5, k6, k7, k8, k9, k10⟩ := cl11 g1
      refine wp_region_quiet_reads (by kernel_rfl) (by kernel_rfl) fun HR => ?_
      repeat (go_big_quiet_step (first | with_reducible exact Calls.regrown_of (HP.out _) | with_reducible exact Calls.regrown_of (HK.out _ (HO1.out.below (below_regrown _ _ _)))))
      refine wpQuiet_nil ?_
      intro W3 hw'
      obtain ⟨⟨dq, osq⟩, hw''⟩ := hw'
      have hb3 : Below W.heap.size W W3 := by rw [hw'']; exact below_regrown _ dq osq
      clear hw'' HR dq osq r0 r1 r2 r3 r4 r5 r6 r7 r8 r9 r10 r11 k0 k1 k2 k3 k4 k5 k6 k7 k8 k9 k10 q0 q1
      replace g0 := blk_below g0 hb3
      replace g1 := blk_below g1 hb3
      have HB := Lib.hid (below_then hb hb3)
      have HP3 := Lib.hid (HPW.out.below hb3)
      clear hb hb3
      have q0 := (Array.getElem?_eq_some_iff.1 g0).1
      have q1 := (Array.getElem?_eq_some_iff.1 g1).1
      obtain ⟨r0, r1, r2, r3, r4, r5, r6, r7, r8, r9, r10, r11⟩ := cl12 g0
      obtain ⟨k0, k1, k2, k3, k4, k5, k6, k7, k8, k9, k10⟩ := cl11 g1
      clear g0 g1 HO1 HPW
      go_wp2_with fail
      refine wp_region_quiet_reads (by kernel_rfl) (by kernel_rfl) fun HR => ?_
      repeat (go_big_quiet_step (fail))
      refine wpQuiet_nil ?_
      intro W4 hw'
      obtain ⟨⟨dq, osq⟩, hw''⟩ := hw'
      have hb4 : Below W3.heap.size W3 W4 := by rw [hw'']; exact below_regrown _ dq osq
      clear hw'' HR dq osq r0 r1 r2 r3 r4 r5 r6 r7 r8 r9 r10 r11 k0 k1 k2 k3 k4 k5 k6 k7 k8 k9 k10 q0 q1
      go_wp2_with fail
      go_ret
      exact Ret.mk rfl (below_then HB.out hb4)
  · have hx : chkX c f = 40 := by unfold chkX; rw [if_pos hok]
    rw [hx]
    by_cases ho : Ok c
    · have hE40 : E ≠ 40 := by
        rw [← hE]
        unfold chk
        rw [if_neg (by rw [show okB c = true from decide_eq_true ho]; simp)]
        (repeat' split) <;> decide
      have h1 : (E == 40) = false := by simpa using hE40
      have h2 : (c.obj != 2) = true := by simpa using fun g => hok ⟨ho, g⟩
      clear hE hok hw hof hO hPP hx
      obtain ⟨t', k, seq, kind, a, b, pc, i, j, n, p, h, x, y⟩ := f
      unfold frv at HP ⊢
      unfold cfv at HK ⊢
      unfold opv at HP HK
      simp only at *
      go_enter Tryd.func29, Tryd.ntmps29
      go_upto_region 1 with fail
      refine ent2 fun W hb g0 g1 q0 q1 => ?_
      have HO1 := Lib.hid (HOB.out.below hb)
      have HPW := Lib.hid (HPO.out.below hb)
      obtain ⟨r0, r1, r2, r3, r4, r5, r6, r7, r8, r9, r10, r11⟩ := cl12 g0
      obtain ⟨k0, k1, k2, k3, k4, k5, k6, k7, k8, k9, k10⟩ := cl11 g1
      refine wp_region_quiet_reads (by kernel_rfl) (by kernel_rfl) fun HR => ?_
      repeat (go_big_quiet_step (first | with_reducible exact Calls.regrown_of (HP.out _) | with_reducible exact Calls.regrown_of (HK.out _ (HO1.out.below (below_regrown _ _ _)))))
      refine wpQuiet_nil ?_
      intro W3 hw'
      obtain ⟨⟨dq, osq⟩, hw''⟩ := hw'
      have hb3 : Below W.heap.size W W3 := by rw [hw'']; exact below_regrown _ dq osq
      clear hw'' HR dq osq r0 r1 r2 r3 r4 r5 r6 r7 r8 r9 r10 r11 k0 k1 k2 k3 k4 k5 k6 k7 k8 k9 k10 q0 q1
      replace g0 := blk_below g0 hb3
      replace g1 := blk_below g1 hb3
      have HB := Lib.hid (below_then hb hb3)
      have HP3 := Lib.hid (HPW.out.below hb3)
      clear hb hb3
      have q0 := (Array.getElem?_eq_some_iff.1 g0).1
      have q1 := (Array.getElem?_eq_some_iff.1 g1).1
      obtain ⟨r0, r1, r2, r3, r4, r5, r6, r7, r8, r9, r10, r11⟩ := cl12 g0
      obtain ⟨k0, k1, k2, k3, k4, k5, k6, k7, k8, k9, k10⟩ := cl11 g1
      clear g0 g1 HO1 HPW
      go_wp2_with fail
      go_ret
      exact Ret.mk rfl HB.out
    · have hE40 : E = 40 := by
        rw [← hE]
        unfold chk
        rw [if_pos (show okB c = false from decide_eq_false ho)]
      have h1 : (E == 40) = true := by simpa using hE40
      clear hE hok hw hof hO hPP hx
      obtain ⟨t', k, seq, kind, a, b, pc, i, j, n, p, h, x, y⟩ := f
      unfold frv at HP ⊢
      unfold cfv at HK ⊢
      unfold opv at HP HK
      simp only at *
      go_enter Tryd.func29, Tryd.ntmps29
      go_upto_region 1 with fail
      refine ent2 fun W hb g0 g1 q0 q1 => ?_
      have HO1 := Lib.hid (HOB.out.below hb)
      have HPW := Lib.hid (HPO.out.below hb)
      obtain ⟨r0, r1, r2, r3, r4, r5, r6, r7, r8, r9, r10, r11⟩ := cl12 g0
      obtain ⟨k0, k1, k2, k3, k4, k5, k6, k7, k8, k9, k10⟩ := cl11 g1
      refine wp_region_quiet_reads (by kernel_rfl) (by kernel_rfl) fun HR => ?_
      repeat (go_big_quiet_step (first | with_reducible exact Calls.regrown_of (HP.out _) | with_reducible exact Calls.regrown_of (HK.out _ (HO1.out.below (below_regrown _ _ _)))))
      refine wpQuiet_nil ?_
      intro W3 hw'
      obtain ⟨⟨dq, osq⟩, hw''⟩ := hw'
      have hb3 : Below W.heap.size W W3 := by rw [hw'']; exact below_regrown _ dq osq
      clear hw'' HR dq osq r0 r1 r2 r3 r4 r5 r6 r7 r8 r9 r10 r11 k0 k1 k2 k3 k4 k5 k6 k7 k8 k9 k10 q0 q1
      replace g0 := blk_below g0 hb3
      replace g1 := blk_below g1 hb3
      have HB := Lib.hid (below_then hb hb3)
      have HP3 := Lib.hid (HPW.out.below hb3)
      clear hb hb3
      have q0 := (Array.getElem?_eq_some_iff.1 g0).1
      have q1 := (Array.getElem?_eq_some_iff.1 g1).1
      obtain ⟨r0, r1, r2, r3, r4, r5, r6, r7, r8, r9, r10, r11⟩ := cl12 g0
      obtain ⟨k0, k1, k2, k3, k4, k5, k6, k7, k8, k9, k10⟩ := cl11 g1
      clear g0 g1 HO1 HPW
      go_wp2_with fail
      go_ret
      exact Ret.mk rfl HB.out
end Go.Proofs.YtmkehailohgebaaDoor
