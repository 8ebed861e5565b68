/- The program of a set of access rules, the program's own: the frame behind. -/
import Derived.Test.YtljhcegkekdjgaaDoorGpG
namespace Go.Proofs.YtljhcegkekdjgaaDoor
open Go.RowKit Go.Lib Pt Opn

set_option maxRecDepth 100000 in
set_option maxHeartbeats 8000000 in
theorem pAfterG_any (c : Cf) (f : Ds) (hw : DWf f) (t A B Cc : Nat) (w : World) (hO : Obs w) : Calls Tryd.prog 11 #[cfv c, frv f, cvT t A B Cc] w (Ret2 (frv (afterG c f A B Cc).1) (.int .i64 (afterG c f A B Cc).2) w) := by
  have HC := Lib.hid (fun W hp => pCheckG_any c f hw W hp)
  have HO := Lib.hid hO
  have hchk : (chkG c f = 0 ∧ afterG c f A B Cc = (behindG c f A B Cc, 0) ∧ GMay c f ∧ Ok c ∧ c.obj = 3) ∨ (chkG c f ≠ 0 ∧ afterG c f A B Cc = (frZero, chkG c f)) := by
    unfold chkG afterG
    by_cases h1 : Ok c ∧ c.obj = 3
    · rw [if_neg (not_not_intro h1), if_neg (not_not_intro h1)]
      by_cases h2 : GMay c f
      · rw [if_neg (not_not_intro h2), if_neg (not_not_intro h2)]; exact .inl ⟨rfl, rfl, h2, h1⟩
      · rw [if_pos h2, if_pos h2]; exact .inr ⟨by decide, rfl⟩
    · rw [if_pos h1, if_pos h1]; exact .inr ⟨by decide, rfl⟩
  obtain ⟨E, hE⟩ : ∃ E, chkG c f = E := ⟨_, rfl⟩
  rw [hE] at HC hchk
  rcases hchk with ⟨rfl, hx, hm, hok, hob⟩ | ⟨h0, hx⟩
  · have HT := Lib.hid (fun g W hs => pTurnG_any c g f t A B Cc hok hob hm hw W hs)
    rw [hx]
    obtain ⟨X, hX⟩ : ∃ X, behindG c f A B Cc = X := ⟨_, rfl⟩
    rw [hX] at HT
    simp only [hX]
    clear hE hw hO hx hm hX hok hob
    unfold TurnG at HT
    have HSTG := Lib.hid (fun (g : Nat) (W : World) => (Iff.rfl : StG c.cap g f W ↔ W.heap[g]? = some (stG c.cap f.kind f.a f.b f.pc f.i f.j f.n f.p f.h f.x f.y)))
    unfold cfv frv at HC
    unfold cvT at HT ⊢
    unfold cfv frv
    go_enter Tryd.func11, Tryd.ntmps11
    go_upto_region 1 with fail
    refine enter4 fun W hb g0 g1 g2 g3 q0 q1 q2 q3 => ?_
    have HO1 := Lib.hid (HO.out.below hb)
    obtain ⟨r0, r1, r2, r3, r4, r5, r6, r7, r8, r9, r10, r11⟩ := cl12 g0
    obtain ⟨k0, k1, k2, k3, k4, k5, k6, k7, k8, k9, k10⟩ := cl11 g1
    go_wp2_with fail
    refine (HC.out _ HO1.out).mono ?_
    rintro e w1 ⟨rfl, hb1⟩
    have g0' := blk_below g0 hb1
    have g1' := blk_below g1 hb1
    have g2' := blk_below g2 hb1
    have g3' := blk_below g3 hb1
    replace hb := below_then hb hb1
    clear hb1 r0 r1 r2 r3 r4 r5 r6 r7 r8 r9 r10 r11 k0 k1 k2 k3 k4 k5 k6 k7 k8 k9 k10 g0 g1 g2 g3 q0 q1 q2 q3
    obtain ⟨r0, r1, r2, r3, r4, r5, r6, r7, r8, r9, r10, r11⟩ := cl12 g0'
    obtain ⟨k0, k1, k2, k3, k4, k5, k6, k7, k8, k9, k10⟩ := cl11 g1'
    have q0 := (Array.getElem?_eq_some_iff.1 g0').1
    have q1 := (Array.getElem?_eq_some_iff.1 g1').1
    go_upto_region 5 with fail
    refine enter1 fun W8 hb8 g8 q8 => ?_
    have g2'' := blk_below g2' hb8
    have g3'' := blk_below g3' hb8
    replace hb := below_then hb hb8
    have z8 : w1.heap.size < W8.heap.size := q8
    have q3 := (Array.getElem?_eq_some_iff.1 g3').1
    have q2 := (Array.getElem?_eq_some_iff.1 g2'').1
    obtain ⟨c0, c1, c2, c3⟩ := cells4p g2''
    have HG := Lib.hid (And.intro g3'' (And.intro g8 hb))
    clear hb8 r0 r1 r2 r3 r4 r5 r6 r7 r8 r9 r10 r11 k0 k1 k2 k3 k4 k5 k6 k7 k8 k9 k10 g0' g1' g2' g3' g2'' g3'' g8 hb q0 q1
    go_wp2_with fail
    refine (HT.out w1.heap.size _ HG.out.2.1).mono ?_
    rintro e w10 ⟨rfl, hs10, ho10⟩
    unfold StG stG at hs10
    have g3 := only_blk ho10 HG.out.1 (by omega)
    have hb := Only.then_below (n := w.heap.size) (Nat.le_refl _) HG.out.2.2 ho10 (fun k hk => by subst hk; omega)
    have qg := (Array.getElem?_eq_some_iff.1 hs10).1
    have q3' := (Array.getElem?_eq_some_iff.1 g3).1
    obtain ⟨⟨r0, r1, r2, r3, r4, r5, r6, r7, r8, r9, r10, r11⟩, hf⟩ := cells12f hs10
    obtain ⟨u0, v0, u1, v1, u2, v2, u3, v3, u4, v4, u5, v5, u6, v6, u7, v7, u8, v8, u9, v9, u10, v10⟩ := cells11 g3
    have HB := Lib.hid hb
    clear c0 c1 c2 c3 q2 HG ho10 hs10 g3 hb
    go_wp2_with fail
    refine bodyPost_ret ?_ rfl ⟨rfl, ?_⟩
    · simp [results, Tryd.results11, go_sem, u0, u1, u2, u3, u4, u5, u6, u7, u8, u9, u10]
    · (repeat' (first | with_reducible exact HB.out | (with_reducible refine Below.setCell ?_ ?_ _))) <;> (simp; try omega)
  · rw [hx]
    have h4 : (E != 0) = true := by simpa using h0
    clear hE hw hO hx h0
    unfold cfv frv at HC
    unfold cfv frv frZero cvT
    obtain ⟨t', k, seq, kind, a, b, pc, i, j, n, p, h, x, y⟩ := f
    simp only at *
    go_enter Tryd.func11, Tryd.ntmps11
    go_upto_region 1 with fail
    refine enter4 fun W hb g0 g1 g2 g3 q0 q1 q2 q3 => ?_
    have HO1 := Lib.hid (HO.out.below hb)
    obtain ⟨r0, r1, r2, r3, r4, r5, r6, r7, r8, r9, r10, r11⟩ := cl12 g0
    obtain ⟨k0, k1, k2, k3, k4, k5, k6, k7, k8, k9, k10⟩ := cl11 g1
    go_wp2_with fail
    refine (HC.out _ HO1.out).mono ?_
    rintro e w1 ⟨rfl, hb1⟩
    have g3' := blk_below g3 hb1
    have HB := Lib.hid (below_then hb hb1)
    have q3' := (Array.getElem?_eq_some_iff.1 g3').1
    obtain ⟨u0, v0, u1, v1, u2, v2, u3, v3, u4, v4, u5, v5, u6, v6, u7, v7, u8, v8, u9, v9, u10, v10⟩ := cells11 g3'
    clear hb1 r0 r1 r2 r3 r4 r5 r6 r7 r8 r9 r10 r11 k0 k1 k2 k3 k4 k5 k6 k7 k8 k9 k10 g0 g1 g2 g3 g3'
    go_wp2_with fail
    refine bodyPost_ret (v := .tuple #[.agg #[.int .u8 0, .int .u32 0, .int .u32 0, .int .u8 0, .int .u8 0, .int .u8 0, .int .u8 0, .int .u8 0, .int .u8 0, .int .u32 0, .int .u32 0], .int .i64 E]) ?_ rfl ⟨rfl, ?_⟩
    · simp [results, Tryd.results11, go_sem, u0, u1, u2, u3, u4, u5, u6, u7, u8, u9, u10]
    · (repeat' (first | with_reducible exact HB.out | (with_reducible refine Below.setCell ?_ ?_ _))) <;> (simp; try omega)
end Go.Proofs.YtljhcegkekdjgaaDoor
