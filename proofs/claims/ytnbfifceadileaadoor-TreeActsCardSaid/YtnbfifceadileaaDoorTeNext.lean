/- The document's own call of a program of an index: the act of a frame. -/
import Derived.Test.YtnbfifceadileaaDoorTeMay
namespace Go.Proofs.YtnbfifceadileaaDoor
open Go.RowKit Go.Lib Pt Opn

theorem acI_eq {c : Cf} {f : Ds} (h : 0 ≤ placeX c f) : acI c f = acv (stepX c f) := by
  unfold acI acv stepX
  rw [show (((placeX c f).toNat : Nat) : Int) = placeX c f from Int.toNat_of_nonneg h]
  rfl
set_option maxRecDepth 100000 in
set_option maxHeartbeats 8000000 in
theorem rNextX_any (c : Cf) (f : Ds) (hw : DWf f) (w : World) : Calls Tryd.prog 15 #[cfv c, frv f] w (Ret2 (acv (nextX c f).1) (.int .i64 (nextX c f).2) w) := by
  have HM := Lib.hid (fun W => rMayBe_any c W)
  by_cases hok : Ok c ∧ c.obj = 2
  · rw [show okB c = true from decide_eq_true hok.1] at HM
    obtain ⟨C, N, K, s⟩ := szX hok.1 hok.2
    have HY := Lib.hid (fun W => rMayX_any s f hw W)
    by_cases hm : XMay c f
    · rw [decide_eq_true hm] at HY
      have HS := Lib.hid (fun W => rStepX_any s f hw hm.2.1 hm.2.2.1 W)
      rw [acI_eq hm.2.2.2] at HS
      have hx : nextX c f = (stepX c f, 0) := by unfold nextX; rw [if_neg (not_not_intro hok), if_neg (not_not_intro hm)]
      rw [hx]
      obtain ⟨X, hX⟩ : ∃ X, stepX c f = X := ⟨_, rfl⟩
      simp only [hX] at HS ⊢
      have h1 : (c.obj != 2) = false := by simp [hok.2]
      clear hx hX hm hok hw s
      unfold acv frv at HS ⊢
      unfold cfv  at *
      go_enter Tryd.func15, Tryd.ntmps15
      go_wp2_with (first
        | (go_at_call 35; refine (HM.out _).mono ?_; rintro e w1 ⟨rfl, hb1⟩; obtain ⟨hc1, hf1⟩ := bcell hb1)
        | (go_at_call 36; refine (HY.out _).mono ?_; rintro e w2 ⟨rfl, hb2⟩; replace hb1 := below_then hb1 hb2; clear hc1 hf1 hb2; obtain ⟨hc1, hf1⟩ := bcell hb1)
        | (go_at_call 37; refine (HS.out _).mono ?_; rintro e w3 ⟨rfl, hb2⟩; replace hb1 := below_then hb1 hb2; clear hc1 hf1 hb2; obtain ⟨hc1, hf1⟩ := bcell hb1))
      have hre := blk_below (new_third w _ _ _) hb1
      have HB := Lib.hid (below_then (below_three w _ _ _) hb1)
      obtain ⟨r0, f0, r1, f1, r2, f2, r3, f3, r4, f4, r5, f5, r6, f6⟩ := cells7 hre
      clear hre hb1 hc1 hf1
      refine bodyPost_ret ?_ rfl ⟨rfl, ?_⟩
      · simp [results, Tryd.results15, go_sem, r0, r1, r2, r3, r4, r5, r6]
      · (repeat' (first | with_reducible exact HB.out | (with_reducible refine Below.setCell ?_ ?_ _))) <;> (simp; try omega)
    · rw [decide_eq_false hm] at HY
      have hx : nextX c f = (Ac.none, 2) := by unfold nextX; rw [if_neg (not_not_intro hok), if_pos hm]
      rw [hx]
      have h1 : (c.obj != 2) = false := by simp [hok.2]
      clear hx hm hok hw s
      unfold cfv acv Ac.none frv at *
      simp only
      go_enter Tryd.func15, Tryd.ntmps15
      go_wp2_with (first
        | (go_at_call 35; refine (HM.out _).mono ?_; rintro e w1 ⟨rfl, hb1⟩; obtain ⟨hc1, hf1⟩ := bcell hb1)
        | (go_at_call 36; refine (HY.out _).mono ?_; rintro e w2 ⟨rfl, hb2⟩; replace hb1 := below_then hb1 hb2; clear hc1 hf1 hb2; obtain ⟨hc1, hf1⟩ := bcell hb1))
      have hre := blk_below (new_third w _ _ _) hb1
      have HB := Lib.hid (below_then (below_three w _ _ _) hb1)
      obtain ⟨r0, f0, r1, f1, r2, f2, r3, f3, r4, f4, r5, f5, r6, f6⟩ := cells7 hre
      clear hre hb1 hc1 hf1
      refine bodyPost_ret ?_ rfl ⟨rfl, ?_⟩
      · simp [results, Tryd.results15, go_sem, r0, r1, r2, r3, r4, r5, r6]
      · (repeat' (first | with_reducible exact HB.out | (with_reducible refine Below.setCell ?_ ?_ _))) <;> (simp; try omega)
  · have hx : nextX c f = (Ac.none, 40) := by unfold nextX; rw [if_pos hok]
    rw [hx]
    clear hx hw
    cases hk : okB c with
    | false =>
      rw [hk] at HM
      clear hok hk
      unfold cfv acv Ac.none frv at *
      simp only
      go_enter Tryd.func15, Tryd.ntmps15
      go_wp2_with (go_at_call 35; refine (HM.out _).mono ?_; rintro e w1 ⟨rfl, hb1⟩; obtain ⟨hc1, hf1⟩ := bcell hb1)
      have hre := blk_below (new_third w _ _ _) hb1
      have HB := Lib.hid (below_then (below_three w _ _ _) hb1)
      obtain ⟨r0, f0, r1, f1, r2, f2, r3, f3, r4, f4, r5, f5, r6, f6⟩ := cells7 hre
      clear hre hb1 hc1 hf1
      refine bodyPost_ret ?_ rfl ⟨rfl, ?_⟩
      · simp [results, Tryd.results15, go_sem, r0, r1, r2, r3, r4, r5, r6]
      · (repeat' (first | with_reducible exact HB.out | (with_reducible refine Below.setCell ?_ ?_ _))) <;> (simp; try omega)
    | true =>
      rw [hk] at HM
      have h1 : (c.obj != 2) = true := bne_iff_ne.2 fun g => hok ⟨of_decide_eq_true hk, g⟩
      clear hok hk
      unfold cfv acv Ac.none frv at *
      simp only
      go_enter Tryd.func15, Tryd.ntmps15
      go_wp2_with (go_at_call 35; refine (HM.out _).mono ?_; rintro e w1 ⟨rfl, hb1⟩; obtain ⟨hc1, hf1⟩ := bcell hb1)
      have hre := blk_below (new_third w _ _ _) hb1
      have HB := Lib.hid (below_then (below_three w _ _ _) hb1)
      obtain ⟨r0, f0, r1, f1, r2, f2, r3, f3, r4, f4, r5, f5, r6, f6⟩ := cells7 hre
      clear hre hb1 hc1 hf1
      refine bodyPost_ret ?_ rfl ⟨rfl, ?_⟩
      · simp [results, Tryd.results15, go_sem, r0, r1, r2, r3, r4, r5, r6]
      · (repeat' (first | with_reducible exact HB.out | (with_reducible refine Below.setCell ?_ ?_ _))) <;> (simp; try omega)

end Go.Proofs.YtnbfifceadileaaDoor
