/- The document's own calls of a program of a set of access rules: the act of a frame, the frame behind it. -/
import Derived.Test.YtljhcegkekdjgaaDoorGtBehA
namespace Go.Proofs.YtljhcegkekdjgaaDoor
open Go.RowKit Go.Lib Pt Opn

set_option maxRecDepth 100000 in
set_option maxHeartbeats 8000000 in
theorem rNextG_any (c : Cf) (f : Ds) (hw : DWf f) (w : World) : Calls Tryd.prog 13 #[cfv c, frv f] w (Ret2 (acv (nextG c f).1) (.int .i64 (nextG c f).2) w) := by
  have HM := Lib.hid (fun W => rMayBe_any c W)
  by_cases hok : Ok c ∧ c.obj = 3
  · rw [show okB c = true from decide_eq_true hok.1] at HM
    have HY := Lib.hid (fun W => rMayG_any c f hw W)
    by_cases hm : GMay c f
    · rw [decide_eq_true hm] at HY
      have HS := Lib.hid (fun W => rActG_any f hw W)
      have hx : nextG c f = (actG f, 0) := by unfold nextG; rw [if_neg (not_not_intro hok), if_neg (not_not_intro hm)]
      rw [hx]
      obtain ⟨X, hX⟩ : ∃ X, actG f = X := ⟨_, rfl⟩
      simp only [hX] at HS ⊢
      have h1 : (c.obj != 3) = false := by simp [hok.2]
      clear hx hX hm hok hw
      unfold acv frv at HS ⊢
      unfold cfv  at *
      go_enter Tryd.func13, Tryd.ntmps13
      go_wp2_with (first
        | (go_at_call 26; refine (HM.out _).mono ?_; rintro e w1 ⟨rfl, hb1⟩; obtain ⟨hc1, hf1⟩ := bcell hb1)
        | (go_at_call 27; refine (HY.out _).mono ?_; rintro e w2 ⟨rfl, hb2⟩; replace hb1 := below_then hb1 hb2; clear hc1 hf1 hb2; obtain ⟨hc1, hf1⟩ := bcell hb1)
        | (go_at_call 28; refine (HS.out _).mono ?_; rintro e w3 ⟨rfl, hb2⟩; replace hb1 := below_then hb1 hb2; clear hc1 hf1 hb2; obtain ⟨hc1, hf1⟩ := bcell hb1))
      have hre := blk_below (new_third w _ _ _) hb1
      have HB := Lib.hid (below_then (below_three w _ _ _) hb1)
      obtain ⟨r0, f0, r1, f1, r2, f2, r3, f3, r4, f4, r5, f5, r6, f6⟩ := cells7 hre
      clear hre hb1 hc1 hf1
      refine bodyPost_ret ?_ rfl ⟨rfl, ?_⟩
      · simp [results, Tryd.results13, go_sem, r0, r1, r2, r3, r4, r5, r6]
      · (repeat' (first | with_reducible exact HB.out | (with_reducible refine Below.setCell ?_ ?_ _))) <;> (simp; try omega)
    · rw [decide_eq_false hm] at HY
      have hx : nextG c f = (Ac.none, 2) := by unfold nextG; rw [if_neg (not_not_intro hok), if_pos hm]
      rw [hx]
      have h1 : (c.obj != 3) = false := by simp [hok.2]
      clear hx hm hok hw
      unfold cfv acv Ac.none frv at *
      simp only
      go_enter Tryd.func13, Tryd.ntmps13
      go_wp2_with (first
        | (go_at_call 26; refine (HM.out _).mono ?_; rintro e w1 ⟨rfl, hb1⟩; obtain ⟨hc1, hf1⟩ := bcell hb1)
        | (go_at_call 27; refine (HY.out _).mono ?_; rintro e w2 ⟨rfl, hb2⟩; replace hb1 := below_then hb1 hb2; clear hc1 hf1 hb2; obtain ⟨hc1, hf1⟩ := bcell hb1))
      have hre := blk_below (new_third w _ _ _) hb1
      have HB := Lib.hid (below_then (below_three w _ _ _) hb1)
      obtain ⟨r0, f0, r1, f1, r2, f2, r3, f3, r4, f4, r5, f5, r6, f6⟩ := cells7 hre
      clear hre hb1 hc1 hf1
      refine bodyPost_ret ?_ rfl ⟨rfl, ?_⟩
      · simp [results, Tryd.results13, go_sem, r0, r1, r2, r3, r4, r5, r6]
      · (repeat' (first | with_reducible exact HB.out | (with_reducible refine Below.setCell ?_ ?_ _))) <;> (simp; try omega)
  · have hx : nextG c f = (Ac.none, 40) := by unfold nextG; rw [if_pos hok]
    rw [hx]
    clear hx hw
    cases hk : okB c with
    | false =>
      rw [hk] at HM
      clear hok hk
      unfold cfv acv Ac.none frv at *
      simp only
      go_enter Tryd.func13, Tryd.ntmps13
      go_wp2_with (go_at_call 26; refine (HM.out _).mono ?_; rintro e w1 ⟨rfl, hb1⟩; obtain ⟨hc1, hf1⟩ := bcell hb1)
      have hre := blk_below (new_third w _ _ _) hb1
      have HB := Lib.hid (below_then (below_three w _ _ _) hb1)
      obtain ⟨r0, f0, r1, f1, r2, f2, r3, f3, r4, f4, r5, f5, r6, f6⟩ := cells7 hre
      clear hre hb1 hc1 hf1
      refine bodyPost_ret ?_ rfl ⟨rfl, ?_⟩
      · simp [results, Tryd.results13, go_sem, r0, r1, r2, r3, r4, r5, r6]
      · (repeat' (first | with_reducible exact HB.out | (with_reducible refine Below.setCell ?_ ?_ _))) <;> (simp; try omega)
    | true =>
      rw [hk] at HM
      have h1 : (c.obj != 3) = true := bne_iff_ne.2 fun g => hok ⟨of_decide_eq_true hk, g⟩
      clear hok hk
      unfold cfv acv Ac.none frv at *
      simp only
      go_enter Tryd.func13, Tryd.ntmps13
      go_wp2_with (go_at_call 26; refine (HM.out _).mono ?_; rintro e w1 ⟨rfl, hb1⟩; obtain ⟨hc1, hf1⟩ := bcell hb1)
      have hre := blk_below (new_third w _ _ _) hb1
      have HB := Lib.hid (below_then (below_three w _ _ _) hb1)
      obtain ⟨r0, f0, r1, f1, r2, f2, r3, f3, r4, f4, r5, f5, r6, f6⟩ := cells7 hre
      clear hre hb1 hc1 hf1
      refine bodyPost_ret ?_ rfl ⟨rfl, ?_⟩
      · simp [results, Tryd.results13, go_sem, r0, r1, r2, r3, r4, r5, r6]
      · (repeat' (first | with_reducible exact HB.out | (with_reducible refine Below.setCell ?_ ?_ _))) <;> (simp; try omega)

set_option maxRecDepth 100000 in
set_option maxHeartbeats 8000000 in
theorem rAfterG_any (c : Cf) (f : Ds) (hw : DWf f) (t A B C : Nat) (w : World) : Calls Tryd.prog 14 #[cfv c, frv f, cvT t A B C] w (Ret2 (frv (afterG c f A B C).1) (.int .i64 (afterG c f A B C).2) w) := by
  have HM := Lib.hid (fun W => rMayBe_any c W)
  by_cases hok : Ok c ∧ c.obj = 3
  · rw [show okB c = true from decide_eq_true hok.1] at HM
    have HY := Lib.hid (fun W => rMayG_any c f hw W)
    by_cases hm : GMay c f
    · rw [decide_eq_true hm] at HY
      have HS := Lib.hid (fun W => rBehG_any c f t A B C hok.1 hok.2 hm hw W)
      have hx : afterG c f A B C = (behindG c f A B C, 0) := by unfold afterG; rw [if_neg (not_not_intro hok), if_neg (not_not_intro hm)]
      rw [hx]
      obtain ⟨X, hX⟩ : ∃ X, behindG c f A B C = X := ⟨_, rfl⟩
      simp only [hX] at HS ⊢
      have h1 : (c.obj != 3) = false := by simp [hok.2]
      clear hx hX hm hok hw
      unfold frv at HS ⊢
      unfold cfv cvT at *
      go_enter Tryd.func14, Tryd.ntmps14
      go_wp2_with (first
        | (go_at_call 26; refine (HM.out _).mono ?_; rintro e w1 ⟨rfl, hb1⟩; obtain ⟨hc1, hf1⟩ := bcell hb1)
        | (go_at_call 27; refine (HY.out _).mono ?_; rintro e w2 ⟨rfl, hb2⟩; replace hb1 := below_then hb1 hb2; clear hc1 hf1 hb2; obtain ⟨hc1, hf1⟩ := bcell hb1)
        | (go_at_call 29; refine (HS.out _).mono ?_; rintro e w3 ⟨rfl, hb2⟩; replace hb1 := below_then hb1 hb2; clear hc1 hf1 hb2; obtain ⟨hc1, hf1⟩ := bcell hb1))
      have hre := blk_below (new_fourth w _ _ _ _) hb1
      have HB := Lib.hid (below_then (below_then (below_three w _ _ _) (below_one _ _)) hb1)
      obtain ⟨r0, f0, r1, f1, r2, f2, r3, f3, r4, f4, r5, f5, r6, f6, r7, f7, r8, f8, r9, f9, r10, f10⟩ := cells11 hre
      clear hre hb1 hc1 hf1
      refine bodyPost_ret ?_ rfl ⟨rfl, ?_⟩
      · simp [results, Tryd.results14, go_sem, r0, r1, r2, r3, r4, r5, r6, r7, r8, r9, r10]
      · (repeat' (first | with_reducible exact HB.out | (with_reducible refine Below.setCell ?_ ?_ _))) <;> (simp; try omega)
    · rw [decide_eq_false hm] at HY
      have hx : afterG c f A B C = (frZero, 2) := by unfold afterG; rw [if_neg (not_not_intro hok), if_pos hm]
      rw [hx]
      have h1 : (c.obj != 3) = false := by simp [hok.2]
      clear hx hm hok hw
      unfold cfv frv frZero cvT at *
      simp only
      go_enter Tryd.func14, Tryd.ntmps14
      go_wp2_with (first
        | (go_at_call 26; refine (HM.out _).mono ?_; rintro e w1 ⟨rfl, hb1⟩; obtain ⟨hc1, hf1⟩ := bcell hb1)
        | (go_at_call 27; refine (HY.out _).mono ?_; rintro e w2 ⟨rfl, hb2⟩; replace hb1 := below_then hb1 hb2; clear hc1 hf1 hb2; obtain ⟨hc1, hf1⟩ := bcell hb1))
      have hre := blk_below (new_fourth w _ _ _ _) hb1
      have HB := Lib.hid (below_then (below_then (below_three w _ _ _) (below_one _ _)) hb1)
      obtain ⟨r0, f0, r1, f1, r2, f2, r3, f3, r4, f4, r5, f5, r6, f6, r7, f7, r8, f8, r9, f9, r10, f10⟩ := cells11 hre
      clear hre hb1 hc1 hf1
      refine bodyPost_ret ?_ rfl ⟨rfl, ?_⟩
      · simp [results, Tryd.results14, go_sem, r0, r1, r2, r3, r4, r5, r6, r7, r8, r9, r10]
      · (repeat' (first | with_reducible exact HB.out | (with_reducible refine Below.setCell ?_ ?_ _))) <;> (simp; try omega)
  · have hx : afterG c f A B C = (frZero, 40) := by unfold afterG; rw [if_pos hok]
    rw [hx]
    clear hx hw
    cases hk : okB c with
    | false =>
      rw [hk] at HM
      clear hok hk
      unfold cfv frv frZero cvT at *
      simp only
      go_enter Tryd.func14, Tryd.ntmps14
      go_wp2_with (go_at_call 26; refine (HM.out _).mono ?_; rintro e w1 ⟨rfl, hb1⟩; obtain ⟨hc1, hf1⟩ := bcell hb1)
      have hre := blk_below (new_fourth w _ _ _ _) hb1
      have HB := Lib.hid (below_then (below_then (below_three w _ _ _) (below_one _ _)) hb1)
      obtain ⟨r0, f0, r1, f1, r2, f2, r3, f3, r4, f4, r5, f5, r6, f6, r7, f7, r8, f8, r9, f9, r10, f10⟩ := cells11 hre
      clear hre hb1 hc1 hf1
      refine bodyPost_ret ?_ rfl ⟨rfl, ?_⟩
      · simp [results, Tryd.results14, go_sem, r0, r1, r2, r3, r4, r5, r6, r7, r8, r9, r10]
      · (repeat' (first | with_reducible exact HB.out | (with_reducible refine Below.setCell ?_ ?_ _))) <;> (simp; try omega)
    | true =>
      rw [hk] at HM
      have h1 : (c.obj != 3) = true := bne_iff_ne.2 fun g => hok ⟨of_decide_eq_true hk, g⟩
      clear hok hk
      unfold cfv frv frZero cvT at *
      simp only
      go_enter Tryd.func14, Tryd.ntmps14
      go_wp2_with (go_at_call 26; refine (HM.out _).mono ?_; rintro e w1 ⟨rfl, hb1⟩; obtain ⟨hc1, hf1⟩ := bcell hb1)
      have hre := blk_below (new_fourth w _ _ _ _) hb1
      have HB := Lib.hid (below_then (below_then (below_three w _ _ _) (below_one _ _)) hb1)
      obtain ⟨r0, f0, r1, f1, r2, f2, r3, f3, r4, f4, r5, f5, r6, f6, r7, f7, r8, f8, r9, f9, r10, f10⟩ := cells11 hre
      clear hre hb1 hc1 hf1
      refine bodyPost_ret ?_ rfl ⟨rfl, ?_⟩
      · simp [results, Tryd.results14, go_sem, r0, r1, r2, r3, r4, r5, r6, r7, r8, r9, r10]
      · (repeat' (first | with_reducible exact HB.out | (with_reducible refine Below.setCell ?_ ?_ _))) <;> (simp; try omega)
end Go.Proofs.YtljhcegkekdjgaaDoor
