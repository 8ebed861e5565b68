/- The document's own answer on what a check says. -/
import Derived.Test.YtljdkjjjnlcflaaDoorOpRefFits
namespace Go.Proofs.YtljdkjjjnlcflaaDoor
open Go.RowKit Pt Opn

theorem rOpFits_any (c : Cf) (o : O) (ho : Wf o) (h : Ok c) (hk : 1 ≤ o.k ∧ o.k ≤ 14) (w : World) : Calls Tryd.prog 53 #[cfv c, opv o] w (Ret (.bool (decide (Fits c.bits.toNat o))) w) := by
  obtain ⟨k, a, b, v⟩ := o
  have hb : 0 ≤ c.bits ∧ c.bits ≤ 6 := by have := h.1; unfold ObjOk at this; omega
  have ha : a < 4294967296 := ho.2.1
  simp only at hk
  by_cases h1 : k = 1 ∨ k = 2 ∨ k = 3
  · exact rFits_route c k a b v hb ha h1 w
  by_cases h3 : k = 4 ∨ k = 5 ∨ k = 6 ∨ k = 7 ∨ k = 8
  · exact rFits_index c k a b v hb ha h3 w
  by_cases h4 : k = 9 ∨ k = 10 ∨ k = 11
  · exact rFits_access c k a b v hb ha h4 w
  exact rFits_config c k a b v hb ha (by omega) w

theorem rObj_kind {c : Cf} (h : Ok c) {k : Nat} (e : (objAt k : Int) = c.obj) : 1 ≤ k ∧ k ≤ 14 := by
  have h1 : 1 ≤ c.obj := by have := h.1; unfold ObjOk at this; omega
  unfold objAt at e
  split at e
  · omega
  · refine ⟨by omega, ?_⟩
    by_cases h2 : k ≤ 14
    · exact h2
    · rw [if_neg (by omega), if_neg (by omega), if_neg (by omega), if_neg h2] at e; omega

set_option maxHeartbeats 4000000 in
theorem rCheck_op (c : Cf) (o : O) (ho : Wf o) (w : World) : Calls Tryd.prog 29 #[cfv c, opv o] w (Ret (.int .i64 (chk c o)) w) := by
  have HO := Lib.hid ho
  have hC := rMayBe_any c
  have hk := ho.1
  clear ho
  cases hok : okB c with
  | false =>
    have hx : chk c o = 40 := by unfold chk; rw [if_pos hok]
    rw [hx]
    rw [hok] at hC
    unfold cfv at *
    unfold opv
    go_enter Tryd.func29, Tryd.ntmps29
    go_wp2_with (go_at_call 28; refine (hC _).mono ?_; rintro e w1 ⟨rfl, hb1⟩; obtain ⟨hc1, hf1⟩ := bcell hb1)
    go_ret
    exact Ret.mk rfl (below_then (below_two _ _ _) hb1)
  | true =>
    rw [hok] at hC
    have hoc := ok_of hok
    by_cases hob : (objAt o.k : Int) = c.obj
    · have hkk := rObj_kind hoc hob
      have hfi := rOpFits_any c o HO.out hoc hkk
      have hob1 : ((objAt o.k : Int) != c.obj) = false := by simpa using hob
      have hob2 : ((objAt o.k : Int) == c.obj) = true := by simpa using hob
      cases hft : decide (Fits c.bits.toNat o) with
      | true =>
        have hx : chk c o = 0 := by unfold chk; rw [if_neg (by rw [hok]; simp), if_neg (by simp [hob]), if_pos (of_decide_eq_true hft)]
        rw [hx]
        rw [hft] at hfi
        clear hft hx
        unfold cfv at *
        unfold opv at *
        go_enter Tryd.func29, Tryd.ntmps29
        go_wp2_with (go_at_call 28; refine (hC _).mono ?_; rintro e w1 ⟨rfl, hb1⟩; obtain ⟨hc1, hf1⟩ := bcell hb1)
        have k0 := cell_regrown (show w1.cell? ⟨w.heap.size, 0, none⟩ = some (.int .u8 c.obj) from (hc1 _ _ (by simp; omega)).trans (by simp [go_sem]))
        have k1 := cell_regrown (show w1.cell? ⟨w.heap.size + 1, 0, none⟩ = some (.int .u8 o.k) from (hc1 _ _ (by simp)).trans (by simp [go_sem]))
        refine wp_region_quiet_below (by kernel_rfl) (by kernel_rfl) ?_
        repeat (go_big_quiet_step (exact Calls.regrown_of (rObject_any o.k _)))
        refine wpQuiet_nil ?_
        intro W3 hw'
        obtain ⟨⟨dq, osq⟩, hw''⟩ := hw'
        have hb3 := below_regrown w1 dq osq
        rw [← hw''] at hb3
        replace hb1 := below_then hb1 hb3
        clear hw'' k0 k1 hc1 hf1 hb3
        obtain ⟨hc1, hf1⟩ := bcell hb1
        go_wp2_with (go_at_call 53; refine (hfi _).mono ?_; rintro e w2 ⟨rfl, hb2⟩; replace hb1 := below_then hb1 hb2; clear hc1 hf1 hb2; obtain ⟨hc1, hf1⟩ := bcell hb1)
        go_ret
        exact Ret.mk rfl (below_then (below_two _ _ _) hb1)
      | false =>
        have hx : chk c o = 10 := by unfold chk; rw [if_neg (by rw [hok]; simp), if_neg (by simp [hob]), if_neg (of_decide_eq_false hft)]
        rw [hx]
        rw [hft] at hfi
        clear hft hx
        unfold cfv at *
        unfold opv at *
        go_enter Tryd.func29, Tryd.ntmps29
        go_wp2_with (go_at_call 28; refine (hC _).mono ?_; rintro e w1 ⟨rfl, hb1⟩; obtain ⟨hc1, hf1⟩ := bcell hb1)
        have k0 := cell_regrown (show w1.cell? ⟨w.heap.size, 0, none⟩ = some (.int .u8 c.obj) from (hc1 _ _ (by simp; omega)).trans (by simp [go_sem]))
        have k1 := cell_regrown (show w1.cell? ⟨w.heap.size + 1, 0, none⟩ = some (.int .u8 o.k) from (hc1 _ _ (by simp)).trans (by simp [go_sem]))
        refine wp_region_quiet_below (by kernel_rfl) (by kernel_rfl) ?_
        repeat (go_big_quiet_step (exact Calls.regrown_of (rObject_any o.k _)))
        refine wpQuiet_nil ?_
        intro W3 hw'
        obtain ⟨⟨dq, osq⟩, hw''⟩ := hw'
        have hb3 := below_regrown w1 dq osq
        rw [← hw''] at hb3
        replace hb1 := below_then hb1 hb3
        clear hw'' k0 k1 hc1 hf1 hb3
        obtain ⟨hc1, hf1⟩ := bcell hb1
        go_wp2_with (go_at_call 53; refine (hfi _).mono ?_; rintro e w2 ⟨rfl, hb2⟩; replace hb1 := below_then hb1 hb2; clear hc1 hf1 hb2; obtain ⟨hc1, hf1⟩ := bcell hb1)
        go_ret
        exact Ret.mk rfl (below_then (below_two _ _ _) hb1)
    · have hx : chk c o = 50 := by unfold chk; rw [if_neg (by rw [hok]; simp), if_pos hob]
      rw [hx]
      clear hx
      have hob1 : ((objAt o.k : Int) != c.obj) = true := by simpa using hob
      have hob2 : ((objAt o.k : Int) == c.obj) = false := by simpa using hob
      unfold cfv at *
      unfold opv at *
      go_enter Tryd.func29, Tryd.ntmps29
      go_wp2_with (go_at_call 28; refine (hC _).mono ?_; rintro e w1 ⟨rfl, hb1⟩; obtain ⟨hc1, hf1⟩ := bcell hb1)
      have k0 := cell_regrown (show w1.cell? ⟨w.heap.size, 0, none⟩ = some (.int .u8 c.obj) from (hc1 _ _ (by simp; omega)).trans (by simp [go_sem]))
      have k1 := cell_regrown (show w1.cell? ⟨w.heap.size + 1, 0, none⟩ = some (.int .u8 o.k) from (hc1 _ _ (by simp)).trans (by simp [go_sem]))
      refine wp_region_quiet_below (by kernel_rfl) (by kernel_rfl) ?_
      repeat (go_big_quiet_step (exact Calls.regrown_of (rObject_any o.k _)))
      refine wpQuiet_nil ?_
      intro W3 hw'
      obtain ⟨⟨dq, osq⟩, hw''⟩ := hw'
      have hb3 := below_regrown w1 dq osq
      rw [← hw''] at hb3
      replace hb1 := below_then hb1 hb3
      clear hw'' k0 k1 hc1 hf1 hb3
      obtain ⟨hc1, hf1⟩ := bcell hb1
      go_wp2
      go_ret
      exact Ret.mk rfl (below_then (below_two _ _ _) hb1)
end Go.Proofs.YtljdkjjjnlcflaaDoor
