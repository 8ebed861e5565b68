/- The document's own program of a set of access rules: which frames may be. -/
import Derived.Test.YtljhcegkekdjgaaDoorGtRef
namespace Go.Proofs.YtljhcegkekdjgaaDoor
open Go.RowKit Go.Lib Pt Opn

theorem wf_frG {f : Ds} (hw : DWf f) : Wf (frG f) := by
  unfold DWf at hw
  unfold Wf frG
  simp only
  refine ⟨by omega, by omega, by omega, ?_⟩
  split <;> omega
set_option maxRecDepth 100000 in
set_option maxHeartbeats 8000000 in
theorem rMayG_any (c : Cf) (f : Ds) (hw : DWf f) (w : World) : Calls Tryd.prog 27 #[cfv c, frv f] w (Ret (.bool (decide (GMay c f))) w) := by
  have HC := Lib.hid (fun W => rCheck_op c (frG f) (wf_frG hw) W)
  obtain ⟨x, hx⟩ : ∃ x, chk c (frG f) = x := ⟨_, rfl⟩
  rw [hx] at HC
  have he : decide (GMay c f) = (decide (x = 0) && decide (f.pc = 0 ∨ f.pc = 20 ∨ (f.pc = 2 ∧ f.kind ≠ 11) ∨ (f.pc = 21 ∧ f.kind = 10) ∨ (f.pc = 22 ∧ f.kind = 9)) && decide ((f.i : Int) < c.cap) && decide ((f.j : Int) < c.cap) && decide (f.h ≤ 1)) := by
    rw [← hx, Bool.eq_iff_iff, decide_eq_true_iff]
    unfold GMay RegsG ThereG
    simp [and_assoc]
  rw [he]
  unfold cfv frv opv frG at *
  obtain ⟨t', k, seq, kind, a, b, pc, i, j, n, p, h, z, y⟩ := f
  unfold DWf at hw
  simp only at *
  have i1 : IntKind.i64.wrap (i : Int) = (i : Int) := by rw [IntKind.wrap_i64]; omega
  have j1 : IntKind.i64.wrap (j : Int) = (j : Int) := by rw [IntKind.wrap_i64]; omega
  clear he hx hw
  have hks : (kind = 9 ∧ True) ∨ (kind ≠ 9 ∧ ((kind : Int) == 9) = false) := by
    by_cases g : kind = 9
    · exact .inl ⟨g, trivial⟩
    · exact .inr ⟨g, by simp; omega⟩
  rcases (show x = 0 ∨ (x ≠ 0 ∧ (x != 0) = true) by by_cases g : x = 0; exact .inl g; exact .inr ⟨g, by simpa using g⟩) with rfl | ⟨x1, x2⟩
  · rcases hks with ⟨rfl, -⟩ | ⟨g1, g2⟩
    · simp only [↓reduceIte] at HC
      have q1 : ((9 : Nat) : Int) = 9 := rfl
      rw [q1] at HC
      clear q1
      go_enter Tryd.func27, Tryd.ntmps27
      go_wp2_with (go_at_call 48; refine (HC.out _).mono ?_; rintro e w1 ⟨rfl, hb1⟩; obtain ⟨hc1, hf1⟩ := bcell hb1)
      all_goals go_ret
      all_goals
        refine Ret.mk (bool_eq ?_) (below_then (below_three w _ _ _) hb1)
        rw [Bool.eq_iff_iff]
        clear HC hb1 hc1 hf1
        simp at *
        try omega
    · simp only [if_neg g1] at HC
      go_enter Tryd.func27, Tryd.ntmps27
      go_wp2_with (go_at_call 48; refine (HC.out _).mono ?_; rintro e w1 ⟨rfl, hb1⟩; obtain ⟨hc1, hf1⟩ := bcell hb1)
      all_goals go_ret
      all_goals
        refine Ret.mk (bool_eq ?_) (below_then (below_three w _ _ _) hb1)
        rw [Bool.eq_iff_iff]
        clear HC hb1 hc1 hf1
        simp at *
        try omega
  · rcases hks with ⟨rfl, -⟩ | ⟨g1, g2⟩
    · simp only [↓reduceIte] at HC
      have q1 : ((9 : Nat) : Int) = 9 := rfl
      rw [q1] at HC
      clear q1
      go_enter Tryd.func27, Tryd.ntmps27
      go_wp2_with (go_at_call 48; refine (HC.out _).mono ?_; rintro e w1 ⟨rfl, hb1⟩; obtain ⟨hc1, hf1⟩ := bcell hb1)
      all_goals go_ret
      all_goals
        refine Ret.mk (bool_eq ?_) (below_then (below_three w _ _ _) hb1)
        simp [x1]
    · simp only [if_neg g1] at HC
      go_enter Tryd.func27, Tryd.ntmps27
      go_wp2_with (go_at_call 48; refine (HC.out _).mono ?_; rintro e w1 ⟨rfl, hb1⟩; obtain ⟨hc1, hf1⟩ := bcell hb1)
      all_goals go_ret
      all_goals
        refine Ret.mk (bool_eq ?_) (below_then (below_three w _ _ _) hb1)
        simp [x1]
end Go.Proofs.YtljhcegkekdjgaaDoor
