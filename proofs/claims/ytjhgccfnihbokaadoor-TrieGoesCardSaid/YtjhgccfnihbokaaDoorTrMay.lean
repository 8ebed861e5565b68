/- May a frame of a table of routes be: the document's own. -/
import Derived.Test.YtjhgccfnihbokaaDoorTrRef
import Derived.Test.YtjhgccfnihbokaaDoorGKit
import Derived.BigQuiet
namespace Go.Proofs.YtjhgccfnihbokaaDoor
open Go.RowKit Go.Lib Pt Opn

set_option maxRecDepth 100000 in
set_option maxHeartbeats 8000000 in
theorem rMayT_any (c : Cf) (f : Ds) (hc : Ok c) (hw : DWf f) (w : World) : Calls Tryd.prog 28 #[cfv c, frv f] w (Ret (.bool (decide (TMay c f))) w) := by
  have hbt : 0 ≤ c.bits ∧ c.bits ≤ 6 := by have := hc.1; unfold ObjOk at this; omega
  have hwo : Wf (frO f) := by unfold DWf at hw; unfold Wf frO; simp only; split <;> omega
  have HC := Lib.hid (fun W => rCheck_op c (frO f) hwo W)
  have HT := Lib.hid (fun W => rThere_any f.kind f.pc W)
  obtain ⟨x, hx⟩ : ∃ x, chk c (frO f) = x := ⟨_, rfl⟩
  obtain ⟨y', hy'⟩ : ∃ y, decide (ThereT f.kind f.pc) = y := ⟨_, rfl⟩
  have he : decide (TMay c f) = (decide (x = 0) && y' && decide (f.h ≤ topT c f)) := by
    rw [← hy', ← hx, Bool.eq_iff_iff, decide_eq_true_iff]
    unfold TMay
    simp [and_assoc]
  rw [he]
  rw [hx] at HC
  rw [hy'] at HT
  obtain ⟨nb, hnb⟩ : ∃ n : Nat, c.bits = n := ⟨c.bits.toNat, by omega⟩
  unfold topT
  rw [hnb] at hbt ⊢
  simp only [Int.toNat_natCast]
  unfold cfv frv opv frO at *
  rw [hnb] at HC ⊢
  have b1 : IntKind.u32.wrap (nb : Int) = (nb : Int) := by rw [IntKind.wrap_u32]; omega
  obtain ⟨t', k, seq, kind, a, b, pc, i, j, n, p, h, z, y⟩ := f
  unfold DWf at hw
  simp only at *
  have h1 : IntKind.u32.wrap (h : Int) = (h : Int) := by rw [IntKind.wrap_u32]; omega
  clear he hx hy' hnb hc hwo
  rcases (show kind = 1 ∨ kind = 3 ∨ (kind ≠ 1 ∧ kind ≠ 3) by omega) with rfl | rfl | ⟨g1, g2⟩
  · simp only [↓reduceIte] at HC
    rw [if_neg (by decide)]
    have q1 : ((1 : Nat) : Int) = 1 := rfl
    rw [q1] at HC HT
    clear q1
    rcases (show x = 0 ∨ (x ≠ 0 ∧ (x == 0) = false) by by_cases g : x = 0; exact .inl g; exact .inr ⟨g, by simp; omega⟩) with rfl | ⟨x1, x2⟩ <;> cases y'
    all_goals
      go_enter Tryd.func28, Tryd.ntmps28
      go_wp2_with (first
        | (go_at_call 48; refine (HC.out _).mono ?_; rintro e w1 ⟨rfl, hb1⟩; obtain ⟨hc1, hf1⟩ := bcell hb1)
        | (go_at_call 49; refine (HT.out _).mono ?_; rintro e w2 ⟨rfl, hb2⟩; replace hb1 := below_then hb1 hb2; clear hc1 hf1 hb2; obtain ⟨hc1, hf1⟩ := bcell hb1))
      all_goals go_ret
      all_goals
        refine Ret.mk (bool_eq ?_) (below_then (below_three w _ _ _) hb1)
        simp
        try omega
  · simp only [if_neg (show ¬ (3 : Nat) = 1 by decide)] at HC
    rw [if_pos rfl]
    have q1 : ((3 : Nat) : Int) = 3 := rfl
    rw [q1] at HC HT
    clear q1
    rcases (show x = 0 ∨ (x ≠ 0 ∧ (x == 0) = false) by by_cases g : x = 0; exact .inl g; exact .inr ⟨g, by simp; omega⟩) with rfl | ⟨x1, x2⟩ <;> cases y'
    all_goals
      go_enter Tryd.func28, Tryd.ntmps28
      go_wp2_with (first
        | (go_at_call 48; refine (HC.out _).mono ?_; rintro e w1 ⟨rfl, hb1⟩; obtain ⟨hc1, hf1⟩ := bcell hb1)
        | (go_at_call 49; refine (HT.out _).mono ?_; rintro e w2 ⟨rfl, hb2⟩; replace hb1 := below_then hb1 hb2; clear hc1 hf1 hb2; obtain ⟨hc1, hf1⟩ := bcell hb1))
      all_goals go_ret
      all_goals
        refine Ret.mk (bool_eq ?_) (below_then (below_three w _ _ _) hb1)
        simp
        try omega
  · have k1 : ((kind : Int) == 1) = false := by simp; omega
    have k3 : ((kind : Int) == 3) = false := by simp; omega
    simp only [if_neg g1] at HC
    rw [if_neg g2]
    rcases (show x = 0 ∨ (x ≠ 0 ∧ (x == 0) = false) by by_cases g : x = 0; exact .inl g; exact .inr ⟨g, by simp; omega⟩) with rfl | ⟨x1, x2⟩ <;> cases y'
    all_goals
      go_enter Tryd.func28, Tryd.ntmps28
      go_wp2_with (first
        | (go_at_call 48; refine (HC.out _).mono ?_; rintro e w1 ⟨rfl, hb1⟩; obtain ⟨hc1, hf1⟩ := bcell hb1)
        | (go_at_call 49; refine (HT.out _).mono ?_; rintro e w2 ⟨rfl, hb2⟩; replace hb1 := below_then hb1 hb2; clear hc1 hf1 hb2; obtain ⟨hc1, hf1⟩ := bcell hb1))
      all_goals go_ret
      all_goals
        refine Ret.mk (bool_eq ?_) (below_then (below_three w _ _ _) hb1)
        simp
        try omega
end Go.Proofs.YtjhgccfnihbokaaDoor
