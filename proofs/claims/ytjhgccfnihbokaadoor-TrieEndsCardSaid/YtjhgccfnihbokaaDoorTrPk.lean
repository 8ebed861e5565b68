/- The program of a table of routes, the program's own: what the row of a frame that may be answers. -/
import Derived.Test.YtjhgccfnihbokaaDoorTrPd
import Derived.Test.YtjhgccfnihbokaaDoorTrPe
import Derived.Test.YtjhgccfnihbokaaDoorTrPf
import Derived.Test.YtjhgccfnihbokaaDoorTrPi
import Derived.Test.YtjhgccfnihbokaaDoorTrPj
namespace Go.Proofs.YtjhgccfnihbokaaDoor
open Go.RowKit Go.Lib Pt Opn

set_option maxRecDepth 100000 in
set_option maxHeartbeats 4000000 in
theorem pRow_any (c : Cf) (f : Ds) (t A B C : Nat) (hc : Ok c) (hobj : c.obj = 1) (hm : TMay c f) (hw : DWf f) :
    ∃ F : FuncId, rowV f.kind f.pc = fnV F ∧ (∀ args W, (callFunc F args).run Tryd.prog W = .ok (.enter F args) W) ∧ ∀ W, Calls Tryd.prog F #[stV c f t A B C] W (Ret2 (acv (stepT c f)) (frv (behindT c f A B)) W) := by
  obtain ⟨b1, b2, b3, b4, b5, b6, b7, b8⟩ := mayT_bounds hc hobj hm
  have hcap : 1 ≤ c.cap ∧ c.cap ≤ 32 := by have := hc.2.2; unfold RestOk at this; omega
  have hp := pcsT hm.2.1
  have htop : f.kind ≠ 3 → topT c f = f.b := fun g => by unfold topT; rw [if_neg g]
  unfold DWf at hw
  obtain ⟨_, _, _, _, _, hfb, _, _, _, hn, _, _, hx, hy⟩ := hw
  have hs := stepT_eq c f
  rcases b6 with hk | hk | hk
  · rcases hp.1 hk with g | g | g | g | g | g | g
    · refine ⟨64, by rw [hk, g]; rfl, fun args W => by kernel_rfl, fun W => ?_⟩
      rw [if_pos g, if_neg (by omega)] at hs
      rw [hs, bhT_10 hk g]
      exact pFindIn_any c f t A B C b1.1 hfb b2 b3 W
    · refine ⟨65, by rw [hk, g]; rfl, fun args W => by kernel_rfl, fun W => ?_⟩
      rw [if_neg (by omega), if_pos g] at hs
      rw [hs, bhT_1 (by omega) g]
      exact pRoom_any c f t A B C hcap W
    · refine ⟨66, by rw [hk, g]; rfl, fun args W => by kernel_rfl, fun W => ?_⟩
      rw [if_neg (by omega), if_neg (by omega), if_pos g] at hs
      rw [hs, bhT_2 (by omega) g]
      exact pRead_any c f t A B C b1.1 hfb b2 b3 b5 W
    · refine ⟨67, by rw [hk, g]; rfl, fun args W => by kernel_rfl, fun W => ?_⟩
      rw [if_neg (by omega), if_neg (by omega), if_neg (by omega), if_pos g, if_neg (show ¬ f.kind = 2 by omega), if_neg (show ¬ f.kind = 2 by omega)] at hs
      rw [hs, bhT_3 (by omega) g]
      have h := fun W => pIn_any c f t A B C b1.1 hfb b2 b3 b5 hn hx hy W
      rw [htop (by omega)] at h
      exact h W
    · refine ⟨68, by rw [hk, g]; rfl, fun args W => by kernel_rfl, fun W => ?_⟩
      rw [if_neg (by omega), if_neg (by omega), if_neg (by omega), if_neg (by omega), if_pos g] at hs
      rw [hs, bhT_5 (by omega) g]
      exact pTurn_any c f t A B C b1.1 hfb b2 b3 hy hn W
    · refine ⟨69, by rw [hk, g]; rfl, fun args W => by kernel_rfl, fun W => ?_⟩
      rw [if_neg (by omega), if_neg (by omega), if_neg (by omega), if_neg (by omega), if_neg (by omega), if_pos g] at hs
      rw [hs, bhT_stay (.inl g)]
      exact pWord_any c f t A B C W
    · refine ⟨70, by rw [hk, g]; rfl, fun args W => by kernel_rfl, fun W => ?_⟩
      rw [if_neg (by omega), if_neg (by omega), if_neg (by omega), if_neg (by omega), if_neg (by omega), if_neg (by omega), if_pos g] at hs
      rw [hs, bhT_stay (.inr (.inl g))]
      exact pFull_any c f t A B C W
  · rcases hp.2.1 hk with g | g | g | g | g
    · refine ⟨71, by rw [hk, g]; rfl, fun args W => by kernel_rfl, fun W => ?_⟩
      rw [if_pos g, if_neg (by omega)] at hs
      rw [hs, bhT_20 hk g]
      exact pFindOut_any c f t A B C b1.1 hfb b2 b3 W
    · refine ⟨66, by rw [hk, g]; rfl, fun args W => by kernel_rfl, fun W => ?_⟩
      rw [if_neg (by omega), if_neg (by omega), if_pos g] at hs
      rw [hs, bhT_2 (by omega) g]
      exact pRead_any c f t A B C b1.1 hfb b2 b3 b5 W
    · refine ⟨72, by rw [hk, g]; rfl, fun args W => by kernel_rfl, fun W => ?_⟩
      rw [if_neg (by omega), if_neg (by omega), if_neg (by omega), if_pos g, if_pos hk, if_pos hk] at hs
      rw [hs, bhT_3 (by omega) g]
      have h := fun W => pOut_any c f t A B C b1.1 hfb b2 b3 b5 hn hx W
      rw [htop (by omega)] at h
      exact h W
    · refine ⟨69, by rw [hk, g]; rfl, fun args W => by kernel_rfl, fun W => ?_⟩
      rw [if_neg (by omega), if_neg (by omega), if_neg (by omega), if_neg (by omega), if_neg (by omega), if_pos g] at hs
      rw [hs, bhT_stay (.inl g)]
      exact pWord_any c f t A B C W
    · refine ⟨73, by rw [hk, g]; rfl, fun args W => by kernel_rfl, fun W => ?_⟩
      rw [if_neg (by omega), if_neg (by omega), if_neg (by omega), if_neg (by omega), if_neg (by omega), if_neg (by omega), if_neg (by omega)] at hs
      rw [hs, bhT_stay (.inr (.inr g))]
      exact pNone_any c f t A B C W
  · rcases hp.2.2 hk with g | g | g
    · refine ⟨74, by rw [hk, g]; rfl, fun args W => by kernel_rfl, fun W => ?_⟩
      rw [if_pos g, if_pos hk] at hs
      rw [hs, bhT_look hk g]
      exact pLook_any c f t A B C b1 hfb b2 b3 b5 W
    · refine ⟨69, by rw [hk, g]; rfl, fun args W => by kernel_rfl, fun W => ?_⟩
      rw [if_neg (by omega), if_neg (by omega), if_neg (by omega), if_neg (by omega), if_neg (by omega), if_pos g] at hs
      rw [hs, bhT_stay (.inl g)]
      exact pWord_any c f t A B C W
    · refine ⟨73, by rw [hk, g]; rfl, fun args W => by kernel_rfl, fun W => ?_⟩
      rw [if_neg (by omega), if_neg (by omega), if_neg (by omega), if_neg (by omega), if_neg (by omega), if_neg (by omega), if_neg (by omega)] at hs
      rw [hs, bhT_stay (.inr (.inr g))]
      exact pNone_any c f t A B C W
end Go.Proofs.YtjhgccfnihbokaaDoor
