/- The chapter's examples of package op. -/
import Derived.Test.YtcabdokcinlabaaDoorOpChk
import Derived.Test.YtcabdokcinlabaaDoorOpLaid
namespace Go.Proofs.YtcabdokcinlabaaDoor
open Go.RowKit Pt Opn

theorem ex1 {P : Program} {n : FuncId} {args : Array Value} {w : World} {a x : Value} (h : Calls P n args w (Ret a w)) (h1 : a = x) : Calls P n args w (Ret x w) := by
  subst h1; exact h

theorem ex2' {P : Program} {n : FuncId} {args : Array Value} {w : World} {a b z : Value} (h : Calls P n args w (Ret2 a b w)) (h2 : b = z) : Calls P n args w (Ret2 a z w) := by
  subst h2; exact h

/-- The chapter's config. -/
def exC : Cf := ⟨1, 2, 1, 1, 0, 3, 4, 0, 1, 0, 131072, 0⟩

theorem check_ex (c : Cf) (o : O) (e : Int) (ho : Wf o) (h : chk c o = e) (W : World) (hW : Obs W) : Calls Tryd.prog 8 #[cfv c, opv o] W (Ret (.int .i64 e) W) :=
  ex1 (check_op c o ho W hW) (i64_eq h)

set_option maxRecDepth 100000 in
set_option maxHeartbeats 2000000 in
theorem alive_any (w : World) (hp : Obs w) : Calls Tryd.prog 9 #[] w (Ret (.bool true) w) := by
  have HP := Lib.hid hp
  clear hp
  have h1 := check_ex exC ⟨1, 5, 3, 7⟩ 0 (by unfold Wf; decide) (by decide +kernel)
  have h2 := check_ex exC ⟨1, 5, 2, 7⟩ 10 (by unfold Wf; decide) (by decide +kernel)
  have h3 := check_ex exC ⟨3, 8, 0, 0⟩ 10 (by unfold Wf; decide) (by decide +kernel)
  have h4 := check_ex exC ⟨6, 1, 0, 0⟩ 50 (by unfold Wf; decide) (by decide +kernel)
  have h5 := fun W => ex1 (x := cev 9 1281 3 7) (laid_any 9 ⟨1, 5, 3, 7⟩ (by unfold Wf; decide) W) rfl
  unfold cfv exC opv at h1 h2 h3 h4
  unfold opv cev at h5
  simp only at h1 h2 h3 h4 h5
  have H1 := Lib.hid h1
  have H2 := Lib.hid h2
  have H3 := Lib.hid h3
  have H4 := Lib.hid h4
  have H5 := Lib.hid h5
  clear h1 h2 h3 h4 h5
  go_enter Tryd.func9, Tryd.ntmps9
  go_wp2_with fail
  refine (H1.out _ (HP.out.alloc _)).mono ?_
  rintro e w1 ⟨rfl, hb1⟩
  obtain ⟨hc1, hf1⟩ := bcell hb1
  go_wp2_with fail
  refine (H2.out _ (HP.out.below (below_b1 hb1))).mono ?_
  rintro e w2 ⟨rfl, hb2⟩
  replace hb1 := below_then hb1 hb2
  clear hb2 hc1 hf1
  obtain ⟨hc1, hf1⟩ := bcell hb1
  go_wp2_with fail
  refine (H3.out _ (HP.out.below (below_b1 hb1))).mono ?_
  rintro e w2 ⟨rfl, hb2⟩
  replace hb1 := below_then hb1 hb2
  clear hb2 hc1 hf1
  obtain ⟨hc1, hf1⟩ := bcell hb1
  go_wp2_with fail
  refine (H4.out _ (HP.out.below (below_b1 hb1))).mono ?_
  rintro e w2 ⟨rfl, hb2⟩
  replace hb1 := below_then hb1 hb2
  clear hb2 hc1 hf1
  obtain ⟨hc1, hf1⟩ := bcell hb1
  go_wp2_with fail
  refine (H5.out _).mono ?_
  rintro e w2 ⟨rfl, hb2⟩
  replace hb1 := below_then hb1 hb2
  clear hb2 hc1 hf1
  go_wp2

  go_ret
  exact Ret.mk rfl (below_then (below_b1 hb1) (below_one _ _))
end Go.Proofs.YtcabdokcinlabaaDoor
