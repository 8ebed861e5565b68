/- More examples of a tree of settings, of errors: what is refused, what is read of nothing, on rows written out. Condition: the table of objects holds at the call's start what the program's text lays there (the tied card). -/
import Derived.Test.YtljdkjjjnlcflaaDoorPaLive
import Derived.Test.YtljdkjjjnlcflaaDoorLaw
namespace Go.Proofs.YtljdkjjjnlcflaaDoor.pathsNames
open Go.ChangeShapes Go.WideShapes Go.ChangeAt Go.RowKit Go.Lib Tb Pt Opn

theorem nd_0 (A : Option Addr) (d : Nat) (hA : A = none → 0 = 0 ∧ d = 0) (w : World) (hp : Obs w) (h : IsR w A []) :
    Calls Tryd.prog 9 #[.agg #[.int .u8 0, .int .i64 0, .int .i64 0, .int .u8 0, .int .i64 0, .int .i64 0, .int .i64 0, .int .i64 0, .int .i64 0, .int .i64 0, .int .u64 0, .int .u64 0], .slice A 0 d, .agg #[.int .u8 0, .int .u32 0, .int .u32 0, .int .u32 0]] w (OpenedP [] 0 0 40 0 w) :=
  pa_do ⟨0, 0, 0, 0, 0, 0, 0, 0, 0, 0, 0, 0⟩ [] [] 0 0 0 0 0 0 0 0 rfl rfl rfl rfl (by unfold Wf; decide) 0 0 40 (by decide +kernel) (by decide +kernel) 0 0 rfl rfl (by decide) (by decide) A d hA w hp h
theorem nd_1 (A : Option Addr) (d : Nat) (hA : A = none → 1 = 0 ∧ d = 0) (w : World) (hp : Obs w) (h : IsR w A [(4294967297, 1)]) :
    Calls Tryd.prog 9 #[.agg #[.int .u8 4, .int .i64 2, .int .i64 1, .int .u8 1, .int .i64 0, .int .i64 0, .int .i64 3, .int .i64 0, .int .i64 1, .int .i64 0, .int .u64 131072, .int .u64 0], .slice A 1 d, .agg #[.int .u8 0, .int .u32 0, .int .u32 0, .int .u32 0]] w (OpenedP [] 0 0 2 0 w) :=
  pa_do cfP [(4294967297, 1)] [] 0 0 0 0 0 0 0 0 rfl rfl rfl rfl (by unfold Wf; decide) 0 0 2 (by decide +kernel) (by decide +kernel) 1 0 rfl rfl (by decide) (by decide) A d hA w hp h
theorem nd_2 (A : Option Addr) (d : Nat) (hA : A = none → 1 = 0 ∧ d = 0) (w : World) (hp : Obs w) (h : IsR w A [(4295032832, 1)]) :
    Calls Tryd.prog 9 #[.agg #[.int .u8 4, .int .i64 2, .int .i64 1, .int .u8 1, .int .i64 0, .int .i64 0, .int .i64 3, .int .i64 0, .int .i64 1, .int .i64 0, .int .u64 131072, .int .u64 0], .slice A 1 d, .agg #[.int .u8 0, .int .u32 0, .int .u32 0, .int .u32 0]] w (OpenedP [] 0 0 2 0 w) :=
  pa_do cfP [(4295032832, 1)] [] 0 0 0 0 0 0 0 0 rfl rfl rfl rfl (by unfold Wf; decide) 0 0 2 (by decide +kernel) (by decide +kernel) 1 0 rfl rfl (by decide) (by decide) A d hA w hp h
theorem nd_3 (A : Option Addr) (d : Nat) (hA : A = none → 1 = 0 ∧ d = 0) (w : World) (hp : Obs w) (h : IsR w A [(281474976710656, 1)]) :
    Calls Tryd.prog 9 #[.agg #[.int .u8 4, .int .i64 2, .int .i64 1, .int .u8 1, .int .i64 0, .int .i64 0, .int .i64 3, .int .i64 0, .int .i64 1, .int .i64 0, .int .u64 131072, .int .u64 0], .slice A 1 d, .agg #[.int .u8 0, .int .u32 0, .int .u32 0, .int .u32 0]] w (OpenedP [] 0 0 2 0 w) :=
  pa_do cfP [(281474976710656, 1)] [] 0 0 0 0 0 0 0 0 rfl rfl rfl rfl (by unfold Wf; decide) 0 0 2 (by decide +kernel) (by decide +kernel) 1 0 rfl rfl (by decide) (by decide) A d hA w hp h
theorem nd_4 (A : Option Addr) (d : Nat) (hA : A = none → 1 = 0 ∧ d = 0) (w : World) (hp : Obs w) (h : IsR w A [(4294967296, 2147483649)]) :
    Calls Tryd.prog 9 #[.agg #[.int .u8 4, .int .i64 2, .int .i64 1, .int .u8 1, .int .i64 0, .int .i64 0, .int .i64 3, .int .i64 0, .int .i64 1, .int .i64 0, .int .u64 131072, .int .u64 0], .slice A 1 d, .agg #[.int .u8 0, .int .u32 0, .int .u32 0, .int .u32 0]] w (OpenedP [] 0 0 2 0 w) :=
  pa_do cfP [(4294967296, 2147483649)] [] 0 0 0 0 0 0 0 0 rfl rfl rfl rfl (by unfold Wf; decide) 0 0 2 (by decide +kernel) (by decide +kernel) 1 0 rfl rfl (by decide) (by decide) A d hA w hp h
theorem nd_5 (A : Option Addr) (d : Nat) (hA : A = none → 1 = 0 ∧ d = 0) (w : World) (hp : Obs w) (h : IsR w A [(65536, 0)]) :
    Calls Tryd.prog 9 #[.agg #[.int .u8 4, .int .i64 2, .int .i64 1, .int .u8 1, .int .i64 0, .int .i64 0, .int .i64 3, .int .i64 0, .int .i64 1, .int .i64 0, .int .u64 131072, .int .u64 0], .slice A 1 d, .agg #[.int .u8 0, .int .u32 0, .int .u32 0, .int .u32 0]] w (OpenedP [] 0 0 2 0 w) :=
  pa_do cfP [(65536, 0)] [] 0 0 0 0 0 0 0 0 rfl rfl rfl rfl (by unfold Wf; decide) 0 0 2 (by decide +kernel) (by decide +kernel) 1 0 rfl rfl (by decide) (by decide) A d hA w hp h
theorem nd_6 (A : Option Addr) (d : Nat) (hA : A = none → 1 = 0 ∧ d = 0) (w : World) (hp : Obs w) (h : IsR w A [(4294967296, 1)]) :
    Calls Tryd.prog 9 #[.agg #[.int .u8 4, .int .i64 2, .int .i64 1, .int .u8 1, .int .i64 0, .int .i64 0, .int .i64 3, .int .i64 0, .int .i64 1, .int .i64 0, .int .u64 131072, .int .u64 0], .slice A 1 d, .agg #[.int .u8 14, .int .u32 2, .int .u32 0, .int .u32 0]] w (OpenedP [(4294967296, 1)] 6 0 0 1 w) :=
  pa_do cfP [(4294967296, 1)] [(4294967296, 1)] 14 2 0 0 14 2 0 0 rfl rfl rfl rfl (by unfold Wf; decide) 6 0 0 (by decide +kernel) (by decide +kernel) 1 1 rfl rfl (by decide) (by decide) A d hA w hp h
theorem nd_7 (A : Option Addr) (d : Nat) (hA : A = none → 1 = 0 ∧ d = 0) (w : World) (hp : Obs w) (h : IsR w A [(4294967296, 1)]) :
    Calls Tryd.prog 9 #[.agg #[.int .u8 4, .int .i64 2, .int .i64 1, .int .u8 1, .int .i64 0, .int .i64 0, .int .i64 3, .int .i64 0, .int .i64 1, .int .i64 0, .int .u64 131072, .int .u64 0], .slice A 1 d, .agg #[.int .u8 12, .int .u32 65537, .int .u32 1, .int .u32 2]] w (OpenedP [(4294967296, 1), (4295032832, 0), (4295032833, 3)] 0 0 0 3 w) :=
  pa_do cfP [(4294967296, 1)] [(4294967296, 1), (4295032832, 0), (4295032833, 3)] 12 65537 1 2 12 65537 1 2 rfl rfl rfl rfl (by unfold Wf; decide) 0 0 0 (by decide +kernel) (by decide +kernel) 1 3 rfl rfl (by decide) (by decide) A d hA w hp h

set_option maxRecDepth 20000 in
set_option maxHeartbeats 8000000 in
theorem walk (w : World) (hp : Obs w) : Calls Tryd.prog 3 #[] w (Ret (.bool true) w) := by
  have HPW := Lib.hid hp
  clear hp
  have HC := paconf_any
  unfold cfv cfP at HC
  replace HC := Lib.hid HC
  have HA := Lib.hid palive_any
  go_enter Tryd.func3, Tryd.ntmps3
  go_wp2_with fail
  obtain ⟨w0, hw0⟩ : ∃ X, X = w.alloc (.cells #[.int .u64 4294967296, .int .u64 1] 24) := ⟨_, rfl⟩
  obtain ⟨g, hg⟩ : ∃ g, w.heap.size = g := ⟨_, rfl⟩
  have hb0 : Below w.heap.size w w0 := by rw [hw0]; exact below_one _ _
  have HR := Lib.hid (show IsR w0 (some ⟨g, 0, none⟩) [(4294967296, 1)] by rw [hw0, ← hg]; exact isr_lit w _ [(4294967296, 1)] 1 rfl rfl (by decide))
  replace HPW := Lib.hid (HPW.out.below hb0)
  rw [← hw0]
  try rw [hg]
  have HG := Lib.hid hg
  clear hw0 hg
  have hb1 : Below w0.heap.size w0 w0 := Below.refl _ _
  refine (nd_0 none 0 (by simp) _ (HPW.out.below hb1) (IsL.nil _ _ _ _)).mono ?_
  rintro e q0 ⟨A0, d0, rfl, -, -, hb2⟩
  replace hb1 := below_then hb1 (below_then hb2 (below_one q0 (.cells #[.int .i64 0, .int .u32 0, .slice none 0 0] 29)))
  clear hb2
  go_wp2_with fail
  refine (HC.out _).mono ?_
  rintro e c1 ⟨rfl, hb2⟩
  replace hb1 := below_then hb1 hb2
  clear hb2
  go_wp2_with fail
  refine (nd_1 _ 1 (by simp) _ (HPW.out.below (below_then hb1 (below_one _ _))) (isr_lit _ _ [(4294967297, 1)] 1 rfl rfl (by decide))).mono ?_
  rintro e p0 ⟨B0, f0, rfl, -, -, hb2⟩
  replace hb1 := below_then (below_then (below_then hb1 (below_one _ _)) hb2) (below_one p0 (.cells #[.int .i64 0, .int .u32 0, .slice none 0 0] 29))
  clear hb2
  go_wp2_with fail
  refine (HC.out _).mono ?_
  rintro e c2 ⟨rfl, hb2⟩
  replace hb1 := below_then hb1 hb2
  clear hb2
  go_wp2_with fail
  refine (nd_2 _ 1 (by simp) _ (HPW.out.below (below_then hb1 (below_one _ _))) (isr_lit _ _ [(4295032832, 1)] 1 rfl rfl (by decide))).mono ?_
  rintro e p1 ⟨B1, f1, rfl, -, -, hb2⟩
  replace hb1 := below_then (below_then (below_then hb1 (below_one _ _)) hb2) (below_one p1 (.cells #[.int .i64 0, .int .u32 0, .slice none 0 0] 29))
  clear hb2
  go_wp2_with fail
  refine (HC.out _).mono ?_
  rintro e c3 ⟨rfl, hb2⟩
  replace hb1 := below_then hb1 hb2
  clear hb2
  go_wp2_with fail
  refine (nd_3 _ 1 (by simp) _ (HPW.out.below (below_then hb1 (below_one _ _))) (isr_lit _ _ [(281474976710656, 1)] 1 rfl rfl (by decide))).mono ?_
  rintro e p2 ⟨B2, f2, rfl, -, -, hb2⟩
  replace hb1 := below_then (below_then (below_then hb1 (below_one _ _)) hb2) (below_one p2 (.cells #[.int .i64 0, .int .u32 0, .slice none 0 0] 29))
  clear hb2
  go_wp2_with fail
  refine (HC.out _).mono ?_
  rintro e c4 ⟨rfl, hb2⟩
  replace hb1 := below_then hb1 hb2
  clear hb2
  go_wp2_with fail
  refine (nd_4 _ 1 (by simp) _ (HPW.out.below (below_then hb1 (below_one _ _))) (isr_lit _ _ [(4294967296, 2147483649)] 1 rfl rfl (by decide))).mono ?_
  rintro e p3 ⟨B3, f3, rfl, -, -, hb2⟩
  replace hb1 := below_then (below_then (below_then hb1 (below_one _ _)) hb2) (below_one p3 (.cells #[.int .i64 0, .int .u32 0, .slice none 0 0] 29))
  clear hb2
  go_wp2_with fail
  refine (HC.out _).mono ?_
  rintro e c5 ⟨rfl, hb2⟩
  replace hb1 := below_then hb1 hb2
  clear hb2
  go_wp2_with fail
  refine (nd_5 _ 1 (by simp) _ (HPW.out.below (below_then hb1 (below_one _ _))) (isr_lit _ _ [(65536, 0)] 1 rfl rfl (by decide))).mono ?_
  rintro e p4 ⟨B4, f4, rfl, -, -, hb2⟩
  replace hb1 := below_then (below_then (below_then hb1 (below_one _ _)) hb2) (below_one p4 (.cells #[.int .i64 0, .int .u32 0, .slice none 0 0] 29))
  clear hb2
  go_wp2_with fail
  refine (HC.out _).mono ?_
  rintro e c6 ⟨rfl, hb2⟩
  replace hb1 := below_then hb1 hb2
  clear hb2
  go_wp2_with fail
  refine (nd_6 (some ⟨g, 0, none⟩) 1 (by simp) _ (HPW.out.below hb1) (HR.out.below hb1)).mono ?_
  rintro e q6 ⟨A6, d6, rfl, hA6, hL6, hb2⟩
  have bb := below_then hb2 (below_one q6 (.cells #[.int .i64 6, .int .u32 0, .slice none 0 0] 29))
  have HL6 := Lib.hid (hL6.below (below_one q6 (.cells #[.int .i64 6, .int .u32 0, .slice none 0 0] 29)))
  have HA6 := Lib.hid hA6
  have HT6 := Lib.hid (heap_alloc_new q6 (.cells #[.int .i64 6, .int .u32 0, .slice none 0 0] 29))
  replace hb1 := below_then hb1 bb
  obtain ⟨W6, hW6⟩ : ∃ X, X = q6.alloc (.cells #[.int .i64 6, .int .u32 0, .slice none 0 0] 29) := ⟨_, rfl⟩
  obtain ⟨g6, hg6⟩ : ∃ X, q6.heap.size = X := ⟨_, rfl⟩
  rw [← hW6] at hb1 HL6 HT6
  rw [hg6] at HT6
  have HWW6 := Lib.hid hW6
  have HGG6 := Lib.hid hg6
  clear hb2 bb hA6 hL6 hW6 hg6
  go_wp2_with fail
  rw [← HWW6.out]
  try rw [HGG6.out]
  refine (HC.out _).mono ?_
  rintro e c7 ⟨rfl, hb2⟩
  replace HL6 := Lib.hid (HL6.out.below hb2)
  replace HT6 := Lib.hid ((hb2.block _ (Array.getElem?_eq_some_iff.1 HT6.out).1).trans HT6.out)
  replace hb1 := below_then hb1 hb2
  clear hb2
  go_wp2_with fail
  refine (nd_7 (some ⟨g, 0, none⟩) 1 (by simp) _ (HPW.out.below hb1) (HR.out.below hb1)).mono ?_
  rintro e q7 ⟨A7, d7, rfl, hA7, hL7, hb2⟩
  have bb := below_then hb2 (below_one q7 (.cells #[.int .i64 0, .int .u32 0, .slice none 0 0] 29))
  replace HL6 := Lib.hid (HL6.out.below bb)
  replace HT6 := Lib.hid ((bb.block _ (Array.getElem?_eq_some_iff.1 HT6.out).1).trans HT6.out)
  have HL7 := Lib.hid (hL7.below (below_one q7 (.cells #[.int .i64 0, .int .u32 0, .slice none 0 0] 29)))
  have HA7 := Lib.hid hA7
  have HT7 := Lib.hid (heap_alloc_new q7 (.cells #[.int .i64 0, .int .u32 0, .slice none 0 0] 29))
  replace hb1 := below_then hb1 bb
  obtain ⟨W7, hW7⟩ : ∃ X, X = q7.alloc (.cells #[.int .i64 0, .int .u32 0, .slice none 0 0] 29) := ⟨_, rfl⟩
  obtain ⟨g7, hg7⟩ : ∃ X, q7.heap.size = X := ⟨_, rfl⟩
  rw [← hW7] at hb1 HL6 HT6 HL7 HT7
  rw [hg7] at HT7
  have HWW7 := Lib.hid hW7
  have HGG7 := Lib.hid hg7
  clear hb2 bb hA7 hL7 hW7 hg7
  go_wp2_with fail
  rw [← HWW7.out]
  try rw [HGG7.out]
  refine (HA.out _ (HPW.out.below hb1)).mono ?_
  rintro e s0 ⟨rfl, hb2⟩
  replace HL6 := Lib.hid (HL6.out.below hb2)
  replace HT6 := Lib.hid ((hb2.block _ (Array.getElem?_eq_some_iff.1 HT6.out).1).trans HT6.out)
  replace HL7 := Lib.hid (HL7.out.below hb2)
  replace HT7 := Lib.hid ((hb2.block _ (Array.getElem?_eq_some_iff.1 HT7.out).1).trans HT7.out)
  replace hb1 := below_then hb1 hb2
  clear hb2
  obtain ⟨x60, -, x61, -, -, -⟩ := res_cells HT6.out
  obtain ⟨x70, -, x71, -, -, -⟩ := res_cells HT7.out
  go_wp2_with fail
  refine (rSameRows_any A6 (some ⟨g, 0, none⟩) [(4294967296, 1)] [(4294967296, 1)] d6 1 (by simp) _ HL6.out (HR.out.below hb1)).mono ?_
  rintro e s10 ⟨rfl, hb2⟩
  replace x70 := (hb2.cell (World.block_lt_of_cell? _ _ x70)).trans x70
  go_wp2
  go_ret
  exact Ret.mk (by simp) (below_then hb0 (below_then hb1 hb2))

set_option maxRecDepth 100000 in
theorem lifted (os : Os) (started : os.Started) (H : Type) (enc : TypeId × Value → H) :
    ReturnsInHanded {} Tryd.checked os 3 .any (fun w args => (Rows.pathsNamesSpec.pre enc Tryd.prog Tryd.f3 [] false w args ∧ laidMetH Tryd.prog laidL w) ∧ sizedMet enc Tryd.prog Tryd.f3 (OpenSpec.ofChange Rows.pathsNamesSpec) false w args)
      (Rows.pathsNamesSpec.post enc Tryd.prog Tryd.f3 false true false false) := by
  refine returnsInHanded_of_change_and (C := Tryd.checked) (X := fun w _ => laidMetH Tryd.prog laidL w) (fun _ _ _ hh h => h.of_heap hh) own started (by kernel_rfl) Tryd.func3
    (ChangeSpec.witness_shaped (enc := enc) (C := Tryd.checked) (os := os) (X := fun w _ => laidMetH Tryd.prog laidL w) false (World.doorLaid Tryd.prog 400 os) #[] 8 rfl (World.shaped_of_RefB (by kernel_rfl) (by kernel_rfl)) (by kernel_rfl) (by kernel_rfl) (by kernel_rfl) (door_met os _)) ?_
  intro W base args ds gs before hval0 hW _ _ hL _
  refine law_of laidOut (by kernel_rfl) (by kernel_rfl) Tryd.underlying4 rfl ?_ hW fun p hA => ?_
  · intro ds hd
    match ds, hd with
    | [], _ => rfl
  rw [Tryd.params3] at hA
  obtain ⟨hargs, rfl, rfl⟩ := trodAll_nil hA
  obtain rfl : args = #[] := by cases args; simp_all
  exact walk W (of_laid hL)

theorem row : Rows.PathsNamesSaid :=
  OpenClaim.holds_of_wide 3 Tryd.f3 rfl rfl rfl rfl rfl rfl rfl ⟨rfl, rfl, rfl, rfl, rfl⟩ rfl rfl rfl rfl rfl (by kernel_rfl) Tryd.func3 (by kernel_rfl)
    (of_decide_eq_true (by kernel_rfl)) (by unfold Func.isWrapper; first | (rw [if_pos (by decide +kernel)]; kernel_rfl) | (rw [if_neg (by decide +kernel)]; exact ⟨rfl, rfl⟩))
    (fun os started H enc _ => lifted os started H enc)

theorem card : Rows.PathsNamesCardSaid :=
  Claim7.holds_tied_plain_at .later [] [.data] true Rows.pathsNamesCard.stood.harness false
    row (fun _ h => by cases h) (by kernel_rfl) (fun _ h => by cases h) pathsNames_row_tie rfl ⟨rfl, rfl⟩ (by kernel_rfl) rfl
    (fun f fn hf hfn => by
      obtain rfl : f = 3 := Option.some.inj ((show Tryd.prog.funcNamed "bascule/basculelaw09.PathsNames" = some 3 by kernel_rfl).symm.trans hf) |>.symm
      obtain rfl : fn = Tryd.f3 := (Option.some.inj (Tryd.func3.symm.trans hfn)).symm
      exact ⟨by kernel_rfl, fun j t ht => by
        rw [Tryd.params3] at ht
        simp at ht⟩)
    (by kernel_rfl)
#print axioms card

end Go.Proofs.YtljdkjjjnlcflaaDoor.pathsNames
