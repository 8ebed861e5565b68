/- More examples of rules, of errors: what is refused, and what does not fit, on rows written out. Condition: the table of objects holds at the call's start what the program's text lays there (the tied card). -/
import Derived.Test.YtfkkeokmkhjpfaaDoorRuLive
import Derived.Test.YtfkkeokmkhjpfaaDoorObLaid
import Derived.Test.YtfkkeokmkhjpfaaDoorLaw
namespace Go.Proofs.YtfkkeokmkhjpfaaDoor.rulesNames
open Go.ChangeShapes Go.WideShapes Go.ChangeAt Go.RowKit Go.Lib Tb Pt Opn

theorem n_do (c : Cf) (l rows : List R) (k a b e : Nat) (kz az bz ez : Int) (hk : (k : Int) = kz) (ha : (a : Int) = az) (hb : (b : Int) = bz) (hc : (e : Int) = ez) (ho : Wf ⟨k, a, b, e⟩) (x y er : Int) (hg : doUR c l ⟨k, a, b, e⟩ = (rows, x, y)) (he : doUE c l = er) (n m : Nat) (hn : l.length = n) (hm : rows.length = m) (hl : n ≤ 1000) (hw : ∀ x ∈ l, x.1 < 18446744073709551616) (A : Option Addr) (d : Nat) (hA : A = none → n = 0 ∧ d = 0) (w : World) (hp : Obs w) (h : IsR w A l) :
    Calls Tryd.prog 9 #[cfv c, .slice A n d, .agg #[.int .u8 kz, .int .u32 az, .int .u32 bz, .int .u32 ez]] w (OpenedU rows x y er m w) := by
  subst hk ha hb hc
  exact udo_open c A l d ⟨k, a, b, e⟩ ho (by rw [hn]; exact hA) (by omega) hw rows x y er hg he n m hn hm w hp h

theorem nd_0 (A : Option Addr) (d : Nat) (hA : A = none → 0 = 0 ∧ d = 0) (w : World) (hp : Obs w) (h : IsR w A []) :
    Calls Tryd.prog 9 #[.agg #[.int .u8 0, .int .i64 0, .int .i64 0, .int .u8 0, .int .i64 0, .int .i64 0, .int .i64 0, .int .i64 0, .int .i64 0, .int .i64 0, .int .u64 0, .int .u64 0], .slice A 0 d, .agg #[.int .u8 0, .int .u32 0, .int .u32 0, .int .u32 0]] w (OpenedU [] 0 0 40 0 w) :=
  n_do ⟨0, 0, 0, 0, 0, 0, 0, 0, 0, 0, 0, 0⟩ [] [] 0 0 0 0 0 0 0 0 rfl rfl rfl rfl (by unfold Wf; decide) 0 0 40 (by decide +kernel) (by decide +kernel) 0 0 rfl rfl (by decide) (by decide) A d hA w hp h
theorem nd_1 (A : Option Addr) (d : Nat) (hA : A = none → 1 = 0 ∧ d = 0) (w : World) (hp : Obs w) (h : IsR w A [(1, 3)]) :
    Calls Tryd.prog 9 #[.agg #[.int .u8 3, .int .i64 2, .int .i64 1, .int .u8 1, .int .i64 0, .int .i64 0, .int .i64 3, .int .i64 0, .int .i64 1, .int .i64 0, .int .u64 131072, .int .u64 0], .slice A 1 d, .agg #[.int .u8 0, .int .u32 0, .int .u32 0, .int .u32 0]] w (OpenedU [] 0 0 2 0 w) :=
  n_do cfU [(1, 3)] [] 0 0 0 0 0 0 0 0 rfl rfl rfl rfl (by unfold Wf; decide) 0 0 2 (by decide +kernel) (by decide +kernel) 1 0 rfl rfl (by decide) (by decide) A d hA w hp h
theorem nd_2 (A : Option Addr) (d : Nat) (hA : A = none → 1 = 0 ∧ d = 0) (w : World) (hp : Obs w) (h : IsR w A [(4294967296, 1)]) :
    Calls Tryd.prog 9 #[.agg #[.int .u8 3, .int .i64 2, .int .i64 1, .int .u8 1, .int .i64 0, .int .i64 0, .int .i64 3, .int .i64 0, .int .i64 1, .int .i64 0, .int .u64 131072, .int .u64 0], .slice A 1 d, .agg #[.int .u8 0, .int .u32 0, .int .u32 0, .int .u32 0]] w (OpenedU [] 0 0 2 0 w) :=
  n_do cfU [(4294967296, 1)] [] 0 0 0 0 0 0 0 0 rfl rfl rfl rfl (by unfold Wf; decide) 0 0 2 (by decide +kernel) (by decide +kernel) 1 0 rfl rfl (by decide) (by decide) A d hA w hp h
theorem nd_3 (A : Option Addr) (d : Nat) (hA : A = none → 2 = 0 ∧ d = 0) (w : World) (hp : Obs w) (h : IsR w A [(1, 1), (0, 1)]) :
    Calls Tryd.prog 9 #[.agg #[.int .u8 3, .int .i64 2, .int .i64 1, .int .u8 1, .int .i64 0, .int .i64 0, .int .i64 3, .int .i64 0, .int .i64 1, .int .i64 0, .int .u64 131072, .int .u64 0], .slice A 2 d, .agg #[.int .u8 0, .int .u32 0, .int .u32 0, .int .u32 0]] w (OpenedU [] 0 0 2 0 w) :=
  n_do cfU [(1, 1), (0, 1)] [] 0 0 0 0 0 0 0 0 rfl rfl rfl rfl (by unfold Wf; decide) 0 0 2 (by decide +kernel) (by decide +kernel) 2 0 rfl rfl (by decide) (by decide) A d hA w hp h
theorem nd_4 (A : Option Addr) (d : Nat) (hA : A = none → 1 = 0 ∧ d = 0) (w : World) (hp : Obs w) (h : IsR w A [(1, 0)]) :
    Calls Tryd.prog 9 #[.agg #[.int .u8 3, .int .i64 2, .int .i64 1, .int .u8 1, .int .i64 0, .int .i64 0, .int .i64 3, .int .i64 0, .int .i64 1, .int .i64 0, .int .u64 131072, .int .u64 0], .slice A 1 d, .agg #[.int .u8 0, .int .u32 0, .int .u32 0, .int .u32 0]] w (OpenedU [] 0 0 2 0 w) :=
  n_do cfU [(1, 0)] [] 0 0 0 0 0 0 0 0 rfl rfl rfl rfl (by unfold Wf; decide) 0 0 2 (by decide +kernel) (by decide +kernel) 1 0 rfl rfl (by decide) (by decide) A d hA w hp h
theorem nd_5 (A : Option Addr) (d : Nat) (hA : A = none → 1 = 0 ∧ d = 0) (w : World) (hp : Obs w) (h : IsR w A [(65536, 1)]) :
    Calls Tryd.prog 9 #[.agg #[.int .u8 3, .int .i64 2, .int .i64 1, .int .u8 1, .int .i64 0, .int .i64 0, .int .i64 3, .int .i64 0, .int .i64 1, .int .i64 0, .int .u64 131072, .int .u64 0], .slice A 1 d, .agg #[.int .u8 12, .int .u32 1, .int .u32 0, .int .u32 0]] w (OpenedU [(65536, 1)] 50 0 0 1 w) :=
  n_do cfU [(65536, 1)] [(65536, 1)] 12 1 0 0 12 1 0 0 rfl rfl rfl rfl (by unfold Wf; decide) 50 0 0 (by decide +kernel) (by decide +kernel) 1 1 rfl rfl (by decide) (by decide) A d hA w hp h
theorem nd_6 (A : Option Addr) (d : Nat) (hA : A = none → 1 = 0 ∧ d = 0) (w : World) (hp : Obs w) (h : IsR w A [(65536, 1)]) :
    Calls Tryd.prog 9 #[.agg #[.int .u8 3, .int .i64 2, .int .i64 1, .int .u8 1, .int .i64 0, .int .i64 0, .int .i64 3, .int .i64 0, .int .i64 1, .int .i64 0, .int .u64 131072, .int .u64 0], .slice A 1 d, .agg #[.int .u8 11, .int .u32 1, .int .u32 0, .int .u32 0]] w (OpenedU [(65536, 1)] 10 0 0 1 w) :=
  n_do cfU [(65536, 1)] [(65536, 1)] 11 1 0 0 11 1 0 0 rfl rfl rfl rfl (by unfold Wf; decide) 10 0 0 (by decide +kernel) (by decide +kernel) 1 1 rfl rfl (by decide) (by decide) A d hA w hp h

set_option maxRecDepth 20000 in
set_option maxHeartbeats 8000000 in
theorem walk (w : World) (hp : Obs w) : Calls Tryd.prog 3 #[] w (Ret (.bool true) w) := by
  have HP := Lib.hid hp
  clear hp
  have HC := uconf_any
  unfold cfv cfU at HC
  replace HC := Lib.hid HC
  have HA := Lib.hid ualive_any
  go_enter Tryd.func3, Tryd.ntmps3
  go_wp2_with fail
  obtain ⟨w0, hw0⟩ : ∃ X, X = w.alloc (.cells #[.int .u64 65536, .int .u64 1] 24) := ⟨_, rfl⟩
  obtain ⟨g, hg⟩ : ∃ g, w.heap.size = g := ⟨_, rfl⟩
  have hb0 : Below w.heap.size w w0 := by rw [hw0]; exact below_one _ _
  have HR := Lib.hid (show IsR w0 (some ⟨g, 0, none⟩) [(65536, 1)] by rw [hw0, ← hg]; exact isr_lit w _ [(65536, 1)] 1 rfl rfl (by decide))
  have HPW := Lib.hid (HP.out.below hb0)
  rw [← hw0]
  try rw [hg]
  have HG := Lib.hid hg
  clear hw0 hg
  have hb1 : Below w0.heap.size w0 w0 := Below.refl _ _
  refine (nd_0 none 0 (by simp) _ (HPW.out.below hb1) (IsL.nil _ _ _ _)).mono ?_
  rintro e q0 ⟨A0, d0, rfl, -, -, hb2⟩
  replace hb1 := below_then hb1 (below_then hb2 (below_one q0 (.cells #[.int .i64 0, .int .u32 0, .slice none 0 0] 29)))
  clear hb2
  go_wp2_with fail
  refine (HC.out _).mono ?_
  rintro e c0 ⟨rfl, hb2⟩
  replace hb1 := below_then hb1 hb2
  clear hb2
  go_wp2_with fail
  refine (nd_1 _ 1 (by simp) _ (HPW.out.below (below_then hb1 (below_one _ _))) (isr_lit _ _ [(1, 3)] 1 rfl rfl (by decide))).mono ?_
  rintro e p0 ⟨B0, f0, rfl, -, -, hb2⟩
  replace hb1 := below_then (below_then (below_then hb1 (below_one _ _)) hb2) (below_one p0 (.cells #[.int .i64 0, .int .u32 0, .slice none 0 0] 29))
  clear hb2
  go_wp2_with fail
  refine (HC.out _).mono ?_
  rintro e c1 ⟨rfl, hb2⟩
  replace hb1 := below_then hb1 hb2
  clear hb2
  go_wp2_with fail
  refine (nd_2 _ 1 (by simp) _ (HPW.out.below (below_then hb1 (below_one _ _))) (isr_lit _ _ [(4294967296, 1)] 1 rfl rfl (by decide))).mono ?_
  rintro e p1 ⟨B1, f1, rfl, -, -, hb2⟩
  replace hb1 := below_then (below_then (below_then hb1 (below_one _ _)) hb2) (below_one p1 (.cells #[.int .i64 0, .int .u32 0, .slice none 0 0] 29))
  clear hb2
  go_wp2_with fail
  refine (HC.out _).mono ?_
  rintro e c2 ⟨rfl, hb2⟩
  replace hb1 := below_then hb1 hb2
  clear hb2
  go_wp2_with fail
  refine (nd_3 _ 2 (by simp) _ (HPW.out.below (below_then hb1 (below_one _ _))) (isr_lit _ _ [(1, 1), (0, 1)] 2 rfl rfl (by decide))).mono ?_
  rintro e p2 ⟨B2, f2, rfl, -, -, hb2⟩
  replace hb1 := below_then (below_then (below_then hb1 (below_one _ _)) hb2) (below_one p2 (.cells #[.int .i64 0, .int .u32 0, .slice none 0 0] 29))
  clear hb2
  go_wp2_with fail
  refine (HC.out _).mono ?_
  rintro e c3 ⟨rfl, hb2⟩
  replace hb1 := below_then hb1 hb2
  clear hb2
  go_wp2_with fail
  refine (nd_4 _ 1 (by simp) _ (HPW.out.below (below_then hb1 (below_one _ _))) (isr_lit _ _ [(1, 0)] 1 rfl rfl (by decide))).mono ?_
  rintro e p3 ⟨B3, f3, rfl, -, -, hb2⟩
  replace hb1 := below_then (below_then (below_then hb1 (below_one _ _)) hb2) (below_one p3 (.cells #[.int .i64 0, .int .u32 0, .slice none 0 0] 29))
  clear hb2
  go_wp2_with fail
  refine (HC.out _).mono ?_
  rintro e c5 ⟨rfl, hb2⟩
  replace hb1 := below_then hb1 hb2
  clear hb2
  go_wp2_with fail
  refine (nd_5 (some ⟨g, 0, none⟩) 1 (by simp) _ (HPW.out.below hb1) (HR.out.below hb1)).mono ?_
  rintro e q5 ⟨A5, d5, rfl, hA5, hL5, hb2⟩
  have HL5 := Lib.hid (hL5.below (below_one q5 (.cells #[.int .i64 50, .int .u32 0, .slice none 0 0] 29)))
  have HT5 := Lib.hid (heap_alloc_new q5 (.cells #[.int .i64 50, .int .u32 0, .slice none 0 0] 29))
  replace hb1 := below_then hb1 (below_then hb2 (below_one q5 (.cells #[.int .i64 50, .int .u32 0, .slice none 0 0] 29)))
  clear hb2 hL5 hA5
  go_wp2_with fail
  refine (HC.out _).mono ?_
  rintro e c6 ⟨rfl, hb2⟩
  replace HL5 := Lib.hid (HL5.out.below hb2)
  replace HT5 := Lib.hid ((hb2.block _ (Array.getElem?_eq_some_iff.1 HT5.out).1).trans HT5.out)
  replace hb1 := below_then hb1 hb2
  clear hb2
  go_wp2_with fail
  refine (nd_6 (some ⟨g, 0, none⟩) 1 (by simp) _ (HPW.out.below hb1) (HR.out.below hb1)).mono ?_
  rintro e q6 ⟨A6, d6, rfl, -, -, hb2⟩
  have bb := below_then hb2 (below_one q6 (.cells #[.int .i64 10, .int .u32 0, .slice none 0 0] 29))
  replace HL5 := Lib.hid (HL5.out.below bb)
  replace HT5 := Lib.hid ((bb.block _ (Array.getElem?_eq_some_iff.1 HT5.out).1).trans HT5.out)
  have HT6 := Lib.hid (heap_alloc_new q6 (.cells #[.int .i64 10, .int .u32 0, .slice none 0 0] 29))
  replace hb1 := below_then hb1 bb
  clear hb2 bb
  go_wp2_with fail
  refine (HA.out _ (HPW.out.below hb1)).mono ?_
  rintro e s0 ⟨rfl, hb2⟩
  replace HL5 := Lib.hid (HL5.out.below hb2)
  replace HT5 := Lib.hid ((hb2.block _ (Array.getElem?_eq_some_iff.1 HT5.out).1).trans HT5.out)
  replace HT6 := Lib.hid ((hb2.block _ (Array.getElem?_eq_some_iff.1 HT6.out).1).trans HT6.out)
  replace hb1 := below_then hb1 hb2
  clear hb2
  obtain ⟨x50, -, -, -, -, -⟩ := res_cells HT5.out
  obtain ⟨x60, -, -, -, -, -⟩ := res_cells HT6.out
  go_wp2_with fail
  refine (rSameRows_any A5 (some ⟨g, 0, none⟩) [(65536, 1)] [(65536, 1)] d5 1 (by simp) _ HL5.out (HR.out.below hb1)).mono ?_
  rintro e s10 ⟨rfl, hb2⟩
  replace x60 := (hb2.cell (World.block_lt_of_cell? _ _ x60)).trans x60
  go_wp2
  go_ret
  exact Ret.mk (by simp) (below_then hb0 (below_then hb1 hb2))

set_option maxRecDepth 100000 in
theorem lifted (os : Os) (started : os.Started) (H : Type) (enc : TypeId × Value → H) :
    ReturnsInHanded {} Tryd.checked os 3 .any (fun w args => (Rows.rulesNamesSpec.pre enc Tryd.prog Tryd.f3 [] false w args ∧ laidMetH Tryd.prog laidL w) ∧ sizedMet enc Tryd.prog Tryd.f3 (OpenSpec.ofChange Rows.rulesNamesSpec) false w args)
      (Rows.rulesNamesSpec.post enc Tryd.prog Tryd.f3 false true false false) := by
  refine returnsInHanded_of_change_and (C := Tryd.checked) (X := fun w _ => laidMetH Tryd.prog laidL w) (fun _ _ _ hh h => h.of_heap hh) own started (by kernel_rfl) Tryd.func3
    (ChangeSpec.witness_shaped (enc := enc) (C := Tryd.checked) (os := os) (X := fun w _ => laidMetH Tryd.prog laidL w) false (World.doorLaid Tryd.prog 400 os) #[] 8 rfl (World.shaped_of_RefB (by kernel_rfl) (by kernel_rfl)) (by kernel_rfl) (by kernel_rfl) (by kernel_rfl) (door_met os _)) ?_
  intro W base args ds gs before hval0 hW _ _ hL _
  refine law_of laidOut (by kernel_rfl) (by kernel_rfl) Tryd.underlying4 rfl ?_ hW fun p hA => ?_
  · intro ds hd
    match ds, hd with
    | [], _ => rfl
  rw [Tryd.params3] at hA
  obtain ⟨hargs, rfl, rfl⟩ := trodAll_nil hA
  obtain rfl : args = #[] := by cases args; simp_all
  exact walk W (of_laid hL)

theorem row : Rows.RulesNamesSaid :=
  OpenClaim.holds_of_wide 3 Tryd.f3 rfl rfl rfl rfl rfl rfl rfl ⟨rfl, rfl, rfl, rfl, rfl⟩ rfl rfl rfl rfl rfl (by kernel_rfl) Tryd.func3 (by kernel_rfl)
    (of_decide_eq_true (by kernel_rfl)) (by unfold Func.isWrapper; first | (rw [if_pos (by decide +kernel)]; kernel_rfl) | (rw [if_neg (by decide +kernel)]; exact ⟨rfl, rfl⟩))
    (fun os started H enc _ => lifted os started H enc)

theorem card : Rows.RulesNamesCardSaid :=
  Claim7.holds_tied_plain_at .later [] [.data] true Rows.rulesNamesCard.stood.harness false
    row (fun _ h => by cases h) (by kernel_rfl) (fun _ h => by cases h) rulesNames_row_tie rfl ⟨rfl, rfl⟩ (by kernel_rfl) rfl
    (fun f fn hf hfn => by
      obtain rfl : f = 3 := Option.some.inj ((show Tryd.prog.funcNamed "bascule/basculelaw08.RulesNames" = some 3 by kernel_rfl).symm.trans hf) |>.symm
      obtain rfl : fn = Tryd.f3 := (Option.some.inj (Tryd.func3.symm.trans hfn)).symm
      exact ⟨by kernel_rfl, fun j t ht => by
        rw [Tryd.params3] at ht
        simp at ht⟩)
    (by kernel_rfl)
#print axioms card

end Go.Proofs.YtfkkeokmkhjpfaaDoor.rulesNames
