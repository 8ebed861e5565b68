/- The statements' own examples of a tree of settings, played. -/
import Derived.Test.YtljdkjjjnlcflaaDoorPaAns
import Derived.Test.YtljdkjjjnlcflaaDoorTbGen
namespace Go.Proofs.YtljdkjjjnlcflaaDoor
open Go.RowKit Go.Lib Tb Pt Opn

theorem pa_do (c : Cf) (l rows : List R) (k a b e : Nat) (kz az bz ez : Int) (hk : (k : Int) = kz) (ha : (a : Int) = az) (hb : (b : Int) = bz) (hc : (e : Int) = ez) (ho : Wf ⟨k, a, b, e⟩) (x y er : Int) (hg : doPR c l ⟨k, a, b, e⟩ = (rows, x, y)) (he : doPE c l = er) (n m : Nat) (hn : l.length = n) (hm : rows.length = m) (hl : n ≤ 1000) (hw : ∀ x ∈ l, x.1 < 18446744073709551616) (A : Option Addr) (d : Nat) (hA : A = none → n = 0 ∧ d = 0) (w : World) (hp : Obs w) (h : IsR w A l) :
    Calls Tryd.prog 9 #[cfv c, .slice A n d, .agg #[.int .u8 kz, .int .u32 az, .int .u32 bz, .int .u32 ez]] w (OpenedP rows x y er m w) := by
  subst hk ha hb hc
  exact pado_open c A l d ⟨k, a, b, e⟩ ho (by rw [hn]; exact hA) (by omega) hw rows x y er hg he n m hn hm w hp h
theorem pd_0 (A : Option Addr) (d : Nat) (hA : A = none → 0 = 0 ∧ d = 0) (w : World) (hp : Obs w) (h : IsR w A []) :
    Calls Tryd.prog 9 #[.agg #[.int .u8 4, .int .i64 2, .int .i64 1, .int .u8 1, .int .i64 0, .int .i64 0, .int .i64 3, .int .i64 0, .int .i64 1, .int .i64 0, .int .u64 131072, .int .u64 0], .slice A 0 d, .agg #[.int .u8 12, .int .u32 131073, .int .u32 0, .int .u32 7]] w (OpenedP [(4294967296, 0), (4295098368, 8)] 0 0 0 2 w) :=
  pa_do cfP [] [(4294967296, 0), (4295098368, 8)] 12 131073 0 7 12 131073 0 7 rfl rfl rfl rfl (by unfold Wf; decide) 0 0 0 (by decide +kernel) (by decide +kernel) 0 2 rfl rfl (by decide) (by decide) A d hA w hp h
theorem pd_1 (A : Option Addr) (d : Nat) (hA : A = none → 2 = 0 ∧ d = 0) (w : World) (hp : Obs w) (h : IsR w A [(4294967296, 0), (4295098368, 8)]) :
    Calls Tryd.prog 9 #[.agg #[.int .u8 4, .int .i64 2, .int .i64 1, .int .u8 1, .int .i64 0, .int .i64 0, .int .i64 3, .int .i64 0, .int .i64 1, .int .i64 0, .int .u64 131072, .int .u64 0], .slice A 2 d, .agg #[.int .u8 14, .int .u32 131073, .int .u32 0, .int .u32 0]] w (OpenedP [(4294967296, 0), (4295098368, 8)] 0 8 0 2 w) :=
  pa_do cfP [(4294967296, 0), (4295098368, 8)] [(4294967296, 0), (4295098368, 8)] 14 131073 0 0 14 131073 0 0 rfl rfl rfl rfl (by unfold Wf; decide) 0 8 0 (by decide +kernel) (by decide +kernel) 2 2 rfl rfl (by decide) (by decide) A d hA w hp h
theorem pd_2 (A : Option Addr) (d : Nat) (hA : A = none → 2 = 0 ∧ d = 0) (w : World) (hp : Obs w) (h : IsR w A [(4294967296, 0), (4295098368, 8)]) :
    Calls Tryd.prog 9 #[.agg #[.int .u8 4, .int .i64 2, .int .i64 1, .int .u8 1, .int .i64 0, .int .i64 0, .int .i64 3, .int .i64 0, .int .i64 1, .int .i64 0, .int .u64 131072, .int .u64 0], .slice A 2 d, .agg #[.int .u8 14, .int .u32 1, .int .u32 0, .int .u32 0]] w (OpenedP [(4294967296, 0), (4295098368, 8)] 6 0 0 2 w) :=
  pa_do cfP [(4294967296, 0), (4295098368, 8)] [(4294967296, 0), (4295098368, 8)] 14 1 0 0 14 1 0 0 rfl rfl rfl rfl (by unfold Wf; decide) 6 0 0 (by decide +kernel) (by decide +kernel) 2 2 rfl rfl (by decide) (by decide) A d hA w hp h
theorem pd_3 (A : Option Addr) (d : Nat) (hA : A = none → 2 = 0 ∧ d = 0) (w : World) (hp : Obs w) (h : IsR w A [(4294967296, 0), (4295098368, 8)]) :
    Calls Tryd.prog 9 #[.agg #[.int .u8 4, .int .i64 2, .int .i64 1, .int .u8 1, .int .i64 0, .int .i64 0, .int .i64 3, .int .i64 0, .int .i64 1, .int .i64 0, .int .u64 131072, .int .u64 0], .slice A 2 d, .agg #[.int .u8 12, .int .u32 262147, .int .u32 0, .int .u32 0]] w (OpenedP [(4294967296, 0), (4295098368, 8)] 9 0 0 2 w) :=
  pa_do cfP [(4294967296, 0), (4295098368, 8)] [(4294967296, 0), (4295098368, 8)] 12 262147 0 0 12 262147 0 0 rfl rfl rfl rfl (by unfold Wf; decide) 9 0 0 (by decide +kernel) (by decide +kernel) 2 2 rfl rfl (by decide) (by decide) A d hA w hp h
theorem pd_4 (A : Option Addr) (d : Nat) (hA : A = none → 2 = 0 ∧ d = 0) (w : World) (hp : Obs w) (h : IsR w A [(4294967296, 0), (4295098368, 8)]) :
    Calls Tryd.prog 9 #[.agg #[.int .u8 4, .int .i64 2, .int .i64 1, .int .u8 1, .int .i64 0, .int .i64 0, .int .i64 3, .int .i64 0, .int .i64 1, .int .i64 0, .int .u64 131072, .int .u64 0], .slice A 2 d, .agg #[.int .u8 12, .int .u32 1, .int .u32 0, .int .u32 5]] w (OpenedP [(4294967296, 6), (4295098368, 8)] 0 0 0 2 w) :=
  pa_do cfP [(4294967296, 0), (4295098368, 8)] [(4294967296, 6), (4295098368, 8)] 12 1 0 5 12 1 0 5 rfl rfl rfl rfl (by unfold Wf; decide) 0 0 0 (by decide +kernel) (by decide +kernel) 2 2 rfl rfl (by decide) (by decide) A d hA w hp h
theorem pd_5 (A : Option Addr) (d : Nat) (hA : A = none → 2 = 0 ∧ d = 0) (w : World) (hp : Obs w) (h : IsR w A [(4294967296, 6), (4295098368, 8)]) :
    Calls Tryd.prog 9 #[.agg #[.int .u8 4, .int .i64 2, .int .i64 1, .int .u8 1, .int .i64 0, .int .i64 0, .int .i64 3, .int .i64 0, .int .i64 1, .int .i64 0, .int .u64 131072, .int .u64 0], .slice A 2 d, .agg #[.int .u8 13, .int .u32 1, .int .u32 0, .int .u32 0]] w (OpenedP [(4294967296, 6), (4295098368, 8)] 90 0 0 2 w) :=
  pa_do cfP [(4294967296, 6), (4295098368, 8)] [(4294967296, 6), (4295098368, 8)] 13 1 0 0 13 1 0 0 rfl rfl rfl rfl (by unfold Wf; decide) 90 0 0 (by decide +kernel) (by decide +kernel) 2 2 rfl rfl (by decide) (by decide) A d hA w hp h
theorem pd_6 (A : Option Addr) (d : Nat) (hA : A = none → 2 = 0 ∧ d = 0) (w : World) (hp : Obs w) (h : IsR w A [(4294967296, 6), (4295098368, 8)]) :
    Calls Tryd.prog 9 #[.agg #[.int .u8 4, .int .i64 2, .int .i64 1, .int .u8 1, .int .i64 0, .int .i64 0, .int .i64 3, .int .i64 0, .int .i64 1, .int .i64 0, .int .u64 131072, .int .u64 0], .slice A 2 d, .agg #[.int .u8 13, .int .u32 131073, .int .u32 0, .int .u32 0]] w (OpenedP [(4294967296, 6)] 0 8 0 1 w) :=
  pa_do cfP [(4294967296, 6), (4295098368, 8)] [(4294967296, 6)] 13 131073 0 0 13 131073 0 0 rfl rfl rfl rfl (by unfold Wf; decide) 0 8 0 (by decide +kernel) (by decide +kernel) 2 1 rfl rfl (by decide) (by decide) A d hA w hp h
theorem pd_7 (A : Option Addr) (d : Nat) (hA : A = none → 1 = 0 ∧ d = 0) (w : World) (hp : Obs w) (h : IsR w A [(4294967296, 6)]) :
    Calls Tryd.prog 9 #[.agg #[.int .u8 4, .int .i64 2, .int .i64 1, .int .u8 1, .int .i64 0, .int .i64 0, .int .i64 3, .int .i64 0, .int .i64 1, .int .i64 0, .int .u64 131072, .int .u64 0], .slice A 1 d, .agg #[.int .u8 13, .int .u32 1, .int .u32 0, .int .u32 0]] w (OpenedP [] 0 6 0 0 w) :=
  pa_do cfP [(4294967296, 6)] [] 13 1 0 0 13 1 0 0 rfl rfl rfl rfl (by unfold Wf; decide) 0 6 0 (by decide +kernel) (by decide +kernel) 1 0 rfl rfl (by decide) (by decide) A d hA w hp h

set_option maxRecDepth 20000 in
set_option maxHeartbeats 8000000 in
theorem palive_any (w : World) (hp : Obs w) : Calls Tryd.prog 11 #[] w (Ret (.bool true) w) := by
  have HPW := Lib.hid hp
  clear hp
  have HC := paconf_any
  unfold cfv cfP at HC
  replace HC := Lib.hid HC
  go_enter Tryd.func11, Tryd.ntmps11
  go_wp2_with fail
  have hb1 : Below w.heap.size w w := Below.refl _ _
  refine (HC.out _).mono ?_
  rintro e c1 ⟨rfl, hb2⟩
  replace hb1 := below_then hb1 hb2
  clear hb2
  go_wp2_with fail
  refine (pd_0 none 0 (by simp) _ (HPW.out.below hb1) (IsL.nil _ _ _ _)).mono ?_
  rintro e q0 ⟨A0, d0, rfl, hA0, hL0, hb2⟩
  have bb := below_then hb2 (below_one q0 (.cells #[.int .i64 0, .int .u32 0, .slice none 0 0] 29))
  have HL0 := Lib.hid (hL0.below (below_one q0 (.cells #[.int .i64 0, .int .u32 0, .slice none 0 0] 29)))
  have HA0 := Lib.hid hA0
  have HT0 := Lib.hid (heap_alloc_new q0 (.cells #[.int .i64 0, .int .u32 0, .slice none 0 0] 29))
  replace hb1 := below_then hb1 bb
  obtain ⟨W0, hW0⟩ : ∃ X, X = q0.alloc (.cells #[.int .i64 0, .int .u32 0, .slice none 0 0] 29) := ⟨_, rfl⟩
  obtain ⟨g0, hg0⟩ : ∃ X, q0.heap.size = X := ⟨_, rfl⟩
  rw [← hW0] at hb1 HL0 HT0
  rw [hg0] at HT0
  have HWW0 := Lib.hid hW0
  have HGG0 := Lib.hid hg0
  clear hb2 bb hA0 hL0 hW0 hg0
  go_wp2_with fail
  rw [← HWW0.out]
  try rw [HGG0.out]
  refine (HC.out _).mono ?_
  rintro e c2 ⟨rfl, hb2⟩
  replace HL0 := Lib.hid (HL0.out.below hb2)
  replace HT0 := Lib.hid ((hb2.block _ (Array.getElem?_eq_some_iff.1 HT0.out).1).trans HT0.out)
  replace hb1 := below_then hb1 hb2
  clear hb2
  go_wp2_with fail
  refine (pd_1 A0 d0 HA0.out _ (HPW.out.below hb1) HL0.out).mono ?_
  rintro e q1 ⟨A1, d1, rfl, hA1, hL1, hb2⟩
  have bb := below_then hb2 (below_one q1 (.cells #[.int .i64 0, .int .u32 8, .slice none 0 0] 29))
  replace HL0 := Lib.hid (HL0.out.below bb)
  replace HT0 := Lib.hid ((bb.block _ (Array.getElem?_eq_some_iff.1 HT0.out).1).trans HT0.out)
  have HL1 := Lib.hid (hL1.below (below_one q1 (.cells #[.int .i64 0, .int .u32 8, .slice none 0 0] 29)))
  have HA1 := Lib.hid hA1
  have HT1 := Lib.hid (heap_alloc_new q1 (.cells #[.int .i64 0, .int .u32 8, .slice none 0 0] 29))
  replace hb1 := below_then hb1 bb
  obtain ⟨W1, hW1⟩ : ∃ X, X = q1.alloc (.cells #[.int .i64 0, .int .u32 8, .slice none 0 0] 29) := ⟨_, rfl⟩
  obtain ⟨g1, hg1⟩ : ∃ X, q1.heap.size = X := ⟨_, rfl⟩
  rw [← hW1] at hb1 HL0 HT0 HL1 HT1
  rw [hg1] at HT1
  have HWW1 := Lib.hid hW1
  have HGG1 := Lib.hid hg1
  clear hb2 bb hA1 hL1 hW1 hg1
  go_wp2_with fail
  rw [← HWW1.out]
  try rw [HGG1.out]
  refine (HC.out _).mono ?_
  rintro e c3 ⟨rfl, hb2⟩
  replace HL0 := Lib.hid (HL0.out.below hb2)
  replace HT0 := Lib.hid ((hb2.block _ (Array.getElem?_eq_some_iff.1 HT0.out).1).trans HT0.out)
  replace HL1 := Lib.hid (HL1.out.below hb2)
  replace HT1 := Lib.hid ((hb2.block _ (Array.getElem?_eq_some_iff.1 HT1.out).1).trans HT1.out)
  replace hb1 := below_then hb1 hb2
  clear hb2
  go_wp2_with fail
  refine (pd_2 A0 d0 HA0.out _ (HPW.out.below hb1) HL0.out).mono ?_
  rintro e q2 ⟨A2, d2, rfl, hA2, hL2, hb2⟩
  have bb := below_then hb2 (below_one q2 (.cells #[.int .i64 6, .int .u32 0, .slice none 0 0] 29))
  replace HL0 := Lib.hid (HL0.out.below bb)
  replace HT0 := Lib.hid ((bb.block _ (Array.getElem?_eq_some_iff.1 HT0.out).1).trans HT0.out)
  replace HL1 := Lib.hid (HL1.out.below bb)
  replace HT1 := Lib.hid ((bb.block _ (Array.getElem?_eq_some_iff.1 HT1.out).1).trans HT1.out)
  have HL2 := Lib.hid (hL2.below (below_one q2 (.cells #[.int .i64 6, .int .u32 0, .slice none 0 0] 29)))
  have HA2 := Lib.hid hA2
  have HT2 := Lib.hid (heap_alloc_new q2 (.cells #[.int .i64 6, .int .u32 0, .slice none 0 0] 29))
  replace hb1 := below_then hb1 bb
  obtain ⟨W2, hW2⟩ : ∃ X, X = q2.alloc (.cells #[.int .i64 6, .int .u32 0, .slice none 0 0] 29) := ⟨_, rfl⟩
  obtain ⟨g2, hg2⟩ : ∃ X, q2.heap.size = X := ⟨_, rfl⟩
  rw [← hW2] at hb1 HL0 HT0 HL1 HT1 HL2 HT2
  rw [hg2] at HT2
  have HWW2 := Lib.hid hW2
  have HGG2 := Lib.hid hg2
  clear hb2 bb hA2 hL2 hW2 hg2
  go_wp2_with fail
  rw [← HWW2.out]
  try rw [HGG2.out]
  refine (HC.out _).mono ?_
  rintro e c4 ⟨rfl, hb2⟩
  replace HL0 := Lib.hid (HL0.out.below hb2)
  replace HT0 := Lib.hid ((hb2.block _ (Array.getElem?_eq_some_iff.1 HT0.out).1).trans HT0.out)
  replace HL1 := Lib.hid (HL1.out.below hb2)
  replace HT1 := Lib.hid ((hb2.block _ (Array.getElem?_eq_some_iff.1 HT1.out).1).trans HT1.out)
  replace HL2 := Lib.hid (HL2.out.below hb2)
  replace HT2 := Lib.hid ((hb2.block _ (Array.getElem?_eq_some_iff.1 HT2.out).1).trans HT2.out)
  replace hb1 := below_then hb1 hb2
  clear hb2
  go_wp2_with fail
  refine (pd_3 A0 d0 HA0.out _ (HPW.out.below hb1) HL0.out).mono ?_
  rintro e q3 ⟨A3, d3, rfl, hA3, hL3, hb2⟩
  have bb := below_then hb2 (below_one q3 (.cells #[.int .i64 9, .int .u32 0, .slice none 0 0] 29))
  replace HL0 := Lib.hid (HL0.out.below bb)
  replace HT0 := Lib.hid ((bb.block _ (Array.getElem?_eq_some_iff.1 HT0.out).1).trans HT0.out)
  replace HL1 := Lib.hid (HL1.out.below bb)
  replace HT1 := Lib.hid ((bb.block _ (Array.getElem?_eq_some_iff.1 HT1.out).1).trans HT1.out)
  replace HL2 := Lib.hid (HL2.out.below bb)
  replace HT2 := Lib.hid ((bb.block _ (Array.getElem?_eq_some_iff.1 HT2.out).1).trans HT2.out)
  have HL3 := Lib.hid (hL3.below (below_one q3 (.cells #[.int .i64 9, .int .u32 0, .slice none 0 0] 29)))
  have HA3 := Lib.hid hA3
  have HT3 := Lib.hid (heap_alloc_new q3 (.cells #[.int .i64 9, .int .u32 0, .slice none 0 0] 29))
  replace hb1 := below_then hb1 bb
  obtain ⟨W3, hW3⟩ : ∃ X, X = q3.alloc (.cells #[.int .i64 9, .int .u32 0, .slice none 0 0] 29) := ⟨_, rfl⟩
  obtain ⟨g3, hg3⟩ : ∃ X, q3.heap.size = X := ⟨_, rfl⟩
  rw [← hW3] at hb1 HL0 HT0 HL1 HT1 HL2 HT2 HL3 HT3
  rw [hg3] at HT3
  have HWW3 := Lib.hid hW3
  have HGG3 := Lib.hid hg3
  clear hb2 bb hA3 hL3 hW3 hg3
  go_wp2_with fail
  rw [← HWW3.out]
  try rw [HGG3.out]
  refine (HC.out _).mono ?_
  rintro e c5 ⟨rfl, hb2⟩
  replace HL0 := Lib.hid (HL0.out.below hb2)
  replace HT0 := Lib.hid ((hb2.block _ (Array.getElem?_eq_some_iff.1 HT0.out).1).trans HT0.out)
  replace HL1 := Lib.hid (HL1.out.below hb2)
  replace HT1 := Lib.hid ((hb2.block _ (Array.getElem?_eq_some_iff.1 HT1.out).1).trans HT1.out)
  replace HL2 := Lib.hid (HL2.out.below hb2)
  replace HT2 := Lib.hid ((hb2.block _ (Array.getElem?_eq_some_iff.1 HT2.out).1).trans HT2.out)
  replace HL3 := Lib.hid (HL3.out.below hb2)
  replace HT3 := Lib.hid ((hb2.block _ (Array.getElem?_eq_some_iff.1 HT3.out).1).trans HT3.out)
  replace hb1 := below_then hb1 hb2
  clear hb2
  go_wp2_with fail
  refine (pd_4 A0 d0 HA0.out _ (HPW.out.below hb1) HL0.out).mono ?_
  rintro e q4 ⟨A4, d4, rfl, hA4, hL4, hb2⟩
  have bb := below_then hb2 (below_one q4 (.cells #[.int .i64 0, .int .u32 0, .slice none 0 0] 29))
  replace HL0 := Lib.hid (HL0.out.below bb)
  replace HT0 := Lib.hid ((bb.block _ (Array.getElem?_eq_some_iff.1 HT0.out).1).trans HT0.out)
  replace HL1 := Lib.hid (HL1.out.below bb)
  replace HT1 := Lib.hid ((bb.block _ (Array.getElem?_eq_some_iff.1 HT1.out).1).trans HT1.out)
  replace HL2 := Lib.hid (HL2.out.below bb)
  replace HT2 := Lib.hid ((bb.block _ (Array.getElem?_eq_some_iff.1 HT2.out).1).trans HT2.out)
  replace HL3 := Lib.hid (HL3.out.below bb)
  replace HT3 := Lib.hid ((bb.block _ (Array.getElem?_eq_some_iff.1 HT3.out).1).trans HT3.out)
  have HL4 := Lib.hid (hL4.below (below_one q4 (.cells #[.int .i64 0, .int .u32 0, .slice none 0 0] 29)))
  have HA4 := Lib.hid hA4
  have HT4 := Lib.hid (heap_alloc_new q4 (.cells #[.int .i64 0, .int .u32 0, .slice none 0 0] 29))
  replace hb1 := below_then hb1 bb
  obtain ⟨W4, hW4⟩ : ∃ X, X = q4.alloc (.cells #[.int .i64 0, .int .u32 0, .slice none 0 0] 29) := ⟨_, rfl⟩
  obtain ⟨g4, hg4⟩ : ∃ X, q4.heap.size = X := ⟨_, rfl⟩
  rw [← hW4] at hb1 HL0 HT0 HL1 HT1 HL2 HT2 HL3 HT3 HL4 HT4
  rw [hg4] at HT4
  have HWW4 := Lib.hid hW4
  have HGG4 := Lib.hid hg4
  clear hb2 bb hA4 hL4 hW4 hg4
  go_wp2_with fail
  rw [← HWW4.out]
  try rw [HGG4.out]
  refine (HC.out _).mono ?_
  rintro e c6 ⟨rfl, hb2⟩
  replace HL0 := Lib.hid (HL0.out.below hb2)
  replace HT0 := Lib.hid ((hb2.block _ (Array.getElem?_eq_some_iff.1 HT0.out).1).trans HT0.out)
  replace HL1 := Lib.hid (HL1.out.below hb2)
  replace HT1 := Lib.hid ((hb2.block _ (Array.getElem?_eq_some_iff.1 HT1.out).1).trans HT1.out)
  replace HL2 := Lib.hid (HL2.out.below hb2)
  replace HT2 := Lib.hid ((hb2.block _ (Array.getElem?_eq_some_iff.1 HT2.out).1).trans HT2.out)
  replace HL3 := Lib.hid (HL3.out.below hb2)
  replace HT3 := Lib.hid ((hb2.block _ (Array.getElem?_eq_some_iff.1 HT3.out).1).trans HT3.out)
  replace HL4 := Lib.hid (HL4.out.below hb2)
  replace HT4 := Lib.hid ((hb2.block _ (Array.getElem?_eq_some_iff.1 HT4.out).1).trans HT4.out)
  replace hb1 := below_then hb1 hb2
  clear hb2
  go_wp2_with fail
  refine (pd_5 A4 d4 HA4.out _ (HPW.out.below hb1) HL4.out).mono ?_
  rintro e q5 ⟨A5, d5, rfl, hA5, hL5, hb2⟩
  have bb := below_then hb2 (below_one q5 (.cells #[.int .i64 90, .int .u32 0, .slice none 0 0] 29))
  replace HL0 := Lib.hid (HL0.out.below bb)
  replace HT0 := Lib.hid ((bb.block _ (Array.getElem?_eq_some_iff.1 HT0.out).1).trans HT0.out)
  replace HL1 := Lib.hid (HL1.out.below bb)
  replace HT1 := Lib.hid ((bb.block _ (Array.getElem?_eq_some_iff.1 HT1.out).1).trans HT1.out)
  replace HL2 := Lib.hid (HL2.out.below bb)
  replace HT2 := Lib.hid ((bb.block _ (Array.getElem?_eq_some_iff.1 HT2.out).1).trans HT2.out)
  replace HL3 := Lib.hid (HL3.out.below bb)
  replace HT3 := Lib.hid ((bb.block _ (Array.getElem?_eq_some_iff.1 HT3.out).1).trans HT3.out)
  replace HL4 := Lib.hid (HL4.out.below bb)
  replace HT4 := Lib.hid ((bb.block _ (Array.getElem?_eq_some_iff.1 HT4.out).1).trans HT4.out)
  have HL5 := Lib.hid (hL5.below (below_one q5 (.cells #[.int .i64 90, .int .u32 0, .slice none 0 0] 29)))
  have HA5 := Lib.hid hA5
  have HT5 := Lib.hid (heap_alloc_new q5 (.cells #[.int .i64 90, .int .u32 0, .slice none 0 0] 29))
  replace hb1 := below_then hb1 bb
  obtain ⟨W5, hW5⟩ : ∃ X, X = q5.alloc (.cells #[.int .i64 90, .int .u32 0, .slice none 0 0] 29) := ⟨_, rfl⟩
  obtain ⟨g5, hg5⟩ : ∃ X, q5.heap.size = X := ⟨_, rfl⟩
  rw [← hW5] at hb1 HL0 HT0 HL1 HT1 HL2 HT2 HL3 HT3 HL4 HT4 HL5 HT5
  rw [hg5] at HT5
  have HWW5 := Lib.hid hW5
  have HGG5 := Lib.hid hg5
  clear hb2 bb hA5 hL5 hW5 hg5
  go_wp2_with fail
  rw [← HWW5.out]
  try rw [HGG5.out]
  refine (HC.out _).mono ?_
  rintro e c7 ⟨rfl, hb2⟩
  replace HL0 := Lib.hid (HL0.out.below hb2)
  replace HT0 := Lib.hid ((hb2.block _ (Array.getElem?_eq_some_iff.1 HT0.out).1).trans HT0.out)
  replace HL1 := Lib.hid (HL1.out.below hb2)
  replace HT1 := Lib.hid ((hb2.block _ (Array.getElem?_eq_some_iff.1 HT1.out).1).trans HT1.out)
  replace HL2 := Lib.hid (HL2.out.below hb2)
  replace HT2 := Lib.hid ((hb2.block _ (Array.getElem?_eq_some_iff.1 HT2.out).1).trans HT2.out)
  replace HL3 := Lib.hid (HL3.out.below hb2)
  replace HT3 := Lib.hid ((hb2.block _ (Array.getElem?_eq_some_iff.1 HT3.out).1).trans HT3.out)
  replace HL4 := Lib.hid (HL4.out.below hb2)
  replace HT4 := Lib.hid ((hb2.block _ (Array.getElem?_eq_some_iff.1 HT4.out).1).trans HT4.out)
  replace HL5 := Lib.hid (HL5.out.below hb2)
  replace HT5 := Lib.hid ((hb2.block _ (Array.getElem?_eq_some_iff.1 HT5.out).1).trans HT5.out)
  replace hb1 := below_then hb1 hb2
  clear hb2
  go_wp2_with fail
  refine (pd_6 A4 d4 HA4.out _ (HPW.out.below hb1) HL4.out).mono ?_
  rintro e q6 ⟨A6, d6, rfl, hA6, hL6, hb2⟩
  have bb := below_then hb2 (below_one q6 (.cells #[.int .i64 0, .int .u32 8, .slice none 0 0] 29))
  replace HL0 := Lib.hid (HL0.out.below bb)
  replace HT0 := Lib.hid ((bb.block _ (Array.getElem?_eq_some_iff.1 HT0.out).1).trans HT0.out)
  replace HL1 := Lib.hid (HL1.out.below bb)
  replace HT1 := Lib.hid ((bb.block _ (Array.getElem?_eq_some_iff.1 HT1.out).1).trans HT1.out)
  replace HL2 := Lib.hid (HL2.out.below bb)
  replace HT2 := Lib.hid ((bb.block _ (Array.getElem?_eq_some_iff.1 HT2.out).1).trans HT2.out)
  replace HL3 := Lib.hid (HL3.out.below bb)
  replace HT3 := Lib.hid ((bb.block _ (Array.getElem?_eq_some_iff.1 HT3.out).1).trans HT3.out)
  replace HL4 := Lib.hid (HL4.out.below bb)
  replace HT4 := Lib.hid ((bb.block _ (Array.getElem?_eq_some_iff.1 HT4.out).1).trans HT4.out)
  replace HL5 := Lib.hid (HL5.out.below bb)
  replace HT5 := Lib.hid ((bb.block _ (Array.getElem?_eq_some_iff.1 HT5.out).1).trans HT5.out)
  have HL6 := Lib.hid (hL6.below (below_one q6 (.cells #[.int .i64 0, .int .u32 8, .slice none 0 0] 29)))
  have HA6 := Lib.hid hA6
  have HT6 := Lib.hid (heap_alloc_new q6 (.cells #[.int .i64 0, .int .u32 8, .slice none 0 0] 29))
  replace hb1 := below_then hb1 bb
  obtain ⟨W6, hW6⟩ : ∃ X, X = q6.alloc (.cells #[.int .i64 0, .int .u32 8, .slice none 0 0] 29) := ⟨_, rfl⟩
  obtain ⟨g6, hg6⟩ : ∃ X, q6.heap.size = X := ⟨_, rfl⟩
  rw [← hW6] at hb1 HL0 HT0 HL1 HT1 HL2 HT2 HL3 HT3 HL4 HT4 HL5 HT5 HL6 HT6
  rw [hg6] at HT6
  have HWW6 := Lib.hid hW6
  have HGG6 := Lib.hid hg6
  clear hb2 bb hA6 hL6 hW6 hg6
  go_wp2_with fail
  rw [← HWW6.out]
  try rw [HGG6.out]
  refine (HC.out _).mono ?_
  rintro e c8 ⟨rfl, hb2⟩
  replace HL0 := Lib.hid (HL0.out.below hb2)
  replace HT0 := Lib.hid ((hb2.block _ (Array.getElem?_eq_some_iff.1 HT0.out).1).trans HT0.out)
  replace HL1 := Lib.hid (HL1.out.below hb2)
  replace HT1 := Lib.hid ((hb2.block _ (Array.getElem?_eq_some_iff.1 HT1.out).1).trans HT1.out)
  replace HL2 := Lib.hid (HL2.out.below hb2)
  replace HT2 := Lib.hid ((hb2.block _ (Array.getElem?_eq_some_iff.1 HT2.out).1).trans HT2.out)
  replace HL3 := Lib.hid (HL3.out.below hb2)
  replace HT3 := Lib.hid ((hb2.block _ (Array.getElem?_eq_some_iff.1 HT3.out).1).trans HT3.out)
  replace HL4 := Lib.hid (HL4.out.below hb2)
  replace HT4 := Lib.hid ((hb2.block _ (Array.getElem?_eq_some_iff.1 HT4.out).1).trans HT4.out)
  replace HL5 := Lib.hid (HL5.out.below hb2)
  replace HT5 := Lib.hid ((hb2.block _ (Array.getElem?_eq_some_iff.1 HT5.out).1).trans HT5.out)
  replace HL6 := Lib.hid (HL6.out.below hb2)
  replace HT6 := Lib.hid ((hb2.block _ (Array.getElem?_eq_some_iff.1 HT6.out).1).trans HT6.out)
  replace hb1 := below_then hb1 hb2
  clear hb2
  go_wp2_with fail
  refine (pd_7 A6 d6 HA6.out _ (HPW.out.below hb1) HL6.out).mono ?_
  rintro e q7 ⟨A7, d7, rfl, hA7, hL7, hb2⟩
  have bb := below_then hb2 (below_one q7 (.cells #[.int .i64 0, .int .u32 6, .slice none 0 0] 29))
  replace HL0 := Lib.hid (HL0.out.below bb)
  replace HT0 := Lib.hid ((bb.block _ (Array.getElem?_eq_some_iff.1 HT0.out).1).trans HT0.out)
  replace HL1 := Lib.hid (HL1.out.below bb)
  replace HT1 := Lib.hid ((bb.block _ (Array.getElem?_eq_some_iff.1 HT1.out).1).trans HT1.out)
  replace HL2 := Lib.hid (HL2.out.below bb)
  replace HT2 := Lib.hid ((bb.block _ (Array.getElem?_eq_some_iff.1 HT2.out).1).trans HT2.out)
  replace HL3 := Lib.hid (HL3.out.below bb)
  replace HT3 := Lib.hid ((bb.block _ (Array.getElem?_eq_some_iff.1 HT3.out).1).trans HT3.out)
  replace HL4 := Lib.hid (HL4.out.below bb)
  replace HT4 := Lib.hid ((bb.block _ (Array.getElem?_eq_some_iff.1 HT4.out).1).trans HT4.out)
  replace HL5 := Lib.hid (HL5.out.below bb)
  replace HT5 := Lib.hid ((bb.block _ (Array.getElem?_eq_some_iff.1 HT5.out).1).trans HT5.out)
  replace HL6 := Lib.hid (HL6.out.below bb)
  replace HT6 := Lib.hid ((bb.block _ (Array.getElem?_eq_some_iff.1 HT6.out).1).trans HT6.out)
  have HL7 := Lib.hid (hL7.below (below_one q7 (.cells #[.int .i64 0, .int .u32 6, .slice none 0 0] 29)))
  have HA7 := Lib.hid hA7
  have HT7 := Lib.hid (heap_alloc_new q7 (.cells #[.int .i64 0, .int .u32 6, .slice none 0 0] 29))
  replace hb1 := below_then hb1 bb
  clear hb2 bb hA7 hL7
  obtain ⟨x00, -, x01, -, -, -⟩ := res_cells HT0.out
  obtain ⟨x10, -, x11, -, -, -⟩ := res_cells HT1.out
  obtain ⟨x20, -, x21, -, -, -⟩ := res_cells HT2.out
  obtain ⟨x30, -, x31, -, -, -⟩ := res_cells HT3.out
  obtain ⟨x40, -, x41, -, -, -⟩ := res_cells HT4.out
  obtain ⟨x50, -, x51, -, -, -⟩ := res_cells HT5.out
  obtain ⟨x60, -, x61, -, -, -⟩ := res_cells HT6.out
  obtain ⟨x70, -, x71, -, -, -⟩ := res_cells HT7.out
  have hwb := below_one (q7.alloc (.cells #[.int .i64 0, .int .u32 6, .slice none 0 0] 29)) (.cells #[.int .u64 4294967296, .int .u64 0, .int .u64 4295098368, .int .u64 8] 24)
  have z50 := (hwb.cell (World.block_lt_of_cell? _ _ x50)).trans x50
  have z61 := (hwb.cell (World.block_lt_of_cell? _ _ x61)).trans x61
  have z71 := (hwb.cell (World.block_lt_of_cell? _ _ x71)).trans x71
  have hlit := isr_lit (q7.alloc (.cells #[.int .i64 0, .int .u32 6, .slice none 0 0] 29)) #[.int .u64 4294967296, .int .u64 0, .int .u64 4295098368, .int .u64 8] [(4294967296, 0), (4295098368, 8)] 2 rfl rfl (by decide)
  rw [show (q7.alloc (.cells #[.int .i64 0, .int .u32 6, .slice none 0 0] 29)).heap.size = q7.heap.size + 1 by simp] at hlit
  have HLT := Lib.hid hlit
  clear hlit
  go_wp2_with fail
  refine (rSameRows_any A0 (some ⟨q7.heap.size + 1, 0, none⟩) [(4294967296, 0), (4295098368, 8)] [(4294967296, 0), (4295098368, 8)] d0 2 (by simp) _ (HL0.out.below hwb) HLT.out).mono ?_
  rintro e s10 ⟨rfl, hb2⟩
  go_wp2
  go_ret
  exact Ret.mk (by simp) (below_then hb1 (below_then hwb hb2))
end Go.Proofs.YtljdkjjjnlcflaaDoor
