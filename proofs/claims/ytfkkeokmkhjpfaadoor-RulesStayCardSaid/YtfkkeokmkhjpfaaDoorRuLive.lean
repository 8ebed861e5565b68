/- The statements' own examples of rules, played. -/
import Derived.Test.YtfkkeokmkhjpfaaDoorRuAns
import Derived.Test.YtfkkeokmkhjpfaaDoorTbGen
namespace Go.Proofs.YtfkkeokmkhjpfaaDoor
open Go.RowKit Go.Lib Tb Pt Opn

theorem u_says (l : List R) (a b z : Nat) (az bz zz : Int) (haz : (a : Int) = az) (hbz : (b : Int) = bz) (hzz : (z : Int) = zz) (ha : a < 4294967296) (hb : b < 4294967296) (hg : sayL cfU l a b = z) (n : Nat) (hn : l.length = n) (hl : n ≤ 1000) (hw : ∀ x ∈ l, x.1 < 18446744073709551616) (A : Option Addr) (d : Nat) (hA : A = none → n = 0 ∧ d = 0) (w : World) (hp : Obs w) (h : IsR w A l) :
    Calls Tryd.prog 19 #[.agg #[.int .u8 3, .int .i64 2, .int .i64 1, .int .u8 1, .int .i64 0, .int .i64 0, .int .i64 3, .int .i64 0, .int .i64 1, .int .i64 0, .int .u64 131072, .int .u64 0], .slice A n d, .int .u32 az, .int .u32 bz] w (Ret (.int .u32 zz) w) := by
  subst hn haz hbz hzz
  have := usays_any cfU A l d a b ha hb hA hl hw w hp h
  rw [hg] at this
  exact this
theorem u_do (l rows : List R) (k a b c : Nat) (kz az bz cz : Int) (hk : (k : Int) = kz) (ha : (a : Int) = az) (hb : (b : Int) = bz) (hc : (c : Int) = cz) (ho : Wf ⟨k, a, b, c⟩) (x y : Int) (hg : doUR cfU l ⟨k, a, b, c⟩ = (rows, x, y)) (he : doUE cfU l = 0) (n m : Nat) (hn : l.length = n) (hm : rows.length = m) (hl : n ≤ 1000) (hw : ∀ x ∈ l, x.1 < 18446744073709551616) (A : Option Addr) (d : Nat) (hA : A = none → n = 0 ∧ d = 0) (w : World) (hp : Obs w) (h : IsR w A l) :
    Calls Tryd.prog 9 #[.agg #[.int .u8 3, .int .i64 2, .int .i64 1, .int .u8 1, .int .i64 0, .int .i64 0, .int .i64 3, .int .i64 0, .int .i64 1, .int .i64 0, .int .u64 131072, .int .u64 0], .slice A n d, .agg #[.int .u8 kz, .int .u32 az, .int .u32 bz, .int .u32 cz]] w (OpenedU rows x y 0 m w) := by
  subst hk ha hb hc
  exact udo_open cfU A l d ⟨k, a, b, c⟩ ho (by rw [hn]; exact hA) (by omega) hw rows x y 0 hg he n m hn hm w hp h

theorem ux_0 (A : Option Addr) (d : Nat) (hA : A = none → 2 = 0 ∧ d = 0) (w : World) (hp : Obs w) (h : IsR w A [(65536, 1), (65543, 2)]) :
    Calls Tryd.prog 19 #[.agg #[.int .u8 3, .int .i64 2, .int .i64 1, .int .u8 1, .int .i64 0, .int .i64 0, .int .i64 3, .int .i64 0, .int .i64 1, .int .i64 0, .int .u64 131072, .int .u64 0], .slice A 2 d, .int .u32 1, .int .u32 5] w (Ret (.int .u32 1) w) :=
  u_says [(65536, 1), (65543, 2)] 1 5 1 1 5 1 rfl rfl rfl (by decide) (by decide) (by decide +kernel) 2 rfl (by decide) (by decide) A d hA w hp h
theorem ux_1 (A : Option Addr) (d : Nat) (hA : A = none → 2 = 0 ∧ d = 0) (w : World) (hp : Obs w) (h : IsR w A [(65536, 1), (65543, 2)]) :
    Calls Tryd.prog 19 #[.agg #[.int .u8 3, .int .i64 2, .int .i64 1, .int .u8 1, .int .i64 0, .int .i64 0, .int .i64 3, .int .i64 0, .int .i64 1, .int .i64 0, .int .u64 131072, .int .u64 0], .slice A 2 d, .int .u32 1, .int .u32 7] w (Ret (.int .u32 2) w) :=
  u_says [(65536, 1), (65543, 2)] 1 7 2 1 7 2 rfl rfl rfl (by decide) (by decide) (by decide +kernel) 2 rfl (by decide) (by decide) A d hA w hp h
theorem ux_2 (A : Option Addr) (d : Nat) (hA : A = none → 2 = 0 ∧ d = 0) (w : World) (hp : Obs w) (h : IsR w A [(65536, 1), (65543, 2)]) :
    Calls Tryd.prog 19 #[.agg #[.int .u8 3, .int .i64 2, .int .i64 1, .int .u8 1, .int .i64 0, .int .i64 0, .int .i64 3, .int .i64 0, .int .i64 1, .int .i64 0, .int .u64 131072, .int .u64 0], .slice A 2 d, .int .u32 2, .int .u32 7] w (Ret (.int .u32 0) w) :=
  u_says [(65536, 1), (65543, 2)] 2 7 0 2 7 0 rfl rfl rfl (by decide) (by decide) (by decide +kernel) 2 rfl (by decide) (by decide) A d hA w hp h
theorem ux_3 (A : Option Addr) (d : Nat) (hA : A = none → 3 = 0 ∧ d = 0) (w : World) (hp : Obs w) (h : IsR w A [(7, 1), (65536, 1), (65543, 2)]) :
    Calls Tryd.prog 19 #[.agg #[.int .u8 3, .int .i64 2, .int .i64 1, .int .u8 1, .int .i64 0, .int .i64 0, .int .i64 3, .int .i64 0, .int .i64 1, .int .i64 0, .int .u64 131072, .int .u64 0], .slice A 3 d, .int .u32 2, .int .u32 7] w (Ret (.int .u32 1) w) :=
  u_says [(7, 1), (65536, 1), (65543, 2)] 2 7 1 2 7 1 rfl rfl rfl (by decide) (by decide) (by decide +kernel) 3 rfl (by decide) (by decide) A d hA w hp h
theorem ud_0 (A : Option Addr) (d : Nat) (hA : A = none → 2 = 0 ∧ d = 0) (w : World) (hp : Obs w) (h : IsR w A [(65536, 1), (65543, 2)]) :
    Calls Tryd.prog 9 #[.agg #[.int .u8 3, .int .i64 2, .int .i64 1, .int .u8 1, .int .i64 0, .int .i64 0, .int .i64 3, .int .i64 0, .int .i64 1, .int .i64 0, .int .u64 131072, .int .u64 0], .slice A 2 d, .agg #[.int .u8 9, .int .u32 0, .int .u32 7, .int .u32 1]] w (OpenedU [(7, 1), (65536, 1), (65543, 2)] 0 0 0 3 w) :=
  u_do [(65536, 1), (65543, 2)] [(7, 1), (65536, 1), (65543, 2)] 9 0 7 1 9 0 7 1 rfl rfl rfl rfl (by unfold Wf; decide) 0 0 (by decide +kernel) (by decide +kernel) 2 3 rfl rfl (by decide) (by decide) A d hA w hp h
theorem ud_1 (A : Option Addr) (d : Nat) (hA : A = none → 3 = 0 ∧ d = 0) (w : World) (hp : Obs w) (h : IsR w A [(7, 1), (65536, 1), (65543, 2)]) :
    Calls Tryd.prog 9 #[.agg #[.int .u8 3, .int .i64 2, .int .i64 1, .int .u8 1, .int .i64 0, .int .i64 0, .int .i64 3, .int .i64 0, .int .i64 1, .int .i64 0, .int .u64 131072, .int .u64 0], .slice A 3 d, .agg #[.int .u8 9, .int .u32 3, .int .u32 3, .int .u32 2]] w (OpenedU [(7, 1), (65536, 1), (65543, 2)] 9 0 0 3 w) :=
  u_do [(7, 1), (65536, 1), (65543, 2)] [(7, 1), (65536, 1), (65543, 2)] 9 3 3 2 9 3 3 2 rfl rfl rfl rfl (by unfold Wf; decide) 9 0 (by decide +kernel) (by decide +kernel) 3 3 rfl rfl (by decide) (by decide) A d hA w hp h
theorem ud_2 (A : Option Addr) (d : Nat) (hA : A = none → 3 = 0 ∧ d = 0) (w : World) (hp : Obs w) (h : IsR w A [(7, 1), (65536, 1), (65543, 2)]) :
    Calls Tryd.prog 9 #[.agg #[.int .u8 3, .int .i64 2, .int .i64 1, .int .u8 1, .int .i64 0, .int .i64 0, .int .i64 3, .int .i64 0, .int .i64 1, .int .i64 0, .int .u64 131072, .int .u64 0], .slice A 3 d, .agg #[.int .u8 9, .int .u32 1, .int .u32 7, .int .u32 1]] w (OpenedU [(7, 1), (65536, 1), (65543, 1)] 0 2 0 3 w) :=
  u_do [(7, 1), (65536, 1), (65543, 2)] [(7, 1), (65536, 1), (65543, 1)] 9 1 7 1 9 1 7 1 rfl rfl rfl rfl (by unfold Wf; decide) 0 2 (by decide +kernel) (by decide +kernel) 3 3 rfl rfl (by decide) (by decide) A d hA w hp h
theorem ud_3 (A : Option Addr) (d : Nat) (hA : A = none → 2 = 0 ∧ d = 0) (w : World) (hp : Obs w) (h : IsR w A [(65536, 1), (65543, 2)]) :
    Calls Tryd.prog 9 #[.agg #[.int .u8 3, .int .i64 2, .int .i64 1, .int .u8 1, .int .i64 0, .int .i64 0, .int .i64 3, .int .i64 0, .int .i64 1, .int .i64 0, .int .u64 131072, .int .u64 0], .slice A 2 d, .agg #[.int .u8 10, .int .u32 1, .int .u32 1, .int .u32 0]] w (OpenedU [(65536, 1), (65543, 2)] 6 0 0 2 w) :=
  u_do [(65536, 1), (65543, 2)] [(65536, 1), (65543, 2)] 10 1 1 0 10 1 1 0 rfl rfl rfl rfl (by unfold Wf; decide) 6 0 (by decide +kernel) (by decide +kernel) 2 2 rfl rfl (by decide) (by decide) A d hA w hp h
theorem ud_4 (A : Option Addr) (d : Nat) (hA : A = none → 2 = 0 ∧ d = 0) (w : World) (hp : Obs w) (h : IsR w A [(65536, 1), (65543, 2)]) :
    Calls Tryd.prog 9 #[.agg #[.int .u8 3, .int .i64 2, .int .i64 1, .int .u8 1, .int .i64 0, .int .i64 0, .int .i64 3, .int .i64 0, .int .i64 1, .int .i64 0, .int .u64 131072, .int .u64 0], .slice A 2 d, .agg #[.int .u8 10, .int .u32 1, .int .u32 0, .int .u32 0]] w (OpenedU [(65543, 2)] 0 1 0 1 w) :=
  u_do [(65536, 1), (65543, 2)] [(65543, 2)] 10 1 0 0 10 1 0 0 rfl rfl rfl rfl (by unfold Wf; decide) 0 1 (by decide +kernel) (by decide +kernel) 2 1 rfl rfl (by decide) (by decide) A d hA w hp h
set_option maxRecDepth 20000 in
set_option maxHeartbeats 8000000 in
theorem ualive_any (w : World) (hp : Obs w) : Calls Tryd.prog 11 #[] w (Ret (.bool true) w) := by
  have HP := Lib.hid hp
  clear hp
  have HC := uconf_any
  unfold cfv cfU at HC
  replace HC := Lib.hid HC
  go_enter Tryd.func11, Tryd.ntmps11
  go_wp2_with fail
  obtain ⟨w0, hw0⟩ : ∃ X, X = w.alloc (.cells #[.int .u64 65536, .int .u64 1, .int .u64 65543, .int .u64 2] 24) := ⟨_, rfl⟩
  obtain ⟨g, hg⟩ : ∃ g, w.heap.size = g := ⟨_, rfl⟩
  have hb0 : Below w.heap.size w w0 := by rw [hw0]; exact below_one _ _
  have hR0 : IsR w0 (some ⟨g, 0, none⟩) [(65536, 1), (65543, 2)] := by rw [hw0, ← hg]; exact isr_lit w _ [(65536, 1), (65543, 2)] 2 rfl rfl (by decide)
  have HR := Lib.hid hR0
  have HS := Lib.hid (show IsR w0 (some ⟨g, 2, none⟩) [(65543, 2)] from isr_drop hR0 1)
  have HPW := Lib.hid (HP.out.below hb0)
  rw [← hw0, hg]
  have HG := Lib.hid hg
  clear hR0 hw0 hg
  obtain ⟨w1, hw1⟩ : ∃ X, X = w0 := ⟨_, rfl⟩
  have hb1 : Below w0.heap.size w0 w1 := by rw [hw1]; exact Below.refl _ _
  rw [← hw1]
  clear hw1
  refine (HC.out _).mono ?_
  rintro e c0 ⟨rfl, hb2⟩
  replace hb1 := below_then hb1 hb2
  clear hb2
  go_wp2_with fail
  refine (ux_0 (some ⟨g, 0, none⟩) 2 (by simp) _ (HPW.out.below hb1) (HR.out.below hb1)).mono ?_
  rintro e s0 ⟨rfl, hb2⟩
  replace hb1 := below_then hb1 hb2
  clear hb2
  go_wp2_with fail
  refine (HC.out _).mono ?_
  rintro e c1 ⟨rfl, hb2⟩
  replace hb1 := below_then hb1 hb2
  clear hb2
  go_wp2_with fail
  refine (ux_1 (some ⟨g, 0, none⟩) 2 (by simp) _ (HPW.out.below hb1) (HR.out.below hb1)).mono ?_
  rintro e s1 ⟨rfl, hb2⟩
  replace hb1 := below_then hb1 hb2
  clear hb2
  go_wp2_with fail
  refine (HC.out _).mono ?_
  rintro e c2 ⟨rfl, hb2⟩
  replace hb1 := below_then hb1 hb2
  clear hb2
  go_wp2_with fail
  refine (ux_2 (some ⟨g, 0, none⟩) 2 (by simp) _ (HPW.out.below hb1) (HR.out.below hb1)).mono ?_
  rintro e s2 ⟨rfl, hb2⟩
  replace hb1 := below_then hb1 hb2
  clear hb2
  go_wp2_with fail
  refine (HC.out _).mono ?_
  rintro e c3 ⟨rfl, hb2⟩
  replace hb1 := below_then hb1 hb2
  clear hb2
  go_wp2_with fail
  refine (ud_0 (some ⟨g, 0, none⟩) 2 (by simp) _ (HPW.out.below hb1) (HR.out.below hb1)).mono ?_
  rintro e q0 ⟨A0, d0, rfl, hA0, hL0, hb2⟩
  have bb := below_then hb2 (below_one q0 (.cells #[.int .i64 0, .int .u32 0, .slice none 0 0] 29))
  have HL0 := Lib.hid (hL0.below (below_one q0 (.cells #[.int .i64 0, .int .u32 0, .slice none 0 0] 29)))
  have HA0 := Lib.hid hA0
  have HT0 := Lib.hid (heap_alloc_new q0 (.cells #[.int .i64 0, .int .u32 0, .slice none 0 0] 29))
  replace hb1 := below_then hb1 bb
  obtain ⟨W0, hW0⟩ : ∃ X, X = q0.alloc (.cells #[.int .i64 0, .int .u32 0, .slice none 0 0] 29) := ⟨_, rfl⟩
  obtain ⟨g0, hg0⟩ : ∃ X, q0.heap.size = X := ⟨_, rfl⟩
  rw [← hW0] at hb1 HL0 HT0
  rw [hg0] at HT0
  have HWW0 := Lib.hid hW0
  have HGG0 := Lib.hid hg0
  clear hb2 bb hA0 hL0 hW0 hg0
  go_wp2_with fail
  rw [← HWW0.out]
  try rw [HGG0.out]
  refine (HC.out _).mono ?_
  rintro e c4 ⟨rfl, hb2⟩
  replace HL0 := Lib.hid (HL0.out.below hb2)
  replace HT0 := Lib.hid ((hb2.block _ (Array.getElem?_eq_some_iff.1 HT0.out).1).trans HT0.out)
  replace hb1 := below_then hb1 hb2
  clear hb2
  go_wp2_with fail
  refine (ud_1 A0 d0 HA0.out _ (HPW.out.below hb1) HL0.out).mono ?_
  rintro e q1 ⟨A1, d1, rfl, hA1, hL1, hb2⟩
  have bb := below_then hb2 (below_one q1 (.cells #[.int .i64 9, .int .u32 0, .slice none 0 0] 29))
  replace HL0 := Lib.hid (HL0.out.below bb)
  replace HT0 := Lib.hid ((bb.block _ (Array.getElem?_eq_some_iff.1 HT0.out).1).trans HT0.out)
  have HL1 := Lib.hid (hL1.below (below_one q1 (.cells #[.int .i64 9, .int .u32 0, .slice none 0 0] 29)))
  have HA1 := Lib.hid hA1
  have HT1 := Lib.hid (heap_alloc_new q1 (.cells #[.int .i64 9, .int .u32 0, .slice none 0 0] 29))
  replace hb1 := below_then hb1 bb
  obtain ⟨W1, hW1⟩ : ∃ X, X = q1.alloc (.cells #[.int .i64 9, .int .u32 0, .slice none 0 0] 29) := ⟨_, rfl⟩
  obtain ⟨g1, hg1⟩ : ∃ X, q1.heap.size = X := ⟨_, rfl⟩
  rw [← hW1] at hb1 HL0 HT0 HL1 HT1
  rw [hg1] at HT1
  have HWW1 := Lib.hid hW1
  have HGG1 := Lib.hid hg1
  clear hb2 bb hA1 hL1 hW1 hg1
  go_wp2_with fail
  rw [← HWW1.out]
  try rw [HGG1.out]
  refine (HC.out _).mono ?_
  rintro e c5 ⟨rfl, hb2⟩
  replace HL0 := Lib.hid (HL0.out.below hb2)
  replace HT0 := Lib.hid ((hb2.block _ (Array.getElem?_eq_some_iff.1 HT0.out).1).trans HT0.out)
  replace HL1 := Lib.hid (HL1.out.below hb2)
  replace HT1 := Lib.hid ((hb2.block _ (Array.getElem?_eq_some_iff.1 HT1.out).1).trans HT1.out)
  replace hb1 := below_then hb1 hb2
  clear hb2
  go_wp2_with fail
  refine (ud_2 A0 d0 HA0.out _ (HPW.out.below hb1) HL0.out).mono ?_
  rintro e q2 ⟨A2, d2, rfl, hA2, hL2, hb2⟩
  have bb := below_then hb2 (below_one q2 (.cells #[.int .i64 0, .int .u32 2, .slice none 0 0] 29))
  replace HL0 := Lib.hid (HL0.out.below bb)
  replace HT0 := Lib.hid ((bb.block _ (Array.getElem?_eq_some_iff.1 HT0.out).1).trans HT0.out)
  replace HL1 := Lib.hid (HL1.out.below bb)
  replace HT1 := Lib.hid ((bb.block _ (Array.getElem?_eq_some_iff.1 HT1.out).1).trans HT1.out)
  have HL2 := Lib.hid (hL2.below (below_one q2 (.cells #[.int .i64 0, .int .u32 2, .slice none 0 0] 29)))
  have HA2 := Lib.hid hA2
  have HT2 := Lib.hid (heap_alloc_new q2 (.cells #[.int .i64 0, .int .u32 2, .slice none 0 0] 29))
  replace hb1 := below_then hb1 bb
  obtain ⟨W2, hW2⟩ : ∃ X, X = q2.alloc (.cells #[.int .i64 0, .int .u32 2, .slice none 0 0] 29) := ⟨_, rfl⟩
  obtain ⟨g2, hg2⟩ : ∃ X, q2.heap.size = X := ⟨_, rfl⟩
  rw [← hW2] at hb1 HL0 HT0 HL1 HT1 HL2 HT2
  rw [hg2] at HT2
  have HWW2 := Lib.hid hW2
  have HGG2 := Lib.hid hg2
  clear hb2 bb hA2 hL2 hW2 hg2
  go_wp2_with fail
  rw [← HWW2.out]
  try rw [HGG2.out]
  refine (HC.out _).mono ?_
  rintro e c6 ⟨rfl, hb2⟩
  replace HL0 := Lib.hid (HL0.out.below hb2)
  replace HT0 := Lib.hid ((hb2.block _ (Array.getElem?_eq_some_iff.1 HT0.out).1).trans HT0.out)
  replace HL1 := Lib.hid (HL1.out.below hb2)
  replace HT1 := Lib.hid ((hb2.block _ (Array.getElem?_eq_some_iff.1 HT1.out).1).trans HT1.out)
  replace HL2 := Lib.hid (HL2.out.below hb2)
  replace HT2 := Lib.hid ((hb2.block _ (Array.getElem?_eq_some_iff.1 HT2.out).1).trans HT2.out)
  replace hb1 := below_then hb1 hb2
  clear hb2
  go_wp2_with fail
  refine (ud_3 (some ⟨g, 0, none⟩) 2 (by simp) _ (HPW.out.below hb1) (HR.out.below hb1)).mono ?_
  rintro e q3 ⟨A3, d3, rfl, hA3, hL3, hb2⟩
  have bb := below_then hb2 (below_one q3 (.cells #[.int .i64 6, .int .u32 0, .slice none 0 0] 29))
  replace HL0 := Lib.hid (HL0.out.below bb)
  replace HT0 := Lib.hid ((bb.block _ (Array.getElem?_eq_some_iff.1 HT0.out).1).trans HT0.out)
  replace HL1 := Lib.hid (HL1.out.below bb)
  replace HT1 := Lib.hid ((bb.block _ (Array.getElem?_eq_some_iff.1 HT1.out).1).trans HT1.out)
  replace HL2 := Lib.hid (HL2.out.below bb)
  replace HT2 := Lib.hid ((bb.block _ (Array.getElem?_eq_some_iff.1 HT2.out).1).trans HT2.out)
  have HL3 := Lib.hid (hL3.below (below_one q3 (.cells #[.int .i64 6, .int .u32 0, .slice none 0 0] 29)))
  have HA3 := Lib.hid hA3
  have HT3 := Lib.hid (heap_alloc_new q3 (.cells #[.int .i64 6, .int .u32 0, .slice none 0 0] 29))
  replace hb1 := below_then hb1 bb
  obtain ⟨W3, hW3⟩ : ∃ X, X = q3.alloc (.cells #[.int .i64 6, .int .u32 0, .slice none 0 0] 29) := ⟨_, rfl⟩
  obtain ⟨g3, hg3⟩ : ∃ X, q3.heap.size = X := ⟨_, rfl⟩
  rw [← hW3] at hb1 HL0 HT0 HL1 HT1 HL2 HT2 HL3 HT3
  rw [hg3] at HT3
  have HWW3 := Lib.hid hW3
  have HGG3 := Lib.hid hg3
  clear hb2 bb hA3 hL3 hW3 hg3
  go_wp2_with fail
  rw [← HWW3.out]
  try rw [HGG3.out]
  refine (HC.out _).mono ?_
  rintro e c7 ⟨rfl, hb2⟩
  replace HL0 := Lib.hid (HL0.out.below hb2)
  replace HT0 := Lib.hid ((hb2.block _ (Array.getElem?_eq_some_iff.1 HT0.out).1).trans HT0.out)
  replace HL1 := Lib.hid (HL1.out.below hb2)
  replace HT1 := Lib.hid ((hb2.block _ (Array.getElem?_eq_some_iff.1 HT1.out).1).trans HT1.out)
  replace HL2 := Lib.hid (HL2.out.below hb2)
  replace HT2 := Lib.hid ((hb2.block _ (Array.getElem?_eq_some_iff.1 HT2.out).1).trans HT2.out)
  replace HL3 := Lib.hid (HL3.out.below hb2)
  replace HT3 := Lib.hid ((hb2.block _ (Array.getElem?_eq_some_iff.1 HT3.out).1).trans HT3.out)
  replace hb1 := below_then hb1 hb2
  clear hb2
  go_wp2_with fail
  refine (ud_4 (some ⟨g, 0, none⟩) 2 (by simp) _ (HPW.out.below hb1) (HR.out.below hb1)).mono ?_
  rintro e q4 ⟨A4, d4, rfl, hA4, hL4, hb2⟩
  have bb := below_then hb2 (below_one q4 (.cells #[.int .i64 0, .int .u32 1, .slice none 0 0] 29))
  replace HL0 := Lib.hid (HL0.out.below bb)
  replace HT0 := Lib.hid ((bb.block _ (Array.getElem?_eq_some_iff.1 HT0.out).1).trans HT0.out)
  replace HL1 := Lib.hid (HL1.out.below bb)
  replace HT1 := Lib.hid ((bb.block _ (Array.getElem?_eq_some_iff.1 HT1.out).1).trans HT1.out)
  replace HL2 := Lib.hid (HL2.out.below bb)
  replace HT2 := Lib.hid ((bb.block _ (Array.getElem?_eq_some_iff.1 HT2.out).1).trans HT2.out)
  replace HL3 := Lib.hid (HL3.out.below bb)
  replace HT3 := Lib.hid ((bb.block _ (Array.getElem?_eq_some_iff.1 HT3.out).1).trans HT3.out)
  have HL4 := Lib.hid (hL4.below (below_one q4 (.cells #[.int .i64 0, .int .u32 1, .slice none 0 0] 29)))
  have HA4 := Lib.hid hA4
  have HT4 := Lib.hid (heap_alloc_new q4 (.cells #[.int .i64 0, .int .u32 1, .slice none 0 0] 29))
  replace hb1 := below_then hb1 bb
  clear hb2 bb hA4 hL4
  obtain ⟨x00, -, x01, -, -, -⟩ := res_cells HT0.out
  go_wp2_with fail
  clear x00 x01
  refine (HC.out _).mono ?_
  rintro e c8 ⟨rfl, hb2⟩
  replace HL0 := Lib.hid (HL0.out.below hb2)
  replace HT0 := Lib.hid ((hb2.block _ (Array.getElem?_eq_some_iff.1 HT0.out).1).trans HT0.out)
  replace HL1 := Lib.hid (HL1.out.below hb2)
  replace HT1 := Lib.hid ((hb2.block _ (Array.getElem?_eq_some_iff.1 HT1.out).1).trans HT1.out)
  replace HL2 := Lib.hid (HL2.out.below hb2)
  replace HT2 := Lib.hid ((hb2.block _ (Array.getElem?_eq_some_iff.1 HT2.out).1).trans HT2.out)
  replace HL3 := Lib.hid (HL3.out.below hb2)
  replace HT3 := Lib.hid ((hb2.block _ (Array.getElem?_eq_some_iff.1 HT3.out).1).trans HT3.out)
  replace HL4 := Lib.hid (HL4.out.below hb2)
  replace HT4 := Lib.hid ((hb2.block _ (Array.getElem?_eq_some_iff.1 HT4.out).1).trans HT4.out)
  replace hb1 := below_then hb1 hb2
  clear hb2
  go_wp2_with fail
  refine (ux_3 A0 d0 HA0.out _ (HPW.out.below hb1) HL0.out).mono ?_
  rintro e s9 ⟨rfl, hb2⟩
  replace HL0 := Lib.hid (HL0.out.below hb2)
  replace HT0 := Lib.hid ((hb2.block _ (Array.getElem?_eq_some_iff.1 HT0.out).1).trans HT0.out)
  replace HL1 := Lib.hid (HL1.out.below hb2)
  replace HT1 := Lib.hid ((hb2.block _ (Array.getElem?_eq_some_iff.1 HT1.out).1).trans HT1.out)
  replace HL2 := Lib.hid (HL2.out.below hb2)
  replace HT2 := Lib.hid ((hb2.block _ (Array.getElem?_eq_some_iff.1 HT2.out).1).trans HT2.out)
  replace HL3 := Lib.hid (HL3.out.below hb2)
  replace HT3 := Lib.hid ((hb2.block _ (Array.getElem?_eq_some_iff.1 HT3.out).1).trans HT3.out)
  replace HL4 := Lib.hid (HL4.out.below hb2)
  replace HT4 := Lib.hid ((hb2.block _ (Array.getElem?_eq_some_iff.1 HT4.out).1).trans HT4.out)
  replace hb1 := below_then hb1 hb2
  clear hb2
  obtain ⟨x10, -, -, -, -, -⟩ := res_cells HT1.out
  obtain ⟨-, -, x21, -, -, -⟩ := res_cells HT2.out
  obtain ⟨x30, -, -, -, -, -⟩ := res_cells HT3.out
  obtain ⟨-, -, x41, -, -, -⟩ := res_cells HT4.out
  go_wp2_with fail
  refine (rSameRows_any A4 (some ⟨g, 2, none⟩) [(65543, 2)] [(65543, 2)] d4 1 (by simp) _ HL4.out (HS.out.below hb1)).mono ?_
  rintro e s10 ⟨rfl, hb2⟩
  go_wp2
  go_ret
  exact Ret.mk (by simp) (below_then hb0 (below_then hb1 hb2))
end Go.Proofs.YtfkkeokmkhjpfaaDoor
