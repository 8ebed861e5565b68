/- What op.Check refuses is answered so in every state that a fold leaves. -/
import Derived.Test.YtnepdbfnbikplaaGreatDoorMoLive
import Derived.Test.YtnepdbfnbikplaaGreatDoorGOpen
namespace Go.Proofs.YtnepdbfnbikplaaGreatDoor
open Go.RowKit Go.Lib Tb Pt Opn

set_option maxRecDepth 100000 in
set_option maxHeartbeats 8000000 in
theorem refuses_conf (c : Cf) (A : Option Addr) (os : List O) (d : Nat) (o : O) (ho : Wf o) (hw : ∀ x ∈ os, Wf x) (hl : os.length ≤ 60) (hc : ¬ Ok c) (w : World) (hp : Obs w) (h : IsL w A 4 opC os) :
    Calls Tryz.prog 3 #[cfv c, .slice A os.length d, opv o] w (Ret (.bool true) w) := by
  have HAL := Lib.hid (fun W hp => malive_any W hp)
  have HF := Lib.hid (fun W hp hA => mfold_any c A os d (by omega) hw W hp hA)
  have eR : foldR c os = ([], []) := by unfold foldR; rw [if_pos hc]
  have eE : foldE c os = 40 := by unfold foldE; rw [if_pos hc]
  rw [eR, eE] at HF
  have HD := Lib.hid (fun A d W hn hp hA => mdo_any c A [] d o ho hn (by simp) (fun x hx => by cases hx) W hp hA)
  rw [errM_conf hc, doM_none o (st_not hc [])] at HD
  have HP := Lib.hid hp
  have HA := Lib.hid h
  generalize os.length = N at *
  clear eR eE hp h hw hc ho
  unfold cfv opv at *
  go_enter Tryz.func3, Tryz.ntmps3
  go_wp2_with (go_at_call 4; refine (HAL.out _ (HP.out.below (below_two _ _ _))).mono ?_; rintro e w1 ⟨rfl, hb1⟩; obtain ⟨hc1, hf1⟩ := bcell hb1)
  refine (HF.out _ (HP.out.below (below_then (below_two _ _ _) hb1)) (HA.out.below (below_then (below_two _ _ _) hb1))).mono ?_
  rintro e w2 ⟨u, t, rfl, hu, ht, hb2⟩
  obtain ⟨A1, c1, rfl, _, hn1, hr1⟩ := hu
  obtain ⟨A2, c2, rfl, _⟩ := ht.form
  replace hb1 := below_then hb1 hb2
  clear hc1 hf1 hb2 ht
  obtain ⟨hc1, hf1⟩ := bcell hb1
  have HD2 := Lib.hid (HD.out A1 c1 w2 hn1 (HP.out.below (below_then (below_two _ _ _) hb1)) hr1)
  simp only [List.length_nil] at HD2 ⊢
  go_wp2_with fail
  refine HD2.out.mono ?_
  rintro e w3 ⟨u3, r3, rfl, hu3, hr3, hb3⟩
  obtain ⟨A3, c3, rfl, _, hn3, _⟩ := hu3
  obtain ⟨A4, c4, rfl, _, hn4, _⟩ := hr3
  replace hb1 := below_then hb1 hb3
  clear hc1 hf1 hb3
  go_wp2
  go_ret
  exact Ret.mk rfl (below_then (below_then (below_two _ _ _) hb1) (below_one _ _))

set_option maxRecDepth 100000 in
set_option maxHeartbeats 8000000 in
theorem refuses_ok (c : Cf) (A : Option Addr) (os : List O) (d : Nat) (o : O) (ho : Wf o) (hw : ∀ x ∈ os, Wf x) (hl : os.length ≤ 60) (hc : Ok c) (w : World) (hp : Obs w) (h : IsL w A 4 opC os) :
    Calls Tryz.prog 3 #[cfv c, .slice A os.length d, opv o] w (Ret (.bool true) w) := by
  have HAL := Lib.hid (fun W hp => malive_any W hp)
  have HF := Lib.hid (fun W hp hA => mfold_any c A os d (by omega) hw W hp hA)
  have eR : foldR c os = foldM c [] os := by unfold foldR; rw [if_neg (not_not_intro hc), if_neg (by omega)]
  have eE : foldE c os = 0 := by unfold foldE; rw [if_neg (not_not_intro hc), if_neg (by omega)]
  rw [eR, eE] at HF
  have hst : StM c (foldM c [] os).1 := foldM_tab hw (st_nil hc)
  have he : doME c (foldM c [] os).1 = 0 := by
    rcases doM_cases c (foldM c [] os).1 with g | g
    · exact g.1
    · exact absurd hst g.2
  have HD := Lib.hid (fun A d W hn hp hA => mdo_any c A (foldM c [] os).1 d o ho hn (by have := st_len hst; omega) (st_words hst) W hp hA)
  rw [he] at HD
  have hbad := fun h => @doM_bad c (foldM c [] os).1 o hst h
  have hgood := fun h => @doM_code c (foldM c [] os).1 o hst h
  have hsl := st_len hst
  have HCK := Lib.hid (check_op c o ho)
  obtain ⟨⟨l, t0⟩, hlt⟩ : ∃ s, foldM c [] os = s := ⟨_, rfl⟩
  rw [hlt] at HF HD hbad hgood hsl
  simp only at HD hbad hgood hsl
  obtain ⟨⟨s1, s2, s3, s4⟩, hs⟩ : ∃ s, doMR c l o = s := ⟨_, rfl⟩
  rw [hs] at HD hbad hgood
  simp only at hgood
  obtain ⟨x, hx⟩ : ∃ x, chk c o = x := ⟨_, rfl⟩
  rw [hx] at hbad hgood HCK
  have HSR := Lib.hid (fun A B c0 d0 W h g => rSameRows_any A B s1 l c0 d0 (by
    have : StM c s1 := by have := doM_tab ho (show StM c l by rw [hlt] at hst; exact hst); rw [hs] at this; exact this
    have := st_len this; omega) W h g)
  have HP := Lib.hid hp
  have HA := Lib.hid h
  have HBG := Lib.hid (And.intro hbad hgood)
  generalize os.length = N at *
  clear eR eE hp h hw hc ho hst he hbad hgood hlt hs hx
  unfold cfv opv at *
  go_enter Tryz.func3, Tryz.ntmps3
  go_wp2_with (go_at_call 4; refine (HAL.out _ (HP.out.below (below_two _ _ _))).mono ?_; rintro e w1 ⟨rfl, hb1⟩; obtain ⟨hc1, hf1⟩ := bcell hb1)
  refine (HF.out _ (HP.out.below (below_then (below_two _ _ _) hb1)) (HA.out.below (below_then (below_two _ _ _) hb1))).mono ?_
  rintro e w2 ⟨u, t, rfl, hu, ht, hb2⟩
  obtain ⟨A1, c1, rfl, _, hn1, hr1⟩ := hu
  obtain ⟨A2, c2, rfl, _⟩ := ht.form
  simp only at hr1 hn1 ⊢
  replace hb1 := below_then hb1 hb2
  clear hc1 hf1 hb2 ht
  obtain ⟨hc1, hf1⟩ := bcell hb1
  have HD2 := Lib.hid (HD.out A1 c1 w2 hn1 (HP.out.below (below_then (below_two _ _ _) hb1)) hr1)
  obtain ⟨L, hL⟩ : ∃ L, l.length = L := ⟨_, rfl⟩
  obtain ⟨N2, hN2⟩ : ∃ L, t0.length = L := ⟨_, rfl⟩
  rw [hL] at HD2 ⊢
  rw [hN2] at ⊢
  have HR1 := Lib.hid hr1
  have HLL := Lib.hid hL
  go_wp2_with fail
  refine HD2.out.mono ?_
  rintro e w3 ⟨u3, r3, rfl, hu3, hr3, hb3⟩
  simp only at hu3 hr3
  obtain ⟨A3, c3, rfl, _, hn3, g3⟩ := hu3
  obtain ⟨A4, c4, rfl, _, hn4, _⟩ := hr3
  have HR3 := Lib.hid g3
  have HR2 := Lib.hid (HR1.out.below hb3)
  replace hb1 := below_then hb1 hb3
  clear hc1 hf1 hb3 g3 hr1
  obtain ⟨hc1, hf1⟩ := bcell hb1
  have hca := fun ob => (bcell (below_then hb1 (below_one w3 ob))).1
  have HB3 := Lib.hid (below_then (below_two _ _ _) hb1)
  obtain ⟨N3, hN3⟩ : ∃ L, s1.length = L := ⟨_, rfl⟩
  obtain ⟨N4, hN4⟩ : ∃ L, s4.length = L := ⟨_, rfl⟩
  rw [hN3, hN4]
  have H34 := Lib.hid (And.intro hN3 hN4)
  clear hN3 hN4
  by_cases hx0 : x = 0
  · subst hx0
    obtain ⟨q1, q2, q3⟩ := HBG.out.2 rfl
    have q1 : (s2 != 50) = true := bne_iff_ne.2 q1
    have q2 : (s2 != 10) = true := bne_iff_ne.2 q2
    have q3 : (s2 != 40) = true := bne_iff_ne.2 q3
    go_wp2_with (go_at_call 7; refine (HCK.out _ (HP.out.below (below_then HB3.out (below_one _ _)))).mono ?_; rintro e w4 ⟨rfl, hb4⟩; obtain ⟨hc4, hf4⟩ := bcell hb4)
    go_ret
    exact Ret.mk rfl (below_then (below_then HB3.out (below_one _ _)) hb4)
  · have hq := HBG.out.1 hx0
    simp only [Prod.mk.injEq] at hq
    obtain ⟨rfl, rfl, rfl, rfl⟩ := hq
    have q0 : (s2 != 0) = true := bne_iff_ne.2 hx0
    obtain rfl : N4 = 0 := H34.out.2.symm
    go_wp2_with (go_at_call 7; refine (HCK.out _ (HP.out.below (below_then HB3.out (below_one _ _)))).mono ?_; rintro e w4 ⟨rfl, hb4⟩; obtain ⟨hc4, hf4⟩ := bcell hb4)
    obtain rfl : N3 = L := H34.out.1.symm.trans HLL.out
    have HS2 := Lib.hid (HSR.out A3 A1 c3 c1 w4 ((HR3.out.below (below_one _ _)).below hb4) ((HR2.out.below (below_one _ _)).below hb4))
    simp only [decide_true] at HS2
    rw [HLL.out] at HS2
    refine HS2.out.mono ?_
    rintro e w5 ⟨rfl, hb5⟩
    go_wp2
    go_ret
    exact Ret.mk rfl (below_then (below_then (below_then HB3.out (below_one _ _)) hb4) hb5)

set_option maxRecDepth 100000 in
set_option maxHeartbeats 8000000 in
theorem refuses_long (c : Cf) (A : Option Addr) (N d : Nat) (o : O) (hl : 60 < N) (w : World) (hp : Obs w) :
    Calls Tryz.prog 3 #[cfv c, .slice A N d, opv o] w (Ret (.bool true) w) := by
  have HAL := Lib.hid (fun W hp => malive_any W hp)
  have HP := Lib.hid hp
  have i1 : (N : Int) > 60 := by omega
  unfold cfv opv
  go_enter Tryz.func3, Tryz.ntmps3
  go_wp2_with (go_at_call 4; refine (HAL.out _ (HP.out.below (below_two _ _ _))).mono ?_; rintro e w1 ⟨rfl, hb1⟩)
  go_ret
  exact Ret.mk rfl (below_then (below_two _ _ _) hb1)

theorem refuses_any (c : Cf) (A : Option Addr) (os : List O) (d : Nat) (o : O) (ho : Wf o) (hw : ∀ x ∈ os, Wf x) (w : World) (hp : Obs w) (h : IsL w A 4 opC os) :
    Calls Tryz.prog 3 #[cfv c, .slice A os.length d, opv o] w (Ret (.bool true) w) := by
  by_cases hl : os.length ≤ 60
  · by_cases hc : Ok c
    · exact refuses_ok c A os d o ho hw hl hc w hp h
    · exact refuses_conf c A os d o ho hw hl hc w hp h
  · exact refuses_long c A os.length d o (by omega) w hp
end Go.Proofs.YtnepdbfnbikplaaGreatDoor

namespace Go.Proofs.YtnepdbfnbikplaaGreatDoor.modelRefuses
open Go.ChangeShapes Go.WideShapes Go.ChangeAt Go.RowKit Pt Opn Tb

theorem walk (c : Cf) (A : Option Addr) (d : Nat) (l : List OW) (_ : A = none → l.length = 0 ∧ d = 0) (o : O) (ho : Wf o) (w : World) (hp : Obs w) (h : IsL w A 4 opc l) :
    Calls Tryz.prog 3 #[cfv c, .slice A l.length d, opv o] w (Ret (.bool true) w) := by
  have g := refuses_any c A (l.map (·.1)) d o ho (fun x hx => by
    obtain ⟨y, _, rfl⟩ := List.mem_map.1 hx
    exact y.2) w hp (fun i x hx => by
    rw [List.getElem?_map] at hx
    cases hy : l[i]? with
    | none => rw [hy] at hx; cases hx
    | some y =>
      rw [hy] at hx
      injection hx with hx
      subst hx
      exact h i y hy)
  rw [List.length_map] at g
  exact g

set_option maxRecDepth 100000 in
theorem lifted (os : Os) (started : os.Started) (H : Type) (enc : TypeId × Value → H) :
    ReturnsInHanded {} Tryz.checked os 3 .any (fun w args => (Rows.modelRefusesSpec.pre enc Tryz.prog Tryz.f3 [] false w args ∧ laidMetH Tryz.prog laidL w) ∧ sizedMet enc Tryz.prog Tryz.f3 (OpenSpec.ofChange Rows.modelRefusesSpec) false w args)
      (Rows.modelRefusesSpec.post enc Tryz.prog Tryz.f3 false true false false) := by
  refine returnsInHanded_of_change_and (C := Tryz.checked) (X := fun w _ => laidMetH Tryz.prog laidL w) (fun _ _ _ hh h => h.of_heap hh) own started (by kernel_rfl) Tryz.func3
    (ChangeSpec.witness_shaped (enc := enc) (C := Tryz.checked) (os := os) (X := fun w _ => laidMetH Tryz.prog laidL w) false (World.doorLaid Tryz.prog 400 os) #[.agg #[.int .u8 0, .int .i64 0, .int .i64 0, .int .u8 0, .int .i64 0, .int .i64 0, .int .i64 0, .int .i64 0, .int .i64 0, .int .i64 0, .int .u64 0, .int .u64 0], .slice none 0 0, .agg #[.int .u8 0, .int .u32 0, .int .u32 0, .int .u32 0]] 8 rfl (World.shaped_of_RefB (by kernel_rfl) (by kernel_rfl)) (by kernel_rfl) (by kernel_rfl) (by kernel_rfl) (door_met os _)) ?_
  intro W base args ds gs before hval0 hW _ _ hL _
  refine law_of laidOut (by kernel_rfl) (by kernel_rfl) Tryz.underlying4 rfl ?_ hW fun p hA => ?_
  · intro ds hd
    match ds, hd with
    | [_, _, _], _ => rfl
  have hval' : ∀ (j : Nat) t v, Tryz.f3.params[j]? = some t → args[j]? = some v → Value.okWide Tryz.prog W .any base t v := hval0
  rw [Tryz.params3] at hA hval'
  obtain ⟨v0, vs0, d0, ds0, p0, q0, hargs, rfl, rfl, h0, r0⟩ := trodAll_cons hA
  obtain ⟨v1, vs1, d1, ds1, p1, q1, rfl, rfl, rfl, h1, r1⟩ := trodAll_cons r0
  obtain ⟨v2, vs2, d2, ds2, p2, q2, rfl, rfl, rfl, h2, r2⟩ := trodAll_cons r1
  obtain ⟨rfl, rfl, rfl⟩ := trodAll_nil r2
  obtain rfl : args = #[v0, v1, v2] := by cases args; simp_all
  obtain ⟨c, rfl⟩ := open_cfg (hval' 0 _ v0 rfl rfl) h0
  obtain ⟨A, d, l, rfl, hAn, hl⟩ := open_ops (hval' 1 _ v1 rfl rfl) h1
  obtain ⟨o, ho, rfl⟩ := open_op (hval' 2 _ v2 rfl rfl) h2
  exact walk c A d l hAn o ho W (of_laid hL) hl

theorem row : Rows.ModelRefusesSaid :=
  OpenClaim.holds_of_wide 3 Tryz.f3 rfl rfl rfl rfl rfl rfl rfl ⟨rfl, rfl, rfl, rfl, rfl⟩ rfl rfl rfl rfl rfl (by kernel_rfl) Tryz.func3 (by kernel_rfl)
    (of_decide_eq_true (by kernel_rfl)) (by unfold Func.isWrapper; first | (rw [if_pos (by decide +kernel)]; kernel_rfl) | (rw [if_neg (by decide +kernel)]; exact ⟨rfl, rfl⟩))
    (fun os started H enc _ => lifted os started H enc)

theorem card : Rows.ModelRefusesCardSaid :=
  Claim7.holds_tied_plain_at .later [] [.data] true Rows.modelRefusesCard.stood.harness false
    row (fun _ h => by cases h) (by kernel_rfl) (fun _ h => by cases h) modelRefuses_row_tie rfl ⟨rfl, rfl⟩ (by kernel_rfl) rfl
    (fun f fn hf hfn => by
      obtain rfl : f = 3 := Option.some.inj ((show Tryz.prog.funcNamed "bascule/basculelaw10.ModelRefuses" = some 3 by kernel_rfl).symm.trans hf) |>.symm
      obtain rfl : fn = Tryz.f3 := (Option.some.inj (Tryz.func3.symm.trans hfn)).symm
      exact ⟨by kernel_rfl, fun j t ht => by
        rw [Tryz.params3] at ht
        have hm : t ∈ [24, 25, 28] := by simpa using Array.mem_of_getElem? ht
        have hall : ([24, 25, 28].all fun u => !Tryz.prog.wantsStandIn u) = true := by kernel_rfl
        exact (show Tryz.prog.wantsStandIn t = false by simpa using List.all_eq_true.1 hall t hm)⟩)
    (by kernel_rfl)
#print axioms card

end Go.Proofs.YtnepdbfnbikplaaGreatDoor.modelRefuses
