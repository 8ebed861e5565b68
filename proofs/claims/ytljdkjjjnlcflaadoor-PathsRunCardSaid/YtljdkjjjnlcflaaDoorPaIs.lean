/- The document's own model of a tree of settings: whether rows may be a tree's. -/
import Derived.Test.YtljdkjjjnlcflaaDoorPaRef
namespace Go.Proofs.YtljdkjjjnlcflaaDoor
open Go.RowKit Tb Pt Opn

set_option maxHeartbeats 4000000 in
theorem rPaIs_any (c : Cf) (A : Option Addr) (l : List R) (d : Nat) (hl : l.length ≤ 1000000) (hw64 : ∀ x ∈ l, x.1 < 18446744073709551616) (w : World) (h : IsR w A l) :
    Calls Tryd.prog 15 #[cfv c, .slice A l.length d] w (Ret (.bool (ptB c l)) w) := by
  have HM := Lib.hid (rMayBe_any c)
  have HR := Lib.hid (fun W hA => rRise_any A l d (by omega) W hA)
  have HA := Lib.hid h
  have HWW := Lib.hid hw64
  clear hw64
  by_cases hok : Ok c
  · rw [ok_bit hok] at HM
    have HI := Lib.hid (show ∀ p, c.obj = 4 → (l.length : Int) ≤ c.cap → Up l → (p = true ↔ ∀ x ∈ l, PaOk x ∧ Kin l x.1) → p = ptB c l from fun p h1 h2 h3 h4 => by
      unfold ptB; rw [Bool.eq_iff_iff, h4, decide_eq_true_iff]; exact ⟨fun g => ⟨hok, h1, h2, h3, g⟩, fun g => g.2.2.2.2⟩)
    have HF1 := Lib.hid (show c.obj ≠ 4 → ptB c l = false from fun g => ptB_false fun k => g k.2.1)
    have HF2 := Lib.hid (show ¬ (l.length : Int) ≤ c.cap → ptB c l = false from fun g => ptB_false fun k => g k.2.2.1)
    have HF3 := Lib.hid (show ¬ Up l → ptB c l = false from fun g => ptB_false fun k => g k.2.2.2.1)
    obtain ⟨r, hr⟩ : ∃ r, ptB c l = r := ⟨_, rfl⟩
    rw [hr] at HI HF1 HF2 HF3 ⊢
    obtain ⟨u, hu⟩ : ∃ u, decide (Up l) = u := ⟨_, rfl⟩
    rw [hu] at HR
    have HUU := Lib.hid hu
    obtain ⟨N, hN⟩ : ∃ N, l.length = N := ⟨_, rfl⟩
    rw [hN] at hl HR HI HF2 ⊢
    have HN := Lib.hid hN
    clear hok hr hu hN h
    unfold cfv at *
    by_cases ho : c.obj = 4
    · rw [ho] at HM ⊢
      have HOB := Lib.hid ho
      clear ho
      by_cases hcap : (N : Int) ≤ c.cap
      · cases u with
        | true =>
          go_enter Tryd.func15, Tryd.ntmps15
          have hc2 : ¬ c.cap < (N : Int) := by omega
          go_wp2_with (first
            | (go_at_call 28; refine (HM.out _).mono ?_; rintro e w1 ⟨rfl, hb1⟩; obtain ⟨hc1, hf1⟩ := bcell hb1)
            | (go_at_call 32; refine (HR.out _ (HA.out.below (below_then (below_one _ _) hb1))).mono ?_; rintro e w2 ⟨rfl, hb2⟩; replace hb1 := below_then hb1 hb2; clear hc1 hf1 hb2; obtain ⟨hc1, hf1⟩ := bcell hb1))
          have hb0 := below_then (below_one _ _) hb1
          have HA2 := Lib.hid (HA.out.below hb0)
          clear hc1 hf1 hb1
          go_loopw [5] (fun i wr => Below w2.heap.size w2 wr ∧ ∃ j : Nat, j ≤ N ∧ i = .int .i64 j ∧ Hid (∀ m, (hm : m < l.length) → m < j → (PaOk l[m] ∧ Kin l l[m].1))) (fun i _ => N - (intOf i).toNat)
          case atStart => exact ⟨Below.refl _ _, 0, Nat.zero_le _, rfl, Lib.hid fun m _ hm => by omega⟩
          case round =>
            obtain ⟨hbr, j, hj, rfl, HO⟩ := hrel
            have i1 : (0 : Int) ≤ (j : Int) := by omega
            by_cases hlt : j < N
            · have j1 : j < l.length := by rw [HN.out]; exact hlt
              obtain ⟨bk, off, rfl, h1, h2⟩ := HA2.out.row j1
              replace h1 := (hbr.cell (World.block_lt_of_cell? _ _ h1)).trans h1
              replace h2 := (hbr.cell (World.block_lt_of_cell? _ _ h2)).trans h2
              have i2 : (j : Int) < (N : Int) := by omega
              obtain ⟨q1, e1⟩ : ∃ q, l[j].1 = q := ⟨_, rfl⟩
              obtain ⟨q2, e2⟩ : ∃ q, l[j].2 = q := ⟨_, rfl⟩
              have hwq := HWW.out _ (List.getElem_mem j1)
              rw [e1] at h1 hwq
              rw [e2] at h2
              have E := Lib.hid (Prod.ext e1 e2 : l[j] = (q1, q2))
              clear e1 e2
              obtain ⟨p, hp⟩ : ∃ p, par q1 = p := ⟨_, rfl⟩
              obtain ⟨f, hf⟩ : ∃ f, fnd l p = f := ⟨_, rfl⟩
              have HE := Lib.hid (show (PaOk l[j] ∧ Kin l l[j].1) ↔ (IsPa q1 ∧ q2 ≤ 2147483648) ∧ (p ≠ 0 → ¬ f < 0) by
                rw [E.out]
                unfold PaOk Kin
                simp only
                rw [hp, ← hf]
                rcases fnd_get l p with ⟨g1, g2⟩ | ⟨i, _, g1, _, g2⟩
                · rw [g1, g2]; simp
                · rw [g1, g2]; simp)
              have HX := Lib.hid (show ¬ ((IsPa q1 ∧ q2 ≤ 2147483648) ∧ (p ≠ 0 → ¬ f < 0)) → false = r from fun g => HI.out false HOB.out hcap (of_decide_eq_true HUU.out) ⟨(fun g => by cases g), (fun g' => absurd (HE.out.1 (g' _ (List.getElem_mem j1))) g)⟩)
              have HIP := Lib.hid (pIsPath_any q1 hwq)
              have HPA := Lib.hid (pParent_any q1 hwq)
              have HFI := Lib.hid (fun W hA => rFind_any (some ⟨bk, off, none⟩) l d (by rw [HN.out]; omega) p W hA)
              rw [hp] at HPA
              rw [HN.out, hf] at HFI
              obtain ⟨z, hz⟩ : ∃ z, decide (IsPa q1) = z := ⟨_, rfl⟩
              rw [hz] at HIP
              have HZ := Lib.hid (show z = true ↔ IsPa q1 by rw [← hz]; exact decide_eq_true_iff)
              have hbk : bk < wr.heap.size := World.block_lt_of_cell? _ _ h2
              have HAr := Lib.hid (HA2.out.below hbr)
              clear hz hp hf hwq
              cases z with
              | false =>
                go_wp2_with fail
                refine (HIP.out _).mono ?_
                rintro e w3 ⟨rfl, hb3⟩
                go_wp2
                go_ret
                exact Ret.mk (bool_eq (HX.out (fun g => by have := HZ.out.2 g.1.1; cases this))) (hb0.trans ((below_then hbr hb3).mono hb0.size))
              | true =>
                by_cases d7 : q2 ≤ 2147483648
                · have d8 : ¬ (2147483648 : Int) < (q2 : Int) := by omega
                  go_wp2_with fail
                  refine (HIP.out _).mono ?_
                  rintro e w3 ⟨rfl, hb3⟩
                  replace h1 := (hb3.cell hbk).trans h1
                  replace h2 := (hb3.cell hbk).trans h2
                  go_wp2_with fail
                  refine (HPA.out _).mono ?_
                  rintro e w4 ⟨rfl, hb4⟩
                  have hb34 := below_then hb3 hb4
                  have HA4 := Lib.hid (HAr.out.below hb34)
                  have HB34 := Lib.hid (below_then hbr hb34)
                  clear hb3 hb4 hb34 h1 h2
                  by_cases d9 : p = 0
                  · have d10 : ((p : Int) != 0) = false := by rw [d9]; rfl
                    have HP0 := Lib.hid d9
                    clear d9
                    go_wp2
                    go_roundw
                    case rel => exact ⟨HB34.out, j + 1, by omega, by go_num, Lib.hid fun m hm1 hm2 => by
                      by_cases e : m = j
                      · subst e; exact HE.out.2 ⟨⟨HZ.out.1 (by trivial), d7⟩, fun g => absurd HP0.out g⟩
                      · exact HO.out m hm1 (by omega)⟩
                    case measure => simp [intOf]; omega
                  · have d10 : ((p : Int) != 0) = true := bne_iff_ne.2 (by omega)
                    by_cases d11 : f < 0
                    · go_wp2_with fail
                      refine (HFI.out _ HA4.out).mono ?_
                      rintro e w5 ⟨rfl, hb5⟩
                      go_wp2
                      go_ret
                      exact Ret.mk (bool_eq (HX.out (fun g => absurd d11 (by have := g.2 d9; omega)))) (hb0.trans ((below_then HB34.out hb5).mono hb0.size))
                    · go_wp2_with fail
                      refine (HFI.out _ HA4.out).mono ?_
                      rintro e w5 ⟨rfl, hb5⟩
                      have HD11 := Lib.hid d11
                      go_wp2
                      go_roundw
                      case rel => exact ⟨below_then HB34.out hb5, j + 1, by omega, by go_num, Lib.hid fun m hm1 hm2 => by
                        by_cases e : m = j
                        · subst e; exact HE.out.2 ⟨⟨HZ.out.1 (by trivial), d7⟩, fun _ => HD11.out⟩
                        · exact HO.out m hm1 (by omega)⟩
                      case measure => simp [intOf]; omega
                · have d8 : (2147483648 : Int) < (q2 : Int) := by omega
                  go_wp2_with fail
                  refine (HIP.out _).mono ?_
                  rintro e w3 ⟨rfl, hb3⟩
                  replace h1 := (hb3.cell hbk).trans h1
                  replace h2 := (hb3.cell hbk).trans h2
                  go_wp2
                  go_ret
                  exact Ret.mk (bool_eq (HX.out (fun g => d7 g.1.2))) (hb0.trans ((below_then hbr hb3).mono hb0.size))
            · obtain rfl : j = N := by omega
              go_wp2
              go_ret
              exact Ret.mk (bool_eq (HI.out true HOB.out hcap (of_decide_eq_true HUU.out) ⟨fun _ x hx => by
                obtain ⟨i, hi, rfl⟩ := List.getElem_of_mem hx
                exact HO.out i hi (by rw [← HN.out]; exact hi), fun _ => rfl⟩)) (hb0.trans (hbr.mono hb0.size))
        | false =>
          have hr := HF3.out (of_decide_eq_false HUU.out)
          rw [hr]
          go_enter Tryd.func15, Tryd.ntmps15
          have hc2 : ¬ c.cap < (N : Int) := by omega
          go_wp2_with (first
            | (go_at_call 28; refine (HM.out _).mono ?_; rintro e w1 ⟨rfl, hb1⟩; obtain ⟨hc1, hf1⟩ := bcell hb1)
            | (go_at_call 32; refine (HR.out _ (HA.out.below (below_then (below_one _ _) hb1))).mono ?_; rintro e w2 ⟨rfl, hb2⟩; replace hb1 := below_then hb1 hb2; clear hc1 hf1 hb2; obtain ⟨hc1, hf1⟩ := bcell hb1))
          go_ret
          exact Ret.mk rfl (below_then (below_one _ _) hb1)
      · have hr := HF2.out hcap
        rw [hr]
        go_enter Tryd.func15, Tryd.ntmps15
        have hc2 : c.cap < (N : Int) := by omega
        go_wp2_with (go_at_call 28; refine (HM.out _).mono ?_; rintro e w1 ⟨rfl, hb1⟩; obtain ⟨hc1, hf1⟩ := bcell hb1)
        go_ret
        exact Ret.mk rfl (below_then (below_one _ _) hb1)
    · have hr := HF1.out ho
      rw [hr]
      go_enter Tryd.func15, Tryd.ntmps15
      have ho2 : (c.obj != 4) = true := bne_iff_ne.2 ho
      go_wp2_with (go_at_call 28; refine (HM.out _).mono ?_; rintro e w1 ⟨rfl, hb1⟩; obtain ⟨hc1, hf1⟩ := bcell hb1)
      go_ret
      exact Ret.mk rfl (below_then (below_one _ _) hb1)
  · rw [show okB c = false from decide_eq_false hok] at HM
    rw [ptB_false fun k => hok k.1]
    generalize l.length = N at *
    clear h HR
    unfold cfv at *
    go_enter Tryd.func15, Tryd.ntmps15
    go_wp2_with (go_at_call 28; refine (HM.out _).mono ?_; rintro e w1 ⟨rfl, hb1⟩; obtain ⟨hc1, hf1⟩ := bcell hb1)
    go_ret
    exact Ret.mk rfl (below_then (below_one _ _) hb1)
end Go.Proofs.YtljdkjjjnlcflaaDoor
