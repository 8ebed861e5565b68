/- The document's own model of an index: whether rows may be an index's. -/
import Derived.Test.YtohllaolbebogaaDoorRowRef
import Derived.Test.YtohllaolbebogaaDoorOpRefChk
import Derived.Test.YtohllaolbebogaaDoorPtRefMay
namespace Go.Proofs.YtohllaolbebogaaDoor
open Go.RowKit Tb Pt Opn

/-- A key and a value that may stand in an index. -/
def OrOk (x : R) : Prop := x.1 ≤ 2147483647 ∧ x.2 ≤ 2147483647
instance (x : R) : Decidable (OrOk x) := by unfold OrOk; infer_instance
/-- Rows that may be an index's. -/
def IsOr (c : Cf) (l : List R) : Prop := Ok c ∧ c.obj = 2 ∧ (l.length : Int) ≤ c.cap ∧ Up l ∧ ∀ x ∈ l, OrOk x
instance (c : Cf) (l : List R) : Decidable (IsOr c l) := by unfold IsOr; infer_instance
def orB (c : Cf) (l : List R) : Bool := decide (IsOr c l)
theorem orB_false {c : Cf} {l : List R} (h : ¬ IsOr c l) : orB c l = false := decide_eq_false h
theorem orB_true {c : Cf} {l : List R} (h : IsOr c l) : orB c l = true := decide_eq_true h

set_option maxHeartbeats 4000000 in
theorem rOrIs_any (c : Cf) (A : Option Addr) (l : List R) (d : Nat) (hl : l.length ≤ 1000000) (w : World) (h : IsR w A l) :
    Calls Tryd.prog 17 #[cfv c, .slice A l.length d] w (Ret (.bool (orB c l)) w) := by
  have HM := Lib.hid (rMayBe_any c)
  have HR := Lib.hid (fun W hA => rRise_any A l d (by omega) W hA)
  have HA := Lib.hid h
  by_cases hok : Ok c
  · rw [ok_bit hok] at HM
    have HI := Lib.hid (show ∀ p, c.obj = 2 → (l.length : Int) ≤ c.cap → Up l → (p = true ↔ ∀ x ∈ l, OrOk x) → p = orB c l from fun p h1 h2 h3 h4 => by
      unfold orB; rw [Bool.eq_iff_iff, h4, decide_eq_true_iff]; exact ⟨fun g => ⟨hok, h1, h2, h3, g⟩, fun g => g.2.2.2.2⟩)
    have HF1 := Lib.hid (show c.obj ≠ 2 → orB c l = false from fun g => orB_false fun k => g k.2.1)
    have HF2 := Lib.hid (show ¬ (l.length : Int) ≤ c.cap → orB c l = false from fun g => orB_false fun k => g k.2.2.1)
    have HF3 := Lib.hid (show ¬ Up l → orB c l = false from fun g => orB_false fun k => g k.2.2.2.1)
    obtain ⟨r, hr⟩ : ∃ r, orB c l = r := ⟨_, rfl⟩
    rw [hr] at HI HF1 HF2 HF3 ⊢
    obtain ⟨u, hu⟩ : ∃ u, decide (Up l) = u := ⟨_, rfl⟩
    rw [hu] at HR
    have HUU := Lib.hid hu
    obtain ⟨N, hN⟩ : ∃ N, l.length = N := ⟨_, rfl⟩
    rw [hN] at hl HR HI HF2 ⊢
    have HN := Lib.hid hN
    clear hok hr hu hN h
    unfold cfv at *
    by_cases ho : c.obj = 2
    · rw [ho] at HM ⊢
      have HOB := Lib.hid ho
      clear ho
      by_cases hcap : (N : Int) ≤ c.cap
      · cases u with
        | true =>
          go_enter Tryd.func17, Tryd.ntmps17
          have hc2 : ¬ c.cap < (N : Int) := by omega
          go_wp2_with (first
            | (go_at_call 30; refine (HM.out _).mono ?_; rintro e w1 ⟨rfl, hb1⟩; obtain ⟨hc1, hf1⟩ := bcell hb1)
            | (go_at_call 34; refine (HR.out _ (HA.out.below (below_then (below_one _ _) hb1))).mono ?_; rintro e w2 ⟨rfl, hb2⟩; replace hb1 := below_then hb1 hb2; clear hc1 hf1 hb2; obtain ⟨hc1, hf1⟩ := bcell hb1))
          have hb0 := below_then (below_one _ _) hb1
          have HA2 := Lib.hid (HA.out.below hb0)
          clear hc1 hf1 hb1
          go_loopw [5] (fun i wr => Below w2.heap.size w2 wr ∧ ∃ j : Nat, j ≤ N ∧ i = .int .i64 j ∧ Hid (∀ m, (hm : m < l.length) → m < j → OrOk l[m])) (fun i _ => N - (intOf i).toNat)
          case atStart => exact ⟨Below.refl _ _, 0, Nat.zero_le _, rfl, Lib.hid fun m _ hm => by omega⟩
          case round =>
            obtain ⟨hbr, j, hj, rfl, HO⟩ := hrel
            have i1 : (0 : Int) ≤ (j : Int) := by omega
            by_cases hlt : j < N
            · have j1 : j < l.length := by rw [HN.out]; exact hlt
              obtain ⟨bk, off, rfl, h1, h2⟩ := HA2.out.row j1
              replace h1 := (hbr.cell (World.block_lt_of_cell? _ _ h1)).trans h1
              replace h2 := (hbr.cell (World.block_lt_of_cell? _ _ h2)).trans h2
              have i2 : (j : Int) < (N : Int) := by omega
              obtain ⟨q1, e1⟩ : ∃ q, l[j].1 = q := ⟨_, rfl⟩
              obtain ⟨q2, e2⟩ : ∃ q, l[j].2 = q := ⟨_, rfl⟩
              rw [e1] at h1
              rw [e2] at h2
              have E := Lib.hid (Prod.ext e1 e2 : l[j] = (q1, q2))
              clear e1 e2
              have HE := Lib.hid (show OrOk l[j] ↔ q1 ≤ 2147483647 ∧ q2 ≤ 2147483647 by rw [E.out]; exact Iff.rfl)
              have HX := Lib.hid (show ¬ (q1 ≤ 2147483647 ∧ q2 ≤ 2147483647) → false = r from fun g => HI.out false HOB.out hcap (of_decide_eq_true HUU.out) ⟨(fun g => by cases g), (fun g' => absurd (HE.out.1 (g' _ (List.getElem_mem j1))) g)⟩)
              by_cases d1 : 2147483647 < q1
              · have d2 : (2147483647 : Int) < (q1 : Int) := by omega
                go_wp2
                go_ret
                exact Ret.mk (bool_eq (HX.out (by omega))) (hb0.trans (hbr.mono hb0.size))
              · have d2 : ¬ (2147483647 : Int) < (q1 : Int) := by omega
                by_cases d7 : 2147483647 < q2
                · have d8 : (2147483647 : Int) < (q2 : Int) := by omega
                  go_wp2
                  go_ret
                  exact Ret.mk (bool_eq (HX.out (by omega))) (hb0.trans (hbr.mono hb0.size))
                · have d8 : ¬ (2147483647 : Int) < (q2 : Int) := by omega
                  go_wp2
                  go_roundw
                  case rel => exact ⟨hbr, j + 1, by omega, by go_num, Lib.hid fun m hm1 hm2 => by
                    by_cases e : m = j
                    · subst e; exact HE.out.2 (by omega)
                    · exact HO.out m hm1 (by omega)⟩
                  case measure => simp [intOf]; omega
            · obtain rfl : j = N := by omega
              go_wp2
              go_ret
              exact Ret.mk (bool_eq (HI.out true HOB.out hcap (of_decide_eq_true HUU.out) ⟨fun _ x hx => by
                obtain ⟨i, hi, rfl⟩ := List.getElem_of_mem hx
                exact HO.out i hi (by rw [← HN.out]; exact hi), fun _ => rfl⟩)) (hb0.trans (hbr.mono hb0.size))
        | false =>
          have hr := HF3.out (of_decide_eq_false HUU.out)
          rw [hr]
          go_enter Tryd.func17, Tryd.ntmps17
          have hc2 : ¬ c.cap < (N : Int) := by omega
          go_wp2_with (first
            | (go_at_call 30; refine (HM.out _).mono ?_; rintro e w1 ⟨rfl, hb1⟩; obtain ⟨hc1, hf1⟩ := bcell hb1)
            | (go_at_call 34; refine (HR.out _ (HA.out.below (below_then (below_one _ _) hb1))).mono ?_; rintro e w2 ⟨rfl, hb2⟩; replace hb1 := below_then hb1 hb2; clear hc1 hf1 hb2; obtain ⟨hc1, hf1⟩ := bcell hb1))
          go_ret
          exact Ret.mk rfl (below_then (below_one _ _) hb1)
      · have hr := HF2.out hcap
        rw [hr]
        go_enter Tryd.func17, Tryd.ntmps17
        have hc2 : c.cap < (N : Int) := by omega
        go_wp2_with (go_at_call 30; refine (HM.out _).mono ?_; rintro e w1 ⟨rfl, hb1⟩; obtain ⟨hc1, hf1⟩ := bcell hb1)
        go_ret
        exact Ret.mk rfl (below_then (below_one _ _) hb1)
    · have hr := HF1.out ho
      rw [hr]
      go_enter Tryd.func17, Tryd.ntmps17
      have ho2 : (c.obj != 2) = true := bne_iff_ne.2 ho
      go_wp2_with (go_at_call 30; refine (HM.out _).mono ?_; rintro e w1 ⟨rfl, hb1⟩; obtain ⟨hc1, hf1⟩ := bcell hb1)
      go_ret
      exact Ret.mk rfl (below_then (below_one _ _) hb1)
  · rw [show okB c = false from decide_eq_false hok] at HM
    rw [orB_false fun k => hok k.1]
    generalize l.length = N at *
    clear h HR
    unfold cfv at *
    go_enter Tryd.func17, Tryd.ntmps17
    go_wp2_with (go_at_call 30; refine (HM.out _).mono ?_; rintro e w1 ⟨rfl, hb1⟩; obtain ⟨hc1, hf1⟩ := bcell hb1)
    go_ret
    exact Ret.mk rfl (below_then (below_one _ _) hb1)
end Go.Proofs.YtohllaolbebogaaDoor
