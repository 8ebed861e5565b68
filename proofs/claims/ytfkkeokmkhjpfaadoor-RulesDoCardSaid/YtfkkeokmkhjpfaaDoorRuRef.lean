/- The document's own model of a set of access rules: whether rows may be rules. -/
import Derived.Test.YtfkkeokmkhjpfaaDoorRowRef
import Derived.Test.YtfkkeokmkhjpfaaDoorOpRefChk
import Derived.Test.YtfkkeokmkhjpfaaDoorPtRefMay
namespace Go.Proofs.YtfkkeokmkhjpfaaDoor
open Go.RowKit Tb Pt Opn

/-- A key and a value that may stand among rules. -/
def RuOk (x : R) : Prop := x.1 < 4294967296 ∧ (x.2 = 1 ∨ x.2 = 2)
instance (x : R) : Decidable (RuOk x) := by unfold RuOk; infer_instance
/-- Rows that may be rules. -/
def IsRu (c : Cf) (l : List R) : Prop := Ok c ∧ c.obj = 3 ∧ (l.length : Int) ≤ c.cap ∧ Up l ∧ ∀ x ∈ l, RuOk x
instance (c : Cf) (l : List R) : Decidable (IsRu c l) := by unfold IsRu; infer_instance
def ruB (c : Cf) (l : List R) : Bool := decide (IsRu c l)
theorem ruB_false {c : Cf} {l : List R} (h : ¬ IsRu c l) : ruB c l = false := decide_eq_false h
theorem ruB_true {c : Cf} {l : List R} (h : IsRu c l) : ruB c l = true := decide_eq_true h

set_option maxHeartbeats 4000000 in
theorem rRuIs_any (c : Cf) (A : Option Addr) (l : List R) (d : Nat) (hl : l.length ≤ 1000000) (hw64 : ∀ x ∈ l, x.1 < 18446744073709551616) (w : World) (h : IsR w A l) :
    Calls Tryd.prog 15 #[cfv c, .slice A l.length d] w (Ret (.bool (ruB c l)) w) := by
  have HM := Lib.hid (rMayBe_any c)
  have HR := Lib.hid (fun W hA => rRise_any A l d (by omega) W hA)
  have HA := Lib.hid h
  have HWW := Lib.hid hw64
  clear hw64
  by_cases hok : Ok c
  · rw [ok_bit hok] at HM
    have HI := Lib.hid (show ∀ p, c.obj = 3 → (l.length : Int) ≤ c.cap → Up l → (p = true ↔ ∀ x ∈ l, RuOk x) → p = ruB c l from fun p h1 h2 h3 h4 => by
      unfold ruB; rw [Bool.eq_iff_iff, h4, decide_eq_true_iff]; exact ⟨fun g => ⟨hok, h1, h2, h3, g⟩, fun g => g.2.2.2.2⟩)
    have HF1 := Lib.hid (show c.obj ≠ 3 → ruB c l = false from fun g => ruB_false fun k => g k.2.1)
    have HF2 := Lib.hid (show ¬ (l.length : Int) ≤ c.cap → ruB c l = false from fun g => ruB_false fun k => g k.2.2.1)
    have HF3 := Lib.hid (show ¬ Up l → ruB c l = false from fun g => ruB_false fun k => g k.2.2.2.1)
    obtain ⟨r, hr⟩ : ∃ r, ruB c l = r := ⟨_, rfl⟩
    rw [hr] at HI HF1 HF2 HF3 ⊢
    obtain ⟨u, hu⟩ : ∃ u, decide (Up l) = u := ⟨_, rfl⟩
    rw [hu] at HR
    have HUU := Lib.hid hu
    obtain ⟨N, hN⟩ : ∃ N, l.length = N := ⟨_, rfl⟩
    rw [hN] at hl HR HI HF2 ⊢
    have HN := Lib.hid hN
    clear hok hr hu hN h
    unfold cfv at *
    by_cases ho : c.obj = 3
    · rw [ho] at HM ⊢
      have HOB := Lib.hid ho
      clear ho
      by_cases hcap : (N : Int) ≤ c.cap
      · cases u with
        | true =>
          go_enter Tryd.func15, Tryd.ntmps15
          have hc2 : ¬ c.cap < (N : Int) := by omega
          go_wp2_with (first
            | (go_at_call 27; refine (HM.out _).mono ?_; rintro e w1 ⟨rfl, hb1⟩; obtain ⟨hc1, hf1⟩ := bcell hb1)
            | (go_at_call 31; refine (HR.out _ (HA.out.below (below_then (below_one _ _) hb1))).mono ?_; rintro e w2 ⟨rfl, hb2⟩; replace hb1 := below_then hb1 hb2; clear hc1 hf1 hb2; obtain ⟨hc1, hf1⟩ := bcell hb1))
          have hb0 := below_then (below_one _ _) hb1
          have HA2 := Lib.hid (HA.out.below hb0)
          clear hc1 hf1 hb1
          go_loopw [5] (fun i wr => Below w2.heap.size w2 wr ∧ ∃ j : Nat, j ≤ N ∧ i = .int .i64 j ∧ Hid (∀ m, (hm : m < l.length) → m < j → RuOk l[m])) (fun i _ => N - (intOf i).toNat)
          case atStart => exact ⟨Below.refl _ _, 0, Nat.zero_le _, rfl, Lib.hid fun m _ hm => by omega⟩
          case round =>
            obtain ⟨hbr, j, hj, rfl, HO⟩ := hrel
            have i1 : (0 : Int) ≤ (j : Int) := by omega
            by_cases hlt : j < N
            · have j1 : j < l.length := by rw [HN.out]; exact hlt
              obtain ⟨bk, off, rfl, h1, h2⟩ := HA2.out.row j1
              replace h1 := (hbr.cell (World.block_lt_of_cell? _ _ h1)).trans h1
              replace h2 := (hbr.cell (World.block_lt_of_cell? _ _ h2)).trans h2
              have i2 : (j : Int) < (N : Int) := by omega
              obtain ⟨q1, e1⟩ : ∃ q, l[j].1 = q := ⟨_, rfl⟩
              obtain ⟨q2, e2⟩ : ∃ q, l[j].2 = q := ⟨_, rfl⟩
              have hwq := HWW.out _ (List.getElem_mem j1)
              rw [e1] at h1 hwq
              rw [e2] at h2
              have hwr : IntKind.u64.wrap ((q1 : Int) / 65536) = (q1 : Int) / 65536 := by rw [IntKind.wrap_u64]; omega
              have E := Lib.hid (Prod.ext e1 e2 : l[j] = (q1, q2))
              clear e1 e2
              have HE := Lib.hid (show RuOk l[j] ↔ q1 < 4294967296 ∧ (q2 = 1 ∨ q2 = 2) by rw [E.out]; exact Iff.rfl)
              have HX := Lib.hid (show ¬ (q1 < 4294967296 ∧ (q2 = 1 ∨ q2 = 2)) → false = r from fun g => HI.out false HOB.out hcap (of_decide_eq_true HUU.out) ⟨(fun g => by cases g), (fun g' => absurd (HE.out.1 (g' _ (List.getElem_mem j1))) g)⟩)
              by_cases d1 : ¬ q1 < 4294967296
              · have d2 : (65535 : Int) < (q1 : Int) / 65536 := by omega
                go_wp2
                go_ret
                exact Ret.mk (bool_eq (HX.out (by omega))) (hb0.trans (hbr.mono hb0.size))
              · have d2 : ¬ (65535 : Int) < (q1 : Int) / 65536 := by omega
                by_cases d7 : ¬ (q2 = 1 ∨ q2 = 2)
                · have d8 : ((q2 : Int) != 1) = true := bne_iff_ne.2 (by omega)
                  have d9 : ((q2 : Int) != 2) = true := bne_iff_ne.2 (by omega)
                  go_wp2
                  go_ret
                  exact Ret.mk (bool_eq (HX.out (by omega))) (hb0.trans (hbr.mono hb0.size))
                · have HQ := Lib.hid (show q2 = 1 ∨ q2 = 2 by omega)
                  have HD1 := Lib.hid (show q1 < 4294967296 by omega)
                  rcases HQ.out with rfl | rfl
                  all_goals
                    clear d7
                    go_wp2
                    go_roundw
                    case rel => exact ⟨hbr, j + 1, by omega, by go_num, Lib.hid fun m hm1 hm2 => by
                      by_cases e : m = j
                      · subst e; exact HE.out.2 ⟨HD1.out, by omega⟩
                      · exact HO.out m hm1 (by omega)⟩
                    case measure => simp [intOf]; omega
            · obtain rfl : j = N := by omega
              go_wp2
              go_ret
              exact Ret.mk (bool_eq (HI.out true HOB.out hcap (of_decide_eq_true HUU.out) ⟨fun _ x hx => by
                obtain ⟨i, hi, rfl⟩ := List.getElem_of_mem hx
                exact HO.out i hi (by rw [← HN.out]; exact hi), fun _ => rfl⟩)) (hb0.trans (hbr.mono hb0.size))
        | false =>
          have hr := HF3.out (of_decide_eq_false HUU.out)
          rw [hr]
          go_enter Tryd.func15, Tryd.ntmps15
          have hc2 : ¬ c.cap < (N : Int) := by omega
          go_wp2_with (first
            | (go_at_call 27; refine (HM.out _).mono ?_; rintro e w1 ⟨rfl, hb1⟩; obtain ⟨hc1, hf1⟩ := bcell hb1)
            | (go_at_call 31; refine (HR.out _ (HA.out.below (below_then (below_one _ _) hb1))).mono ?_; rintro e w2 ⟨rfl, hb2⟩; replace hb1 := below_then hb1 hb2; clear hc1 hf1 hb2; obtain ⟨hc1, hf1⟩ := bcell hb1))
          go_ret
          exact Ret.mk rfl (below_then (below_one _ _) hb1)
      · have hr := HF2.out hcap
        rw [hr]
        go_enter Tryd.func15, Tryd.ntmps15
        have hc2 : c.cap < (N : Int) := by omega
        go_wp2_with (go_at_call 27; refine (HM.out _).mono ?_; rintro e w1 ⟨rfl, hb1⟩; obtain ⟨hc1, hf1⟩ := bcell hb1)
        go_ret
        exact Ret.mk rfl (below_then (below_one _ _) hb1)
    · have hr := HF1.out ho
      rw [hr]
      go_enter Tryd.func15, Tryd.ntmps15
      have ho2 : (c.obj != 3) = true := bne_iff_ne.2 ho
      go_wp2_with (go_at_call 27; refine (HM.out _).mono ?_; rintro e w1 ⟨rfl, hb1⟩; obtain ⟨hc1, hf1⟩ := bcell hb1)
      go_ret
      exact Ret.mk rfl (below_then (below_one _ _) hb1)
  · rw [show okB c = false from decide_eq_false hok] at HM
    rw [ruB_false fun k => hok k.1]
    generalize l.length = N at *
    clear h HR
    unfold cfv at *
    go_enter Tryd.func15, Tryd.ntmps15
    go_wp2_with (go_at_call 27; refine (HM.out _).mono ?_; rintro e w1 ⟨rfl, hb1⟩; obtain ⟨hc1, hf1⟩ := bcell hb1)
    go_ret
    exact Ret.mk rfl (below_then (below_one _ _) hb1)
end Go.Proofs.YtfkkeokmkhjpfaaDoor
