/- The program of a set of access rules, the program's own: which frames may be. -/
import Derived.Test.YtljhcegkekdjgaaDoorGpD
import Derived.BigQuiet
namespace Go.Proofs.YtljhcegkekdjgaaDoor
open Go.RowKit Go.Lib Pt Opn

set_option maxRecDepth 100000 in
set_option maxHeartbeats 1000000 in
theorem pOpOfG_any (f : Ds) (w : World) : Calls Tryd.prog 41 #[frv f] w (Ret (opv (frG f)) w) := by
  obtain ⟨t, k, seq, kind, a, b, pc, i, j, n, p, h, x, y⟩ := f
  by_cases hk : kind = 9
  · subst hk
    unfold frv frG opv
    simp only [↓reduceIte]
    simp only [show ((9 : Nat) : Int) = 9 from rfl] at ⊢
    go_enter Tryd.func41, Tryd.ntmps41
    go_wp2
    refine bodyPost_ret (v := .agg #[.int .u8 9, .int .u32 (a : Nat), .int .u32 (b : Nat), .int .u32 (y : Nat)]) ?_ rfl ⟨rfl, ?_⟩
    · simp [results, Tryd.results41, go_sem]
    · (repeat' (first | with_reducible exact below_two _ _ _ | (with_reducible refine Below.setCell ?_ ?_ _) | (with_reducible refine Below.alloc ?_ ?_ _))) <;> (simp; try omega)
  · have hk' : ((kind : Int) == 9) = false := by simp; omega
    unfold frv frG opv
    simp only [if_neg hk]
    simp only [show ((0 : Nat) : Int) = 0 from rfl] at ⊢
    go_enter Tryd.func41, Tryd.ntmps41
    go_wp2
    refine bodyPost_ret (v := .agg #[.int .u8 (kind : Nat), .int .u32 (a : Nat), .int .u32 (b : Nat), .int .u32 0]) ?_ rfl ⟨rfl, ?_⟩
    · simp [results, Tryd.results41, go_sem]
    · (repeat' (first | with_reducible exact below_two _ _ _ | (with_reducible refine Below.setCell ?_ ?_ _) | (with_reducible refine Below.alloc ?_ ?_ _))) <;> (simp; try omega)
set_option maxRecDepth 100000 in
set_option maxHeartbeats 4000000 in
theorem pMayBeAt_any (f : Ds) (w : World) : Calls Tryd.prog 42 #[frv f] w (Ret (.bool (decide (ThereG f.kind f.pc))) w) := by
  obtain ⟨r, hr⟩ : ∃ r, decide (ThereG f.kind f.pc) = r := ⟨_, rfl⟩
  rw [hr]
  replace hr : r = true ↔ ThereG f.kind f.pc := by rw [← hr]; exact decide_eq_true_iff
  unfold ThereG at hr
  obtain ⟨tg, k, seq, kind, a, b, pc, i, j, n, p, h, x, y⟩ := f
  unfold frv
  simp only at *
  have HR := Lib.hid hr
  clear hr
  go_enter Tryd.func42, Tryd.ntmps42
  go_wp2
  all_goals go_ret
  all_goals
    have hr := HR.out
    refine Ret.mk (bool_eq ?_) ?_
    · rw [Bool.eq_iff_iff, hr]
      clear HR hr
      (try simp only [bne_iff_ne, beq_iff_eq, beq_eq_false_iff_ne, ne_eq] at *)
      (try simp)
      try omega
    · (repeat' (first | with_reducible exact Below.refl _ _ | (with_reducible refine Below.setCell ?_ ?_ _) | (with_reducible refine Below.alloc ?_ ?_ _))) <;> (simp; try omega)

set_option maxRecDepth 100000 in
set_option maxHeartbeats 4000000 in
theorem pRegsG_any (c : Cf) (f : Ds) (hw : DWf f) (w : World) : Calls Tryd.prog 43 #[cfv c, frv f] w (Ret (.bool (decide (RegsG c f))) w) := by
  obtain ⟨r, hr⟩ : ∃ r, decide (RegsG c f) = r := ⟨_, rfl⟩
  rw [hr]
  replace hr : r = true ↔ RegsG c f := by rw [← hr]; exact decide_eq_true_iff
  unfold RegsG at hr
  unfold DWf at hw
  obtain ⟨tg, k, seq, kind, a, b, pc, i, j, n, p, h, x, y⟩ := f
  unfold frv cfv
  simp only at *
  have i1 : IntKind.i64.wrap (i : Int) = (i : Int) := by rw [IntKind.wrap_i64]; omega
  have j1 : IntKind.i64.wrap (j : Int) = (j : Int) := by rw [IntKind.wrap_i64]; omega
  have HR := Lib.hid hr
  clear hr hw
  go_enter Tryd.func43, Tryd.ntmps43
  go_wp2
  all_goals go_ret
  all_goals
    have hr := HR.out
    refine Ret.mk (bool_eq ?_) ?_
    · rw [Bool.eq_iff_iff, hr]
      clear HR hr
      simp at *
      try omega
    · (repeat' (first | with_reducible exact Below.refl _ _ | (with_reducible refine Below.setCell ?_ ?_ _) | (with_reducible refine Below.alloc ?_ ?_ _))) <;> (simp; try omega)

/-- What the check answers. -/
def chkG (c : Cf) (f : Ds) : Int := if ¬ (Ok c ∧ c.obj = 3) then 40 else if ¬ GMay c f then 2 else 0

set_option maxRecDepth 100000 in
set_option maxHeartbeats 8000000 in
theorem pCheckG_any (c : Cf) (f : Ds) (hw : DWf f) (w : World) (hO : Obs w) : Calls Tryd.prog 23 #[cfv c, frv f] w (Ret (.int .i64 (chkG c f)) w) := by
  have HP := Lib.hid (fun W => pOpOfG_any f W)
  have HK := Lib.hid (fun W hp => check_op c (frG f) (wf_frG hw) W hp)
  have HM := Lib.hid (fun W => pMayBeAt_any f W)
  have HRG := Lib.hid (fun W => pRegsG_any c f hw W)
  have HOB := Lib.hid hO
  obtain ⟨E, hE⟩ : ∃ E, chk c (frG f) = E := ⟨_, rfl⟩
  obtain ⟨m, hm⟩ : ∃ m, decide (ThereG f.kind f.pc) = m := ⟨_, rfl⟩
  obtain ⟨r, hr⟩ : ∃ r, decide (RegsG c f) = r := ⟨_, rfl⟩
  rw [hE] at HK
  rw [hm] at HM
  rw [hr] at HRG
  have hE40 : ¬ Ok c → E = 40 := fun h => by
    rw [← hE]
    unfold chk
    rw [if_pos (show okB c = false from decide_eq_false h)]
  have hEn40 : Ok c → E ≠ 40 := fun h => by
    rw [← hE]
    unfold chk
    rw [if_neg (by rw [show okB c = true from decide_eq_true h]; simp)]
    (repeat' split) <;> decide
  have hmay : GMay c f ↔ (E = 0 ∧ m = true ∧ r = true) := by
    unfold GMay
    rw [hE, ← hm, ← hr, decide_eq_true_iff, decide_eq_true_iff]
  obtain ⟨R, hR⟩ : ∃ R, chkG c f = R := ⟨_, rfl⟩
  rw [hR]
  unfold chkG at hR
  simp only [hmay] at hR
  have hcase : ((E == 40) = true ∧ R = 40) ∨ ((E == 40) = false ∧ (c.obj != 3) = true ∧ R = 40) ∨ ((E == 40) = false ∧ (c.obj != 3) = false ∧ (E != 0) = true ∧ R = 2) ∨ ((E == 40) = false ∧ (c.obj != 3) = false ∧ E = 0 ∧ m = false ∧ R = 2) ∨
      ((E == 40) = false ∧ (c.obj != 3) = false ∧ E = 0 ∧ m = true ∧ r = false ∧ R = 2) ∨ ((E == 40) = false ∧ (c.obj != 3) = false ∧ E = 0 ∧ m = true ∧ r = true ∧ R = 0) := by
    by_cases h1 : Ok c
    · have e1 : (E == 40) = false := by simpa using hEn40 h1
      by_cases h2 : c.obj = 3
      · have e2 : (c.obj != 3) = false := by simp [h2]
        rw [if_neg (not_not_intro ⟨h1, h2⟩)] at hR
        by_cases h3 : E = 0
        · cases m
          · exact .inr (.inr (.inr (.inl ⟨e1, e2, h3, rfl, by rw [← hR, if_pos (by simp)]⟩)))
          · cases r
            · exact .inr (.inr (.inr (.inr (.inl ⟨e1, e2, h3, rfl, rfl, by rw [← hR, if_pos (by simp)]⟩))))
            · exact .inr (.inr (.inr (.inr (.inr ⟨e1, e2, h3, rfl, rfl, by rw [← hR, if_neg (by simp [h3])]⟩))))
        · exact .inr (.inr (.inl ⟨e1, e2, by simpa using h3, by rw [← hR, if_pos (fun g => h3 g.1)]⟩))
      · rw [if_pos (fun g => h2 g.2)] at hR
        exact .inr (.inl ⟨e1, by simpa using h2, hR.symm⟩)
    · rw [if_pos (fun g => h1 g.1)] at hR
      exact .inl ⟨by simpa using hE40 h1, hR.symm⟩
  clear hE hm hr hE40 hEn40 hmay hR hw hO
  obtain ⟨tg, k, seq, kind, a, b, pc, i, j, n, p, h, x, y⟩ := f
  unfold frv at HP HM HRG ⊢
  unfold cfv at HK HRG ⊢
  unfold opv at HP HK
  simp only at *
  rcases hcase with ⟨e1, rfl⟩ | ⟨e1, e2, rfl⟩ | ⟨e1, e2, e3, rfl⟩ | ⟨e1, e2, rfl, rfl, rfl⟩ | ⟨e1, e2, rfl, rfl, rfl, rfl⟩ | ⟨e1, e2, rfl, rfl, rfl, rfl⟩
  all_goals
    go_enter Tryd.func23, Tryd.ntmps23
    go_upto_region 1 with fail
    refine ent2 fun W hb g0 g1 q0 q1 => ?_
    have HO1 := Lib.hid (HOB.out.below hb)
    obtain ⟨r0, r1, r2, r3, r4, r5, r6, r7, r8, r9, r10, r11⟩ := cl12 g0
    obtain ⟨k0, k1, k2, k3, k4, k5, k6, k7, k8, k9, k10⟩ := cl11 g1
    refine wp_region_quiet_reads (by kernel_rfl) (by kernel_rfl) fun HR => ?_
    repeat (go_big_quiet_step (first | with_reducible exact Calls.regrown_of (HP.out _) | with_reducible exact Calls.regrown_of (HK.out _ (HO1.out.below (below_regrown _ _ _)))))
    refine wpQuiet_nil ?_
    intro W3 hw'
    obtain ⟨⟨dq, osq⟩, hw''⟩ := hw'
    have hb3 : Below W.heap.size W W3 := by rw [hw'']; exact below_regrown _ dq osq
    clear hw'' HR dq osq r0 r1 r2 r3 r4 r5 r6 r7 r8 r9 r10 r11 k0 k1 k2 k3 k4 k5 k6 k7 k8 k9 k10 q0 q1
    replace g0 := blk_below g0 hb3
    replace g1 := blk_below g1 hb3
    have hb1 := below_then hb hb3
    clear hb hb3
    have q0 := (Array.getElem?_eq_some_iff.1 g0).1
    have q1 := (Array.getElem?_eq_some_iff.1 g1).1
    obtain ⟨r0, r1, r2, r3, r4, r5, r6, r7, r8, r9, r10, r11⟩ := cl12 g0
    obtain ⟨k0, k1, k2, k3, k4, k5, k6, k7, k8, k9, k10⟩ := cl11 g1
    go_wp2_with (first
      | (go_at_call 42; refine (HM.out _).mono ?_; rintro e w4 ⟨rfl, hb4⟩; replace hb1 := below_then hb1 hb4; replace g0 := blk_below g0 hb4; replace g1 := blk_below g1 hb4; clear hb4 r0 r1 r2 r3 r4 r5 r6 r7 r8 r9 r10 r11 k0 k1 k2 k3 k4 k5 k6 k7 k8 k9 k10 q0 q1; have q0 := (Array.getElem?_eq_some_iff.1 g0).1; have q1 := (Array.getElem?_eq_some_iff.1 g1).1; obtain ⟨r0, r1, r2, r3, r4, r5, r6, r7, r8, r9, r10, r11⟩ := cl12 g0; obtain ⟨k0, k1, k2, k3, k4, k5, k6, k7, k8, k9, k10⟩ := cl11 g1)
      | (go_at_call 43; refine (HRG.out _).mono ?_; rintro e w5 ⟨rfl, hb4⟩; replace hb1 := below_then hb1 hb4; clear hb4))
    go_ret
    exact Ret.mk rfl hb1
end Go.Proofs.YtljhcegkekdjgaaDoor
