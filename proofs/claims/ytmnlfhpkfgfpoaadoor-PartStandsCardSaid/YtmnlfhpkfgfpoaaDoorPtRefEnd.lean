/- The document's own answers of package part, whole. -/
import Derived.Test.YtmnlfhpkfgfpoaaDoorPtRefMay
import Derived.Test.YtmnlfhpkfgfpoaaDoorPtRefOf
import Derived.Test.YtmnlfhpkfgfpoaaDoorPtFresh
import Derived.Test.YtmnlfhpkfgfpoaaDoorCePush
namespace Go.Proofs.YtmnlfhpkfgfpoaaDoor
open Go.RowKit Pt Ce

theorem rCheck_any (c : Cf) (w : World) : Calls Tryd.prog 19 #[cfv c] w (Ret (.int .i64 (Pt.err (okB c))) w) := by
  have hk := rMayBe_any c
  cases e : okB c with
  | true =>
    rw [e] at hk
    unfold cfv at *
    go_enter Tryd.func19, Tryd.ntmps19
    go_wp2_with (go_at_call 27; refine (hk _).mono ?_; rintro e w1 ⟨rfl, hb1⟩)
    go_ret
    exact Ret.mk rfl (below_b1 hb1)
  | false =>
    rw [e] at hk
    unfold cfv at *
    go_enter Tryd.func19, Tryd.ntmps19
    go_wp2_with (go_at_call 27; refine (hk _).mono ?_; rintro e w1 ⟨rfl, hb1⟩)
    go_ret
    exact Ret.mk rfl (below_b1 hb1)

set_option maxHeartbeats 1000000 in
theorem rSize_any (c : Cf) (w : World) : Calls Tryd.prog 14 #[cfv c] w (Ret2 (.int .i64 (szA c)) (.int .i64 (Pt.err (okB c))) w) := by
  have hk := rMayBe_any c
  unfold szA
  cases e : okB c with
  | true =>
    have hs := fun W => rGreat_any c (ok_of e) W
    rw [e] at hk
    unfold cfv at hk hs ⊢
    go_enter Tryd.func14, Tryd.ntmps14
    go_wp2_with (first
      | (go_at_call 27; refine (hk _).mono ?_; rintro e w1 ⟨rfl, hb1⟩; have hb01 := below_b1 hb1; obtain ⟨hc1, hf1⟩ := bcell hb1)
      | (go_at_call 28; refine (hs _).mono ?_; rintro e w2 ⟨rfl, hb2⟩))
    go_ret2
    exact Ret2.mk rfl rfl (below_then hb01 hb2)
  | false =>
    rw [e] at hk
    unfold cfv at hk ⊢
    go_enter Tryd.func14, Tryd.ntmps14
    go_wp2_with (go_at_call 27; refine (hk _).mono ?_; rintro e w1 ⟨rfl, hb1⟩)
    go_ret2
    exact Ret2.mk rfl rfl (below_b1 hb1)

set_option maxHeartbeats 1000000 in
theorem rCells_any (c : Cf) (w : World) : Calls Tryd.prog 16 #[cfv c] w (Ret2 (.int .i64 (allA c)) (.int .i64 (Pt.err (okB c))) w) := by
  have hk := rMayBe_any c
  unfold allA
  cases e : okB c with
  | true =>
    have hs := fun W => rAll_any c (ok_of e) W
    rw [e] at hk
    unfold cfv at hk hs ⊢
    go_enter Tryd.func16, Tryd.ntmps16
    go_wp2_with (first
      | (go_at_call 27; refine (hk _).mono ?_; rintro e w1 ⟨rfl, hb1⟩; have hb01 := below_b1 hb1; obtain ⟨hc1, hf1⟩ := bcell hb1)
      | (go_at_call 30; refine (hs _).mono ?_; rintro e w2 ⟨rfl, hb2⟩))
    go_ret2
    exact Ret2.mk rfl rfl (below_then hb01 hb2)
  | false =>
    rw [e] at hk
    unfold cfv at hk ⊢
    go_enter Tryd.func16, Tryd.ntmps16
    go_wp2_with (go_at_call 27; refine (hk _).mono ?_; rintro e w1 ⟨rfl, hb1⟩)
    go_ret2
    exact Ret2.mk rfl rfl (below_b1 hb1)

set_option maxHeartbeats 1000000 in
theorem rAt_any (c : Cf) (q : Pl) (w : World) : Calls Tryd.prog 21 #[cfv c, plv q] w (Ret2 (.int .i64 (atV c q)) (.int .i64 (atE c q)) w) := by
  have hk := rMayBe_any c
  cases e : okB c with
  | false =>
    have e1 : atV c q = 0 := by unfold atV; rw [e]; rfl
    have e2 : atE c q = 40 := by unfold atE; rw [e]; rfl
    rw [e] at hk
    rw [e1, e2]
    clear e1 e2 e
    unfold cfv plv at *
    go_enter Tryd.func21, Tryd.ntmps21
    go_wp2_with (go_at_call 27; refine (hk _).mono ?_; rintro e w1 ⟨rfl, hb1⟩)
    go_ret2
    exact Ret2.mk rfl rfl (below_then (below_two _ _ _) hb1)
  | true =>
    rw [e] at hk
    have hok := ok_of e
    have hh := rHas_any c hok q
    have hf := find_eq c hok q
    cases hq : hasB c q with
    | false =>
      rw [hq] at hh hf
      obtain ⟨e1, e2⟩ := at_none e hf
      rw [e1, e2]
      clear e1 e2 e hf hq hok
      unfold cfv plv at *
      go_enter Tryd.func21, Tryd.ntmps21
      go_wp2_with fail
      refine (hk _).mono ?_
      rintro e w1 ⟨rfl, hb1⟩
      obtain ⟨hc1, hf1⟩ := bcell hb1
      go_wp2_with fail
      refine (hh _).mono ?_
      rintro e w2 ⟨rfl, hb2⟩
      have hb := below_then (below_then (below_two _ _ _) hb1) hb2
      clear hc1 hf1
      go_wp2
      go_ret2
      exact Ret2.mk rfl rfl hb
    | true =>
      rw [hq] at hh hf
      obtain ⟨e1, e2⟩ := at_some e hf
      have hw := rWhere_any c hok q hq
      rw [e1, e2]
      clear e1 e2 e hf hq hok
      unfold cfv plv at *
      go_enter Tryd.func21, Tryd.ntmps21
      go_wp2_with fail
      refine (hk _).mono ?_
      rintro e w1 ⟨rfl, hb1⟩
      obtain ⟨hc1, hf1⟩ := bcell hb1
      go_wp2_with fail
      refine (hh _).mono ?_
      rintro e w2 ⟨rfl, hb2⟩
      replace hb1 := below_then hb1 hb2
      clear hc1 hf1
      obtain ⟨hc1, hf1⟩ := bcell hb1
      go_wp2_with fail
      refine (hw _).mono ?_
      rintro e w3 ⟨rfl, hb3⟩
      have hb := below_then (below_then (below_two _ _ _) hb1) hb3
      clear hc1 hf1
      go_wp2
      go_ret2
      exact Ret2.mk rfl rfl hb

set_option maxHeartbeats 2000000 in
theorem rWhat_any (c : Cf) (z : Int) (w : World) : Calls Tryd.prog 22 #[cfv c, .int .i64 z] w (Ret2 (plv (whV c z)) (.int .i64 (whE c z)) w) := by
  have hk := rMayBe_any c
  cases e : okB c with
  | false =>
    have e1 : whV c z = ⟨0, 0, 0⟩ := by unfold whV; rw [e]; rfl
    have e2 : whE c z = 40 := by unfold whE; rw [e]; rfl
    rw [e] at hk
    rw [e1, e2]
    clear e1 e2 e
    unfold cfv at *
    go_enter Tryd.func22, Tryd.ntmps22
    go_wp2_with fail
    refine (hk _).mono ?_
    rintro e w1 ⟨rfl, hb1⟩
    obtain ⟨hc1, hf1⟩ := bcell hb1
    have r0 : w1.cell? ⟨w.heap.size + 1, 0, none⟩ = some (.int .u8 0) := (hc1 _ _ (by simp)).trans (by simp [go_sem])
    have r1 : w1.cell? ⟨w.heap.size + 1, 1, none⟩ = some (.int .i64 0) := (hc1 _ _ (by simp)).trans (by simp [go_sem])
    have r2 : w1.cell? ⟨w.heap.size + 1, 2, none⟩ = some (.int .i64 0) := (hc1 _ _ (by simp)).trans (by simp [go_sem])
    have z0 : w1.frozen? ⟨w.heap.size + 1, 0, none⟩ = false := (hf1 _ _ (by simp)).trans (by simp [go_sem])
    have z1 : w1.frozen? ⟨w.heap.size + 1, 1, none⟩ = false := (hf1 _ _ (by simp)).trans (by simp [go_sem])
    have z2 : w1.frozen? ⟨w.heap.size + 1, 2, none⟩ = false := (hf1 _ _ (by simp)).trans (by simp [go_sem])
    have rlt := World.block_lt_of_cell? _ _ r0
    have hb2 := below_then (below_two _ _ _) hb1
    clear hc1 hf1 hb1
    go_wp2
    have hz0 := rlt
    obtain ⟨t0, t1, t2⟩ := set_place3 (y := ⟨0, 0, 0⟩) (y0 := ⟨0, 0, 0⟩) (W := w1) (a := w.heap.size + 1) ⟨r0, r1, r2⟩
    try (simp only at t0 t1 t2)
    refine bodyPost_ret (v := .tuple #[plv ⟨0, 0, 0⟩, .int .i64 40]) ?_ rfl ⟨rfl, ((hb2.setCell (by simp only; omega) _).setCell (by simp only; omega) _).setCell (by simp only; omega) _⟩
    unfold plv
    simp [results, Tryd.results22, go_sem, t0, t1, t2]
  | true =>
    rw [e] at hk
    have hok := ok_of e
    by_cases hneg : z < 0
    · obtain ⟨e1, e2⟩ := wh_neg e hneg
      rw [e1, e2]
      clear e1 e2 e hok
      unfold cfv at *
      go_enter Tryd.func22, Tryd.ntmps22
      go_wp2_with fail
      refine (hk _).mono ?_
      rintro e w1 ⟨rfl, hb1⟩
      obtain ⟨hc1, hf1⟩ := bcell hb1
      have r0 : w1.cell? ⟨w.heap.size + 1, 0, none⟩ = some (.int .u8 0) := (hc1 _ _ (by simp)).trans (by simp [go_sem])
      have r1 : w1.cell? ⟨w.heap.size + 1, 1, none⟩ = some (.int .i64 0) := (hc1 _ _ (by simp)).trans (by simp [go_sem])
      have r2 : w1.cell? ⟨w.heap.size + 1, 2, none⟩ = some (.int .i64 0) := (hc1 _ _ (by simp)).trans (by simp [go_sem])
      have z0 : w1.frozen? ⟨w.heap.size + 1, 0, none⟩ = false := (hf1 _ _ (by simp)).trans (by simp [go_sem])
      have z1 : w1.frozen? ⟨w.heap.size + 1, 1, none⟩ = false := (hf1 _ _ (by simp)).trans (by simp [go_sem])
      have z2 : w1.frozen? ⟨w.heap.size + 1, 2, none⟩ = false := (hf1 _ _ (by simp)).trans (by simp [go_sem])
      have rlt := World.block_lt_of_cell? _ _ r0
      have hb2 := below_then (below_two _ _ _) hb1
      clear hc1 hf1 hb1
      go_wp2
      have hz0 := rlt
      obtain ⟨t0, t1, t2⟩ := set_place3 (y := ⟨0, 0, 0⟩) (y0 := ⟨0, 0, 0⟩) (W := w1) (a := w.heap.size + 1) ⟨r0, r1, r2⟩
      try (simp only at t0 t1 t2)
      refine bodyPost_ret (v := .tuple #[plv ⟨0, 0, 0⟩, .int .i64 2]) ?_ rfl ⟨rfl, ((hb2.setCell (by simp only; omega) _).setCell (by simp only; omega) _).setCell (by simp only; omega) _⟩
      unfold plv
      simp [results, Tryd.results22, go_sem, t0, t1, t2]
    · obtain ⟨Z, rfl⟩ : ∃ Z : Nat, z = Z := ⟨z.toNat, by omega⟩
      have ha := rAll_any c hok
      by_cases hlt : Z < all c
      · have ho := rOf_any c hok Z hlt
        have e2 : whE c Z = 0 := by
          obtain ⟨q, h1, _⟩ := what_find (apart_bl hok) hlt
          exact (wh_some e h1).2
        rw [e2]
        clear e2 e hok
        generalize whV c Z = y at *
        generalize all c = n at *
        unfold cfv at *
        unfold plv at ho
        go_enter Tryd.func22, Tryd.ntmps22
        go_wp2_with fail
        refine (hk _).mono ?_
        rintro e w1 ⟨rfl, hb1⟩
        obtain ⟨hc1, hf1⟩ := bcell hb1
        go_wp2_with fail
        refine (ha _).mono ?_
        rintro e w2 ⟨rfl, hb2⟩
        replace hb1 := below_then hb1 hb2
        clear hc1 hf1 hb2
        obtain ⟨hc1, hf1⟩ := bcell hb1
        go_wp2_with fail
        refine (ho _).mono ?_
        rintro e w2 ⟨rfl, hb2⟩
        replace hb1 := below_then hb1 hb2
        clear hc1 hf1 hb2
        obtain ⟨hc1, hf1⟩ := bcell hb1
        have r0 : w2.cell? ⟨w.heap.size + 1, 0, none⟩ = some (.int .u8 0) := (hc1 _ _ (by simp)).trans (by simp [go_sem])
        have r1 : w2.cell? ⟨w.heap.size + 1, 1, none⟩ = some (.int .i64 0) := (hc1 _ _ (by simp)).trans (by simp [go_sem])
        have r2 : w2.cell? ⟨w.heap.size + 1, 2, none⟩ = some (.int .i64 0) := (hc1 _ _ (by simp)).trans (by simp [go_sem])
        have z0 : w2.frozen? ⟨w.heap.size + 1, 0, none⟩ = false := (hf1 _ _ (by simp)).trans (by simp [go_sem])
        have z1 : w2.frozen? ⟨w.heap.size + 1, 1, none⟩ = false := (hf1 _ _ (by simp)).trans (by simp [go_sem])
        have z2 : w2.frozen? ⟨w.heap.size + 1, 2, none⟩ = false := (hf1 _ _ (by simp)).trans (by simp [go_sem])
        have rlt := World.block_lt_of_cell? _ _ r0
        have hb2 := below_then (below_two _ _ _) hb1
        clear hc1 hf1 hb1
        go_wp2
        have hz0 := rlt
        obtain ⟨t0, t1, t2⟩ := set_place3 (y := y) (y0 := ⟨0, 0, 0⟩) (W := w2) (a := w.heap.size + 1) ⟨r0, r1, r2⟩
        try (simp only at t0 t1 t2)
        refine bodyPost_ret (v := .tuple #[plv y, .int .i64 0]) ?_ rfl ⟨rfl, ((hb2.setCell (by simp only; omega) _).setCell (by simp only; omega) _).setCell (by simp only; omega) _⟩
        unfold plv
        simp [results, Tryd.results22, go_sem, t0, t1, t2]
      · obtain ⟨e1, e2⟩ := wh_none e (what_none (show total (bl c) ≤ Z by have : all c = total (bl c) := rfl; omega))
        rw [e1, e2]
        clear e1 e2 e hok
        generalize all c = n at *
        unfold cfv at *
        go_enter Tryd.func22, Tryd.ntmps22
        go_wp2_with fail
        refine (hk _).mono ?_
        rintro e w1 ⟨rfl, hb1⟩
        obtain ⟨hc1, hf1⟩ := bcell hb1
        go_wp2_with fail
        refine (ha _).mono ?_
        rintro e w2 ⟨rfl, hb2⟩
        replace hb1 := below_then hb1 hb2
        clear hc1 hf1 hb2
        obtain ⟨hc1, hf1⟩ := bcell hb1
        have r0 : w2.cell? ⟨w.heap.size + 1, 0, none⟩ = some (.int .u8 0) := (hc1 _ _ (by simp)).trans (by simp [go_sem])
        have r1 : w2.cell? ⟨w.heap.size + 1, 1, none⟩ = some (.int .i64 0) := (hc1 _ _ (by simp)).trans (by simp [go_sem])
        have r2 : w2.cell? ⟨w.heap.size + 1, 2, none⟩ = some (.int .i64 0) := (hc1 _ _ (by simp)).trans (by simp [go_sem])
        have z0 : w2.frozen? ⟨w.heap.size + 1, 0, none⟩ = false := (hf1 _ _ (by simp)).trans (by simp [go_sem])
        have z1 : w2.frozen? ⟨w.heap.size + 1, 1, none⟩ = false := (hf1 _ _ (by simp)).trans (by simp [go_sem])
        have z2 : w2.frozen? ⟨w.heap.size + 1, 2, none⟩ = false := (hf1 _ _ (by simp)).trans (by simp [go_sem])
        have rlt := World.block_lt_of_cell? _ _ r0
        have hb2 := below_then (below_two _ _ _) hb1
        clear hc1 hf1 hb1
        go_wp2
        have hz0 := rlt
        obtain ⟨t0, t1, t2⟩ := set_place3 (y := ⟨0, 0, 0⟩) (y0 := ⟨0, 0, 0⟩) (W := w2) (a := w.heap.size + 1) ⟨r0, r1, r2⟩
        try (simp only at t0 t1 t2)
        refine bodyPost_ret (v := .tuple #[plv ⟨0, 0, 0⟩, .int .i64 2]) ?_ rfl ⟨rfl, ((hb2.setCell (by simp only; omega) _).setCell (by simp only; omega) _).setCell (by simp only; omega) _⟩
        unfold plv
        simp [results, Tryd.results22, go_sem, t0, t1, t2]
end Go.Proofs.YtmnlfhpkfgfpoaaDoor
