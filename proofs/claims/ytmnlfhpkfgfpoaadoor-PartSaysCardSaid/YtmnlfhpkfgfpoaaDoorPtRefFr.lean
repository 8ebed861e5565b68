/- The document's own fresh memory. -/
import Derived.Test.YtmnlfhpkfgfpoaaDoorPtRefEnd
namespace Go.Proofs.YtmnlfhpkfgfpoaaDoor
open Go.RowKit Pt Ce

theorem l4_each {x : C4} : ∀ u ∈ l4 x, u.oneCell' = true := fun u hu => by
  simp only [l4, List.mem_cons, List.not_mem_nil, or_false] at hu
  rcases hu with rfl | rfl | rfl | rfl <;> rfl

set_option maxHeartbeats 4000000 in
theorem rFresh_ok (c : Cf) (h : okB c = true) (w : World) : Calls Tryd.prog 18 #[cfv c] w (RetC (all c) (freshF c) 0 w) := by
  have hok := ok_of h
  have hk := rMayBe_any c
  rw [h] at hk
  have ha := rAll_any c hok
  have hall := (all_bounds hok).2
  have hI : 2 ≤ c.inst ∧ c.inst ≤ 4 := by have := hok.2.2; unfold RestOk at this; omega
  have HF := Lib.hid (fun i => show freshF c i = if i = 2 then ⟨c.inst + 5, 0, 0, 0⟩ else ⟨0, 0, 0, 0⟩ from rfl)
  clear h hok
  generalize all c = N at *
  unfold cfv at *
  go_enter Tryd.func18, Tryd.ntmps18
  go_wp2_with fail
  refine (hk _).mono ?_
  rintro e w1 ⟨rfl, hb1⟩
  have I1 : IsCf w1 w.heap.size c := (cf_lit w c 24 rfl).same (hb1.block _ (by simp))
  have HI := Lib.hid I1
  have hb01 := below_b1 hb1
  obtain ⟨r, hr⟩ : ∃ r, w.heap.size = r := ⟨_, rfl⟩
  rw [hr] at HI ⊢
  clear I1 hb1 hk
  go_wp2
  go_loopw [4, 5] (fun v i wr => ∃ k : Nat, k ≤ N ∧ i = .int .i64 k ∧ Hid (MadeL wr w1.heap.size 51 4 v k (fun j => l4 (freshF c j))) ∧ Below w1.heap.size w1 wr) (fun _ i _ => N - (intOf i).toNat)
  case atStart => exact ⟨0, Nat.zero_le _, rfl, Lib.hid (MadeL.nil _ _ _ _ _), Below.refl _ _⟩
  case round =>
    obtain ⟨k, hk, rfl, HM, hbr⟩ := hrel
    have I := HI.out.same (hbr.block _ HI.out.lt)
    have f0 := I 0 _ rfl
    have f1 := I 1 _ rfl
    have f2 := I 2 _ rfl
    have f3 := I 3 _ rfl
    have f4 := I 4 _ rfl
    have f5 := I 5 _ rfl
    have f6 := I 6 _ rfl
    have f7 := I 7 _ rfl
    have f8 := I 8 _ rfl
    have f9 := I 9 _ rfl
    have f10 := I 10 _ rfl
    have f11 := I 11 _ rfl
    have hr1 := I.lt
    clear I
    have hwz : w1.heap.size ≤ wr.heap.size := hbr.size
    by_cases hlt : k < N
    · by_cases h2 : k = 2
      · subst h2
        have hFk := (HF.out 2).trans (if_pos rfl)
        go_wp2_with fail
        refine (ha _).mono ?_
        rintro e w2 ⟨rfl, hb2⟩
        have hbr2 := below_then hbr hb2
        have f1' := (hb2.cell (World.block_lt_of_cell? _ _ f1)).trans f1
        have hr2 := World.block_lt_of_cell? _ _ f1'
        have M2 := Lib.hid (HM.out.below hb2)
        clear f0 f1 f2 f3 f4 f5 f6 f7 f8 f9 f10 f11 hr1 HM hbr hb2
        go_wp2_with (at_builtin
                     refine wpList_pushL (w0 := w1) rfl (.tmp 24) (.tmp 26) _ rfl Tryd.underlying37 cell_inf rfl (by decide) (by decide) (f := fun j => l4 (freshF c j)) rfl rfl ((M2.out.alloc _).alloc _) (w2.heap.size + 1) rfl (lit_cells (heap_new1 _ _ (by simp)) (by show _ = l4 (freshF c 2); rw [hFk]; rfl)) l4_each (by omega) (Nat.le_refl _) ((hbr2.alloc hbr2.size _).alloc (by have := hbr2.size; simp; omega) _) ?_
                     intro v' W1 Hm1 hbW1 _ _)
        go_roundw
        case rel => exact ⟨2 + 1, by omega, by go_num, Hm1, hbW1⟩
        case measure => simp [intOf]; omega
      · have hFk := (HF.out k).trans (if_neg h2)
        go_wp2_with fail
        refine (ha _).mono ?_
        rintro e w2 ⟨rfl, hb2⟩
        have hbr2 := below_then hbr hb2
        have M2 := Lib.hid (HM.out.below hb2)
        clear f0 f1 f2 f3 f4 f5 f6 f7 f8 f9 f10 f11 hr1 HM hbr hb2
        go_wp2_with (at_builtin
                     refine wpList_pushL (w0 := w1) rfl (.tmp 24) (.tmp 26) _ rfl Tryd.underlying37 cell_inf rfl (by decide) (by decide) (f := fun j => l4 (freshF c j)) rfl rfl ((M2.out.alloc _).alloc _) (w2.heap.size + 1) rfl (lit_cells (heap_new1 _ _ (by simp)) (by show _ = l4 (freshF c k); rw [hFk]; rfl)) l4_each (by omega) (Nat.le_refl _) ((hbr2.alloc hbr2.size _).alloc (by have := hbr2.size; simp; omega) _) ?_
                     intro v' W1 Hm1 hbW1 _ _)
        go_roundw
        case rel => exact ⟨k + 1, by omega, by go_num, Hm1, hbW1⟩
        case measure => simp [intOf]; omega
    · obtain rfl : k = N := by omega
      obtain ⟨A, cap, rfl, g1, g2, g3⟩ := MadeL.form (s := 4) (fun _ => rfl) HM.out
      go_wp2_with fail
      refine (ha _).mono ?_
      rintro e w2 ⟨rfl, hb2⟩
      go_wp2
      go_ret2
      exact ⟨A, cap, rfl, g1, g2, Lib.hid ((g3.cells).same hb2.block), below_then hb01 (below_then hbr hb2)⟩

theorem rFresh_any (c : Cf) (w : World) : Calls Tryd.prog 18 #[cfv c] w (RetC (freshN c) (freshF c) (Pt.err (okB c)) w) := by
  unfold freshN
  cases h : okB c with
  | true => exact rFresh_ok c h w
  | false =>
    have hk := rMayBe_any c
    rw [h] at hk
    clear h
    unfold cfv at *
    go_enter Tryd.func18, Tryd.ntmps18
    go_wp2_with (go_at_call 27; refine (hk _).mono ?_; rintro e w1 ⟨rfl, hb1⟩)
    go_ret2
    exact ⟨none, 0, rfl, Nat.le_refl _, by omega, Lib.hid fun i hi => by simp at hi, below_b1 hb1⟩
end Go.Proofs.YtmnlfhpkfgfpoaaDoor
