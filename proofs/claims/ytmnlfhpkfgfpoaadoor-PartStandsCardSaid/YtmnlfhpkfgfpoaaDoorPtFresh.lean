/- Package part: a fresh memory. -/
import Derived.Test.YtmnlfhpkfgfpoaaDoorPtAt
import Derived.Test.YtmnlfhpkfgfpoaaDoorCeRow
import Derived.Test.YtmnlfhpkfgfpoaaDoorCeWalks
namespace Go.Proofs.YtmnlfhpkfgfpoaaDoor.Pt
theorem find_control (c : Cf) : find (bl c) ⟨3, 0, 0⟩ = some 2 := by
  unfold bl blks headL
  simp [find, Blk.Has, Blk.ix, Blk.cnt]
/-- A fresh memory's cells. -/
def freshF (c : Cf) (i : Nat) : Ce.C4 := if i = 2 then ⟨c.inst + 5, 0, 0, 0⟩ else ⟨0, 0, 0, 0⟩
def freshN (c : Cf) : Nat := if okB c then all c else 0
end Go.Proofs.YtmnlfhpkfgfpoaaDoor.Pt
namespace Go.Proofs.YtmnlfhpkfgfpoaaDoor
open Go.RowKit Pt Ce

/-- New cells, and a number. -/
def RetC (n : Nat) (cf : Nat → C4) (z : Int) (w : World) (e : Ending) (w' : World) : Prop :=
  ∃ A cap, e = .returned (.tuple #[.slice A n cap, .int .i64 z]) ∧ n ≤ cap ∧ cap ≤ 9223372036854775807 ∧ Hid (IsCells w' A n cf) ∧ Below w.heap.size w w'

theorem cell_inf : (Tryd.prog.info? 51).map (fun i => (i.zero, i.size, i.bytes)) = some (some (.agg #[.int .u64 0, .int .u64 0, .int .u64 0, .int .u64 0]), 4, 32) := by kernel_rfl
theorem run_make_cells (n : Nat) (hn : n ≤ 1000000) (w : World) : (Instr.makeSlice 37 (.int .i64 (n : Nat)) (.int .i64 (n : Nat))).run Tryd.prog w =
    .ok (.slice (some ⟨w.heap.size, 0, none⟩) n n) (w.alloc (.cells (madeCells #[.int .u64 0, .int .u64 0, .int .u64 0, .int .u64 0] (n * 4)) 51)) := by
  obtain ⟨i0, hi, hz0, hz1, hz2⟩ := info_parts cell_inf
  have h := run_make (P := Tryd.prog) w 37 51 i0 _ Tryd.underlying37 hi hz0 .i64 .i64 n n (by omega) (by omega) (by rw [hz2]; omega) (by omega)
  rw [h, hz1]
  simp [Value.cells]
theorem made_zero (m i : Nat) (h : i < m) : (madeCells #[.int .u64 0, .int .u64 0, .int .u64 0, .int .u64 0] m)[i]? = some (.int .u64 0) := by
  have e : i % 4 = 0 ∨ i % 4 = 1 ∨ i % 4 = 2 ∨ i % 4 = 3 := by omega
  simp only [madeCells, Array.getElem?_map, Array.getElem?_range]
  rw [if_pos h]
  show some (#[Value.int .u64 0, .int .u64 0, .int .u64 0, .int .u64 0][i % 4]!) = _
  rcases e with e | e | e | e <;> rw [e] <;> rfl
theorem row_zero (w : World) (m : Nat) (t : TypeId) : (w.alloc (.cells (madeCells #[.int .u64 0, .int .u64 0, .int .u64 0, .int .u64 0] m) t)).rowIs w.heap.size t m (fun _ => .int .u64 0) :=
  ⟨_, heap_alloc_new w _, size_madeCells _ _, fun _ hi => made_zero _ _ hi⟩

set_option maxHeartbeats 2000000 in
theorem fresh_ok (c : Cf) (h : okB c = true) (w : World) (hp : Pow w) : Calls Tryd.prog 17 #[cfv c] w (RetC (all c) (freshF c) 0 w) := by
  have hok := ok_of h
  have ha := fun W hW => at_any c ⟨3, 0, 0⟩ W hW
  obtain ⟨e1, e2⟩ := at_some h (find_control c)
  rw [e1, e2] at ha
  have hcnt := fun W hW => count_cfg c hok W hW
  have hrest := fun W => rest_any c hok W
  have hall := all_bounds hok
  have hmk := run_make_cells (all c) (by omega)
  have HP := Lib.hid hp
  have HF := Lib.hid (fun i => show freshF c i = if i = 2 then ⟨c.inst + 5, 0, 0, 0⟩ else ⟨0, 0, 0, 0⟩ from rfl)
  clear hp hok h e1 e2
  generalize all c = n at *
  unfold cfv at *
  unfold plv at ha
  go_enter Tryd.func17, Tryd.ntmps17
  go_wp2_with fail
  refine (ha _ (HP.out.alloc _)).mono ?_
  rintro e w1 ⟨rfl, hb1⟩
  obtain ⟨hc1, hf1⟩ := bcell hb1
  have hb01 := below_b1 hb1
  go_wp2_with fail
  refine (hcnt _ (HP.out.below hb01)).mono ?_
  rintro e w2 ⟨rfl, hb2⟩
  have I2 : IsCf w2 w.heap.size c := ((cf_lit w c _ rfl).same (hb1.block _ (by simp))).same (hb2.block _ (by have := hb1.size; simp at this; omega))
  have hb02 := below_then hb01 hb2
  have hz2 := I2.lt
  obtain ⟨r, hr⟩ : ∃ r, w.heap.size = r := ⟨_, rfl⟩
  obtain ⟨g, hg⟩ : ∃ g, w2.heap.size = g := ⟨_, rfl⟩
  obtain ⟨W, hW⟩ : ∃ W, W = w2.alloc (.cells (madeCells #[.int .u64 0, .int .u64 0, .int .u64 0, .int .u64 0] (n * 4)) 51) := ⟨_, rfl⟩
  have I3 : IsCf W r c := by rw [hW, ← hr]; exact I2.same (Below.heap_alloc _ _ _ hz2)
  have R3 : W.rowIs g 51 (n * 4) (fun _ => .int .u64 0) := by rw [hW, ← hg]; exact row_zero _ _ _
  have hb3 : Below w.heap.size w W := by rw [hW]; exact below_then hb02 (below_one _ _)
  have f0 := I3 0 _ rfl
  have f1 := I3 1 _ rfl
  have f2 := I3 2 _ rfl
  have f3 := I3 3 _ rfl
  have f4 := I3 4 _ rfl
  have f5 := I3 5 _ rfl
  have f6 := I3 6 _ rfl
  have f7 := I3 7 _ rfl
  have f8 := I3 8 _ rfl
  have f9 := I3 9 _ rfl
  have f10 := I3 10 _ rfl
  have f11 := I3 11 _ rfl
  clear I2 I3 hc1 hf1 hb1 hb2 hb01 hb02
  have hmk2 := hmk w2
  rw [← hW] at hmk2
  clear hmk hW
  rw [hg] at hmk2
  rw [hr]
  go_wp2_with fail
  refine (hrest W).mono ?_
  rintro e w4 ⟨rfl, hb4⟩
  have R4 := R3.of_block (hb4.block _ R3.lt)
  have m1 := R4.cell (show 8 < n * 4 by omega)
  have m2 := R4.frozen 8
  have hb5 := below_then hb3 hb4
  have hg2 : w.heap.size ≤ g := by rw [← hg]; omega
  clear R3 hb3 hb4 f0 f1 f2 f3 f4 f5 f6 f7 f8 f9 f10 f11 hmk2
  go_wp2
  go_ret2
  refine ⟨some ⟨g, 0, none⟩, n, rfl, Nat.le_refl _, by omega, Lib.hid fun i hi => ⟨g, 0, rfl, ?_⟩, hb5.setCell (by simp only; omega) _⟩
  have R5 := R4.set 8 (.int .u64 (c.inst + 5))
  rw [Nat.zero_add, HF.out]
  by_cases h2 : i = 2
  · subst h2
    rw [if_pos rfl]
    refine at4_of R5 (by omega) fun j u hu => ?_
    match j, hu with
    | 0, hu => simpa [l4] using hu
    | 1, hu => simpa [l4] using hu
    | 2, hu => simpa [l4] using hu
    | 3, hu => simpa [l4] using hu
  · rw [if_neg h2]
    refine at4_of R5 (by omega) fun j u hu => ?_
    have hj : j < 4 := (List.getElem?_eq_some_iff.1 hu).1
    rw [if_neg (by omega)]
    match j, hu with
    | 0, hu => simpa [l4] using hu
    | 1, hu => simpa [l4] using hu
    | 2, hu => simpa [l4] using hu
    | 3, hu => simpa [l4] using hu

set_option maxHeartbeats 1000000 in
theorem fresh_any (c : Cf) (w : World) (hp : Pow w) : Calls Tryd.prog 17 #[cfv c] w (RetC (freshN c) (freshF c) (Pt.err (okB c)) w) := by
  unfold freshN
  cases h : okB c with
  | true => exact fresh_ok c h w hp
  | false =>
    have ha := fun W hW => at_any c ⟨3, 0, 0⟩ W hW
    have e1 : atV c ⟨3, 0, 0⟩ = 0 := by unfold atV; rw [h]; rfl
    have e2 : atE c ⟨3, 0, 0⟩ = 40 := by unfold atE; rw [h]; rfl
    rw [e1, e2] at ha
    have HP := Lib.hid hp
    clear hp e1 e2 h
    unfold cfv at *
    unfold plv at ha
    go_enter Tryd.func17, Tryd.ntmps17
    go_wp2_with (go_at_call 10; refine (ha _ (HP.out.alloc _)).mono ?_; rintro e w1 ⟨rfl, hb1⟩)
    go_ret2
    exact ⟨none, 0, rfl, Nat.le_refl _, by omega, Lib.hid fun i hi => by simp at hi, below_b1 hb1⟩
end Go.Proofs.YtmnlfhpkfgfpoaaDoor
