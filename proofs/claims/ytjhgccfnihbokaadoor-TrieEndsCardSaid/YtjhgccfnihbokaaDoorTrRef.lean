/- The document's own program of a table of routes: whether a frame may be, its act, what becomes of it. -/
import Derived.Test.YtjhgccfnihbokaaDoorGOpen
import Derived.Test.YtjhgccfnihbokaaDoorGOld
import Derived.Test.YtjhgccfnihbokaaDoorGOpRef
namespace Go.Proofs.YtjhgccfnihbokaaDoor
open Go.RowKit Pt Opn

set_option maxRecDepth 100000 in
set_option maxHeartbeats 4000000 in
theorem rThere_any (k p : Nat) (w : World) : Calls Tryd.prog 49 #[.int .u8 k, .int .u8 p] w (Ret (.bool (decide (ThereT k p))) w) := by
  obtain ⟨r, hr⟩ : ∃ r, decide (ThereT k p) = r := ⟨_, rfl⟩
  rw [hr]
  replace hr : r = true ↔ ThereT k p := by rw [← hr]; exact decide_eq_true_iff
  rw [thereT_iff] at hr
  have HR := Lib.hid hr
  clear hr
  go_enter Tryd.func49, Tryd.ntmps49
  go_wp2
  all_goals go_ret
  all_goals
    have hr := HR.out
    refine Ret.mk (bool_eq ?_) (Below.refl _ _)
    rw [Bool.eq_iff_iff, hr]
    clear HR hr
    simp only [beq_iff_eq, beq_eq_false_iff_ne, ne_eq] at *
    simp
    omega

set_option maxRecDepth 100000 in
set_option maxHeartbeats 4000000 in
theorem rWholeT_any (c : Cf) (f : Ds) (hc : 0 ≤ c.bits ∧ c.bits ≤ 6) (hb : topT c f ≤ 6) (ha : f.a ≤ 127) (w : World) : Calls Tryd.prog 50 #[cfv c, frv f] w (Ret2 (.int .i64 (wholeT c f : Nat)) (.int .i64 (topT c f : Nat)) w) := by
  obtain ⟨n, hn⟩ : ∃ n : Nat, c.bits = n := ⟨c.bits.toNat, by omega⟩
  obtain ⟨m, hm⟩ : ∃ m, topT c f = m := ⟨_, rfl⟩
  rw [hm] at hb
  unfold wholeT
  rw [hm]
  unfold cfv frv
  obtain ⟨t, k, seq, kind, a, b, pc, i, j, n', p, h, x, y⟩ := f
  unfold topT at hm
  rw [hn] at *
  simp only [Int.toNat_natCast] at hm ha ⊢
  by_cases hk : kind = 3
  · subst hk
    rw [if_pos rfl] at hm
    subst hm
    go_enter Tryd.func50, Tryd.ntmps50
    go_wp2
    go_loop [8, 9] (fun v i => ∃ j : Nat, j ≤ n ∧ v = .int .i64 (2 ^ j : Nat) ∧ i = .int .i64 j) (fun _ i => n - (intOf i).toNat)
    case atStart => exact ⟨0, Nat.zero_le _, by simp, rfl⟩
    case round =>
      obtain ⟨l, hl, rfl, rfl⟩ := hrel
      have e1 : 2 ^ l ≤ 2 ^ 6 := Nat.pow_le_pow_right (by decide) (by omega)
      by_cases hlt : l < n
      · have e2 := Lib.hid (Nat.pow_succ 2 l)
        generalize 2 ^ l = q at *
        go_wp2
        go_round
        case rel => exact ⟨l + 1, by omega, i64_eq (by rw [e2.out]; omega), by go_num⟩
        case measure => simp [intOf]; omega
      · obtain rfl : l = n := by omega
        generalize 2 ^ l = q at *
        go_wp2
        go_ret2
        exact Ret2.mk (i64_eq (by omega)) rfl (below_two _ _ _)
  · have hk' : ((kind : Int) == 3) = false := by simp; omega
    rw [if_neg hk] at hm
    subst hm
    go_enter Tryd.func50, Tryd.ntmps50
    go_wp2
    go_loop [8, 9] (fun v i => ∃ j : Nat, j ≤ b ∧ v = .int .i64 (2 ^ j : Nat) ∧ i = .int .i64 j) (fun _ i => b - (intOf i).toNat)
    case atStart => exact ⟨0, Nat.zero_le _, by simp, rfl⟩
    case round =>
      obtain ⟨l, hl, rfl, rfl⟩ := hrel
      have e1 : 2 ^ l ≤ 2 ^ 6 := Nat.pow_le_pow_right (by decide) (by omega)
      by_cases hlt : l < b
      · have e2 := Lib.hid (Nat.pow_succ 2 l)
        generalize 2 ^ l = q at *
        go_wp2
        go_round
        case rel => exact ⟨l + 1, by omega, i64_eq (by rw [e2.out]; omega), by go_num⟩
        case measure => simp [intOf]; omega
      · obtain rfl : l = b := by omega
        generalize 2 ^ l = q at *
        go_wp2
        go_ret2
        exact Ret2.mk (i64_eq (by omega)) rfl (below_two _ _ _)

/-- The bounds of a frame that may be. -/
theorem mayT_bounds {c : Cf} {f : Ds} (hc : Ok c) (hobj : c.obj = 1) (h : TMay c f) : (0 ≤ c.bits ∧ c.bits ≤ 6) ∧ topT c f ≤ 6 ∧ f.a < 2 ^ topT c f ∧ f.a ≤ 63 ∧ f.h ≤ topT c f ∧ (f.kind = 1 ∨ f.kind = 2 ∨ f.kind = 3) ∧ topT c f ≤ c.bits.toNat ∧ 1 ≤ c.bits := by
  obtain ⟨h1, h2, h3⟩ := h
  have hb : 1 ≤ c.bits ∧ c.bits ≤ 6 := by have := hc.1; unfold ObjOk at this; omega
  have ht : topT c f ≤ c.bits.toNat ∧ f.a < 2 ^ topT c f ∧ (f.kind = 1 ∨ f.kind = 2 ∨ f.kind = 3) := by
    unfold topT
    rcases fitsT hobj h1 with ⟨g1, g2, g3, _⟩ | ⟨g1, g2, g3⟩ | ⟨g1, g2, _⟩
    · rw [if_neg (by omega)]; exact ⟨g2, g3, .inl g1⟩
    · rw [if_neg (by omega)]; exact ⟨g2, g3, .inr (.inl g1)⟩
    · rw [if_pos g1]; exact ⟨Nat.le_refl _, g2, .inr (.inr g1)⟩
  have : 2 ^ topT c f ≤ 2 ^ 6 := Nat.pow_le_pow_right (by decide) (by omega)
  exact ⟨by omega, by omega, ht.2.1, by omega, h3, ht.2.2, ht.1, hb.1⟩

theorem new_third (w : World) (a b c : Obj) : (((w.alloc a).alloc b).alloc c).heap[w.heap.size + 1 + 1]? = some c := by simpa using heap_alloc_new ((w.alloc a).alloc b) c
theorem blk_below {w w' : World} {g : Nat} {o : Obj} (h : w.heap[g]? = some o) (hb : Below w.heap.size w w') : w'.heap[g]? = some o := (hb.block g (Array.getElem?_eq_some_iff.1 h).1).trans h
theorem cells7 {w : World} {g : Nat} {a b c d e f h : Value} {t : TypeId} (hh : w.heap[g]? = some (.cells #[a, b, c, d, e, f, h] t (0, 0))) :
    w.cell? ⟨g, 0, none⟩ = some a ∧ w.frozen? ⟨g, 0, none⟩ = false ∧ w.cell? ⟨g, 1, none⟩ = some b ∧ w.frozen? ⟨g, 1, none⟩ = false ∧ w.cell? ⟨g, 2, none⟩ = some c ∧ w.frozen? ⟨g, 2, none⟩ = false ∧ w.cell? ⟨g, 3, none⟩ = some d ∧ w.frozen? ⟨g, 3, none⟩ = false ∧
      w.cell? ⟨g, 4, none⟩ = some e ∧ w.frozen? ⟨g, 4, none⟩ = false ∧ w.cell? ⟨g, 5, none⟩ = some f ∧ w.frozen? ⟨g, 5, none⟩ = false ∧ w.cell? ⟨g, 6, none⟩ = some h ∧ w.frozen? ⟨g, 6, none⟩ = false := by
  refine ⟨?_, ?_, ?_, ?_, ?_, ?_, ?_, ?_, ?_, ?_, ?_, ?_, ?_, ?_⟩ <;> simp [World.cell?, World.frozen?, hh]

theorem new_fourth (w : World) (a b c d : Obj) : ((((w.alloc a).alloc b).alloc c).alloc d).heap[w.heap.size + 1 + 1 + 1]? = some d := by simpa using heap_alloc_new (((w.alloc a).alloc b).alloc c) d
theorem cells11 {w : World} {g : Nat} {a b c d e f h i j k l : Value} {t : TypeId} (hh : w.heap[g]? = some (.cells #[a, b, c, d, e, f, h, i, j, k, l] t (0, 0))) :
    w.cell? ⟨g, 0, none⟩ = some a ∧ w.frozen? ⟨g, 0, none⟩ = false ∧ w.cell? ⟨g, 1, none⟩ = some b ∧ w.frozen? ⟨g, 1, none⟩ = false ∧ w.cell? ⟨g, 2, none⟩ = some c ∧ w.frozen? ⟨g, 2, none⟩ = false ∧ w.cell? ⟨g, 3, none⟩ = some d ∧ w.frozen? ⟨g, 3, none⟩ = false ∧ w.cell? ⟨g, 4, none⟩ = some e ∧ w.frozen? ⟨g, 4, none⟩ = false ∧ w.cell? ⟨g, 5, none⟩ = some f ∧ w.frozen? ⟨g, 5, none⟩ = false ∧ w.cell? ⟨g, 6, none⟩ = some h ∧ w.frozen? ⟨g, 6, none⟩ = false ∧ w.cell? ⟨g, 7, none⟩ = some i ∧ w.frozen? ⟨g, 7, none⟩ = false ∧ w.cell? ⟨g, 8, none⟩ = some j ∧ w.frozen? ⟨g, 8, none⟩ = false ∧ w.cell? ⟨g, 9, none⟩ = some k ∧ w.frozen? ⟨g, 9, none⟩ = false ∧ w.cell? ⟨g, 10, none⟩ = some l ∧ w.frozen? ⟨g, 10, none⟩ = false := by
  refine ⟨?_, ?_, ?_, ?_, ?_, ?_, ?_, ?_, ?_, ?_, ?_, ?_, ?_, ?_, ?_, ?_, ?_, ?_, ?_, ?_, ?_, ?_⟩ <;> simp [World.cell?, World.frozen?, hh]
theorem set_off (w : World) (g i j : Nat) (x : Value) (h : i ≠ j) : (w.setCell ⟨g, i, none⟩ x).cell? ⟨g, j, none⟩ = w.cell? ⟨g, j, none⟩ := World.cell?_setCell_other _ _ _ _ (fun e => h (by injection e))
theorem set_on (w : World) (g i : Nat) (x : Value) (h : (w.cell? ⟨g, i, none⟩).isSome = true) : (w.setCell ⟨g, i, none⟩ x).cell? ⟨g, i, none⟩ = some x := by
  obtain ⟨u, hu⟩ := Option.isSome_iff_exists.1 h
  exact World.cell?_setCell_same _ _ _ hu
theorem set7_old {w : World} {g : Nat} {a0 a1 a2 a3 a4 a5 a6 : Value} (hg : g < w.heap.size) (r0 : w.cell? ⟨g, 0, none⟩ = some a0) (r1 : w.cell? ⟨g, 1, none⟩ = some a1) (r2 : w.cell? ⟨g, 2, none⟩ = some a2) (r3 : w.cell? ⟨g, 3, none⟩ = some a3) (r4 : w.cell? ⟨g, 4, none⟩ = some a4)
    (r5 : w.cell? ⟨g, 5, none⟩ = some a5) (r6 : w.cell? ⟨g, 6, none⟩ = some a6) (x0 x1 x2 x3 x4 x5 x6 : Value) (o : Obj) :
    ((((((((w.setCell ⟨g, 0, none⟩ x0).setCell ⟨g, 1, none⟩ x1).setCell ⟨g, 2, none⟩ x2).setCell ⟨g, 3, none⟩ x3).setCell ⟨g, 4, none⟩ x4).setCell ⟨g, 5, none⟩ x5).setCell ⟨g, 6, none⟩ x6).alloc o).cell? ⟨g, 0, none⟩ = some x0 ∧ ((((((((w.setCell ⟨g, 0, none⟩ x0).setCell ⟨g, 1, none⟩ x1).setCell ⟨g, 2, none⟩ x2).setCell ⟨g, 3, none⟩ x3).setCell ⟨g, 4, none⟩ x4).setCell ⟨g, 5, none⟩ x5).setCell ⟨g, 6, none⟩ x6).alloc o).cell? ⟨g, 1, none⟩ = some x1 ∧ ((((((((w.setCell ⟨g, 0, none⟩ x0).setCell ⟨g, 1, none⟩ x1).setCell ⟨g, 2, none⟩ x2).setCell ⟨g, 3, none⟩ x3).setCell ⟨g, 4, none⟩ x4).setCell ⟨g, 5, none⟩ x5).setCell ⟨g, 6, none⟩ x6).alloc o).cell? ⟨g, 2, none⟩ = some x2 ∧ ((((((((w.setCell ⟨g, 0, none⟩ x0).setCell ⟨g, 1, none⟩ x1).setCell ⟨g, 2, none⟩ x2).setCell ⟨g, 3, none⟩ x3).setCell ⟨g, 4, none⟩ x4).setCell ⟨g, 5, none⟩ x5).setCell ⟨g, 6, none⟩ x6).alloc o).cell? ⟨g, 3, none⟩ = some x3 ∧ ((((((((w.setCell ⟨g, 0, none⟩ x0).setCell ⟨g, 1, none⟩ x1).setCell ⟨g, 2, none⟩ x2).setCell ⟨g, 3, none⟩ x3).setCell ⟨g, 4, none⟩ x4).setCell ⟨g, 5, none⟩ x5).setCell ⟨g, 6, none⟩ x6).alloc o).cell? ⟨g, 4, none⟩ = some x4 ∧ ((((((((w.setCell ⟨g, 0, none⟩ x0).setCell ⟨g, 1, none⟩ x1).setCell ⟨g, 2, none⟩ x2).setCell ⟨g, 3, none⟩ x3).setCell ⟨g, 4, none⟩ x4).setCell ⟨g, 5, none⟩ x5).setCell ⟨g, 6, none⟩ x6).alloc o).cell? ⟨g, 5, none⟩ = some x5 ∧ ((((((((w.setCell ⟨g, 0, none⟩ x0).setCell ⟨g, 1, none⟩ x1).setCell ⟨g, 2, none⟩ x2).setCell ⟨g, 3, none⟩ x3).setCell ⟨g, 4, none⟩ x4).setCell ⟨g, 5, none⟩ x5).setCell ⟨g, 6, none⟩ x6).alloc o).cell? ⟨g, 6, none⟩ = some x6 := by
  have hs : g < (((((((w.setCell ⟨g, 0, none⟩ x0).setCell ⟨g, 1, none⟩ x1).setCell ⟨g, 2, none⟩ x2).setCell ⟨g, 3, none⟩ x3).setCell ⟨g, 4, none⟩ x4).setCell ⟨g, 5, none⟩ x5).setCell ⟨g, 6, none⟩ x6).heap.size := by simpa [World.setCell] using hg
  have hk : ∀ j, ((((((((w.setCell ⟨g, 0, none⟩ x0).setCell ⟨g, 1, none⟩ x1).setCell ⟨g, 2, none⟩ x2).setCell ⟨g, 3, none⟩ x3).setCell ⟨g, 4, none⟩ x4).setCell ⟨g, 5, none⟩ x5).setCell ⟨g, 6, none⟩ x6).alloc o).cell? ⟨g, j, none⟩ = (((((((w.setCell ⟨g, 0, none⟩ x0).setCell ⟨g, 1, none⟩ x1).setCell ⟨g, 2, none⟩ x2).setCell ⟨g, 3, none⟩ x3).setCell ⟨g, 4, none⟩ x4).setCell ⟨g, 5, none⟩ x5).setCell ⟨g, 6, none⟩ x6).cell? ⟨g, j, none⟩ := fun j => (below_one _ o).cell (p := ⟨g, j, none⟩) hs
  refine ⟨?_, ?_, ?_, ?_, ?_, ?_, ?_⟩ <;> rw [hk] <;> simp [set_off, set_on, r0, r1, r2, r3, r4, r5, r6]
end Go.Proofs.YtjhgccfnihbokaaDoor
