/- The laws' own list questions of a table of routes: two lists of offsets; a list of cells that is made. -/
import Derived.Test.YtjhgccfnihbokaaDoorTrDone
namespace Go.Proofs.YtjhgccfnihbokaaDoor
open Go.RowKit Go.Lib Pt Opn

/-- A list of cells that is made: noughts. -/
theorem run_make_cells (n : Nat) (hn : n ≤ 1000000) (w : World) : (Instr.makeSlice 47 (.int .i64 (n : Nat)) (.int .i64 (n : Nat))).run Tryd.prog w =
    .ok (.slice (some ⟨w.heap.size, 0, none⟩) n n) (w.alloc (.cells (madeCells #[.int .u64 0, .int .u64 0, .int .u64 0, .int .u64 0] (n * 4)) 37)) := by
  obtain ⟨i0, hi, hz0, hz1, hz2⟩ := info_parts cellQ_info
  have h := run_make (P := Tryd.prog) w 47 37 i0 _ Tryd.underlying47 hi hz0 .i64 .i64 n n (by omega) (by omega) (by rw [hz2]; omega) (by omega)
  rw [h, hz1]
  simp [Value.cells]
theorem made_zero (m i : Nat) (h : i < m) : (madeCells #[.int .u64 0, .int .u64 0, .int .u64 0, .int .u64 0] m)[i]? = some (.int .u64 0) := by
  have e : i % 4 = 0 ∨ i % 4 = 1 ∨ i % 4 = 2 ∨ i % 4 = 3 := by omega
  simp only [madeCells, Array.getElem?_map, Array.getElem?_range]
  rw [if_pos h]
  show some (#[Value.int .u64 0, .int .u64 0, .int .u64 0, .int .u64 0][i % 4]!) = _
  rcases e with e | e | e | e <;> rw [e] <;> rfl
theorem isl_zeros (w : World) (N : Nat) (t : TypeId) : IsL (w.alloc (.cells (madeCells #[.int .u64 0, .int .u64 0, .int .u64 0, .int .u64 0] (N * 4)) t)) (some ⟨w.heap.size, 0, none⟩) 4 q4L (List.replicate N (0, 0, 0, 0)) := fun i x hx => by
  obtain ⟨h1, h2⟩ := List.getElem?_eq_some_iff.1 hx
  rw [List.getElem_replicate] at h2
  rw [List.length_replicate] at h1
  subst h2
  refine ⟨w.heap.size, 0, rfl, fun j u hu => ?_⟩
  have hj : j < 4 := (List.getElem?_eq_some_iff.1 hu).1
  have e : u = .int .u64 0 := by
    rcases (show j = 0 ∨ j = 1 ∨ j = 2 ∨ j = 3 by omega) with rfl | rfl | rfl | rfl <;> simpa [q4L] using hu.symm
  subst e
  unfold World.cell?
  rw [heap_alloc_new, Nat.zero_add]
  exact made_zero (N * 4) (i * 4 + j) (by omega)
theorem make16 (w : World) : (Instr.makeSlice 47 (.int .i64 16) (.int .i64 16)).run Tryd.prog w = .ok (.slice (some ⟨w.heap.size, 0, none⟩) 16 16) (w.alloc (.cells (madeCells #[.int .u64 0, .int .u64 0, .int .u64 0, .int .u64 0] 64) 37)) := run_make_cells 16 (by omega) w

set_option maxRecDepth 100000 in
set_option maxHeartbeats 4000000 in
theorem sameAt_any (A B : Option Addr) (l m : List Nat) (c d : Nat) (hl : l.length ≤ 9223372036854775807) (w : World) (h : IsL w A 1 natL l) (g : IsL w B 1 natL m) :
    Calls Tryd.prog 26 #[.slice A l.length c, .slice B m.length d] w (Ret (.bool (decide (l = m))) w) := by
  by_cases hlen : l.length = m.length
  · have HA := Lib.hid h
    have HB := Lib.hid g
    obtain ⟨N, hN⟩ : ∃ N, l.length = N := ⟨_, rfl⟩
    rw [← hlen]
    rw [hN] at hl hlen ⊢
    have HN := Lib.hid hN
    have HM := Lib.hid hlen.symm
    clear h g hN hlen
    obtain ⟨z, hz⟩ : ∃ z, decide (l = m) = z := ⟨_, rfl⟩
    rw [hz]
    have HZ := Lib.hid hz
    clear hz
    go_enter Tryd.func26, Tryd.ntmps26
    go_wp2
    go_loopw [5] (fun i wr => Below w.heap.size w wr ∧ ∃ j : Nat, j ≤ N ∧ i = .int .i64 j ∧ Hid (∀ k, (h1 : k < l.length) → (h2 : k < m.length) → k < j → l[k] = m[k])) (fun i _ => N - (RowKit.intOf i).toNat)
    case atStart => exact ⟨Below.refl _ _, 0, Nat.zero_le _, rfl, Lib.hid fun k _ _ hk => by omega⟩
    case round =>
      obtain ⟨hbr, j, hj, rfl, HS⟩ := hrel
      by_cases hlt : j < N
      · have j1 : j < l.length := by rw [HN.out]; exact hlt
        have j2 : j < m.length := by rw [HM.out]; exact hlt
        obtain ⟨b, off, rfl, h1⟩ := HA.out j _ (List.getElem?_eq_getElem j1)
        obtain ⟨b', off', rfl, h3⟩ := HB.out j _ (List.getElem?_eq_getElem j2)
        replace h1 := h1 0 _ rfl
        replace h3 := h3 0 _ rfl
        rw [Nat.add_zero, Nat.mul_one] at h1 h3
        replace h1 := (hbr.cell (World.block_lt_of_cell? _ _ h1)).trans h1
        replace h3 := (hbr.cell (World.block_lt_of_cell? _ _ h3)).trans h3
        have i1 : (0 : Int) ≤ (j : Int) := by omega
        have i2 : (j : Int) < (N : Int) := by omega
        obtain ⟨q1, e1⟩ : ∃ q, l[j] = q := ⟨_, rfl⟩
        obtain ⟨q3, e3⟩ : ∃ q, m[j] = q := ⟨_, rfl⟩
        rw [e1] at h1
        rw [e3] at h3
        have E := Lib.hid (And.intro e1 e3)
        clear e1 e3
        by_cases d1 : q1 = q3
        · subst d1
          go_wp2
          go_quiet (fail)
          go_wp2
          go_roundw
          case rel => exact ⟨hbr.trans ⟨rfl, rfl, rfl, Nat.le_refl _, fun _ _ => rfl⟩, j + 1, by omega, by go_num, Lib.hid fun k k1 k2 k3 => by
            by_cases e : k = j
            · subst e
              exact E.out.1.trans E.out.2.symm
            · exact HS.out k k1 k2 (by omega)⟩
          case measure => simp [RowKit.intOf]; omega
        · have d3 : ¬ (q1 : Int) = (q3 : Int) := by omega
          have d4 : ((q1 : Int) != (q3 : Int)) = true := by simpa using d3
          go_wp2
          go_quiet (fail)
          go_wp2
          go_ret
          exact Ret.mk (bool_eq (by rw [← HZ.out, eq_comm, decide_eq_false_iff_not]; intro h; subst h; exact d1 (E.out.1.symm.trans E.out.2))) (hbr.trans ⟨rfl, rfl, rfl, Nat.le_refl _, fun _ _ => rfl⟩)
      · obtain rfl : j = N := by omega
        go_wp2
        go_ret
        exact Ret.mk (bool_eq (by rw [← HZ.out, eq_comm, decide_eq_true_iff]; exact List.ext_getElem (HN.out.trans HM.out.symm) fun k k1 k2 => HS.out k k1 k2 (by rw [← HN.out]; exact k1))) hbr
  · have hz : decide (l = m) = false := decide_eq_false fun e => hlen (by rw [e])
    rw [hz]
    have d1 : ¬ (l.length : Int) = (m.length : Int) := by omega
    have d2 : ((l.length : Int) != (m.length : Int)) = true := by simpa using d1
    generalize l.length = N at *
    generalize m.length = M at *
    clear h g hz
    go_enter Tryd.func26, Tryd.ntmps26
    go_wp2
    go_ret
    exact Ret.mk rfl (Below.refl _ _)

def cfT : Cf := ⟨1, 2, 1, 1, 0, 3, 2, 0, 1, 0, 131072, 0⟩
set_option maxHeartbeats 1000000 in
theorem tconf_any (w : World) : Calls Tryd.prog 9 #[] w (Ret (cfv cfT) w) := by
  unfold cfv cfT
  go_enter Tryd.func9, Tryd.ntmps9
  go_wp2
  refine bodyPost_ret (v := .agg #[.int .u8 1, .int .i64 2, .int .i64 1, .int .u8 1, .int .i64 0, .int .i64 3, .int .i64 2, .int .i64 0, .int .i64 1, .int .i64 0, .int .u64 131072, .int .u64 0]) ?_ rfl ⟨rfl, ?_⟩
  · simp [results, Tryd.results9, go_sem]
  · exact below_one _ _

/-- The chapter's examples, in numbers. -/
def exL : List Q4 := [(0, 0, 0, 0), (0, 0, 1, 0), (0, 0, 0, 0), (0, 0, 1, 0), (0, 0, 0, 0), (0, 0, 0, 0), (0, 0, 1, 0), (0, 0, 0, 0), (0, 0, 0, 0), (0, 0, 0, 0), (0, 0, 0, 0), (0, 0, 0, 0), (0, 0, 0, 0), (0, 8, 1, 0), (0, 0, 0, 0), (0, 0, 0, 0)]
theorem go_ins : goT cfT 40 (List.replicate 16 (0, 0, 0, 0)) (startF ⟨1, 5, 3, 7⟩) [] = (exL, (0, 0), [13, 1, 1, 1, 3, 3, 6, 6, 13, 13], true) := by decide +kernel
theorem go_look : goT cfT 40 exL (startF ⟨3, 5, 0, 0⟩) [] = (exL, (0, 8), [1, 3, 6, 13], true) := by decide +kernel
end Go.Proofs.YtjhgccfnihbokaaDoor
