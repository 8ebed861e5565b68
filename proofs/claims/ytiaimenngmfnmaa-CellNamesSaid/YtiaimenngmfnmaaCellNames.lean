/- The kinds' numbers and the chapter's examples, and more of them, of package cell. No condition. -/
import Derived.Test.YtiaimenngmfnmaaLaw
import Derived.Test.YtiaimenngmfnmaaCeAlive
namespace Go.Proofs.Ytiaimenngmfnmaa.cellNames
open Go.ChangeShapes Go.WideShapes Go.ChangeAt Go.RowKit Ce

/-- make([]api.Cell, n). -/
theorem run_make_cells (n : Nat) (z : Int) (hz : z = n) (hn : n ≤ 1000000) (w : World) : (Instr.makeSlice 35 (.int .i64 z) (.int .i64 z)).run Try.prog w =
    .ok (.slice (some ⟨w.heap.size, 0, none⟩) n n) (w.alloc (.cells (madeCells #[.int .u64 0, .int .u64 0, .int .u64 0, .int .u64 0] (n * 4)) 25)) := by
  subst hz
  obtain ⟨i0, hi, hz0, hz1, hz2⟩ := info_parts cell_info
  have h := run_make (P := Try.prog) w 35 25 i0 _ Try.underlying35 hi hz0 .i64 .i64 n n (by omega) (by omega) (by rw [hz2]; omega) (by omega)
  rw [h, hz1]
  simp [Value.cells]
theorem made_zero (m i : Nat) (h : i < m) : (madeCells #[.int .u64 0, .int .u64 0, .int .u64 0, .int .u64 0] m)[i]? = some (.int .u64 0) := by
  have e : i % 4 = 0 ∨ i % 4 = 1 ∨ i % 4 = 2 ∨ i % 4 = 3 := by omega
  simp only [madeCells, Array.getElem?_map, Array.getElem?_range]
  rw [if_pos h]
  show some (#[Value.int .u64 0, .int .u64 0, .int .u64 0, .int .u64 0][i % 4]!) = _
  rcases e with e | e | e | e <;> rw [e] <;> rfl
theorem cells_made (w : World) (n : Nat) (t : TypeId) : IsCells (w.alloc (.cells (madeCells #[.int .u64 0, .int .u64 0, .int .u64 0, .int .u64 0] (n * 4)) t)) (some ⟨w.heap.size, 0, none⟩) n zeros := fun i hi => by
  have hr : (w.alloc (.cells (madeCells #[.int .u64 0, .int .u64 0, .int .u64 0, .int .u64 0] (n * 4)) t)).rowIs w.heap.size t (n * 4) (fun _ => .int .u64 0) := ⟨_, heap_alloc_new w _, size_madeCells _ _, fun i hi => made_zero _ _ hi⟩
  refine ⟨w.heap.size, 0, rfl, ?_⟩
  rw [Nat.zero_add]
  refine at4_of hr (by omega) fun j u hu => ?_
  match j, hu with
  | 0, hu => simpa [l4, zeros, C4.zero] using hu
  | 1, hu => simpa [l4, zeros, C4.zero] using hu
  | 2, hu => simpa [l4, zeros, C4.zero] using hu
  | 3, hu => simpa [l4, zeros, C4.zero] using hu

theorem new_made (w : World) (q : Nat) (hq : w.heap.size = q) : Calls Try.prog 10 #[.slice (some ⟨q, 0, none⟩) 1024 1024] (w.alloc (.cells (madeCells #[.int .u64 0, .int .u64 0, .int .u64 0, .int .u64 0] (1024 * 4)) 25)) (RetMem 1024 zeros (w.alloc (.cells (madeCells #[.int .u64 0, .int .u64 0, .int .u64 0, .int .u64 0] (1024 * 4)) 25))) := by
  subst hq
  exact new_ok _ 1024 1024 (fun h => by cases h) (by omega) zeros _ (cells_made w 1024 _)

def exC : Nat → C4 := fun _ => ⟨0, 18446744073709551615, 0, 0⟩
def exD : Nat → Acc := fun _ => ⟨4, 0, C4.zero, ⟨7, 2, 7, 7⟩⟩
def exE (k : Int) : Nat → Acc := fun _ => ⟨k, 0, C4.zero, C4.zero⟩
theorem d_ok : okTo 1 exD 1 = true := by decide +kernel
theorem e_bad : okTo 1 (exE 0) 1 = false := by decide +kernel
theorem f_bad : okTo 1 (exE 5) 1 = false := by decide +kernel

set_option maxRecDepth 100000 in
set_option maxHeartbeats 1000000 in
theorem walk (w : World) : Calls Try.prog 3 #[] w (Ret (.bool true) w) := by
  have hm1 := fun W => run_make_cells 1025 1025 rfl (by omega) W
  have hm2 := fun W => run_make_cells 1024 1024 rfl (by omega) W
  simp only [Nat.reduceMul] at hm1 hm2
  go_enter Try.func3, Try.ntmps3
  go_wp2_with fail
  refine (do_nil ⟨1, 0, C4.zero, C4.zero⟩ _).mono ?_
  rintro e w1 ⟨rfl, hb1⟩
  go_wp2_with fail
  refine (new_many _ _ _ (by omega) _).mono ?_
  rintro e w2 ⟨rfl, hb2⟩
  go_wp2_with fail
  refine (new_made _ _ rfl).mono ?_
  rintro e w3 ⟨gm, gr, A3, c3, rfl, _, _, _, _, hb3⟩
  have b3 := below_then (below_then (below_then hb1 (below_one _ _)) (below_then (below_one _ _) hb2)) (below_then (below_one _ _) hb3)
  clear hb1 hb2 hb3 hm1 hm2
  go_wp2_with fail
  refine (run_lit _ _ _ ⟨rfl, rfl⟩ _ _ 1 1 exC exD ?a2 ?a3 (by omega)).mono ?_
  case a2 => exact ⟨by decide, lt1 rfl⟩
  case a3 => exact ⟨by decide, lt1 rfl⟩
  intro e w4 hp
  obtain ⟨A4, c4, S4, rfl, _, hO4, _, _, hb4⟩ := hp.1 d_ok
  have HO4 := Lib.hid hO4
  clear hp hO4
  go_wp2_with fail
  refine (run_lit _ _ _ ⟨rfl, rfl⟩ _ _ 1 1 zeros (exE 0) ?a2 ?a3 (by omega)).mono ?_
  case a2 => exact ⟨by decide, lt1 rfl⟩
  case a3 => exact ⟨by decide, lt1 rfl⟩
  intro e w5 hp
  obtain ⟨rfl, hb5⟩ := hp.2 e_bad
  clear hp
  go_wp2_with fail
  refine (run_lit _ _ _ ⟨rfl, rfl⟩ _ _ 1 1 zeros (exE 5) ?a2 ?a3 (by omega)).mono ?_
  case a2 => exact ⟨by decide, lt1 rfl⟩
  case a3 => exact ⟨by decide, lt1 rfl⟩
  intro e w6 hp
  obtain ⟨rfl, hb6⟩ := hp.2 f_bad
  clear hp
  go_wp2_with fail
  refine (run_ok none none 0 0 0 0 (fun _ => ⟨rfl, rfl⟩) (by omega) (by omega) (by omega) zeros (exE 0) _ (fun i hi => by omega) (fun i hi => by omega) rfl).mono ?_
  rintro e w7 ⟨A7, c7, S7, rfl, _, _, _, _, hb7⟩
  have b47 := below_then (below_then (below_then (below_two w4 _ _) hb5) (below_then (below_two w5 _ _) hb6)) hb7
  have b4 := below_then b3 (below_then (below_two w3 _ _) hb4)
  clear b3 hb4 hb5 hb6 hb7
  go_wp2_with fail
  refine (alive_any _).mono ?_
  rintro e w8 ⟨rfl, hb8⟩
  go_wp2_with fail
  refine (cells_nil zeros _).mono ?_
  rintro e w9 ⟨A9, c9, rfl, _, _, hb9⟩
  have b49 := below_then (below_then b47 hb8) hb9
  go_wp2_with fail
  refine (same_cells_lit _ _ _ _ ?b0 A4 1 c4 1 ?b3 (st 1 exC exD 1) ?b2 ?b1).mono ?_
  case b0 => rfl
  case b3 => omega
  case b2 => exact HO4.out.cells.same b49.block
  case b1 => exact ⟨by decide, lt1 (by kernel_rfl)⟩
  rintro e w10 ⟨rfl, hb10⟩
  have b10 := below_then (below_then b4 b49) (below_then (below_one _ _) hb10)
  clear b4 b49 b47 hb8 hb9 hb10
  go_wp2
  go_ret
  exact Ret.mk rfl b10

set_option maxRecDepth 100000 in
theorem lifted (os : Os) (started : os.Started) (H : Type) (enc : TypeId × Value → H) :
    ReturnsInHanded {} Try.checked os 3 .any (Rows.cellNamesSpec.pre6 enc Try.prog Try.f3 Rows.cellNamesRow.domain false) (Rows.cellNamesSpec.post enc Try.prog Try.f3 false true false false) := by
  refine returnsInHanded_of_change (C := Try.checked) own started (by kernel_rfl) Try.func3
    (ChangeSpec.witness6 (enc := enc) (C := Try.checked) false ⟨#[], #[], []⟩ 8 (by kernel_rfl) (by kernel_rfl) (by kernel_rfl) (by kernel_rfl)) ?_
  intro W base args ds gs before hval hW hcnd _
  refine law_of laidOut (by kernel_rfl) (by kernel_rfl) Try.underlying4 rfl ?_ hW fun p hA => ?_
  · intro ds hd
    match ds, hd with
    | [], _ => rfl
  rw [Try.params3] at hA
  obtain ⟨hargs, rfl, rfl⟩ := trodAll_nil hA
  obtain rfl : args = #[] := by cases args; simp_all
  exact walk W

theorem proved : Rows.CellNamesSaid :=
  OpenClaim.holds_of_wide 3 Try.f3 rfl rfl rfl rfl rfl rfl rfl ⟨rfl, rfl, rfl, rfl, rfl⟩ rfl rfl rfl rfl rfl (by kernel_rfl) Try.func3 (by kernel_rfl)
    (of_decide_eq_true (by kernel_rfl)) (by unfold Func.isWrapper; rw [if_neg (by decide +kernel)]; exact ⟨rfl, rfl⟩)
    (fun os started H enc _ => lifted os started H enc)
#print axioms proved
end Go.Proofs.Ytiaimenngmfnmaa.cellNames
