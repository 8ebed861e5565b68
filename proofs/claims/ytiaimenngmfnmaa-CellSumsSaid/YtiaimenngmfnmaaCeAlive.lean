/- Rows that are written out; the chapter's examples of package cell. -/
import Derived.Test.YtiaimenngmfnmaaCeRun
namespace Go.Proofs.Ytiaimenngmfnmaa
open Go.RowKit Ce

set_option maxHeartbeats 1000000 in
theorem same_seen_true (A B : Option Addr) (N c d : Nat) (hN : N ≤ 9223372036854775807) (f : Nat → C4) (g : Nat → Bool) (w : World) (hA : IsSeen w A N f g) (hB : IsSeen w B N f g) :
    Calls Try.prog 18 #[.slice A N c, .slice B N d] w (Ret (.bool true) w) := by
  have HA := Lib.hid hA
  have HB := Lib.hid hB
  clear hA hB
  go_enter Try.func18, Try.ntmps18
  go_wp2
  go_loopw [5] (fun i wr => ∃ k : Nat, k ≤ N ∧ i = .int .i64 k ∧ Below w.heap.size w wr) (fun i _ => N - (intOf i).toNat)
  case atStart => exact ⟨0, Nat.zero_le _, rfl, Below.refl _ _⟩
  case round =>
    obtain ⟨k, hk, rfl, hbr⟩ := hrel
    by_cases hlt : k < N
    · obtain ⟨b, off, rfl, h1⟩ := HA.out k hlt
      obtain ⟨b', off', rfl, h2⟩ := HB.out k hlt
      obtain ⟨⟨p0, p1, p2, p3⟩, p4⟩ := h1.same (hbr.block _ h1.lt)
      obtain ⟨⟨q0, q1, q2, q3⟩, q4⟩ := h2.same (hbr.block _ h2.lt)
      have i1 : (0 : Int) ≤ (k : Int) := by omega
      have i2 : (k : Int) < (N : Int) := by omega
      clear h1 h2
      go_wp2
      have k0 := cell_regrown p0
      have k1 := cell_regrown p1
      have k2 := cell_regrown p2
      have k3 := cell_regrown p3
      have k4 := cell_regrown p4
      have l0 := cell_regrown q0
      have l1 := cell_regrown q1
      have l2 := cell_regrown q2
      have l3 := cell_regrown q3
      have l4 := cell_regrown q4
      refine wp_region_quiet_below (by kernel_rfl) (by kernel_rfl) ?_
      repeat (go_big_quiet_step (exact Calls.regrown_of (rSame_true _ _ rfl _)))
      refine wpQuiet_nil ?_
      intro W3 hw'
      obtain ⟨⟨dq, osq⟩, hw''⟩ := hw'
      have hb3 := below_regrown wr dq osq
      rw [← hw''] at hb3
      clear hw'' k0 k1 k2 k3 k4 l0 l1 l2 l3 l4
      go_wp2
      go_roundw
      case rel => exact ⟨k + 1, by omega, by go_num, below_then hbr hb3⟩
      case measure => simp [intOf]; omega
    · obtain rfl : k = N := by omega
      go_wp2
      go_ret
      exact Ret.mk rfl hbr

/-- A row that is written out. -/
theorem row_lit (w : World) (arr : Array Value) (t : TypeId) : (w.alloc (.cells arr t)).rowIs w.heap.size t arr.size (fun i => arr[i]?.getD (.bool false)) := ⟨arr, heap_alloc_new w _, rfl, fun i hi => by simp [hi]⟩
theorem hasL_lit {arr : Array Value} {o : Nat} {l : List Value} (h : (arr.toList.drop o).take l.length = l) : HasL (fun i => arr[i]?.getD (.bool false)) o l := fun j u hu => by
  rw [← h, List.getElem?_take] at hu
  split at hu
  · rw [List.getElem?_drop, Array.getElem?_toList] at hu; simp [hu]
  · cases hu
theorem cells_lit (w : World) (arr : Array Value) (t : TypeId) (n : Nat) (cf : Nat → C4) (hs : n * 4 ≤ arr.size) (h : ∀ i, i < n → (arr.toList.drop (i * 4)).take 4 = l4 (cf i)) : IsCells (w.alloc (.cells arr t)) (some ⟨w.heap.size, 0, none⟩) n cf := fun i hi =>
  ⟨w.heap.size, 0, rfl, by rw [Nat.zero_add]; exact at4_of (row_lit w arr t) (by omega) (hasL_lit (l := l4 (cf i)) (h i hi))⟩
theorem seen_lit (w : World) (arr : Array Value) (t : TypeId) (n : Nat) (cf : Nat → C4) (df : Nat → Bool) (hs : n * 5 ≤ arr.size) (h : ∀ i, i < n → (arr.toList.drop (i * 5)).take 5 = l5 (cf i) (df i)) : IsSeen (w.alloc (.cells arr t)) (some ⟨w.heap.size, 0, none⟩) n cf df := fun i hi =>
  ⟨w.heap.size, 0, rfl, by rw [Nat.zero_add]; exact at5_of (row_lit w arr t) (by omega) (hasL_lit (l := l5 (cf i) (df i)) (h i hi))⟩
theorem accs_lit (w : World) (arr : Array Value) (t : TypeId) (n : Nat) (af : Nat → Acc) (hs : n * 10 ≤ arr.size) (h : ∀ i, i < n → (arr.toList.drop (i * 10)).take 10 = l10 (af i)) : IsAccs (w.alloc (.cells arr t)) (some ⟨w.heap.size, 0, none⟩) n af := fun i hi =>
  ⟨w.heap.size, 0, rfl, by rw [Nat.zero_add]; exact at10_of (row_lit w arr t) (by omega) (hasL_lit (l := l10 (af i)) (h i hi))⟩

/-- The accesses of the chapter's example. -/
def two : C4 := ⟨1, 2, 3, 4⟩
def exA : Nat → Acc
  | 0 => ⟨2, 1, C4.zero, two⟩
  | 1 => ⟨1, 1, C4.zero, C4.zero⟩
  | 2 => ⟨3, 1, two, ⟨2, 0, 0, 0⟩⟩
  | 3 => ⟨3, 1, two, ⟨2, 0, 0, 0⟩⟩
  | _ => ⟨4, 1, C4.zero, ⟨0, 5, 0, 0⟩⟩
def exB : Nat → Acc := fun _ => ⟨1, 2, C4.zero, C4.zero⟩
def zeros : Nat → C4 := fun _ => C4.zero

theorem run_ok (A T : Option Addr) (n c M d : Nat) (hA : A = none → n = 0 ∧ c = 0) (hd : M ≤ d ∧ d ≤ 9223372036854775807) (hM : M ≤ 65536) (hn : n ≤ 1024) (cf : Nat → C4) (af : Nat → Acc) (w : World) (hI : IsCells w A n cf) (hT : IsAccs w T M af) (ho : okTo n af M = true) :
    Calls Try.prog 11 #[.slice A n c, .slice T M d] w (RunOk n M (st n cf af M) (sawC n cf af) (sawD n cf af) w) :=
  (run_walk A T n c M d hA hd hM hn cf af w hI hT).mono fun _ _ h => h.1 ho
theorem run_bad (A T : Option Addr) (n c M d : Nat) (hA : A = none → n = 0 ∧ c = 0) (hd : M ≤ d ∧ d ≤ 9223372036854775807) (hM : M ≤ 65536) (hn : n ≤ 1024) (cf : Nat → C4) (af : Nat → Acc) (w : World) (hI : IsCells w A n cf) (hT : IsAccs w T M af) (ho : okTo n af M = false) :
    Calls Try.prog 11 #[.slice A n c, .slice T M d] w (RunBad 2 w) :=
  (run_walk A T n c M d hA hd hM hn cf af w hI hT).mono fun _ _ h => h.2 ho

theorem lt1 {P : Nat → Prop} (h0 : P 0) : ∀ i, i < 1 → P i
  | 0, _ => h0
theorem lt2 {P : Nat → Prop} (h0 : P 0) (h1 : P 1) : ∀ i, i < 2 → P i
  | 0, _ => h0
  | 1, _ => h1
theorem lt5 {P : Nat → Prop} (h0 : P 0) (h1 : P 1) (h2 : P 2) (h3 : P 3) (h4 : P 4) : ∀ i, i < 5 → P i
  | 0, _ => h0
  | 1, _ => h1
  | 2, _ => h2
  | 3, _ => h3
  | 4, _ => h4

/-- Run over two rows that are written out. -/
theorem run_lit (w : World) (q q' : Nat) (hq : w.heap.size = q ∧ q' = q + 1) (arr brr : Array Value) (n M : Nat) (cf : Nat → C4) (af : Nat → Acc) (ha : n * 4 ≤ arr.size ∧ ∀ i, i < n → (arr.toList.drop (i * 4)).take 4 = l4 (cf i)) (hb : M * 10 ≤ brr.size ∧ ∀ i, i < M → (brr.toList.drop (i * 10)).take 10 = l10 (af i)) (hn : n ≤ 1024 ∧ M ≤ 65536) :
    Calls Try.prog 11 #[.slice (some ⟨q, 0, none⟩) n n, .slice (some ⟨q', 0, none⟩) M M] ((w.alloc (.cells arr 25)).alloc (.cells brr 32)) (RunPost n M cf af ((w.alloc (.cells arr 25)).alloc (.cells brr 32))) := by
  obtain ⟨rfl, rfl⟩ := hq
  have h2 := accs_lit (w.alloc (.cells arr 25)) brr 32 M af hb.1 hb.2
  rw [show (w.alloc (.cells arr 25)).heap.size = w.heap.size + 1 by simp] at h2
  exact run_walk _ _ n n M M (fun h => by cases h) ⟨Nat.le_refl _, by omega⟩ hn.2 hn.1 cf af _ (IsCells.same (cells_lit w arr 25 n cf ha.1 ha.2) (below_one _ _).block) h2

theorem kept4 {w w1 w2 : World} {o1 o2 o3 : Obj} {t : TypeId} (hb1 : Below ((((w.alloc (.cells #[.int .u64 1, .int .u64 2, .int .u64 3, .int .u64 4] t)).alloc o1).alloc o2).alloc o3).heap.size ((((w.alloc (.cells #[.int .u64 1, .int .u64 2, .int .u64 3, .int .u64 4] t)).alloc o1).alloc o2).alloc o3) w1) (h12 : Below w1.heap.size w1 w2) :
    w2.cell? ⟨w.heap.size, 0, none⟩ = some (.int .u64 1) ∧ w2.cell? ⟨w.heap.size, 1, none⟩ = some (.int .u64 2) ∧ w2.cell? ⟨w.heap.size, 2, none⟩ = some (.int .u64 3) ∧ w2.cell? ⟨w.heap.size, 3, none⟩ = some (.int .u64 4) := by
  have h := row_lit w #[.int .u64 1, .int .u64 2, .int .u64 3, .int .u64 4] t
  have hb := below_then (below_then (below_three _ o1 o2 o3) hb1) h12
  have h2 := h.of_block (hb.block _ h.lt)
  exact ⟨h2.cell (i := 0) (by decide), h2.cell (i := 1) (by decide), h2.cell (i := 2) (by decide), h2.cell (i := 3) (by decide)⟩

theorem same_cells_lit (w : World) (arr : Array Value) (t : TypeId) (q : Nat) (hq : w.heap.size = q) (A : Option Addr) (N c d : Nat) (hN : N ≤ 9223372036854775807) (f : Nat → C4) (hA : IsCells w A N f) (ha : N * 4 ≤ arr.size ∧ ∀ i, i < N → (arr.toList.drop (i * 4)).take 4 = l4 (f i)) :
    Calls Try.prog 14 #[.slice A N c, .slice (some ⟨q, 0, none⟩) N d] (w.alloc (.cells arr t)) (Ret (.bool true) (w.alloc (.cells arr t))) := by
  subst hq
  exact same_cells_true A _ N c d hN f _ (hA.same (below_one _ _).block) (cells_lit w arr t N f ha.1 ha.2)

theorem seen_end {w2 w3 : World} {arr : Array Value} {t : TypeId} {o : Obj} (hb3 : Below ((w2.alloc (.cells arr t)).alloc o).heap.size ((w2.alloc (.cells arr t)).alloc o) w3) {n : Nat} (sc : Nat → C4) (sd : Nat → Bool) (ha : n * 5 ≤ arr.size ∧ ∀ i, i < n → (arr.toList.drop (i * 5)).take 5 = l5 (sc i) (sd i)) : IsSeen w3 (some ⟨w2.heap.size, 0, none⟩) n sc sd :=
  (seen_lit w2 arr t n sc sd ha.1 ha.2).same (below_then (below_one _ o) hb3).block

theorem ex_ok : okTo 2 exA 5 = true := by decide +kernel
theorem ex_bad : okTo 2 exB 1 = false := by decide +kernel

set_option maxRecDepth 100000 in
set_option maxHeartbeats 400000 in
theorem alive_any (w : World) : Calls Try.prog 12 #[] w (Ret (.bool true) w) := by
  go_enter Try.func12, Try.ntmps12
  go_wp2_with fail
  refine (run_lit _ _ _ ⟨?a1, rfl⟩ _ _ 2 5 zeros exA ?a2 ?a3 (by omega)).mono ?_
  case a1 => simp
  case a2 => exact ⟨by decide, lt2 rfl rfl⟩
  case a3 => exact ⟨by decide, lt5 rfl rfl rfl rfl rfl⟩
  intro e w1 hp
  obtain ⟨A1, c1, S1, rfl, hA1, hO1, hS1, hap1, hb1⟩ := hp.1 ex_ok
  have HO1 := Lib.hid hO1
  have HS1 := Lib.hid hS1
  clear hp hA1 hO1 hS1 hap1
  go_wp2_with fail
  refine (run_lit _ _ _ ⟨rfl, rfl⟩ _ _ 2 1 zeros exB ?a2 ?a3 (by omega)).mono ?_
  case a2 => exact ⟨by decide, lt2 rfl rfl⟩
  case a3 => exact ⟨by decide, lt1 rfl⟩
  intro e w2 hp
  obtain ⟨rfl, hb2⟩ := hp.2 ex_bad
  have h12 := below_then (below_two w1 _ _) hb2
  obtain ⟨r0, r1, r2, r3⟩ := kept4 hb1 h12
  clear hp
  go_wp2_with fail
  refine (same_cells_lit _ _ _ _ ?b0 A1 2 c1 2 ?b3 (st 2 zeros exA 5) ?b2 ?b1).mono ?_
  case b0 => simp
  case b3 => omega
  case b2 => exact HO1.out.cells.same fun k hk => (h12.alloc h12.size _).block k hk
  case b1 => exact ⟨by decide, lt2 (by kernel_rfl) (by kernel_rfl)⟩
  rintro e w3 ⟨rfl, hb3⟩
  go_wp2_with fail
  have h13 := below_then h12 (below_then (below_two w2 _ _) hb3)
  refine (same_seen_true S1 _ 5 5 5 (by omega) (sawC 2 zeros exA) (sawD 2 zeros exA) _ (HS1.out.same h13.block) (seen_end hb3 _ _ ?c1)).mono ?_
  case c1 => exact ⟨by decide, lt5 (by kernel_rfl) (by kernel_rfl) (by kernel_rfl) (by kernel_rfl) (by kernel_rfl)⟩
  rintro e w4 ⟨rfl, hb4⟩
  have hall := below_then (below_then (below_then (below_then (below_one w _) (below_three _ _ _ _)) hb1) h13) hb4
  clear hb1 hb2 hb3 hb4 h12 h13 r0 r1 r2 r3
  go_wp2
  go_ret
  exact Ret.mk rfl hall
end Go.Proofs.Ytiaimenngmfnmaa
