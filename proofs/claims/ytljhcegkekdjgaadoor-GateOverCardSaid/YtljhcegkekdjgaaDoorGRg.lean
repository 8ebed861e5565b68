/- The program's own words of descs: a pair of numbers in a word; the frame with which a program starts. The program's own small fields of a desc: where they stand, the word that they make, and back. The program's own word of a desc's small fields, and the fields out of it. The program's own Laid: a desc's cell. -/
import Derived.Test.YtljhcegkekdjgaaDoorGPk
import Derived.Test.YtljhcegkekdjgaaDoorGOpen
import Derived.Great.BuildSlice
import Derived.Deep.WholeRow
import Derived.Laws.CopyOwn
namespace Go.Proofs.YtljhcegkekdjgaaDoor
open Go.RowKit Go.Shelf Opn

/-- A field behind all that a word has: no bit of it is turned. -/
theorem Pk.put_top_add (x a b v : Nat) (hx : x < 2 ^ a) (hv : v < 2 ^ b) (h : a + b ≤ 64) : Pk.put x a b v = x + 2 ^ a * v := by
  have hx64 : x < 18446744073709551616 := by
    have : 2 ^ a ≤ 2 ^ 64 := Nat.pow_le_pow_right (by decide) (by omega)
    omega
  apply Nat.eq_of_testBit_eq
  intro i
  rw [Pk.put_bit x a b v i hx64 hv h, Nat.add_comm x, Nat.testBit_two_pow_mul_add v hx]
  by_cases c1 : a ≤ i
  · rw [if_neg (by omega : ¬ i < a)]
    by_cases c2 : i < a + b
    · rw [if_pos ⟨c1, c2⟩]
    · rw [if_neg (by omega)]
      have e1 : x.testBit i = false := Nat.testBit_lt_two_pow (Nat.lt_of_lt_of_le hx (Nat.pow_le_pow_right (by decide) c1))
      have e2 : v.testBit (i - a) = false := Nat.testBit_lt_two_pow (Nat.lt_of_lt_of_le hv (Nat.pow_le_pow_right (by decide) (by omega)))
      rw [e1, e2]
  · rw [if_neg (by omega), if_pos (by omega : i < a)]

/-- Fields, one behind the other, that all fit. -/
theorem Pk.join_add {bf : Nat → Int} {vf : Nat → Nat} {n : Nat} (p b : Nat) (hp : Pk.pos bf n = p) (hb : bf n = b) (hx : Pk.join bf vf n < 2 ^ p) (hv : vf n < 2 ^ b) (h : p + b ≤ 64) :
    Pk.join bf vf (n + 1) = Pk.join bf vf n + 2 ^ p * vf n := by
  show Pk.put _ _ _ _ = _
  rw [hp, hb, Int.toNat_natCast, Int.toNat_natCast]
  exact Pk.put_top_add _ _ _ _ hx hv h

set_option maxHeartbeats 4000000 in
theorem rword_any (A : Option Addr) (N c : Nat) (hc : N ≤ c ∧ c ≤ 9223372036854775807) (bf : Nat → Int) (vf : Nat → Nat) (w : World) (hF : IsFields w A N bf vf) :
    Calls Tryd.prog 52 #[.slice A N c] w (Ret2 (.int .u64 (Pk.joinW bf vf N : Nat)) (.int .i64 (Pk.joinE bf vf N)) w) := by
  go_enter Tryd.func52, Tryd.ntmps52
  go_wp2_with (go_at_call 69; refine (join_any A N c hc bf vf _ hF).mono ?_; rintro e w' ⟨rfl, hb1⟩)
  go_ret2
  exact Ret2.mk rfl rfl hb1

set_option maxRecDepth 100000 in
set_option maxHeartbeats 4000000 in
theorem gStart0_any (o : O) (w : World) : Calls Tryd.prog 15 #[opv o] w (Ret (frv (startF o)) w) := by
  unfold opv
  go_enter Tryd.func15, Tryd.ntmps15
  go_wp2
  refine bodyPost_ret (v := .agg #[.int .u8 (o.k : Nat), .int .u32 (o.a : Nat), .int .u32 (o.b : Nat), .int .u8 0, .int .u8 0, .int .u8 0, .int .u8 0, .int .u8 0, .int .u8 0, .int .u32 0, .int .u32 (o.c : Nat)]) ?_ rfl ⟨rfl, below_two _ _ _⟩
  simp [results, Tryd.results15, go_sem]

/-- Two numbers of half a word each: their fields' bits, their numbers. -/
def pairB (_ : Nat) : Int := (32 : Nat)
def pairV (a b : Nat) (i : Nat) : Nat := if i = 0 then a else b
theorem pair_join (a b : Nat) (ha : a < 4294967296) (hb : b < 4294967296) : Pk.joinW pairB (pairV a b) 2 = a + 4294967296 * b ∧ Pk.joinE pairB (pairV a b) 2 = 0 := by
  have p32 : (2 : Nat) ^ 32 = 4294967296 := by decide
  have hs : Pk.standB pairB 2 = true := by decide +kernel
  have hf : Pk.fitsAll pairB (pairV a b) 2 = true := by
    rw [Pk.fitsAll_succ, Pk.fitsAll_succ]
    simp [Pk.fitsAll, Pk.fitsB, pairB, pairV, ha, hb]
  refine ⟨?_, by unfold Pk.joinE; rw [if_pos hs, if_pos hf]⟩
  unfold Pk.joinW
  rw [if_pos ⟨hs, hf⟩]
  have j1 : Pk.join pairB (pairV a b) 1 = a := by
    rw [Pk.join_add (bf := pairB) (vf := pairV a b) (n := 0) 0 32 (by decide +kernel) rfl (by simp [Pk.join]) (by simp [pairV]; omega) (by omega)]
    simp [Pk.join, pairV]
  rw [Pk.join_add (bf := pairB) (vf := pairV a b) (n := 1) 32 32 (by decide +kernel) rfl (by rw [j1]; omega) (by simp [pairV]; omega) (by omega), j1]
  rfl

set_option maxRecDepth 100000 in
set_option maxHeartbeats 4000000 in
theorem pairWord_any (a b : Nat) (ha : a < 4294967296) (hb : b < 4294967296) (w : World) :
    Calls Tryd.prog 31 #[.int .u32 a, .int .u32 b] w (Ret (.int .u64 (a + 4294967296 * b : Nat)) w) := by
  have e1 : IntKind.u64.wrap (a : Int) = (a : Int) := by rw [IntKind.wrap_u64]; omega
  have e2 : IntKind.u64.wrap (b : Int) = (b : Int) := by rw [IntKind.wrap_u64]; omega
  have hj := pair_join a b ha hb
  have HR := Lib.hid (fun A c hc W h => rword_any A 2 c hc pairB (pairV a b) W h)
  rw [hj.1, hj.2] at HR
  generalize a + 4294967296 * b = z at *
  clear hj ha hb
  go_enter Tryd.func31, Tryd.ntmps31
  go_wp2_with fail
  refine (HR.out _ 2 (by omega) _ ?_).mono ?_
  · intro i hi
    obtain rfl | rfl : i = 0 ∨ i = 1 := by omega
    · exact ⟨w.heap.size, 0, rfl, by simp [go_sem, pairB], by simp [go_sem, pairV]⟩
    · exact ⟨w.heap.size, 0, rfl, by simp [go_sem, pairB], by simp [go_sem, pairV]⟩
  rintro e w1 ⟨rfl, hb1⟩
  go_wp2
  go_ret
  exact Ret.mk rfl (below_then (below_one _ _) hb1)
theorem gStart_any (o : O) (_ : Wf o) (w : World) : Calls Tryd.prog 15 #[opv o] w (Ret (frv (startF o)) w) := gStart0_any o w
end Go.Proofs.YtljhcegkekdjgaaDoor

namespace Go.Proofs.YtljhcegkekdjgaaDoor
open Go.RowKit Go.Shelf Opn

/-- The small fields of a desc that lies at q. -/
def smc (q : Nat) : Array Value := #[.int .i64 5, .pointer (some ⟨q, 1, none⟩), .int .i64 7, .pointer (some ⟨q, 2, none⟩), .int .i64 4, .pointer (some ⟨q, 3, none⟩), .int .i64 5, .pointer (some ⟨q, 6, none⟩), .int .i64 7, .pointer (some ⟨q, 7, none⟩),
  .int .i64 7, .pointer (some ⟨q, 8, none⟩), .int .i64 6, .pointer (some ⟨q, 9, none⟩), .int .i64 6, .pointer (some ⟨q, 10, none⟩), .int .i64 3, .pointer (some ⟨q, 11, none⟩)]
def smZ : Array Value := #[.int .i64 0, .pointer none, .int .i64 0, .pointer none, .int .i64 0, .pointer none, .int .i64 0, .pointer none, .int .i64 0, .pointer none, .int .i64 0, .pointer none, .int .i64 0, .pointer none, .int .i64 0, .pointer none, .int .i64 0, .pointer none]

theorem smc_one (q : Nat) : (smc q).all (·.oneCell') = true := by
  unfold smc
  kernel_rfl
theorem smc_size (q : Nat) : (smc q).size = 18 := rfl

set_option maxRecDepth 100000 in
set_option maxHeartbeats 4000000 in
theorem smalls_any (q : Nat) (w : World) : Calls Tryd.prog 51 #[.pointer (some ⟨q, 0, none⟩)] w (Ret (.agg (smc q)) w) := by
  go_enter Tryd.func51, Tryd.ntmps51
  go_wp2
  have hb1 := below_one w (Obj.cells smZ 101)
  have hr := heap_alloc_last w (Obj.cells smZ 101)
  obtain ⟨W, hW⟩ : ∃ W, w.alloc (Obj.cells smZ 101) = W := ⟨_, rfl⟩
  have hW' := hW
  unfold smZ at hW'
  rw [hW'] 
  rw [hW] at hb1 hr
  clear hW hW'
  refine wp_region_tail_below 37 (by kernel_rfl) (by kernel_rfl) ?_
  simp only [List.take_succ_cons, List.take_zero, List.drop_succ_cons, List.drop_zero]
  repeat (go_big_quiet_step (fail))
  refine wpQuiet_nil ?_
  intro W2 hw'
  obtain ⟨⟨dq, osq⟩, hw''⟩ := hw'
  have hb2 := below_regrown W dq osq
  rw [← hw''] at hb2
  have hr2 := (hb2.block w.heap.size (Array.getElem?_eq_some_iff.1 hr).1).trans hr
  clear hw''
  refine wpList_store_rowTo rfl 101 _ _ rfl rfl w.heap.size (smc q) rfl rfl 101 smZ hr2 (by kernel_rfl) rfl (smc_one q) ?_
  have hb3 := below_setRow (below_then hb1 hb2) (Nat.le_refl w.heap.size) (smc q)
  have hr3 := setRow_heap W2 w.heap.size smZ (smc q) 101 (0, 0) hr2
  obtain ⟨W3, hW3⟩ : ∃ W3, W2.setRow w.heap.size (smc q) = W3 := ⟨_, rfl⟩
  rw [hW3] at hb3 hr3 ⊢
  go_wp2
  refine bodyPost_ret (v := .agg (smc q)) ?_ rfl ⟨rfl, hb3⟩
  exact results_cell_row (p := 2) (ty := 101) rfl _ _ w.heap.size 101 (smc q) (0, 0) (.array 9 100) rfl hr3 (by kernel_rfl) rfl (by kernel_rfl)
end Go.Proofs.YtljhcegkekdjgaaDoor

namespace Go.Proofs.YtljhcegkekdjgaaDoor
open Go.RowKit Go.Shelf Opn

/-- The small fields: their bits, where they stand in a desc, their numbers. -/
def smB : Nat → Nat
  | 0 => 5 | 1 => 7 | 2 => 4 | 3 => 5 | 4 => 7 | 5 => 7 | 6 => 6 | 7 => 6 | _ => 3
def smO : Nat → Nat
  | 0 => 1 | 1 => 2 | 2 => 3 | 3 => 6 | 4 => 7 | 5 => 8 | 6 => 9 | 7 => 10 | _ => 11
def smV (d : Ds) : Nat → Nat
  | 0 => d.k | 1 => d.seq | 2 => d.kind | 3 => d.pc | 4 => d.i | 5 => d.j | 6 => d.n | 7 => d.p | _ => d.h

theorem sm_at0 (q : Nat) (W : World) : (Instr.index 101 (.agg (smc q)) (.int .i64 0)).run Tryd.prog W = .ok (.agg #[.int .i64 5, .pointer (some ⟨q, 1, none⟩)]) W := by
  unfold smc
  kernel_rfl
theorem sm_at1 (q : Nat) (W : World) : (Instr.index 101 (.agg (smc q)) (.int .i64 1)).run Tryd.prog W = .ok (.agg #[.int .i64 7, .pointer (some ⟨q, 2, none⟩)]) W := by
  unfold smc
  kernel_rfl
theorem sm_at2 (q : Nat) (W : World) : (Instr.index 101 (.agg (smc q)) (.int .i64 2)).run Tryd.prog W = .ok (.agg #[.int .i64 4, .pointer (some ⟨q, 3, none⟩)]) W := by
  unfold smc
  kernel_rfl
theorem sm_at3 (q : Nat) (W : World) : (Instr.index 101 (.agg (smc q)) (.int .i64 3)).run Tryd.prog W = .ok (.agg #[.int .i64 5, .pointer (some ⟨q, 6, none⟩)]) W := by
  unfold smc
  kernel_rfl
theorem sm_at4 (q : Nat) (W : World) : (Instr.index 101 (.agg (smc q)) (.int .i64 4)).run Tryd.prog W = .ok (.agg #[.int .i64 7, .pointer (some ⟨q, 7, none⟩)]) W := by
  unfold smc
  kernel_rfl
theorem sm_at5 (q : Nat) (W : World) : (Instr.index 101 (.agg (smc q)) (.int .i64 5)).run Tryd.prog W = .ok (.agg #[.int .i64 7, .pointer (some ⟨q, 8, none⟩)]) W := by
  unfold smc
  kernel_rfl
theorem sm_at6 (q : Nat) (W : World) : (Instr.index 101 (.agg (smc q)) (.int .i64 6)).run Tryd.prog W = .ok (.agg #[.int .i64 6, .pointer (some ⟨q, 9, none⟩)]) W := by
  unfold smc
  kernel_rfl
theorem sm_at7 (q : Nat) (W : World) : (Instr.index 101 (.agg (smc q)) (.int .i64 7)).run Tryd.prog W = .ok (.agg #[.int .i64 6, .pointer (some ⟨q, 10, none⟩)]) W := by
  unfold smc
  kernel_rfl
theorem sm_at8 (q : Nat) (W : World) : (Instr.index 101 (.agg (smc q)) (.int .i64 8)).run Tryd.prog W = .ok (.agg #[.int .i64 3, .pointer (some ⟨q, 11, none⟩)]) W := by
  unfold smc
  kernel_rfl
theorem sm_at (q : Nat) (i : Nat) (hi : i < 9) (W : World) : (Instr.index 101 (.agg (smc q)) (.int .i64 (i : Nat))).run Tryd.prog W = .ok (.agg #[.int .i64 (smB i : Nat), .pointer (some ⟨q, smO i, none⟩)]) W := by
  match i, hi with
  | 0, _ => exact sm_at0 q W
  | 1, _ => exact sm_at1 q W
  | 2, _ => exact sm_at2 q W
  | 3, _ => exact sm_at3 q W
  | 4, _ => exact sm_at4 q W
  | 5, _ => exact sm_at5 q W
  | 6, _ => exact sm_at6 q W
  | 7, _ => exact sm_at7 q W
  | 8, _ => exact sm_at8 q W

theorem smB_pos (i : Nat) (hi : i ≤ 9) : Pk.pos (fun i => ((smB i : Nat) : Int)) i = ([0, 5, 12, 16, 21, 28, 35, 41, 47, 50][i]! : Nat) := by
  match i, hi with
  | 0, _ => decide +kernel
  | 1, _ => decide +kernel
  | 2, _ => decide +kernel
  | 3, _ => decide +kernel
  | 4, _ => decide +kernel
  | 5, _ => decide +kernel
  | 6, _ => decide +kernel
  | 7, _ => decide +kernel
  | 8, _ => decide +kernel
  | 9, _ => decide +kernel

theorem smV_lt {d : Ds} (hd : DWf d) (i : Nat) : smV d i < 256 := by
  unfold DWf at hd
  unfold smV
  split <;> omega

/-- A desc's block, and the fields that are laid down so far. -/
structure SmAt (d : Ds) (w : World) (r fb k : Nat) (X : World) : Prop where
  desc : ∀ i, i < 9 → X.cell? ⟨r, smO i, none⟩ = some (.int .u8 (smV d i : Nat))
  put : ∀ i, i < k → X.cell? ⟨fb, i * 2, none⟩ = some (.int .i64 (smB i : Nat)) ∧ X.cell? ⟨fb, i * 2 + 1, none⟩ = some (.int .u64 (smV d i : Nat))
  room : ∀ i, i < 18 → ∃ v, X.cell? ⟨fb, i, none⟩ = some v
  free : ∀ j, X.frozen? ⟨fb, j, none⟩ = false
  below : Below w.heap.size w X

theorem SmAt.step {d : Ds} {w : World} {r fb k : Nat} {X Y : World} (h : SmAt d w r fb k X) (hk : k < 9) (hr : r ≠ fb) (hf : w.heap.size ≤ fb) (hb : Below X.heap.size X Y) (hlt : fb < X.heap.size) (hr2 : r < X.heap.size) :
    SmAt d w r fb (k + 1) ((Y.setCell ⟨fb, k * 2, none⟩ (.int .i64 (smB k : Nat))).setCell ⟨fb, k * 2 + 1, none⟩ (.int .u64 (smV d k : Nat))) := by
  have hc : ∀ j, Y.cell? ⟨fb, j, none⟩ = X.cell? ⟨fb, j, none⟩ := fun j => hb.cell (p := ⟨fb, j, none⟩) hlt
  have hd : ∀ j, Y.cell? ⟨r, j, none⟩ = X.cell? ⟨r, j, none⟩ := fun j => hb.cell (p := ⟨r, j, none⟩) hr2
  refine ⟨fun i hi => ?_, fun i hi => ?_, fun i hi => ?_, fun j => ?_, ?_⟩
  · rw [World.cell?_setCell_other _ _ _ _ (by intro e; injection e; omega), World.cell?_setCell_other _ _ _ _ (by intro e; injection e; omega), hd]
    exact h.desc i hi
  · by_cases e : i = k
    · subst e
      obtain ⟨v, hv⟩ := h.room (i * 2) (by omega)
      obtain ⟨u, hu⟩ := h.room (i * 2 + 1) (by omega)
      refine ⟨?_, ?_⟩
      · rw [World.cell?_setCell_other _ _ _ _ (by intro e; injection e; omega)]
        exact World.cell?_setCell_same' _ _ _ (by rw [hc, hv]; rfl)
      · exact World.cell?_setCell_same' _ _ _ (by rw [World.cell?_setCell_other _ _ _ _ (by intro e; injection e; omega), hc, hu]; rfl)
    · have := h.put i (by omega)
      refine ⟨?_, ?_⟩
      · rw [World.cell?_setCell_other _ _ _ _ (by intro e; injection e; omega), World.cell?_setCell_other _ _ _ _ (by intro e; injection e; omega), hc]; exact this.1
      · rw [World.cell?_setCell_other _ _ _ _ (by intro e; injection e; omega), World.cell?_setCell_other _ _ _ _ (by intro e; injection e; omega), hc]; exact this.2
  · obtain ⟨v, hv⟩ := h.room i hi
    by_cases e1 : i = k * 2 + 1
    · exact ⟨_, by rw [e1]; exact World.cell?_setCell_same' _ _ _ (by rw [World.cell?_setCell_other _ _ _ _ (by intro e; injection e; omega), hc, ← e1, hv]; rfl)⟩
    · by_cases e2 : i = k * 2
      · exact ⟨.int .i64 (smB k : Nat), by rw [e2, World.cell?_setCell_other _ _ _ _ (by intro e; injection e; omega)]; exact World.cell?_setCell_same' _ _ _ (by rw [hc, ← e2, hv]; rfl)⟩
      · exact ⟨v, by rw [World.cell?_setCell_other _ _ _ _ (by intro e; injection e; omega), World.cell?_setCell_other _ _ _ _ (by intro e; injection e; omega), hc]; exact hv⟩
  · rw [World.frozen?_setCell, World.frozen?_setCell, hb.frozen (p := ⟨fb, j, none⟩) hlt]; exact h.free j
  · exact ((h.below.trans (hb.mono h.below.size)).setCell (by simp; omega) _).setCell (by simp; omega) _

set_option maxRecDepth 100000 in
set_option maxHeartbeats 8000000 in
theorem smallWord_any (d : Ds) (hd : DWf d) (w : World) :
    Calls Tryd.prog 30 #[dsv d] w (Ret2 (.int .u64 (Pk.joinW (fun i => ((smB i : Nat) : Int)) (smV d) 9 : Nat)) (.int .i64 (Pk.joinE (fun i => ((smB i : Nat) : Int)) (smV d) 9)) w) := by
  have HV := Lib.hid (smV_lt hd)
  clear hd
  obtain ⟨P, hP⟩ : ∃ P, P = Ret2 (.int .u64 (Pk.joinW (fun i => ((smB i : Nat) : Int)) (smV d) 9 : Nat)) (.int .i64 (Pk.joinE (fun i => ((smB i : Nat) : Int)) (smV d) 9)) w := ⟨_, rfl⟩
  rw [← hP]
  have HP := Lib.hid hP
  clear hP
  unfold dsv
  have HI := fun i hi W => sm_at w.heap.size i hi W
  have F1 := fun W : World => run_storeAt_new (P := Tryd.prog) W 101 smZ (smc w.heap.size) (by kernel_rfl) rfl (smc_one _)
  have F2 := fun W : World => run_loadAt_new (P := Tryd.prog) W 101 (smc w.heap.size) 9 100 (by kernel_rfl) (by kernel_rfl)
  have F3 := fun W : World => run_loadCellsFrom_new (P := Tryd.prog) W 101 (smc w.heap.size) 18 rfl
  have F4 := fun W : World => run_storeCells_new (P := Tryd.prog) W 101 smZ (smc w.heap.size) (by kernel_rfl) rfl (smc_one _)
  obtain ⟨r, hr⟩ : ∃ r, w.heap.size = r := ⟨_, rfl⟩
  rw [hr] at HI F1 F2 F3 F4
  unfold smZ at F1 F4
  have HS := Lib.hid (fun W => smalls_any r W)
  have C18 : (smc r).size = 18 := rfl
  generalize smc r = C at *
  have HI2 := Lib.hid HI
  clear HI
  go_enter Tryd.func30, Tryd.ntmps30
  go_wp2_with fail
  refine (HS.out _).mono ?_
  rintro e w1 ⟨rfl, hb1⟩
  have hi56 : (Tryd.prog.info? 101).map (·.size) = some C.size := by rw [C18]; kernel_rfl
  go_wp2_with (refine wpList_load_row rfl 101 _ rfl w1.heap.size rfl 101 C (0, 0) (.array 9 100) (heap_alloc2_old _ _ _) (by kernel_rfl) rfl hi56 ?_)
  have hz : w.heap.size < w1.heap.size := Nat.lt_of_lt_of_le (by simp) hb1.size
  rw [hr] at hz
  obtain ⟨fb, hfb⟩ : ∃ fb, w1.heap.size + 1 = fb := ⟨_, rfl⟩
  obtain ⟨W, hW⟩ : ∃ W, ((w1.alloc (Obj.cells C 101)).alloc (Obj.cells #[.int .i64 0, .int .u64 0, .int .i64 0, .int .u64 0, .int .i64 0, .int .u64 0, .int .i64 0, .int .u64 0, .int .i64 0, .int .u64 0, .int .i64 0, .int .u64 0, .int .i64 0, .int .u64 0, .int .i64 0, .int .u64 0, .int .i64 0, .int .u64 0] 106)) = W := ⟨_, rfl⟩
  have hbW : Below w.heap.size w W := by rw [← hW]; exact (below_then (below_then (below_one _ _) hb1) (below_two _ _ _))
  have hszW : W.heap.size = fb + 1 := by rw [← hW, ← hfb]; simp
  have hnew : W.heap[fb]? = some (.cells #[.int .i64 0, .int .u64 0, .int .i64 0, .int .u64 0, .int .i64 0, .int .u64 0, .int .i64 0, .int .u64 0, .int .i64 0, .int .u64 0, .int .i64 0, .int .u64 0, .int .i64 0, .int .u64 0, .int .i64 0, .int .u64 0, .int .i64 0, .int .u64 0] 106) := by rw [← hW, ← hfb]; exact heap_alloc2_new _ _ _
  have hold : ∀ j, W.cell? ⟨r, j, none⟩ = (w.alloc (Obj.cells #[.int .u64 d.tag, .int .u8 d.k, .int .u8 d.seq, .int .u8 d.kind, .int .u32 d.a, .int .u32 d.b, .int .u8 d.pc, .int .u8 d.i, .int .u8 d.j, .int .u8 d.n, .int .u8 d.p, .int .u8 d.h, .int .u32 d.x, .int .u32 d.y] 52)).cell? ⟨r, j, none⟩ := fun j => by
    have h1 := (below_two w1 (Obj.cells C 101) (Obj.cells #[.int .i64 0, .int .u64 0, .int .i64 0, .int .u64 0, .int .i64 0, .int .u64 0, .int .i64 0, .int .u64 0, .int .i64 0, .int .u64 0, .int .i64 0, .int .u64 0, .int .i64 0, .int .u64 0, .int .i64 0, .int .u64 0, .int .i64 0, .int .u64 0] 106)).cell (p := ⟨r, j, none⟩) (by simp only; omega)
    rw [hW] at h1
    rw [h1]
    exact hb1.cell (p := ⟨r, j, none⟩) (by rw [← hr]; simp)
  have h0 : SmAt d w r fb 0 W := by
    refine ⟨fun i hi => ?_, fun i hi => by omega, fun i hi => ?_, fun j => frozen_of_row W fb j _ _ hnew, hbW⟩
    · rw [hold]
      match i, hi with
      | 0, _ => simp [go_sem, smO, smV, ← hr]
      | 1, _ => simp [go_sem, smO, smV, ← hr]
      | 2, _ => simp [go_sem, smO, smV, ← hr]
      | 3, _ => simp [go_sem, smO, smV, ← hr]
      | 4, _ => simp [go_sem, smO, smV, ← hr]
      | 5, _ => simp [go_sem, smO, smV, ← hr]
      | 6, _ => simp [go_sem, smO, smV, ← hr]
      | 7, _ => simp [go_sem, smO, smV, ← hr]
      | 8, _ => simp [go_sem, smO, smV, ← hr]
    · have := cell_of_row W fb i _ _ (0, 0) hnew
      rw [this]
      exact ⟨_, Array.getElem?_eq_getElem (by simpa using hi)⟩
  have hrf : r < fb := by omega
  have hwf : w.heap.size ≤ fb := by omega
  have H0 := Lib.hid h0
  have HSZ := Lib.hid hszW
  have HR := Lib.hid hr
  have HRF := Lib.hid (And.intro hrf hwf)
  rw [hfb, hW]
  clear hW hnew hold hbW h0 hszW hfb hz hb1 HS hi56 F1 F2 F3 F4 hr hrf hwf C18
  go_loopw [10] (fun u10 wr => ∃ k : Nat, k ≤ 9 ∧ u10 = .int .i64 k ∧ Hid (SmAt d w r fb k wr ∧ fb < wr.heap.size)) (fun iv _ => 9 - (RowKit.intOf iv).toNat)
  case atStart => exact ⟨0, by omega, rfl, Lib.hid ⟨H0.out, by have := HSZ.out; omega⟩⟩
  case round =>
    obtain ⟨k, hk, rfl, HK⟩ := hrel
    have i1 : (0 : Int) ≤ (k : Int) := by omega
    by_cases hlt : k < 9
    · have i2 : (k : Int) < 9 := by omega
      have n0 := HI2.out k hlt
      have hv := HV.out k
      obtain ⟨v, hvv⟩ : ∃ v, smV d k = v := ⟨_, rfl⟩
      rw [hvv] at hv
      have e1 : IntKind.u64.wrap (v : Int) = (v : Int) := by rw [IntKind.wrap_u64]; omega
      have hd0 := HK.out.1.desc k hlt
      rw [hvv] at hd0
      have HVV := Lib.hid hvv
      clear hv hvv HV
      obtain ⟨b, hb⟩ : ∃ b, smB k = b := ⟨_, rfl⟩
      obtain ⟨o, ho⟩ : ∃ o, smO k = o := ⟨_, rfl⟩
      rw [hb, ho] at n0
      rw [ho] at hd0
      have HB := Lib.hid hb
      have HO := Lib.hid ho
      clear hb ho
      have hrs := World.block_lt_of_cell? _ _ hd0
      simp only at hrs
      obtain ⟨sb, hsb⟩ : ∃ sb, wr.heap.size = sb := ⟨_, rfl⟩
      have HSB := Lib.hid hsb
      clear hsb
      go_wp2
      have hb2 := below_one wr (Obj.cells #[Value.int .i64 (b : Nat), .pointer (some ⟨r, o, none⟩)] 100)
      have hk0 : (wr.alloc (Obj.cells #[Value.int .i64 (b : Nat), .pointer (some ⟨r, o, none⟩)] 100)).cell? ⟨wr.heap.size, 0, none⟩ = some (.int .i64 (b : Nat)) := by simp [go_sem]
      have hk1 : (wr.alloc (Obj.cells #[Value.int .i64 (b : Nat), .pointer (some ⟨r, o, none⟩)] 100)).cell? ⟨wr.heap.size, 1, none⟩ = some (.pointer (some ⟨r, o, none⟩)) := by simp [go_sem]
      have hk2 := (hb2.cell (p := ⟨r, o, none⟩) hrs).trans hd0
      obtain ⟨W2, hW2⟩ : ∃ W2, wr.alloc (Obj.cells #[Value.int .i64 (b : Nat), .pointer (some ⟨r, o, none⟩)] 100) = W2 := ⟨_, rfl⟩
      rw [hW2] at hk0 hk1 hk2 hb2 ⊢
      clear hW2
      have g0 := cell_regrown hk0
      have g1 := cell_regrown hk1
      have g2 := cell_regrown hk2
      refine wp_region_tail_below 10 (by kernel_rfl) (by kernel_rfl) ?_
      simp only [List.take_succ_cons, List.take_zero, List.drop_succ_cons, List.drop_zero]
      repeat (go_big_quiet_step (fail))
      refine wpQuiet_nil ?_
      intro W3 hw'
      obtain ⟨⟨dq, osq⟩, hw''⟩ := hw'
      have hb3 := below_regrown W2 dq osq
      rw [← hw''] at hb3
      clear hw'' g0 g1 g2 hk0 hk1 hk2
      have hb23 := below_then hb2 hb3
      obtain ⟨x, hx⟩ := HK.out.1.room (k * 2) (by omega)
      obtain ⟨y, hy⟩ := HK.out.1.room (k * 2 + 1) (by omega)
      have hx3 := (hb23.cell (p := ⟨fb, k * 2, none⟩) HK.out.2).trans hx
      have hy3 := (hb23.cell (p := ⟨fb, k * 2 + 1, none⟩) HK.out.2).trans hy
      have fx3 := (hb23.frozen (p := ⟨fb, k * 2, none⟩) HK.out.2).trans (HK.out.1.free _)
      have fy3 := (hb23.frozen (p := ⟨fb, k * 2 + 1, none⟩) HK.out.2).trans (HK.out.1.free _)
      clear hx hy
      have hst := HK.out.1.step hlt (by have := HRF.out.1; omega) HRF.out.2 hb23 HK.out.2 hrs
      rw [HVV.out, HB.out] at hst
      have HST := Lib.hid (And.intro hst (show fb < W3.heap.size from Nat.lt_of_lt_of_le HK.out.2 hb23.size))
      clear hb23 hst hb3 hb2
      go_wp2
      go_roundw
      case rel =>
        refine ⟨k + 1, by omega, by go_num, Lib.hid ⟨HST.out.1, ?_⟩⟩
        have := HST.out.2
        simpa [World.setCell] using this
      case measure => simp [RowKit.intOf]; omega
    · obtain rfl : k = 9 := by omega
      have hF : IsFields wr (some ⟨fb, 0, none⟩) 9 (fun i => ((smB i : Nat) : Int)) (smV d) := fun i hi => by
        have := HK.out.1.put i hi
        exact ⟨fb, 0, rfl, by rw [Nat.zero_add]; exact this.1, by rw [Nat.zero_add]; exact this.2⟩
      have HW := Lib.hid (rword_any (some ⟨fb, 0, none⟩) 9 9 (by omega) _ _ wr hF)
      clear hF
      go_wp2_with (go_at_call 52; refine HW.out.mono ?_; rintro e w2 ⟨rfl, hb2⟩)
      rw [HP.out]
      exact Ret2.mk rfl rfl (below_then HK.out.1.below hb2)
theorem sm_fits (d : Ds) : Pk.fitsAll (fun i => ((smB i : Nat) : Int)) (smV d) 9 = decide (DFits d) := by
  rw [Bool.eq_iff_iff]
  unfold DFits
  simp only [Pk.fitsAll, List.range, List.range.loop, List.all_cons, List.all_nil, Bool.and_eq_true, Pk.fitsB, smB, smV, decide_eq_true_eq, Int.toNat_natCast, Nat.reducePow, and_true]
  grind
theorem sm_stand : Pk.standB (fun i => ((smB i : Nat) : Int)) 9 = true := by decide +kernel
theorem sm_join (d : Ds) (h : DFits d) : Pk.join (fun i => ((smB i : Nat) : Int)) (smV d) 9 = dA d := by
  obtain ⟨h1, h2, h3, h4, h5, h6, h7, h8, h9⟩ := h
  have j1 : Pk.join (fun i => ((smB i : Nat) : Int)) (smV d) 1 = d.k := by
    rw [Pk.join_add (bf := fun i => ((smB i : Nat) : Int)) (vf := smV d) (n := 0) 0 5 (smB_pos 0 (by omega)) rfl (by simp [Pk.join]) (by simp only [smV]; omega) (by omega)]
    simp [Pk.join, smV]
  have j2 : Pk.join (fun i => ((smB i : Nat) : Int)) (smV d) 2 = d.k + 32 * d.seq := by
    rw [Pk.join_add (bf := fun i => ((smB i : Nat) : Int)) (vf := smV d) (n := 1) 5 7 (smB_pos 1 (by omega)) rfl (by rw [j1]; omega) (by simp only [smV]; omega) (by omega), j1]
    simp only [smV, Nat.reducePow]
  have j3 : Pk.join (fun i => ((smB i : Nat) : Int)) (smV d) 3 = d.k + 32 * d.seq + 4096 * d.kind := by
    rw [Pk.join_add (bf := fun i => ((smB i : Nat) : Int)) (vf := smV d) (n := 2) 12 4 (smB_pos 2 (by omega)) rfl (by rw [j2]; omega) (by simp only [smV]; omega) (by omega), j2]
    simp only [smV, Nat.reducePow]
  have j4 : Pk.join (fun i => ((smB i : Nat) : Int)) (smV d) 4 = d.k + 32 * d.seq + 4096 * d.kind + 65536 * d.pc := by
    rw [Pk.join_add (bf := fun i => ((smB i : Nat) : Int)) (vf := smV d) (n := 3) 16 5 (smB_pos 3 (by omega)) rfl (by rw [j3]; omega) (by simp only [smV]; omega) (by omega), j3]
    simp only [smV, Nat.reducePow]
  have j5 : Pk.join (fun i => ((smB i : Nat) : Int)) (smV d) 5 = d.k + 32 * d.seq + 4096 * d.kind + 65536 * d.pc + 2097152 * d.i := by
    rw [Pk.join_add (bf := fun i => ((smB i : Nat) : Int)) (vf := smV d) (n := 4) 21 7 (smB_pos 4 (by omega)) rfl (by rw [j4]; omega) (by simp only [smV]; omega) (by omega), j4]
    simp only [smV, Nat.reducePow]
  have j6 : Pk.join (fun i => ((smB i : Nat) : Int)) (smV d) 6 = d.k + 32 * d.seq + 4096 * d.kind + 65536 * d.pc + 2097152 * d.i + 268435456 * d.j := by
    rw [Pk.join_add (bf := fun i => ((smB i : Nat) : Int)) (vf := smV d) (n := 5) 28 7 (smB_pos 5 (by omega)) rfl (by rw [j5]; omega) (by simp only [smV]; omega) (by omega), j5]
    simp only [smV, Nat.reducePow]
  have j7 : Pk.join (fun i => ((smB i : Nat) : Int)) (smV d) 7 = d.k + 32 * d.seq + 4096 * d.kind + 65536 * d.pc + 2097152 * d.i + 268435456 * d.j + 34359738368 * d.n := by
    rw [Pk.join_add (bf := fun i => ((smB i : Nat) : Int)) (vf := smV d) (n := 6) 35 6 (smB_pos 6 (by omega)) rfl (by rw [j6]; omega) (by simp only [smV]; omega) (by omega), j6]
    simp only [smV, Nat.reducePow]
  have j8 : Pk.join (fun i => ((smB i : Nat) : Int)) (smV d) 8 = d.k + 32 * d.seq + 4096 * d.kind + 65536 * d.pc + 2097152 * d.i + 268435456 * d.j + 34359738368 * d.n + 2199023255552 * d.p := by
    rw [Pk.join_add (bf := fun i => ((smB i : Nat) : Int)) (vf := smV d) (n := 7) 41 6 (smB_pos 7 (by omega)) rfl (by rw [j7]; omega) (by simp only [smV]; omega) (by omega), j7]
    simp only [smV, Nat.reducePow]
  have j9 : Pk.join (fun i => ((smB i : Nat) : Int)) (smV d) 9 = d.k + 32 * d.seq + 4096 * d.kind + 65536 * d.pc + 2097152 * d.i + 268435456 * d.j + 34359738368 * d.n + 2199023255552 * d.p + 140737488355328 * d.h := by
    rw [Pk.join_add (bf := fun i => ((smB i : Nat) : Int)) (vf := smV d) (n := 8) 47 3 (smB_pos 8 (by omega)) rfl (by rw [j8]; omega) (by simp only [smV]; omega) (by omega), j8]
    simp only [smV, Nat.reducePow]
  rw [j9]
  unfold dA
  omega
theorem sm_laid (d : Ds) : Pk.joinW (fun i => ((smB i : Nat) : Int)) (smV d) 9 = (if DFits d then dA d else 0) ∧ Pk.joinE (fun i => ((smB i : Nat) : Int)) (smV d) 9 = (if DFits d then 0 else 10) := by
  unfold Pk.joinW Pk.joinE
  rw [sm_stand, sm_fits]
  by_cases h : DFits d
  · simp [h, sm_join d h]
  · simp [h]
end Go.Proofs.YtljhcegkekdjgaaDoor

namespace Go.Proofs.YtljhcegkekdjgaaDoor
open Go.RowKit Go.Shelf Opn

set_option maxRecDepth 100000 in
set_option maxHeartbeats 8000000 in
theorem laid_bad (d : Ds) (hw : DWf d) (hf : ¬ DFits d) (w : World) : Calls Tryd.prog 16 #[dsv d] w (Ret2 (clv (0, 0, 0, 0)) (.int .i64 10) w) := by
  have hj := sm_laid d
  rw [if_neg hf, if_neg hf] at hj
  have HS := Lib.hid (fun W => smallWord_any d hw W)
  rw [hj.1, hj.2] at HS
  clear hj hw hf
  unfold dsv clv at *
  go_enter Tryd.func16, Tryd.ntmps16
  go_wp2_with fail
  refine (HS.out _).mono ?_
  rintro e w1 ⟨rfl, hb1⟩
  obtain ⟨hc1, hf1⟩ := bcell hb1
  go_wp2
  refine bodyPost_ret (v := .tuple #[.agg #[.int .u64 0, .int .u64 0, .int .u64 0, .int .u64 0], .int .i64 10]) ?_ rfl ⟨rfl, ?_⟩
  · simp [results, Tryd.results16, go_sem, hc1]
  · iterate 4 refine Below.setCell ?_ (by simp) _
    exact below_then (below_two _ _ _) hb1

set_option maxRecDepth 100000 in
set_option maxHeartbeats 8000000 in
theorem laid_good (d : Ds) (hw : DWf d) (hf : DFits d) (w : World) : Calls Tryd.prog 16 #[dsv d] w (Ret2 (clv (d.tag, dA d, dB d, dC d)) (.int .i64 0) w) := by
  have hj := sm_laid d
  rw [if_pos hf, if_pos hf] at hj
  have HS := Lib.hid (fun W => smallWord_any d hw W)
  rw [hj.1, hj.2] at HS
  have HB := Lib.hid (fun W => pairWord_any d.a d.b hw.2.2.2.2.1 hw.2.2.2.2.2.1 W)
  have HC := Lib.hid (fun W => pairWord_any d.x d.y hw.2.2.2.2.2.2.2.2.2.2.2.2.1 hw.2.2.2.2.2.2.2.2.2.2.2.2.2 W)
  have eb : d.a + 4294967296 * d.b = dB d := rfl
  have ec : d.x + 4294967296 * d.y = dC d := rfl
  rw [eb] at HB
  rw [ec] at HC
  generalize dA d = za at *
  generalize dB d = zb at *
  generalize dC d = zc at *
  clear hj hw hf eb ec
  unfold dsv clv at *
  go_enter Tryd.func16, Tryd.ntmps16
  go_wp2_with fail
  refine (HS.out _).mono ?_
  rintro e w1 ⟨rfl, hb1⟩
  obtain ⟨hc1, hf1⟩ := bcell hb1
  have q0 : w1.cell? ⟨w.heap.size, 0, none⟩ = some (.int .u64 d.tag) := by rw [hc1 _ _ (by simp; omega)]; simp [go_sem]
  have p0 : w1.cell? ⟨w.heap.size + 1, 0, none⟩ = some (.int .u64 0) := by rw [hc1 _ _ (by simp)]; simp [go_sem]
  have p1 : w1.cell? ⟨w.heap.size + 1, 1, none⟩ = some (.int .u64 0) := by rw [hc1 _ _ (by simp)]; simp [go_sem]
  have p2 : w1.cell? ⟨w.heap.size + 1, 2, none⟩ = some (.int .u64 0) := by rw [hc1 _ _ (by simp)]; simp [go_sem]
  have p3 : w1.cell? ⟨w.heap.size + 1, 3, none⟩ = some (.int .u64 0) := by rw [hc1 _ _ (by simp)]; simp [go_sem]
  have pf : ∀ j, w1.frozen? ⟨w.heap.size + 1, j, none⟩ = false := fun j => by rw [hf1 _ _ (by simp)]; simp [go_sem]
  have hz : w.heap.size + 1 < w1.heap.size := Nat.lt_of_lt_of_le (by simp) hb1.size
  have hb01 := below_then (below_two w _ _) hb1
  go_wp2
  have hb2 := below_one w1 (Obj.cells #[.int .u8 d.kind, .int .u32 d.a, .int .u32 d.b, .int .u8 d.pc, .int .u8 d.i, .int .u8 d.j, .int .u8 d.n, .int .u8 d.p, .int .u8 d.h, .int .u32 d.x, .int .u32 d.y] 32)
  have q4 : (w1.alloc (Obj.cells #[.int .u8 d.kind, .int .u32 d.a, .int .u32 d.b, .int .u8 d.pc, .int .u8 d.i, .int .u8 d.j, .int .u8 d.n, .int .u8 d.p, .int .u8 d.h, .int .u32 d.x, .int .u32 d.y] 32)).cell? ⟨w1.heap.size, 1, none⟩ = some (.int .u32 d.a) := by simp [go_sem]
  have q5 : (w1.alloc (Obj.cells #[.int .u8 d.kind, .int .u32 d.a, .int .u32 d.b, .int .u8 d.pc, .int .u8 d.i, .int .u8 d.j, .int .u8 d.n, .int .u8 d.p, .int .u8 d.h, .int .u32 d.x, .int .u32 d.y] 32)).cell? ⟨w1.heap.size, 2, none⟩ = some (.int .u32 d.b) := by simp [go_sem]
  have q6 : (w1.alloc (Obj.cells #[.int .u8 d.kind, .int .u32 d.a, .int .u32 d.b, .int .u8 d.pc, .int .u8 d.i, .int .u8 d.j, .int .u8 d.n, .int .u8 d.p, .int .u8 d.h, .int .u32 d.x, .int .u32 d.y] 32)).cell? ⟨w1.heap.size, 9, none⟩ = some (.int .u32 d.x) := by simp [go_sem]
  have q7 : (w1.alloc (Obj.cells #[.int .u8 d.kind, .int .u32 d.a, .int .u32 d.b, .int .u8 d.pc, .int .u8 d.i, .int .u8 d.j, .int .u8 d.n, .int .u8 d.p, .int .u8 d.h, .int .u32 d.x, .int .u32 d.y] 32)).cell? ⟨w1.heap.size, 10, none⟩ = some (.int .u32 d.y) := by simp [go_sem]
  obtain ⟨W, hW⟩ : ∃ W, w1.alloc (Obj.cells #[.int .u8 d.kind, .int .u32 d.a, .int .u32 d.b, .int .u8 d.pc, .int .u8 d.i, .int .u8 d.j, .int .u8 d.n, .int .u8 d.p, .int .u8 d.h, .int .u32 d.x, .int .u32 d.y] 32) = W := ⟨_, rfl⟩
  rw [hW] at hb2 q4 q5 q6 q7 ⊢
  replace q0 := (hb2.cell (p := ⟨w.heap.size, 0, none⟩) (by simp only; omega)).trans q0
  replace p0 := (hb2.cell (p := ⟨w.heap.size + 1, 0, none⟩) hz).trans p0
  replace p1 := (hb2.cell (p := ⟨w.heap.size + 1, 1, none⟩) hz).trans p1
  replace p2 := (hb2.cell (p := ⟨w.heap.size + 1, 2, none⟩) hz).trans p2
  replace p3 := (hb2.cell (p := ⟨w.heap.size + 1, 3, none⟩) hz).trans p3
  replace pf : ∀ j, W.frozen? ⟨w.heap.size + 1, j, none⟩ = false := fun j => (hb2.frozen (p := ⟨w.heap.size + 1, j, none⟩) hz).trans (pf j)
  have hbW := below_then hb01 hb2
  have g0 := cell_regrown q0
  have g4 := cell_regrown q4
  have g5 := cell_regrown q5
  have g6 := cell_regrown q6
  have g7 := cell_regrown q7
  have k0 := cell_regrown p0
  have f0 := frozen_regrown p0 (pf 0)
  have k1 := cell_regrown p1
  have f1 := frozen_regrown p1 (pf 1)
  have k2 := cell_regrown p2
  have f2 := frozen_regrown p2 (pf 2)
  have k3 := cell_regrown p3
  have f3 := frozen_regrown p3 (pf 3)
  clear hW hb1 hb2 hb01 hc1 hf1 q0 q4 q5 q6 q7 p0 p1 p2 p3 pf
  refine wp_region_tail_below 14 (by kernel_rfl) (by kernel_rfl) ?_
  simp only [List.take_succ_cons, List.take_zero, List.drop_succ_cons, List.drop_zero]
  iterate 7 go_big_quiet_step (fail)
  go_big_quiet_step (exact Calls.regrown_of (HB.out _))
  iterate 4 go_big_quiet_step (fail)
  go_big_quiet_step (exact Calls.regrown_of (HC.out _))
  go_big_quiet_step (fail)
  refine wpQuiet_nil ?_
  intro W3 hw'
  obtain ⟨⟨dq, osq⟩, hw''⟩ := hw'
  have hb3 := below_then hbW (below_regrown W dq osq)
  replace k0 := k0 dq osq
  replace f0 := f0 dq osq
  replace k1 := k1 dq osq
  replace f1 := f1 dq osq
  replace k2 := k2 dq osq
  replace f2 := f2 dq osq
  replace k3 := k3 dq osq
  replace f3 := f3 dq osq
  rw [← hw''] at hb3 k0 k1 k2 k3 f0 f1 f2 f3
  clear hw'' g0 g4 g5 g6 g7
  go_wp2
  refine bodyPost_ret (v := .tuple #[.agg #[.int .u64 d.tag, .int .u64 za, .int .u64 zb, .int .u64 zc], .int .i64 0]) ?_ rfl ⟨rfl, ?_⟩
  · simp [results, Tryd.results16, go_sem, k0, k1, k2, k3]
  · iterate 4 refine Below.setCell ?_ (by simp) _
    exact hb3

theorem gLaid_any (d : Ds) (hw : DWf d) (w : World) : Calls Tryd.prog 16 #[dsv d] w (Ret (.tuple #[clv (laidD d).1, .int .i64 (laidD d).2]) w) := by
  unfold laidD
  by_cases hf : DFits d
  · rw [if_pos hf]; exact laid_good d hw hf w
  · rw [if_neg hf]; exact laid_bad d hw hf w
end Go.Proofs.YtljhcegkekdjgaaDoor
