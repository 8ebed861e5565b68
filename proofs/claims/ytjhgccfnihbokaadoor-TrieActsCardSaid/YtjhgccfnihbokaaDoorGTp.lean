/- The program of a table of routes, the program's own: the way's nodes; what it asks of an operation. The program of a table of routes, the program's own: the operation of a frame; its row of the table; what is taken over from a cell. The program of a table of routes, the program's own: acts, what is taken over from a cell. Helpers: a world that has three new blocks gets a name; what is kept but for two blocks. -/
import Derived.Test.YtjhgccfnihbokaaDoorGOpen
import Derived.Test.YtjhgccfnihbokaaDoorGOp
import Derived.Test.YtjhgccfnihbokaaDoorGKit
import Derived.Test.YtjhgccfnihbokaaDoorTrRef
namespace Go.Proofs.YtjhgccfnihbokaaDoor
open Go.RowKit Go.Lib Pt Opn

/-- What lay in W reads so in every world that has only grown. -/
theorem reads_regrown (W : World) : ∀ b o, b < W.heap.size → ∀ d os, (Go.Sort.grow (redrawn W d) os).cell? ⟨b, o, none⟩ = W.cell? ⟨b, o, none⟩ := fun b o h d os => (below_regrown W d os).cell (p := ⟨b, o, none⟩) h

set_option maxRecDepth 100000 in
set_option maxHeartbeats 1000000 in
theorem pDeepest_any (c : Cf) (f : Ds) (hb : 0 ≤ c.bits) (hf : f.b < 4294967296) (w : World) : Calls Tryd.prog 43 #[cfv c, frv f] w (Ret (.int .i64 (topT c f : Nat)) w) := by
  obtain ⟨t, k, seq, kind, a, b, pc, i, j, n, p, h, x, y⟩ := f
  unfold topT cfv frv
  simp only at hf ⊢
  go_enter Tryd.func43, Tryd.ntmps43
  go_wp2
  all_goals go_ret
  all_goals refine Ret.mk (i64_eq ?_) (below_two _ _ _)
  all_goals (first | rfl | (simp at *; (try split) <;> omega))

section
open Go.Sort
variable {P : Program} {id : Nat} {Q : Exit → Act → World → Prop} {a : Act} {w : World} {l : List Oper}
/-- A region that draws its order, and the reads that it may make of what was there. -/
theorem wp_region_quiet_reads (hm : P.follows .mixedOrders = true) (hB : Region.lexB .any l.toArray = true)
    (h : (∀ b o, b < w.heap.size → ∀ d os, (grow (redrawn w d) os).cell? ⟨b, o, none⟩ = w.cell? ⟨b, o, none⟩) → wpQuiet P l.toArray (fun w' => ∃ p : Regrown, w' = grow (redrawn w p.d) p.os) (fun a' => ∀ w', (∃ p : Regrown, w' = grow (redrawn w p.d) p.os) → Q .normal a' w') l a) : (Code.region id l.toArray true).wp P Q a w :=
  wp_region_quiet_below hm hB (h (reads_regrown w))
theorem wp_region_tail_reads (n : Nat) (hm : P.follows .mixedOrders = true) (hB : Region.lexTailB .any l.toArray n = true)
    (h : (∀ b o, b < w.heap.size → ∀ d os, (grow (redrawn w d) os).cell? ⟨b, o, none⟩ = w.cell? ⟨b, o, none⟩) → wpQuiet P l.toArray (fun w' => ∃ p : Regrown, w' = grow (redrawn w p.d) p.os) (fun a' => ∀ w', (∃ p : Regrown, w' = grow (redrawn w p.d) p.os) → wpList P l.toArray Q (l.drop n) a' w') (l.take n) a) : (Code.region id l.toArray true).wp P Q a w :=
  wp_region_tail_below n hm hB (h (reads_regrown w))
end

set_option maxRecDepth 100000 in
set_option maxHeartbeats 4000000 in
theorem pLast_any (c : Cf) (f : Ds) (hb : 0 ≤ c.bits) (hf : f.b < 4294967296) (ht : topT c f ≤ 6) (ha : f.a < 2 ^ topT c f) (w : World) : Calls Tryd.prog 93 #[cfv c, frv f] w (Ret (.int .i64 (wholeT c f : Nat)) w) := by
  have HD := Lib.hid (fun W => pDeepest_any c f hb hf W)
  have HN := Lib.hid (fun W => node_any (topT c f : Nat) (f.a : Nat) W)
  have hp : 2 ^ topT c f ≤ 2 ^ 6 := Nat.pow_le_pow_right (by decide) ht
  have ha' : f.a < 64 := by omega
  have hok : Rk.okP (topT c f : Nat) (f.a : Nat) = true := Rk.okP_t (by omega) (by omega) (by omega) (by simpa using (by exact_mod_cast ha))
  rw [hok] at HN
  have hv : Rk.val true (Rk.node (topT c f : Nat) (f.a : Nat)) = (wholeT c f : Nat) := by
    unfold wholeT; simp [Rk.val, Rk.node]; omega
  rw [hv] at HN
  have he : Rk.err true = 0 := rfl
  rw [he] at HN
  clear hok hv he ht ha hp
  generalize wholeT c f = M at *
  generalize topT c f = T at *
  obtain ⟨t, k, seq, kind, a, b, pc, i, j, n, p, h, x, y⟩ := f
  unfold cfv frv at *
  simp only at *
  go_enter Tryd.func93, Tryd.ntmps93
  go_wp2_with fail
  refine wp_region_quiet_reads (by kernel_rfl) (by kernel_rfl) fun HR => ?_
  repeat (go_big_quiet_step (first | exact Calls.regrown_of (HD.out _) | exact Calls.regrown_of (HN.out _)))
  refine wpQuiet_nil ?_
  intro W3 hw'
  obtain ⟨⟨dq, osq⟩, hw''⟩ := hw'
  have hb3 : Below w.heap.size w W3 := by rw [hw'']; exact below_then (below_two w _ _) (below_regrown _ dq osq)
  clear hw'' HR
  go_wp2
  go_ret
  exact Ret.mk rfl hb3

set_option maxRecDepth 100000 in
set_option maxHeartbeats 4000000 in
theorem pNow_any (c : Cf) (f : Ds) (hb : 0 ≤ c.bits) (hf : f.b < 4294967296) (ht : topT c f ≤ 6) (ha : f.a < 2 ^ topT c f) (hh : f.h ≤ topT c f) (w : World) : Calls Tryd.prog 94 #[cfv c, frv f] w (Ret (.int .i64 (deepT c f : Nat)) w) := by
  have HD := Lib.hid (fun W => pDeepest_any c f hb hf W)
  have HL := Lib.hid (fun W => pLast_any c f hb hf ht ha W)
  have HN := Lib.hid (fun W => over_any (wholeT c f : Nat) (((topT c f : Nat) : Int) - (f.h : Nat)) W)
  have hp : 2 ^ topT c f ≤ 2 ^ 6 := Nat.pow_le_pow_right (by decide) ht
  have hN : Rk.isN (wholeT c f : Nat) = true := decide_eq_true (by unfold wholeT; have := Nat.one_le_two_pow (n := topT c f); omega)
  have hdep : Rk.dep (wholeT c f : Nat) = (topT c f : Nat) := by
    unfold Rk.dep wholeT
    have h2 : (f.a + 2 ^ topT c f).log2 = topT c f := (Nat.log2_eq_iff (by have := Nat.one_le_two_pow (n := topT c f); omega)).2 ⟨by omega, by rw [Nat.pow_succ]; omega⟩
    rw [Int.toNat_natCast, h2]
  have hok : Rk.okO (wholeT c f : Nat) (((topT c f : Nat) : Int) - (f.h : Nat)) = true := Rk.okO_t hN (by omega) (by rw [hdep]; omega)
  rw [hok] at HN
  have hv : Rk.val true (Rk.over (wholeT c f : Nat) (((topT c f : Nat) : Int) - (f.h : Nat))) = (deepT c f : Nat) := by
    have e : (((topT c f : Nat) : Int) - (f.h : Nat)).toNat = topT c f - f.h := by omega
    rw [show Rk.val true (Rk.over (wholeT c f : Nat) (((topT c f : Nat) : Int) - (f.h : Nat))) = Rk.over (wholeT c f : Nat) (((topT c f : Nat) : Int) - (f.h : Nat)) from rfl, ← Rk.over_eq (by omega), e]
    unfold deepT
    simp
  rw [hv] at HN
  have he : Rk.err true = 0 := rfl
  rw [he] at HN
  have hwr : wrap64 (((topT c f : Nat) : Int) - (f.h : Nat)) = ((topT c f : Nat) : Int) - (f.h : Nat) := by unfold wrap64; omega
  clear hok hv he hp hN hdep ha
  generalize deepT c f = D at *
  generalize wholeT c f = M at *
  generalize topT c f = T at *
  obtain ⟨t, k, seq, kind, a, b, pc, i, j, n, p, h, x, y⟩ := f
  unfold cfv frv at *
  simp only at *
  go_enter Tryd.func94, Tryd.ntmps94
  go_wp2_with fail
  refine wp_region_quiet_reads (by kernel_rfl) (by kernel_rfl) fun HR => ?_
  repeat (go_big_quiet_step (first | exact Calls.regrown_of (HD.out _) | exact Calls.regrown_of (HL.out _) | exact Calls.regrown_of (HN.out _)))
  refine wpQuiet_nil ?_
  intro W3 hw'
  obtain ⟨⟨dq, osq⟩, hw''⟩ := hw'
  have hb3 : Below w.heap.size w W3 := by rw [hw'']; exact below_then (below_two w _ _) (below_regrown _ dq osq)
  clear hw'' HR
  go_wp2
  go_ret
  exact Ret.mk rfl hb3
end Go.Proofs.YtjhgccfnihbokaaDoor

namespace Go.Proofs.YtjhgccfnihbokaaDoor
open Go.RowKit Go.Lib Pt Opn

/-- A function as a value. -/
def fnV (f : FuncId) : Value := .func (.func f) #[] #[]
def rowI (p : Nat) : Value := if p = 0 then fnV 64 else if p = 1 then fnV 65 else if p = 2 then fnV 66 else if p = 3 then fnV 67 else if p = 5 then fnV 68 else if p = 6 then fnV 69 else if p = 7 then fnV 70 else .nilFunc
def rowR (p : Nat) : Value := if p = 0 then fnV 71 else if p = 2 then fnV 66 else if p = 3 then fnV 72 else if p = 6 then fnV 69 else if p = 8 then fnV 73 else .nilFunc
def rowLk (p : Nat) : Value := if p = 0 then fnV 74 else if p = 6 then fnV 69 else if p = 8 then fnV 73 else .nilFunc
def rowV (k p : Nat) : Value := if k = 1 then rowI p else if k = 2 then rowR p else if k = 3 then rowLk p else .nilFunc

set_option maxRecDepth 100000 in
set_option maxHeartbeats 1000000 in
theorem pInsertRow_any (p : Nat) (w : World) : Calls Tryd.prog 44 #[.int .u8 p] w (Ret (rowI p) w) := by
  obtain ⟨v, hv⟩ : ∃ v, rowI p = v := ⟨_, rfl⟩
  unfold rowI fnV at hv
  rw [show rowI p = v by unfold rowI fnV; exact hv]
  have HV := Lib.hid hv
  clear hv
  go_enter Tryd.func44, Tryd.ntmps44
  go_wp2
  all_goals go_ret
  all_goals
    have hv := HV.out
    refine Ret.mk ?_ (Below.refl _ _)
    clear HV
    simp only [beq_iff_eq, beq_eq_false_iff_ne, ne_eq] at *
    rw [← hv]
    (repeat' split) <;> first | rfl | (exfalso; omega)

set_option maxRecDepth 100000 in
set_option maxHeartbeats 1000000 in
theorem pRemoveRow_any (p : Nat) (w : World) : Calls Tryd.prog 45 #[.int .u8 p] w (Ret (rowR p) w) := by
  obtain ⟨v, hv⟩ : ∃ v, rowR p = v := ⟨_, rfl⟩
  unfold rowR fnV at hv
  rw [show rowR p = v by unfold rowR fnV; exact hv]
  have HV := Lib.hid hv
  clear hv
  go_enter Tryd.func45, Tryd.ntmps45
  go_wp2
  all_goals go_ret
  all_goals
    have hv := HV.out
    refine Ret.mk ?_ (Below.refl _ _)
    clear HV
    simp only [beq_iff_eq, beq_eq_false_iff_ne, ne_eq] at *
    rw [← hv]
    (repeat' split) <;> first | rfl | (exfalso; omega)

set_option maxRecDepth 100000 in
set_option maxHeartbeats 1000000 in
theorem pLookupRow_any (p : Nat) (w : World) : Calls Tryd.prog 46 #[.int .u8 p] w (Ret (rowLk p) w) := by
  obtain ⟨v, hv⟩ : ∃ v, rowLk p = v := ⟨_, rfl⟩
  unfold rowLk fnV at hv
  rw [show rowLk p = v by unfold rowLk fnV; exact hv]
  have HV := Lib.hid hv
  clear hv
  go_enter Tryd.func46, Tryd.ntmps46
  go_wp2
  all_goals go_ret
  all_goals
    have hv := HV.out
    refine Ret.mk ?_ (Below.refl _ _)
    clear HV
    simp only [beq_iff_eq, beq_eq_false_iff_ne, ne_eq] at *
    rw [← hv]
    (repeat' split) <;> first | rfl | (exfalso; omega)

set_option maxRecDepth 100000 in
set_option maxHeartbeats 1000000 in
theorem pRowOf_any (f : Ds) (w : World) : Calls Tryd.prog 25 #[frv f] w (Ret (rowV f.kind f.pc) w) := by
  have H1 := Lib.hid (fun W => pInsertRow_any f.pc W)
  have H2 := Lib.hid (fun W => pRemoveRow_any f.pc W)
  have H3 := Lib.hid (fun W => pLookupRow_any f.pc W)
  obtain ⟨v, hv⟩ : ∃ v, rowV f.kind f.pc = v := ⟨_, rfl⟩
  rw [hv]
  unfold rowV at hv
  obtain ⟨t, k, seq, kind, a, b, pc, i, j, n, p, h, x, y⟩ := f
  simp only at hv H1 H2 H3
  have HV := Lib.hid hv
  clear hv
  generalize rowI pc = v1 at *
  generalize rowR pc = v2 at *
  generalize rowLk pc = v3 at *
  unfold frv
  simp only
  go_enter Tryd.func25, Tryd.ntmps25
  go_wp2_with (first
    | (go_at_call 44; refine (H1.out _).mono ?_; rintro e w1 ⟨rfl, hb1⟩)
    | (go_at_call 45; refine (H2.out _).mono ?_; rintro e w1 ⟨rfl, hb1⟩)
    | (go_at_call 46; refine (H3.out _).mono ?_; rintro e w1 ⟨rfl, hb1⟩))
  all_goals go_ret
  all_goals
    have hv := HV.out
    clear HV H1 H2 H3
    refine Ret.mk ?_ (by first | exact below_b1 hb1 | exact below_one _ _)
    simp only [beq_iff_eq, beq_eq_false_iff_ne, ne_eq] at *
    rw [← hv]
    (repeat' split) <;> first | rfl | (exfalso; omega)

set_option maxRecDepth 100000 in
set_option maxHeartbeats 1000000 in
theorem pOpOf_any (f : Ds) (w : World) : Calls Tryd.prog 42 #[frv f] w (Ret (opv (frO f)) w) := by
  obtain ⟨t, k, seq, kind, a, b, pc, i, j, n, p, h, x, y⟩ := f
  by_cases hk : kind = 1
  · subst hk
    unfold frv frO opv
    simp only [↓reduceIte]
    go_enter Tryd.func42, Tryd.ntmps42
    go_wp2
    refine bodyPost_ret (v := .agg #[.int .u8 (1 : Nat), .int .u32 (a : Nat), .int .u32 (b : Nat), .int .u32 (y : Nat)]) ?_ rfl ⟨rfl, ?_⟩
    · simp [results, Tryd.results42, go_sem]
    · (repeat' (first | with_reducible exact below_two _ _ _ | (with_reducible refine Below.setCell ?_ ?_ _) | (with_reducible refine Below.alloc ?_ ?_ _))) <;> (simp; try omega)
  · have hk' : ((kind : Int) == 1) = false := by simp; omega
    unfold frv frO opv
    simp only [if_neg hk]
    go_enter Tryd.func42, Tryd.ntmps42
    go_wp2
    refine bodyPost_ret (v := .agg #[.int .u8 (kind : Nat), .int .u32 (a : Nat), .int .u32 (b : Nat), .int .u32 (0 : Nat)]) ?_ rfl ⟨rfl, ?_⟩
    · simp [results, Tryd.results42, go_sem]
    · (repeat' (first | with_reducible exact below_two _ _ _ | (with_reducible refine Below.setCell ?_ ?_ _) | (with_reducible refine Below.alloc ?_ ?_ _))) <;> (simp; try omega)
end Go.Proofs.YtjhgccfnihbokaaDoor

namespace Go.Proofs.YtjhgccfnihbokaaDoor
open Go.RowKit Go.Lib Pt Opn

/-- A config, a frame, and the cell that its act reads. -/
def stV (c : Cf) (f : Ds) (t A B C : Nat) : Value := .agg #[.int .u8 c.obj, .int .i64 c.inst, .int .i64 c.thr, .int .u8 c.kind, .int .i64 c.str, .int .i64 c.bits, .int .i64 c.cap, .int .i64 c.node, .int .i64 c.bat, .int .i64 c.chunk, .int .u64 c.lim, .int .u64 c.most, .int .u8 (f.kind : Nat), .int .u32 (f.a : Nat), .int .u32 (f.b : Nat), .int .u8 (f.pc : Nat), .int .u8 (f.i : Nat), .int .u8 (f.j : Nat), .int .u8 (f.n : Nat), .int .u8 (f.p : Nat), .int .u8 (f.h : Nat), .int .u32 (f.x : Nat), .int .u32 (f.y : Nat), .int .u64 (t : Nat), .int .u64 (A : Nat), .int .u64 (B : Nat), .int .u64 (C : Nat)]

theorem regrown_reads {w W3 : World} (h : ∃ p : Regrown, W3 = Go.Sort.grow (redrawn w p.d) p.os) : Below w.heap.size w W3 ∧ (∀ b o, b < w.heap.size → W3.cell? ⟨b, o, none⟩ = w.cell? ⟨b, o, none⟩) ∧ (∀ b o, b < w.heap.size → W3.frozen? ⟨b, o, none⟩ = w.frozen? ⟨b, o, none⟩) := by
  obtain ⟨⟨d, os⟩, h⟩ := h
  have hb : Below w.heap.size w W3 := by rw [h]; exact below_regrown w d os
  exact ⟨hb, bcell hb⟩

set_option maxRecDepth 100000 in
set_option maxHeartbeats 1000000 in
theorem pReadAt_any (n : Nat) (w : World) : Calls Tryd.prog 92 #[.int .i64 n] w (Ret (acv ⟨1, n, 0, 0, 0, 0, 0⟩) w) := by
  unfold acv
  go_enter Tryd.func92, Tryd.ntmps92
  go_wp2
  refine bodyPost_ret (v := acv ⟨1, n, 0, 0, 0, 0, 0⟩) ?_ rfl ⟨rfl, ?_⟩
  · simp [results, Tryd.results92, go_sem, acv]
  · (repeat' (first | with_reducible exact below_one _ _ | (with_reducible refine Below.setCell ?_ ?_ _))) <;> (simp; try omega)

set_option maxRecDepth 100000 in
set_option maxHeartbeats 1000000 in
theorem pWriteAt_any (n a b : Nat) (w : World) : Calls Tryd.prog 97 #[.int .i64 n, .int .u64 a, .int .u64 b] w (Ret (acv ⟨2, n, a, b % 64, 0, 0, 0⟩) w) := by
  have e1 : (b : Int).tmod 64 = ((b % 64 : Nat) : Int) := by rw [Int.tmod_eq_emod_of_nonneg (by omega)]; omega
  obtain ⟨m, hm⟩ : ∃ m, b % 64 = m := ⟨_, rfl⟩
  have hm2 : (b : Int) % 64 = (m : Int) := by omega
  rw [hm] at e1 ⊢
  go_enter Tryd.func97, Tryd.ntmps97
  go_wp2
  refine bodyPost_ret (v := acv ⟨2, n, a, m, 0, 0, 0⟩) ?_ rfl ⟨rfl, ?_⟩
  · simp [results, Tryd.results97, go_sem, acv]
  · (repeat' (first | with_reducible exact below_one _ _ | (with_reducible refine Below.setCell ?_ ?_ _))) <;> (simp; try omega)

set_option maxRecDepth 100000 in
set_option maxHeartbeats 1000000 in
theorem pHop_any (f : Ds) (hy : f.y < 4294967296) (w : World) : Calls Tryd.prog 96 #[frv f] w (Ret (.int .u64 ((f.y + 1 : Nat) : Int)) w) := by
  obtain ⟨t, k, seq, kind, a, b, pc, i, j, n, p, h, x, y⟩ := f
  unfold frv
  simp only at hy ⊢
  go_enter Tryd.func96, Tryd.ntmps96
  go_wp2
  go_ret
  refine Ret.mk (u64_eq ?_) (below_one _ _)
  first | rfl | (simp [IntKind.wrap_u64]; omega)

set_option maxRecDepth 100000 in
set_option maxHeartbeats 4000000 in
theorem pTake_any (c : Cf) (f : Ds) (t A B C : Nat) (w : World) : Calls Tryd.prog 91 #[stV c f t A B C] w (Ret (frv { f with x := A % 4294967296, n := B % 64 }) w) := by
  obtain ⟨V, hV⟩ : ∃ V, A % 4294967296 = V := ⟨_, rfl⟩
  have e1 : IntKind.u32.wrap (A : Int) = (V : Int) := by rw [IntKind.wrap_u32]; omega
  obtain ⟨M, hM⟩ : ∃ M, B % 64 = M := ⟨_, rfl⟩
  have e2 : IntKind.u8.wrap ((B : Int) % 64) = (M : Int) := by rw [IntKind.wrap_u8]; omega
  rw [hV, hM]
  obtain ⟨t', k, seq, kind, a, b, pc, i, j, n, p, h, x, y⟩ := f
  unfold stV
  clear hV hM
  go_enter Tryd.func91, Tryd.ntmps91
  go_wp2
  go_region
  go_wp2
  refine bodyPost_ret (v := frv { tag := t', k := k, seq := seq, kind := kind, a := a, b := b, pc := pc, i := i, j := j, n := M, p := p, h := h, x := V, y := y }) ?_ rfl ⟨rfl, ?_⟩
  · simp [results, Tryd.results91, go_sem, frv]
  · exact below_then (below_three w _ _ _) ⟨rfl, rfl, rfl, Nat.le_refl _, fun _ _ => rfl⟩

/-- Three new blocks: the world gets a name, and what lies in them is told. -/
theorem enter3 {P : Program} {code : Code} {Q : Exit → Act → World → Prop} {x : Act} {w : World} {a b c : Obj}
    (h : ∀ W, Below w.heap.size w W → W.heap[w.heap.size]? = some a → W.heap[w.heap.size + 1]? = some b → W.heap[w.heap.size + 1 + 1]? = some c → w.heap.size < W.heap.size → w.heap.size + 1 < W.heap.size → w.heap.size + 1 + 1 < W.heap.size → code.wp P Q x W) : code.wp P Q x (((w.alloc a).alloc b).alloc c) :=
  h _ (below_three w a b c) (((below_two (w.alloc a) b c).block w.heap.size (by simp)).trans (heap_alloc_new w a)) (((below_one ((w.alloc a).alloc b) c).block (w.heap.size + 1) (by simp)).trans (by simpa using heap_alloc_new (w.alloc a) b)) (new_third w a b c) (by simp; omega) (by simp) (by simp)
end Go.Proofs.YtjhgccfnihbokaaDoor

namespace Go.Proofs.YtjhgccfnihbokaaDoor
open Go.RowKit

theorem cells27 {w : World} {g : Nat} {a0 a1 a2 a3 a4 a5 a6 a7 a8 a9 a10 a11 a12 a13 a14 a15 a16 a17 a18 a19 a20 a21 a22 a23 a24 a25 a26 : Value} {t : TypeId} (hh : w.heap[g]? = some (.cells #[a0, a1, a2, a3, a4, a5, a6, a7, a8, a9, a10, a11, a12, a13, a14, a15, a16, a17, a18, a19, a20, a21, a22, a23, a24, a25, a26] t (0, 0))) :
    w.cell? ⟨g, 0, none⟩ = some a0 ∧ w.cell? ⟨g, 1, none⟩ = some a1 ∧ w.cell? ⟨g, 2, none⟩ = some a2 ∧ w.cell? ⟨g, 3, none⟩ = some a3 ∧ w.cell? ⟨g, 4, none⟩ = some a4 ∧ w.cell? ⟨g, 5, none⟩ = some a5 ∧ w.cell? ⟨g, 6, none⟩ = some a6 ∧ w.cell? ⟨g, 7, none⟩ = some a7 ∧ w.cell? ⟨g, 8, none⟩ = some a8 ∧ w.cell? ⟨g, 9, none⟩ = some a9 ∧ w.cell? ⟨g, 10, none⟩ = some a10 ∧ w.cell? ⟨g, 11, none⟩ = some a11 ∧ w.cell? ⟨g, 12, none⟩ = some a12 ∧ w.cell? ⟨g, 13, none⟩ = some a13 ∧ w.cell? ⟨g, 14, none⟩ = some a14 ∧ w.cell? ⟨g, 15, none⟩ = some a15 ∧ w.cell? ⟨g, 16, none⟩ = some a16 ∧ w.cell? ⟨g, 17, none⟩ = some a17 ∧ w.cell? ⟨g, 18, none⟩ = some a18 ∧ w.cell? ⟨g, 19, none⟩ = some a19 ∧ w.cell? ⟨g, 20, none⟩ = some a20 ∧ w.cell? ⟨g, 21, none⟩ = some a21 ∧ w.cell? ⟨g, 22, none⟩ = some a22 ∧ w.cell? ⟨g, 23, none⟩ = some a23 ∧ w.cell? ⟨g, 24, none⟩ = some a24 ∧ w.cell? ⟨g, 25, none⟩ = some a25 ∧ w.cell? ⟨g, 26, none⟩ = some a26 := by
  refine ⟨?_, ?_, ?_, ?_, ?_, ?_, ?_, ?_, ?_, ?_, ?_, ?_, ?_, ?_, ?_, ?_, ?_, ?_, ?_, ?_, ?_, ?_, ?_, ?_, ?_, ?_, ?_⟩ <;> simp [World.cell?, hh]

/-- One new block: the world gets a name. -/
theorem enter1 {P : Program} {code : Code} {Q : Exit → Act → World → Prop} {x : Act} {w : World} {a : Obj}
    (h : ∀ W, Below w.heap.size w W → W.heap[w.heap.size]? = some a → w.heap.size < W.heap.size → code.wp P Q x W) : code.wp P Q x (w.alloc a) :=
  h _ (below_one w a) (heap_alloc_new w a) (by simp)

/-- .. and a draw behind it. -/
theorem enter1d {P : Program} {code : Code} {Q : Exit → Act → World → Prop} {x : Act} {w : World} {a : Obj}
    (h : ∀ W, Below w.heap.size w W → W.heap[w.heap.size]? = some a → w.heap.size < W.heap.size → code.wp P Q x W) : code.wp P Q x (w.alloc a).drew :=
  h _ (below_then (below_one w a) ⟨rfl, rfl, rfl, Nat.le_refl _, fun _ _ => rfl⟩) (heap_alloc_new w a) (by simp)

theorem kx0 (W : World) (p q : Nat) : W.heap.size ≤ W.drew.heap.size ∧ ∀ b o, b < W.heap.size → b ≠ p → b ≠ q → W.drew.cell? ⟨b, o, none⟩ = W.cell? ⟨b, o, none⟩ := ⟨Nat.le_refl _, fun _ _ _ _ _ => rfl⟩
theorem below_drew' {w X : World} (h : Below w.heap.size w X) : Below w.heap.size w X.drew := below_then h ⟨rfl, rfl, rfl, Nat.le_refl _, fun _ _ => rfl⟩
theorem kx_refl (W : World) (p q : Nat) : W.heap.size ≤ W.heap.size ∧ ∀ b o, b < W.heap.size → b ≠ p → b ≠ q → W.cell? ⟨b, o, none⟩ = W.cell? ⟨b, o, none⟩ := ⟨Nat.le_refl _, fun _ _ _ _ _ => rfl⟩
theorem kx_drew {W X : World} {p q : Nat} (h : W.heap.size ≤ X.heap.size ∧ ∀ b o, b < W.heap.size → b ≠ p → b ≠ q → X.cell? ⟨b, o, none⟩ = W.cell? ⟨b, o, none⟩) : W.heap.size ≤ X.drew.heap.size ∧ ∀ b o, b < W.heap.size → b ≠ p → b ≠ q → X.drew.cell? ⟨b, o, none⟩ = W.cell? ⟨b, o, none⟩ := h
theorem kx_below {W X w3 : World} {p q : Nat} (hb : Below X.heap.size X w3) (h : W.heap.size ≤ X.heap.size ∧ ∀ b o, b < W.heap.size → b ≠ p → b ≠ q → X.cell? ⟨b, o, none⟩ = W.cell? ⟨b, o, none⟩) : W.heap.size ≤ w3.heap.size ∧ ∀ b o, b < W.heap.size → b ≠ p → b ≠ q → w3.cell? ⟨b, o, none⟩ = W.cell? ⟨b, o, none⟩ :=
  ⟨Nat.le_trans h.1 hb.size, fun b j hj h1 h2 => (hb.cell (p := ⟨b, j, none⟩) (Nat.lt_of_lt_of_le hj h.1)).trans (h.2 b j hj h1 h2)⟩
theorem kx_setp {W X : World} {p q : Nat} (h : W.heap.size ≤ X.heap.size ∧ ∀ b o, b < W.heap.size → b ≠ p → b ≠ q → X.cell? ⟨b, o, none⟩ = W.cell? ⟨b, o, none⟩) (j' : Nat) (v : Value) : W.heap.size ≤ (X.setCell ⟨p, j', none⟩ v).heap.size ∧ ∀ b o, b < W.heap.size → b ≠ p → b ≠ q → (X.setCell ⟨p, j', none⟩ v).cell? ⟨b, o, none⟩ = W.cell? ⟨b, o, none⟩ :=
  ⟨by simpa [World.setCell] using h.1, fun b j hb h1 h2 => (World.cell?_setCell_other _ _ _ _ (fun e => h1 (by injection e with e; exact e.symm))).trans (h.2 b j hb h1 h2)⟩
theorem kx_setq {W X : World} {p q : Nat} (h : W.heap.size ≤ X.heap.size ∧ ∀ b o, b < W.heap.size → b ≠ p → b ≠ q → X.cell? ⟨b, o, none⟩ = W.cell? ⟨b, o, none⟩) (j' : Nat) (v : Value) : W.heap.size ≤ (X.setCell ⟨q, j', none⟩ v).heap.size ∧ ∀ b o, b < W.heap.size → b ≠ p → b ≠ q → (X.setCell ⟨q, j', none⟩ v).cell? ⟨b, o, none⟩ = W.cell? ⟨b, o, none⟩ :=
  ⟨by simpa [World.setCell] using h.1, fun b j hb h1 h2 => (World.cell?_setCell_other _ _ _ _ (fun e => h2 (by injection e with e; exact e.symm))).trans (h.2 b j hb h1 h2)⟩
theorem kx_p7 {W X : World} {p q : Nat} (h : W.heap.size ≤ X.heap.size ∧ ∀ b o, b < W.heap.size → b ≠ p → b ≠ q → X.cell? ⟨b, o, none⟩ = W.cell? ⟨b, o, none⟩) (v0 v1 v2 v3 v4 v5 v6 : Value) : W.heap.size ≤ (((((((X.setCell ⟨p, 0, none⟩ v0).setCell ⟨p, 1, none⟩ v1).setCell ⟨p, 2, none⟩ v2).setCell ⟨p, 3, none⟩ v3).setCell ⟨p, 4, none⟩ v4).setCell ⟨p, 5, none⟩ v5).setCell ⟨p, 6, none⟩ v6).heap.size ∧ ∀ b o, b < W.heap.size → b ≠ p → b ≠ q → (((((((X.setCell ⟨p, 0, none⟩ v0).setCell ⟨p, 1, none⟩ v1).setCell ⟨p, 2, none⟩ v2).setCell ⟨p, 3, none⟩ v3).setCell ⟨p, 4, none⟩ v4).setCell ⟨p, 5, none⟩ v5).setCell ⟨p, 6, none⟩ v6).cell? ⟨b, o, none⟩ = W.cell? ⟨b, o, none⟩ :=
  (kx_setp (kx_setp (kx_setp (kx_setp (kx_setp (kx_setp (kx_setp h 0 v0) 1 v1) 2 v2) 3 v3) 4 v4) 5 v5) 6 v6)
theorem kx_q11 {W X : World} {p q : Nat} (h : W.heap.size ≤ X.heap.size ∧ ∀ b o, b < W.heap.size → b ≠ p → b ≠ q → X.cell? ⟨b, o, none⟩ = W.cell? ⟨b, o, none⟩) (v0 v1 v2 v3 v4 v5 v6 v7 v8 v9 v10 : Value) : W.heap.size ≤ (((((((((((X.setCell ⟨q, 0, none⟩ v0).setCell ⟨q, 1, none⟩ v1).setCell ⟨q, 2, none⟩ v2).setCell ⟨q, 3, none⟩ v3).setCell ⟨q, 4, none⟩ v4).setCell ⟨q, 5, none⟩ v5).setCell ⟨q, 6, none⟩ v6).setCell ⟨q, 7, none⟩ v7).setCell ⟨q, 8, none⟩ v8).setCell ⟨q, 9, none⟩ v9).setCell ⟨q, 10, none⟩ v10).heap.size ∧ ∀ b o, b < W.heap.size → b ≠ p → b ≠ q → (((((((((((X.setCell ⟨q, 0, none⟩ v0).setCell ⟨q, 1, none⟩ v1).setCell ⟨q, 2, none⟩ v2).setCell ⟨q, 3, none⟩ v3).setCell ⟨q, 4, none⟩ v4).setCell ⟨q, 5, none⟩ v5).setCell ⟨q, 6, none⟩ v6).setCell ⟨q, 7, none⟩ v7).setCell ⟨q, 8, none⟩ v8).setCell ⟨q, 9, none⟩ v9).setCell ⟨q, 10, none⟩ v10).cell? ⟨b, o, none⟩ = W.cell? ⟨b, o, none⟩ :=
  (kx_setq (kx_setq (kx_setq (kx_setq (kx_setq (kx_setq (kx_setq (kx_setq (kx_setq (kx_setq (kx_setq h 0 v0) 1 v1) 2 v2) 3 v3) 4 v4) 5 v5) 6 v6) 7 v7) 8 v8) 9 v9) 10 v10)

end Go.Proofs.YtjhgccfnihbokaaDoor
