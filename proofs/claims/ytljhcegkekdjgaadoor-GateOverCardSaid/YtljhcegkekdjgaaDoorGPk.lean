/- Package pack: what each function does, for every number (but for those that go through lists). Package pack: what goes through fields: spans and its closures. Package pack: mayStand. Package pack: Join. -/
import Derived.Test.YtljhcegkekdjgaaDoorProg
import Derived.Test.YtljhcegkekdjgaaDoorGMath
import Derived.RangeFuncNested
import Derived.RangeFuncBound
import Derived.RangeFuncCalls
import Derived.RangeFuncLeaves
import Derived.Shelf.Abstract
import Derived.Shelf.RegionOpen
import Derived.OwnWalkIn
import Derived.TacticsInMore
import Derived.LoopNIn
import Derived.LoopIn
import Derived.Test.YtljhcegkekdjgaaDoorGKit
namespace Go.Proofs.YtljhcegkekdjgaaDoor
open Go.RowKit

set_option maxHeartbeats 400000 in
theorem ones_any (a : Int) (b : Nat) (hb : b ≤ 64) (w : World) :
    Calls Tryd.prog 103 #[.agg #[.int .i64 a, .int .i64 b]] w (Ret (.int .u64 (Pk.ones b)) w) := by
  go_enter Tryd.func103, Tryd.ntmps103
  go_wp2
  go_ret
  exact Ret.mk (u64_eq (Pk.ones_eq b hb)) (below_one _ _)

set_option maxHeartbeats 400000 in
theorem inWord_any (a b : Int) (w : World) :
    Calls Tryd.prog 100 #[.agg #[.int .i64 a, .int .i64 b]] w (Ret (.bool (Pk.inW a b)) w) := by
  go_enter Tryd.func100, Tryd.ntmps100
  go_wp2
  all_goals go_ret
  all_goals exact Ret.mk (bool_eq (by unfold Pk.inW; rw [Bool.eq_iff_iff]; simp; omega)) (below_one _ _)

set_option maxHeartbeats 400000 in
theorem fits_any (v : Nat) (a : Int) (b : Nat) (hb : b ≤ 64) (w : World) :
    Calls Tryd.prog 91 #[.int .u64 v, .agg #[.int .i64 a, .int .i64 b]] w (Ret (.bool (Pk.fitsB v b)) w) := by
  go_enter Tryd.func91, Tryd.ntmps91
  go_wp2_with (go_at_call 103; refine (ones_any _ _ hb _).mono ?_; rintro e w' ⟨rfl, hb1⟩)
  go_ret
  exact Ret.mk (bool_eq (Pk.fits_eq v b)) (below_then (below_one _ _) hb1)

set_option maxHeartbeats 400000 in
theorem with_any (x a b v : Nat) (hx : x < 18446744073709551616) (hv : v < 2 ^ b) (h : a + b ≤ 64) (w : World) :
    Calls Tryd.prog 92 #[.agg #[.int .u64 x], .agg #[.int .i64 a, .int .i64 b], .int .u64 v] w (Ret (.agg #[.int .u64 (Pk.put x a b v : Nat)]) w) := by
  have HX := Lib.hid hx
  have HV := Lib.hid hv
  clear hx hv
  go_enter Tryd.func92, Tryd.ntmps92
  go_wp2
  have hb2 := below_three w (Obj.cells #[Value.int IntKind.u64 ↑x] 139) (Obj.cells #[Value.int IntKind.i64 ↑a, Value.int IntKind.i64 ↑b] 144) (Obj.cells #[Value.int IntKind.u64 0] 139)
  generalize hW : ((w.alloc (Obj.cells #[Value.int IntKind.u64 ↑x] 139)).alloc (Obj.cells #[Value.int IntKind.i64 ↑a, Value.int IntKind.i64 ↑b] 144)).alloc (Obj.cells #[Value.int IntKind.u64 0] 139) = W at hb2 ⊢
  have h0 : W.cell? ⟨w.heap.size, 0, none⟩ = some (.int .u64 x) := by rw [← hW]; simp [go_sem]
  have h1 : W.cell? ⟨w.heap.size + 1, 0, none⟩ = some (.int .i64 a) := by rw [← hW]; simp [go_sem]
  have h2 : W.cell? ⟨w.heap.size + 1, 1, none⟩ = some (.int .i64 b) := by rw [← hW]; simp [go_sem]
  have h3 : W.cell? ⟨w.heap.size + 1 + 1, 0, none⟩ = some (.int .u64 0) := by rw [← hW]; simp [go_sem]
  have k0 := cell_regrown h0
  have k1 := cell_regrown h1
  have k2 := cell_regrown h2
  have f3 : W.frozen? ⟨w.heap.size + 1 + 1, 0, none⟩ = false := by rw [← hW]; simp [go_sem]
  have k3 := cell_regrown h3
  have g3 := frozen_regrown h3 f3
  clear h0 h1 h2 h3 f3 hW
  refine wp_region_quiet_below (by kernel_rfl) (by kernel_rfl) ?_
  repeat (go_big_quiet_step (exact Calls.regrown_of (ones_any _ _ (by omega) _)))
  refine wpQuiet_nil ?_
  intro _ hw'
  obtain ⟨⟨dq, osq⟩, hw''⟩ := hw'
  subst hw''
  go_wp2
  refine bodyPost_ret (v := .agg #[.int .u64 (Pk.put x a b v : Nat)]) ?_ rfl ⟨rfl, ?_⟩
  · simp [results, Tryd.results92, go_sem, k3, Pk.put_eq x a b v HX.out HV.out h]
  · exact (below_then hb2 (below_regrown W dq osq)).setCell (by simp; omega) _
end Go.Proofs.YtljhcegkekdjgaaDoor

namespace Go.Proofs.YtljhcegkekdjgaaDoor
open Go.RowKit Go.Shelf
attribute [local go_sem] Oper.semAt_some

set_option maxHeartbeats 400000 in
theorem fromStart_any (w : World) :
    Calls Tryd.prog 102 #[] w fun e w' => e = .returned (.func (.func 105) #[] #[.pointer (some ⟨w.heap.size, 0, none⟩)]) ∧ w' = w.alloc (.cells #[.int .i64 0] 3) := by
  go_enter Tryd.func102, Tryd.ntmps102
  go_wp2
  go_ret
  exact ⟨rfl, rfl⟩

set_option maxHeartbeats 400000 in
theorem next_any (q : Nat) (v b : Int) (w : World) (hq : w.cell? ⟨q, 0, none⟩ = some (.int .i64 v)) (hf : w.frozen? ⟨q, 0, none⟩ = false) :
    Calls Tryd.prog 105 #[.int .i64 b, .pointer (some ⟨q, 0, none⟩)] w fun e w' => e = .returned (.agg #[.int .i64 v, .int .i64 b]) ∧ Only (· = q) w w' ∧
      w'.cell? ⟨q, 0, none⟩ = some (.int .i64 (wrap64 (v + b))) ∧ w'.frozen? ⟨q, 0, none⟩ = false := by
  have hlt : q < w.heap.size := World.block_lt_of_cell? _ _ hq
  go_enter Tryd.func105, Tryd.ntmps105
  go_wp2
  refine bodyPost_ret (v := .agg #[.int .i64 v, .int .i64 b]) ?_ rfl ⟨rfl, ?_, ?_, ?_⟩
  · simp [results, Tryd.results105, go_sem]
  · exact ((((Only.refl (· = q) w).setCell (p := ⟨q, 0, none⟩) (.inl rfl) _).alloc _).alloc _)
  · rw [World.cell?_alloc_lt _ _ _ (by simp [World.setCell]; omega), World.cell?_alloc_lt _ _ _ (by simp [World.setCell]; omega)]
    exact World.cell?_setCell_same' _ _ _ (by rw [hq]; rfl)
  · simp [go_sem, hf, hlt]

set_option maxHeartbeats 400000 in
theorem spans_any (n : Int) (f : Nat) (lb : Array Value) (w : World) :
    Calls Tryd.prog 90 #[.int .i64 n, .func (.func f) #[] lb] w fun e w' => e = .returned (.func (.func 101) #[] #[.pointer (some ⟨w.heap.size, 0, none⟩), .pointer (some ⟨w.heap.size + 1, 0, none⟩)]) ∧
      w' = (w.alloc (.cells #[.int .i64 n] 3)).alloc (.cells #[.func (.func f) #[] lb] 136) := by
  go_enter Tryd.func90, Tryd.ntmps90
  go_wp2
  go_ret
  exact ⟨rfl, rfl⟩

/-- Where field i begins: the bits ahead of it, summed up as Go does. -/
def Pk.pos (bf : Nat → Int) : Nat → Int
  | 0 => 0
  | i + 1 => wrap64 (Pk.pos bf i + bf i)

def Pk.given (bf : Nat → Int) (N : Nat) : List (Array Value) := (List.range N).map fun i => #[.int .i64 (i : Nat), .agg #[.int .i64 (Pk.pos bf i), .int .i64 (bf i)]]
theorem Pk.given_length (bf : Nat → Int) (N : Nat) : (Pk.given bf N).length = N := by simp [Pk.given]
theorem Pk.given_at (bf : Nat → Int) (N : Nat) (i : Nat) (h : i < (Pk.given bf N).length) : (Pk.given bf N)[i] = #[.int .i64 (i : Nat), .agg #[.int .i64 (Pk.pos bf i), .int .i64 (bf i)]] := by simp [Pk.given]

set_option maxHeartbeats 1000000 in
/-- The iterator hands over the fields' places, one behind the other. -/
theorem spans_iter (n : Nat) (hn : 3 ≤ n) (bf : Nat → Int) (N : Nat) (hl : N ≤ 9223372036854775807) (f : Nat) (lb : Array Value) (b0 b1 : Nat) (cap : Nat → Prop) (w0 : World) (hc0 : cap b0) (hc1 : cap b1)
    (h0 : w0.cell? ⟨b0, 0, none⟩ = some (.int .i64 (N : Nat))) (h1 : w0.cell? ⟨b1, 0, none⟩ = some (.func (.func f) #[] lb))
    (ef : ∀ args w, (callFunc f args).run Tryd.prog w = .ok (.enter f args) w)
    (hbits : ∀ i (A : World), i < N → (∀ k, cap k → k < A.heap.size ∧ A.heap[k]? = w0.heap[k]?) → Calls Tryd.prog f (#[.int .i64 (i : Nat)] ++ lb) A (Ret (.int .i64 (bf i)) A)) :
    Iter n Tryd.prog 101 #[.pointer (some ⟨b0, 0, none⟩), .pointer (some ⟨b1, 0, none⟩)] 1 cap w0 (Pk.given bf N) := by
  intro l J Jx C W hcap hC hJ hJx hY hJ0
  refine callsIn_of_wp Tryd.func101 rfl trivial ?_ rfl
  simp only [Tryd.ntmps101, List.size_toArray, List.length_cons, List.length_nil, Nat.reduceAdd, Nat.reduceSub, Array.replicate_succ, Array.replicate_zero, List.push_toArray, List.append_toArray, List.nil_append, List.cons_append]
  have g0 : W.cell? ⟨b0, 0, none⟩ = some (.int .i64 (N : Nat)) := (World.cell?_of_block (hcap b0 hc0).2).trans h0
  have hfw : ∀ f, Fence.wide.fn f := fun _ => trivial
  have hn1 : 1 ≤ n := by omega
  have HY := Lib.hid hY
  have HJ := Lib.hid hJ
  have HC := Lib.hid hC
  have Hcap := Lib.hid hcap
  have Hbits := Lib.hid hbits
  have Hf1 := Lib.hid h1
  clear hY hJ hC hcap hbits hJx h0 h1
  gi_wp2_with fail
  refine (callsIn_wide.2 (fromStart_any W)).mono ?_
  rintro e A0 ⟨rfl, hA0⟩
  have o0 : Only (fun k => W.heap.size ≤ k ∧ k < W.heap.size + 1) W A0 := by rw [hA0]; exact (Only.refl _ _).alloc _
  have c0 : A0.cell? ⟨W.heap.size, 0, none⟩ = some (.int .i64 0) := by rw [hA0]; simp [go_sem]
  have z0 : A0.frozen? ⟨W.heap.size, 0, none⟩ = false := by rw [hA0]; simp [go_sem]
  have g1 := o0.cell g0 (by have := (Hcap.out b0 hc0).1; show ¬ (W.heap.size ≤ b0 ∧ b0 < W.heap.size + 1); omega)
  have j0 := HJ.out _ _ _ hJ0 o0
  have p0 : Hid (∀ k, cap k → k < A0.heap.size ∧ A0.heap[k]? = w0.heap[k]?) := Lib.hid fun k hk => by
    have := Hcap.out k hk
    exact ⟨Nat.lt_of_lt_of_le this.1 o0.size, (o0.block k this.1 (by omega)).trans this.2⟩
  clear g0 hA0 o0 hJ0
  obtain ⟨q, hq⟩ : ∃ q, W.heap.size = q := ⟨_, rfl⟩
  rw [hq] at c0 z0 HJ HC ⊢
  have Hcq : Hid (∀ j, cap j → j < q) := Lib.hid fun j hj => by rw [← hq]; exact (Hcap.out j hj).1
  clear Hcap hq W
  gi_wp2
  gi_loopw [8] (fun c wr => ∃ k : Nat, k ≤ N ∧ c = .int .i64 k ∧ J k wr ∧ wr.cell? ⟨q, 0, none⟩ = some (.int .i64 (Pk.pos bf k)) ∧ wr.frozen? ⟨q, 0, none⟩ = false ∧ Hid (∀ k, cap k → k < wr.heap.size ∧ wr.heap[k]? = w0.heap[k]?))
    (fun c _ => N - (intOf c).toNat)
  case atStart => exact ⟨0, Nat.zero_le _, rfl, j0, c0, z0, p0⟩
  case round =>
    clear j0 c0 z0 p0 g1
    obtain ⟨k, hk, rfl, hJk, hck, hzk, hpk⟩ := hrel
    by_cases hlt : k < N
    · have hg1 : wr.cell? ⟨b1, 0, none⟩ = some (.func (.func f) #[] lb) := (World.cell?_of_block (hpk.out b1 hc1).2).trans Hf1.out
      gi_wp2_with fail
      refine (callsIn_wide.2 (Hbits.out k wr hlt hpk.out)).mono ?_
      rintro e A1 ⟨rfl, hb1⟩
      have c1 : A1.cell? ⟨q, 0, none⟩ = some (.int .i64 (Pk.pos bf k)) := (hb1.cell (World.block_lt_of_cell? _ _ hck)).trans hck
      have z1 : A1.frozen? ⟨q, 0, none⟩ = false := (hb1.frozen (World.block_lt_of_cell? _ _ hck)).trans hzk
      clear hg1
      gi_wp2_with fail
      refine (callsIn_wide.2 (next_any q _ _ A1 c1 z1)).mono ?_
      rintro e A2 ⟨rfl, ho2, c2, z2⟩
      have o12 : Only (fun k => q ≤ k ∧ k < q + 1) wr A2 := (Only.of_below _ hb1).trans (ho2.mono fun j _ hj => by omega)
      have hJ2 := HJ.out _ _ _ hJk o12
      obtain ⟨fn, tmps, assign, body, hy, hR⟩ := HY.out k (by rw [Pk.given_length]; exact hlt) A2 hJ2
      rw [Pk.given_at] at hy
      have p2 : Hid (∀ k, cap k → k < A2.heap.size ∧ A2.heap[k]? = w0.heap[k]?) := Lib.hid fun j hj => by
        have h := hpk.out j hj
        have hjq : ¬ (q ≤ j ∧ j < q + 1) := by have := Hcq.out j hj; omega
        exact ⟨Nat.lt_of_lt_of_le h.1 o12.size, (o12.block j h.1 hjq).trans h.2⟩
      clear hck hzk c1 z1 hb1 ho2 hJk hpk
      gi_wp2
      refine hR.mono ?_
      rintro e A3 (⟨rfl, hJ3, ho3⟩ | ⟨rfl, hJx3⟩)
      · have hqC : ¬ C q := fun h => by have := (HC.out q h).2; omega
        have c3 : A3.cell? ⟨q, 0, none⟩ = some (.int .i64 (wrap64 (Pk.pos bf k + bf k))) := ho3.cell c2 hqC
        have z3 : A3.frozen? ⟨q, 0, none⟩ = false := (ho3.frozen (World.block_lt_of_cell? _ _ c2) hqC).trans z2
        have p3 : Hid (∀ k, cap k → k < A3.heap.size ∧ A3.heap[k]? = w0.heap[k]?) := Lib.hid fun j hj => by
          have h := p2.out j hj
          exact ⟨Nat.lt_of_lt_of_le h.1 ho3.size, (ho3.block j h.1 (fun hc => (HC.out j hc).1 hj)).trans h.2⟩
        gi_wp2
        go_roundw
        case rel => exact ⟨k + 1, by omega, by go_num, hJ3, c3, z3, p3⟩
        case measure => simp [intOf]; omega
      · gi_wp2
        refine bodyPost_ret (results_none rfl _ _ _) rfl ?_
        exact ⟨⟨_, rfl⟩, .inr ⟨k, by rw [Pk.given_length]; exact hlt, hJx3⟩⟩
    · obtain rfl : k = N := by omega
      gi_wp2
      go_end0
      exact ⟨⟨_, rfl⟩, .inl (by rw [Pk.given_length]; exact hJk)⟩
end Go.Proofs.YtljhcegkekdjgaaDoor

namespace Go.Proofs.YtljhcegkekdjgaaDoor
open Go.RowKit Go.Shelf
attribute [local go_sem] Oper.semAt_some

/-- All fields up to n stand in the word. -/
def Pk.standB (bf : Nat → Int) (n : Nat) : Bool := (List.range n).all fun i => Pk.inW (Pk.pos bf i) (bf i)

theorem Pk.standB_succ (bf : Nat → Int) (n : Nat) : Pk.standB bf (n + 1) = (Pk.standB bf n && Pk.inW (Pk.pos bf n) (bf n)) := by simp [Pk.standB, List.range_succ]
theorem Pk.standB_false {bf : Nat → Int} {n m : Nat} (h : n ≤ m) (hf : Pk.standB bf n = false) : Pk.standB bf m = false := by
  induction m with
  | zero => obtain rfl : n = 0 := by omega
            exact hf
  | succ m ih =>
    by_cases e : n = m + 1
    · rw [← e]; exact hf
    · rw [Pk.standB_succ, ih (by omega)]; rfl

/-- What lay below n lies as it lay. -/
def Same (n : Nat) (w A : World) : Prop := n ≤ A.heap.size ∧ ∀ k, k < n → A.heap[k]? = w.heap[k]?

set_option maxHeartbeats 1000000 in
theorem mayStand_any (bf : Nat → Int) (N : Nat) (hl : N ≤ 9223372036854775807) (f : Nat) (lb : Array Value) (w : World)
    (ef : ∀ args w, (callFunc f args).run Tryd.prog w = .ok (.enter f args) w)
    (hbits : ∀ i (A : World), i < N → Same w.heap.size w A → Calls Tryd.prog f (#[.int .i64 (i : Nat)] ++ lb) A (Ret (.int .i64 (bf i)) A)) :
    Calls Tryd.prog 89 #[.int .i64 (N : Nat), .func (.func f) #[] lb] w (Ret (.bool (Pk.standB bf N)) w) := by
  refine (callsIn_wide (n := 9)).1 ?_
  refine callsIn_of_wp_marks Tryd.func89 rfl trivial ?_ rfl
  simp only [Tryd.ntmps89, List.size_toArray, List.length_cons, List.length_nil, Nat.reduceAdd, Nat.reduceSub, Array.replicate_succ, Array.replicate_zero, List.push_toArray, List.append_toArray, List.nil_append, List.cons_append]
  have hfw : ∀ f, Fence.wide.fn f := fun _ => trivial
  have Hbits := Lib.hid hbits
  clear hbits
  gi_wp2_with (gi_at_call 90; refine (callsIn_wide.2 (spans_any _ f lb _)).mono ?_; rintro e w' ⟨rfl, rfl⟩)
  obtain ⟨W, hW⟩ : ∃ W, ((w.alloc (Obj.cells #[Value.bool false] 4)).alloc (Obj.cells #[Value.int IntKind.i64 ↑N] 3)).alloc (Obj.cells #[Value.func (Fn.func f) #[] lb] 136) = W := ⟨_, rfl⟩
  obtain ⟨r, hr⟩ : ∃ r, w.heap.size = r := ⟨_, rfl⟩
  have hz : W.heap.size = r + 3 := by rw [← hW, ← hr]; simp
  have b0 : Below r w W := by rw [← hW, ← hr]; exact below_three _ _ _ _
  have c0 : W.cell? ⟨r, 0, none⟩ = some (.bool false) := by rw [← hW, ← hr]; simp [go_sem]
  have z0 : W.frozen? ⟨r, 0, none⟩ = false := by rw [← hW, ← hr]; simp [go_sem]
  have c1 : W.cell? ⟨r + 1, 0, none⟩ = some (.int .i64 (N : Nat)) := by rw [← hW, ← hr]; simp [go_sem]
  have c2 : W.cell? ⟨r + 1 + 1, 0, none⟩ = some (.func (.func f) #[] lb) := by rw [← hW, ← hr]; simp [go_sem]
  rw [hW]
  rw [hr] at Hbits ⊢
  clear hW
  refine wpIn_range (gf := 101) (lb := #[.pointer (some ⟨r + 1, 0, none⟩), .pointer (some ⟨r + 1 + 1, 0, none⟩)]) rfl (enters_of Tryd.func101 (by kernel_rfl) rfl)
    (spans_iter 8 (by omega) bf N hl f lb (r + 1) (r + 1 + 1) (fun k => k < r + 3 ∧ k ≠ r) W (by omega) (by omega) c1 c2 ef ?hb) ?hcap ?hps (fun k => k = r) ?hC
    (fun i A => A.cell? ⟨r, 0, none⟩ = some (.bool false) ∧ A.frozen? ⟨r, 0, none⟩ = false ∧ Below r w A ∧ Pk.standB bf i = true)
    (fun c i A => c = .ret ∧ A.cell? ⟨r, 0, none⟩ = some (.bool false) ∧ Below r w A ∧ Pk.standB bf (i + 1) = false)
    ?hI ?hIx ?h0 ?round ?done ?stop
  case hb =>
    intro i A hi hA
    exact Hbits.out i A hi ⟨by have := (hA (r + 2) (by omega)).1; omega, fun k hk => (hA k (by omega)).2.trans (b0.block k hk)⟩
  case hcap => intro k hk; exact ⟨by omega, rfl⟩
  case hps => intro i h; rw [Pk.given_at]; rfl
  case hC => rintro k rfl; omega
  case hI =>
    rintro i A A' ⟨h1, h2, h3, h4⟩ ho
    exact ⟨ho.cell h1 (by show ¬ (_ ∧ _); simp only; omega), (ho.frozen (World.block_lt_of_cell? _ _ h1) (by show ¬ (_ ∧ _); simp only; omega)).trans h2, Only.then_below (by omega) h3 ho (by omega), h4⟩
  case hIx =>
    rintro c i A A' ⟨h1, h2, h3, h4⟩ ho
    exact ⟨h1, ho.cell h2 (by show ¬ (_ ∧ _); simp only; omega), Only.then_below (by omega) h3 ho (by omega), h4⟩
  case h0 => exact ⟨c0, z0, b0, rfl⟩
  case round =>
    rintro l i hi A ⟨h1, h2, h3, h4⟩ hlt
    rw [Pk.given_at]
    clear c0 c1 c2 z0 b0
    gi_wp2
    refine ⟨(Only.refl _ A).alloc _, fun W₂ ho => ?_⟩
    have k1 : W₂.cell? ⟨A.heap.size, 0, none⟩ = some (.int .i64 (Pk.pos bf i)) := ho.cell (by simp [go_sem]) (by simp only; omega)
    have k2 : W₂.cell? ⟨A.heap.size, 1, none⟩ = some (.int .i64 (bf i)) := ho.cell (by simp [go_sem]) (by simp only; omega)
    have hA := World.block_lt_of_cell? _ _ h1
    have k3 : W₂.cell? ⟨r, 0, none⟩ = some (.bool false) := ho.cell ((World.cell?_alloc_lt _ _ _ hA).trans h1) (by simp only; omega)
    have k4 : W₂.frozen? ⟨r, 0, none⟩ = false := (ho.frozen (by simp; omega) (by simp only; omega)).trans ((World.frozen?_alloc_old _ _ _ (Nat.ne_of_lt hA)).trans h2)
    have k5 : Below r w W₂ := Only.then_below (by omega) (h3.alloc (by omega) _) ho (by omega)
    clear h1 h2 h3 ho hA
    by_cases hin : Pk.inW (Pk.pos bf i) (bf i) = true
    · have hs : Pk.standB bf (i + 1) = true := by rw [Pk.standB_succ, h4, hin]; rfl
      have Hs := Lib.hid hs
      clear h4 hs
      gi_wp2_with (gi_at_call 100; refine (CallsIn.inRound l (callsIn_wide.2 (inWord_any _ _ _))).mono ?_; rintro e W3 ⟨rfl, hb3⟩)
      exact ⟨Only.of_below _ hb3, (hb3.cell (World.block_lt_of_cell? _ _ k3)).trans k3, (hb3.frozen (World.block_lt_of_cell? _ _ k3)).trans k4, k5.trans (hb3.mono (by have := k5.size; omega)), Hs.out⟩
    · have hin' : Pk.inW (Pk.pos bf i) (bf i) = false := by simpa using hin
      have Hs : Hid (Pk.standB bf (i + 1) = false) := Lib.hid (by rw [Pk.standB_succ, h4, hin']; rfl)
      have hA := World.block_lt_of_cell? _ _ k3
      clear h4 hin
      gi_wp2_with (gi_at_call 100; refine (CallsIn.inRound l (callsIn_wide.2 (inWord_any _ _ _))).mono ?_; rintro e W3 ⟨rfl, hb3⟩; obtain ⟨hc3, hf3⟩ := bcell hb3)
      refine ⟨(Only.of_below (fun k => k = r) hb3).setCell (p := ⟨r, 0, none⟩) (.inl rfl) _, rfl, ?_, (k5.trans (hb3.mono (by have := k5.size; omega))).setCell (by simp) _, Hs.out⟩
      exact World.cell?_setCell_same' _ _ _ (by rw [hc3 r 0 hA, k3]; rfl)
  case done =>
    rintro A ⟨h1, h2, h3, h4⟩ hK
    rw [Pk.given_length] at h4
    have HK := Lib.hid hK
    have H4 := Lib.hid h4
    clear hK h4
    gi_wp2
    have hK2 : (A.setCell ⟨r, 0, none⟩ (.bool true)).heap[W.heap.size]? = some (.deferred (some [])) := (Below.heap_setCell _ _ _ _ (by simp only; omega)).trans HK.out
    refine marks_ret (v := .bool true) hK2 ?_ ⟨by rw [H4.out], ?_⟩
    · have hc : ((A.setCell ⟨r, 0, none⟩ (.bool true)).putObj W.heap.size (.deferred none)).cell? ⟨r, 0, none⟩ = some (.bool true) :=
        cell_putObj (by simp only; omega) (World.cell?_setCell_same' _ _ _ (by rw [h1]; rfl))
      simp [results, Tryd.results89, go_sem, hc]
    · rw [hr]; exact below_putObj (h3.setCell (by simp) _) (by omega) _
  case stop =>
    rintro c i A hi ⟨rfl, h2, h3, h4⟩ hK
    rw [Pk.given_length] at hi
    have HK := Lib.hid hK
    have H4 := Lib.hid h4
    clear hK h4
    gi_wp2
    refine marks_ret (v := .bool false) HK.out ?_ ⟨by rw [Pk.standB_false hi H4.out], ?_⟩
    · have hc : (A.putObj W.heap.size (.deferred none)).cell? ⟨r, 0, none⟩ = some (.bool false) := cell_putObj (by simp only; omega) h2
      simp [results, Tryd.results89, go_sem, hc]
    · rw [hr]; exact below_putObj h3 (by omega) _
end Go.Proofs.YtljhcegkekdjgaaDoor

namespace Go.Proofs.YtljhcegkekdjgaaDoor
open Go.RowKit Go.Shelf
attribute [local go_sem] Oper.semAt_some

/-- Do all numbers fit? -/
def Pk.fitsAll (bf : Nat → Int) (vf : Nat → Nat) (n : Nat) : Bool := (List.range n).all fun i => Pk.fitsB (vf i) (bf i).toNat
/-- The first n fields' word. -/
def Pk.join (bf : Nat → Int) (vf : Nat → Nat) : Nat → Nat
  | 0 => 0
  | i + 1 => Pk.put (Pk.join bf vf i) (Pk.pos bf i).toNat (bf i).toNat (vf i)
/-- What Join answers: the word, the error. -/
def Pk.joinW (bf : Nat → Int) (vf : Nat → Nat) (n : Nat) : Nat := if Pk.standB bf n = true ∧ Pk.fitsAll bf vf n = true then Pk.join bf vf n else 0
def Pk.joinE (bf : Nat → Int) (vf : Nat → Nat) (n : Nat) : Int := if Pk.standB bf n = true then (if Pk.fitsAll bf vf n = true then 0 else 10) else 2
theorem Pk.fitsAll_succ (bf : Nat → Int) (vf : Nat → Nat) (n : Nat) : Pk.fitsAll bf vf (n + 1) = (Pk.fitsAll bf vf n && Pk.fitsB (vf n) (bf n).toNat) := by simp [Pk.fitsAll, List.range_succ]
theorem Pk.fitsAll_false {bf : Nat → Int} {vf : Nat → Nat} {n m : Nat} (h : n ≤ m) (hf : Pk.fitsAll bf vf n = false) : Pk.fitsAll bf vf m = false := by
  induction m with
  | zero => obtain rfl : n = 0 := by omega
            exact hf
  | succ m ih =>
    by_cases e : n = m + 1
    · rw [← e]; exact hf
    · rw [Pk.fitsAll_succ, ih (by omega)]; rfl
theorem Pk.standB_at {bf : Nat → Int} {n i : Nat} (h : Pk.standB bf n = true) (hi : i < n) : Pk.inW (Pk.pos bf i) (bf i) = true := by
  unfold Pk.standB at h
  exact List.all_eq_true.1 h i (List.mem_range.2 hi)
theorem Pk.fitsAll_at {bf : Nat → Int} {vf : Nat → Nat} {n i : Nat} (h : Pk.fitsAll bf vf n = true) (hi : i < n) : Pk.fitsB (vf i) (bf i).toNat = true := by
  unfold Pk.fitsAll at h
  exact List.all_eq_true.1 h i (List.mem_range.2 hi)
theorem Pk.standB_le {bf : Nat → Int} {n m : Nat} (h : n ≤ m) (hs : Pk.standB bf m = true) : Pk.standB bf n = true := by
  cases e : Pk.standB bf n with
  | true => rfl
  | false => rw [Pk.standB_false h e] at hs; cases hs
theorem Pk.fitsAll_le {bf : Nat → Int} {vf : Nat → Nat} {n m : Nat} (h : n ≤ m) (hs : Pk.fitsAll bf vf m = true) : Pk.fitsAll bf vf n = true := by
  cases e : Pk.fitsAll bf vf n with
  | true => rfl
  | false => rw [Pk.fitsAll_false h e] at hs; cases hs
/-- A word of fields that may be is a word. -/
theorem Pk.join_lt {bf : Nat → Int} {vf : Nat → Nat} : ∀ {n : Nat}, Pk.standB bf n = true → Pk.fitsAll bf vf n = true → Pk.join bf vf n < 18446744073709551616
  | 0, _, _ => by simp [Pk.join]
  | n + 1, hs, hf => by
    have h1 := Pk.inW_true (Pk.standB_at hs (Nat.lt_succ_self n))
    have h2 := Pk.fitsAll_at hf (Nat.lt_succ_self n)
    rw [Pk.fitsAll_succ, Bool.and_eq_true] at hf
    exact Pk.put_lt _ _ _ _ (Pk.join_lt (Pk.standB_le (Nat.le_succ n) hs) hf.1) (Pk.fits_lt h2) (by omega)

/-- N fields lie at A: their bits, their numbers. -/
def FieldsAt (w : World) (A : Option Addr) (N : Nat) (bf : Nat → Int) (vf : Nat → Nat) : Prop :=
  N = 0 ∨ ∃ b off, A = some ⟨b, off, none⟩ ∧ ∀ i, i < N → w.cell? ⟨b, off + i * 2, none⟩ = some (.int .i64 (bf i)) ∧ w.cell? ⟨b, off + i * 2 + 1, none⟩ = some (.int .u64 (vf i : Nat))

set_option maxHeartbeats 400000 in
theorem join1_any (N c : Nat) (bf : Nat → Int) (b off q i : Nat) (hi : i < N) (w : World)
    (hq : w.cell? ⟨q, 0, none⟩ = some (.slice (some ⟨b, off, none⟩) N c))
    (hb : w.cell? ⟨b, off + i * 2, none⟩ = some (.int .i64 (bf i))) :
    Calls Tryd.prog 88 #[.int .i64 (i : Nat), .pointer (some ⟨q, 0, none⟩)] w (Ret (.int .i64 (bf i)) w) := by
  go_enter Tryd.func88, Tryd.ntmps88
  go_wp2
  go_ret
  exact Ret.mk rfl (Below.refl _ _)

/-- N fields lie at A, in w. -/
def IsFields (w : World) (A : Option Addr) (N : Nat) (bf : Nat → Int) (vf : Nat → Nat) : Prop :=
  ∀ i, i < N → ∃ b off, A = some ⟨b, off, none⟩ ∧ w.cell? ⟨b, off + i * 2, none⟩ = some (.int .i64 (bf i)) ∧ w.cell? ⟨b, off + i * 2 + 1, none⟩ = some (.int .u64 (vf i : Nat))

theorem IsFields.same {w w' : World} {A : Option Addr} {N : Nat} {bf : Nat → Int} {vf : Nat → Nat} (h : IsFields w A N bf vf) (hs : ∀ k, k < w.heap.size → w'.heap[k]? = w.heap[k]?) : IsFields w' A N bf vf := fun i hi => by
  obtain ⟨b, off, e, h1, h2⟩ := h i hi
  exact ⟨b, off, e, (World.cell?_of_block (w := w) (hs b (World.block_lt_of_cell? _ _ h1))).trans h1, (World.cell?_of_block (w := w) (hs b (World.block_lt_of_cell? _ _ h1))).trans h2⟩

theorem join1_at (A : Option Addr) (N c : Nat) (bf : Nat → Int) (vf : Nat → Nat) (q i : Nat) (hi : i < N) (w : World)
    (hq : w.cell? ⟨q, 0, none⟩ = some (.slice A N c)) (hF : IsFields w A N bf vf) :
    Calls Tryd.prog 88 #[.int .i64 (i : Nat), .pointer (some ⟨q, 0, none⟩)] w (Ret (.int .i64 (bf i)) w) := by
  obtain ⟨b, off, rfl, h1, _⟩ := hF i hi
  exact join1_any N c bf b off q i hi w hq h1

set_option maxHeartbeats 1000000 in
theorem join_bad (A : Option Addr) (N c : Nat) (hc : N ≤ c ∧ c ≤ 9223372036854775807) (bf : Nat → Int) (vf : Nat → Nat) (w : World) (hF : IsFields w A N bf vf) (hs : Pk.standB bf N = false) :
    Calls Tryd.prog 69 #[.slice A N c] w (Ret2 (.int .u64 0) (.int .i64 2) w) := by
  refine (callsIn_wide (n := 9)).1 ?_
  refine callsIn_of_wp_marks Tryd.func69 rfl trivial ?_ rfl
  simp only [Tryd.ntmps69, List.size_toArray, List.length_cons, List.length_nil, Nat.reduceAdd, Nat.reduceSub, Array.replicate_succ, Array.replicate_zero, List.push_toArray, List.append_toArray, List.nil_append, List.cons_append]
  have hfw : ∀ f, Fence.wide.fn f := fun _ => trivial
  have HF := Lib.hid hF
  clear hF
  obtain ⟨r, hr⟩ : ∃ r, w.heap.size = r := ⟨_, rfl⟩
  gi_wp2_with fail
  obtain ⟨W, hW⟩ : ∃ W, ((w.alloc (Obj.cells #[Value.slice A N c] 108)).alloc (Obj.cells #[Value.int IntKind.u64 0] 22)).alloc (Obj.cells #[Value.int IntKind.i64 0] 23) = W := ⟨_, rfl⟩
  have hz : W.heap.size = r + 3 := by rw [← hW, ← hr]; simp
  have b0 : Below r w W := by rw [← hW, ← hr]; exact below_three _ _ _ _
  have c0 : W.cell? ⟨r, 0, none⟩ = some (.slice A N c) := by rw [← hW, ← hr]; simp [go_sem]
  have c1 : W.cell? ⟨r + 1, 0, none⟩ = some (.int .u64 0) := by rw [← hW, ← hr]; simp [go_sem]
  have z1 : W.frozen? ⟨r + 1, 0, none⟩ = false := by rw [← hW, ← hr]; simp [go_sem]
  have c2 : W.cell? ⟨r + 1 + 1, 0, none⟩ = some (.int .i64 0) := by rw [← hW, ← hr]; simp [go_sem]
  have z2 : W.frozen? ⟨r + 1 + 1, 0, none⟩ = false := by rw [← hW, ← hr]; simp [go_sem]
  rw [hW]
  clear hW
  refine (callsIn_wide.2 (mayStand_any bf N (by omega) 88 #[.pointer (some ⟨r, 0, none⟩)] W (enters_of Tryd.func88 (by kernel_rfl) rfl) ?_)).mono ?_
  · intro i B hi hB
    refine join1_at A N c bf vf r i hi B ((World.cell?_of_block (w := W) (hB.2 r (by omega))).trans c0) (HF.out.same fun k hk => ?_)
    exact (hB.2 k (by omega)).trans (b0.block k (by omega))
  rintro e W1 ⟨rfl, hb1⟩
  rw [hs]
  obtain ⟨hc1, hf1⟩ := bcell hb1
  gi_wp2
  refine plain_ret (v := .tuple #[.int .u64 0, .int .i64 2]) ?_ ⟨rfl, ?_⟩
  · simp [results, Tryd.results69, go_sem, hc1, hz, c1, c2]
  · rw [hr]; exact ((b0.trans (hb1.mono (by omega))).setCell (by simp) _).setCell (by simp; omega) _
/-- What Join keeps between two fields: its list, its two results, the word so far. -/
structure JoinAt (w : World) (r q : Nat) (v : Value) (x e : Int) (y : Int) (X : World) : Prop where
  list : X.cell? ⟨r, 0, none⟩ = some v
  res : X.cell? ⟨r + 1, 0, none⟩ = some (.int .u64 y)
  resf : X.frozen? ⟨r + 1, 0, none⟩ = false
  err : X.cell? ⟨r + 1 + 1, 0, none⟩ = some (.int .i64 e)
  errf : X.frozen? ⟨r + 1 + 1, 0, none⟩ = false
  word : X.cell? ⟨q, 0, none⟩ = some (.int .u64 x)
  wordf : X.frozen? ⟨q, 0, none⟩ = false
  below : Below r w X

theorem JoinAt.only {w : World} {r q : Nat} {v : Value} {x e y : Int} {X X' : World} {D : Nat → Prop} (h : JoinAt w r q v x e y X) (hrw : w.heap.size = r) (hq : r + 1 + 1 < q) (ho : Only D X X') (hD : ∀ k, D k → q < k) : JoinAt w r q v x e y X' := by
  have n0 : ¬ D r := fun h => by have := hD _ h; omega
  have n1 : ¬ D (r + 1) := fun h => by have := hD _ h; omega
  have n2 : ¬ D (r + 1 + 1) := fun h => by have := hD _ h; omega
  have n3 : ¬ D q := fun h => by have := hD _ h; omega
  exact ⟨ho.cell h.list n0, ho.cell h.res n1, (ho.frozen (World.block_lt_of_cell? _ _ h.res) n1).trans h.resf, ho.cell h.err n2, (ho.frozen (World.block_lt_of_cell? _ _ h.err) n2).trans h.errf,
    ho.cell h.word n3, (ho.frozen (World.block_lt_of_cell? _ _ h.word) n3).trans h.wordf, Only.then_below (by omega) h.below ho (fun k hk => by have := hD k hk; omega)⟩
theorem JoinAt.grown {w : World} {r q : Nat} {v : Value} {x e y : Int} {X X' : World} (h : JoinAt w r q v x e y X) (hrw : w.heap.size = r) (hq : r + 1 + 1 < q) (hb : Below X.heap.size X X') : JoinAt w r q v x e y X' :=
  h.only hrw hq (Only.of_below (fun _ => False) hb) (fun _ h => h.elim)

theorem JoinAt.fail {w : World} {r q : Nat} {v : Value} {x e y : Int} {X : World} (h : JoinAt w r q v x e y X) (hq : r + 1 + 1 < q) (y' e' : Int) :
    JoinAt w r q v x e' y' ((X.setCell ⟨r + 1, 0, none⟩ (.int .u64 y')).setCell ⟨r + 1 + 1, 0, none⟩ (.int .i64 e')) := by
  refine ⟨?_, ?_, ?_, ?_, ?_, ?_, ?_, (h.below.setCell (by simp) _).setCell (by simp; omega) _⟩
  · rw [World.cell?_setCell_other _ _ _ _ (by intro hh; injection hh; omega), World.cell?_setCell_other _ _ _ _ (by intro hh; injection hh; omega)]; exact h.list
  · rw [World.cell?_setCell_other _ _ _ _ (by intro hh; injection hh; omega)]; exact World.cell?_setCell_same' _ _ _ (by rw [h.res]; rfl)
  · rw [World.frozen?_setCell, World.frozen?_setCell]; exact h.resf
  · exact World.cell?_setCell_same' _ _ _ (by rw [World.cell?_setCell_other _ _ _ _ (by intro hh; injection hh; omega), h.err]; rfl)
  · rw [World.frozen?_setCell, World.frozen?_setCell]; exact h.errf
  · rw [World.cell?_setCell_other _ _ _ _ (by intro hh; injection hh; omega), World.cell?_setCell_other _ _ _ _ (by intro hh; injection hh; omega)]; exact h.word
  · rw [World.frozen?_setCell, World.frozen?_setCell]; exact h.wordf
theorem JoinAt.step {w : World} {r q : Nat} {v : Value} {x e y : Int} {X : World} (h : JoinAt w r q v x e y X) (hq : r + 1 + 1 < q) (x' : Int) : JoinAt w r q v x' e y (X.setCell ⟨q, 0, none⟩ (.int .u64 x')) := by
  refine ⟨?_, ?_, ?_, ?_, ?_, ?_, ?_, h.below.setCell (by simp; omega) _⟩
  · rw [World.cell?_setCell_other _ _ _ _ (by intro hh; injection hh; omega)]; exact h.list
  · rw [World.cell?_setCell_other _ _ _ _ (by intro hh; injection hh; omega)]; exact h.res
  · rw [World.frozen?_setCell]; exact h.resf
  · rw [World.cell?_setCell_other _ _ _ _ (by intro hh; injection hh; omega)]; exact h.err
  · rw [World.frozen?_setCell]; exact h.errf
  · exact World.cell?_setCell_same' _ _ _ (by rw [h.word]; rfl)
  · rw [World.frozen?_setCell]; exact h.wordf

set_option maxHeartbeats 2000000 in
theorem join_good (A : Option Addr) (N c : Nat) (hc : N ≤ c ∧ c ≤ 9223372036854775807) (bf : Nat → Int) (vf : Nat → Nat) (w : World) (hF : IsFields w A N bf vf) (hs : Pk.standB bf N = true) :
    Calls Tryd.prog 69 #[.slice A N c] w (Ret2 (.int .u64 (Pk.joinW bf vf N : Nat)) (.int .i64 (Pk.joinE bf vf N)) w) := by
  refine (callsIn_wide (n := 9)).1 ?_
  refine callsIn_of_wp_marks Tryd.func69 rfl trivial ?_ rfl
  simp only [Tryd.ntmps69, List.size_toArray, List.length_cons, List.length_nil, Nat.reduceAdd, Nat.reduceSub, Array.replicate_succ, Array.replicate_zero, List.push_toArray, List.append_toArray, List.nil_append, List.cons_append]
  have hfw : ∀ f, Fence.wide.fn f := fun _ => trivial
  have HF := Lib.hid hF
  clear hF
  obtain ⟨r, hr⟩ : ∃ r, w.heap.size = r := ⟨_, rfl⟩
  gi_wp2_with fail
  obtain ⟨W, hW⟩ : ∃ W, ((w.alloc (Obj.cells #[Value.slice A N c] 108)).alloc (Obj.cells #[Value.int IntKind.u64 0] 22)).alloc (Obj.cells #[Value.int IntKind.i64 0] 23) = W := ⟨_, rfl⟩
  have hz : W.heap.size = r + 3 := by rw [← hW, ← hr]; simp
  have b0 : Below r w W := by rw [← hW, ← hr]; exact below_three _ _ _ _
  have c0 : W.cell? ⟨r, 0, none⟩ = some (.slice A N c) := by rw [← hW, ← hr]; simp [go_sem]
  have c1 : W.cell? ⟨r + 1, 0, none⟩ = some (.int .u64 0) := by rw [← hW, ← hr]; simp [go_sem]
  have z1 : W.frozen? ⟨r + 1, 0, none⟩ = false := by rw [← hW, ← hr]; simp [go_sem]
  have c2 : W.cell? ⟨r + 1 + 1, 0, none⟩ = some (.int .i64 0) := by rw [← hW, ← hr]; simp [go_sem]
  have z2 : W.frozen? ⟨r + 1 + 1, 0, none⟩ = false := by rw [← hW, ← hr]; simp [go_sem]
  rw [hW]
  clear hW
  refine (callsIn_wide.2 (mayStand_any bf N (by omega) 88 #[.pointer (some ⟨r, 0, none⟩)] W (enters_of Tryd.func88 (by kernel_rfl) rfl) ?_)).mono ?_
  · intro i B hi hB
    refine join1_at A N c bf vf r i hi B ((World.cell?_of_block (w := W) (hB.2 r (by omega))).trans c0) (HF.out.same fun k hk => ?_)
    exact (hB.2 k (by omega)).trans (b0.block k (by omega))
  rintro e W1 ⟨rfl, hb1⟩
  rw [hs]
  have HS := Lib.hid hs
  clear hs
  have e0 := (hb1.cell (p := ⟨r, 0, none⟩) (by simp only; omega)).trans c0
  have e1 := (hb1.cell (p := ⟨r + 1, 0, none⟩) (by simp only; omega)).trans c1
  have y1 := (hb1.frozen (p := ⟨r + 1, 0, none⟩) (by simp only; omega)).trans z1
  have e2 := (hb1.cell (p := ⟨r + 1 + 1, 0, none⟩) (by simp only; omega)).trans c2
  have y2 := (hb1.frozen (p := ⟨r + 1 + 1, 0, none⟩) (by simp only; omega)).trans z2
  have b1 : Below r w W1 := b0.trans (hb1.mono (by omega))
  obtain ⟨q, hq⟩ : ∃ q, W1.heap.size = q := ⟨_, rfl⟩
  have q0 : r < q := by have := hb1.size; omega
  have q1 : r + 1 < q := by have := hb1.size; omega
  have q2 : r + 1 + 1 < q := by have := hb1.size; omega
  clear c0 c1 z1 c2 z2 b0 hb1 hz W
  gi_wp2_with (gi_at_call 90; refine (callsIn_wide.2 (spans_any _ 88 #[.pointer (some ⟨r, 0, none⟩)] _)).mono ?_; rintro e w' ⟨rfl, rfl⟩)
  obtain ⟨W, hW⟩ : ∃ W, ((W1.alloc (Obj.cells #[Value.int IntKind.u64 0] 139)).alloc (Obj.cells #[Value.int IntKind.i64 ↑N] 3)).alloc (Obj.cells #[Value.func (Fn.func 88) #[] #[.pointer (some ⟨r, 0, none⟩)]] 136) = W := ⟨_, rfl⟩
  have hz : W.heap.size = q + 3 := by rw [← hW, ← hq]; simp
  have b0 : Below q W1 W := by rw [← hW, ← hq]; exact below_three _ _ _ _
  have c0 := (b0.cell (p := ⟨r, 0, none⟩) q0).trans e0
  have c1 := (b0.cell (p := ⟨r + 1, 0, none⟩) q1).trans e1
  have z1 := (b0.frozen (p := ⟨r + 1, 0, none⟩) q1).trans y1
  have c2 := (b0.cell (p := ⟨r + 1 + 1, 0, none⟩) q2).trans e2
  have z2 := (b0.frozen (p := ⟨r + 1 + 1, 0, none⟩) q2).trans y2
  have c3 : W.cell? ⟨q, 0, none⟩ = some (.int .u64 0) := by rw [← hW, ← hq]; simp [go_sem]
  have z3 : W.frozen? ⟨q, 0, none⟩ = false := by rw [← hW, ← hq]; simp [go_sem]
  have c4 : W.cell? ⟨q + 1, 0, none⟩ = some (.int .i64 (N : Nat)) := by rw [← hW, ← hq]; simp [go_sem]
  have c5 : W.cell? ⟨q + 1 + 1, 0, none⟩ = some (.func (.func 88) #[] #[.pointer (some ⟨r, 0, none⟩)]) := by rw [← hW, ← hq]; simp [go_sem]
  have b2 : Below r w W := b1.trans (b0.mono (by omega))
  rw [hW]
  clear hW e0 e1 y1 e2 y2 b0 b1 hq W1
  refine wpIn_range (gf := 101) (lb := #[.pointer (some ⟨q + 1, 0, none⟩), .pointer (some ⟨q + 1 + 1, 0, none⟩)]) rfl (enters_of Tryd.func101 (by kernel_rfl) rfl)
    (spans_iter 8 (by omega) bf N (by omega) 88 #[.pointer (some ⟨r, 0, none⟩)] (q + 1) (q + 1 + 1) (fun k => k < q + 3 ∧ k ≠ q ∧ k ≠ r + 1 ∧ k ≠ r + 1 + 1) W (by omega) (by omega) c4 c5 (enters_of Tryd.func88 (by kernel_rfl) rfl) ?hb) ?hcap ?hps
    (fun k => k = q ∨ k = r + 1 ∨ k = r + 1 + 1) ?hC
    (fun i X => JoinAt w r q (.slice A N c) (Pk.join bf vf i : Nat) 0 0 X ∧ Pk.fitsAll bf vf i = true)
    (fun k i X => k = .ret ∧ (∃ x, JoinAt w r q (.slice A N c) x 10 0 X) ∧ Pk.fitsAll bf vf (i + 1) = false)
    ?hI ?hIx ?h0 ?round ?done ?stop
  case hb =>
    intro i B hi hB
    refine join1_at A N c bf vf r i hi B ((World.cell?_of_block (w := W) (hB r (by omega)).2).trans c0) (HF.out.same fun k hk => ?_)
    exact (hB k (by omega)).2.trans (b2.block k (by omega))
  case hcap => intro k hk; exact ⟨by omega, rfl⟩
  case hps => intro i h; rw [Pk.given_at]; rfl
  case hC => intro k hk; omega
  case hI =>
    rintro i X X' ⟨h1, h2⟩ ho
    exact ⟨h1.only hr q2 ho (by omega), h2⟩
  case hIx =>
    rintro k i X X' ⟨h1, ⟨x, h2⟩, h3⟩ ho
    exact ⟨h1, ⟨x, h2.only hr q2 ho (by omega)⟩, h3⟩
  case h0 => exact ⟨⟨c0, c1, z1, c2, z2, c3, z3, b2⟩, rfl⟩
  case round =>
    rintro l i hi X ⟨h1, h2⟩ hlt
    rw [Pk.given_at]
    rw [Pk.given_length] at hi
    clear c0 c1 z1 c2 z2 c3 z3 c4 c5 b2
    gi_wp2
    refine ⟨(Only.refl _ X).alloc _, fun W₂ ho => ?_⟩
    obtain ⟨m, n, hm, hn, hn1, hmn⟩ := Pk.inW_nat (Pk.standB_at HS.out hi)
    obtain ⟨b, off, rfl, f1, f2⟩ := HF.out i hi
    have j1 : JoinAt w r q (.slice (some ⟨b, off, none⟩) N c) (Pk.join bf vf i : Nat) 0 0 W₂ := (h1.grown hr q2 (below_one _ _)).only hr q2 ho (by omega)
    have hbw : b < r := by rw [← hr]; exact World.block_lt_of_cell? _ _ f2
    have k0 : W₂.cell? ⟨X.heap.size, 0, none⟩ = some (.int .i64 (m : Nat)) := by rw [← hm]; exact ho.cell (by simp [go_sem]) (by simp only; omega)
    have k1 : W₂.cell? ⟨X.heap.size, 1, none⟩ = some (.int .i64 (n : Nat)) := by rw [← hn]; exact ho.cell (by simp [go_sem]) (by simp only; omega)
    have k2 : W₂.cell? ⟨b, off + i * 2 + 1, none⟩ = some (.int .u64 (vf i : Nat)) := (j1.below.cell hbw).trans f2
    have HM := Lib.hid hm
    have HNN := Lib.hid hn
    have H2 := Lib.hid h2
    obtain ⟨sb, hsb⟩ : ∃ sb, X.heap.size = sb := ⟨_, rfl⟩
    rw [hsb] at k0 k1 ⊢
    clear hm hn h1 h2 ho f1 f2 hsb
    gi_wp2
    have g0 := cell_regrown j1.list
    have g1 := cell_regrown k2
    have g2 := cell_regrown k0
    have g3 := cell_regrown k1
    refine wpIn_region_still_below (ro := some l) (by kernel_rfl) (by kernel_rfl) (by kernel_rfl) ?_
    repeat (go_big_quiet_step (exact Calls.regrown_of (fits_any _ _ _ (by omega) _)))
    refine wpQuiet_nil ?_
    intro W3 hw'
    obtain ⟨⟨dq, osq⟩, hw''⟩ := hw'
    have hb3 := below_regrown W₂ dq osq
    rw [← hw''] at hb3
    clear hw'' g0 g1 g2 g3
    have j3 := j1.grown hr q2 hb3
    have l0 := (hb3.cell (World.block_lt_of_cell? _ _ k0)).trans k0
    have l1 := (hb3.cell (World.block_lt_of_cell? _ _ k1)).trans k1
    have l2 := (hb3.cell (World.block_lt_of_cell? _ _ k2)).trans k2
    clear j1 k0 k1 k2
    cases hfit : Pk.fitsB (vf i) n with
    | false =>
      have hf : Pk.fitsAll bf vf (i + 1) = false := by rw [Pk.fitsAll_succ, HNN.out, Int.toNat_natCast, hfit, Bool.and_false]
      have HFF := Lib.hid hf
      have m1 := j3.res
      have m2 := j3.resf
      have m3 := j3.err
      have m4 := j3.errf
      clear hfit hf l0 l1 l2
      gi_wp2
      exact ⟨((Only.of_below (fun k => k = q ∨ k = r + 1 ∨ k = r + 1 + 1) hb3).setCell (p := ⟨r + 1, 0, none⟩) (.inl (.inr (.inl rfl))) _).setCell (p := ⟨r + 1 + 1, 0, none⟩) (.inl (.inr (.inr rfl))) _, rfl, ⟨_, j3.fail q2 0 10⟩, HFF.out⟩
    | true =>
      have hf : Pk.fitsAll bf vf (i + 1) = true := by rw [Pk.fitsAll_succ, HNN.out, Int.toNat_natCast, hfit, H2.out]; rfl
      have HFF := Lib.hid hf
      have HFit := Lib.hid (Pk.fits_lt hfit)
      clear hfit hf
      gi_wp2
      have g0 := cell_regrown j3.list
      have g1 := cell_regrown l2
      have g2 := cell_regrown l0
      have g3 := cell_regrown l1
      have g4 := cell_regrown j3.word
      refine wpIn_region_tail_below (ro := some l) 8 (by kernel_rfl) (by kernel_rfl) (by kernel_rfl) ?_
      simp only [List.take_succ_cons, List.take_zero, List.drop_succ_cons, List.drop_zero]
      repeat (go_big_quiet_step (exact Calls.regrown_of (with_any _ _ _ _ (Pk.join_lt (Pk.standB_le (Nat.le_of_lt hi) HS.out) H2.out) HFit.out hmn _)))
      refine wpQuiet_nil ?_
      intro W4 hw'
      obtain ⟨⟨dq, osq⟩, hw''⟩ := hw'
      have hb4 := below_regrown W3 dq osq
      rw [← hw''] at hb4
      clear hw'' g0 g1 g2 g3 g4
      have j4 := j3.grown hr q2 hb4
      have m1 := j4.word
      have m2 := j4.wordf
      change wpListIn (Fence.wide.inRound l) _ _ _ _ _ _ _
      clear l0 l1 l2 j3
      gi_wp2
      refine ⟨((Only.of_below (fun k => k = q ∨ k = r + 1 ∨ k = r + 1 + 1) hb3).trans (Only.of_below _ hb4)).setCell (p := ⟨q, 0, none⟩) (.inl (.inl rfl)) _, ?_, HFF.out⟩
      have e : Pk.join bf vf (i + 1) = Pk.put (Pk.join bf vf i) m n (vf i) := by show Pk.put _ _ _ _ = _; rw [HM.out, HNN.out, Int.toNat_natCast, Int.toNat_natCast]
      rw [e]
      exact j4.step q2 _
  case done =>
    rintro X ⟨h1, h2⟩ hK
    rw [Pk.given_length] at h1 h2
    have hlt : r + 1 + 1 < W.heap.size := by omega
    have HK := Lib.hid hK
    have m0 := h1.word
    have m1 := h1.res
    have m2 := h1.resf
    have m3 := h1.err
    have m4 := h1.errf
    have ew : Pk.joinW bf vf N = Pk.join bf vf N := by unfold Pk.joinW; rw [if_pos ⟨HS.out, h2⟩]
    have ee : Pk.joinE bf vf N = 0 := by unfold Pk.joinE; rw [if_pos HS.out, if_pos h2]
    have EW := Lib.hid ew
    have EE := Lib.hid ee
    clear hK c0 c1 z1 c2 z2 c3 z3 c4 c5 ew ee h2
    gi_wp2
    have j4 := h1.fail q2 (Pk.join bf vf N : Nat) 0
    have hK2 : ((X.setCell ⟨r + 1, 0, none⟩ (.int .u64 (Pk.join bf vf N : Nat))).setCell ⟨r + 1 + 1, 0, none⟩ (.int .i64 0)).heap[W.heap.size]? = some (.deferred (some [])) :=
      (Below.heap_setCell _ _ _ _ (by simp only; omega)).trans ((Below.heap_setCell _ _ _ _ (by simp only; omega)).trans HK.out)
    refine marks_ret (v := .tuple #[.int .u64 (Pk.join bf vf N : Nat), .int .i64 0]) hK2 ?_ ⟨by rw [EW.out, EE.out], ?_⟩
    · have m1 := cell_putObj (D := W.heap.size) (o' := .deferred none) (by simp only; omega) j4.res
      have m2 := cell_putObj (D := W.heap.size) (o' := .deferred none) (by simp only; omega) j4.err
      simp [results, Tryd.results69, go_sem, m1, m2]
    · rw [hr]; exact below_putObj j4.below (by omega) _
  case stop =>
    rintro k i X hi ⟨rfl, ⟨x, h2⟩, h3⟩ hK
    rw [Pk.given_length] at hi
    have HK := Lib.hid hK
    have hff := Pk.fitsAll_false hi h3
    have ew : Pk.joinW bf vf N = 0 := by unfold Pk.joinW; rw [if_neg (by rw [hff]; simp)]
    have ee : Pk.joinE bf vf N = 10 := by unfold Pk.joinE; rw [if_pos HS.out, if_neg (by rw [hff]; simp)]
    have EW := Lib.hid ew
    have EE := Lib.hid ee
    clear hK c0 c1 z1 c2 z2 c3 z3 c4 c5 ew ee hff h3
    gi_wp2
    refine marks_ret (v := .tuple #[.int .u64 0, .int .i64 10]) HK.out ?_ ⟨by rw [EW.out, EE.out]; rfl, ?_⟩
    · have m1 := cell_putObj (D := W.heap.size) (o' := .deferred none) (by simp only; omega) h2.res
      have m2 := cell_putObj (D := W.heap.size) (o' := .deferred none) (by simp only; omega) h2.err
      simp [results, Tryd.results69, go_sem, m1, m2]
    · rw [hr]; exact below_putObj h2.below (by omega) _

theorem join_any (A : Option Addr) (N c : Nat) (hc : N ≤ c ∧ c ≤ 9223372036854775807) (bf : Nat → Int) (vf : Nat → Nat) (w : World) (hF : IsFields w A N bf vf) :
    Calls Tryd.prog 69 #[.slice A N c] w (Ret2 (.int .u64 (Pk.joinW bf vf N : Nat)) (.int .i64 (Pk.joinE bf vf N)) w) := by
  cases hs : Pk.standB bf N with
  | true => exact join_good A N c hc bf vf w hF hs
  | false =>
    have ew : Pk.joinW bf vf N = 0 := by unfold Pk.joinW; rw [if_neg (by rw [hs]; simp)]
    have ee : Pk.joinE bf vf N = 2 := by unfold Pk.joinE; rw [if_neg (by rw [hs]; simp)]
    rw [ew, ee]
    exact join_bad A N c hc bf vf w hF hs
end Go.Proofs.YtljhcegkekdjgaaDoor
