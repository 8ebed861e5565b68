/- Package pack: what goes through fields: spans and its closures. -/
import Derived.RangeFuncNested
import Derived.RangeFuncBound
import Derived.RangeFuncCalls
import Derived.RangeFuncLeaves
import Derived.Shelf.Abstract
import Derived.Shelf.RegionOpen
import Derived.OwnWalkIn
import Derived.TacticsInMore
import Derived.LoopNIn
import Derived.LoopIn
import Derived.Test.YtpepahecjkkpbaaRange
import Derived.Test.YtpepahecjkkpbaaPkWalks
namespace Go.Proofs.Ytpepahecjkkpbaa
open Go.RowKit Go.Shelf
attribute [local go_sem] Oper.semAt_some

set_option maxHeartbeats 400000 in
theorem fromStart_any (w : World) :
    Calls Try.prog 34 #[] w fun e w' => e = .returned (.func (.func 35) #[] #[.pointer (some ⟨w.heap.size, 0, none⟩)]) ∧ w' = w.alloc (.cells #[.int .i64 0] 3) := by
  go_enter Try.func34, Try.ntmps34
  go_wp2
  go_ret
  exact ⟨rfl, rfl⟩

set_option maxHeartbeats 400000 in
theorem next_any (q : Nat) (v b : Int) (w : World) (hq : w.cell? ⟨q, 0, none⟩ = some (.int .i64 v)) (hf : w.frozen? ⟨q, 0, none⟩ = false) :
    Calls Try.prog 35 #[.int .i64 b, .pointer (some ⟨q, 0, none⟩)] w fun e w' => e = .returned (.agg #[.int .i64 v, .int .i64 b]) ∧ Only (· = q) w w' ∧
      w'.cell? ⟨q, 0, none⟩ = some (.int .i64 (wrap64 (v + b))) ∧ w'.frozen? ⟨q, 0, none⟩ = false := by
  have hlt : q < w.heap.size := World.block_lt_of_cell? _ _ hq
  go_enter Try.func35, Try.ntmps35
  go_wp2
  refine bodyPost_ret (v := .agg #[.int .i64 v, .int .i64 b]) ?_ rfl ⟨rfl, ?_, ?_, ?_⟩
  · simp [results, Try.results35, go_sem]
  · exact ((((Only.refl (· = q) w).setCell (p := ⟨q, 0, none⟩) (.inl rfl) _).alloc _).alloc _)
  · rw [World.cell?_alloc_lt _ _ _ (by simp [World.setCell]; omega), World.cell?_alloc_lt _ _ _ (by simp [World.setCell]; omega)]
    exact World.cell?_setCell_same' _ _ _ (by rw [hq]; rfl)
  · simp [go_sem, hf, hlt]

set_option maxHeartbeats 400000 in
theorem spans_any (n : Int) (f : Nat) (lb : Array Value) (w : World) :
    Calls Try.prog 29 #[.int .i64 n, .func (.func f) #[] lb] w fun e w' => e = .returned (.func (.func 33) #[] #[.pointer (some ⟨w.heap.size, 0, none⟩), .pointer (some ⟨w.heap.size + 1, 0, none⟩)]) ∧
      w' = (w.alloc (.cells #[.int .i64 n] 3)).alloc (.cells #[.func (.func f) #[] lb] 70) := by
  go_enter Try.func29, Try.ntmps29
  go_wp2
  go_ret
  exact ⟨rfl, rfl⟩

/-- Where field i begins: the bits ahead of it, summed up as Go does. -/
def Pk.pos (bf : Nat → Int) : Nat → Int
  | 0 => 0
  | i + 1 => wrap64 (Pk.pos bf i + bf i)

def Pk.given (bf : Nat → Int) (N : Nat) : List (Array Value) := (List.range N).map fun i => #[.int .i64 (i : Nat), .agg #[.int .i64 (Pk.pos bf i), .int .i64 (bf i)]]
theorem Pk.given_length (bf : Nat → Int) (N : Nat) : (Pk.given bf N).length = N := by simp [Pk.given]
theorem Pk.given_at (bf : Nat → Int) (N : Nat) (i : Nat) (h : i < (Pk.given bf N).length) : (Pk.given bf N)[i] = #[.int .i64 (i : Nat), .agg #[.int .i64 (Pk.pos bf i), .int .i64 (bf i)]] := by simp [Pk.given]

set_option maxHeartbeats 1000000 in
/-- The iterator hands over the fields' places, one behind the other. -/
theorem spans_iter (n : Nat) (hn : 3 ≤ n) (bf : Nat → Int) (N : Nat) (hl : N ≤ 9223372036854775807) (f : Nat) (lb : Array Value) (b0 b1 : Nat) (cap : Nat → Prop) (w0 : World) (hc0 : cap b0) (hc1 : cap b1)
    (h0 : w0.cell? ⟨b0, 0, none⟩ = some (.int .i64 (N : Nat))) (h1 : w0.cell? ⟨b1, 0, none⟩ = some (.func (.func f) #[] lb))
    (ef : ∀ args w, (callFunc f args).run Try.prog w = .ok (.enter f args) w)
    (hbits : ∀ i (A : World), i < N → (∀ k, cap k → k < A.heap.size ∧ A.heap[k]? = w0.heap[k]?) → Calls Try.prog f (#[.int .i64 (i : Nat)] ++ lb) A (Ret (.int .i64 (bf i)) A)) :
    Iter n Try.prog 33 #[.pointer (some ⟨b0, 0, none⟩), .pointer (some ⟨b1, 0, none⟩)] 1 cap w0 (Pk.given bf N) := by
  intro l J Jx C W hcap hC hJ hJx hY hJ0
  refine callsIn_of_wp Try.func33 rfl trivial ?_ rfl
  simp only [Try.ntmps33, List.size_toArray, List.length_cons, List.length_nil, Nat.reduceAdd, Nat.reduceSub, Array.replicate_succ, Array.replicate_zero, List.push_toArray, List.append_toArray, List.nil_append, List.cons_append]
  have g0 : W.cell? ⟨b0, 0, none⟩ = some (.int .i64 (N : Nat)) := (World.cell?_of_block (hcap b0 hc0).2).trans h0
  have hfw : ∀ f, Fence.wide.fn f := fun _ => trivial
  have hn1 : 1 ≤ n := by omega
  have HY := Lib.hid hY
  have HJ := Lib.hid hJ
  have HC := Lib.hid hC
  have Hcap := Lib.hid hcap
  have Hbits := Lib.hid hbits
  have Hf1 := Lib.hid h1
  clear hY hJ hC hcap hbits hJx h0 h1
  gi_wp2_with fail
  refine (callsIn_wide.2 (fromStart_any W)).mono ?_
  rintro e A0 ⟨rfl, hA0⟩
  have o0 : Only (fun k => W.heap.size ≤ k ∧ k < W.heap.size + 1) W A0 := by rw [hA0]; exact (Only.refl _ _).alloc _
  have c0 : A0.cell? ⟨W.heap.size, 0, none⟩ = some (.int .i64 0) := by rw [hA0]; simp [go_sem]
  have z0 : A0.frozen? ⟨W.heap.size, 0, none⟩ = false := by rw [hA0]; simp [go_sem]
  have g1 := o0.cell g0 (by have := (Hcap.out b0 hc0).1; show ¬ (W.heap.size ≤ b0 ∧ b0 < W.heap.size + 1); omega)
  have j0 := HJ.out _ _ _ hJ0 o0
  have p0 : Hid (∀ k, cap k → k < A0.heap.size ∧ A0.heap[k]? = w0.heap[k]?) := Lib.hid fun k hk => by
    have := Hcap.out k hk
    exact ⟨Nat.lt_of_lt_of_le this.1 o0.size, (o0.block k this.1 (by omega)).trans this.2⟩
  clear g0 hA0 o0 hJ0
  obtain ⟨q, hq⟩ : ∃ q, W.heap.size = q := ⟨_, rfl⟩
  rw [hq] at c0 z0 HJ HC ⊢
  have Hcq : Hid (∀ j, cap j → j < q) := Lib.hid fun j hj => by rw [← hq]; exact (Hcap.out j hj).1
  clear Hcap hq W
  gi_wp2
  gi_loopw [8] (fun c wr => ∃ k : Nat, k ≤ N ∧ c = .int .i64 k ∧ J k wr ∧ wr.cell? ⟨q, 0, none⟩ = some (.int .i64 (Pk.pos bf k)) ∧ wr.frozen? ⟨q, 0, none⟩ = false ∧ Hid (∀ k, cap k → k < wr.heap.size ∧ wr.heap[k]? = w0.heap[k]?))
    (fun c _ => N - (intOf c).toNat)
  case atStart => exact ⟨0, Nat.zero_le _, rfl, j0, c0, z0, p0⟩
  case round =>
    clear j0 c0 z0 p0 g1
    obtain ⟨k, hk, rfl, hJk, hck, hzk, hpk⟩ := hrel
    by_cases hlt : k < N
    · have hg1 : wr.cell? ⟨b1, 0, none⟩ = some (.func (.func f) #[] lb) := (World.cell?_of_block (hpk.out b1 hc1).2).trans Hf1.out
      gi_wp2_with fail
      refine (callsIn_wide.2 (Hbits.out k wr hlt hpk.out)).mono ?_
      rintro e A1 ⟨rfl, hb1⟩
      have c1 : A1.cell? ⟨q, 0, none⟩ = some (.int .i64 (Pk.pos bf k)) := (hb1.cell (World.block_lt_of_cell? _ _ hck)).trans hck
      have z1 : A1.frozen? ⟨q, 0, none⟩ = false := (hb1.frozen (World.block_lt_of_cell? _ _ hck)).trans hzk
      clear hg1
      gi_wp2_with fail
      refine (callsIn_wide.2 (next_any q _ _ A1 c1 z1)).mono ?_
      rintro e A2 ⟨rfl, ho2, c2, z2⟩
      have o12 : Only (fun k => q ≤ k ∧ k < q + 1) wr A2 := (Only.of_below _ hb1).trans (ho2.mono fun j _ hj => by omega)
      have hJ2 := HJ.out _ _ _ hJk o12
      obtain ⟨fn, tmps, assign, body, hy, hR⟩ := HY.out k (by rw [Pk.given_length]; exact hlt) A2 hJ2
      rw [Pk.given_at] at hy
      have p2 : Hid (∀ k, cap k → k < A2.heap.size ∧ A2.heap[k]? = w0.heap[k]?) := Lib.hid fun j hj => by
        have h := hpk.out j hj
        have hjq : ¬ (q ≤ j ∧ j < q + 1) := by have := Hcq.out j hj; omega
        exact ⟨Nat.lt_of_lt_of_le h.1 o12.size, (o12.block j h.1 hjq).trans h.2⟩
      clear hck hzk c1 z1 hb1 ho2 hJk hpk
      gi_wp2
      refine hR.mono ?_
      rintro e A3 (⟨rfl, hJ3, ho3⟩ | ⟨rfl, hJx3⟩)
      · have hqC : ¬ C q := fun h => by have := (HC.out q h).2; omega
        have c3 : A3.cell? ⟨q, 0, none⟩ = some (.int .i64 (wrap64 (Pk.pos bf k + bf k))) := ho3.cell c2 hqC
        have z3 : A3.frozen? ⟨q, 0, none⟩ = false := (ho3.frozen (World.block_lt_of_cell? _ _ c2) hqC).trans z2
        have p3 : Hid (∀ k, cap k → k < A3.heap.size ∧ A3.heap[k]? = w0.heap[k]?) := Lib.hid fun j hj => by
          have h := p2.out j hj
          exact ⟨Nat.lt_of_lt_of_le h.1 ho3.size, (ho3.block j h.1 (fun hc => (HC.out j hc).1 hj)).trans h.2⟩
        gi_wp2
        go_roundw
        case rel => exact ⟨k + 1, by omega, by go_num, hJ3, c3, z3, p3⟩
        case measure => simp [intOf]; omega
      · gi_wp2
        refine bodyPost_ret (results_none rfl _ _ _) rfl ?_
        exact ⟨⟨_, rfl⟩, .inr ⟨k, by rw [Pk.given_length]; exact hlt, hJx3⟩⟩
    · obtain rfl : k = N := by omega
      gi_wp2
      go_end0
      exact ⟨⟨_, rfl⟩, .inl (by rw [Pk.given_length]; exact hJk)⟩
end Go.Proofs.Ytpepahecjkkpbaa
