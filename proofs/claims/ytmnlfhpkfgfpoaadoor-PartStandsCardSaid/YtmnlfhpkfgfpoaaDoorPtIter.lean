/- Package part: the blocks of a memory are handed over, one by one. -/
import Derived.RangeFuncNested
import Derived.RangeFuncBound
import Derived.RangeFuncCalls
import Derived.RangeFuncLeaves
import Derived.Shelf.Abstract
import Derived.Shelf.RegionOpen
import Derived.OwnWalkIn
import Derived.TacticsInMore
import Derived.LoopNIn
import Derived.LoopIn
import Derived.Test.YtmnlfhpkfgfpoaaDoorRanged
import Derived.Test.YtmnlfhpkfgfpoaaDoorPtShared
namespace Go.Proofs.YtmnlfhpkfgfpoaaDoor
open Go.RowKit Go.Shelf Pt
attribute [local go_sem] Oper.semAt_some

/-- Block q holds a config. -/
def IsCf (w : World) (q : Nat) (c : Cf) : Prop := ∀ j u, (cl c)[j]? = some u → w.cell? ⟨q, j, none⟩ = some u
theorem IsCf.same {w w' : World} {q : Nat} {c : Cf} (h : IsCf w q c) (hs : w'.heap[q]? = w.heap[q]?) : IsCf w' q c := fun j u hu => (World.cell?_of_block (w := w) hs).trans (h j u hu)
theorem IsCf.lt {w : World} {q : Nat} {c : Cf} (h : IsCf w q c) : q < w.heap.size := World.block_lt_of_cell? _ _ (h 0 _ rfl)

set_option maxHeartbeats 400000 in
theorem parts_any (c : Cf) (w : World) : Calls Tryd.prog 24 #[cfv c] w fun e w' =>
    e = .returned (.func (.func 37) #[] #[.pointer (some ⟨w.heap.size, 0, none⟩)]) ∧ w' = w.alloc (.cells (cl c).toArray 24) := by
  unfold cfv cl
  go_enter Tryd.func24, Tryd.ntmps24
  go_wp2
  go_ret
  exact ⟨rfl, rfl⟩

/-- What is handed over the i-th time. -/
def Part (c : Cf) (B i : Nat) (args : Array Value) (A : World) : Prop := ∃ q x, (bl c)[i]? = some x ∧ args = #[.int .i64 (x.cnt : Nat), plf q] ∧ B ≤ q ∧ IsBlk A q x

/-- What the iterator leans on. -/
structure Leans (c : Cf) (b0 : Nat) (cap : Nat → Prop) (w0 : World) (B : Nat) (L : Option Addr) (A : World) : Prop where
  caps : ∀ k, cap k → k < A.heap.size ∧ A.heap[k]? = w0.heap[k]?
  size : B ≤ A.heap.size
  list : HasBlks A B L (headL (kB c) c.thr.toNat c.str.toNat)
theorem Leans.only {c : Cf} {b0 : Nat} {cap : Nat → Prop} {w0 : World} {B : Nat} {L : Option Addr} {A A' : World} {C : Nat → Prop} (h : Leans c b0 cap w0 B L A) (ho : Only C A A') (hC : ∀ k, C k → ¬ cap k ∧ k < B) : Leans c b0 cap w0 B L A' :=
  ⟨fun k hk => ⟨Nat.lt_of_lt_of_le (h.caps k hk).1 ho.size, (ho.block k (h.caps k hk).1 fun hc => (hC k hc).1 hk).trans (h.caps k hk).2⟩, Nat.le_trans h.size ho.size,
    h.list.same fun k hB hk => ho.block k hk fun hc => by have := (hC k hc).2; omega⟩
theorem Leans.below {c : Cf} {b0 : Nat} {cap : Nat → Prop} {w0 : World} {B : Nat} {L : Option Addr} {A A' : World} (h : Leans c b0 cap w0 B L A) (hb : Below A.heap.size A A') : Leans c b0 cap w0 B L A' :=
  h.only (C := fun _ => False) (Only.of_below _ hb) fun _ hc => hc.elim
theorem Leans.cf {c : Cf} {b0 : Nat} {cap : Nat → Prop} {w0 : World} {B : Nat} {L : Option Addr} {A : World} (h : Leans c b0 cap w0 B L A) (hb : cap b0) (h0 : IsCf w0 b0 c) : IsCf A b0 c := h0.same (h.caps b0 hb).2
theorem Leans.pow {c : Cf} {b0 : Nat} {cap : Nat → Prop} {w0 : World} {B : Nat} {L : Option Addr} {A : World} (h : Leans c b0 cap w0 B L A) (hb : cap 0) (h0 : Pow w0) : Pow A := fun j hj => (World.cell?_of_block (w := w0) (h.caps _ hb).2).trans (h0 j hj)

theorem small_head {c : Cf} (h : Ok c) {k : Nat} {x : Blk} (hx : (headL (kB c) c.thr.toNat c.str.toNat)[k]? = some x) : Small x := by
  obtain ⟨_, hi, hr⟩ := h
  unfold RestOk at hr
  unfold IndOk at hi
  have hm := List.mem_of_getElem? hx
  unfold headL kB at hm
  by_cases hk : c.kind = 1
  · rw [decide_eq_true hk] at hm
    simp only [if_true, List.mem_append, List.mem_cons, List.not_mem_nil, or_false] at hm
    rcases hm with (rfl | rfl | rfl | rfl | rfl) | rfl <;> (unfold Small Blk.cnt; simp only; omega)
  · rw [decide_eq_false hk] at hm
    simp only [Bool.false_eq_true, if_false, List.mem_append, List.mem_cons, List.not_mem_nil, or_false] at hm
    rcases hm with (rfl | rfl | rfl | rfl | rfl) | rfl | rfl <;> (unfold Small Blk.cnt; simp only; omega)
theorem small_desc {c : Cf} (h : Ok c) {k : Nat} (hk : k < c.inst.toNat) : Small ⟨9, k, 1, 1⟩ := by
  have hr := h.2.2
  unfold RestOk at hr
  unfold Small Blk.cnt; simp only; omega
theorem small_obj {c : Cf} (h : Ok c) {k : Nat} (hk : k < c.inst.toNat) : Small ⟨10, k, 1, sz c⟩ := by
  have hz := sz_bounds h
  have hr := h.2.2
  unfold RestOk at hr
  unfold Small Blk.cnt; simp only; omega
theorem blk_lit (w : World) (x : Blk) (t : TypeId) {q : Nat} (hq : w.heap.size = q) : IsBlk (w.alloc (.cells #[.int .u8 x.p, .int .i64 x.a, .int .i64 x.m, .int .i64 x.n] t)) q x := by
  subst hq
  exact ⟨by simp [go_sem], by simp [go_sem], by simp [go_sem], by simp [go_sem]⟩

set_option maxHeartbeats 2000000 in
theorem parts_iter (n : Nat) (hn : 3 ≤ n) (c : Cf) (hok : Ok c) (b0 : Nat) (cap : Nat → Prop) (w0 : World) (hc0 : cap b0) (hc1 : cap 0) (h0 : IsCf w0 b0 c) (hp : Pow w0) :
    IterR n Tryd.prog 37 #[.pointer (some ⟨b0, 0, none⟩)] cap w0 (bl c).length (Part c) := by
  intro l J Jx C W hcap hC hJ hJx hY hJ0
  refine callsIn_of_wp Tryd.func37 rfl trivial ?_ rfl
  simp only [Tryd.ntmps37, List.size_toArray, List.length_cons, List.length_nil, Nat.reduceAdd, Nat.reduceSub, Array.replicate_succ, Array.replicate_zero, List.push_toArray, List.append_toArray, List.nil_append, List.cons_append]
  have hfw : ∀ f, Fence.wide.fn f := fun _ => trivial
  have hn1 : 1 ≤ n := by omega
  have HY := Lib.hid hY
  have HJ := Lib.hid hJ
  have HC := Lib.hid hC
  have Hcap := Lib.hid hcap
  have Hok := Lib.hid hok
  have H0 := Lib.hid h0
  have HP := Lib.hid hp
  have HJ0 := Lib.hid hJ0
  have I0 : IsCf W b0 c := h0.same (hcap b0 hc0).2
  have f0 := I0 0 _ rfl
  have f1 := I0 1 _ rfl
  have f2 := I0 2 _ rfl
  have f3 := I0 3 _ rfl
  have f4 := I0 4 _ rfl
  have f5 := I0 5 _ rfl
  have f6 := I0 6 _ rfl
  have f7 := I0 7 _ rfl
  have f8 := I0 8 _ rfl
  have f9 := I0 9 _ rfl
  have f10 := I0 10 _ rfl
  have f11 := I0 11 _ rfl
  clear hY hJ hC hcap hJx hok h0 hp hJ0 I0
  gi_wp2_with fail
  refine (callsIn_wide.2 (shared_any c Hok.out W)).mono ?_
  rintro e A0 ⟨L, lc, rfl, hl1, hl2, HL, hb0⟩
  have LN : Hid (Leans c b0 cap w0 W.heap.size L A0) := Lib.hid ⟨fun k hk => by
    have := Hcap.out k hk
    exact ⟨Nat.lt_of_lt_of_le this.1 hb0.size, (hb0.block k this.1).trans this.2⟩, hb0.size, HL.out⟩
  have j0 := HJ.out _ _ _ HJ0.out hb0
  obtain ⟨B, hB⟩ : ∃ B, W.heap.size = B := ⟨_, rfl⟩
  rw [hB] at HC HY LN
  have hN1 : hN c ≤ 7 := by unfold hN; split <;> omega
  clear hb0 HL Hcap HJ0 f0 f1 f2 f3 f4 f5 f6 f7 f8 f9 f10 f11 hB
  gi_wp2
  gi_loopw [12] (fun i wr => ∃ k : Nat, k ≤ hN c ∧ i = .int .i64 k ∧ J k wr ∧ Hid (Leans c b0 cap w0 B L wr)) (fun i _ => hN c - (intOf i).toNat)
  case atStart => exact ⟨0, Nat.zero_le _, rfl, j0, LN⟩
  case round =>
    clear j0 LN
    obtain ⟨k, hk, rfl, hJk, hLk⟩ := hrel
    by_cases hlt : k < hN c
    · obtain ⟨x, hx⟩ : ∃ x, (headL (kB c) c.thr.toNat c.str.toNat)[k]? = some x := ⟨_, List.getElem?_eq_getElem (by rw [headL_length]; exact hlt)⟩
      obtain ⟨g, rfl, hgB, c0, c1, c2, c3⟩ := hLk.out.list k x hx
      have HX := Lib.hid ((bl_head hlt).trans hx)
      have HS := Lib.hid (small_head Hok.out hx)
      have HJk := Lib.hid hJk
      clear hx hJk
      gi_wp2_with fail
      refine (callsIn_wide.2 (laid_any x HS.out _)).mono ?_
      rintro e A1 ⟨rfl, hA1⟩
      have b1 : Below wr.heap.size wr A1 := by rw [hA1]; exact below_two _ _ _
      have q1 : IsBlk A1 (wr.heap.size + 1) x := by rw [hA1]; exact blk_lit _ x _ (by simp)
      rw [show ∀ o, (wr.alloc o).heap.size = wr.heap.size + 1 from fun o => by simp]
      have hq : B ≤ wr.heap.size + 1 := by have := hLk.out.size; omega
      obtain ⟨q, hq'⟩ : ∃ q, wr.heap.size + 1 = q := ⟨_, rfl⟩
      rw [hq'] at q1 hq ⊢
      obtain ⟨fn, tmps, assign, body, hy, hR⟩ := HY.out k #[.int .i64 (x.cnt : Nat), plf q] A1 (by rw [bl_length]; omega) (HJ.out _ _ _ HJk.out b1) ⟨q, x, HX.out, rfl, hq, q1⟩
      have L1 := Lib.hid (hLk.out.below b1)
      clear hq hq' q1 b1 hA1 hLk HX HJk c0 c1 c2 c3
      gi_wp2
      refine hR.mono ?_
      rintro e A3 (⟨rfl, hJ3, ho3⟩ | ⟨rfl, hJx3⟩)
      · have L3 := Lib.hid (L1.out.only ho3 HC.out)
        clear L1 ho3 hR hy
        gi_wp2
        go_roundw
        case rel => exact ⟨k + 1, by omega, by go_num, hJ3, L3⟩
        case measure => simp [intOf]; omega
      · gi_wp2
        refine bodyPost_ret (results_none rfl _ _ _) rfl ?_
        exact ⟨⟨_, rfl⟩, .inr ⟨k, by rw [bl_length]; omega, hJx3⟩⟩
    · obtain rfl : k = hN c := by omega
      have HJk := Lib.hid hJk
      have hz := (sz_bounds Hok.out).2
      have hr := Hok.out.2.2
      unfold RestOk at hr
      obtain ⟨I, hI, hI4⟩ : ∃ I : Nat, c.inst = I ∧ I ≤ 4 := ⟨c.inst.toNat, by omega, by omega⟩
      have HI := Lib.hid hI
      have f := hLk.out.cf hc0 H0.out
      have f0 := f 0 _ rfl
      have f1 := f 1 _ rfl
      have f2 := f 2 _ rfl
      have f3 := f 3 _ rfl
      have f4 := f 4 _ rfl
      have f5 := f 5 _ rfl
      have f6 := f 6 _ rfl
      have f7 := f 7 _ rfl
      have f8 := f 8 _ rfl
      have f9 := f 9 _ rfl
      have f10 := f 10 _ rfl
      have f11 := f 11 _ rfl
      clear f hr hJk hI
      gi_wp2_with fail
      refine (callsIn_wide.2 (sizeOf_any c Hok.out _ (hLk.out.pow hc1 HP.out))).mono ?_
      rintro e A1 ⟨rfl, hb1⟩
      have L1 := Lib.hid (hLk.out.below hb1)
      have j1 := HJ.out _ _ _ HJk.out hb1
      have f1' : A1.cell? ⟨b0, 1, none⟩ = some (.int .i64 I) := by rw [← HI.out]; exact (hb1.cell (World.block_lt_of_cell? _ _ f1)).trans f1
      clear f0 f1 f2 f3 f4 f5 f6 f7 f8 f9 f10 f11 hLk HJk hb1
      gi_wp2
      clear f1'
      gi_loopw [28] (fun i wr => ∃ k : Nat, k ≤ I ∧ i = .int .i64 k ∧ J (hN c + 2 * k) wr ∧ Hid (Leans c b0 cap w0 B L wr)) (fun i _ => I - (intOf i).toNat)
      case atStart => exact ⟨0, Nat.zero_le _, rfl, j1, L1⟩
      case round =>
        clear j1 L1
        obtain ⟨k, hk, rfl, hJk, hLk⟩ := hrel
        by_cases hlt : k < I
        · have hk2 : k < c.inst.toNat := by rw [HI.out]; simpa using hlt
          have HX := Lib.hid (bl_inst hk2)
          have HS1 := Lib.hid (small_desc Hok.out hk2)
          have HS2 := Lib.hid (small_obj Hok.out hk2)
          have HJk := Lib.hid hJk
          have HK := Lib.hid hk2
          clear hJk hk2
          gi_wp2_with fail
          refine (callsIn_wide.2 (laid_any ⟨9, k, 1, 1⟩ HS1.out _)).mono ?_
          rintro e A1 ⟨rfl, hA1⟩
          have b1 : Below wr.heap.size wr A1 := by rw [hA1]; exact below_three _ _ _ _
          have q1 : IsBlk A1 (wr.heap.size + 2) ⟨9, k, 1, 1⟩ := by rw [hA1]; exact blk_lit _ ⟨9, k, 1, 1⟩ _ (by simp)
          have q2 : IsBlk A1 (wr.heap.size + 1) ⟨10, k, 1, sz c⟩ := by
            rw [hA1]
            exact (blk_lit _ ⟨10, k, 1, sz c⟩ _ (by simp)).below (below_one _ _)
          rw [show ∀ o o', ((wr.alloc o).alloc o').heap.size = wr.heap.size + 2 from fun o o' => by simp]
          have hq : B ≤ wr.heap.size := hLk.out.size
          obtain ⟨r, hr'⟩ : ∃ r, wr.heap.size = r := ⟨_, rfl⟩
          rw [hr'] at q1 q2 hq ⊢
          obtain ⟨fn, tmps, assign, body, hy, hR⟩ := HY.out (hN c + 2 * k) #[.int .i64 ((⟨9, k, 1, 1⟩ : Blk).cnt : Nat), plf (r + 2)] A1 (by rw [bl_length]; have := HK.out; omega) (HJ.out _ _ _ HJk.out b1) ⟨r + 2, _, HX.out.1, rfl, by omega, q1⟩
          have L1 := Lib.hid (hLk.out.below b1)
          clear q1 b1 hA1 hLk HJk
          gi_wp2_with fail
          refine hR.mono ?_
          rintro e A3 (⟨rfl, hJ3, ho3⟩ | ⟨rfl, hJx3⟩)
          · have L3 := Lib.hid (L1.out.only ho3 HC.out)
            have hqC : ¬ C (r + 1) := fun h => by have := (HC.out _ h).2; omega
            have q3 := q2.same (ho3.block (r + 1) q2.lt hqC)
            obtain ⟨c0, c1, c2, c3⟩ := q3
            have HJ3 := Lib.hid hJ3
            clear L1 ho3 hR hy q2 hqC hr' hJ3
            gi_wp2_with fail
            refine (callsIn_wide.2 (laid_any ⟨10, k, 1, sz c⟩ HS2.out _)).mono ?_
            rintro e A4 ⟨rfl, hA4⟩
            have b4 : Below A3.heap.size A3 A4 := by rw [hA4]; exact below_one _ _
            have q4 : IsBlk A4 A3.heap.size ⟨10, k, 1, sz c⟩ := by rw [hA4]; exact blk_lit _ ⟨10, k, 1, sz c⟩ _ rfl
            have hs3 : B ≤ A3.heap.size := L3.out.size
            obtain ⟨fn, tmps, assign, body, hy, hR⟩ := HY.out (hN c + 2 * k + 1) #[.int .i64 ((⟨10, k, 1, sz c⟩ : Blk).cnt : Nat), plf A3.heap.size] A4 (by rw [bl_length]; have := HK.out; omega) (HJ.out _ _ _ HJ3.out b4) ⟨A3.heap.size, _, HX.out.2, rfl, hs3, q4⟩
            have L4 := Lib.hid (L3.out.below b4)
            clear q4 b4 hA4 L3 HJ3 c0 c1 c2 c3 hs3
            gi_wp2_with fail
            refine hR.mono ?_
            rintro e A5 (⟨rfl, hJ5, ho5⟩ | ⟨rfl, hJx5⟩)
            · have L5 := Lib.hid (L4.out.only ho5 HC.out)
              clear L4 ho5 hR hy
              gi_wp2
              go_roundw
              case rel => exact ⟨k + 1, by omega, by go_num, by rw [show hN c + 2 * (k + 1) = hN c + 2 * k + 1 + 1 by omega]; exact hJ5, L5⟩
              case measure => simp [intOf]; omega
            · gi_wp2
              refine bodyPost_ret (results_none rfl _ _ _) rfl ?_
              exact ⟨⟨_, rfl⟩, .inr ⟨hN c + 2 * k + 1, by rw [bl_length]; have := HK.out; omega, hJx5⟩⟩
          · gi_wp2
            refine bodyPost_ret (results_none rfl _ _ _) rfl ?_
            exact ⟨⟨_, rfl⟩, .inr ⟨hN c + 2 * k, by rw [bl_length]; have := HK.out; omega, hJx3⟩⟩
        · obtain rfl : k = I := by omega
          gi_wp2
          go_end0
          exact ⟨⟨_, rfl⟩, .inl (by rw [bl_length, HI.out]; simpa using hJk)⟩
end Go.Proofs.YtmnlfhpkfgfpoaaDoor
