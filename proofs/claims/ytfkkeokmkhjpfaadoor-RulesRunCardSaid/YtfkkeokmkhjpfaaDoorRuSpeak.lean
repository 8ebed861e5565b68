/- The program's own rules that speak of somebody, as an iterator hands them over. -/
import Derived.RangeFuncNested
import Derived.RangeFuncBound
import Derived.RangeFuncCalls
import Derived.RangeFuncLeaves
import Derived.Shelf.Abstract
import Derived.Shelf.RegionOpen
import Derived.OwnWalkIn
import Derived.TacticsInMore
import Derived.LoopNIn
import Derived.LoopIn
import Derived.Test.YtfkkeokmkhjpfaaDoorRangeS
import Derived.Test.YtfkkeokmkhjpfaaDoorRowProg
import Derived.Test.YtfkkeokmkhjpfaaDoorRuFacts
namespace Go.Proofs.YtfkkeokmkhjpfaaDoor
open Go.RowKit Go.Shelf Tb Pt Opn
attribute [local go_sem] Oper.semAt_some

set_option maxHeartbeats 400000 in
theorem speaking_any (A : Option Addr) (N d a b : Nat) (w : World) :
    Calls Tryd.prog 40 #[.slice A N d, .int .u32 a, .int .u32 b] w fun e w' => e = .returned (.func (.func 56) #[] #[.pointer (some ⟨w.heap.size, 0, none⟩), .pointer (some ⟨w.heap.size + 1, 0, none⟩), .pointer (some ⟨w.heap.size + 1 + 1, 0, none⟩)]) ∧
      w' = ((w.alloc (.cells #[.slice A N d] 25)).alloc (.cells #[.int .u32 a] 27)).alloc (.cells #[.int .u32 b] 27) := by
  go_enter Tryd.func40, Tryd.ntmps40
  go_wp2
  go_ret
  exact ⟨rfl, rfl⟩

/-- Is a rule's who, or its what, that one, or all of them? -/
def meant (p a : Nat) : Bool := decide (p = 0 ∨ p = a)
set_option maxHeartbeats 1000000 in
theorem meant_any (p a : Nat) (ha : a < 4294967296) (w : World) : Calls Tryd.prog 57 #[.int .u64 p, .int .u32 a] w (Ret (.bool (meant p a)) w) := by
  have e1 : IntKind.u64.wrap (a : Int) = (a : Int) := by rw [IntKind.wrap_u64]; omega
  go_enter Tryd.func57, Tryd.ntmps57
  go_wp2
  all_goals
    go_ret
    refine Ret.mk (bool_eq ?_) (Below.refl _ _)
    unfold meant
    rw [Bool.eq_iff_iff]
    simp only [Bool.or_eq_true, beq_iff_eq, decide_eq_true_eq]
    (first | omega | grind)

theorem sp_meant (k a b : Nat) : sp k a b = (meant (k / 65536) a && meant (k % 65536) b) := by
  unfold sp meant
  rw [Bool.eq_iff_iff]
  simp only [Bool.and_eq_true, decide_eq_true_eq]

/-- The rules that speak of somebody. -/
def spk (l : List R) (a b : Nat) : List R := l.filter fun x => sp x.1 a b
theorem spk_take {l : List R} {a b j : Nat} (hj : j < l.length) : spk (l.take (j + 1)) a b = spk (l.take j) a b ++ (if sp l[j].1 a b = true then [l[j]] else []) := by
  unfold spk
  rw [List.take_succ_eq_append_getElem hj, List.filter_append]
  congr 1
  rw [List.filter_cons]
  rfl
theorem spk_le {l : List R} {a b j : Nat} : (spk (l.take j) a b).length ≤ (spk l a b).length := by
  unfold spk
  exact List.Sublist.length_le (List.Sublist.filter _ (List.take_sublist j l))
theorem spk_at {l : List R} {a b j : Nat} (hj : j < l.length) (hs : sp l[j].1 a b = true) : ∃ h : (spk (l.take j) a b).length < (spk l a b).length, (spk l a b)[(spk (l.take j) a b).length] = l[j] := by
  have e : spk l a b = spk (l.take j) a b ++ (l[j] :: spk (l.drop (j + 1)) a b) := by
    unfold spk
    conv => lhs; rw [← List.take_append_drop j l, List.filter_append, List.drop_eq_getElem_cons hj, List.filter_cons]
    rw [if_pos hs]
  refine ⟨by rw [e, List.length_append]; simp, ?_⟩
  simp only [e]
  rw [List.getElem_append_right (Nat.le_refl _)]
  simp

set_option maxHeartbeats 2000000 in
theorem speak_iter (n : Nat) (hn : 3 ≤ n) (A : Option Addr) (l : List R) (d : Nat) (hl : l.length ≤ 1000000) (hv : ∀ x ∈ l, RuOk x) (a b : Nat) (ha : a < 4294967296) (hb : b < 4294967296) (b0 b1 b2 : Nat) (cap : Nat → Prop) (w0 : World) (hc0 : cap b0) (hc1 : cap b1) (hc2 : cap b2) (hcA : ∀ ad, A = some ad → cap ad.block)
    (h0 : w0.cell? ⟨b0, 0, none⟩ = some (.slice A l.length d)) (h1 : w0.cell? ⟨b1, 0, none⟩ = some (.int .u32 a)) (h2 : w0.cell? ⟨b2, 0, none⟩ = some (.int .u32 b)) (h3 : IsR w0 A l) :
    IterS n Tryd.prog 56 #[.pointer (some ⟨b0, 0, none⟩), .pointer (some ⟨b1, 0, none⟩), .pointer (some ⟨b2, 0, none⟩)] cap w0 (spk l a b).length (fun _ i args _ => ∃ h : i < (spk l a b).length, args = #[.int .u32 ((spk l a b)[i].2 : Nat)]) := by
  intro lp J Jx C W hcap hC hJ hJx hY hJ0
  refine callsIn_of_wp Tryd.func56 rfl trivial ?_ rfl
  simp only [Tryd.ntmps56, List.size_toArray, List.length_cons, List.length_nil, Nat.reduceAdd, Nat.reduceSub, Array.replicate_succ, Array.replicate_zero, List.push_toArray, List.append_toArray, List.nil_append, List.cons_append]
  have hfw : ∀ f, Fence.wide.fn f := fun _ => trivial
  have hn1 : 1 ≤ n := by omega
  have HY := Lib.hid hY
  have HJ := Lib.hid hJ
  have HC := Lib.hid hC
  have g0 : W.cell? ⟨b0, 0, none⟩ = some (.slice A l.length d) := (World.cell?_of_block (hcap b0 hc0).2).trans h0
  have HK1 := Lib.hid (show ∀ X : World, (∀ q, cap q → q < X.heap.size ∧ X.heap[q]? = w0.heap[q]?) → X.cell? ⟨b1, 0, none⟩ = some (.int .u32 a) ∧ X.cell? ⟨b2, 0, none⟩ = some (.int .u32 b) from fun X hX =>
    ⟨(World.cell?_of_block (hX b1 hc1).2).trans h1, (World.cell?_of_block (hX b2 hc2).2).trans h2⟩)
  have HKA := Lib.hid (show ∀ X : World, (∀ q, cap q → q < X.heap.size ∧ X.heap[q]? = w0.heap[q]?) → IsR X A l from fun X hX i x hx => by
    obtain ⟨b, off, e, hz⟩ := h3 i x hx
    exact ⟨b, off, e, fun j u hj => (World.cell?_of_block (hX b (hcA _ e)).2).trans (hz j u hj)⟩)
  have Hcap := Lib.hid hcap
  have HJ0 := Lib.hid hJ0
  have HME := Lib.hid (fun p W => meant_any p a ha W)
  have HMF := Lib.hid (fun p W => meant_any p b hb W)
  have HV := Lib.hid hv
  obtain ⟨N, hN⟩ : ∃ N, l.length = N := ⟨_, rfl⟩
  obtain ⟨M, hM⟩ : ∃ M, (spk l a b).length = M := ⟨_, rfl⟩
  rw [hN] at hl g0
  rw [hM]
  have HNN := Lib.hid hN
  have HMM := Lib.hid hM
  clear hY hJ hC hcap hJx h0 h1 h2 h3 hJ0 hv hN hM
  gi_wp2
  gi_loopw [9] (fun i wr => ∃ j : Nat, j ≤ N ∧ i = .int .i64 j ∧ Hid (J (spk (l.take j) a b).length wr) ∧ Hid (∀ q, cap q → q < wr.heap.size ∧ wr.heap[q]? = w0.heap[q]?)) (fun i _ => N - (intOf i).toNat)
  case atStart => exact ⟨0, Nat.zero_le _, rfl, HJ0, Hcap⟩
  case round =>
    obtain ⟨j, hj, rfl, HJk, hck⟩ := hrel
    have k1 : (0 : Int) ≤ (j : Int) := by omega
    by_cases hlt : j < N
    · have k2 : (j : Int) < (N : Int) := by omega
      have hj1 : j < l.length := by rw [HNN.out]; exact hlt
      obtain ⟨bk, off, rfl, x0, x1⟩ := (HKA.out wr hck.out).row hj1
      obtain ⟨y0, y1⟩ := HK1.out wr hck.out
      have hbk1 := World.block_lt_of_cell? _ _ y0
      have hbk2 := World.block_lt_of_cell? _ _ y1
      have HLT := Lib.hid hlt
      have hok := HV.out _ (List.getElem_mem hj1)
      have HST := Lib.hid (spk_take (a := a) (b := b) hj1)
      have HAT := Lib.hid (spk_at (a := a) (b := b) hj1)
      obtain ⟨q1, e1⟩ : ∃ q, l[j].1 = q := ⟨_, rfl⟩
      obtain ⟨q2, e2⟩ : ∃ q, l[j].2 = q := ⟨_, rfl⟩
      have E := Lib.hid (Prod.ext e1 e2 : l[j] = (q1, q2))
      rw [e1] at x0
      rw [e2] at x1
      unfold RuOk at hok
      rw [e1, e2] at hok
      have hw1 : IntKind.u64.wrap ((q1 : Int) / 65536) = ((q1 / 65536 : Nat) : Int) := by rw [IntKind.wrap_u64]; omega
      have hw2 : (q1 : Int) % 65536 = ((q1 % 65536 : Nat) : Int) := by omega
      have hw3 : IntKind.u32.wrap (q2 : Int) = (q2 : Int) := by rw [IntKind.wrap_u32]; omega
      have hsp := sp_meant q1 a b
      have hme := HME.out (q1 / 65536)
      have hmf := HMF.out (q1 % 65536)
      generalize meant (q1 / 65536) a = z1 at *
      generalize meant (q1 % 65536) b = z2 at *
      have HM1 := Lib.hid hme
      have HM2 := Lib.hid hmf
      have HSP := Lib.hid hsp
      generalize q1 / 65536 = p1 at *
      generalize q1 % 65536 = p2 at *
      have HOK := Lib.hid hok
      clear e1 e2 hme hmf hsp hok
      have bw1 : Below wr.heap.size wr (wr.alloc (.cells #[.int .u64 q1, .int .u64 q2] 24)) := below_one _ _
      obtain ⟨r, hr⟩ : ∃ r, wr.heap.size = r := ⟨_, rfl⟩
      have HBR := Lib.hid hr
      have m0 : (wr.alloc (.cells #[.int .u64 q1, .int .u64 q2] 24)).cell? ⟨r, 0, none⟩ = some (.int .u64 q1) := by rw [← hr]; simp [go_sem]
      have m1 : (wr.alloc (.cells #[.int .u64 q1, .int .u64 q2] 24)).cell? ⟨r, 1, none⟩ = some (.int .u64 q2) := by rw [← hr]; simp [go_sem]
      have B1 := Lib.hid bw1
      have JK := Lib.hid (HJ.out _ _ _ HJk.out bw1)
      have cap1 : Hid (∀ q, cap q → q < (wr.alloc (.cells #[.int .u64 q1, .int .u64 q2] 24)).heap.size ∧ (wr.alloc (.cells #[.int .u64 q1, .int .u64 q2] 24)).heap[q]? = w0.heap[q]?) := Lib.hid fun q hq => by
        have := hck.out q hq
        exact ⟨Nat.lt_of_lt_of_le this.1 bw1.size, (bw1.block q this.1).trans this.2⟩
      replace y0 := (bw1.cell hbk1).trans y0
      replace y1 := (bw1.cell hbk2).trans y1
      gi_wp2_with fail
      try rw [hr]
      generalize (wr.alloc (.cells #[.int .u64 q1, .int .u64 q2] 24)) = W1 at *
      refine (callsIn_wide.2 (HM1.out W1)).mono ?_
      rintro e W2 ⟨rfl, hb2⟩
      replace y1 := (hb2.cell (World.block_lt_of_cell? _ _ y1)).trans y1
      replace m0 := (hb2.cell (World.block_lt_of_cell? _ _ m0)).trans m0
      replace m1 := (hb2.cell (World.block_lt_of_cell? _ _ m1)).trans m1
      have JK2 := Lib.hid (HJ.out _ _ _ JK.out hb2)
      have cap2 : Hid (∀ q, cap q → q < W2.heap.size ∧ W2.heap[q]? = w0.heap[q]?) := Lib.hid fun q hq => by
        have := cap1.out q hq
        exact ⟨Nat.lt_of_lt_of_le this.1 hb2.size, (hb2.block q this.1).trans this.2⟩
      clear hb2 cap1 JK bw1 B1 HJk hck x0 x1 y0 hbk1 hbk2 HBR hr
      cases z1 with
      | false =>
        have es : (spk (l.take (j + 1)) a b).length = (spk (l.take j) a b).length := by rw [HST.out, E.out, if_neg (by rw [HSP.out]; simp)]; simp
        have ES := Lib.hid es
        clear es
        gi_wp2
        go_roundw
        case rel => exact ⟨j + 1, HLT.out, by go_num, by rw [ES.out]; exact JK2, cap2⟩
        case measure => simp [intOf]; omega
      | true =>
        gi_wp2_with fail
        refine (callsIn_wide.2 (HM2.out W2)).mono ?_
        rintro e W3 ⟨rfl, hb3⟩
        replace m1 := (hb3.cell (World.block_lt_of_cell? _ _ m1)).trans m1
        have JK3 := Lib.hid (HJ.out _ _ _ JK2.out hb3)
        have cap3 : Hid (∀ q, cap q → q < W3.heap.size ∧ W3.heap[q]? = w0.heap[q]?) := Lib.hid fun q hq => by
          have := cap2.out q hq
          exact ⟨Nat.lt_of_lt_of_le this.1 hb3.size, (hb3.block q this.1).trans this.2⟩
        clear hb3 cap2 JK2
        cases z2 with
        | false =>
          have es : (spk (l.take (j + 1)) a b).length = (spk (l.take j) a b).length := by rw [HST.out, E.out, if_neg (by rw [HSP.out]; simp)]; simp
          have ES := Lib.hid es
          clear es
          gi_wp2
          go_roundw
          case rel => exact ⟨j + 1, HLT.out, by go_num, by rw [ES.out]; exact JK3, cap3⟩
          case measure => simp [intOf]; omega
        | true =>
          have es : (spk (l.take (j + 1)) a b).length = (spk (l.take j) a b).length + 1 := by rw [HST.out, E.out, if_pos (by rw [HSP.out]; rfl)]; simp
          have ES := Lib.hid es
          clear es
          obtain ⟨hlt2, hat⟩ := HAT.out (by rw [E.out, HSP.out]; rfl)
          have HLT2 := Lib.hid hlt2
          obtain ⟨fn, tmps, assign, body, hy, hR⟩ := HY.out _ #[.int .u32 q2] W3 hlt2 JK3.out ⟨hlt2, by rw [hat, E.out]⟩
          clear hat hlt2
          gi_wp2
          refine hR.mono ?_
          rintro e A3 (⟨rfl, hJ3, ho3⟩ | ⟨rfl, hJx3⟩)
          · have cap4 : Hid (∀ q, cap q → q < A3.heap.size ∧ A3.heap[q]? = w0.heap[q]?) := Lib.hid fun q hq => by
              have h := cap3.out q hq
              exact ⟨Nat.lt_of_lt_of_le h.1 ho3.size, (ho3.block q h.1 (fun hc => HC.out q hc hq)).trans h.2⟩
            gi_wp2
            go_roundw
            case rel => exact ⟨j + 1, HLT.out, by go_num, by rw [ES.out]; exact Lib.hid hJ3, cap4⟩
            case measure => simp [intOf]; omega
          · gi_wp2
            refine bodyPost_ret (results_none rfl _ _ _) rfl ?_
            exact ⟨⟨_, rfl⟩, .inr ⟨_, (by have := HLT2.out; have := HMM.out; omega), hJx3⟩⟩
    · obtain rfl : j = N := by omega
      have e : (spk (l.take j) a b).length = M := by rw [← HMM.out, List.take_of_length_le (by rw [HNN.out]; exact Nat.le_refl _)]
      gi_wp2
      go_end0
      exact ⟨⟨_, rfl⟩, .inl (by rw [← e]; exact HJk.out)⟩
end Go.Proofs.YtfkkeokmkhjpfaaDoor
