/- The program's own scan: rows that an iterator hands over from a key on, gathered while they are wanted. -/
import Derived.RangeFuncNested
import Derived.RangeFuncBound
import Derived.RangeFuncCalls
import Derived.RangeFuncLeaves
import Derived.Shelf.Abstract
import Derived.Shelf.RegionOpen
import Derived.OwnWalkIn
import Derived.TacticsInMore
import Derived.LoopNIn
import Derived.LoopIn
import Derived.Test.YtohllaolbebogaaDoorRangeS
import Derived.Test.YtohllaolbebogaaDoorOrGet
namespace Go.Proofs.YtohllaolbebogaaDoor
open Go.RowKit Go.Shelf Tb Pt Opn
attribute [local go_sem] Oper.semAt_some

set_option maxHeartbeats 400000 in
theorem rowsFrom_any (A : Option Addr) (N d k : Nat) (w : World) :
    Calls Tryd.prog 43 #[.slice A N d, .int .u32 k] w fun e w' => e = .returned (.func (.func 61) #[] #[.pointer (some ⟨w.heap.size, 0, none⟩), .pointer (some ⟨w.heap.size + 1, 0, none⟩)]) ∧
      w' = (w.alloc (.cells #[.slice A N d] 22)).alloc (.cells #[.int .u32 k] 25) := by
  go_enter Tryd.func43, Tryd.ntmps43
  go_wp2
  go_ret
  exact ⟨rfl, rfl⟩

set_option maxHeartbeats 400000 in
/-- The closure that says of a row whether its key is b at most. -/
theorem upto_any (x : R) (b q : Nat) (w : World) (h : w.cell? ⟨q, 0, none⟩ = some (.int .u64 b)) :
    Calls Tryd.prog 44 #[.agg #[.int .u64 x.1, .int .u64 x.2], .pointer (some ⟨q, 0, none⟩)] w (Ret (.bool (decide (x.1 ≤ b))) w) := by
  have hq : q < w.heap.size := World.block_lt_of_cell? _ _ h
  go_enter Tryd.func44, Tryd.ntmps44
  go_wp2
  go_ret
  refine Ret.mk (bool_eq ?_) (below_one _ _)
  rw [Bool.eq_iff_iff]

/-- A row as a value. -/
def rowV (x : R) : Value := .agg #[.int .u64 x.1, .int .u64 x.2]

/-- Rows from a place on. -/
theorem isr_drop {w : World} {A : Option Addr} {l : List R} (h : IsR w A l) (p : Nat) : IsR w (A.map fun x => x.add (p * 2)) (l.drop p) := fun i x hx => by
  rw [List.getElem?_drop] at hx
  obtain ⟨b, off, rfl, h1⟩ := h _ x hx
  refine ⟨b, off + p * 2, by rw [Option.map_some, addrAdd], fun j u hj => ?_⟩
  rw [show off + p * 2 + i * 2 + j = off + (p + i) * 2 + j by omega]
  exact h1 j u hj

set_option maxHeartbeats 2000000 in
theorem rows_iter (n : Nat) (hn : 3 ≤ n) (A : Option Addr) (l : List R) (d : Nat) (hd : l.length ≤ d ∧ d ≤ 9223372036854775807) (_ : A = none → l.length = 0 ∧ d = 0) (hl : l.length ≤ 1000000) (hu : Up l) (k : Nat) (hk : k < 4294967296) (b0 b1 : Nat) (cap : Nat → Prop) (w0 : World) (hc0 : cap b0) (hc1 : cap b1) (hcA : ∀ ad, A = some ad → cap ad.block)
    (h0 : w0.cell? ⟨b0, 0, none⟩ = some (.slice A l.length d)) (h1 : w0.cell? ⟨b1, 0, none⟩ = some (.int .u32 k)) (h2 : IsR w0 A l) :
    IterS n Tryd.prog 61 #[.pointer (some ⟨b0, 0, none⟩), .pointer (some ⟨b1, 0, none⟩)] cap w0 (l.drop (pos l k)).length (fun _ i args _ => ∃ h : i < (l.drop (pos l k)).length, args = #[rowV (l.drop (pos l k))[i]]) := by
  intro lp J Jx C W hcap hC hJ hJx hY hJ0
  refine callsIn_of_wp Tryd.func61 rfl trivial ?_ rfl
  simp only [Tryd.ntmps61, List.size_toArray, List.length_cons, List.length_nil, Nat.reduceAdd, Nat.reduceSub, Array.replicate_succ, Array.replicate_zero, List.push_toArray, List.append_toArray, List.nil_append, List.cons_append]
  have hfw : ∀ f, Fence.wide.fn f := fun _ => trivial
  have hn1 : 1 ≤ n := by omega
  have HY := Lib.hid hY
  have HJ := Lib.hid hJ
  have HC := Lib.hid hC
  have g0 : W.cell? ⟨b0, 0, none⟩ = some (.slice A l.length d) := (World.cell?_of_block (hcap b0 hc0).2).trans h0
  have g1 : W.cell? ⟨b1, 0, none⟩ = some (.int .u32 k) := (World.cell?_of_block (hcap b1 hc1).2).trans h1
  have KA : ∀ X : World, (∀ q, cap q → q < X.heap.size ∧ X.heap[q]? = w0.heap[q]?) → IsR X A l := fun X hX i x hx => by
    obtain ⟨b, off, e, hz⟩ := h2 i x hx
    exact ⟨b, off, e, fun j u hj => (World.cell?_of_block (hX b (hcA _ e)).2).trans (hz j u hj)⟩
  have HKA := Lib.hid KA
  have Hcap := Lib.hid hcap
  have HJ0 := Lib.hid hJ0
  have HSK := Lib.hid (fun W hA => oseek_any A l d hl hu k hk W hA)
  have hpl := pos_le l k
  obtain ⟨p, hp⟩ : ∃ p, pos l k = p := ⟨_, rfl⟩
  obtain ⟨N, hN⟩ : ∃ N, l.length = N := ⟨_, rfl⟩
  obtain ⟨M, hM⟩ : ∃ M, (l.drop p).length = M := ⟨_, rfl⟩
  have hMN : M = N - p := by rw [← hM, ← hN, List.length_drop]
  have hM6 : M ≤ 1000000 := by omega
  rw [hp] at hpl HSK HY ⊢
  rw [hN] at hpl HSK hl hd g0
  rw [hM]
  have HNN := Lib.hid hN
  have HMM := Lib.hid hM
  clear hY hJ hC hcap hJx h0 h1 hJ0 KA h2 hp hN hM
  gi_wp2_with fail
  refine (callsIn_wide.2 (HSK.out W (HKA.out W Hcap.out))).mono ?_
  rintro e A0 ⟨rfl, hb0⟩
  have g2 := (hb0.cell (World.block_lt_of_cell? _ _ g0)).trans g0
  have i1 : ¬ (p : Int) < 0 := by omega
  have i2 : ¬ (d : Int) < (p : Int) := by omega
  have i3 : (p : Int) ≤ (N : Int) := by omega
  have i4 : ¬ (N : Int) < (p : Int) := by omega
  have cap0 : Hid (∀ q, cap q → q < A0.heap.size ∧ A0.heap[q]? = w0.heap[q]?) := Lib.hid fun q hq => by
    have := Hcap.out q hq
    exact ⟨Nat.lt_of_lt_of_le this.1 hb0.size, (hb0.block q this.1).trans this.2⟩
  have j0 := Lib.hid (HJ.out _ _ _ HJ0.out hb0)
  clear hb0 Hcap HJ0 g0 g1
  by_cases hdp : d = p
  · have HK2 := Lib.hid (show ∀ X : World, (∀ q, cap q → q < X.heap.size ∧ X.heap[q]? = w0.heap[q]?) → IsR X A (l.drop p) from fun X _ => by
      rw [List.eq_nil_of_length_eq_zero (l := l.drop p) (by rw [HMM.out]; omega)]; exact IsL.nil _ _ _ _)
    gi_wp2
    rw [← hMN]
    have hM0 : M = 0 := by omega
    subst hM0
    clear HKA hdp i1 i2 i3 i4 hMN HK2
    gi_loopw [18] (fun i wr => i = .int .i64 0 ∧ Hid (J 0 wr)) (fun _ _ => 0)
    case atStart => exact ⟨rfl, j0⟩
    case round =>
      obtain ⟨rfl, HJk⟩ := hrel
      gi_wp2
      go_end0
      exact ⟨⟨_, rfl⟩, .inl HJk.out⟩
  · have HK2 := Lib.hid (show ∀ X : World, (∀ q, cap q → q < X.heap.size ∧ X.heap[q]? = w0.heap[q]?) → IsR X (A.map fun x => x.add (p * 2)) (l.drop p) from fun X hX => isr_drop (HKA.out X hX) p)
    gi_wp2
    rw [← hMN]
    generalize (d - p) = c2 at *
    generalize (A.map fun x => x.add (p * 2)) = A2 at *
    clear HKA hdp i1 i2 i3 i4 hMN
    gi_loopw [18] (fun i wr => ∃ j : Nat, j ≤ M ∧ i = .int .i64 j ∧ Hid (J j wr) ∧ Hid (∀ q, cap q → q < wr.heap.size ∧ wr.heap[q]? = w0.heap[q]?)) (fun i _ => M - (intOf i).toNat)
    case atStart => exact ⟨0, Nat.zero_le _, rfl, j0, cap0⟩
    case round =>
      obtain ⟨j, hj, rfl, HJk, hck⟩ := hrel
      have k1 : (0 : Int) ≤ (j : Int) := by omega
      by_cases hlt : j < M
      · have k2 : (j : Int) < (M : Int) := by omega
        have hj1 : j < (l.drop p).length := by rw [HMM.out]; exact hlt
        obtain ⟨bk, off, rfl, x0, x1⟩ := (HK2.out wr hck.out).row hj1
        have HY1 := Lib.hid (HY.out j)
        have HLT := Lib.hid hlt
        obtain ⟨q1, e1⟩ : ∃ q, (l.drop p)[j].1 = q := ⟨_, rfl⟩
        obtain ⟨q2, e2⟩ : ∃ q, (l.drop p)[j].2 = q := ⟨_, rfl⟩
        have E := Lib.hid (Prod.ext e1 e2 : (l.drop p)[j] = (q1, q2))
        rw [e1] at x0
        rw [e2] at x1
        clear e1 e2
        obtain ⟨W1, hW1⟩ : ∃ W1, W1 = wr.alloc (.cells #[.int .u64 q1, .int .u64 q2] 37) := ⟨_, rfl⟩
        have b1 : Below wr.heap.size wr W1 := by rw [hW1]; exact below_one _ _
        obtain ⟨fn, tmps, assign, body, hy, hR⟩ := HY1.out #[.agg #[.int .u64 q1, .int .u64 q2]] W1 (by rw [HMM.out]; exact hlt) (HJ.out _ _ _ HJk.out b1) ⟨hj1, by unfold rowV; rw [E.out]⟩
        have cap1 : Hid (∀ q, cap q → q < W1.heap.size ∧ W1.heap[q]? = w0.heap[q]?) := Lib.hid fun q hq => by
          have := hck.out q hq
          exact ⟨Nat.lt_of_lt_of_le this.1 b1.size, (b1.block q this.1).trans this.2⟩
        rw [hW1] at hy
        clear b1 HY1 E HJk hck
        gi_wp2
        rw [← hW1]
        refine hR.mono ?_
        rintro e A3 (⟨rfl, hJ3, ho3⟩ | ⟨rfl, hJx3⟩)
        · have cap3 : Hid (∀ q, cap q → q < A3.heap.size ∧ A3.heap[q]? = w0.heap[q]?) := Lib.hid fun q hq => by
            have h := cap1.out q hq
            exact ⟨Nat.lt_of_lt_of_le h.1 ho3.size, (ho3.block q h.1 (fun hc => HC.out q hc hq)).trans h.2⟩
          gi_wp2
          go_roundw
          case rel => exact ⟨j + 1, HLT.out, by go_num, Lib.hid hJ3, cap3⟩
          case measure => simp [intOf]; omega
        · gi_wp2
          refine bodyPost_ret (results_none rfl _ _ _) rfl ?_
          exact ⟨⟨_, rfl⟩, .inr ⟨j, HLT.out, hJx3⟩⟩
      · obtain rfl : j = M := by omega
        gi_wp2
        go_end0
        exact ⟨⟨_, rfl⟩, .inl HJk.out⟩

theorem madeX_only {w w' : World} {B : Nat} {v : Value} {l : List R} {C : Nat → Prop} (h : MadeX w B 37 2 rowL v l) (ho : Only C w w') (hC : ∀ k, C k → k < B) : MadeX w' B 37 2 rowL v l := by
  refine ⟨h.1, ?_⟩
  rcases h.2 with h | ⟨g, cap, cur, h1, h2, h3, h4⟩
  · exact .inl h
  · exact .inr ⟨g, cap, cur, h1, h2, (ho.block g (Array.getElem?_eq_some_iff.1 h3).1 (fun hc => by have := hC _ hc; omega)).trans h3, h4⟩

/-- The first i are wanted. -/
def AllTo (L : List R) (b i : Nat) : Prop := ∀ x ∈ L.take i, x.1 ≤ b
/-- How many rows are wanted: the first m, and not the next. -/
def Upto (L : List R) (b m : Nat) : Prop := m ≤ L.length ∧ (∀ x ∈ L.take m, x.1 ≤ b) ∧ ∀ h : m < L.length, ¬ L[m].1 ≤ b

set_option maxRecDepth 100000 in
set_option maxHeartbeats 2000000 in
theorem gather_any (A : Option Addr) (l : List R) (d : Nat) (hd : l.length ≤ d ∧ d ≤ 9223372036854775807) (hAn : A = none → l.length = 0 ∧ d = 0) (hl : l.length ≤ 1000000) (hu : Up l) (k b : Nat) (hk : k < 4294967296) (b0 b1 b2 : Nat) (w : World)
    (h0 : w.cell? ⟨b0, 0, none⟩ = some (.slice A l.length d)) (h1 : w.cell? ⟨b1, 0, none⟩ = some (.int .u32 k)) (h2 : IsR w A l) (h3 : w.cell? ⟨b2, 0, none⟩ = some (.int .u64 b)) (hA : ∀ ad, A = some ad → ad.block < w.heap.size) :
    Calls Tryd.prog 42 #[.func (.func 61) #[] #[.pointer (some ⟨b0, 0, none⟩), .pointer (some ⟨b1, 0, none⟩)], .func (.func 44) #[] #[.pointer (some ⟨b2, 0, none⟩)]] w
      fun e w' => ∃ v m, e = .returned v ∧ Upto (l.drop (pos l k)) b m ∧ MadeX w' w.heap.size 37 2 rowL v ((l.drop (pos l k)).take m) ∧ Below w.heap.size w w' := by
  obtain ⟨L, hL⟩ : ∃ L, L = l.drop (pos l k) := ⟨_, rfl⟩
  have hLn : L.length ≤ 1000000 := by rw [hL, List.length_drop]; omega
  rw [← hL]
  refine (callsIn_wide (n := 9)).1 ?_
  refine callsIn_of_wp_marks Tryd.func42 rfl trivial ?_ rfl
  simp only [Tryd.ntmps42, List.size_toArray, List.length_cons, List.length_nil, Nat.reduceAdd, Nat.reduceSub, Array.replicate_succ, Array.replicate_zero, List.push_toArray, List.append_toArray, List.nil_append, List.cons_append]
  have hfw : ∀ f, Fence.wide.fn f := fun _ => trivial
  have L0 := World.block_lt_of_cell? _ _ h0
  have L1 := World.block_lt_of_cell? _ _ h1
  have L2 := World.block_lt_of_cell? _ _ h3
  gi_wp2_with fail
  obtain ⟨r, hr⟩ : ∃ r, w.heap.size = r := ⟨_, rfl⟩
  obtain ⟨W, hW⟩ : ∃ W, W = (w.alloc (.cells #[.func (.func 44) #[] #[.pointer (some ⟨b2, 0, none⟩)]] 73)).alloc (.cells #[.slice none 0 0] 22) := ⟨_, rfl⟩
  rw [← hW]
  have hz : W.heap.size = r + 2 := by rw [hW, ← hr]; simp
  have hbW : Below r w W := by rw [hW, ← hr]; exact below_two _ _ _
  have c0 : W.cell? ⟨r, 0, none⟩ = some (.func (.func 44) #[] #[.pointer (some ⟨b2, 0, none⟩)]) := by rw [hW, ← hr]; simp [go_sem]
  have c1 : W.cell? ⟨r + 1, 0, none⟩ = some (.slice none 0 0) := by rw [hW, ← hr]; simp [go_sem]
  have z1 : W.frozen? ⟨r + 1, 0, none⟩ = false := by rw [hW, ← hr]; simp [go_sem]
  rw [hr] at L0 L1 L2 hA ⊢
  have g0 : W.cell? ⟨b0, 0, none⟩ = some (.slice A l.length d) := (hbW.cell L0).trans h0
  have g1 : W.cell? ⟨b1, 0, none⟩ = some (.int .u32 k) := (hbW.cell L1).trans h1
  have g2 : IsR W A l := h2.below (by rw [hr]; exact hbW)
  have H3 := Lib.hid h3
  have HR := Lib.hid hr
  have hrw : r ≤ w.heap.size := by omega
  have hit := rows_iter 8 (by omega) A l d hd hAn hl hu k hk b0 b1 (fun k => k = b0 ∨ k = b1 ∨ ∃ ad, A = some ad ∧ k = ad.block) W (.inl rfl) (.inr (.inl rfl)) (fun ad e => .inr (.inr ⟨ad, e, rfl⟩)) g0 g1 g2
  rw [← hL] at hit
  clear h0 h1 h2 h3 hW hr hL g0 g1 g2
  refine wpIn_rangeS (gf := 61) (lb := #[.pointer (some ⟨b0, 0, none⟩), .pointer (some ⟨b1, 0, none⟩)]) rfl (enters_of Tryd.func61 (by kernel_rfl) rfl)
    hit ?hcap ?hps (fun k => k = r + 1 ∨ r + 4 ≤ k) ?hC
    (fun i X => Hid (AllTo L b i) ∧ ∃ v, X.cell? ⟨r + 1, 0, none⟩ = some v ∧ X.frozen? ⟨r + 1, 0, none⟩ = false ∧ Hid (MadeX X (r + 4) 37 2 rowL v (L.take i)) ∧ Below r w X ∧ X.cell? ⟨r, 0, none⟩ = some (.func (.func 44) #[] #[.pointer (some ⟨b2, 0, none⟩)]))
    (fun c i X => c = .exit 0 ∧ Hid (Upto L b i) ∧ ∃ v, X.cell? ⟨r + 1, 0, none⟩ = some v ∧ X.frozen? ⟨r + 1, 0, none⟩ = false ∧ Hid (MadeX X (r + 4) 37 2 rowL v (L.take i)) ∧ Below r w X) ?hI ?hIx ?h0 ?round ?done ?stop
  case hcap =>
    rintro k (rfl | rfl | ⟨ad, e, rfl⟩)
    · exact ⟨by omega, rfl⟩
    · exact ⟨by omega, rfl⟩
    · exact ⟨by have := hA ad e; omega, rfl⟩
  case hps => rintro B i args X ⟨_, rfl⟩; rfl
  case hC =>
    intro k hk
    refine ⟨?_, by omega, by omega⟩
    rintro (rfl | rfl | ⟨ad, e, rfl⟩)
    · omega
    · omega
    · have := hA ad e; omega
  case hI =>
    rintro i X X' ⟨h1, v, h2, h3, h4, h5, h6⟩ ho
    refine ⟨h1, v, ho.cell h2 (by show ¬ (_ ∧ _); simp only; omega), (ho.frozen (World.block_lt_of_cell? _ _ h2) (by show ¬ (_ ∧ _); simp only; omega)).trans h3, Lib.hid (madeX_only h4.out ho (by rintro k ⟨_, hk⟩; omega)), Only.then_below (by omega) h5 ho (by omega), ho.cell h6 (by show ¬ (_ ∧ _); simp only; omega)⟩
  case hIx =>
    rintro c i X X' ⟨h0, h1, v, h2, h3, h4, h5⟩ ho
    refine ⟨h0, h1, v, ho.cell h2 (by show ¬ (_ ∧ _); simp only; omega), (ho.frozen (World.block_lt_of_cell? _ _ h2) (by show ¬ (_ ∧ _); simp only; omega)).trans h3, Lib.hid (madeX_only h4.out ho (by rintro k ⟨_, hk⟩; omega)), Only.then_below (by omega) h5 ho (by omega)⟩
  case h0 => exact ⟨Lib.hid (fun x hx => by simp at hx), _, c1, z1, Lib.hid (by rw [List.take_zero]; exact MadeX.nil _ _ _ _ _), hbW, c0⟩
  case round =>
    rintro lp i args X hi ⟨H1, v, hv, hz1, HM, hbX, hc⟩ ⟨hiL, rfl⟩ hlt
    obtain ⟨q1, e1⟩ : ∃ q, L[i].1 = q := ⟨_, rfl⟩
    obtain ⟨q2, e2⟩ : ∃ q, L[i].2 = q := ⟨_, rfl⟩
    have E := Lib.hid (Prod.ext e1 e2 : L[i] = (q1, q2))
    have hrow : rowV L[i] = .agg #[.int .u64 q1, .int .u64 q2] := by rw [E.out]; rfl
    rw [hrow]
    have hX := World.block_lt_of_cell? _ _ hv
    have HHI := Lib.hid hi
    clear c0 c1 z1 hit e1 e2 hrow
    gi_wp2
    refine ⟨(Only.refl _ X).alloc _, fun W₂ ho => ?_⟩
    have b1 : Below X.heap.size X (X.alloc (.cells #[.int .u64 q1, .int .u64 q2] 37)) := below_one _ _
    obtain ⟨X1, hX1⟩ : ∃ X1, X1 = X.alloc (.cells #[.int .u64 q1, .int .u64 q2] 37) := ⟨_, rfl⟩
    have y0 : X1.cell? ⟨X.heap.size, 0, none⟩ = some (.int .u64 q1) := by rw [hX1]; simp [go_sem]
    have y1 : X1.cell? ⟨X.heap.size, 1, none⟩ = some (.int .u64 q2) := by rw [hX1]; simp [go_sem]
    rw [← hX1] at ho b1
    clear hX1
    have HX0 := Lib.hid (show ∀ j u, X1.cell? ⟨X.heap.size, j, none⟩ = some u → W₂.cell? ⟨X.heap.size, j, none⟩ = some u from fun j u h => ho.cell h (by simp only; omega))
    have k0 := HX0.out _ _ y0
    have k1 := HX0.out _ _ y1
    have k2 : W₂.cell? ⟨r + 1, 0, none⟩ = some v := ho.cell ((b1.cell hX).trans hv) (by simp only; omega)
    have k3 : W₂.frozen? ⟨r + 1, 0, none⟩ = false := (ho.frozen (Nat.lt_of_lt_of_le hX b1.size) (by simp only; omega)).trans ((b1.frozen hX).trans hz1)
    have HM2 := Lib.hid (madeX_only (MadeX.below HM.out b1) ho (by rintro k rfl; omega))
    have hb2 : Below r w W₂ := Only.then_below (by omega) (hbX.trans (b1.mono (by omega))) ho (by omega)
    have k4 : W₂.cell? ⟨r, 0, none⟩ = some (.func (.func 44) #[] #[.pointer (some ⟨b2, 0, none⟩)]) := ho.cell ((b1.cell (World.block_lt_of_cell? _ _ hc)).trans hc) (by simp only; omega)
    have k5 : W₂.cell? ⟨b2, 0, none⟩ = some (.int .u64 b) := (hb2.cell L2).trans H3.out
    have hsk := upto_any (q1, q2) b b2 W₂ k5
    clear y0 y1 hv hz1 HM hbX hc HX0 ho b1 hX k5
    gi_wp2_with fail
    refine (CallsIn.inRound lp (callsIn_wide.2 hsk)).mono ?_
    rintro e W3 ⟨rfl, hb3⟩
    have HB3 := Lib.hid hb3
    obtain ⟨hc3, hf3⟩ := bcell hb3
    have hs3 := hb3.size
    have hXl : X.heap.size < W₂.heap.size := World.block_lt_of_cell? _ _ k0
    have hrl : r + 1 < W₂.heap.size := World.block_lt_of_cell? _ _ k2
    replace k0 := (hc3 _ _ hXl).trans k0
    replace k1 := (hc3 _ _ hXl).trans k1
    replace k2 := (hc3 _ _ hrl).trans k2
    replace k3 := (hf3 _ _ hrl).trans k3
    replace k4 := (hc3 _ _ (by omega)).trans k4
    have HM3 := Lib.hid (MadeX.below HM2.out hb3)
    have hbb3 : Below r w W3 := hb2.trans (hb3.mono (by omega))
    clear hc3 hf3 hb3 HM2
    by_cases hq : q1 ≤ b
    · rw [decide_eq_true hq]
      obtain ⟨i0, hi0, hz0, hz1, hz2⟩ := info_parts row_info
      have hlt3 := fun k hk => MadeX.lt HM3.out k hk
      have HLT := Lib.hid hlt3
      have hti : (L.take i).length ≤ 1000000 := by rw [List.length_take]; omega
      have hn3 : r + 1 < W3.heap.size := by omega
      clear hlt3
      gi_wp2_with (gi_at_builtin
                   refine wpListIn_append_own _ rfl _ _ 22 rfl (r + 4) 37 i0 (.agg #[.int .u64 0, .int .u64 0]) 2 16 Tryd.underlying22 hi0 hz0 hz1 hz2 rfl (by decide) _ (L.take i).length _ rfl (MadeX.alloc HM3.out _) ⟨W3.heap.size, 0, none⟩ 1 1 (rowL (q1, q2)) rfl rfl ?_ (row_one _) (by unfold maxLen; omega) (by omega) (by simp; omega) ?_
                   · exact fun j u h => by
                       have := rowBoxed W3 q1 q2 j u h
                       rw [addrAdd]; exact this
                   intro v' W4 hm4 hg4 _
                   have HG4 := Lib.hid hg4
                   have hm5 : MadeX W4 (r + 4) 37 2 rowL v' (L.take (i + 1)) := by
                     rw [List.take_succ_eq_append_getElem hiL, E.out]
                     unfold MadeX
                     rw [flatL_snoc, List.length_append]
                     exact hm4
                   have HM4 := Lib.hid hm5
                   obtain ⟨A4, c4, e4, _⟩ := MadeX.form rowL_len hm5
                   rw [show (L.take (i + 1)).length = i + 1 by rw [List.length_take]; omega] at e4
                   subst e4
                   have hn4 : r + 1 < W4.heap.size := by have := hg4.size; simp at this; omega
                   have k2' : W4.cell? ⟨r + 1, 0, none⟩ = some v := (World.cell?_of_block (hg4.block (r + 1) (by simp; omega) (fun e => by have := (HLT.out _ e.symm).1; omega))).trans ((World.cell?_alloc_lt _ _ _ (by simp; omega)).trans k2)
                   have k3' : W4.frozen? ⟨r + 1, 0, none⟩ = false := (World.frozen?_of_block (hg4.block (r + 1) (by simp; omega) (fun e => by have := (HLT.out _ e.symm).1; omega))).trans (((below_one W3 _).frozen hn3).trans k3)
                   have k4' : W4.cell? ⟨r, 0, none⟩ = some (.func (.func 44) #[] #[.pointer (some ⟨b2, 0, none⟩)]) := (World.cell?_of_block (hg4.block r (by simp; omega) (fun e => by have := (HLT.out _ e.symm).1; omega))).trans ((World.cell?_alloc_lt _ _ _ (by simp; omega)).trans k4)
                   clear hg4 hm4 hm5 k2 k3 k4)
      refine ⟨?_, Lib.hid fun x hx => ?_, .slice A4 (i + 1) c4, ?_, ?_, Lib.hid ?_, ?_, ?_⟩
      · have h1 : Only (fun k => k = r + 1 ∨ r + 4 ≤ k) W₂ W4 := ((Only.of_below _ HB3.out).alloc _).trans ⟨HG4.out.os, HG4.out.tape, HG4.out.output, HG4.out.size, fun k hk hc => HG4.out.block k hk (fun e => hc (.inr (HLT.out k e.symm).1))⟩
        exact h1.setCell (p := ⟨r + 1, 0, none⟩) (.inl (.inl rfl)) _
      · rw [List.take_succ_eq_append_getElem hiL, E.out] at hx
        rcases List.mem_append.1 hx with hx | hx
        · exact H1.out x hx
        · rw [List.mem_singleton.1 hx]; exact hq
      · exact World.cell?_setCell_same' _ _ _ (by rw [k2']; rfl)
      · simp [go_sem, k3']
      · exact madeX_only HM4.out ((Only.refl (fun k => k = r + 1) W4).setCell (p := ⟨r + 1, 0, none⟩) (.inl rfl) _) (by rintro k rfl; omega)
      · exact Below.setCell ((hbb3.alloc (by omega) _).grown HG4.out (by simp; omega) (fun k hk => by have := (HLT.out k hk).1; omega)) (by simp) _
      · rw [World.cell?_of_block (w := W4) (Below.heap_setCell _ ⟨r + 1, 0, none⟩ _ r (by simp))]; exact k4'
    · rw [decide_eq_false hq]
      gi_wp2
      refine ⟨Only.of_below _ HB3.out, rfl, Lib.hid ⟨by omega, H1.out, fun _ => by rw [E.out]; exact hq⟩, v, k2, k3, HM3, hbb3⟩
  case done =>
    rintro X ⟨H1, v, hv, hz1, HM, hbX, hc⟩ hK
    have HK := Lib.hid hK
    clear hK c0 c1 z1
    gi_wp2
    refine marks_ret (v := v) HK.out ?_ ⟨v, L.length, rfl, ⟨Nat.le_refl _, H1.out, fun h => absurd h (Nat.lt_irrefl _)⟩, ?_, ?_⟩
    · simp [results, Tryd.results42, go_sem]
    · rw [HR.out]; exact MadeX.down' (madeX_only HM.out (Only.putObj (C := fun k => k = W.heap.size) _ rfl _) (by rintro k rfl; omega)) (by omega)
    · rw [HR.out]; exact below_putObj hbX (by omega) _
  case stop =>
    rintro c i X hi ⟨rfl, H1, v, hv, hz1, HM, hbX⟩ hK
    have HK := Lib.hid hK
    clear hK c0 c1 z1
    gi_wp2
    refine marks_ret (v := v) HK.out ?_ ⟨v, i, rfl, H1.out, ?_, ?_⟩
    · simp [results, Tryd.results42, go_sem]
    · rw [HR.out]; exact MadeX.down' (madeX_only HM.out (Only.putObj (C := fun k => k = W.heap.size) _ rfl _) (by rintro k rfl; omega)) (by omega)
    · rw [HR.out]; exact below_putObj hbX (by omega) _

theorem drop_from {l : List R} (hu : Up l) (k : Nat) : ∀ x ∈ l.drop (pos l k), k ≤ x.1 := fun x hx => by
  have h2 := congrArg (List.drop (lo l k).length) (split_at k hu)
  rw [List.append_assoc, List.drop_left] at h2
  unfold pos at hx
  rw [h2] at hx
  rcases List.mem_append.1 hx with hx | hx
  · cases hg : Tb.get l k with
    | none => rw [hg] at hx; simp at hx
    | some v => rw [hg] at hx; rw [List.mem_singleton.1 hx]; exact Nat.le_refl _
  · unfold hi at hx
    have := (List.mem_filter.1 hx).2
    simp at this; omega
theorem take_to {l : List R} (hu : Up l) (k : Nat) : ∀ x ∈ l.take (pos l k), x.1 < k := fun x hx => by
  have h2 := congrArg (List.take (lo l k).length) (split_at k hu)
  rw [List.append_assoc, List.take_left] at h2
  unfold pos at hx
  rw [h2] at hx
  unfold lo at hx
  simpa using (List.mem_filter.1 hx).2
theorem scan_at {l : List R} (hu : Up l) {a b m : Nat} (h : Upto (l.drop (pos l a)) b m) : scan l a b = (l.drop (pos l a)).take m := by
  obtain ⟨_, h2, h3⟩ := h
  have e : l = l.take (pos l a) ++ ((l.drop (pos l a)).take m ++ (l.drop (pos l a)).drop m) := by rw [List.take_append_drop, List.take_append_drop]
  unfold scan
  conv => lhs; rw [e]
  have huL : Up (l.drop (pos l a)) := List.Pairwise.sublist (List.drop_sublist _ _) hu
  have hd := drop_from hu a
  rw [List.filter_append, List.filter_append, List.filter_eq_nil_iff.2, List.filter_eq_self.2, List.filter_eq_nil_iff.2, List.nil_append, List.append_nil]
  · intro x hx
    obtain ⟨j, hj, rfl⟩ := List.getElem_of_mem hx
    rw [List.length_drop] at hj
    rw [List.getElem_drop]
    have h4 := h3 (by omega)
    by_cases e0 : j = 0
    · subst e0; simp only [Nat.add_zero]; simp only [Bool.and_eq_true, decide_eq_true_eq]; omega
    · have := up_lt huL (i := m) (j := m + j) (by omega) (by omega)
      simp only [Bool.and_eq_true, decide_eq_true_eq]; omega
  · intro x hx
    have h4 := h2 x hx
    have h5 := hd x (List.mem_of_mem_take hx)
    simp only [Bool.and_eq_true, decide_eq_true_eq]; omega
  · intro x hx
    have h4 := take_to hu a x hx
    simp only [Bool.and_eq_true, decide_eq_true_eq]; omega

set_option maxHeartbeats 4000000 in
set_option maxRecDepth 100000 in
theorem oscan_any (A : Option Addr) (l : List R) (d : Nat) (hd : l.length ≤ d ∧ d ≤ 9223372036854775807) (hAn : A = none → l.length = 0 ∧ d = 0) (o : O) (ho : Wf o) (hl : l.length ≤ 1000000) (hu : Up l) (w : World) (h : IsR w A l) (hAd : ∀ ad, A = some ad → ad.block < w.heap.size) :
    Calls Tryd.prog 29 #[.slice A l.length d, opv o] w (ResR (0, 0, scan l o.a o.b) w) := by
  obtain ⟨s, hs⟩ : ∃ s, scan l o.a o.b = s := ⟨_, rfl⟩
  rw [hs]
  have HS := Lib.hid hs
  have HU := Lib.hid hu
  have HAA := Lib.hid h
  have hwb : IntKind.u64.wrap (o.b : Int) = (o.b : Int) := by have := ho.2.2.1; rw [IntKind.wrap_u64]; omega
  have HF := Lib.hid (fun W => rowsFrom_any A l.length d o.a W)
  have HG := Lib.hid (fun b0 b1 b2 W h0 h1 h2 h3 hA => gather_any A l d hd hAn hl hu o.a o.b ho.2.1 b0 b1 b2 W h0 h1 h2 h3 hA)
  obtain ⟨N, hN⟩ : ∃ N, l.length = N := ⟨_, rfl⟩
  rw [hN] at HF HG ⊢
  clear hs hu h hd hl hN
  unfold opv
  obtain ⟨W, hW⟩ : ∃ W, W = ((w.alloc (.cells #[.int .u8 (o.k : Nat), .int .u32 (o.a : Nat), .int .u32 (o.b : Nat), .int .u32 (o.c : Nat)] 34)).alloc (.cells #[.int .i64 0, .int .u32 0, .slice none 0 0] 27)).alloc (.cells #[.int .u64 (o.b : Nat)] 30) := ⟨_, rfl⟩
  have hbW : Below w.heap.size w W := by rw [hW]; exact below_three _ _ _ _
  have hww : W.heap.size = w.heap.size + 3 := by rw [hW]; simp
  have k1 : W.cell? ⟨w.heap.size, 1, none⟩ = some (.int .u32 (o.a : Nat)) := by rw [hW]; simp [go_sem]
  have k2 : W.cell? ⟨w.heap.size + 2, 0, none⟩ = some (.int .u64 (o.b : Nat)) := by rw [hW]; simp [go_sem]
  have HRES : W.heap[w.heap.size + 1]? = some (.cells #[.int .i64 0, .int .u32 0, .slice none 0 0] 27 (0, 0)) := by
    rw [hW]
    refine (Below.heap_alloc _ _ _ (by simp)).trans ?_
    exact heap_alloc_new (w.alloc (.cells #[.int .u8 (o.k : Nat), .int .u32 (o.a : Nat), .int .u32 (o.b : Nat), .int .u32 (o.c : Nat)] 34)) _ |> fun h => by simpa using h
  have HW := Lib.hid hW
  have HAx := Lib.hid (HAA.out.below hbW)
  clear hW
  go_enter Tryd.func29, Tryd.ntmps29
  go_wp2_with fail
  rw [← HW.out]
  refine (HF.out W).mono ?_
  rintro e w2 ⟨rfl, hw2⟩
  have hb2 : Below W.heap.size W w2 := by rw [hw2]; exact below_two _ _ _
  have hs2 : w2.heap.size = W.heap.size + 2 := by rw [hw2]; simp
  have g0 : w2.cell? ⟨W.heap.size, 0, none⟩ = some (.slice A N d) := by rw [hw2]; simp [go_sem]
  have g1 : w2.cell? ⟨W.heap.size + 1, 0, none⟩ = some (.int .u32 (o.a : Nat)) := by rw [hw2]; simp [go_sem]
  have g3 : w2.cell? ⟨w.heap.size + 1 + 1, 0, none⟩ = some (.int .u64 (o.b : Nat)) := (hb2.cell (World.block_lt_of_cell? _ _ k2)).trans k2
  have HG2 := Lib.hid (HG.out W.heap.size (W.heap.size + 1) (w.heap.size + 1 + 1) w2 g0 g1 (HAx.out.below hb2) g3 (fun ad e => by have := hAd ad e; omega))
  have HR2 := Lib.hid ((hb2.block _ (by omega)).trans HRES)
  clear hw2 g0 g1 g3 k1 k2 hAd HG HF
  have HWW := Lib.hid (And.intro hww hs2)
  clear hww hs2
  go_wp2_with fail
  refine HG2.out.mono ?_
  rintro e w3 ⟨v, m, rfl, hup, hm, hb3⟩
  obtain ⟨hww, hs2⟩ := HWW.out
  have HR3 := Lib.hid ((hb3.block (w.heap.size + 1) (by omega)).trans HR2.out)
  obtain ⟨r0, f0, r1, f1, r2, f2⟩ := res_cells HR3.out
  have es := scan_at HU.out hup
  rw [HS.out] at es
  rw [← es] at hm
  have HMM := Lib.hid (fun x y z => MadeX.down' (made_stored3 hm (g := w.heap.size + 1) (fun e => by have := (MadeX.lt hm _ e).1; omega) x y z) (show w.heap.size ≤ w2.heap.size by omega))
  obtain ⟨A3, c3, rfl, _⟩ := MadeX.form rowL_len hm
  have hb4 := hbW.trans ((hb2.trans (hb3.mono (by omega))).mono (show w.heap.size ≤ W.heap.size by omega))
  obtain ⟨M, hM⟩ : ∃ M, s.length = M := ⟨_, rfl⟩
  rw [hM] at HMM ⊢
  clear hup hm es hM hb2 hb3 hww hs2
  go_wp2
  refine bodyPost_ret (v := .agg #[.int .i64 0, .int .u32 0, .slice A3 M c3]) ?_ rfl ⟨_, rfl, HMM.out _ _ _, below_set3 hb4 (g := w.heap.size + 1) (by omega) _ _ _⟩
  simp [results, Tryd.results29, go_sem, r0, r1, r2]
end Go.Proofs.YtohllaolbebogaaDoor
