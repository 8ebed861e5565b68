/- The program's nodes of prefixes, its answers, and whether rows may be a table's. The program's insert. The program's remove. The program's look-up. The program's Do: what is refused; an insertion, a removal, a look-up. The program's Do, of an operation that does not fit. The program's Do: a removal, a look-up. The program's Do, of whatever config, rows and operation. What the operations on tables leave: rows that may be a table's; what is put in and taken out; what a look-up tells. -/
import Derived.Test.YtjhgccfnihbokaaDoorGRow
import Derived.Test.YtjhgccfnihbokaaDoorGTb
import Derived.Test.YtjhgccfnihbokaaDoorGOp
import Derived.Test.YtjhgccfnihbokaaDoorGMath
import Derived.Deep.DeepCutAuto
import Derived.Deep.RegionHeld3
namespace Go.Proofs.YtjhgccfnihbokaaDoor
open Go.RowKit Tb Pt

set_option maxHeartbeats 400000 in
theorem nodeOf_any (b a : Nat) (hb : b ≤ 6) (ha : a < 2 ^ b) (w : World) : Calls Tryd.prog 58 #[.int .u32 b, .int .u32 a] w (Ret (.int .u64 (2 ^ b + a : Nat)) w) := by
  have h64 : 2 ^ b ≤ 64 := Rk.pow_le b hb
  have hn := fun W => node_any (b : Int) (a : Int) W
  rw [Rk.okP_t (by omega) (by omega) (by omega) (by rw [Int.toNat_natCast]; omega)] at hn
  have e : Rk.val true (Rk.node (b : Int) (a : Int)) = ((2 ^ b + a : Nat) : Int) := by simp [Rk.val, Rk.node]
  rw [e] at hn
  have HN := Lib.hid hn
  have hz : IntKind.u64.wrap ((2 ^ b + a : Nat) : Int) = ((2 ^ b + a : Nat) : Int) := by rw [IntKind.wrap_u64]; omega
  clear hn e
  generalize 2 ^ b + a = z at *
  go_enter Tryd.func58, Tryd.ntmps58
  go_wp2_with (go_at_call 83; refine (HN.out _).mono ?_; rintro e w1 ⟨rfl, hb1⟩)
  go_ret
  exact Ret.mk (u64_eq (by first | exact hz | omega)) hb1

set_option maxHeartbeats 400000 in
theorem tell_any (k v : Nat) (hv : v ≤ 2147483647) (w : World) : Calls Tryd.prog 60 #[.agg #[.int .u64 k, .int .u64 v]] w (Ret (resv 0 ((v + 1) % 4294967296 : Nat) none 0 0) w) := by
  have e : IntKind.u32.wrap ((v : Int) + 1) = (((v + 1) % 4294967296 : Nat) : Int) := by rw [IntKind.wrap_u32]; omega
  have e2 : IntKind.u32.wrap (v : Int) = (v : Int) := by rw [IntKind.wrap_u32]; omega
  generalize (v + 1) % 4294967296 = z at *
  unfold resv
  go_enter Tryd.func60, Tryd.ntmps60
  go_wp2
  refine bodyPost_ret (v := .agg #[.int .i64 0, .int .u32 z, .slice none 0 0]) ?_ rfl ⟨rfl, ?_⟩
  · simp [results, Tryd.results60, go_sem]
  · exact below_two _ _ _

set_option maxHeartbeats 1000000 in
theorem isOf_any (c : Cf) (w : World) : Calls Tryd.prog 35 #[cfv c] w (Ret (.bool (decide (Ok c ∧ c.obj = 1))) w) := by
  have HC := Lib.hid (check_any c)
  have e : decide (Ok c ∧ c.obj = 1) = (okB c && decide (c.obj = 1)) := by unfold okB; rw [Bool.eq_iff_iff]; simp
  rw [e]
  clear e
  generalize okB c = k at *
  unfold cfv at *
  go_enter Tryd.func35, Tryd.ntmps35
  go_wp2_with (go_at_call 55; refine (HC.out _).mono ?_; rintro e w1 ⟨rfl, hb1⟩; obtain ⟨hc1, hf1⟩ := bcell hb1)
  all_goals go_ret
  all_goals refine Ret.mk (bool_eq ?_) (below_b1 hb1)
  · rename_i h
    cases k with
    | true => rw [Bool.eq_iff_iff]; simp
    | false => exact absurd h (by decide)
  · rename_i h
    cases k with
    | true => exact absurd rfl h
    | false => rfl

/-- How far rows are good: the first j, and the last one's key. -/
def Good (l : List R) (z j a : Nat) : Prop := Up (l.take j) ∧ (∀ x ∈ l.take j, RowOk z x ∧ x.1 ≤ a) ∧ (a = 0 ∨ ∃ x ∈ l.take j, x.1 = a)
theorem good_zero (l : List R) (z : Nat) : Good l z 0 0 := ⟨List.Pairwise.nil, fun x hx => by simp at hx, .inl rfl⟩
theorem take_snoc {l : List R} {j : Nat} (hj : j < l.length) : l.take (j + 1) = l.take j ++ [l[j]] := by rw [List.take_succ_eq_append_getElem hj]
theorem good_step {l : List R} {z j a : Nat} (h : Good l z j a) (hj : j < l.length) (h1 : a < l[j].1) (h2 : l[j].1 < z) (h3 : l[j].2 ≤ 2147483647) : Good l z (j + 1) l[j].1 := by
  obtain ⟨g1, g2, g3⟩ := h
  unfold Good
  rw [take_snoc hj]
  refine ⟨?_, fun x hx => ?_, .inr ⟨l[j], List.mem_append_right _ (List.mem_singleton.2 rfl), rfl⟩⟩
  · unfold Up
    rw [List.pairwise_append]
    exact ⟨g1, List.pairwise_singleton _ _, fun x hx y hy => by rw [List.mem_singleton.1 hy]; exact Nat.lt_of_le_of_lt (g2 x hx).2 h1⟩
  · rcases List.mem_append.1 hx with hx | hx
    · exact ⟨(g2 x hx).1, by have := (g2 x hx).2; omega⟩
    · rw [List.mem_singleton.1 hx]; exact ⟨⟨by omega, h2, h3⟩, Nat.le_refl _⟩
theorem good_not {l : List R} {z j a : Nat} (h : Good l z j a) (hj : j < l.length) (h1 : ¬ (a < l[j].1 ∧ l[j].1 < z ∧ l[j].2 ≤ 2147483647)) : ¬ (Up l ∧ ∀ x ∈ l, RowOk z x) := fun ⟨hu, hr⟩ => by
  obtain ⟨g1, g2, g3⟩ := h
  obtain ⟨r1, r2, r3⟩ := hr _ (List.getElem_mem hj)
  refine h1 ⟨?_, r2, r3⟩
  rcases g3 with rfl | ⟨x, hx, rfl⟩
  · omega
  · obtain ⟨m, hm, rfl⟩ := List.getElem_of_mem hx
    rw [List.length_take] at hm
    rw [List.getElem_take]
    exact up_lt hu (by omega) hj
theorem good_all {l : List R} {z a : Nat} (h : Good l z l.length a) : Up l ∧ ∀ x ∈ l, RowOk z x := by
  obtain ⟨g1, g2, _⟩ := h
  rw [List.take_length] at g1 g2
  exact ⟨g1, fun x hx => (g2 x hx).1⟩

set_option maxHeartbeats 4000000 in
set_option maxRecDepth 100000 in
theorem are_any (c : Cf) (n : Nat) (hn : c.bits = n) (hn6 : n ≤ 6) (A : Option Addr) (l : List R) (d : Nat) (hl : l.length ≤ 1000000) (w : World) (h : IsR w A l) :
    Calls Tryd.prog 36 #[cfv c, .slice A l.length d] w (Ret (.bool (decide ((l.length : Int) ≤ c.cap ∧ Up l ∧ ∀ x ∈ l, RowOk (2 ^ (n + 1)) x))) w) := by
  have HA := Lib.hid h
  clear h
  obtain ⟨N, hN⟩ : ∃ N, l.length = N := ⟨_, rfl⟩
  rw [hN] at hl ⊢
  have HN := Lib.hid hN
  clear hN
  unfold cfv
  rw [hn]
  by_cases hcap : (N : Int) ≤ c.cap
  · obtain ⟨u, hu⟩ : ∃ u, decide ((N : Int) ≤ c.cap ∧ Up l ∧ ∀ x ∈ l, RowOk (2 ^ (n + 1)) x) = u := ⟨_, rfl⟩
    rw [hu]
    have HU := Lib.hid hu
    clear hu
    have hz1 : 2 ^ (n + 1) ≤ 2 ^ 7 := Nat.pow_le_pow_right (by decide) (by omega)
    have hc2 : ¬ c.cap < (N : Int) := by omega
    go_enter Tryd.func36, Tryd.ntmps36
    obtain ⟨z, hz⟩ : ∃ z, 2 ^ (n + 1) = z := ⟨_, rfl⟩
    have hw2 : IntKind.u64.wrap (2 ^ (n + 1)) = (z : Int) := by
      have e : ((2 : Int) ^ (n + 1)) = (z : Int) := by rw [← hz]; exact (Int.natCast_pow 2 (n + 1)).symm
      rw [e, IntKind.wrap_u64]; omega
    rw [hz] at HU hz1
    clear hz
    have mixed : Tryd.prog.follows Departure.mixedOrders = true := by kernel_rfl
    have hw1 : IntKind.i64.wrap ((n : Int) + 1) = (n : Int) + 1 := by rw [IntKind.wrap_i64]; omega
    have hn0 : ¬ ((n : Int) + 1 < 0) := by omega
    go_wp2
    go_region
    go_wp2
    obtain ⟨W, hW⟩ : ∃ W, W = (w.alloc (.cells #[.int .u8 c.obj, .int .i64 c.inst, .int .i64 c.thr, .int .u8 c.kind, .int .i64 c.str, .int .i64 (n : Nat), .int .i64 c.cap, .int .i64 c.node, .int .i64 c.bat, .int .i64 c.chunk, .int .u64 c.lim, .int .u64 c.most] 30)).drew := ⟨_, rfl⟩
    have hb2 : Below w.heap.size w W := by rw [hW]; exact (below_one _ _).drew
    rw [← hW]
    have HA := Lib.hid (HA.out.below hb2)
    clear hW
    go_loopw [5, 20] (fun av iv wr => Below W.heap.size W wr ∧ ∃ a j : Nat, j ≤ N ∧ av = .int .u64 a ∧ iv = .int .i64 j ∧ Hid (Good l z j a)) (fun _ i _ => N - (intOf i).toNat)
    case atStart => exact ⟨Below.refl _ _, 0, 0, Nat.zero_le _, rfl, rfl, Lib.hid (good_zero l z)⟩
    case round =>
      obtain ⟨hbr, a, j, hj, rfl, rfl, HG⟩ := hrel
      have i1 : (0 : Int) ≤ (j : Int) := by omega
      by_cases hlt : j < N
      · have j1 : j < l.length := by rw [HN.out]; exact hlt
        have i2 : (j : Int) < (N : Int) := by omega
        obtain ⟨bk, off, rfl, h1, h2⟩ := HA.out.row j1
        replace h1 := (hbr.cell (World.block_lt_of_cell? _ _ h1)).trans h1
        replace h2 := (hbr.cell (World.block_lt_of_cell? _ _ h2)).trans h2
        have hs := good_step HG.out j1
        have hf := good_not HG.out j1
        obtain ⟨x, hx⟩ : ∃ x, (l[j]'j1).1 = x := ⟨_, rfl⟩
        obtain ⟨y, hy⟩ : ∃ y, (l[j]'j1).2 = y := ⟨_, rfl⟩
        rw [hx] at h1 hs hf
        rw [hy] at h2 hs hf
        have HS := Lib.hid hs
        have HF := Lib.hid hf
        clear hs hf hx hy
        by_cases hg : a < x ∧ x < z ∧ y ≤ 2147483647
        · obtain ⟨g1, g2, g3⟩ := hg
          have k1 : ¬ (x : Int) ≤ (a : Int) := by omega
          have k2 : ¬ (z : Int) ≤ (x : Int) := by omega
          have k3 : ¬ (2147483647 : Int) < (y : Int) := by omega
          go_wp2
          go_roundw
          case rel => exact ⟨below_then hbr (below_one _ _), x, j + 1, by omega, rfl, by go_num, Lib.hid (HS.out g1 g2 g3)⟩
          case measure => simp [intOf]; omega
        · have e : u = false := by rw [← HU.out]; exact decide_eq_false fun g => HF.out hg g.2
          subst e
          go_wp2
          all_goals trace_state
          all_goals go_ret
          all_goals exact Ret.mk rfl (hb2.trans ((hbr.trans ((below_one _ _).mono hbr.size)).mono hb2.size))
      · obtain rfl : j = N := by omega
        have e : u = true := by
          rw [← HU.out]
          have := good_all (by rw [HN.out]; exact HG.out)
          exact decide_eq_true ⟨hcap, this⟩
        subst e
        go_wp2
        go_ret
        exact Ret.mk rfl (hb2.trans (hbr.mono hb2.size))
  · rw [decide_eq_false (fun g => hcap g.1)]
    have hc2 : c.cap < (N : Int) := by omega
    go_enter Tryd.func36, Tryd.ntmps36
    go_wp2
    go_ret
    exact Ret.mk rfl (below_one _ _)
end Go.Proofs.YtjhgccfnihbokaaDoor

namespace Go.Proofs.YtjhgccfnihbokaaDoor
open Go.RowKit Tb Pt Opn

set_option maxHeartbeats 1000000 in
theorem tabIs_any (c : Cf) (A : Option Addr) (l : List R) (d : Nat) (hl : l.length ≤ 1000000) (w : World) (h : IsR w A l) :
    Calls Tryd.prog 17 #[cfv c, .slice A l.length d] w (Ret (.bool (isB c l)) w) := by
  have HI := Lib.hid (isOf_any c)
  have HA := Lib.hid h
  by_cases hg : Ok c ∧ c.obj = 1
  · obtain ⟨n, hn, hn6⟩ : ∃ n : Nat, c.bits = n ∧ n ≤ 6 := by
      have hb := hg.1.1
      have ho := hg.2
      unfold ObjOk at hb
      exact ⟨c.bits.toNat, by omega, by omega⟩
    have hz : sz c = 2 ^ (n + 1) := by unfold sz; rw [if_pos hg.2, hn, Int.toNat_natCast]
    have HR := Lib.hid (fun W hA => are_any c n hn hn6 A l d hl W hA)
    have e : isB c l = decide ((l.length : Int) ≤ c.cap ∧ Up l ∧ ∀ x ∈ l, RowOk (2 ^ (n + 1)) x) := by
      unfold isB; rw [Bool.eq_iff_iff, decide_eq_true_iff, decide_eq_true_iff]; unfold IsTab; rw [hz]
      exact ⟨fun g => g.2.2, fun g => ⟨hg.1, hg.2, g⟩⟩
    rw [← e] at HR
    rw [decide_eq_true hg] at HI
    clear e hz hn hg h
    generalize isB c l = u at *
    generalize l.length = N at *
    unfold cfv at *
    go_enter Tryd.func17, Tryd.ntmps17
    go_wp2_with (first
      | (go_at_call 35; refine (HI.out _).mono ?_; rintro e w1 ⟨rfl, hb1⟩; obtain ⟨hc1, hf1⟩ := bcell hb1)
      | (go_at_call 36; refine (HR.out _ (HA.out.below (below_b1 hb1))).mono ?_; rintro e w2 ⟨rfl, hb2⟩))
    go_ret
    exact Ret.mk rfl (below_then (below_b1 hb1) hb2)
  · have e : isB c l = false := isB_false fun k => hg ⟨k.1, k.2.1⟩
    rw [e]
    rw [decide_eq_false hg] at HI
    clear e hg
    generalize l.length = N at *
    unfold cfv at *
    go_enter Tryd.func17, Tryd.ntmps17
    go_wp2_with (go_at_call 35; refine (HI.out _).mono ?_; rintro e w1 ⟨rfl, hb1⟩)
    go_ret
    exact Ret.mk rfl (below_b1 hb1)

/-- It returns v, and nothing else. -/
def Still (v : Value) (w : World) (e : Ending) (w' : World) : Prop := e = .returned v ∧ w' = w
/-- rank.Node makes nothing. -/
theorem node_still (l p : Nat) (h6 : l ≤ 6) (hp : p < 2 ^ l) (w : World) : Calls Tryd.prog 83 #[.int .i64 l, .int .i64 p] w (Still (.tuple #[.int .i64 (2 ^ l + p : Nat), .int .i64 0]) w) := by
  have h64 : 2 ^ l ≤ 64 := Rk.pow_le l h6
  have e1 : ((2 : Int) ^ l) = ((2 ^ l : Nat) : Int) := (Int.natCast_pow 2 l).symm
  have hw0 : IntKind.i64.wrap (2 ^ l) = ((2 ^ l : Nat) : Int) := by rw [e1, IntKind.wrap_i64]; omega
  have hw : IntKind.i64.wrap (((2 ^ l : Nat) : Int) + (p : Int)) = ((2 ^ l + p : Nat) : Int) := by rw [IntKind.wrap_i64]; omega
  have h1 : ¬ (l : Int) < 0 := by omega
  have h2 : ¬ (6 : Int) < (l : Int) := by omega
  have h3 : ¬ (p : Int) < 0 := by omega
  have h4 : ¬ ((2 ^ l : Nat) : Int) ≤ (p : Int) := by omega
  generalize 2 ^ l + p = z at *
  generalize (2 ^ l : Nat) = y at *
  go_enter Tryd.func83, Tryd.ntmps83
  go_wp2
  go_ret2
  exact ⟨rfl, rfl⟩
theorem nodeOf_still (b a : Nat) (hb : b ≤ 6) (ha : a < 2 ^ b) (w : World) : Calls Tryd.prog 58 #[.int .u32 b, .int .u32 a] w (Still (.int .u64 (2 ^ b + a : Nat)) w) := by
  have h64 : 2 ^ b ≤ 64 := Rk.pow_le b hb
  have HN := Lib.hid (fun W => node_still b a hb ha W)
  have hz2 : 2 ^ b + a < 128 := by omega
  have hz : IntKind.u64.wrap ((2 ^ b + a : Nat) : Int) = ((2 ^ b + a : Nat) : Int) := by rw [IntKind.wrap_u64]; omega
  have ha2 : a < 64 := by omega
  clear h64
  generalize 2 ^ b + a = z at *
  go_enter Tryd.func58, Tryd.ntmps58
  go_wp2_with (go_at_call 83; refine (HN.out _).mono ?_; rintro e w1 ⟨rfl, rfl⟩)
  go_ret
  exact ⟨congrArg Ending.returned (u64_eq (by first | rfl | omega)), rfl⟩
/-- What an insertion does. -/
def insR (cap : Nat) (l : List R) (k v : Nat) : List R × Int × Int := match Tb.get l k with
  | some u => (put l k v, 0, (((u + 1) % 4294967296 : Nat) : Int))
  | none => if cap ≤ l.length then (l, 9, 0) else (put l k v, 0, 0)

set_option maxHeartbeats 4000000 in
set_option maxRecDepth 100000 in
theorem ins_any (c : Cf) (cap : Nat) (hcc : c.cap = cap) (o : O) (ho : Wf o) (hob : o.b ≤ 6) (hoa : o.a < 2 ^ o.b) (w : World) (B : Nat) (hB : B ≤ w.heap.size) (v : Value) (l : List R) (hl : l.length ≤ 100000) (hlc : l.length ≤ cap) (hu : Up l) (hhop : ∀ x ∈ l, x.2 ≤ 2147483647) (hm : MadeX w B 88 2 rowL v l) :
    Calls Tryd.prog 39 #[cfv c, v, opv o] w (Own4 (insR cap l (2 ^ o.b + o.a) o.c) B w v) := by
  have HN := Lib.hid (nodeOf_still o.b o.a hob hoa)
  have h64 : 2 ^ o.b ≤ 64 := Rk.pow_le o.b hob
  obtain ⟨K, hK⟩ : ∃ K, 2 ^ o.b + o.a = K := ⟨_, rfl⟩
  have hK7 : K < 128 := by omega
  rw [hK] at HN ⊢
  obtain ⟨V, hV⟩ : ∃ V, o.c = V := ⟨_, rfl⟩
  have hV32 : V < 4294967296 := by rw [← hV]; exact ho.2.2.2
  have hVw : IntKind.u64.wrap (V : Int) = (V : Int) := by rw [IntKind.wrap_u64]; omega
  have HM := Lib.hid hm
  obtain ⟨A, d, rfl, ⟨hd1, hd2⟩, hAn, hA⟩ := hm.form rowL_len
  unfold cfv opv
  rw [hV, hcc]
  obtain ⟨s, hs⟩ : ∃ s, insR cap l K V = s := ⟨_, rfl⟩
  rw [hs]
  have HS := Lib.hid hs
  have HC := Lib.hid (And.intro hu hhop)
  have HAn := Lib.hid hAn
  have HAA := Lib.hid hA
  obtain ⟨N, hN⟩ : ∃ N, l.length = N := ⟨_, rfl⟩
  have HNL := Lib.hid hN
  have HSK := Lib.hid (fun W hA => seek_any A l d (by omega) hu K W hA)
  rw [hN] at hl hlc hd1 HM HSK ⊢
  have hov : ∀ b, (Value.slice A N d).ownBlock = some b → b < w.heap.size := fun b hb => (MadeX.lt HM.out b (by rw [hN] at *; exact hb)).2
  have HOV := Lib.hid hov
  clear hs hu hhop hAn hA hm hN hov hV hcc hK h64
  go_enter Tryd.func39, Tryd.ntmps39
  go_wp2
  obtain ⟨W, hW⟩ : ∃ W, W = ((w.alloc (.cells #[.int .u8 c.obj, .int .i64 c.inst, .int .i64 c.thr, .int .u8 c.kind, .int .i64 c.str, .int .i64 c.bits, .int .i64 (cap : Nat), .int .i64 c.node, .int .i64 c.bat, .int .i64 c.chunk, .int .u64 c.lim, .int .u64 c.most] 30)).alloc (.cells #[.int .u8 (o.k : Nat), .int .u32 (o.a : Nat), .int .u32 (o.b : Nat), .int .u32 (V : Nat)] 46)).alloc (.cells #[.int .i64 0, .int .u32 0, .slice none 0 0] 59) := ⟨_, rfl⟩
  have hb2 : Below w.heap.size w W := by rw [hW]; exact below_three _ _ _ _
  rw [← hW]
  have hcap : W.cell? ⟨w.heap.size, 6, none⟩ = some (.int .i64 (cap : Nat)) := by rw [hW]; simp [go_sem]
  have a1 : W.cell? ⟨w.heap.size + 1, 1, none⟩ = some (.int .u32 (o.a : Nat)) := by rw [hW]; simp [go_sem]
  have a2 : W.cell? ⟨w.heap.size + 1, 2, none⟩ = some (.int .u32 (o.b : Nat)) := by rw [hW]; simp [go_sem]
  have a3 : W.cell? ⟨w.heap.size + 1, 3, none⟩ = some (.int .u32 (V : Nat)) := by rw [hW]; simp [go_sem]
  have HRES : W.heap[w.heap.size + 1 + 1]? = some (.cells #[.int .i64 0, .int .u32 0, .slice none 0 0] 59 (0, 0)) := by
    rw [hW]
    exact heap_alloc_new ((w.alloc (.cells #[.int .u8 c.obj, .int .i64 c.inst, .int .i64 c.thr, .int .u8 c.kind, .int .i64 c.str, .int .i64 c.bits, .int .i64 (cap : Nat), .int .i64 c.node, .int .i64 c.bat, .int .i64 c.chunk, .int .u64 c.lim, .int .u64 c.most] 30)).alloc (.cells #[.int .u8 (o.k : Nat), .int .u32 (o.a : Nat), .int .u32 (o.b : Nat), .int .u32 (V : Nat)] 46)) _ |> fun h => by simpa using h
  have hs1 : w.heap.size + 1 < W.heap.size := by rw [hW]; simp
  have mixed : Tryd.prog.follows Departure.mixedOrders = true := by kernel_rfl
  have hww : W.heap.size = w.heap.size + 3 := by rw [hW]; simp
  obtain ⟨q, hq⟩ : ∃ q, w.heap.size = q := ⟨_, rfl⟩
  have HB2 := Lib.hid hb2
  have HQ := Lib.hid hq
  rw [hq] at a1 a2 a3 hs1 hcap hww HRES ⊢
  clear hW hb2 hq
  go_cut [8] (fun s8 wx => ∃ g : Nat, s8 = .pointer (some ⟨g, 0, none⟩) ∧ Hid (W.heap.size ≤ g ∧ Below W.heap.size W wx ∧ wx.heap[g]? = some (.cells #[.int .u64 (K : Nat), .int .u64 (V : Nat)] 88 (0, 0))))
  case first =>
    go_region_held3 (fun X => W.heap.size ≤ X.heap.size ∧ ∀ b o, b < W.heap.size → X.cell? ⟨b, o, none⟩ = W.cell? ⟨b, o, none⟩)
      (first
        | with_reducible exact keep0 W
        | with_reducible exact keep1 W _
        | with_reducible exact keep_set (keep_set (keep1 W _) _ 0 _ (Nat.le_refl _)) _ 1 _ (Nat.le_refl _)
        | fail)
      (first | ((with_reducible refine (HN.out _).mono ?_); rintro e w3 ⟨rfl, rfl⟩))
    all_goals
      go_wp2_with fail
      go_meet
      exact ⟨_, rfl, Lib.hid ⟨by omega, (below_one _ _).trans ⟨rfl, rfl, rfl, Nat.le_refl _, fun _ _ => rfl⟩, by rw [← hww]; exact heap_alloc_new W _⟩⟩
  case rest =>
    obtain ⟨g, rfl, HG⟩ := hcut
    obtain ⟨hgW, hbx, hgx⟩ := HG.out
    have g0 : wc.cell? ⟨g, 0, none⟩ = some (.int .u64 (K : Nat)) := by simp [World.cell?, hgx]
    have g1 : wc.cell? ⟨g, 1, none⟩ = some (.int .u64 (V : Nat)) := by simp [World.cell?, hgx]
    have hsz := hbx.size
    replace hcap := (hbx.cell (World.block_lt_of_cell? _ _ hcap)).trans hcap
    replace HRES := (hbx.block _ (by omega)).trans HRES
    have hbW := HB2.out.trans (hbx.mono HB2.out.size)
    have hAx := Lib.hid (HAA.out.below hbW)
    have hMx := Lib.hid (MadeX.below HM.out hbW)
    have hgl : g < wc.heap.size := (Array.getElem?_eq_some_iff.1 hgx).1
    rcases hget : Tb.get l K with _ | u
    · have HGT := Lib.hid hget
      have HSK2 := Lib.hid (fun W hA => HSK.out W hA)
      rw [hget] at HSK2
      clear hget
      have hp : pos l K = (lo l K).length := rfl
      by_cases hfull : cap ≤ N
      · have hcn : (N : Int) = (cap : Int) := by omega
        go_wp2_with (go_at_call 59; refine (HSK2.out _ hAx.out).mono ?_; rintro e w2 ⟨rfl, hb2⟩; have z0 := (hb2.cell (World.block_lt_of_cell? _ _ hcap)).trans hcap; have HR2 := Lib.hid ((hb2.block _ (by omega)).trans HRES); obtain ⟨r0, f0, r1, f1, r2, f2⟩ := res_cells HR2.out)
        have es : s = (l, 9, 0) := by rw [← HS.out]; unfold insR; rw [HGT.out, if_pos (by rw [HNL.out]; exact hfull)]
        have hb3 := hbW.trans (hb2.mono hbW.size)
        refine bodyPost_ret (v := .tuple #[.slice A N d, .agg #[.int .i64 9, .int .u32 0, .slice none 0 0]]) ?_ rfl ⟨.slice A N d, ?_, ?_, ?_⟩
        · simp [results, Tryd.results39, go_sem, r0, r1, r2]
        · rw [es]; rfl
        · rw [es]; exact made_stored3 (MadeX.below hMx.out hb2) (made_ne (MadeX.below hMx.out hb2) HR2.out (by decide)) _ _ _
        · have hq := HQ.out
          exact grown_set (grown_set (grown_set (grown_below hb3 _) (by omega) _ _) (by omega) _ _) (by omega) _ _
      · have hcn : ¬ (N : Int) = (cap : Int) := by omega
        have HEL := Lib.hid (up_miss HC.out.1 HGT.out)
        go_wp2_with (first
          | (go_at_call 59; refine (HSK2.out _ hAx.out).mono ?_; rintro e w2 ⟨rfl, hb2⟩; have z0 := (hb2.cell (World.block_lt_of_cell? _ _ hcap)).trans hcap; have HR2 := Lib.hid ((hb2.block _ (by omega)).trans HRES); obtain ⟨k0, l0, k1, l1⟩ := two_cells ((hb2.block _ hgl).trans hgx))
          | (go_at_call 61
             refine (insert_any _ B (by have := HQ.out; have := hb2.size; simp; omega) _ (lo l K) (hi l K) (K, V) (by rw [← HEL.out, HNL.out]; omega) (by rw [← HEL.out]; exact (MadeX.below hMx.out hb2).alloc _) _ (fun e => by have := HOV.out _ e; have := HQ.out; have := hb2.size; omega) (heap_alloc_new _ _)).mono ?_
             rintro e w4 ⟨u, rfl, hM4, hg4⟩
             have HR4 := Lib.hid ((hg4.block (q + 1 + 1) (by simp; have := hb2.size; omega) (fun e => by have := HOV.out _ e.symm; have := HQ.out; omega)).trans ((heap_alloc_old w2 _ (by have := hb2.size; omega)).trans HR2.out))
             obtain ⟨r0, f0, r1, f1, r2, f2⟩ := res_cells HR4.out
             have HM4 := Lib.hid hM4
             clear hM4))
        have es : s = (put l K V, 0, 0) := by rw [← HS.out]; unfold insR; rw [HGT.out, if_neg (by rw [HNL.out]; exact hfull)]
        have hb3 := (grown_trans (grown_below ((hbW.trans (hb2.mono hbW.size)).trans ((below_one w2 _).mono (Nat.le_trans hbW.size hb2.size))) _) hg4)
        refine bodyPost_ret (v := .tuple #[u, .agg #[.int .i64 0, .int .u32 0, .slice none 0 0]]) ?_ rfl ⟨u, ?_, ?_, ?_⟩
        · simp [results, Tryd.results39, go_sem, r0, r1, r2]
        · rw [es]; rfl
        · rw [es]; exact made_stored3 HM4.out (made_ne HM4.out HR4.out (by decide)) _ _ _
        · have hq := HQ.out
          exact grown_set (grown_set (grown_set hb3 (by omega) _ _) (by omega) _ _) (by omega) _ _
    · have HGT := Lib.hid hget
      have HSK2 := Lib.hid (fun W hA => HSK.out W hA)
      rw [hget] at HSK2
      clear hget
      have HIT := Lib.hid (up_there HC.out.1 HGT.out)
      obtain ⟨hpl, hlp⟩ := there_at HIT.out.1
      have hp : pos l K = (lo l K).length := rfl
      rw [hp] at HSK2
      have hhop : u ≤ 2147483647 := HC.out.2 (K, u) (by rw [← hlp]; exact List.getElem_mem hpl)
      obtain ⟨p, hpp⟩ : ∃ p, (lo l K).length = p := ⟨_, rfl⟩
      obtain ⟨bk, off, eA, x0, x1⟩ := hAx.out.row hpl
      rw [hlp] at x0 x1
      rw [hpp] at HSK2 x0 x1
      have hpN : p < N := by rw [← hpp, ← HNL.out]; exact hpl
      have HPP := Lib.hid hpp
      obtain ⟨gA, rfl, hgA, hgB⟩ : ∃ gA, A = some ⟨gA, 0, none⟩ ∧ (∀ o, wc.frozen? ⟨gA, o, none⟩ = false) ∧ gA < q := by
        rcases (show _ from hMx.out).2 with ⟨h, _⟩ | ⟨g', cap', cur', h, _, h3, _⟩
        · injection h with h; rw [eA] at h; cases h
        · injection h with h
          exact ⟨g', h, (alloc_shape h3).2, by rw [← HQ.out]; exact HOV.out g' (by rw [h]; rfl)⟩
      injection eA with eA
      injection eA with e1 e2 _
      subst e1 e2
      clear hp hpp hpl hlp
      have i1 : (0 : Int) ≤ (p : Int) := by omega
      have i2 : (p : Int) < (N : Int) := by omega
      have HTE := Lib.hid (tell_any K u hhop)
      obtain ⟨y, hy⟩ : ∃ y, (u + 1) % 4294967296 = y := ⟨_, rfl⟩
      rw [hy] at HTE
      have es : s = (put l K V, 0, (y : Int)) := by rw [← HS.out, ← hy]; unfold insR; rw [HGT.out]
      have ES := Lib.hid es
      clear es hy
      rw [Nat.zero_add] at x0 x1
      have fz0 := hgA (p * 2)
      have fz1 := hgA (p * 2 + 1)
      unfold resv at HTE
      have hgq : gA < wc.heap.size := World.block_lt_of_cell? _ _ x0
      go_wp2_with (first
        | (go_at_call 59; go_loud (refine (HSK2.out _ hAx.out).mono ?_; rintro e w2 ⟨rfl, hb2⟩; have HR2 := Lib.hid ((hb2.block _ (by omega)).trans HRES); obtain ⟨k0, l0, k1, l1⟩ := two_cells ((hb2.block _ hgl).trans hgx); obtain ⟨hc2, hf2⟩ := bcell hb2; replace x0 := (hc2 _ _ hgq).trans x0; replace x1 := (hc2 _ _ hgq).trans x1; replace fz0 := (hf2 _ _ hgq).trans fz0; replace fz1 := (hf2 _ _ hgq).trans fz1; clear hc2 hf2; have hg2 := Nat.lt_of_lt_of_le hgl hb2.size; have hgA2 := Nat.lt_of_lt_of_le hgq hb2.size; have hq2 : q + 1 + 1 < w2.heap.size := by (have := hb2.size; omega)))
        | (go_at_call 60; refine (HTE.out _).mono ?_; rintro e w3 ⟨rfl, hb3⟩; have HR3 := Lib.hid ((hb3.block (q + 1 + 1) (by simp [World.setCell]; omega)).trans ((heap_alloc_old _ _ (by simpa [World.setCell] using hq2)).trans ((Below.heap_setCell _ ⟨gA, _, none⟩ _ _ (by simp; omega)).trans ((Below.heap_setCell _ ⟨gA, _, none⟩ _ _ (by simp; omega)).trans HR2.out)))); obtain ⟨r0, f0, r1, f1, r2, f2⟩ := res_cells HR3.out))
      have hb4 := grown_below (hbW.trans (hb2.mono hbW.size)) (some gA)
      have hm2 : MadeX w2 B 88 2 rowL (.slice (some ⟨gA, 0, none⟩) N d) (lo l K ++ (K, u) :: hi l K) := by rw [← HIT.out.1]; exact MadeX.below hMx.out hb2
      have hmt := made_turned (y := (K, V)) (by rw [← HIT.out.1]; exact HNL.out) hm2
      rw [HPP.out] at hmt
      have hm3 := MadeX.below (hmt.alloc _) hb3
      refine bodyPost_ret (v := .tuple #[.slice (some ⟨gA, 0, none⟩) N d, .agg #[.int .i64 0, .int .u32 y, .slice none 0 0]]) ?_ rfl ⟨.slice (some ⟨gA, 0, none⟩) N d, ?_, ?_, ?_⟩
      · simp [results, Tryd.results39, go_sem, r0, r1, r2]
      · rw [ES.out]; rfl
      · rw [ES.out]; exact made_stored3 hm3 (made_ne hm3 HR3.out (by decide)) _ _ _
      · have hq := HQ.out
        refine grown_set (grown_set (grown_set ?_ (by omega) _ _) (by omega) _ _) (by omega) _ _
        have h5 : w2.grownBy (((w2.setCell ⟨gA, p * 2, none⟩ (.int .u64 (K : Nat))).setCell ⟨gA, p * 2 + 1, none⟩ (.int .u64 (V : Nat))).alloc (.cells #[.int .u64 (K : Nat), .int .u64 (u : Nat)] 88)) (some gA) :=
          grown_trans (w1 := ((w2.setCell ⟨gA, p * 2, none⟩ (.int .u64 (K : Nat))).setCell ⟨gA, p * 2 + 1, none⟩ (.int .u64 (V : Nat)))) ⟨rfl, rfl, rfl, by simp [World.setCell], fun i hi hne => (Below.heap_setCell _ ⟨gA, _, none⟩ _ i (fun e => hne (by rw [e]))).trans (Below.heap_setCell _ ⟨gA, _, none⟩ _ i (fun e => hne (by rw [e])))⟩ (World.grownBy_alloc _ _ _)
        exact grown_trans (grown_trans hb4 h5) (grown_below hb3 _)
end Go.Proofs.YtjhgccfnihbokaaDoor

namespace Go.Proofs.YtjhgccfnihbokaaDoor
open Go.RowKit Tb Pt Opn

/-- What a removal does. -/
def remR (l : List R) (k : Nat) : List R × Int × Int := match Tb.get l k with
  | some u => (cut l k, 0, (((u + 1) % 4294967296 : Nat) : Int))
  | none => (l, 6, 0)

set_option maxHeartbeats 4000000 in
set_option maxRecDepth 100000 in
theorem rem_any (o : O) (hob : o.b ≤ 6) (hoa : o.a < 2 ^ o.b) (w : World) (B : Nat) (_ : B ≤ w.heap.size) (v : Value) (l : List R) (hl : l.length ≤ 100000) (hu : Up l) (hhop : ∀ x ∈ l, x.2 ≤ 2147483647) (hm : MadeX w B 88 2 rowL v l) :
    Calls Tryd.prog 40 #[v, opv o] w (Own4 (remR l (2 ^ o.b + o.a)) B w v) := by
  have HN := Lib.hid (nodeOf_still o.b o.a hob hoa)
  have h64 : 2 ^ o.b ≤ 64 := Rk.pow_le o.b hob
  obtain ⟨K, hK⟩ : ∃ K, 2 ^ o.b + o.a = K := ⟨_, rfl⟩
  have hK7 : K < 128 := by omega
  rw [hK] at HN ⊢
  have HM := Lib.hid hm
  obtain ⟨A, d, rfl, ⟨hd1, hd2⟩, hAn, hA⟩ := hm.form rowL_len
  unfold opv
  obtain ⟨s, hs⟩ : ∃ s, remR l K = s := ⟨_, rfl⟩
  rw [hs]
  have HS := Lib.hid hs
  have HC := Lib.hid (And.intro hu hhop)
  have HAA := Lib.hid hA
  obtain ⟨N, hN⟩ : ∃ N, l.length = N := ⟨_, rfl⟩
  have HNL := Lib.hid hN
  have HSK := Lib.hid (fun W hA => seek_any A l d (by omega) hu K W hA)
  rw [hN] at hl hd1 HM HSK ⊢
  have hov : ∀ b, (Value.slice A N d).ownBlock = some b → b < w.heap.size := fun b hb => (MadeX.lt HM.out b (by rw [hN] at *; exact hb)).2
  have HOV := Lib.hid hov
  clear hs hu hhop hAn hA hm hN hov hK h64
  obtain ⟨W, hW⟩ : ∃ W, W = (w.alloc (.cells #[.int .u8 (o.k : Nat), .int .u32 (o.a : Nat), .int .u32 (o.b : Nat), .int .u32 (o.c : Nat)] 46)).alloc (.cells #[.int .i64 0, .int .u32 0, .slice none 0 0] 59) := ⟨_, rfl⟩
  have HRES : W.heap[w.heap.size + 1]? = some (.cells #[.int .i64 0, .int .u32 0, .slice none 0 0] 59 (0, 0)) := by
    rw [hW]
    exact heap_alloc_new (w.alloc (.cells #[.int .u8 (o.k : Nat), .int .u32 (o.a : Nat), .int .u32 (o.b : Nat), .int .u32 (o.c : Nat)] 46)) _ |> fun h => by simpa using h
  have hbW : Below w.heap.size w W := by rw [hW]; exact below_two _ _ _
  have hww : W.heap.size = w.heap.size + 2 := by rw [hW]; simp
  have hAx := Lib.hid (HAA.out.below hbW)
  have hMx := Lib.hid (MadeX.below HM.out hbW)
  have HW := Lib.hid hW
  obtain ⟨q, hq⟩ : ∃ q, w.heap.size = q := ⟨_, rfl⟩
  have HQ := Lib.hid hq
  rw [hq] at HRES hww
  clear hW hq
  rcases hget : Tb.get l K with _ | u
  · have ES := Lib.hid (show s = (l, 6, 0) by rw [← HS.out]; unfold remR; rw [hget])
    rw [hget] at HSK
    clear hget
    go_enter Tryd.func40, Tryd.ntmps40
    go_wp2_with (go_at_call 58; refine (HN.out _).mono ?_; rintro e w1 ⟨rfl, rfl⟩)
    rw [← HW.out]
    refine (HSK.out _ hAx.out).mono ?_
    rintro e w2 ⟨rfl, hb2⟩
    rw [HQ.out]
    have HR2 := Lib.hid ((hb2.block _ (by omega)).trans HRES)
    obtain ⟨r0, f0, r1, f1, r2, f2⟩ := res_cells HR2.out
    go_wp2
    have hb3 := hbW.trans (hb2.mono hbW.size)
    refine bodyPost_ret (v := .tuple #[.slice A N d, .agg #[.int .i64 6, .int .u32 0, .slice none 0 0]]) ?_ rfl ⟨.slice A N d, ?_, ?_, ?_⟩
    · simp [results, Tryd.results40, go_sem, r0, r1, r2]
    · rw [ES.out]; rfl
    · rw [ES.out]; exact made_stored3 (MadeX.below hMx.out hb2) (made_ne (MadeX.below hMx.out hb2) HR2.out (by decide)) _ _ _
    · have hq := HQ.out
      exact grown_set (grown_set (grown_set (grown_below hb3 _) (by omega) _ _) (by omega) _ _) (by omega) _ _
  · have HGT := Lib.hid hget
    rw [hget] at HSK
    clear hget
    have HIT := Lib.hid (up_there HC.out.1 HGT.out)
    obtain ⟨hpl, hlp⟩ := there_at HIT.out.1
    have hp : pos l K = (lo l K).length := rfl
    rw [hp] at HSK
    have hhop : u ≤ 2147483647 := HC.out.2 (K, u) (by rw [← hlp]; exact List.getElem_mem hpl)
    obtain ⟨p, hpp⟩ : ∃ p, (lo l K).length = p := ⟨_, rfl⟩
    obtain ⟨bk, off, eA, x0, x1⟩ := hAx.out.row hpl
    rw [hlp] at x0 x1
    rw [hpp] at HSK x0 x1
    have hpN : p < N := by rw [← hpp, ← HNL.out]; exact hpl
    have HPP := Lib.hid hpp
    obtain ⟨gA, rfl, hgB⟩ : ∃ gA, A = some ⟨gA, 0, none⟩ ∧ gA < q := by
      rcases (show _ from hMx.out).2 with ⟨h, _⟩ | ⟨g', cap', cur', h, _, h3, _⟩
      · injection h with h; rw [eA] at h; cases h
      · injection h with h
        exact ⟨g', h, by rw [← HQ.out]; exact HOV.out g' (by rw [h]; rfl)⟩
    injection eA with eA
    injection eA with e1 e2 _
    subst e1 e2
    clear hp hpp hpl hlp
    have i1 : (0 : Int) ≤ (p : Int) := by omega
    have i2 : (p : Int) < (N : Int) := by omega
    have HTE := Lib.hid (tell_any K u hhop)
    unfold resv at HTE
    obtain ⟨y, hy⟩ : ∃ y, (u + 1) % 4294967296 = y := ⟨_, rfl⟩
    rw [hy] at HTE
    have es : s = (cut l K, 0, (y : Int)) := by rw [← HS.out, ← hy]; unfold remR; rw [HGT.out]
    have ES := Lib.hid es
    clear es hy
    rw [Nat.zero_add] at x0 x1
    have hgq : gA < W.heap.size := by omega
    go_enter Tryd.func40, Tryd.ntmps40
    go_wp2_with (go_at_call 58; refine (HN.out _).mono ?_; rintro e w1 ⟨rfl, rfl⟩)
    rw [← HW.out]
    refine (HSK.out _ hAx.out).mono ?_
    rintro e w2 ⟨rfl, hb2⟩
    rw [HQ.out]
    replace x0 := (hb2.cell hgq).trans x0
    replace x1 := ((bcell hb2).1 _ _ hgq).trans x1
    have hb3 := Lib.hid (hbW.trans (hb2.mono hbW.size))
    have HR2 := Lib.hid ((hb2.block _ (by omega)).trans HRES)
    have hM2 := Lib.hid (MadeX.below hMx.out hb2)
    have hs2 := hb2.size
    go_wp2
    have HD := Lib.hid (show ∀ X, MadeX X B 88 2 rowL (.slice (some ⟨gA, 0, none⟩) N d) l → Calls Tryd.prog 62 #[.slice (some ⟨gA, 0, none⟩) N d, .int .i64 p, .int .i64 ((p : Int) + 1)] X (RetI (cut l K) B X (.slice (some ⟨gA, 0, none⟩) N d)) from fun X hX => by
      have h := delete_any X B (.slice (some ⟨gA, 0, none⟩) N d) (lo l K) (hi l K) (K, u) (by rw [← HIT.out.1, HNL.out]; omega) (by rw [← HIT.out.1]; exact hX) ((p : Int) + 1) (by rw [HPP.out])
      rw [HPP.out, ← cut_eq K HC.out.1] at h
      exact h)
    obtain ⟨W5, hW5⟩ : ∃ W5, W5 = w2.alloc (.cells #[.int .u64 (K : Nat), .int .u64 (u : Nat)] 88) := ⟨_, rfl⟩
    obtain ⟨g5, hg5⟩ : ∃ g, w2.heap.size = g := ⟨_, rfl⟩
    have HB5 := Lib.hid (show Below w2.heap.size w2 W5 by rw [hW5]; exact below_one _ _)
    have HR5 := Lib.hid (show W5.heap[q + 1]? = _ from (HB5.out.block _ (by omega)).trans HR2.out)
    have HX5 := Lib.hid (show W5.heap[g5]? = some (.cells #[.int .u64 (K : Nat), .int .u64 (u : Nat)] 88 (0, 0)) by rw [hW5, ← hg5]; exact heap_alloc_new w2 _)
    have hM5 := Lib.hid (show MadeX W5.drew B 88 2 rowL _ _ from MadeX.below (MadeX.below hM2.out HB5.out) ⟨rfl, rfl, rfl, Nat.le_refl _, fun _ _ => rfl⟩)
    rw [← hW5, hg5]
    have s5 : W5.heap.size = g5 + 1 := by rw [hW5, ← hg5]; simp
    have HB0 := Lib.hid (show w.grownBy W5.drew (some gA) from grown_below ((hb3.out.trans (HB5.out.mono (hb3.out.size))).drew) _)
    obtain ⟨k0, l0, k1, l1⟩ := two_cells HX5.out
    obtain ⟨r0, f0, r1, f1, r2, f2⟩ := res_cells HR5.out
    have n1 : q + 1 < W5.heap.size := by omega
    have n2 : g5 < W5.heap.size := by omega
    have n3 : ¬ q + 1 = gA := by omega
    have n4 : ¬ g5 = gA := by omega
    have hw : IntKind.i64.wrap ((p : Int) + 1) = (p : Int) + 1 := by rw [IntKind.wrap_i64]; omega
    have mixed : Tryd.prog.follows Departure.mixedOrders = true := by kernel_rfl
    clear hW5 x0 x1
    go_cut [4] (fun s4 wx => ∃ u4, s4 = u4 ∧ Hid (MadeX wx B 88 2 rowL u4 (cut l K) ∧ w.grownBy wx (some gA) ∧ wx.heap[q + 1]? = some (.cells #[.int .i64 0, .int .u32 y, .slice none 0 0] 59 (0, 0))))
    case first =>
      go_region_with (first
        | (go_at_call 62; refine (HD.out _ ?_).mono ?_; (first | with_reducible exact hM5.out | with_reducible exact MadeX.below hM5.out hb3); rintro e w4 ⟨v4, rfl, hM4, hg4⟩; (first | (have KN4 := Lib.hid (KeepN.grown (KeepN.drew W5 gA) hg4)) | (have KN4 := Lib.hid (KeepN.grown (KeepN.below (KeepN.drew W5 gA) hb3) hg4))); obtain ⟨r0', f0', r1', f1', r2', f2'⟩ := res_cells ((KN4.out.2 _ n1 n3).trans HR5.out); obtain ⟨k0', l0', k1', l1'⟩ := two_cells ((KN4.out.2 _ n2 n4).trans HX5.out); have HM4 := Lib.hid hM4; clear hM4)
        | (go_at_call 60; refine (HTE.out _).mono ?_; rintro e w3 ⟨rfl, hb3⟩; (first | (have KN3 := Lib.hid (KeepN.below (KeepN.drew W5 gA) hb3)) | (have KN3 := Lib.hid (KeepN.below (KeepN.grown (KeepN.drew W5 gA) hg4) hb3))); obtain ⟨r0'', f0'', r1'', f1'', r2'', f2''⟩ := res_cells ((KN3.out.2 _ n1 n3).trans HR5.out)))
      all_goals
        go_wp2_with fail
        go_meet
        have hm3 := MadeX.below HM4.out hb3
        have h3 := (KN3.out.2 _ n1 n3).trans HR5.out
        have hq := HQ.out
        refine ⟨_, rfl, Lib.hid ⟨made_stored3 hm3 (made_ne hm3 h3 (by decide)) _ _ _, ?_, res_set3 h3⟩⟩
        exact grown_set (grown_set (grown_set (grown_trans (grown_trans HB0.out hg4) (grown_below hb3 _)) (by omega) _ _) (by omega) _ _) (by omega) _ _
    case rest =>
      obtain ⟨u4, rfl, HU⟩ := hcut
      obtain ⟨hmc, hgc, hrc⟩ := HU.out
      obtain ⟨r0, f0, r1, f1, r2, f2⟩ := res_cells hrc
      have HMC := Lib.hid hmc
      clear hmc
      have HGC := Lib.hid hgc
      clear hgc
      go_wp2
      refine bodyPost_ret (v := .tuple #[u4, .agg #[.int .i64 0, .int .u32 y, .slice none 0 0]]) ?_ rfl ⟨u4, ?_, ?_, ?_⟩
      · simp [results, Tryd.results40, go_sem, r0, r1, r2]
      · rw [ES.out]; rfl
      · rw [ES.out]; exact HMC.out
      · exact HGC.out
end Go.Proofs.YtjhgccfnihbokaaDoor

namespace Go.Proofs.YtjhgccfnihbokaaDoor
open Go.RowKit Tb Pt Opn

/-- The prefix of a key that has so many bits less. -/
def pre (n a up : Nat) : Nat := 2 ^ (n - up) + a / 2 ^ up
theorem pre_eq {n a up : Nat} (h : up ≤ n) : (2 ^ n + a) / 2 ^ up = pre n a up := by
  unfold pre
  have e : 2 ^ n = 2 ^ (n - up) * 2 ^ up := by rw [← Nat.pow_add]; congr 1; omega
  rw [e, Nat.mul_comm, Nat.mul_add_div (Nat.pow_pos (by decide))]
theorem pre_some {l : List R} {n a up v : Nat} (h : up ≤ n) (hg : Tb.get l (pre n a up) = some v) (hn : ∀ j, j < up → Tb.get l (pre n a j) = none) : seek l n a n = some v := by
  refine seek_some (d := n - up) (by omega) ?_ fun e h1 h2 => ?_
  · rw [show n - (n - up) = up by omega]; exact hg
  · have := hn (n - e) (by omega)
    unfold pre at this
    rw [show n - (n - e) = e by omega] at this
    exact this
theorem pre_none {l : List R} {n a : Nat} (hn : ∀ j, j < n + 1 → Tb.get l (pre n a j) = none) : seek l n a n = none := seek_none fun e he => by
  have := hn (n - e) (by omega)
  unfold pre at this
  rw [show n - (n - e) = e by omega] at this
  exact this

set_option maxHeartbeats 4000000 in
set_option maxRecDepth 100000 in
theorem look_any (c : Cf) (n : Nat) (hb : c.bits = n) (hn : n ≤ 6) (A : Option Addr) (l : List R) (d : Nat) (o : O) (hoa : o.a < 2 ^ n) (hl : l.length ≤ 100000) (hu : Up l) (hv : ∀ x ∈ l, x.2 ≤ 2147483647) (w : World) (h : IsR w A l) :
    Calls Tryd.prog 41 #[cfv c, .slice A l.length d, opv o] w (Ret (resv (lookC (seek l n o.a n)) (lookV (seek l n o.a n)) none 0 0) w) := by
  have HN := Lib.hid (nodeOf_still n o.a hn hoa)
  have h64 : 2 ^ n ≤ 64 := Rk.pow_le n hn
  obtain ⟨K, hK⟩ : ∃ K, 2 ^ n + o.a = K := ⟨_, rfl⟩
  have hK7 : K < 128 := by omega
  have hdep : Rk.dep (K : Int) = n := by
    have := (match_at (n := n) (key := o.a) (e := n) (k := K) (Nat.le_refl _) hoa (by rw [Nat.sub_self, Nat.pow_zero, Nat.div_one]; exact hK.symm)).1
    unfold Rk.dep; simp [this]
  have hpos : 0 < 2 ^ n := Nat.pow_pos (by decide)
  have HO := Lib.hid (show ∀ (up : Nat) W, up ≤ n → Calls Tryd.prog 63 #[.int .i64 K, .int .i64 up] W (Ret2 (.int .i64 (pre n o.a up : Nat)) (.int .i64 0) W) from fun up W hup => by
    have h := over_any (K : Int) (up : Int) W
    rw [Rk.okO_t (decide_eq_true (by omega)) (by omega) (by rw [hdep]; omega)] at h
    rw [show Rk.val true (Rk.over (K : Int) (up : Int)) = ((pre n o.a up : Nat) : Int) by unfold Rk.val Rk.over; rw [if_pos rfl, Int.toNat_natCast, Int.toNat_natCast, ← hK, pre_eq hup]] at h
    exact h)
  have HP := Lib.hid (show ∀ up, up ≤ n → pre n o.a up < 128 from fun up hup => by
    rw [← pre_eq hup, hK]; exact Nat.lt_of_le_of_lt (Nat.div_le_self _ _) hK7)
  rw [hK] at HN
  obtain ⟨s, hs⟩ : ∃ s, seek l n o.a n = s := ⟨_, rfl⟩
  rw [hs]
  have HS := Lib.hid hs
  have HV := Lib.hid hv
  have HAA := Lib.hid h
  obtain ⟨N, hN⟩ : ∃ N, l.length = N := ⟨_, rfl⟩
  have HNL := Lib.hid hN
  have HU := Lib.hid hu
  have HSK := Lib.hid (fun k W hA => seek_any A l d (by omega) hu k W hA)
  rw [hN] at hl HSK ⊢
  clear hs hu hv h hN hK h64 hdep hpos
  unfold cfv opv resv
  rw [hb]
  obtain ⟨W, hW⟩ : ∃ W, W = ((w.alloc (.cells #[.int .u8 c.obj, .int .i64 c.inst, .int .i64 c.thr, .int .u8 c.kind, .int .i64 c.str, .int .i64 (n : Nat), .int .i64 c.cap, .int .i64 c.node, .int .i64 c.bat, .int .i64 c.chunk, .int .u64 c.lim, .int .u64 c.most] 30)).alloc (.cells #[.int .u8 (o.k : Nat), .int .u32 (o.a : Nat), .int .u32 (o.b : Nat), .int .u32 (o.c : Nat)] 46)).alloc (.cells #[.int .i64 0, .int .u32 0, .slice none 0 0] 59) := ⟨_, rfl⟩
  have hbW : Below w.heap.size w W := by rw [hW]; exact below_three _ _ _ _
  have hww : W.heap.size = w.heap.size + 3 := by rw [hW]; simp
  have HRES : W.heap[w.heap.size + 1 + 1]? = some (.cells #[.int .i64 0, .int .u32 0, .slice none 0 0] 59 (0, 0)) := by
    rw [hW]
    exact heap_alloc_new ((w.alloc (.cells #[.int .u8 c.obj, .int .i64 c.inst, .int .i64 c.thr, .int .u8 c.kind, .int .i64 c.str, .int .i64 (n : Nat), .int .i64 c.cap, .int .i64 c.node, .int .i64 c.bat, .int .i64 c.chunk, .int .u64 c.lim, .int .u64 c.most] 30)).alloc (.cells #[.int .u8 (o.k : Nat), .int .u32 (o.a : Nat), .int .u32 (o.b : Nat), .int .u32 (o.c : Nat)] 46)) _ |> fun h => by simpa using h
  have HAx := Lib.hid (HAA.out.below hbW)
  have HW := Lib.hid hW
  have hw1 : IntKind.i64.wrap ((n : Int) + 1) = ((n + 1 : Nat) : Int) := by rw [IntKind.wrap_i64]; omega
  have hw2 : IntKind.i64.wrap ((K : Nat) : Int) = (K : Int) := by rw [IntKind.wrap_i64]; omega
  clear hW
  go_enter Tryd.func41, Tryd.ntmps41
  go_wp2_with (go_at_call 58; refine (HN.out _).mono ?_; rintro e w1 ⟨rfl, rfl⟩)
  rw [← HW.out]
  go_loopw [23] (fun iv wr => Below W.heap.size W wr ∧ ∃ j : Nat, j ≤ n + 1 ∧ iv = .int .i64 j ∧ Hid (∀ i, i < j → Tb.get l (pre n o.a i) = none)) (fun i _ => n + 1 - (intOf i).toNat)
  case atStart => exact ⟨Below.refl _ _, 0, by omega, rfl, Lib.hid fun i hi => by omega⟩
  case round =>
    obtain ⟨hbr, j, hj, rfl, HJ⟩ := hrel
    have i1 : (0 : Int) ≤ (j : Int) := by omega
    have hsr := hbr.size
    have HR := Lib.hid ((hbr.block _ (by omega)).trans HRES)
    by_cases hlt : j < n + 1
    · have i2 : (j : Int) < ((n + 1 : Nat) : Int) := by omega
      have i2' : (j : Int) < (n : Int) + 1 := by omega
      have HOj := Lib.hid (fun X => HO.out j X (by omega))
      have hP := HP.out j (by omega)
      obtain ⟨k, hk⟩ : ∃ k, pre n o.a j = k := ⟨_, rfl⟩
      rw [hk] at HOj hP
      have HK := Lib.hid hk
      have HSj := Lib.hid (fun X hA => HSK.out k X hA)
      clear hk
      rcases hget : Tb.get l k with _ | u
      · rw [hget] at HSj
        have HGT := Lib.hid hget
        clear hget
        go_wp2_with (first
          | (go_at_call 63; refine (HOj.out _).mono ?_; rintro e w2 ⟨rfl, hb2⟩)
          | (go_at_call 59; refine (HSj.out _ (HAx.out.below (below_then hbr hb2))).mono ?_; rintro e w3 ⟨rfl, hb3⟩))
        go_roundw
        case rel => exact ⟨below_then (below_then hbr hb2) hb3, j + 1, by omega, by go_num, Lib.hid fun i hi => by
          by_cases e : i = j
          · subst e; rw [HK.out]; exact HGT.out
          · exact HJ.out i (by omega)⟩
        case measure => simp [intOf]; omega
      · have hsk := pre_some (by omega) (by rw [HK.out]; exact hget) HJ.out
        obtain ⟨hm, hm1, hm2⟩ : ∃ hm : pos l k < l.length, (l[pos l k]'hm).1 = k ∧ Tb.get l k = some (l[pos l k]'hm).2 := by
          rcases pos_get HU.out k with ⟨e, _⟩ | h
          · rw [hget] at e; cases e
          · exact h
        rw [hget] at hm2
        have hu2 : (l[pos l k]'hm).2 = u := by injection hm2 with h; exact h.symm
        have hhop : u ≤ 2147483647 := by rw [← hu2]; exact HV.out _ (List.getElem_mem hm)
        have HTE := Lib.hid (tell_any k u hhop)
        unfold resv at HTE
        obtain ⟨bk, off, rfl, x0, x1⟩ := HAx.out.row hm
        rw [hm1] at x0
        rw [hu2] at x1
        rw [hget] at HSj
        have hmN : pos l k < N := by rw [← HNL.out]; exact hm
        have e1 : lookC s = 0 := by rw [← HS.out, hsk]; rfl
        have e2 : lookV s = ((u + 1) % 4294967296 : Nat) := by rw [← HS.out, hsk]; rfl
        rw [e1, e2]
        clear hget hsk hm1 hm2 hu2 e1 e2 hm
        generalize pos l k = p at *
        generalize (u + 1) % 4294967296 = y at *
        have p1 : (0 : Int) ≤ (p : Int) := by omega
        have p2 : (p : Int) < (N : Int) := by omega
        have hx := World.block_lt_of_cell? _ _ x0
        go_wp2_with (first
          | (go_at_call 63; refine (HOj.out _).mono ?_; rintro e w2 ⟨rfl, hb2⟩)
          | (go_at_call 59; refine (HSj.out _ (HAx.out.below (below_then hbr hb2))).mono ?_; rintro e w3 ⟨rfl, hb3⟩; replace hb3 := below_then (below_then hbr hb2) hb3; replace x0 := (hb3.cell hx).trans x0; replace x1 := ((bcell hb3).1 _ _ hx).trans x1)
          | (go_at_call 60; refine (HTE.out _).mono ?_; rintro e w4 ⟨rfl, hb4⟩; have HR4 := Lib.hid (((below_then hb3 hb4).block (w.heap.size + 1 + 1) (by omega)).trans HRES); obtain ⟨r0, f0, r1, f1, r2, f2⟩ := res_cells HR4.out))
        refine bodyPost_ret (v := .agg #[.int .i64 0, .int .u32 y, .slice none 0 0]) ?_ rfl ⟨rfl, ?_⟩
        · simp [results, Tryd.results41, go_sem, r0, r1, r2]
        · have h4 := hbW.trans ((below_then hb3 hb4).mono hbW.size)
          exact ((h4.setCell (by show w.heap.size ≤ w.heap.size + 1 + 1; omega) _).setCell (by show w.heap.size ≤ w.heap.size + 1 + 1; omega) _).setCell (by show w.heap.size ≤ w.heap.size + 1 + 1; omega) _
    · obtain rfl : j = n + 1 := by omega
      have hsk := pre_none HJ.out
      have e1 : lookC s = 6 := by rw [← HS.out, hsk]; rfl
      have e2 : lookV s = 0 := by rw [← HS.out, hsk]; rfl
      have HE := Lib.hid (And.intro e1 e2)
      clear hsk e1 e2
      obtain ⟨r0, f0, r1, f1, r2, f2⟩ := res_cells HR.out
      go_wp2
      refine bodyPost_ret (v := .agg #[.int .i64 6, .int .u32 0, .slice none 0 0]) ?_ rfl ⟨by rw [HE.out.1, HE.out.2], ?_⟩
      · simp [results, Tryd.results41, go_sem, r0, r1, r2]
      · have h4 := hbW.trans (hbr.mono hbW.size)
        exact ((h4.setCell (by show w.heap.size ≤ w.heap.size + 1 + 1; omega) _).setCell (by show w.heap.size ≤ w.heap.size + 1 + 1; omega) _).setCell (by show w.heap.size ≤ w.heap.size + 1 + 1; omega) _
end Go.Proofs.YtjhgccfnihbokaaDoor

namespace Go.Proofs.YtjhgccfnihbokaaDoor
open Go.RowKit Go.Lib Tb Pt Opn

set_option maxRecDepth 100000 in
set_option maxHeartbeats 4000000 in
theorem do_conf (c : Cf) (A : Option Addr) (N d : Nat) (o : O) (hno : ¬ (Ok c ∧ c.obj = 1)) (w : World) :
    Calls Tryd.prog 18 #[cfv c, .slice A N d, opv o] w (Did4 ([], 0, 0) 40 w) := by
  have HM := Lib.hid (isOf_any c)
  rw [decide_eq_false hno] at HM
  clear hno
  unfold cfv opv at *
  go_enter Tryd.func18, Tryd.ntmps18
  go_wp2_with (go_at_call 35; refine (HM.out _).mono ?_; rintro e w1 ⟨rfl, hb1⟩; obtain ⟨hc1, hf1⟩ := bcell hb1)
  refine bodyPost_ret (v := .tuple #[.slice none 0 0, .agg #[.int .i64 0, .int .u32 0, .slice none 0 0], .int .i64 40]) ?_ rfl ⟨_, rfl, MadeX.nil _ _ _ _ _, ?_⟩
  · simp [results, Tryd.results18, go_sem, hc1]
  · exact (((below_then (below_three _ _ _ _) hb1).setCell (by simp; omega) _).setCell (by simp; omega) _).setCell (by simp; omega) _

set_option maxRecDepth 100000 in
set_option maxHeartbeats 4000000 in
theorem do_arg (c : Cf) (A : Option Addr) (l : List R) (d : Nat) (o : O) (hl : l.length ≤ 1000000) (hg : Ok c ∧ c.obj = 1) (hno : ¬ IsTab c l) (w : World) (h : IsR w A l) :
    Calls Tryd.prog 18 #[cfv c, .slice A l.length d, opv o] w (Did4 ([], 0, 0) 2 w) := by
  have HM := Lib.hid (isOf_any c)
  rw [decide_eq_true hg] at HM
  obtain ⟨n, hn, hn6⟩ : ∃ n : Nat, c.bits = n ∧ n ≤ 6 := by
    have hb := hg.1.1
    have ho := hg.2
    unfold ObjOk at hb
    exact ⟨c.bits.toNat, by omega, by omega⟩
  have hz : sz c = 2 ^ (n + 1) := by unfold sz; rw [if_pos hg.2, hn, Int.toNat_natCast]
  have HR := Lib.hid (fun W hA => are_any c n hn hn6 A l d hl W hA)
  have e : decide ((l.length : Int) ≤ c.cap ∧ Up l ∧ ∀ x ∈ l, RowOk (2 ^ (n + 1)) x) = false := decide_eq_false fun g => hno ⟨hg.1, hg.2, g.1, g.2.1, by rw [hz]; exact g.2.2⟩
  rw [e] at HR
  have HA := Lib.hid h
  clear e hz hn hg hno h
  generalize l.length = N at *
  unfold cfv opv at *
  go_enter Tryd.func18, Tryd.ntmps18
  go_wp2_with (first
    | (go_at_call 35; refine (HM.out _).mono ?_; rintro e w1 ⟨rfl, hb1⟩; obtain ⟨hc1, hf1⟩ := bcell hb1)
    | (go_at_call 36; refine (HR.out _ (HA.out.below (below_then (below_three _ _ _ _) hb1))).mono ?_; rintro e w2 ⟨rfl, hb2⟩; replace hb1 := below_then hb1 hb2; clear hc1 hf1 hb2; obtain ⟨hc1, hf1⟩ := bcell hb1))
  refine bodyPost_ret (v := .tuple #[.slice none 0 0, .agg #[.int .i64 0, .int .u32 0, .slice none 0 0], .int .i64 2]) ?_ rfl ⟨_, rfl, MadeX.nil _ _ _ _ _, ?_⟩
  · simp [results, Tryd.results18, go_sem, hc1]
  · exact (((below_then (below_three _ _ _ _) hb1).setCell (by simp; omega) _).setCell (by simp; omega) _).setCell (by simp; omega) _
end Go.Proofs.YtjhgccfnihbokaaDoor

namespace Go.Proofs.YtjhgccfnihbokaaDoor
open Go.RowKit Go.Lib Tb Pt Opn

set_option maxRecDepth 100000 in
set_option maxHeartbeats 4000000 in
theorem do_bad (c : Cf) (A : Option Addr) (l : List R) (d : Nat) (o : O) (ho : Wf o) (hAn : A = none → l.length = 0 ∧ d = 0) (hl : l.length ≤ 100000) (ht : IsTab c l) (hbad : chk c o ≠ 0) (w : World) (hp : Obs w) (h : IsR w A l) :
    Calls Tryd.prog 18 #[cfv c, .slice A l.length d, opv o] w (Did4 (l, chk c o, 0) 0 w) := by
  have HM := Lib.hid (isOf_any c)
  have hg : Ok c ∧ c.obj = 1 := ⟨ht.1, ht.2.1⟩
  rw [decide_eq_true hg] at HM
  obtain ⟨n, hn, hn6⟩ : ∃ n : Nat, c.bits = n ∧ n ≤ 6 := by
    have hb := hg.1.1
    have ho := hg.2
    unfold ObjOk at hb
    exact ⟨c.bits.toNat, by omega, by omega⟩
  obtain ⟨cap, hcap⟩ : ∃ cap : Nat, c.cap = cap := by
    have hb := hg.1.2.2
    unfold RestOk at hb
    exact ⟨c.cap.toNat, by omega⟩
  have hz : sz c = 2 ^ (n + 1) := by unfold sz; rw [if_pos hg.2, hn, Int.toNat_natCast]
  have HR := Lib.hid (fun W hA => are_any c n hn hn6 A l d (by omega) W hA)
  have e : decide ((l.length : Int) ≤ c.cap ∧ Up l ∧ ∀ x ∈ l, RowOk (2 ^ (n + 1)) x) = true := decide_eq_true ⟨ht.2.2.1, ht.2.2.2.1, by rw [← hz]; exact ht.2.2.2.2⟩
  rw [e] at HR
  have HA := Lib.hid h
  have HCL := Lib.hid (fun W hA => clone_any A l d (by omega) hAn W hA)
  have HCK := Lib.hid (check_op c o ho)
  have HP := Lib.hid hp
  have hob := hg.2
  have hlc : l.length ≤ cap := by have := ht.2.2.1; omega
  have HV := Lib.hid (And.intro ht.2.2.2.1 (show ∀ x ∈ l, x.2 ≤ 2147483647 from fun x hx => (ht.2.2.2.2 x hx).2.2))
  have hbad2 : (chk c o != 0) = true := bne_iff_ne.2 hbad
  generalize chk c o = x at *
  clear e hz h ht hAn ho hp hg
  unfold cfv opv at *
  rw [hob] at HM HR HCK ⊢
  rw [hn, hcap] at HM HR HCK ⊢
  clear hob hn hcap
  generalize hN : l.length = N at *
  have HNL := Lib.hid hN
  clear hN
  go_enter Tryd.func18, Tryd.ntmps18
  go_wp2_with (first
    | (go_at_call 35; refine (HM.out _).mono ?_; rintro e w1 ⟨rfl, hb1⟩; obtain ⟨hc1, hf1⟩ := bcell hb1)
    | (go_at_call 36; refine (HR.out _ (HA.out.below (below_then (below_three _ _ _ _) hb1))).mono ?_; rintro e w2 ⟨rfl, hb2⟩; replace hb1 := below_then hb1 hb2; clear hc1 hf1 hb2; obtain ⟨hc1, hf1⟩ := bcell hb1)
    | (go_at_call 37; refine (HCL.out _ (HA.out.below (below_then (below_three _ _ _ _) hb1))).mono ?_; rintro e w3 ⟨u3, rfl, hM3, hb3⟩; have hs1 := hb1.size; replace hb1 := below_then hb1 hb3; clear hc1 hf1 hb3; obtain ⟨hc1, hf1⟩ := bcell hb1; have HM3 := Lib.hid hM3; clear hM3)
    | (go_at_call 38; refine (HCK.out _ (HP.out.below (below_then (below_three _ _ _ _) hb1))).mono ?_; rintro e w4 ⟨rfl, hb4⟩; replace hb1 := below_then hb1 hb4; clear hc1 hf1; obtain ⟨hc1, hf1⟩ := bcell hb1))
  have HM4 := Lib.hid (HM3.out.below hb4)
  have hne : u3.ownBlock ≠ some (w.heap.size + 1 + 1) := fun e => by
    have := (MadeX.lt HM3.out _ e).1
    simp at hs1; omega
  refine bodyPost_ret (v := .tuple #[u3, .agg #[.int .i64 x, .int .u32 0, .slice none 0 0], .int .i64 0]) ?_ rfl ⟨_, rfl, ?_, ?_⟩
  · simp [results, Tryd.results18, go_sem, hc1]
  · exact made_stored3 (MadeX.down HM4.out (by simp at hs1; omega)) hne _ _ _
  · exact (((below_then (below_three _ _ _ _) hb1).setCell (by simp; omega) _).setCell (by simp; omega) _).setCell (by simp; omega) _

set_option maxRecDepth 100000 in
set_option maxHeartbeats 4000000 in
theorem do_ins (c : Cf) (A : Option Addr) (l : List R) (d : Nat) (o : O) (ho : Wf o) (hAn : A = none → l.length = 0 ∧ d = 0) (hl : l.length ≤ 100000) (ht : IsTab c l) (hf : Fits c.bits.toNat o) (hk : o.k = 1) (hgood : chk c o = 0) (w : World) (hp : Obs w) (h : IsR w A l) :
    Calls Tryd.prog 18 #[cfv c, .slice A l.length d, opv o] w (Did4 (insR c.cap.toNat l (2 ^ o.b + o.a) o.c) 0 w) := by
  have HM := Lib.hid (isOf_any c)
  have hg : Ok c ∧ c.obj = 1 := ⟨ht.1, ht.2.1⟩
  rw [decide_eq_true hg] at HM
  obtain ⟨n, hn, hn6⟩ : ∃ n : Nat, c.bits = n ∧ n ≤ 6 := by
    have hb := hg.1.1
    have ho := hg.2
    unfold ObjOk at hb
    exact ⟨c.bits.toNat, by omega, by omega⟩
  obtain ⟨cap, hcap⟩ : ∃ cap : Nat, c.cap = cap := by
    have hb := hg.1.2.2
    unfold RestOk at hb
    exact ⟨c.cap.toNat, by omega⟩
  have hz : sz c = 2 ^ (n + 1) := by unfold sz; rw [if_pos hg.2, hn, Int.toNat_natCast]
  have HR := Lib.hid (fun W hA => are_any c n hn hn6 A l d (by omega) W hA)
  have e : decide ((l.length : Int) ≤ c.cap ∧ Up l ∧ ∀ x ∈ l, RowOk (2 ^ (n + 1)) x) = true := decide_eq_true ⟨ht.2.2.1, ht.2.2.2.1, by rw [← hz]; exact ht.2.2.2.2⟩
  rw [e] at HR
  have HA := Lib.hid h
  have HCL := Lib.hid (fun W hA => clone_any A l d (by omega) hAn W hA)
  have HCK := Lib.hid (check_op c o ho)
  have HP := Lib.hid hp
  have hob := hg.2
  have hlc : l.length ≤ cap := by have := ht.2.2.1; omega
  have HV := Lib.hid (And.intro ht.2.2.2.1 (show ∀ x ∈ l, x.2 ≤ 2147483647 from fun x hx => (ht.2.2.2.2 x hx).2.2))
  rw [hgood] at HCK
  have hft : o.b ≤ n ∧ o.a < 2 ^ o.b := by
    unfold Fits at hf
    rw [hn, Int.toNat_natCast, hk] at hf
    have : Prefix n o.a o.b := by
      rcases hf with h | h | h | h | h | h | h | h | h | h <;> first | exact h.2.1 | omega
    exact this
  have HI := Lib.hid (fun W B hB v hm => ins_any c cap hcap o ho (by omega) hft.2 W B hB v l (by omega) hlc HV.out.1 HV.out.2 hm)
  rw [show c.cap.toNat = cap by omega]
  obtain ⟨s, hs⟩ : ∃ s, insR cap l (2 ^ o.b + o.a) o.c = s := ⟨_, rfl⟩
  rw [hs] at HI ⊢
  clear hs hft
  obtain ⟨rows, x, y⟩ := s
  clear e hz h ht hAn ho hp hg hf hgood
  unfold cfv opv at *
  rw [hob] at HM HR HCK HI ⊢
  rw [hn, hcap] at HM HR HCK HI ⊢
  rw [hk] at HCK HI ⊢
  clear hob hn hcap hk
  generalize hN : l.length = N at *
  have HNL := Lib.hid hN
  clear hN
  go_enter Tryd.func18, Tryd.ntmps18
  go_wp2_with (first
    | (go_at_call 35; refine (HM.out _).mono ?_; rintro e w1 ⟨rfl, hb1⟩; obtain ⟨hc1, hf1⟩ := bcell hb1)
    | (go_at_call 36; refine (HR.out _ (HA.out.below (below_then (below_three _ _ _ _) hb1))).mono ?_; rintro e w2 ⟨rfl, hb2⟩; replace hb1 := below_then hb1 hb2; clear hc1 hf1 hb2; obtain ⟨hc1, hf1⟩ := bcell hb1)
    | (go_at_call 37; refine (HCL.out _ (HA.out.below (below_then (below_three _ _ _ _) hb1))).mono ?_; rintro e w3 ⟨u3, rfl, hM3, hb3⟩; have hs1 := hb1.size; replace hb1 := below_then hb1 hb3; clear hc1 hf1 hb3; obtain ⟨hc1, hf1⟩ := bcell hb1; have HM3 := Lib.hid hM3; clear hM3)
    | (go_at_call 38; refine (HCK.out _ (HP.out.below (below_then (below_three _ _ _ _) hb1))).mono ?_; rintro e w4 ⟨rfl, hb4⟩; replace hb1 := below_then hb1 hb4; clear hc1 hf1; obtain ⟨hc1, hf1⟩ := bcell hb1))
  have HM4 := Lib.hid (HM3.out.below hb4)
  have hne : u3.ownBlock ≠ some (w.heap.size + 1 + 1) := fun e => by
    have := (MadeX.lt HM3.out _ e).1
    simp at hs1; omega
  have hq : w.heap.size + 1 + 1 < w4.heap.size := by have := hb1.size; simp at this; omega
  have hbw := below_then (below_three _ _ _ _) hb1
  refine (HI.out w4 w.heap.size hbw.size u3 (MadeX.down HM4.out (by simp at hs1; omega))).mono ?_
  rintro e w5 ⟨u, rfl, hM5, hg5⟩
  have hx : ∀ j, w5.cell? ⟨w.heap.size + 1 + 1, j, none⟩ = w4.cell? ⟨w.heap.size + 1 + 1, j, none⟩ := fun j => World.cell?_of_block (hg5.block _ hq (fun e => hne e.symm))
  have hy : ∀ j, w5.frozen? ⟨w.heap.size + 1 + 1, j, none⟩ = w4.frozen? ⟨w.heap.size + 1 + 1, j, none⟩ := fun j => World.frozen?_of_block (hg5.block _ hq (fun e => hne e.symm))
  have r0 : w5.cell? ⟨w.heap.size + 1 + 1, 0, none⟩ = some (.int .i64 0) := (hx 0).trans ((hc1 _ _ (by simp)).trans (by simp [go_sem]))
  have r1 : w5.cell? ⟨w.heap.size + 1 + 1, 1, none⟩ = some (.int .u32 0) := (hx 1).trans ((hc1 _ _ (by simp)).trans (by simp [go_sem]))
  have r2 : w5.cell? ⟨w.heap.size + 1 + 1, 2, none⟩ = some (.slice none 0 0) := (hx 2).trans ((hc1 _ _ (by simp)).trans (by simp [go_sem]))
  have f0 : w5.frozen? ⟨w.heap.size + 1 + 1, 0, none⟩ = false := (hy 0).trans ((hf1 _ _ (by simp)).trans (by simp [go_sem]))
  have f1 : w5.frozen? ⟨w.heap.size + 1 + 1, 1, none⟩ = false := (hy 1).trans ((hf1 _ _ (by simp)).trans (by simp [go_sem]))
  have f2 : w5.frozen? ⟨w.heap.size + 1 + 1, 2, none⟩ = false := (hy 2).trans ((hf1 _ _ (by simp)).trans (by simp [go_sem]))
  have h3 := HM3.out
  have hb5 := Lib.hid (hbw.grown hg5 hbw.size (fun k hk => by have := (MadeX.lt h3 k hk).1; simp at hs1; omega))
  have hre : w5.heap[w.heap.size + 1 + 1]? = some (.cells #[.int .i64 0, .int .u32 0, .slice none 0 0] 59 (0, 0)) := (hg5.block _ hq (fun e => hne e.symm)).trans ((hb1.block (w.heap.size + 1 + 1) (by simp)).trans (third_new _ _ _ _))
  have hnu := made_ne hM5 hre (by decide)
  have HNU := Lib.hid hnu
  have HM5 := Lib.hid hM5
  clear hx hy hc1 hf1 hre hbw hM5 hg5 h3 hnu
  have mixed : Tryd.prog.follows Departure.mixedOrders = true := by kernel_rfl
  unfold resv
  go_wp2
  obtain ⟨W6, hW6⟩ : ∃ W6, W6 = ((w5.setCell ⟨w.heap.size + 1 + 1, 0, none⟩ (.int .i64 x)).setCell ⟨w.heap.size + 1 + 1, 1, none⟩ (.int .u32 y)).setCell ⟨w.heap.size + 1 + 1, 2, none⟩ (.slice none 0 0) := ⟨_, rfl⟩
  rw [← hW6]
  have s0 : W6.cell? ⟨w.heap.size + 1 + 1, 0, none⟩ = some (.int .i64 x) := by rw [hW6]; simp [go_sem, r0]
  have s1 : W6.cell? ⟨w.heap.size + 1 + 1, 1, none⟩ = some (.int .u32 y) := by rw [hW6]; simp [go_sem, r1]
  have s2 : W6.cell? ⟨w.heap.size + 1 + 1, 2, none⟩ = some (.slice none 0 0) := by rw [hW6]; simp [go_sem, r2]
  have t0 : W6.frozen? ⟨w.heap.size + 1 + 1, 0, none⟩ = false := by rw [hW6]; simp [go_sem, f0]
  have t1 : W6.frozen? ⟨w.heap.size + 1 + 1, 1, none⟩ = false := by rw [hW6]; simp [go_sem, f1]
  have t2 : W6.frozen? ⟨w.heap.size + 1 + 1, 2, none⟩ = false := by rw [hW6]; simp [go_sem, f2]
  have HM6 := Lib.hid (show MadeX W6 w.heap.size 88 2 rowL u rows by rw [hW6]; exact made_stored3 HM5.out HNU.out _ _ _)
  have hb6 := Lib.hid (show Below w.heap.size w W6 by rw [hW6]; exact ((hb5.out.setCell (by simp; omega) _).setCell (by simp; omega) _).setCell (by simp; omega) _)
  clear hW6 r0 r1 r2 f0 f1 f2
  go_region
  go_wp2
  refine bodyPost_ret (v := .tuple #[u, .agg #[.int .i64 x, .int .u32 y, .slice none 0 0], .int .i64 0]) ?_ rfl ⟨_, rfl, ?_, ?_⟩
  · simp [results, Tryd.results18, go_sem, s0, s1, s2]
  · exact made_stored3 (MadeX.below HM6.out ⟨rfl, rfl, rfl, Nat.le_refl _, fun _ _ => rfl⟩) HNU.out _ _ _
  · exact ((hb6.out.drew.setCell (by simp; omega) _).setCell (by simp; omega) _).setCell (by simp; omega) _
end Go.Proofs.YtjhgccfnihbokaaDoor

namespace Go.Proofs.YtjhgccfnihbokaaDoor
open Go.RowKit Go.Lib Tb Pt Opn

set_option maxRecDepth 100000 in
set_option maxHeartbeats 4000000 in
theorem do_rem (c : Cf) (A : Option Addr) (l : List R) (d : Nat) (o : O) (ho : Wf o) (hAn : A = none → l.length = 0 ∧ d = 0) (hl : l.length ≤ 100000) (ht : IsTab c l) (hf : Fits c.bits.toNat o) (hk : o.k = 2) (hgood : chk c o = 0) (w : World) (hp : Obs w) (h : IsR w A l) :
    Calls Tryd.prog 18 #[cfv c, .slice A l.length d, opv o] w (Did4 (remR l (2 ^ o.b + o.a)) 0 w) := by
  have HM := Lib.hid (isOf_any c)
  have hg : Ok c ∧ c.obj = 1 := ⟨ht.1, ht.2.1⟩
  rw [decide_eq_true hg] at HM
  obtain ⟨n, hn, hn6⟩ : ∃ n : Nat, c.bits = n ∧ n ≤ 6 := by
    have hb := hg.1.1
    have ho := hg.2
    unfold ObjOk at hb
    exact ⟨c.bits.toNat, by omega, by omega⟩
  obtain ⟨cap, hcap⟩ : ∃ cap : Nat, c.cap = cap := by
    have hb := hg.1.2.2
    unfold RestOk at hb
    exact ⟨c.cap.toNat, by omega⟩
  have hz : sz c = 2 ^ (n + 1) := by unfold sz; rw [if_pos hg.2, hn, Int.toNat_natCast]
  have HR := Lib.hid (fun W hA => are_any c n hn hn6 A l d (by omega) W hA)
  have e : decide ((l.length : Int) ≤ c.cap ∧ Up l ∧ ∀ x ∈ l, RowOk (2 ^ (n + 1)) x) = true := decide_eq_true ⟨ht.2.2.1, ht.2.2.2.1, by rw [← hz]; exact ht.2.2.2.2⟩
  rw [e] at HR
  have HA := Lib.hid h
  have HCL := Lib.hid (fun W hA => clone_any A l d (by omega) hAn W hA)
  have HCK := Lib.hid (check_op c o ho)
  have HP := Lib.hid hp
  have hob := hg.2
  have hlc : l.length ≤ cap := by have := ht.2.2.1; omega
  have HV := Lib.hid (And.intro ht.2.2.2.1 (show ∀ x ∈ l, x.2 ≤ 2147483647 from fun x hx => (ht.2.2.2.2 x hx).2.2))
  rw [hgood] at HCK
  have hft : o.b ≤ n ∧ o.a < 2 ^ o.b := by
    unfold Fits at hf
    rw [hn, Int.toNat_natCast, hk] at hf
    have : Prefix n o.a o.b := by
      rcases hf with h | h | h | h | h | h | h | h | h | h <;> first | exact h.2.1 | omega
    exact this
  have HI := Lib.hid (fun W B hB v hm => rem_any o (by omega) hft.2 W B hB v l (by omega) HV.out.1 HV.out.2 hm)
  obtain ⟨s, hs⟩ : ∃ s, remR l (2 ^ o.b + o.a) = s := ⟨_, rfl⟩
  rw [hs] at HI ⊢
  clear hs hft
  obtain ⟨rows, x, y⟩ := s
  clear e hz h ht hAn ho hp hg hf hgood
  unfold cfv opv at *
  rw [hob] at HM HR HCK ⊢
  rw [hn, hcap] at HM HR HCK ⊢
  rw [hk] at HCK HI ⊢
  clear hob hn hcap hk
  generalize hN : l.length = N at *
  have HNL := Lib.hid hN
  clear hN
  go_enter Tryd.func18, Tryd.ntmps18
  go_wp2_with (first
    | (go_at_call 35; refine (HM.out _).mono ?_; rintro e w1 ⟨rfl, hb1⟩; obtain ⟨hc1, hf1⟩ := bcell hb1)
    | (go_at_call 36; refine (HR.out _ (HA.out.below (below_then (below_three _ _ _ _) hb1))).mono ?_; rintro e w2 ⟨rfl, hb2⟩; replace hb1 := below_then hb1 hb2; clear hc1 hf1 hb2; obtain ⟨hc1, hf1⟩ := bcell hb1)
    | (go_at_call 37; refine (HCL.out _ (HA.out.below (below_then (below_three _ _ _ _) hb1))).mono ?_; rintro e w3 ⟨u3, rfl, hM3, hb3⟩; have hs1 := hb1.size; replace hb1 := below_then hb1 hb3; clear hc1 hf1 hb3; obtain ⟨hc1, hf1⟩ := bcell hb1; have HM3 := Lib.hid hM3; clear hM3)
    | (go_at_call 38; refine (HCK.out _ (HP.out.below (below_then (below_three _ _ _ _) hb1))).mono ?_; rintro e w4 ⟨rfl, hb4⟩; replace hb1 := below_then hb1 hb4; clear hc1 hf1; obtain ⟨hc1, hf1⟩ := bcell hb1))
  have HM4 := Lib.hid (HM3.out.below hb4)
  have hne : u3.ownBlock ≠ some (w.heap.size + 1 + 1) := fun e => by
    have := (MadeX.lt HM3.out _ e).1
    simp at hs1; omega
  have hq : w.heap.size + 1 + 1 < w4.heap.size := by have := hb1.size; simp at this; omega
  have hbw := below_then (below_three _ _ _ _) hb1
  refine (HI.out w4 w.heap.size hbw.size u3 (MadeX.down HM4.out (by simp at hs1; omega))).mono ?_
  rintro e w5 ⟨u, rfl, hM5, hg5⟩
  have hx : ∀ j, w5.cell? ⟨w.heap.size + 1 + 1, j, none⟩ = w4.cell? ⟨w.heap.size + 1 + 1, j, none⟩ := fun j => World.cell?_of_block (hg5.block _ hq (fun e => hne e.symm))
  have hy : ∀ j, w5.frozen? ⟨w.heap.size + 1 + 1, j, none⟩ = w4.frozen? ⟨w.heap.size + 1 + 1, j, none⟩ := fun j => World.frozen?_of_block (hg5.block _ hq (fun e => hne e.symm))
  have r0 : w5.cell? ⟨w.heap.size + 1 + 1, 0, none⟩ = some (.int .i64 0) := (hx 0).trans ((hc1 _ _ (by simp)).trans (by simp [go_sem]))
  have r1 : w5.cell? ⟨w.heap.size + 1 + 1, 1, none⟩ = some (.int .u32 0) := (hx 1).trans ((hc1 _ _ (by simp)).trans (by simp [go_sem]))
  have r2 : w5.cell? ⟨w.heap.size + 1 + 1, 2, none⟩ = some (.slice none 0 0) := (hx 2).trans ((hc1 _ _ (by simp)).trans (by simp [go_sem]))
  have f0 : w5.frozen? ⟨w.heap.size + 1 + 1, 0, none⟩ = false := (hy 0).trans ((hf1 _ _ (by simp)).trans (by simp [go_sem]))
  have f1 : w5.frozen? ⟨w.heap.size + 1 + 1, 1, none⟩ = false := (hy 1).trans ((hf1 _ _ (by simp)).trans (by simp [go_sem]))
  have f2 : w5.frozen? ⟨w.heap.size + 1 + 1, 2, none⟩ = false := (hy 2).trans ((hf1 _ _ (by simp)).trans (by simp [go_sem]))
  have h3 := HM3.out
  have hb5 := Lib.hid (hbw.grown hg5 hbw.size (fun k hk => by have := (MadeX.lt h3 k hk).1; simp at hs1; omega))
  have hre : w5.heap[w.heap.size + 1 + 1]? = some (.cells #[.int .i64 0, .int .u32 0, .slice none 0 0] 59 (0, 0)) := (hg5.block _ hq (fun e => hne e.symm)).trans ((hb1.block (w.heap.size + 1 + 1) (by simp)).trans (third_new _ _ _ _))
  have hnu := made_ne hM5 hre (by decide)
  have HNU := Lib.hid hnu
  have HM5 := Lib.hid hM5
  clear hx hy hc1 hf1 hre hbw hM5 hg5 h3 hnu
  have mixed : Tryd.prog.follows Departure.mixedOrders = true := by kernel_rfl
  unfold resv
  go_wp2
  obtain ⟨W6, hW6⟩ : ∃ W6, W6 = ((w5.setCell ⟨w.heap.size + 1 + 1, 0, none⟩ (.int .i64 x)).setCell ⟨w.heap.size + 1 + 1, 1, none⟩ (.int .u32 y)).setCell ⟨w.heap.size + 1 + 1, 2, none⟩ (.slice none 0 0) := ⟨_, rfl⟩
  rw [← hW6]
  have s0 : W6.cell? ⟨w.heap.size + 1 + 1, 0, none⟩ = some (.int .i64 x) := by rw [hW6]; simp [go_sem, r0]
  have s1 : W6.cell? ⟨w.heap.size + 1 + 1, 1, none⟩ = some (.int .u32 y) := by rw [hW6]; simp [go_sem, r1]
  have s2 : W6.cell? ⟨w.heap.size + 1 + 1, 2, none⟩ = some (.slice none 0 0) := by rw [hW6]; simp [go_sem, r2]
  have t0 : W6.frozen? ⟨w.heap.size + 1 + 1, 0, none⟩ = false := by rw [hW6]; simp [go_sem, f0]
  have t1 : W6.frozen? ⟨w.heap.size + 1 + 1, 1, none⟩ = false := by rw [hW6]; simp [go_sem, f1]
  have t2 : W6.frozen? ⟨w.heap.size + 1 + 1, 2, none⟩ = false := by rw [hW6]; simp [go_sem, f2]
  have HM6 := Lib.hid (show MadeX W6 w.heap.size 88 2 rowL u rows by rw [hW6]; exact made_stored3 HM5.out HNU.out _ _ _)
  have hb6 := Lib.hid (show Below w.heap.size w W6 by rw [hW6]; exact ((hb5.out.setCell (by simp; omega) _).setCell (by simp; omega) _).setCell (by simp; omega) _)
  clear hW6 r0 r1 r2 f0 f1 f2
  go_region
  go_wp2
  refine bodyPost_ret (v := .tuple #[u, .agg #[.int .i64 x, .int .u32 y, .slice none 0 0], .int .i64 0]) ?_ rfl ⟨_, rfl, ?_, ?_⟩
  · simp [results, Tryd.results18, go_sem, s0, s1, s2]
  · exact made_stored3 (MadeX.below HM6.out ⟨rfl, rfl, rfl, Nat.le_refl _, fun _ _ => rfl⟩) HNU.out _ _ _
  · exact ((hb6.out.drew.setCell (by simp; omega) _).setCell (by simp; omega) _).setCell (by simp; omega) _

set_option maxRecDepth 100000 in
set_option maxHeartbeats 4000000 in
theorem do_look (c : Cf) (A : Option Addr) (l : List R) (d : Nat) (o : O) (ho : Wf o) (hAn : A = none → l.length = 0 ∧ d = 0) (hl : l.length ≤ 100000) (ht : IsTab c l) (hf : Fits c.bits.toNat o) (hk : o.k = 3) (hgood : chk c o = 0) (w : World) (hp : Obs w) (h : IsR w A l) :
    Calls Tryd.prog 18 #[cfv c, .slice A l.length d, opv o] w (Did4 ((l, lookC (seek l c.bits.toNat o.a c.bits.toNat), lookV (seek l c.bits.toNat o.a c.bits.toNat))) 0 w) := by
  have HM := Lib.hid (isOf_any c)
  have hg : Ok c ∧ c.obj = 1 := ⟨ht.1, ht.2.1⟩
  rw [decide_eq_true hg] at HM
  obtain ⟨n, hn, hn6⟩ : ∃ n : Nat, c.bits = n ∧ n ≤ 6 := by
    have hb := hg.1.1
    have ho := hg.2
    unfold ObjOk at hb
    exact ⟨c.bits.toNat, by omega, by omega⟩
  obtain ⟨cap, hcap⟩ : ∃ cap : Nat, c.cap = cap := by
    have hb := hg.1.2.2
    unfold RestOk at hb
    exact ⟨c.cap.toNat, by omega⟩
  have hz : sz c = 2 ^ (n + 1) := by unfold sz; rw [if_pos hg.2, hn, Int.toNat_natCast]
  have HR := Lib.hid (fun W hA => are_any c n hn hn6 A l d (by omega) W hA)
  have e : decide ((l.length : Int) ≤ c.cap ∧ Up l ∧ ∀ x ∈ l, RowOk (2 ^ (n + 1)) x) = true := decide_eq_true ⟨ht.2.2.1, ht.2.2.2.1, by rw [← hz]; exact ht.2.2.2.2⟩
  rw [e] at HR
  have HA := Lib.hid h
  have HCL := Lib.hid (fun W hA => clone_any A l d (by omega) hAn W hA)
  have HCK := Lib.hid (check_op c o ho)
  have HP := Lib.hid hp
  have hob := hg.2
  have hlc : l.length ≤ cap := by have := ht.2.2.1; omega
  have HV := Lib.hid (And.intro ht.2.2.2.1 (show ∀ x ∈ l, x.2 ≤ 2147483647 from fun x hx => (ht.2.2.2.2 x hx).2.2))
  rw [hgood] at HCK
  have hft : o.a < 2 ^ n := by
    unfold Fits at hf
    rw [hn, Int.toNat_natCast, hk] at hf
    rcases hf with h | h | h | h | h | h | h | h | h | h <;> first | exact h.2.1 | omega
  have HI := Lib.hid (fun W A' d' hA => look_any c n hn hn6 A' l d' o hft (by omega) HV.out.1 HV.out.2 W hA)
  rw [show c.bits.toNat = n by omega]
  obtain ⟨x, hx⟩ : ∃ x, lookC (seek l n o.a n) = x := ⟨_, rfl⟩
  obtain ⟨y, hy⟩ : ∃ y, lookV (seek l n o.a n) = y := ⟨_, rfl⟩
  rw [hx, hy] at HI ⊢
  unfold resv at HI
  clear hx hy hft
  clear e hz h ht hAn ho hp hg hf hgood
  unfold cfv opv at *
  rw [hob] at HM HR HCK HI ⊢
  rw [hn, hcap] at HM HR HCK HI ⊢
  rw [hk] at HCK HI ⊢
  clear hob hn hcap hk
  generalize hN : l.length = N at *
  have HNL := Lib.hid hN
  clear hN
  go_enter Tryd.func18, Tryd.ntmps18
  go_wp2_with (first
    | (go_at_call 35; refine (HM.out _).mono ?_; rintro e w1 ⟨rfl, hb1⟩; obtain ⟨hc1, hf1⟩ := bcell hb1)
    | (go_at_call 36; refine (HR.out _ (HA.out.below (below_then (below_three _ _ _ _) hb1))).mono ?_; rintro e w2 ⟨rfl, hb2⟩; replace hb1 := below_then hb1 hb2; clear hc1 hf1 hb2; obtain ⟨hc1, hf1⟩ := bcell hb1)
    | (go_at_call 37; refine (HCL.out _ (HA.out.below (below_then (below_three _ _ _ _) hb1))).mono ?_; rintro e w3 ⟨u3, rfl, hM3, hb3⟩; have hs1 := hb1.size; replace hb1 := below_then hb1 hb3; clear hc1 hf1 hb3; obtain ⟨hc1, hf1⟩ := bcell hb1; have HM3 := Lib.hid hM3; clear hM3)
    | (go_at_call 38; refine (HCK.out _ (HP.out.below (below_then (below_three _ _ _ _) hb1))).mono ?_; rintro e w4 ⟨rfl, hb4⟩; replace hb1 := below_then hb1 hb4; clear hc1 hf1; obtain ⟨hc1, hf1⟩ := bcell hb1))
  have HM4 := Lib.hid (HM3.out.below hb4)
  have hne : u3.ownBlock ≠ some (w.heap.size + 1 + 1) := fun e => by
    have := (MadeX.lt HM3.out _ e).1
    simp at hs1; omega
  have hq : w.heap.size + 1 + 1 < w4.heap.size := by have := hb1.size; simp at this; omega
  have hbw := below_then (below_three _ _ _ _) hb1
  have hfm := MadeX.form rowL_len HM4.out
  obtain ⟨A', d', hu3, _, _, hA'⟩ := hfm
  rw [HNL.out] at hu3
  have HA' := Lib.hid hA'
  have HU3 := Lib.hid hu3
  rw [hu3]
  refine (HI.out w4 A' d' HA'.out).mono ?_
  rintro e w5 ⟨rfl, hbl⟩
  have hg5 : w4.grownBy w5 u3.ownBlock := grown_below hbl _
  have hM5 : MadeX w5 w.heap.size 88 2 rowL u3 l := MadeX.below (MadeX.down HM4.out (by simp at hs1; omega)) hbl
  rw [← HU3.out]
  clear hu3 hA'
  have hx : ∀ j, w5.cell? ⟨w.heap.size + 1 + 1, j, none⟩ = w4.cell? ⟨w.heap.size + 1 + 1, j, none⟩ := fun j => World.cell?_of_block (hg5.block _ hq (fun e => hne e.symm))
  have hy : ∀ j, w5.frozen? ⟨w.heap.size + 1 + 1, j, none⟩ = w4.frozen? ⟨w.heap.size + 1 + 1, j, none⟩ := fun j => World.frozen?_of_block (hg5.block _ hq (fun e => hne e.symm))
  have r0 : w5.cell? ⟨w.heap.size + 1 + 1, 0, none⟩ = some (.int .i64 0) := (hx 0).trans ((hc1 _ _ (by simp)).trans (by simp [go_sem]))
  have r1 : w5.cell? ⟨w.heap.size + 1 + 1, 1, none⟩ = some (.int .u32 0) := (hx 1).trans ((hc1 _ _ (by simp)).trans (by simp [go_sem]))
  have r2 : w5.cell? ⟨w.heap.size + 1 + 1, 2, none⟩ = some (.slice none 0 0) := (hx 2).trans ((hc1 _ _ (by simp)).trans (by simp [go_sem]))
  have f0 : w5.frozen? ⟨w.heap.size + 1 + 1, 0, none⟩ = false := (hy 0).trans ((hf1 _ _ (by simp)).trans (by simp [go_sem]))
  have f1 : w5.frozen? ⟨w.heap.size + 1 + 1, 1, none⟩ = false := (hy 1).trans ((hf1 _ _ (by simp)).trans (by simp [go_sem]))
  have f2 : w5.frozen? ⟨w.heap.size + 1 + 1, 2, none⟩ = false := (hy 2).trans ((hf1 _ _ (by simp)).trans (by simp [go_sem]))
  have h3 := HM3.out
  have hb5 := Lib.hid (hbw.grown hg5 hbw.size (fun k hk => by have := (MadeX.lt h3 k hk).1; simp at hs1; omega))
  have hre : w5.heap[w.heap.size + 1 + 1]? = some (.cells #[.int .i64 0, .int .u32 0, .slice none 0 0] 59 (0, 0)) := (hg5.block _ hq (fun e => hne e.symm)).trans ((hb1.block (w.heap.size + 1 + 1) (by simp)).trans (third_new _ _ _ _))
  have hnu := made_ne hM5 hre (by decide)
  have HNU := Lib.hid hnu
  have HM5 := Lib.hid hM5
  clear hx hy hc1 hf1 hre hbw hM5 hg5 h3 hnu
  have mixed : Tryd.prog.follows Departure.mixedOrders = true := by kernel_rfl
  go_wp2
  obtain ⟨W6, hW6⟩ : ∃ W6, W6 = ((w5.setCell ⟨w.heap.size + 1 + 1, 0, none⟩ (.int .i64 x)).setCell ⟨w.heap.size + 1 + 1, 1, none⟩ (.int .u32 y)).setCell ⟨w.heap.size + 1 + 1, 2, none⟩ (.slice none 0 0) := ⟨_, rfl⟩
  rw [← hW6]
  have s0 : W6.cell? ⟨w.heap.size + 1 + 1, 0, none⟩ = some (.int .i64 x) := by rw [hW6]; simp [go_sem, r0]
  have s1 : W6.cell? ⟨w.heap.size + 1 + 1, 1, none⟩ = some (.int .u32 y) := by rw [hW6]; simp [go_sem, r1]
  have s2 : W6.cell? ⟨w.heap.size + 1 + 1, 2, none⟩ = some (.slice none 0 0) := by rw [hW6]; simp [go_sem, r2]
  have t0 : W6.frozen? ⟨w.heap.size + 1 + 1, 0, none⟩ = false := by rw [hW6]; simp [go_sem, f0]
  have t1 : W6.frozen? ⟨w.heap.size + 1 + 1, 1, none⟩ = false := by rw [hW6]; simp [go_sem, f1]
  have t2 : W6.frozen? ⟨w.heap.size + 1 + 1, 2, none⟩ = false := by rw [hW6]; simp [go_sem, f2]
  have HM6 := Lib.hid (show MadeX W6 w.heap.size 88 2 rowL u3 l by rw [hW6]; exact made_stored3 HM5.out HNU.out _ _ _)
  have hb6 := Lib.hid (show Below w.heap.size w W6 by rw [hW6]; exact ((hb5.out.setCell (by simp; omega) _).setCell (by simp; omega) _).setCell (by simp; omega) _)
  clear hW6 r0 r1 r2 f0 f1 f2
  go_region
  go_wp2
  refine bodyPost_ret (v := .tuple #[u3, .agg #[.int .i64 x, .int .u32 y, .slice none 0 0], .int .i64 0]) ?_ rfl ⟨_, rfl, ?_, ?_⟩
  · simp [results, Tryd.results18, go_sem, s0, s1, s2]
  · exact made_stored3 (MadeX.below HM6.out ⟨rfl, rfl, rfl, Nat.le_refl _, fun _ _ => rfl⟩) HNU.out _ _ _
  · exact ((hb6.out.drew.setCell (by simp; omega) _).setCell (by simp; omega) _).setCell (by simp; omega) _
end Go.Proofs.YtjhgccfnihbokaaDoor

namespace Go.Proofs.YtjhgccfnihbokaaDoor
open Go.RowKit Go.Lib Tb Pt Opn

theorem done_ins {n cap : Nat} {l : List R} {o : O} (hk : o.k = 1) : doneR n cap l o.k o.a o.b o.c = insR cap l (2 ^ o.b + o.a) o.c := by
  rw [hk]; unfold doneR insR; rw [if_neg (by decide), if_pos rfl] <;> cases Tb.get l (2 ^ o.b + o.a) <;> rfl
theorem done_rem {n cap : Nat} {l : List R} {o : O} (hk : o.k = 2) : doneR n cap l o.k o.a o.b o.c = remR l (2 ^ o.b + o.a) := by
  rw [hk]; unfold doneR remR; rw [if_neg (by decide), if_neg (by decide)] <;> cases Tb.get l (2 ^ o.b + o.a) <;> rfl
theorem done_look {n cap : Nat} {l : List R} {o : O} (hk : o.k = 3) : doneR n cap l o.k o.a o.b o.c = (l, lookC (seek l n o.a n), lookV (seek l n o.a n)) := by
  rw [hk]; unfold doneR lookC lookV; rw [if_pos rfl] <;> cases seek l n o.a n <;> rfl

theorem do_any (c : Cf) (A : Option Addr) (l : List R) (d : Nat) (o : O) (ho : Wf o) (hAn : A = none → l.length = 0 ∧ d = 0) (hl : l.length ≤ 100000) (w : World) (hp : Obs w) (h : IsR w A l) :
    Calls Tryd.prog 18 #[cfv c, .slice A l.length d, opv o] w (Did4 (doR c l o) (doE c l) w) := by
  by_cases h1 : Ok c ∧ c.obj = 1
  · by_cases h2 : IsTab c l
    · have e2 : doE c l = 0 := by unfold doE; rw [if_neg (not_not_intro h1), if_neg (not_not_intro h2)]
      by_cases h3 : chk c o = 0
      · have e : doR c l o = doneR c.bits.toNat c.cap.toNat l o.k o.a o.b o.c := by unfold doR; rw [if_neg (not_not_intro h1), if_neg (not_not_intro h2), if_neg (not_not_intro h3)]
        rw [e, e2]
        obtain ⟨_, g2, g3⟩ := chk_zero h3
        have hk := route_kind (k := o.k) (by rw [g2]; exact h1.2)
        rcases (by omega : o.k = 1 ∨ o.k = 2 ∨ o.k = 3) with hk | hk | hk
        · rw [done_ins hk]; exact do_ins c A l d o ho hAn hl h2 g3 hk h3 w hp h
        · rw [done_rem hk]; exact do_rem c A l d o ho hAn hl h2 g3 hk h3 w hp h
        · rw [done_look hk]; exact do_look c A l d o ho hAn hl h2 g3 hk h3 w hp h
      · have e : doR c l o = (l, chk c o, 0) := by unfold doR; rw [if_neg (not_not_intro h1), if_neg (not_not_intro h2), if_pos h3]
        rw [e, e2]
        exact do_bad c A l d o ho hAn hl h2 h3 w hp h
    · have e : doR c l o = ([], 0, 0) := by unfold doR; rw [if_neg (not_not_intro h1), if_pos h2]
      have e2 : doE c l = 2 := by unfold doE; rw [if_neg (not_not_intro h1), if_pos h2]
      rw [e, e2]
      exact do_arg c A l d o (by omega) h1 h2 w h
  · have e : doR c l o = ([], 0, 0) := by unfold doR; rw [if_pos h1]
    have e2 : doE c l = 40 := by unfold doE; rw [if_pos h1]
    rw [e, e2]
    exact do_conf c A l.length d o h1 w
end Go.Proofs.YtjhgccfnihbokaaDoor

namespace Go.Proofs.YtjhgccfnihbokaaDoor
open Tb Pt Opn

theorem doE_cases (c : Cf) (l : List R) : (doE c l = 0 ∧ IsTab c l) ∨ (doE c l ≠ 0 ∧ ¬ IsTab c l) := by
  unfold doE
  by_cases h1 : Ok c ∧ c.obj = 1
  · by_cases h2 : IsTab c l
    · exact .inl ⟨by rw [if_neg (not_not_intro h1), if_neg (not_not_intro h2)], h2⟩
    · exact .inr ⟨by rw [if_neg (not_not_intro h1), if_pos h2]; decide, h2⟩
  · exact .inr ⟨by rw [if_pos h1]; decide, fun h => h1 ⟨h.1, h.2.1⟩⟩
theorem doR_none {c : Cf} {l : List R} (o : O) (h : ¬ IsTab c l) : doR c l o = ([], 0, 0) := by
  unfold doR
  by_cases h1 : Ok c ∧ c.obj = 1
  · rw [if_neg (not_not_intro h1), if_pos h]
  · rw [if_pos h1]
theorem doR_bad {c : Cf} {l : List R} {o : O} (h : IsTab c l) (hb : chk c o ≠ 0) : doR c l o = (l, chk c o, 0) := by
  unfold doR; rw [if_neg (not_not_intro ⟨h.1, h.2.1⟩), if_neg (not_not_intro h), if_pos hb]
theorem doR_done {c : Cf} {l : List R} {o : O} (h : IsTab c l) (hb : chk c o = 0) : doR c l o = doneR c.bits.toNat c.cap.toNat l o.k o.a o.b o.c := by
  unfold doR; rw [if_neg (not_not_intro ⟨h.1, h.2.1⟩), if_neg (not_not_intro h), if_neg (not_not_intro hb)]
/-- What an operation that fits says. -/
theorem fits_one {c : Cf} {o : O} (hc : c.obj = 1) (h : chk c o = 0) : (o.k = 1 ∧ o.b ≤ c.bits.toNat ∧ o.a < 2 ^ o.b ∧ o.c ≤ 2147483647) ∨ (o.k = 2 ∧ o.b ≤ c.bits.toNat ∧ o.a < 2 ^ o.b ∧ o.c = 0) ∨ (o.k = 3 ∧ o.a < 2 ^ c.bits.toNat ∧ o.b = 0 ∧ o.c = 0) := by
  obtain ⟨_, h2, h3⟩ := chk_zero h
  have hk := route_kind (k := o.k) (by rw [h2]; exact hc)
  unfold Fits Prefix at h3
  rcases h3 with h | h | h | h | h | h | h | h | h | h
  · exact .inl ⟨h.1, h.2.1.1, h.2.1.2, h.2.2⟩
  · exact .inr (.inl ⟨h.1, h.2.1.1, h.2.1.2, h.2.2⟩)
  · exact .inr (.inr ⟨h.1, h.2.1, h.2.2.1, h.2.2.2⟩)
  all_goals omega
theorem sz_one {c : Cf} (hc : c.obj = 1) : sz c = 2 ^ (c.bits.toNat + 1) := by unfold sz; rw [if_pos hc]
theorem node_ok {n b a : Nat} (hb : b ≤ n) (ha : a < 2 ^ b) : 1 ≤ 2 ^ b + a ∧ 2 ^ b + a < 2 ^ (n + 1) := by
  have h1 : 2 ^ b ≤ 2 ^ n := Nat.pow_le_pow_right (by decide) hb
  have h2 := Nat.two_pow_pos b
  rw [Nat.pow_succ]
  omega
theorem put_tab {c : Cf} {l : List R} (h : IsTab c l) {b a v : Nat} (hb : b ≤ c.bits.toNat) (ha : a < 2 ^ b) (hv : v ≤ 2147483647) (hc : (Tb.get l (2 ^ b + a)).isSome = true ∨ ¬ c.cap.toNat ≤ l.length) : IsTab c (put l (2 ^ b + a) v) := by
  obtain ⟨h1, h2, h3, h4, h5⟩ := h
  refine ⟨h1, h2, ?_, up_put _ _ h4, fun x hx => ?_⟩
  · rw [len_put _ _ h4]
    rcases hc with hc | hc
    · rw [if_pos hc]; exact h3
    · split <;> omega
  · rcases put_mem hx with hx | rfl
    · exact h5 x hx
    · have := node_ok hb ha
      exact ⟨this.1, by rw [sz_one h2]; exact this.2, hv⟩
theorem cut_tab {c : Cf} {l : List R} (h : IsTab c l) (k : Nat) : IsTab c (cut l k) := by
  obtain ⟨h1, h2, h3, h4, h5⟩ := h
  have := cut_length l k
  exact ⟨h1, h2, by omega, up_cut _ h4, fun x hx => h5 x (cut_mem hx)⟩
/-- What is answered may be a table's. -/
theorem do_tab {c : Cf} {l : List R} (o : O) (h : IsTab c l) : IsTab c (doR c l o).1 := by
  by_cases hb : chk c o = 0
  · rw [doR_done h hb]
    rcases fits_one h.2.1 hb with ⟨hk, g1, g2, g3⟩ | ⟨hk, g1, g2, g3⟩ | ⟨hk, g1, _⟩
    · rw [done_ins hk]
      unfold insR
      cases hg : Tb.get l (2 ^ o.b + o.a) with
      | some u => exact put_tab h g1 g2 g3 (.inl (by rw [hg]; rfl))
      | none =>
        simp only
        split
        · exact h
        · rename_i hc
          exact put_tab h g1 g2 g3 (.inr hc)
    · rw [done_rem hk]
      unfold remR
      cases Tb.get l (2 ^ o.b + o.a) with
      | some u => exact cut_tab h _
      | none => exact h
    · rw [done_look hk]; exact h
  · rw [doR_bad h hb]; exact h
/-- A code other than OK, and a look-up, leave the rows. -/
theorem do_left {c : Cf} {l : List R} (o : O) (h : IsTab c l) (hx : (doR c l o).2.1 ≠ 0 ∨ o.k = 3) : (doR c l o).1 = l := by
  by_cases hb : chk c o = 0
  · rw [doR_done h hb] at hx ⊢
    rcases fits_one h.2.1 hb with ⟨hk, g1, g2, g3⟩ | ⟨hk, g1, g2, g3⟩ | ⟨hk, g1, _⟩
    · rw [done_ins hk] at hx ⊢
      unfold insR at hx ⊢
      cases hg : Tb.get l (2 ^ o.b + o.a) with
      | some u => rw [hg] at hx; simp only at hx; omega
      | none =>
        rw [hg] at hx
        simp only at hx ⊢
        split
        · rfl
        · rename_i hc
          rw [if_neg hc] at hx; simp only at hx; omega
    · rw [done_rem hk] at hx ⊢
      unfold remR at hx ⊢
      cases hg : Tb.get l (2 ^ o.b + o.a) with
      | some u => rw [hg] at hx; simp only at hx; omega
      | none => rfl
    · rw [done_look hk]
  · rw [doR_bad h hb]
theorem do_len (c : Cf) (l : List R) (o : O) : (doR c l o).1.length ≤ l.length + 1 := by
  by_cases h : IsTab c l
  · by_cases hb : chk c o = 0
    · rw [doR_done h hb]; exact doneR_len _ _ _ _ h.2.2.2.1
    · rw [doR_bad h hb]; simp
  · rw [doR_none o h]; simp
/-- What is put in. -/
theorem ins_ok {c : Cf} {l : List R} {o : O} (h : IsTab c l) (hk : o.k = 1) (hx : (doR c l o).2.1 = 0) :
    o.b ≤ c.bits.toNat ∧ o.a < 2 ^ o.b ∧ o.c ≤ 2147483647 ∧ (doR c l o).1 = put l (2 ^ o.b + o.a) o.c ∧ ((doR c l o).2.2 = 0 ↔ Tb.get l (2 ^ o.b + o.a) = none) ∧ chk c ⟨2, o.a, o.b, 0⟩ = 0 := by
  by_cases hb : chk c o = 0
  · obtain ⟨h0, h1, h2⟩ := chk_zero hb
    rcases fits_one h.2.1 hb with ⟨_, g1, g2, g3⟩ | ⟨g, _⟩ | ⟨g, _⟩
    · refine ⟨g1, g2, g3, ?_, ?_, ?_⟩
      · rw [doR_done h hb, done_ins hk] at hx ⊢
        unfold insR at hx ⊢
        cases hg : Tb.get l (2 ^ o.b + o.a) with
        | some u => rfl
        | none =>
          rw [hg] at hx
          simp only at hx ⊢
          split
          · rename_i hc; rw [if_pos hc] at hx; simp only at hx; omega
          · rfl
      · rw [doR_done h hb, done_ins hk]
        unfold insR
        cases hg : Tb.get l (2 ^ o.b + o.a) with
        | some u =>
          have := (h.2.2.2.2 _ (get_some hg)).2.2
          simp only at this ⊢
          refine ⟨fun e => by omega, fun e => by cases e⟩
        | none =>
          simp only
          split <;> simp
      · unfold chk
        rw [ok_bit h0, if_neg (by decide), if_neg (by rw [h.2.1]; exact not_not_intro rfl), if_pos]
        unfold Fits
        exact .inr (.inl ⟨rfl, ⟨g1, g2⟩, rfl⟩)
    · omega
    · omega
  · rw [doR_bad h hb] at hx
    exact absurd hx hb
/-- .. and taken out again. -/
theorem rem_ok {c : Cf} {l : List R} {o : O} (h : IsTab c l) (hk : o.k = 1) (hx : (doR c l o).2.1 = 0) :
    doR c (put l (2 ^ o.b + o.a) o.c) ⟨2, o.a, o.b, 0⟩ = (cut l (2 ^ o.b + o.a), 0, (((o.c + 1) % 4294967296 : Nat) : Int)) := by
  obtain ⟨g1, g2, g3, g4, _, g6⟩ := ins_ok h hk hx
  have ht : IsTab c (put l (2 ^ o.b + o.a) o.c) := by rw [← g4]; exact do_tab o h
  rw [doR_done ht g6, done_rem rfl]
  unfold remR
  simp only
  rw [get_put _ _ h.2.2.2.1, cut_put _ _ h.2.2.2.1]
/-- What a look-up answers. -/
theorem look_ok {c : Cf} {l : List R} {key : Nat} (h : IsTab c l) : (key < 2 ^ c.bits.toNat ∧ doR c l ⟨3, key, 0, 0⟩ = (l, lookC (seek l c.bits.toNat key c.bits.toNat), lookV (seek l c.bits.toNat key c.bits.toNat))) ∨
    (¬ key < 2 ^ c.bits.toNat ∧ (doR c l ⟨3, key, 0, 0⟩).2.1 = 10) := by
  by_cases hk : key < 2 ^ c.bits.toNat
  · refine .inl ⟨hk, ?_⟩
    have hb : chk c ⟨3, key, 0, 0⟩ = 0 := by
      unfold chk
      rw [ok_bit h.1, if_neg (by decide), if_neg (by rw [h.2.1]; exact not_not_intro rfl), if_pos]
      unfold Fits
      exact .inr (.inr (.inl ⟨rfl, hk, rfl, rfl⟩))
    rw [doR_done h hb, done_look rfl]
  · refine .inr ⟨hk, ?_⟩
    have hb : chk c ⟨3, key, 0, 0⟩ = 10 := by
      unfold chk
      rw [ok_bit h.1, if_neg (by decide), if_neg (by rw [h.2.1]; exact not_not_intro rfl), if_neg]
      intro hf
      unfold Fits at hf
      rcases hf with h | h | h | h | h | h | h | h | h | h <;> simp only at h <;> first | omega | exact hk h.2.1
    rw [doR_bad h (by rw [hb]; decide), hb]
end Go.Proofs.YtjhgccfnihbokaaDoor
