/- The program's nodes of prefixes, its answers, and whether rows may be a table's. -/
import Derived.Test.YtfjpcdcaoefelaaDoorTbBin
import Derived.Test.YtfjpcdcaoefelaaDoorTbMore
import Derived.Test.YtfjpcdcaoefelaaDoorRkWalks
import Derived.Test.YtfjpcdcaoefelaaDoorPtChk
namespace Go.Proofs.YtfjpcdcaoefelaaDoor
open Go.RowKit Tb Pt

set_option maxHeartbeats 400000 in
theorem nodeOf_any (b a : Nat) (hb : b ≤ 6) (ha : a < 2 ^ b) (w : World) : Calls Tryd.prog 40 #[.int .u32 b, .int .u32 a] w (Ret (.int .u64 (2 ^ b + a : Nat)) w) := by
  have h64 : 2 ^ b ≤ 64 := Rk.pow_le b hb
  have hn := fun W => node_any (b : Int) (a : Int) W
  rw [Rk.okP_t (by omega) (by omega) (by omega) (by rw [Int.toNat_natCast]; omega)] at hn
  have e : Rk.val true (Rk.node (b : Int) (a : Int)) = ((2 ^ b + a : Nat) : Int) := by simp [Rk.val, Rk.node]
  rw [e] at hn
  have HN := Lib.hid hn
  have hz : IntKind.u64.wrap ((2 ^ b + a : Nat) : Int) = ((2 ^ b + a : Nat) : Int) := by rw [IntKind.wrap_u64]; omega
  clear hn e
  generalize 2 ^ b + a = z at *
  go_enter Tryd.func40, Tryd.ntmps40
  go_wp2_with (go_at_call 18; refine (HN.out _).mono ?_; rintro e w1 ⟨rfl, hb1⟩)
  go_ret
  exact Ret.mk (u64_eq (by first | exact hz | omega)) hb1

set_option maxHeartbeats 400000 in
theorem tell_any (k v : Nat) (hv : v ≤ 2147483647) (w : World) : Calls Tryd.prog 42 #[.agg #[.int .u64 k, .int .u64 v]] w (Ret (resv 0 ((v + 1) % 4294967296 : Nat) none 0 0) w) := by
  have e : IntKind.u32.wrap ((v : Int) + 1) = (((v + 1) % 4294967296 : Nat) : Int) := by rw [IntKind.wrap_u32]; omega
  have e2 : IntKind.u32.wrap (v : Int) = (v : Int) := by rw [IntKind.wrap_u32]; omega
  generalize (v + 1) % 4294967296 = z at *
  unfold resv
  go_enter Tryd.func42, Tryd.ntmps42
  go_wp2
  refine bodyPost_ret (v := .agg #[.int .i64 0, .int .u32 z, .slice none 0 0]) ?_ rfl ⟨rfl, ?_⟩
  · simp [results, Tryd.results42, go_sem]
  · exact below_two _ _ _

set_option maxHeartbeats 1000000 in
theorem isOf_any (c : Cf) (w : World) : Calls Tryd.prog 22 #[cfv c] w (Ret (.bool (decide (Ok c ∧ c.obj = 1))) w) := by
  have HC := Lib.hid (check_any c)
  have e : decide (Ok c ∧ c.obj = 1) = (okB c && decide (c.obj = 1)) := by unfold okB; rw [Bool.eq_iff_iff]; simp
  rw [e]
  clear e
  generalize okB c = k at *
  unfold cfv at *
  go_enter Tryd.func22, Tryd.ntmps22
  go_wp2_with (go_at_call 37; refine (HC.out _).mono ?_; rintro e w1 ⟨rfl, hb1⟩; obtain ⟨hc1, hf1⟩ := bcell hb1)
  all_goals go_ret
  all_goals refine Ret.mk (bool_eq ?_) (below_b1 hb1)
  · rename_i h
    cases k with
    | true => rw [Bool.eq_iff_iff]; simp
    | false => exact absurd h (by decide)
  · rename_i h
    cases k with
    | true => exact absurd rfl h
    | false => rfl

/-- How far rows are good: the first j, and the last one's key. -/
def Good (l : List R) (z j a : Nat) : Prop := Up (l.take j) ∧ (∀ x ∈ l.take j, RowOk z x ∧ x.1 ≤ a) ∧ (a = 0 ∨ ∃ x ∈ l.take j, x.1 = a)
theorem good_zero (l : List R) (z : Nat) : Good l z 0 0 := ⟨List.Pairwise.nil, fun x hx => by simp at hx, .inl rfl⟩
theorem take_snoc {l : List R} {j : Nat} (hj : j < l.length) : l.take (j + 1) = l.take j ++ [l[j]] := by rw [List.take_succ_eq_append_getElem hj]
theorem good_step {l : List R} {z j a : Nat} (h : Good l z j a) (hj : j < l.length) (h1 : a < l[j].1) (h2 : l[j].1 < z) (h3 : l[j].2 ≤ 2147483647) : Good l z (j + 1) l[j].1 := by
  obtain ⟨g1, g2, g3⟩ := h
  unfold Good
  rw [take_snoc hj]
  refine ⟨?_, fun x hx => ?_, .inr ⟨l[j], List.mem_append_right _ (List.mem_singleton.2 rfl), rfl⟩⟩
  · unfold Up
    rw [List.pairwise_append]
    exact ⟨g1, List.pairwise_singleton _ _, fun x hx y hy => by rw [List.mem_singleton.1 hy]; exact Nat.lt_of_le_of_lt (g2 x hx).2 h1⟩
  · rcases List.mem_append.1 hx with hx | hx
    · exact ⟨(g2 x hx).1, by have := (g2 x hx).2; omega⟩
    · rw [List.mem_singleton.1 hx]; exact ⟨⟨by omega, h2, h3⟩, Nat.le_refl _⟩
theorem good_not {l : List R} {z j a : Nat} (h : Good l z j a) (hj : j < l.length) (h1 : ¬ (a < l[j].1 ∧ l[j].1 < z ∧ l[j].2 ≤ 2147483647)) : ¬ (Up l ∧ ∀ x ∈ l, RowOk z x) := fun ⟨hu, hr⟩ => by
  obtain ⟨g1, g2, g3⟩ := h
  obtain ⟨r1, r2, r3⟩ := hr _ (List.getElem_mem hj)
  refine h1 ⟨?_, r2, r3⟩
  rcases g3 with rfl | ⟨x, hx, rfl⟩
  · omega
  · obtain ⟨m, hm, rfl⟩ := List.getElem_of_mem hx
    rw [List.length_take] at hm
    rw [List.getElem_take]
    exact up_lt hu (by omega) hj
theorem good_all {l : List R} {z a : Nat} (h : Good l z l.length a) : Up l ∧ ∀ x ∈ l, RowOk z x := by
  obtain ⟨g1, g2, _⟩ := h
  rw [List.take_length] at g1 g2
  exact ⟨g1, fun x hx => (g2 x hx).1⟩

set_option maxHeartbeats 4000000 in
set_option maxRecDepth 100000 in
theorem are_any (c : Cf) (n : Nat) (hn : c.bits = n) (hn6 : n ≤ 6) (A : Option Addr) (l : List R) (d : Nat) (hl : l.length ≤ 1000000) (w : World) (h : IsR w A l) :
    Calls Tryd.prog 23 #[cfv c, .slice A l.length d] w (Ret (.bool (decide ((l.length : Int) ≤ c.cap ∧ Up l ∧ ∀ x ∈ l, RowOk (2 ^ (n + 1)) x))) w) := by
  have HA := Lib.hid h
  clear h
  obtain ⟨N, hN⟩ : ∃ N, l.length = N := ⟨_, rfl⟩
  rw [hN] at hl ⊢
  have HN := Lib.hid hN
  clear hN
  unfold cfv
  rw [hn]
  by_cases hcap : (N : Int) ≤ c.cap
  · obtain ⟨u, hu⟩ : ∃ u, decide ((N : Int) ≤ c.cap ∧ Up l ∧ ∀ x ∈ l, RowOk (2 ^ (n + 1)) x) = u := ⟨_, rfl⟩
    rw [hu]
    have HU := Lib.hid hu
    clear hu
    have hz1 : 2 ^ (n + 1) ≤ 2 ^ 7 := Nat.pow_le_pow_right (by decide) (by omega)
    have hc2 : ¬ c.cap < (N : Int) := by omega
    go_enter Tryd.func23, Tryd.ntmps23
    obtain ⟨z, hz⟩ : ∃ z, 2 ^ (n + 1) = z := ⟨_, rfl⟩
    have hw2 : IntKind.u64.wrap (2 ^ (n + 1)) = (z : Int) := by
      have e : ((2 : Int) ^ (n + 1)) = (z : Int) := by rw [← hz]; exact (Int.natCast_pow 2 (n + 1)).symm
      rw [e, IntKind.wrap_u64]; omega
    rw [hz] at HU hz1
    clear hz
    have mixed : Tryd.prog.follows Departure.mixedOrders = true := by kernel_rfl
    have hw1 : IntKind.i64.wrap ((n : Int) + 1) = (n : Int) + 1 := by rw [IntKind.wrap_i64]; omega
    have hn0 : ¬ ((n : Int) + 1 < 0) := by omega
    go_wp2
    go_region
    go_wp2
    obtain ⟨W, hW⟩ : ∃ W, W = (w.alloc (.cells #[.int .u8 c.obj, .int .i64 c.inst, .int .i64 c.thr, .int .u8 c.kind, .int .i64 c.str, .int .i64 (n : Nat), .int .i64 c.cap, .int .i64 c.node, .int .i64 c.bat, .int .i64 c.chunk, .int .u64 c.lim, .int .u64 c.most] 33)).drew := ⟨_, rfl⟩
    have hb2 : Below w.heap.size w W := by rw [hW]; exact (below_one _ _).drew
    rw [← hW]
    have HA := Lib.hid (HA.out.below hb2)
    clear hW
    go_loopw [5, 20] (fun av iv wr => Below W.heap.size W wr ∧ ∃ a j : Nat, j ≤ N ∧ av = .int .u64 a ∧ iv = .int .i64 j ∧ Hid (Good l z j a)) (fun _ i _ => N - (intOf i).toNat)
    case atStart => exact ⟨Below.refl _ _, 0, 0, Nat.zero_le _, rfl, rfl, Lib.hid (good_zero l z)⟩
    case round =>
      obtain ⟨hbr, a, j, hj, rfl, rfl, HG⟩ := hrel
      have i1 : (0 : Int) ≤ (j : Int) := by omega
      by_cases hlt : j < N
      · have j1 : j < l.length := by rw [HN.out]; exact hlt
        have i2 : (j : Int) < (N : Int) := by omega
        obtain ⟨bk, off, rfl, h1, h2⟩ := HA.out.row j1
        replace h1 := (hbr.cell (World.block_lt_of_cell? _ _ h1)).trans h1
        replace h2 := (hbr.cell (World.block_lt_of_cell? _ _ h2)).trans h2
        have hs := good_step HG.out j1
        have hf := good_not HG.out j1
        obtain ⟨x, hx⟩ : ∃ x, (l[j]'j1).1 = x := ⟨_, rfl⟩
        obtain ⟨y, hy⟩ : ∃ y, (l[j]'j1).2 = y := ⟨_, rfl⟩
        rw [hx] at h1 hs hf
        rw [hy] at h2 hs hf
        have HS := Lib.hid hs
        have HF := Lib.hid hf
        clear hs hf hx hy
        by_cases hg : a < x ∧ x < z ∧ y ≤ 2147483647
        · obtain ⟨g1, g2, g3⟩ := hg
          have k1 : ¬ (x : Int) ≤ (a : Int) := by omega
          have k2 : ¬ (z : Int) ≤ (x : Int) := by omega
          have k3 : ¬ (2147483647 : Int) < (y : Int) := by omega
          go_wp2
          go_roundw
          case rel => exact ⟨below_then hbr (below_one _ _), x, j + 1, by omega, rfl, by go_num, Lib.hid (HS.out g1 g2 g3)⟩
          case measure => simp [intOf]; omega
        · have e : u = false := by rw [← HU.out]; exact decide_eq_false fun g => HF.out hg g.2
          subst e
          go_wp2
          all_goals trace_state
          all_goals go_ret
          all_goals exact Ret.mk rfl (hb2.trans ((hbr.trans ((below_one _ _).mono hbr.size)).mono hb2.size))
      · obtain rfl : j = N := by omega
        have e : u = true := by
          rw [← HU.out]
          have := good_all (by rw [HN.out]; exact HG.out)
          exact decide_eq_true ⟨hcap, this⟩
        subst e
        go_wp2
        go_ret
        exact Ret.mk rfl (hb2.trans (hbr.mono hb2.size))
  · rw [decide_eq_false (fun g => hcap g.1)]
    have hc2 : c.cap < (N : Int) := by omega
    go_enter Tryd.func23, Tryd.ntmps23
    go_wp2
    go_ret
    exact Ret.mk rfl (below_one _ _)
end Go.Proofs.YtfjpcdcaoefelaaDoor
