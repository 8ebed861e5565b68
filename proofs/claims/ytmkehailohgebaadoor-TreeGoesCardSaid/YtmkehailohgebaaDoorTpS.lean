/- The program of an index, the program's own: its shape: how many items, what is above. -/
import Derived.Test.YtmkehailohgebaaDoorGTe1
import Derived.Test.YtmkehailohgebaaDoorBks
import Derived.Test.YtmkehailohgebaaDoorGRr
import Derived.Test.YtmkehailohgebaaDoorGTeR
import Derived.Deep.LoopGhost
namespace Go.Proofs.YtmkehailohgebaaDoor
open Go.RowKit Go.Lib Pt Opn

/-- A shape. -/
def shX (c : Cf) (L : Value) : Value := .agg #[.int .i64 c.cap, .int .i64 c.node, .int .i64 c.chunk, L]
theorem cnt_nat {m n h : Nat} : Rk.cnt m n h = (Rk.items m n h : Nat) := by
  unfold Rk.cnt
  simp only [Int.toNat_natCast]
theorem pCountX_any {m n h : Nat} (h1 : m ≤ 32) (h2 : 2 ≤ n) (h3 : n ≤ 4) (h4 : h ≤ 4) (w : World) (hP : Pow w) : Calls Tryd.prog 125 #[.int .i64 m, .int .i64 n, .int .i64 h] w (Ret2 (.int .i64 (Rk.items m n h : Nat)) (.int .i64 0) w) := by
  have H := count_any m n h w hP
  rw [Rk.okC_mk h1 h2 h3 h4] at H
  rw [← cnt_nat]
  exact H
theorem cells4q {w : World} {g : Nat} {a b c d : Value} {t : TypeId} (hh : w.heap[g]? = some (.cells #[a, b, c, d] t (0, 0))) : w.cell? ⟨g, 0, none⟩ = some a ∧ w.cell? ⟨g, 1, none⟩ = some b ∧ w.cell? ⟨g, 2, none⟩ = some c ∧ w.cell? ⟨g, 3, none⟩ = some d := by
  refine ⟨?_, ?_, ?_, ?_⟩ <;> simp [World.cell?, hh]

set_option maxRecDepth 100000 in
set_option maxHeartbeats 4000000 in
theorem pNowX_any {c : Cf} {C N K : Nat} (s : SzX c C N K) (L : Value) (f : Ds) (hn : f.n ≤ 32) (hh : f.h ≤ 4) (w : World) (hP : Pow w) :
    Calls Tryd.prog 101 #[shX c L, frv f] w (Ret (.int .i64 (upX c f.n f.h : Nat)) w) := by
  have HC := Lib.hid (fun W hp => pCountX_any (m := f.n) (n := N) (h := f.h) hn s.n1 s.n2 hh W hp)
  rw [s.up]
  have HP := Lib.hid hP
  clear hP
  unfold shX frv
  rw [s.cap, s.node, s.chunk]
  clear s
  obtain ⟨tg, k, seq, kind, a, b, pc, i, j, n, p, h, x, y⟩ := f
  simp only at *
  go_enter Tryd.func101, Tryd.ntmps101
  go_wp2_with (go_at_call 125; refine (HC.out _ ((HP.out.alloc _).alloc _)).mono ?_; rintro e w1 ⟨rfl, hb1⟩)
  go_ret
  exact Ret.mk rfl (below_then (below_two _ _ _) hb1)

set_option maxRecDepth 100000 in
set_option maxHeartbeats 4000000 in
theorem pBeforeX_any {c : Cf} {C N K : Nat} (s : SzX c C N K) (L : Value) (f : Ds) (hn : f.n ≤ C) (hh : f.h ≤ 4) (w : World) (hP : Pow w) :
    Calls Tryd.prog 128 #[shX c L, frv f] w (Ret (.int .i64 (upX c (if (f.n : Int) < c.cap then f.n + 1 else f.n) f.h : Nat)) w) := by
  have c2 := s.c2
  have HC := Lib.hid (fun W hp => pCountX_any (m := if (f.n : Int) < c.cap then f.n + 1 else f.n) (n := N) (h := f.h) (by rw [s.cap]; split <;> omega) s.n1 s.n2 hh W hp)
  rw [s.up]
  have HP := Lib.hid hP
  clear hP
  unfold shX frv
  rw [s.cap, s.node, s.chunk] at *
  clear s
  obtain ⟨tg, k, seq, kind, a, b, pc, i, j, n, p, h, x, y⟩ := f
  simp only at *
  by_cases g : (n : Int) < (C : Int)
  · rw [if_pos g] at HC ⊢
    rw [show (((n + 1 : Nat)) : Int) = (n : Int) + 1 from by push_cast; rfl] at HC
    have hm : min ((n : Int) + 1) (C : Int) = (n : Int) + 1 := by omega
    have hw : IntKind.i64.wrap ((n : Int) + 1) = (n : Int) + 1 := by rw [IntKind.wrap_i64]; omega
    clear g
    go_enter Tryd.func128, Tryd.ntmps128
    go_wp2_with (go_at_call 125; refine (HC.out _ ((HP.out.alloc _).alloc _)).mono ?_; rintro e w1 ⟨rfl, hb1⟩)
    go_ret
    exact Ret.mk rfl (below_then (below_two _ _ _) hb1)
  · rw [if_neg g] at HC ⊢
    obtain rfl : n = C := by omega
    have hm : min ((n : Int) + 1) (n : Int) = (n : Int) := by omega
    have hw : IntKind.i64.wrap ((n : Int) + 1) = (n : Int) + 1 := by rw [IntKind.wrap_i64]; omega
    clear g
    go_enter Tryd.func128, Tryd.ntmps128
    go_wp2_with (go_at_call 125; refine (HC.out _ ((HP.out.alloc _).alloc _)).mono ?_; rintro e w1 ⟨rfl, hb1⟩)
    go_ret
    exact Ret.mk rfl (below_then (below_two _ _ _) hb1)

set_option maxRecDepth 100000 in
set_option maxHeartbeats 4000000 in
theorem pTopX_any (c : Cf) (A : Option Addr) (T cp : Nat) (hT : T ≤ 9) (w : World) :
    Calls Tryd.prog 97 #[shX c (.slice A (T + 1) cp)] w (Ret (.int .i64 T) w) := by
  unfold shX
  go_enter Tryd.func97, Tryd.ntmps97
  go_wp2
  go_ret
  exact Ret.mk rfl (below_one _ _)

set_option maxRecDepth 100000 in
set_option maxHeartbeats 4000000 in
theorem pAboveX_any {c : Cf} {C N K : Nat} (s : SzX c C N K) (L : Value) (f : Ds) (hp : f.p < 256) (hh : f.h ≤ 4) (w : World) :
    Calls Tryd.prog 108 #[shX c L, frv f] w (Ret (.int .i64 (f.p / N ^ f.h : Nat)) w) := by
  have n1 := s.n1
  unfold shX frv
  rw [s.cap, s.node, s.chunk]
  clear s
  obtain ⟨tg, k, seq, kind, a, b, pc, i, j, n, p, h, x, y⟩ := f
  simp only at *
  have hN0 : ((N : Nat) : Int) ≠ 0 := by omega
  go_enter Tryd.func108, Tryd.ntmps108
  go_upto_region 1 with fail
  refine ent2 fun W hb g0 g1 q0 q1 => ?_
  obtain ⟨r0, r1, r2, r3⟩ := cells4q g0
  obtain ⟨k0, k1, k2, k3, k4, k5, k6, k7, k8, k9, k10⟩ := cl11 g1
  clear g0 g1
  go_wp2
  go_loopg [5, 11] h (fun g iv kv wr => wr = W ∧ ∃ k : Nat, k ≤ h ∧ g = h - k ∧ kv = .int .u8 k ∧ iv = .int .i64 (p / N ^ k : Nat))
  case atStart => exact ⟨rfl, 0, Nat.zero_le _, rfl, rfl, by simp⟩
  case round =>
    obtain ⟨rfl, k, hk, rfl, rfl, rfl⟩ := hrel
    have hlt : p / N ^ k < 256 := Nat.lt_of_le_of_lt (Nat.div_le_self _ _) hp
    by_cases hkh : k < h
    · have hdiv : p / N ^ (k + 1) = p / N ^ k / N := by rw [Nat.pow_succ, Nat.div_div_eq_div_mul]
      generalize p / N ^ k = q at *
      have hw : wrap64 ((q : Int) / (N : Int)) = ((q / N : Nat) : Int) := by
        have h1 := Nat.div_le_self q N
        rw [show (q : Int) / (N : Int) = ((q / N : Nat) : Int) from by push_cast; rfl]
        generalize q / N = z at *
        simp only [wrap64]
        omega
      go_wp2
      go_roundg (h - (k + 1))
      case measure => omega
      case rel => exact ⟨rfl, k + 1, by omega, rfl, by go_num, by rw [hdiv]; exact i64_eq hw⟩
    · obtain rfl : k = h := by omega
      go_wp2
      go_ret
      exact Ret.mk rfl hb
end Go.Proofs.YtmkehailohgebaaDoor
