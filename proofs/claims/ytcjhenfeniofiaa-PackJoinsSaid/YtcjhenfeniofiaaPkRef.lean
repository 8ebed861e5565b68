/- The document's own answers for package pack, for every number (but for those that go through lists). -/
import Derived.Test.YtcjhenfeniofiaaProg
import Derived.Test.YtcjhenfeniofiaaBase
import Derived.Test.YtcjhenfeniofiaaPkMath
import Derived.Deep.RegionWith
namespace Go.Proofs.Ytcjhenfeniofiaa
open Go.RowKit

set_option maxHeartbeats 400000 in
theorem rBit_any (x n : Nat) (hx : x < 18446744073709551616) (hn : n < 64) (w : World) :
    Calls Try.prog 34 #[.int .u64 x, .int .i64 n] w (Ret (.int .u64 (x / 2 ^ n % 2 : Nat)) w) := by
  have HX := Lib.hid hx
  clear hx
  go_enter Try.func34, Try.ntmps34
  go_wp2
  go_ret
  exact Ret.mk (u64_eq (Pk.bit_eq x n)) (Below.refl _ _)

theorem rBit_at (x n : Nat) (z : Int) (hz : z = n) (hx : x < 18446744073709551616) (hn : n < 64) (w : World) :
    Calls Try.prog 34 #[.int .u64 x, .int .i64 z] w (Ret (.int .u64 (x / 2 ^ n % 2 : Nat)) w) := by
  subst hz; exact rBit_any x n hx hn w

set_option maxHeartbeats 400000 in
theorem rIs_any (a b : Int) (w : World) :
    Calls Try.prog 26 #[.int .i64 a, .int .i64 b] w (Ret (.bool (Pk.inW a b)) w) := by
  go_enter Try.func26, Try.ntmps26
  go_wp2
  all_goals go_ret
  all_goals exact Ret.mk (bool_eq (by unfold Pk.inW; rw [Bool.eq_iff_iff]; simp; omega)) (Below.refl _ _)

set_option maxHeartbeats 400000 in
theorem rTwo_any (n : Nat) (hn : n < 64) (w : World) :
    Calls Try.prog 35 #[.int .i64 n] w (Ret (.int .u64 (2 ^ n : Nat)) w) := by
  go_enter Try.func35, Try.ntmps35
  go_wp2
  go_loop [3, 4] (fun v i => ∃ k : Nat, k ≤ n ∧ i = .int .i64 k ∧ v = .int .u64 (2 ^ k : Nat)) (fun _ i => n - (intOf i).toNat)
  case atStart => exact ⟨0, Nat.zero_le _, rfl, rfl⟩
  case round =>
    obtain ⟨k, hk, rfl, rfl⟩ := hrel
    by_cases hlt : k < n
    · go_wp2
      go_round
      case rel => exact ⟨k + 1, by omega, by go_num, u64_eq (Pk.two_eq k (by omega))⟩
      case measure => simp [intOf]; omega
    · obtain rfl : k = n := by omega
      go_wp2
      go_ret
      exact Ret.mk rfl (Below.refl _ _)

set_option maxHeartbeats 400000 in
theorem rFits_any (v n : Nat) (hv : v < 18446744073709551616) (hn : n ≤ 64) (w : World) :
    Calls Try.prog 28 #[.int .u64 v, .int .i64 n] w (Ret (.bool (Pk.fitsB v n)) w) := by
  by_cases h : n = 64
  · subst h
    have e : Pk.fitsB v 64 = true := by unfold Pk.fitsB; simpa using hv
    rw [e]
    clear hv e
    go_enter Try.func28, Try.ntmps28
    go_wp2
    go_ret
    exact Ret.mk rfl (Below.refl _ _)
  · clear hv
    have hd : decide ((64 : Int) ≤ n) = false := by simp; omega
    go_enter Try.func28, Try.ntmps28
    go_wp2_with (go_at_call 35; refine (rTwo_any _ (by omega) _).mono ?_; rintro e w' ⟨rfl, hb1⟩)
    go_ret
    exact Ret.mk (bool_eq (Pk.lt_pow_eq v n)) hb1

set_option maxHeartbeats 400000 in
theorem rField_any (x a b : Nat) (hx : x < 18446744073709551616) (h : a + b ≤ 64) (w : World) :
    Calls Try.prog 27 #[.int .u64 x, .int .i64 a, .int .i64 b] w (Ret (.int .u64 (Pk.field x a b : Nat)) w) := by
  have HX := Lib.hid hx
  clear hx
  go_enter Try.func27, Try.ntmps27
  go_wp2
  go_loopw [7, 8] (fun v i wr => ∃ k : Nat, k ≤ b ∧ i = .int .i64 ((k : Int) - 1) ∧ v = .int .u64 (Pk.field x a b / 2 ^ k : Nat) ∧ Below w.heap.size w wr) (fun _ i _ => (intOf i + 1).toNat)
  case atStart => exact ⟨b, Nat.le_refl _, rfl, by rw [Pk.field_top]; rfl, Below.refl _ _⟩
  case round =>
    obtain ⟨k, hk, rfl, rfl, hbr⟩ := hrel
    by_cases hlt : 1 ≤ k
    · obtain ⟨j, rfl⟩ : ∃ j, k = j + 1 := ⟨k - 1, by omega⟩
      have e1 : ((j + 1 : Nat) : Int) - 1 = (j : Int) := by omega
      rw [e1]
      clear e1
      go_wp2_with (go_at_call 34; refine (rBit_any x (a + j) HX.out (by omega) _).mono ?_; rintro e w' ⟨rfl, hb1⟩)
      go_roundw
      case rel => exact ⟨j, by omega, rfl, u64_eq (Pk.step_eq _ x j (a + j) (Pk.field_le x a b HX.out) (Pk.field_step x a b j (by omega))), below_then hbr hb1⟩
      case measure => simp [intOf]
    · obtain rfl : k = 0 := by omega
      go_wp2
      go_ret
      exact Ret.mk (u64_eq (by simp)) hbr

set_option maxHeartbeats 400000 in
theorem rWith_any (x a b v : Nat) (hx : x < 18446744073709551616) (hv : v < 2 ^ b) (h : a + b ≤ 64) (w : World) :
    Calls Try.prog 29 #[.int .u64 x, .int .i64 a, .int .i64 b, .int .u64 v] w (Ret (.int .u64 (Pk.put x a b v : Nat)) w) := by
  have HX := Lib.hid hx
  have HV := Lib.hid hv
  have HP := Lib.hid (Pk.put_lt x a b v hx hv h)
  have HW := Lib.hid (Pk.lt_word v b hv (by omega))
  clear hx hv
  go_enter Try.func29, Try.ntmps29
  go_wp2
  go_loopw [9, 10] (fun o i wr => ∃ k : Nat, k ≤ 64 ∧ i = .int .i64 ((k : Int) - 1) ∧ o = .int .u64 (Pk.put x a b v / 2 ^ k : Nat) ∧ Below w.heap.size w wr) (fun _ i _ => (intOf i + 1).toNat)
  case atStart => exact ⟨64, Nat.le_refl _, rfl, by rw [Nat.div_eq_of_lt (by simpa using HP.out)]; rfl, Below.refl _ _⟩
  case round =>
    obtain ⟨k, hk, rfl, rfl, hbr⟩ := hrel
    by_cases hlt : 1 ≤ k
    · obtain ⟨j, rfl⟩ : ∃ j, k = j + 1 := ⟨k - 1, by omega⟩
      have e1 : ((j + 1 : Nat) : Int) - 1 = (j : Int) := by omega
      rw [e1]
      clear e1
      by_cases hin : a ≤ j ∧ j < a + b
      · obtain ⟨hi1, hi2⟩ := hin
        go_wp2_with (first
          | (go_at_call_of 34 x; refine (rBit_at x j _ rfl HX.out (by omega) _).mono ?_; rintro e w1 ⟨rfl, hb1⟩)
          | (go_at_call_of 34 v; refine (rBit_at v (j - a) _ (by omega) HW.out (by omega) _).mono ?_; rintro e w2 ⟨rfl, hb2⟩))
        go_roundw
        case rel => exact ⟨j, by omega, rfl, u64_eq (Pk.step_eq _ v j (j - a) HP.out (Pk.put_step_in x a b v j HX.out HV.out h hi1 hi2)), below_then (below_then hbr hb1) hb2⟩
        case measure => simp [intOf]
      · have hst := Lib.hid (Pk.put_step_out x a b v j HX.out HV.out h hin)
        by_cases hc : a ≤ j
        · have hc2 : a + b ≤ j := by omega
          clear hin
          go_wp2_with (go_at_call 34; refine (rBit_at x j _ rfl HX.out (by omega) _).mono ?_; rintro e w1 ⟨rfl, hb1⟩)
          go_roundw
          case rel => exact ⟨j, by omega, rfl, u64_eq (Pk.step_eq _ x j j HP.out hst.out), below_then hbr hb1⟩
          case measure => simp [intOf]
        · have hc2 : j < a := by omega
          clear hin hc
          go_wp2_with (go_at_call 34; refine (rBit_at x j _ rfl HX.out (by omega) _).mono ?_; rintro e w1 ⟨rfl, hb1⟩)
          go_roundw
          case rel => exact ⟨j, by omega, rfl, u64_eq (Pk.step_eq _ x j j HP.out hst.out), below_then hbr hb1⟩
          case measure => simp [intOf]
    · obtain rfl : k = 0 := by omega
      go_wp2
      go_ret
      exact Ret.mk (u64_eq (by simp)) hbr

set_option maxHeartbeats 400000 in
theorem rGet_bad (x a b : Int) (h : Pk.inW a b = false) (w : World) :
    Calls Try.prog 13 #[.int .u64 x, .int .i64 a, .int .i64 b] w (Ret2 (.int .u64 0) (.int .i64 2) w) := by
  go_enter Try.func13, Try.ntmps13
  go_wp2_with (go_at_call 26; refine (rIs_any _ _ _).mono ?_; rintro e w' ⟨rfl, hb1⟩)
  go_ret2
  exact Ret2.mk rfl rfl hb1

set_option maxHeartbeats 400000 in
theorem rGet_ok (x a b : Nat) (hx : x < 18446744073709551616) (h1 : 1 ≤ b) (h : a + b ≤ 64) (w : World) :
    Calls Try.prog 13 #[.int .u64 x, .int .i64 a, .int .i64 b] w (Ret2 (.int .u64 (Pk.field x a b : Nat)) (.int .i64 0) w) := by
  have hin : Pk.inW a b = true := Pk.inW_mk h1 h
  have HX := Lib.hid hx
  clear hx
  go_enter Try.func13, Try.ntmps13
  go_wp2_with (first
    | (go_at_call 26; refine (rIs_any _ _ _).mono ?_; rintro e w' ⟨rfl, hb1⟩)
    | (go_at_call 27; refine (rField_any x a b HX.out h _).mono ?_; rintro e w2 ⟨rfl, hb2⟩))
  go_ret2
  exact Ret2.mk rfl rfl (below_then hb1 hb2)

set_option maxHeartbeats 400000 in
theorem rPut_bad (x a b v : Int) (h : Pk.inW a b = false) (w : World) :
    Calls Try.prog 14 #[.int .u64 x, .int .i64 a, .int .i64 b, .int .u64 v] w (Ret2 (.int .u64 0) (.int .i64 2) w) := by
  go_enter Try.func14, Try.ntmps14
  go_wp2_with (go_at_call 26; refine (rIs_any _ _ _).mono ?_; rintro e w' ⟨rfl, hb1⟩)
  go_ret2
  exact Ret2.mk rfl rfl hb1

set_option maxHeartbeats 400000 in
theorem rPut_over (x : Int) (a b v : Nat) (h1 : 1 ≤ b) (h : a + b ≤ 64) (hw : v < 18446744073709551616) (hv : Pk.fitsB v b = false) (w : World) :
    Calls Try.prog 14 #[.int .u64 x, .int .i64 a, .int .i64 b, .int .u64 v] w (Ret2 (.int .u64 0) (.int .i64 10) w) := by
  have hin : Pk.inW a b = true := Pk.inW_mk h1 h
  have HW := Lib.hid hw
  clear hw
  go_enter Try.func14, Try.ntmps14
  go_wp2_with (first
    | (go_at_call 26; refine (rIs_any _ _ _).mono ?_; rintro e w' ⟨rfl, hb1⟩)
    | (go_at_call 28; refine (rFits_any v b HW.out (by omega) _).mono ?_; rintro e w2 ⟨rfl, hb2⟩))
  go_ret2
  exact Ret2.mk rfl rfl (below_then hb1 hb2)

set_option maxHeartbeats 400000 in
theorem rPut_ok (x a b v : Nat) (hx : x < 18446744073709551616) (h1 : 1 ≤ b) (h : a + b ≤ 64) (hv : Pk.fitsB v b = true) (w : World) :
    Calls Try.prog 14 #[.int .u64 x, .int .i64 a, .int .i64 b, .int .u64 v] w (Ret2 (.int .u64 (Pk.put x a b v : Nat)) (.int .i64 0) w) := by
  have hin : Pk.inW a b = true := Pk.inW_mk h1 h
  have HX := Lib.hid hx
  have HV := Lib.hid (Pk.fits_lt hv)
  have HW := Lib.hid (Pk.lt_word v b (Pk.fits_lt hv) (by omega))
  clear hx
  go_enter Try.func14, Try.ntmps14
  go_wp2_with (first
    | (go_at_call 26; refine (rIs_any _ _ _).mono ?_; rintro e w' ⟨rfl, hb1⟩)
    | (go_at_call 28; refine (rFits_any v b HW.out (by omega) _).mono ?_; rintro e w2 ⟨rfl, hb2⟩)
    | (go_at_call 29; refine (rWith_any x a b v HX.out HV.out h _).mono ?_; rintro e w3 ⟨rfl, hb3⟩))
  go_ret2
  exact Ret2.mk rfl rfl (below_then (below_then hb1 hb2) hb3)
end Go.Proofs.Ytcjhenfeniofiaa
