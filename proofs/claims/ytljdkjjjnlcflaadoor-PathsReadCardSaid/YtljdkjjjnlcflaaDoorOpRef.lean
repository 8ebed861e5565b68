/- The document's own answers on operations. -/
import Derived.Test.YtljdkjjjnlcflaaDoorPtRefMay
import Derived.Test.YtljdkjjjnlcflaaDoorOpMath
import Derived.Deep.LoopGhost
namespace Go.Proofs.YtljdkjjjnlcflaaDoor
open Go.RowKit Pt Opn

set_option maxHeartbeats 400000 in
theorem rObject_any (k : Nat) (w : World) : Calls Tryd.prog 52 #[.int .u8 k] w (Ret (.int .u8 (objAt k : Nat)) w) := by
  obtain ⟨z, hz⟩ : ∃ z, objAt k = z := ⟨_, rfl⟩
  rw [hz]
  unfold objAt at hz
  go_enter Tryd.func52, Tryd.ntmps52
  go_wp2
  all_goals go_ret
  all_goals refine Ret.mk ?_ (Below.refl _ _)
  all_goals (refine congrArg (Value.int .u8) ?_)
  all_goals grind

set_option maxHeartbeats 1000000 in
theorem rPrefix_any (n a b : Nat) (hn : n ≤ 6) (w : World) : Calls Tryd.prog 69 #[.int .i64 n, .int .u32 a, .int .u32 b] w (Ret (.bool (decide (Prefix n a b))) w) := by
  have hw : IntKind.u32.wrap (n : Int) = n := by rw [IntKind.wrap_u32]; omega
  by_cases hb : b ≤ n
  · have hb' : ¬ (n : Int) < (b : Int) := by omega
    go_enter Tryd.func69, Tryd.ntmps69
    go_wp2
    go_loopg [7, 8] b (fun g nv iv wr => w = wr ∧ ∃ i : Nat, i ≤ b ∧ g = b - i ∧ nv = .int .u32 (2 ^ i : Nat) ∧ iv = .int .u32 i)
    case atStart => exact ⟨rfl, 0, Nat.zero_le _, rfl, rfl, rfl⟩
    case round =>
      obtain ⟨rfl, i, hi, rfl, rfl, rfl⟩ := hrel
      by_cases hlt : i < b
      · have hq : ∀ i : Fin 7, 2 ^ i.val ≤ 64 := by decide
        have hq := hq ⟨i, by omega⟩
        simp only at hq
        obtain ⟨q, hqe⟩ : ∃ q, 2 ^ i = q := ⟨_, rfl⟩
        rw [hqe] at hq
        have HE := Lib.hid hqe
        rw [hqe]
        clear hqe
        have hlt' : (i : Int) < (b : Int) := by omega
        go_wp2
        go_roundg (b - (i + 1))
        case measure => omega
        case rel => exact ⟨rfl, i + 1, by omega, rfl, by rw [Nat.pow_succ, HE.out]; refine congrArg (Value.int .u32) ?_; omega, by go_num⟩
      · obtain rfl : i = b := by omega
        have hq : ∀ i : Fin 7, 2 ^ i.val ≤ 64 := by decide
        have hq := hq ⟨i, by omega⟩
        simp only at hq
        obtain ⟨q, hqe⟩ : ∃ q, 2 ^ i = q := ⟨_, rfl⟩
        have HE := Lib.hid hqe
        rw [hqe] at hq ⊢
        clear hqe
        have hlt' : ¬ (i : Int) < (i : Int) := by omega
        go_wp2
        go_ret
        exact Ret.mk (bool_eq (by rw [Bool.eq_iff_iff]; simp; unfold Prefix; rw [HE.out]; omega)) (Below.refl _ _)
  · have hb' : (n : Int) < (b : Int) := by omega
    have hX : decide (Prefix n a b) = false := decide_eq_false (by unfold Prefix; omega)
    rw [hX]
    go_enter Tryd.func69, Tryd.ntmps69
    go_wp2
    go_ret
    exact Ret.mk rfl (Below.refl _ _)

set_option maxHeartbeats 1000000 in
theorem rNames_any (o : O) (ho : o.a < 4294967296) (w : World) : Calls Tryd.prog 34 #[opv o] w (Ret (.agg #[.int .u32 (o.a % 65536 : Nat), .int .u32 (o.a / 65536 : Nat), .int .u32 o.b]) w) := by
  unfold opv
  go_enter Tryd.func34, Tryd.ntmps34
  go_wp2
  have e1 : ((o.a % 65536 : Nat) : Int) = (o.a : Int) % 65536 := by omega
  have e2 : ((o.a / 65536 : Nat) : Int) = (o.a : Int) / 65536 := by omega
  rw [e1, e2]
  refine bodyPost_ret (v := .agg #[.int .u32 ((o.a : Int) % 65536), .int .u32 ((o.a : Int) / 65536), .int .u32 o.b]) ?_ rfl ⟨rfl, ?_⟩
  · simp [results, Tryd.results34, go_sem]
  · exact below_two _ _ _

set_option maxHeartbeats 1000000 in
theorem rPath_any (o : O) (ho : o.a < 4294967296) (w : World) : Calls Tryd.prog 70 #[opv o] w (Ret (.bool (decide (Path o.a o.b))) w) := by
  have hN := rNames_any o ho
  obtain ⟨d, hd⟩ : ∃ d, o.a / 65536 = d := ⟨_, rfl⟩
  obtain ⟨m, hm⟩ : ∃ m, o.a % 65536 = m := ⟨_, rfl⟩
  have hP : decide (Path o.a o.b) = decide (m ≠ 0 ∧ o.b ≤ 65535 ∧ (d ≠ 0 ∨ o.b = 0)) := by rw [decide_eq_decide]; unfold Path; rw [hd, hm]
  rw [hP]
  rw [hd, hm] at hN
  clear hP hd hm ho
  unfold opv at hN ⊢
  go_enter Tryd.func70, Tryd.ntmps70
  go_wp2_with (go_at_call 34; refine (hN _).mono ?_; rintro e w1 ⟨rfl, hb1⟩; obtain ⟨hc1, hf1⟩ := bcell hb1)
  all_goals go_ret
  all_goals refine Ret.mk (bool_eq ?_) (by first | exact below_then (below_one _ _) (below_then hb1 (below_one _ _)) | exact below_then (below_two _ _ _) hb1 | exact below_then (below_one _ _) hb1)
  all_goals (clear hN hc1 hf1 hb1)
  all_goals (rw [Bool.eq_iff_iff]; grind)
end Go.Proofs.YtljdkjjjnlcflaaDoor
