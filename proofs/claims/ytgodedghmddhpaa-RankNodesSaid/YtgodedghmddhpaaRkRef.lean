/- The document's own answers on a trie's nodes, for every number. -/
import Derived.Test.YtgodedghmddhpaaProg
import Derived.Test.YtgodedghmddhpaaBase
import Derived.Test.YtgodedghmddhpaaRkMath
namespace Go.Proofs.Ytgodedghmddhpaa
open Go.RowKit

set_option maxHeartbeats 400000 in
theorem rDeep_any (n : Int) (h : Rk.isN n = true) (w : World) :
    Calls Try.prog 12 #[.int .i64 n] w (Ret (.int .i64 (Rk.dep n)) w) := by
  have H := Lib.hid (Rk.isN_true h)
  have HD := Lib.hid (Rk.dep_bounds h)
  clear h
  go_enter Try.func12, Try.ntmps12
  go_wp2
  go_loop [0, 3] (fun v d => ∃ m k : Nat, 1 ≤ m ∧ m ≤ 127 ∧ (m.log2 : Int) + k = Rk.dep n ∧ v = .int .i64 m ∧ d = .int .i64 k) (fun v _ => (intOf v).toNat)
  case atStart =>
    have hn := H.out
    exact ⟨n.toNat, 0, by omega, by omega, by unfold Rk.dep; omega, i64_eq (by omega), rfl⟩
  case round =>
    obtain ⟨m, k, hm, hM, he, rfl, rfl⟩ := hrel
    by_cases hlt : 2 ≤ m
    · have e1 := Rk.log2_half m hlt
      have hD := HD.out
      have t1 : (1 : Int) < m := by omega
      have t2 : (k : Int) < 100 := by omega
      go_wp2
      go_round
      case rel => exact ⟨m / 2, k + 1, by omega, by omega, by omega, i64_eq (by omega), i64_eq (by omega)⟩
      case measure => simp [intOf]; omega
    · obtain rfl : m = 1 := by omega
      go_wp2
      go_ret
      exact Ret.mk (i64_eq (by rw [Rk.log2_one] at he; omega)) (Below.refl _ _)

set_option maxHeartbeats 400000 in
theorem rAbove_any (n k : Int) (h : Rk.okO n k = true) (w : World) :
    Calls Try.prog 13 #[.int .i64 n, .int .i64 k] w (Ret (.int .i64 (Rk.over n k)) w) := by
  obtain ⟨N, K, rfl, rfl, hN, hK⟩ := Rk.okO_nat h
  clear h
  go_enter Try.func13, Try.ntmps13
  go_wp2
  go_loop [0, 5] (fun v i => ∃ j : Nat, j ≤ K ∧ v = .int .i64 (N / 2 ^ j : Nat) ∧ i = .int .i64 j) (fun _ i => K - (intOf i).toNat)
  case atStart => exact ⟨0, Nat.zero_le _, by simp, rfl⟩
  case round =>
    obtain ⟨j, hj, rfl, rfl⟩ := hrel
    by_cases hlt : j < K
    · have e1 := Lib.hid (Rk.half N j)
      have e2 : N / 2 ^ j ≤ 127 := Nat.le_trans (Nat.div_le_self _ _) hN
      generalize N / 2 ^ j = q at *
      go_wp2
      go_round
      case rel => exact ⟨j + 1, by omega, i64_eq (by rw [e1.out]; simp), by go_num⟩
      case measure => simp [intOf]; omega
    · obtain rfl : j = K := by omega
      go_wp2
      go_ret
      exact Ret.mk (i64_eq (by simp [Rk.over])) (Below.refl _ _)

set_option maxHeartbeats 400000 in
theorem rDepth_any (n : Int) (w : World) :
    Calls Try.prog 7 #[.int .i64 n] w (Ret2 (.int .i64 (Rk.val (Rk.isN n) (Rk.dep n))) (.int .i64 (Rk.err (Rk.isN n))) w) := by
  cases h : Rk.isN n with
  | false =>
    have h' := Rk.isN_false h
    go_enter Try.func7, Try.ntmps7
    go_wp2
    all_goals first
      | omega
      | (go_ret2; exact Ret2.mk rfl rfl (Below.refl _ _))
  | true =>
    have h0 : 1 ≤ n := by have := Rk.isN_true h; omega
    have h1 : n ≤ 127 := by have := Rk.isN_true h; omega
    go_enter Try.func7, Try.ntmps7
    go_wp2_with (go_at_call 12; refine (rDeep_any n h _).mono ?_; rintro e w2 ⟨rfl, hb2⟩)
    go_ret2
    exact Ret2.mk rfl rfl hb2

set_option maxHeartbeats 400000 in
theorem rOver_any (n k : Int) (w : World) :
    Calls Try.prog 9 #[.int .i64 n, .int .i64 k] w (Ret2 (.int .i64 (Rk.val (Rk.okO n k) (Rk.over n k))) (.int .i64 (Rk.err (Rk.okO n k))) w) := by
  cases h : Rk.isN n with
  | false =>
    have e : Rk.okO n k = false := by unfold Rk.okO; rw [h]; rfl
    rw [e]
    have h' := Rk.isN_false h
    clear e
    go_enter Try.func9, Try.ntmps9
    go_wp2
    all_goals first
      | omega
      | (go_ret2; exact Ret2.mk rfl rfl (Below.refl _ _))
  | true =>
    have h0 : 1 ≤ n := by have := Rk.isN_true h; omega
    have h1 : n ≤ 127 := by have := Rk.isN_true h; omega
    obtain ⟨d0, d1⟩ := Rk.dep_bounds h
    cases ho : Rk.okO n k with
    | false =>
      by_cases hk : 0 ≤ k
      · have hk2 : ¬ k ≤ Rk.dep n := fun g => by rw [Rk.okO_t h hk g] at ho; cases ho
        go_enter Try.func9, Try.ntmps9
        go_wp2_with (go_at_call 12; refine (rDeep_any n h _).mono ?_; rintro e w2 ⟨rfl, hb2⟩)
        go_ret2
        exact Ret2.mk rfl rfl hb2
      · go_enter Try.func9, Try.ntmps9
        go_wp2
        go_ret2
        exact Ret2.mk rfl rfl (Below.refl _ _)
    | true =>
      have hk : 0 ≤ k := Rk.okO_lo ho
      have hk2 : k ≤ Rk.dep n := Rk.okO_hi ho
      go_enter Try.func9, Try.ntmps9
      go_wp2_with (first
        | (go_at_call 12; refine (rDeep_any n h _).mono ?_; rintro e w2 ⟨rfl, hb2⟩)
        | (go_at_call 13; refine (rAbove_any n k ho _).mono ?_; rintro e w3 ⟨rfl, hb3⟩))
      go_ret2
      exact Ret2.mk rfl rfl (below_then hb2 hb3)

set_option maxHeartbeats 1000000 in
theorem rNode_any (l p : Int) (w : World) :
    Calls Try.prog 5 #[.int .i64 l, .int .i64 p] w (Ret2 (.int .i64 (Rk.val (Rk.okP l p) (Rk.node l p))) (.int .i64 (Rk.err (Rk.okP l p))) w) := by
  by_cases h : 0 ≤ l ∧ l ≤ 6
  · obtain ⟨h0, h6⟩ := h
    by_cases hp : 0 ≤ p
    · obtain ⟨L, rfl⟩ : ∃ L : Nat, l = L := ⟨l.toNat, by omega⟩
      go_enter Try.func5, Try.ntmps5
      go_wp2
      go_loop [6, 7] (fun n i => ∃ j : Nat, j ≤ L ∧ n = .int .i64 (2 ^ j : Nat) ∧ i = .int .i64 j) (fun _ i => L - (intOf i).toNat)
      case atStart => exact ⟨0, Nat.zero_le _, rfl, rfl⟩
      case round =>
        obtain ⟨j, hj, rfl, rfl⟩ := hrel
        have e2 : 2 ^ j ≤ 64 := Rk.pow_le j (by omega)
        by_cases hlt : j < L
        · have e1 := Lib.hid (Nat.pow_succ (n := 2) (m := j))
          generalize 2 ^ j = q at *
          go_wp2
          go_round
          case rel => exact ⟨j + 1, by omega, i64_eq (by rw [e1.out]; omega), by go_num⟩
          case measure => simp [intOf]; omega
        · obtain rfl : j = L := by omega
          have eN : ∀ q : Nat, 2 ^ j = q → Rk.node (j : Int) p = (q : Int) + p := fun q hq => by rw [← hq]; rfl
          cases ho : Rk.okP (j : Int) p with
          | true =>
            have ho2 : p < ((2 ^ j : Nat) : Int) := (of_decide_eq_true ho : _ ∧ _ ∧ _ ∧ _).2.2.2
            generalize hq : 2 ^ j = q at e2 ho2 ⊢
            have eN' := Lib.hid (eN q hq)
            clear eN hq
            go_wp2
            go_ret2
            exact Ret2.mk (i64_eq eN'.out.symm) rfl (Below.refl _ _)
          | false =>
            have ho2 : ¬ p < ((2 ^ j : Nat) : Int) := fun g => by rw [Rk.okP_t h0 h6 hp g] at ho; cases ho
            generalize 2 ^ j = q at e2 ho2 ⊢
            clear eN
            go_wp2
            go_ret2
            exact Ret2.mk rfl rfl (Below.refl _ _)
    · have e : Rk.okP l p = false := Rk.okP_f (by omega)
      rw [e]
      clear e
      go_enter Try.func5, Try.ntmps5
      go_wp2
      go_ret2
      exact Ret2.mk rfl rfl (Below.refl _ _)
  · have e : Rk.okP l p = false := Rk.okP_f (by omega)
    rw [e]
    clear e
    go_enter Try.func5, Try.ntmps5
    go_wp2
    all_goals first
      | omega
      | (go_ret2; exact Ret2.mk rfl rfl (Below.refl _ _))
end Go.Proofs.Ytgodedghmddhpaa
