/- Package op: which operations fit. -/
import Derived.Test.YtljdkjjjnlcflaaDoorOpWalks
namespace Go.Proofs.YtljdkjjjnlcflaaDoor
open Go.RowKit Pt Opn

theorem fits_iff {n : Nat} {k a b c : Nat} : Fits n ⟨k, a, b, c⟩ ↔ ((k = 1 ∧ Prefix n a b ∧ c ≤ 2147483647) ∨ (k = 2 ∧ Prefix n a b ∧ c = 0) ∨ (k = 3 ∧ a < 2 ^ n ∧ b = 0 ∧ c = 0) ∨
  ((k = 4 ∨ k = 8) ∧ a ≤ 2147483647 ∧ b ≤ 2147483647 ∧ c = 0) ∨ ((k = 5 ∨ k = 6 ∨ k = 7) ∧ a ≤ 2147483647 ∧ b = 0 ∧ c = 0) ∨
  (k = 9 ∧ a ≤ 65535 ∧ b ≤ 65535 ∧ (c = 1 ∨ c = 2)) ∨ (k = 10 ∧ a ≤ 65535 ∧ b ≤ 65535 ∧ c = 0) ∨
  (k = 11 ∧ 1 ≤ a ∧ a ≤ 65535 ∧ 1 ≤ b ∧ b ≤ 65535 ∧ c = 0) ∨ (k = 12 ∧ Path a b ∧ c ≤ 2147483647) ∨ ((k = 13 ∨ k = 14) ∧ Path a b ∧ c = 0)) := Iff.rfl
theorem pow_u32 {n : Nat} (h : n ≤ 6) : ((2 : Int) ^ n % 4294967296) = ((2 ^ n : Nat) : Int) := by
  have h7 : ∀ i : Fin 7, ((2 : Int) ^ i.val % 4294967296) = ((2 ^ i.val : Nat) : Int) := by decide
  exact h7 ⟨n, by omega⟩

set_option maxRecDepth 100000 in
set_option maxHeartbeats 16000000 in
theorem fits_route (c : Cf) (k a b v : Nat) (h : 0 ≤ c.bits ∧ c.bits ≤ 6) (_ : a < 4294967296) (hk : k = 1 ∨ k = 2) (w : World) :
    Calls Tryd.prog 43 #[cfv c, .agg #[.int .u8 k, .int .u32 a, .int .u32 b, .int .u32 v]] w (Ret (.bool (decide (Fits c.bits.toNat ⟨k, a, b, v⟩))) w) := by
  have hX := isPrefix_any c a b h
  obtain ⟨n, hn⟩ : ∃ n : Nat, c.bits = n := ⟨c.bits.toNat, by omega⟩
  unfold cfv at hX ⊢
  rw [hn] at hX h ⊢
  rw [Int.toNat_natCast] at hX ⊢
  have h8 := pow_u32 (n := n) (by omega)
  obtain ⟨X, hY⟩ : ∃ X, decide (Fits n ⟨k, a, b, v⟩) = X := ⟨_, rfl⟩
  rw [hY]
  have hF := @fits_iff n k a b v
  rw [← decide_eq_true_iff (p := Fits n _), hY] at hF
  clear hY
  rcases hk with rfl | rfl
  all_goals
    go_enter Tryd.func43, Tryd.ntmps43
    go_wp2_with (first
      | (go_at_call 58; refine (hX _).mono ?_; rintro e w1 ⟨rfl, hb1⟩; obtain ⟨hc1, hf1⟩ := bcell hb1)
      | (go_at_call 61; refine (isPath_any _ _ ha _).mono ?_; rintro e w1 ⟨rfl, hb1⟩; obtain ⟨hc1, hf1⟩ := bcell hb1)
      | (go_at_call 59; refine (isValue_any a _).mono ?_; rintro e w1 ⟨rfl, hb1⟩; obtain ⟨hc1, hf1⟩ := bcell hb1)
      | (go_at_call 60; refine (isWho_any a _).mono ?_; rintro e w1 ⟨rfl, hb1⟩; obtain ⟨hc1, hf1⟩ := bcell hb1)
      | (go_at_call 59; refine (isValue_any _ _).mono ?_; rintro e w2 ⟨rfl, hb2⟩; replace hb1 := below_then hb1 hb2; clear hc1 hf1 hb2; obtain ⟨hc1, hf1⟩ := bcell hb1)
      | (go_at_call 60; refine (isWho_any _ _).mono ?_; rintro e w2 ⟨rfl, hb2⟩; replace hb1 := below_then hb1 hb2; clear hc1 hf1 hb2; obtain ⟨hc1, hf1⟩ := bcell hb1))
  all_goals go_ret
  all_goals refine Ret.mk (bool_eq ?_) (by first | exact below_then (below_two _ _ _) hb1 | exact below_two _ _ _)
  all_goals (first | clear hX h8 hc1 hf1 hb1 | clear hX h8)
  all_goals (rw [Bool.eq_iff_iff, hF]; grind)

set_option maxRecDepth 100000 in
set_option maxHeartbeats 16000000 in
theorem fits_index (c : Cf) (k a b v : Nat) (h : 0 ≤ c.bits ∧ c.bits ≤ 6) (_ : a < 4294967296) (hk : k = 4 ∨ k = 5 ∨ k = 6 ∨ k = 7 ∨ k = 8) (w : World) :
    Calls Tryd.prog 43 #[cfv c, .agg #[.int .u8 k, .int .u32 a, .int .u32 b, .int .u32 v]] w (Ret (.bool (decide (Fits c.bits.toNat ⟨k, a, b, v⟩))) w) := by
  have hX := isPrefix_any c a b h
  obtain ⟨n, hn⟩ : ∃ n : Nat, c.bits = n := ⟨c.bits.toNat, by omega⟩
  unfold cfv at hX ⊢
  rw [hn] at hX h ⊢
  rw [Int.toNat_natCast] at hX ⊢
  have h8 := pow_u32 (n := n) (by omega)
  obtain ⟨X, hY⟩ : ∃ X, decide (Fits n ⟨k, a, b, v⟩) = X := ⟨_, rfl⟩
  rw [hY]
  have hF := @fits_iff n k a b v
  rw [← decide_eq_true_iff (p := Fits n _), hY] at hF
  clear hY
  rcases hk with rfl | rfl | rfl | rfl | rfl
  all_goals
    go_enter Tryd.func43, Tryd.ntmps43
    go_wp2_with (first
      | (go_at_call 58; refine (hX _).mono ?_; rintro e w1 ⟨rfl, hb1⟩; obtain ⟨hc1, hf1⟩ := bcell hb1)
      | (go_at_call 61; refine (isPath_any _ _ ha _).mono ?_; rintro e w1 ⟨rfl, hb1⟩; obtain ⟨hc1, hf1⟩ := bcell hb1)
      | (go_at_call 59; refine (isValue_any a _).mono ?_; rintro e w1 ⟨rfl, hb1⟩; obtain ⟨hc1, hf1⟩ := bcell hb1)
      | (go_at_call 60; refine (isWho_any a _).mono ?_; rintro e w1 ⟨rfl, hb1⟩; obtain ⟨hc1, hf1⟩ := bcell hb1)
      | (go_at_call 59; refine (isValue_any _ _).mono ?_; rintro e w2 ⟨rfl, hb2⟩; replace hb1 := below_then hb1 hb2; clear hc1 hf1 hb2; obtain ⟨hc1, hf1⟩ := bcell hb1)
      | (go_at_call 60; refine (isWho_any _ _).mono ?_; rintro e w2 ⟨rfl, hb2⟩; replace hb1 := below_then hb1 hb2; clear hc1 hf1 hb2; obtain ⟨hc1, hf1⟩ := bcell hb1))
  all_goals go_ret
  all_goals refine Ret.mk (bool_eq ?_) (by first | exact below_then (below_two _ _ _) hb1 | exact below_two _ _ _)
  all_goals (first | clear hX h8 hc1 hf1 hb1 | clear hX h8)
  all_goals (rw [Bool.eq_iff_iff, hF]; grind)

set_option maxRecDepth 100000 in
set_option maxHeartbeats 16000000 in
theorem fits_access (c : Cf) (k a b v : Nat) (h : 0 ≤ c.bits ∧ c.bits ≤ 6) (_ : a < 4294967296) (hk : k = 9 ∨ k = 10 ∨ k = 11) (w : World) :
    Calls Tryd.prog 43 #[cfv c, .agg #[.int .u8 k, .int .u32 a, .int .u32 b, .int .u32 v]] w (Ret (.bool (decide (Fits c.bits.toNat ⟨k, a, b, v⟩))) w) := by
  have hX := isPrefix_any c a b h
  obtain ⟨n, hn⟩ : ∃ n : Nat, c.bits = n := ⟨c.bits.toNat, by omega⟩
  unfold cfv at hX ⊢
  rw [hn] at hX h ⊢
  rw [Int.toNat_natCast] at hX ⊢
  have h8 := pow_u32 (n := n) (by omega)
  obtain ⟨X, hY⟩ : ∃ X, decide (Fits n ⟨k, a, b, v⟩) = X := ⟨_, rfl⟩
  rw [hY]
  have hF := @fits_iff n k a b v
  rw [← decide_eq_true_iff (p := Fits n _), hY] at hF
  clear hY
  rcases hk with rfl | rfl | rfl
  all_goals
    go_enter Tryd.func43, Tryd.ntmps43
    go_wp2_with (first
      | (go_at_call 58; refine (hX _).mono ?_; rintro e w1 ⟨rfl, hb1⟩; obtain ⟨hc1, hf1⟩ := bcell hb1)
      | (go_at_call 61; refine (isPath_any _ _ ha _).mono ?_; rintro e w1 ⟨rfl, hb1⟩; obtain ⟨hc1, hf1⟩ := bcell hb1)
      | (go_at_call 59; refine (isValue_any a _).mono ?_; rintro e w1 ⟨rfl, hb1⟩; obtain ⟨hc1, hf1⟩ := bcell hb1)
      | (go_at_call 60; refine (isWho_any a _).mono ?_; rintro e w1 ⟨rfl, hb1⟩; obtain ⟨hc1, hf1⟩ := bcell hb1)
      | (go_at_call 59; refine (isValue_any _ _).mono ?_; rintro e w2 ⟨rfl, hb2⟩; replace hb1 := below_then hb1 hb2; clear hc1 hf1 hb2; obtain ⟨hc1, hf1⟩ := bcell hb1)
      | (go_at_call 60; refine (isWho_any _ _).mono ?_; rintro e w2 ⟨rfl, hb2⟩; replace hb1 := below_then hb1 hb2; clear hc1 hf1 hb2; obtain ⟨hc1, hf1⟩ := bcell hb1))
  all_goals go_ret
  all_goals refine Ret.mk (bool_eq ?_) (by first | exact below_then (below_two _ _ _) hb1 | exact below_two _ _ _)
  all_goals (first | clear hX h8 hc1 hf1 hb1 | clear hX h8)
  all_goals (rw [Bool.eq_iff_iff, hF]; grind)

set_option maxRecDepth 100000 in
set_option maxHeartbeats 16000000 in
theorem fits_config (c : Cf) (k a b v : Nat) (h : 0 ≤ c.bits ∧ c.bits ≤ 6) (ha : a < 4294967296) (hk : k = 12 ∨ k = 13 ∨ k = 14) (w : World) :
    Calls Tryd.prog 43 #[cfv c, .agg #[.int .u8 k, .int .u32 a, .int .u32 b, .int .u32 v]] w (Ret (.bool (decide (Fits c.bits.toNat ⟨k, a, b, v⟩))) w) := by
  have hX := isPrefix_any c a b h
  obtain ⟨n, hn⟩ : ∃ n : Nat, c.bits = n := ⟨c.bits.toNat, by omega⟩
  unfold cfv at hX ⊢
  rw [hn] at hX h ⊢
  rw [Int.toNat_natCast] at hX ⊢
  have h8 := pow_u32 (n := n) (by omega)
  obtain ⟨X, hY⟩ : ∃ X, decide (Fits n ⟨k, a, b, v⟩) = X := ⟨_, rfl⟩
  rw [hY]
  have hF := @fits_iff n k a b v
  rw [← decide_eq_true_iff (p := Fits n _), hY] at hF
  clear hY
  rcases hk with rfl | rfl | rfl
  all_goals
    go_enter Tryd.func43, Tryd.ntmps43
    go_wp2_with (first
      | (go_at_call 58; refine (hX _).mono ?_; rintro e w1 ⟨rfl, hb1⟩; obtain ⟨hc1, hf1⟩ := bcell hb1)
      | (go_at_call 61; refine (isPath_any _ _ ha _).mono ?_; rintro e w1 ⟨rfl, hb1⟩; obtain ⟨hc1, hf1⟩ := bcell hb1)
      | (go_at_call 59; refine (isValue_any a _).mono ?_; rintro e w1 ⟨rfl, hb1⟩; obtain ⟨hc1, hf1⟩ := bcell hb1)
      | (go_at_call 60; refine (isWho_any a _).mono ?_; rintro e w1 ⟨rfl, hb1⟩; obtain ⟨hc1, hf1⟩ := bcell hb1)
      | (go_at_call 59; refine (isValue_any _ _).mono ?_; rintro e w2 ⟨rfl, hb2⟩; replace hb1 := below_then hb1 hb2; clear hc1 hf1 hb2; obtain ⟨hc1, hf1⟩ := bcell hb1)
      | (go_at_call 60; refine (isWho_any _ _).mono ?_; rintro e w2 ⟨rfl, hb2⟩; replace hb1 := below_then hb1 hb2; clear hc1 hf1 hb2; obtain ⟨hc1, hf1⟩ := bcell hb1))
  all_goals go_ret
  all_goals refine Ret.mk (bool_eq ?_) (by first | exact below_then (below_two _ _ _) hb1 | exact below_two _ _ _)
  all_goals (first | clear hX h8 hc1 hf1 hb1 | clear hX h8)
  all_goals (rw [Bool.eq_iff_iff, hF]; grind)

set_option maxRecDepth 100000 in
set_option maxHeartbeats 4000000 in
theorem fits_look (c : Cf) (a b v : Nat) (h : 0 ≤ c.bits ∧ c.bits ≤ 6) (w : World) :
    Calls Tryd.prog 43 #[cfv c, .agg #[.int .u8 3, .int .u32 a, .int .u32 b, .int .u32 v]] w (Ret (.bool (decide (Fits c.bits.toNat ⟨3, a, b, v⟩))) w) := by
  obtain ⟨n, hn⟩ : ∃ n : Nat, c.bits = n := ⟨c.bits.toNat, by omega⟩
  unfold cfv
  rw [hn] at h ⊢
  rw [Int.toNat_natCast]
  have h8 := pow_u32 (n := n) (by omega)
  obtain ⟨X, hY⟩ : ∃ X, decide (Fits n ⟨3, a, b, v⟩) = X := ⟨_, rfl⟩
  rw [hY]
  have hF := @fits_iff n 3 a b v
  rw [← decide_eq_true_iff (p := Fits n _), hY] at hF
  generalize 2 ^ n = q at h8 hF
  have hF2 : X = true ↔ a < q ∧ b = 0 ∧ v = 0 := by rw [hF]; grind
  clear hF hY
  go_enter Tryd.func43, Tryd.ntmps43
  go_wp2
  obtain ⟨W, hW⟩ : ∃ W, W = (w.alloc (Obj.cells #[Value.int IntKind.u8 c.obj, Value.int IntKind.i64 c.inst, Value.int IntKind.i64 c.thr, Value.int IntKind.u8 c.kind, Value.int IntKind.i64 c.str, Value.int IntKind.i64 (n : Nat), Value.int IntKind.i64 c.cap, Value.int IntKind.i64 c.node, Value.int IntKind.i64 c.bat, Value.int IntKind.i64 c.chunk, Value.int IntKind.u64 c.lim, Value.int IntKind.u64 c.most] 33)).alloc (Obj.cells #[Value.int IntKind.u8 3, Value.int IntKind.u32 a, Value.int IntKind.u32 b, Value.int IntKind.u32 v] 35) := ⟨_, rfl⟩
  have hb2 : Below w.heap.size w W := by rw [hW]; exact below_two _ _ _
  rw [← hW]
  have k0 := cell_regrown (show W.cell? ⟨w.heap.size, 5, none⟩ = some (.int .i64 n) by rw [hW]; simp [go_sem])
  have k1 := cell_regrown (show W.cell? ⟨w.heap.size + 1, 1, none⟩ = some (.int .u32 a) by rw [hW]; simp [go_sem])
  have k2 := cell_regrown (show W.cell? ⟨w.heap.size + 1, 2, none⟩ = some (.int .u32 b) by rw [hW]; simp [go_sem])
  have k3 := cell_regrown (show W.cell? ⟨w.heap.size + 1, 3, none⟩ = some (.int .u32 v) by rw [hW]; simp [go_sem])
  have FIN := Lib.hid (fun (x : Bool) (w4 : World) (e : x = X) (h : Below w.heap.size w w4) => (Ret.mk (bool_eq e) h : Ret (.bool X) w (.returned (.bool x)) w4))
  have HF := Lib.hid hF2
  clear hW hF2
  by_cases h1 : (a : Int) < (q : Int)
  · have h1' : decide ((a : Int) < (q : Int)) = true := decide_eq_true h1
    by_cases h2 : b = 0
    · have h2' : ((b : Int) == 0) = true := by rw [h2]; rfl
      refine wp_region_quiet_below (by kernel_rfl) (by kernel_rfl) ?_
      repeat (go_big_quiet_step (fail))
      refine wpQuiet_nil ?_
      intro _ hw'
      obtain ⟨⟨dq, osq⟩, hw''⟩ := hw'
      subst hw''
      go_wp2
      go_ret
      exact FIN.out _ _ (by have := HF.out; grind) (below_then hb2 (below_regrown W dq osq))
    · have h2' : ((b : Int) == 0) = false := by simp [h2]
      have h3 : ¬ (b : Int) = 0 := by omega
      refine wp_region_quiet_below (by kernel_rfl) (by kernel_rfl) ?_
      repeat (go_big_quiet_step (fail))
      refine wpQuiet_nil ?_
      intro _ hw'
      obtain ⟨⟨dq, osq⟩, hw''⟩ := hw'
      subst hw''
      go_wp2
      go_ret
      exact FIN.out _ _ (by have := HF.out; grind) (below_then hb2 (below_regrown W dq osq))
  · have h1' : decide ((a : Int) < (q : Int)) = false := decide_eq_false h1
    refine wp_region_quiet_below (by kernel_rfl) (by kernel_rfl) ?_
    repeat (go_big_quiet_step (fail))
    refine wpQuiet_nil ?_
    intro _ hw'
    obtain ⟨⟨dq, osq⟩, hw''⟩ := hw'
    subst hw''
    go_wp2
    go_ret
    exact FIN.out _ _ (by have := HF.out; grind) (below_then hb2 (below_regrown W dq osq))
end Go.Proofs.YtljdkjjjnlcflaaDoor
