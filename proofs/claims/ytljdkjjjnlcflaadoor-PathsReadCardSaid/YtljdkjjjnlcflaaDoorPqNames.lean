/- The program's own names and keys of paths: a key's names, an operation's, a key of names, whether names are a path's, a parent's key. -/
import Derived.LoopN
import Derived.Test.YtljdkjjjnlcflaaDoorPtRefMay
import Derived.Test.YtljdkjjjnlcflaaDoorPaMath
namespace Go.Proofs.YtljdkjjjnlcflaaDoor
open Go.RowKit Tb Pt Opn

/-- The names of an array, one by one. -/
theorem nm_at (a b c : Int) (W : World) : (Instr.index 70 (.agg #[.int .u64 a, .int .u64 b, .int .u64 c]) (.int .i64 0)).run Tryd.prog W = .ok (.int .u64 a) W ∧ (Instr.index 70 (.agg #[.int .u64 a, .int .u64 b, .int .u64 c]) (.int .i64 1)).run Tryd.prog W = .ok (.int .u64 b) W ∧ (Instr.index 70 (.agg #[.int .u64 a, .int .u64 b, .int .u64 c]) (.int .i64 2)).run Tryd.prog W = .ok (.int .u64 c) W :=
  ⟨by kernel_rfl, by kernel_rfl, by kernel_rfl⟩

set_option maxHeartbeats 1000000 in
theorem qNames_any (k a b c : Nat) (hk : k < 18446744073709551616) (h1 : k / 65536 / 65536 = a) (h2 : k / 65536 % 65536 = b) (h3 : k % 65536 = c) (w : World) : Calls Tryd.prog 39 #[.int .u64 k] w (Ret (.agg #[.int .u64 a, .int .u64 b, .int .u64 c]) w) := by
  obtain ⟨d, hd⟩ : ∃ d, k / 65536 = d := ⟨_, rfl⟩
  have w1 : IntKind.u64.wrap ((k : Int) / 65536) = (d : Int) := by rw [IntKind.wrap_u64]; omega
  have w2 : IntKind.u64.wrap ((d : Int) / 65536) = (a : Int) := by rw [IntKind.wrap_u64]; omega
  have w3 : (d : Int) % 65536 = (b : Int) := by omega
  have w4 : (k : Int) % 65536 = (c : Int) := by omega
  clear h1 h2 h3 hd hk
  go_enter Tryd.func39, Tryd.ntmps39
  go_wp2
  refine bodyPost_ret (v := .agg #[.int .u64 (a : Int), .int .u64 (b : Int), .int .u64 (c : Int)]) ?_ rfl ⟨rfl, ?_⟩
  · simp [results, Tryd.results39, go_sem]
  · exact below_one _ _

set_option maxHeartbeats 2000000 in
theorem qNamed_any (o : O) (ho : Wf o) (w : World) : Calls Tryd.prog 47 #[opv o] w (Ret (.agg #[.int .u64 (o.a % 65536 : Nat), .int .u64 (o.a / 65536 : Nat), .int .u64 (o.b : Nat)]) w) := by
  have hA := ho.2.1
  have hB := ho.2.2.1
  have e1 : IntKind.u64.wrap (o.a : Int) = (o.a : Int) := by rw [IntKind.wrap_u64]; omega
  have e3 : IntKind.u64.wrap (o.b : Int) = (o.b : Int) := by rw [IntKind.wrap_u64]; omega
  have w1 : IntKind.u64.wrap ((o.a : Int) / 65536) = (o.a : Int) / 65536 := by rw [IntKind.wrap_u64]; omega
  clear ho hA hB
  unfold opv
  go_enter Tryd.func47, Tryd.ntmps47
  go_wp2
  have e1 : ((o.a % 65536 : Nat) : Int) = (o.a : Int) % 65536 := by omega
  have e2 : ((o.a / 65536 : Nat) : Int) = (o.a : Int) / 65536 := by omega
  rw [e1, e2]
  refine bodyPost_ret (v := .agg #[.int .u64 ((o.a : Int) % 65536), .int .u64 ((o.a : Int) / 65536), .int .u64 (o.b : Int)]) ?_ rfl ⟨rfl, ?_⟩
  · simp [results, Tryd.results47, go_sem]
  · exact below_two _ _ _

set_option maxRecDepth 100000 in
set_option maxHeartbeats 2000000 in
theorem qKey_any (a b c z : Nat) (hz : a * 4294967296 + b * 65536 + c = z) (h : z < 18446744073709551616) (w : World) : Calls Tryd.prog 46 #[.agg #[.int .u64 a, .int .u64 b, .int .u64 c]] w (Ret (.int .u64 z) w) := by
  have e1 : IntKind.u64.wrap (a : Int) = (a : Int) := by rw [IntKind.wrap_u64]; omega
  have e2 : IntKind.u64.wrap ((a : Int) * 65536) = (a : Int) * 65536 := by rw [IntKind.wrap_u64]; omega
  have e3 : IntKind.u64.wrap ((a : Int) * 65536 + (b : Int)) = (a : Int) * 65536 + (b : Int) := by rw [IntKind.wrap_u64]; omega
  have e4 : IntKind.u64.wrap (((a : Int) * 65536 + (b : Int)) * 65536) = ((a : Int) * 65536 + (b : Int)) * 65536 := by rw [IntKind.wrap_u64]; omega
  have e5 : IntKind.u64.wrap (((a : Int) * 65536 + (b : Int)) * 65536 + (c : Int)) = (z : Int) := by rw [IntKind.wrap_u64]; omega
  have HZ := Lib.hid (And.intro hz h)
  clear hz h
  have n0 := fun a b c W => (nm_at a b c W).1
  have n1 := fun a b c W => (nm_at a b c W).2.1
  have n2 := fun a b c W => (nm_at a b c W).2.2
  go_enter Tryd.func46, Tryd.ntmps46
  go_wp2
  refine wp_loop_rounds 4 ?_
  rw [rounds_succ]
  go_wp2
  rw [rounds_succ]
  go_wp2
  rw [rounds_succ]
  go_wp2
  rw [rounds_succ]
  go_wp2
  go_ret
  exact Ret.mk rfl (below_one _ _)

set_option maxRecDepth 100000 in
set_option maxHeartbeats 4000000 in
theorem qIsPath_any (k a b c : Nat) (h1 : k / 4294967296 = a) (h2 : k / 65536 % 65536 = b) (h3 : k % 65536 = c) (w : World) : Calls Tryd.prog 38 #[.agg #[.int .u64 a, .int .u64 b, .int .u64 c]] w (Ret (.bool (decide (IsPa k))) w) := by
  obtain ⟨s, hs⟩ : ∃ s, decide (IsPa k) = s := ⟨_, rfl⟩
  rw [hs]
  replace hs : s = true ↔ IsPa k := by rw [← hs]; exact decide_eq_true_iff
  unfold IsPa at hs
  rw [h1, h2, h3] at hs
  have hb : b < 65536 := by omega
  have hc : c < 65536 := by omega
  have HS := Lib.hid (And.intro hs (And.intro hb hc))
  clear h1 h2 h3 hs hb hc
  have n0 := fun a b c W => (nm_at a b c W).1
  have n1 := fun a b c W => (nm_at a b c W).2.1
  have n2 := fun a b c W => (nm_at a b c W).2.2
  go_enter Tryd.func38, Tryd.ntmps38
  go_wp2
  refine wp_loop_rounds 4 ?_
  rw [rounds_succ]
  go_wp2
  all_goals (try (rw [rounds_succ]; go_wp2))
  all_goals (try (rw [rounds_succ]; go_wp2))
  all_goals (try (rw [rounds_succ]; go_wp2))
  all_goals go_ret
  all_goals
    obtain ⟨hs, hb, hc⟩ := HS.out
    refine Ret.mk (bool_eq ?_) (below_one _ _)
    rw [Bool.eq_iff_iff, hs]
    clear HS hs n0 n1 n2
    grind

set_option maxRecDepth 100000 in
set_option maxHeartbeats 8000000 in
theorem qParent_any (k : Nat) (hk : k < 18446744073709551616) (w : World) : Calls Tryd.prog 40 #[.int .u64 k] w (Ret (.int .u64 (par k : Nat)) w) := by
  obtain ⟨a, ha⟩ : ∃ a, k / 65536 / 65536 = a := ⟨_, rfl⟩
  obtain ⟨b, hb⟩ : ∃ b, k / 65536 % 65536 = b := ⟨_, rfl⟩
  obtain ⟨c, hc⟩ : ∃ c, k % 65536 = c := ⟨_, rfl⟩
  have HN := Lib.hid (fun W => qNames_any k a b c hk ha hb hc W)
  have hp : par k = if c ≠ 0 then a * 4294967296 + b * 65536 + 0 else if b ≠ 0 then a * 4294967296 + 0 * 65536 + 0 else 0 * 4294967296 + 0 * 65536 + 0 := by
    unfold par
    rw [hc, hb]
    split
    · omega
    · split <;> omega
  have hlt : par k < 18446744073709551616 := Nat.lt_of_le_of_lt (par_le k) hk
  have HK := Lib.hid (fun x y z h W => qKey_any x y z (par k) h hlt W)
  generalize par k = p at *
  clear ha hb hc hk hlt
  have n0 := fun a b c W => (nm_at a b c W).1
  have n1 := fun a b c W => (nm_at a b c W).2.1
  have n2 := fun a b c W => (nm_at a b c W).2.2
  have HP := Lib.hid hp
  clear hp
  rcases Nat.eq_zero_or_pos c with rfl | hc
  · rcases Nat.eq_zero_or_pos b with rfl | hb
    · have HK2 := Lib.hid (HK.out 0 0 0 (by rw [HP.out]; simp))
      clear HK HP
      go_enter Tryd.func40, Tryd.ntmps40
      go_wp2_with (go_at_call 39; refine (HN.out _).mono ?_; rintro e w1 ⟨rfl, hb1⟩; obtain ⟨hc1, hf1⟩ := bcell hb1)
      refine wp_loop_rounds 4 ?_
      rw [rounds_succ]
      go_wp2
      all_goals (try (rw [rounds_succ]; go_wp2))
      all_goals (try (rw [rounds_succ]; go_wp2))
      all_goals (try (rw [rounds_succ]; go_wp2_with (go_at_call 46; refine (HK2.out _).mono ?_; rintro e w2 ⟨rfl, hb2⟩)))
      all_goals
        go_ret
        exact Ret.mk rfl (below_then (below_then hb1 (below_one _ _)) hb2)
    · have HK2 := Lib.hid (HK.out a 0 0 (by rw [HP.out, if_neg (by simp), if_pos (by omega)]))
      have hb2 : ((b : Int) != 0) = true := bne_iff_ne.2 (by omega)
      clear HK HP
      go_enter Tryd.func40, Tryd.ntmps40
      go_wp2_with (go_at_call 39; refine (HN.out _).mono ?_; rintro e w1 ⟨rfl, hb1⟩; obtain ⟨hc1, hf1⟩ := bcell hb1)
      refine wp_loop_rounds 4 ?_
      rw [rounds_succ]
      go_wp2
      all_goals (try (rw [rounds_succ]; go_wp2))
      all_goals (try (rw [rounds_succ]; go_wp2))
      all_goals (try (rw [rounds_succ]; go_wp2_with (go_at_call 46; refine (HK2.out _).mono ?_; rintro e w2 ⟨rfl, hbk⟩)))
      all_goals
        go_ret
        exact Ret.mk rfl (below_then (below_then hb1 (below_one _ _)) hbk)
  · have HK2 := Lib.hid (HK.out a b 0 (by rw [HP.out, if_pos (by omega)]))
    have hc2 : ((c : Int) != 0) = true := bne_iff_ne.2 (by omega)
    clear HK HP
    go_enter Tryd.func40, Tryd.ntmps40
    go_wp2_with (go_at_call 39; refine (HN.out _).mono ?_; rintro e w1 ⟨rfl, hb1⟩; obtain ⟨hc1, hf1⟩ := bcell hb1)
    refine wp_loop_rounds 4 ?_
    rw [rounds_succ]
    go_wp2
    all_goals (try (rw [rounds_succ]; go_wp2))
    all_goals (try (rw [rounds_succ]; go_wp2))
    all_goals (try (rw [rounds_succ]; go_wp2_with (go_at_call 46; refine (HK2.out _).mono ?_; rintro e w2 ⟨rfl, hb2⟩)))
    all_goals
      go_ret
      exact Ret.mk rfl (below_then (below_then hb1 (below_one _ _)) hb2)
end Go.Proofs.YtljdkjjjnlcflaaDoor
