/- The document's own model of a tree of settings: keys, names, parents, whether rows may be a tree's. -/
import Derived.Test.YtljdkjjjnlcflaaDoorRowRef
import Derived.Test.YtljdkjjjnlcflaaDoorOpRefChk
import Derived.Test.YtljdkjjjnlcflaaDoorPtRefMay
import Derived.Test.YtljdkjjjnlcflaaDoorPaMath
namespace Go.Proofs.YtljdkjjjnlcflaaDoor
open Go.RowKit Tb Pt Opn

set_option maxHeartbeats 1000000 in
theorem pNames_any (k : Nat) (hk : k < 18446744073709551616) (w : World) : Calls Tryd.prog 36 #[.int .u64 k] w (Ret (.agg #[.int .u64 (k / 4294967296 : Nat), .int .u64 (k / 65536 % 65536 : Nat), .int .u64 (k % 65536 : Nat)]) w) := by
  go_enter Tryd.func36, Tryd.ntmps36
  go_wp2
  have e1 : ((k / 4294967296 : Nat) : Int) = (k : Int) / 4294967296 := by omega
  have e2 : ((k / 65536 % 65536 : Nat) : Int) = (k : Int) / 65536 % 65536 := by omega
  have e3 : ((k % 65536 : Nat) : Int) = (k : Int) % 65536 := by omega
  rw [e1, e2, e3]
  refine bodyPost_ret (v := .agg #[.int .u64 ((k : Int) / 4294967296), .int .u64 ((k : Int) / 65536 % 65536), .int .u64 ((k : Int) % 65536)]) ?_ rfl ⟨rfl, ?_⟩
  · simp [results, Tryd.results36, go_sem]
  · exact below_one _ _

set_option maxHeartbeats 1000000 in
theorem pKey_any (a b c z : Nat) (hz : a * 4294967296 + b * 65536 + c = z) (h : z < 18446744073709551616) (w : World) : Calls Tryd.prog 35 #[.agg #[.int .u64 a, .int .u64 b, .int .u64 c]] w (Ret (.int .u64 z) w) := by
  have e1 : IntKind.u64.wrap ((a : Int) * 4294967296) = (a : Int) * 4294967296 := by rw [IntKind.wrap_u64]; omega
  have e2 : IntKind.u64.wrap ((b : Int) * 65536) = (b : Int) * 65536 := by rw [IntKind.wrap_u64]; omega
  have e3 : IntKind.u64.wrap ((a : Int) * 4294967296 + (b : Int) * 65536) = (a : Int) * 4294967296 + (b : Int) * 65536 := by rw [IntKind.wrap_u64]; omega
  have e4 : IntKind.u64.wrap ((a : Int) * 4294967296 + (b : Int) * 65536 + (c : Int)) = (z : Int) := by rw [IntKind.wrap_u64]; omega
  have HZ := Lib.hid (And.intro hz h)
  clear hz h
  go_enter Tryd.func35, Tryd.ntmps35
  go_wp2
  go_ret
  exact Ret.mk rfl (below_one _ _)

set_option maxHeartbeats 2000000 in
theorem pPath_any (o : O) (ho : Wf o) (w : World) : Calls Tryd.prog 18 #[opv o] w (Ret (.int .u64 (pth o : Nat)) w) := by
  have HN := Lib.hid (rNames_any o ho.2.1)
  have HK := Lib.hid (pKey_any (o.a % 65536) (o.a / 65536) o.b (pth o) rfl (by unfold Wf at ho; unfold pth; omega))
  have h1 : o.a % 65536 < 65536 := by omega
  have h2 : o.a / 65536 < 65536 := by have := ho.2.1; omega
  have h3 := ho.2.2.1
  generalize pth o = z at *
  generalize o.a % 65536 = x at *
  generalize o.a / 65536 = y at *
  have e1 : IntKind.u64.wrap (x : Int) = (x : Int) := by rw [IntKind.wrap_u64]; omega
  have e2 : IntKind.u64.wrap (y : Int) = (y : Int) := by rw [IntKind.wrap_u64]; omega
  have e3 : IntKind.u64.wrap (o.b : Int) = (o.b : Int) := by rw [IntKind.wrap_u64]; omega
  clear ho h1 h2 h3
  unfold opv at *
  go_enter Tryd.func18, Tryd.ntmps18
  go_wp2_with (first
    | (go_at_call 34; refine (HN.out _).mono ?_; rintro e w1 ⟨rfl, hb1⟩; obtain ⟨hc1, hf1⟩ := bcell hb1)
    | (go_at_call 35; refine (HK.out _).mono ?_; rintro e w2 ⟨rfl, hb2⟩))
  go_ret
  exact Ret.mk rfl (below_then (below_then (below_then (below_one _ _) hb1) (below_one _ _)) hb2)

set_option maxHeartbeats 2000000 in
theorem pIsPath_any (k : Nat) (hk : k < 18446744073709551616) (w : World) : Calls Tryd.prog 33 #[.int .u64 k] w (Ret (.bool (decide (IsPa k))) w) := by
  have HN := Lib.hid (pNames_any k hk)
  obtain ⟨s, hs⟩ : ∃ s, decide (IsPa k) = s := ⟨_, rfl⟩
  rw [hs]
  replace hs : s = true ↔ IsPa k := by rw [← hs]; exact decide_eq_true_iff
  unfold IsPa at hs
  generalize k / 4294967296 = x at *
  generalize k / 65536 % 65536 = y at *
  generalize k % 65536 = z at *
  have HS := Lib.hid hs
  clear hs hk
  go_enter Tryd.func33, Tryd.ntmps33
  go_wp2_with (go_at_call 36; refine (HN.out _).mono ?_; rintro e w1 ⟨rfl, hb1⟩; obtain ⟨hc1, hf1⟩ := bcell hb1)
  all_goals go_ret
  all_goals
    have hs := HS.out
    refine Ret.mk (bool_eq ?_) (below_then hb1 (below_one _ _))
    rw [Bool.eq_iff_iff, hs]
    clear HS HN hb1 hc1 hf1 hs
    grind

/-- A parent's key, from names. -/
theorem par_names (k : Nat) : par k = if k % 65536 ≠ 0 then k / 4294967296 * 4294967296 + k / 65536 % 65536 * 65536 + 0 else if k / 65536 % 65536 ≠ 0 then k / 4294967296 * 4294967296 + 0 * 65536 + 0 else 0 := by
  unfold par
  split
  · omega
  · split <;> omega
set_option maxHeartbeats 2000000 in
theorem pParent_any (k : Nat) (hk : k < 18446744073709551616) (w : World) : Calls Tryd.prog 19 #[.int .u64 k] w (Ret (.int .u64 (par k : Nat)) w) := by
  have HN := Lib.hid (pNames_any k hk)
  have h1 := par_names k
  have h2 := par_le k
  have HK := Lib.hid (fun a b c h hz W => pKey_any a b c (par k) h hz W)
  have hlt : par k < 18446744073709551616 := by omega
  generalize par k = p at *
  generalize k / 4294967296 = x at *
  generalize k / 65536 % 65536 = y at *
  generalize k % 65536 = z at *
  clear h2 hk
  by_cases hz : z = 0
  · rw [if_neg (not_not_intro hz)] at h1
    subst hz
    by_cases hy : y = 0
    · rw [if_neg (not_not_intro hy)] at h1
      subst hy h1
      clear HK hlt
      go_enter Tryd.func19, Tryd.ntmps19
      go_wp2_with (go_at_call 36; refine (HN.out _).mono ?_; rintro e w1 ⟨rfl, hb1⟩; obtain ⟨hc1, hf1⟩ := bcell hb1)
      go_ret
      exact Ret.mk rfl (below_then hb1 (below_one _ _))
    · rw [if_pos hy] at h1
      have HK2 := Lib.hid (HK.out x 0 0 h1.symm hlt)
      have hy2 : ((y : Int) != 0) = true := bne_iff_ne.2 (by omega)
      clear HK hlt h1
      go_enter Tryd.func19, Tryd.ntmps19
      go_wp2_with (first
        | (go_at_call 36; refine (HN.out _).mono ?_; rintro e w1 ⟨rfl, hb1⟩; obtain ⟨hc1, hf1⟩ := bcell hb1)
        | (go_at_call 35; refine (HK2.out _).mono ?_; rintro e w2 ⟨rfl, hb2⟩))
      go_ret
      exact Ret.mk rfl (below_then (below_then hb1 (below_one _ _)) hb2)
  · rw [if_pos hz] at h1
    have HK2 := Lib.hid (HK.out x y 0 h1.symm hlt)
    have hz2 : ((z : Int) != 0) = true := bne_iff_ne.2 (by omega)
    clear HK hlt h1
    go_enter Tryd.func19, Tryd.ntmps19
    go_wp2_with (first
      | (go_at_call 36; refine (HN.out _).mono ?_; rintro e w1 ⟨rfl, hb1⟩; obtain ⟨hc1, hf1⟩ := bcell hb1)
      | (go_at_call 35; refine (HK2.out _).mono ?_; rintro e w2 ⟨rfl, hb2⟩))
    go_ret
    exact Ret.mk rfl (below_then (below_then hb1 (below_one _ _)) hb2)
end Go.Proofs.YtljdkjjjnlcflaaDoor
