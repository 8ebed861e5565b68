/- May a frame of an index be: the document's own. -/
import Derived.Test.YtmkehailohgebaaDoorTeStep
namespace Go.Proofs.YtmkehailohgebaaDoor
open Go.RowKit Go.Lib Pt Opn

/-- What the parts of the condition make. -/
theorem mayX_eq (c : Cf) (f : Ds) : decide (XMay c f) = (decide (chk c (frX f) = 0) && (decide (ThereX f.kind f.pc) && (decide (NumX c f) && decide (0 ≤ placeX c f)))) := by
  rw [Bool.eq_iff_iff, decide_eq_true_iff]
  unfold XMay
  simp
set_option maxRecDepth 100000 in
set_option maxHeartbeats 8000000 in
theorem rMay_x5 {c : Cf} {f : Ds} (x A : Int) (yt zt : Bool) (v1 v2 v3 : Nat) (v4 : Int) (v5 : Nat) (hx : x ≠ 0) (_ : True) (_ : True) (h5 : f.kind = 5) (hw : DWf f)
    (HC : Hid (∀ W, Calls Tryd.prog 72 #[cfv c, opv (frX f)] W (Ret (.int .i64 x) W)))
    (HT : Hid (∀ W, Calls Tryd.prog 73 #[.int .u8 (f.kind : Nat), .int .u8 (f.pc : Nat)] W (Ret (.bool yt) W)))
    (HN : Hid (∀ W, Calls Tryd.prog 74 #[cfv c, frv f] W (Ret (.bool zt) W)))
    (HS : Hid (yt = true → zt = true → ∀ W, Calls Tryd.prog 37 #[cfv c, frv f] W (Ret (.agg #[.int .u8 v1, .int .i64 A, .int .u64 v2, .int .u64 v3, .int .u64 0, .int .i64 v4, .int .u32 v5]) W))) (w : World) :
    Calls Tryd.prog 36 #[cfv c, frv f] w (Ret (.bool (decide (x = 0) && (yt && (zt && decide (0 ≤ A))))) w) := by
  unfold cfv frv opv frX at *
  obtain ⟨t, k, seq, kind, a, b, pc, i, j, n, p, h, z, y⟩ := f
  simp only at *
  have x2 : (x == 0) = false := by simp; omega
  subst h5
  rw [if_pos rfl] at HC
  have q : ((5 : Nat) : Int) = 5 := rfl
  rw [q] at *
  clear hw
  go_enter Tryd.func36, Tryd.ntmps36
  go_wp2_with (first
    | (go_at_call 72; refine (HC.out _).mono ?_; rintro e w1 ⟨rfl, hb1⟩; obtain ⟨hc1, hf1⟩ := bcell hb1)
    | (go_at_call 73; refine (HT.out _).mono ?_; rintro e w2 ⟨rfl, hb2⟩; replace hb1 := below_then hb1 hb2; clear hc1 hf1 hb2; obtain ⟨hc1, hf1⟩ := bcell hb1)
    | (go_at_call 74; refine (HN.out _).mono ?_; rintro e w2 ⟨rfl, hb2⟩; replace hb1 := below_then hb1 hb2; clear hc1 hf1 hb2; obtain ⟨hc1, hf1⟩ := bcell hb1)
    | (go_at_call 37; refine (HS.out (by trivial) (by trivial) _).mono ?_; rintro e w2 ⟨rfl, hb2⟩; replace hb1 := below_then hb1 hb2; clear hc1 hf1 hb2; obtain ⟨hc1, hf1⟩ := bcell hb1))
  all_goals go_ret
  all_goals
    refine Ret.mk (bool_eq ?_) ?_
    · simp
      try omega
    · exact below_then (below_three w _ _ _) hb1
set_option maxRecDepth 100000 in
set_option maxHeartbeats 8000000 in
theorem rMay_t5 {c : Cf} {f : Ds} (x A : Int) (yt zt : Bool) (v1 v2 v3 : Nat) (v4 : Int) (v5 : Nat) (hx : x = 0) (hy : yt = false) (_ : True) (h5 : f.kind = 5) (hw : DWf f)
    (HC : Hid (∀ W, Calls Tryd.prog 72 #[cfv c, opv (frX f)] W (Ret (.int .i64 x) W)))
    (HT : Hid (∀ W, Calls Tryd.prog 73 #[.int .u8 (f.kind : Nat), .int .u8 (f.pc : Nat)] W (Ret (.bool yt) W)))
    (HN : Hid (∀ W, Calls Tryd.prog 74 #[cfv c, frv f] W (Ret (.bool zt) W)))
    (HS : Hid (yt = true → zt = true → ∀ W, Calls Tryd.prog 37 #[cfv c, frv f] W (Ret (.agg #[.int .u8 v1, .int .i64 A, .int .u64 v2, .int .u64 v3, .int .u64 0, .int .i64 v4, .int .u32 v5]) W))) (w : World) :
    Calls Tryd.prog 36 #[cfv c, frv f] w (Ret (.bool (decide (x = 0) && (yt && (zt && decide (0 ≤ A))))) w) := by
  unfold cfv frv opv frX at *
  obtain ⟨t, k, seq, kind, a, b, pc, i, j, n, p, h, z, y⟩ := f
  simp only at *
  subst hx hy
  subst h5
  rw [if_pos rfl] at HC
  have q : ((5 : Nat) : Int) = 5 := rfl
  rw [q] at *
  clear hw
  go_enter Tryd.func36, Tryd.ntmps36
  go_wp2_with (first
    | (go_at_call 72; refine (HC.out _).mono ?_; rintro e w1 ⟨rfl, hb1⟩; obtain ⟨hc1, hf1⟩ := bcell hb1)
    | (go_at_call 73; refine (HT.out _).mono ?_; rintro e w2 ⟨rfl, hb2⟩; replace hb1 := below_then hb1 hb2; clear hc1 hf1 hb2; obtain ⟨hc1, hf1⟩ := bcell hb1)
    | (go_at_call 74; refine (HN.out _).mono ?_; rintro e w2 ⟨rfl, hb2⟩; replace hb1 := below_then hb1 hb2; clear hc1 hf1 hb2; obtain ⟨hc1, hf1⟩ := bcell hb1)
    | (go_at_call 37; refine (HS.out (by trivial) (by trivial) _).mono ?_; rintro e w2 ⟨rfl, hb2⟩; replace hb1 := below_then hb1 hb2; clear hc1 hf1 hb2; obtain ⟨hc1, hf1⟩ := bcell hb1))
  all_goals go_ret
  all_goals
    refine Ret.mk (bool_eq ?_) ?_
    · simp
      try omega
    · exact below_then (below_three w _ _ _) hb1
set_option maxRecDepth 100000 in
set_option maxHeartbeats 8000000 in
theorem rMay_n5 {c : Cf} {f : Ds} (x A : Int) (yt zt : Bool) (v1 v2 v3 : Nat) (v4 : Int) (v5 : Nat) (hx : x = 0) (hy : yt = true) (hz : zt = false) (h5 : f.kind = 5) (hw : DWf f)
    (HC : Hid (∀ W, Calls Tryd.prog 72 #[cfv c, opv (frX f)] W (Ret (.int .i64 x) W)))
    (HT : Hid (∀ W, Calls Tryd.prog 73 #[.int .u8 (f.kind : Nat), .int .u8 (f.pc : Nat)] W (Ret (.bool yt) W)))
    (HN : Hid (∀ W, Calls Tryd.prog 74 #[cfv c, frv f] W (Ret (.bool zt) W)))
    (HS : Hid (yt = true → zt = true → ∀ W, Calls Tryd.prog 37 #[cfv c, frv f] W (Ret (.agg #[.int .u8 v1, .int .i64 A, .int .u64 v2, .int .u64 v3, .int .u64 0, .int .i64 v4, .int .u32 v5]) W))) (w : World) :
    Calls Tryd.prog 36 #[cfv c, frv f] w (Ret (.bool (decide (x = 0) && (yt && (zt && decide (0 ≤ A))))) w) := by
  unfold cfv frv opv frX at *
  obtain ⟨t, k, seq, kind, a, b, pc, i, j, n, p, h, z, y⟩ := f
  simp only at *
  subst hx hy hz
  subst h5
  rw [if_pos rfl] at HC
  have q : ((5 : Nat) : Int) = 5 := rfl
  rw [q] at *
  clear hw
  go_enter Tryd.func36, Tryd.ntmps36
  go_wp2_with (first
    | (go_at_call 72; refine (HC.out _).mono ?_; rintro e w1 ⟨rfl, hb1⟩; obtain ⟨hc1, hf1⟩ := bcell hb1)
    | (go_at_call 73; refine (HT.out _).mono ?_; rintro e w2 ⟨rfl, hb2⟩; replace hb1 := below_then hb1 hb2; clear hc1 hf1 hb2; obtain ⟨hc1, hf1⟩ := bcell hb1)
    | (go_at_call 74; refine (HN.out _).mono ?_; rintro e w2 ⟨rfl, hb2⟩; replace hb1 := below_then hb1 hb2; clear hc1 hf1 hb2; obtain ⟨hc1, hf1⟩ := bcell hb1)
    | (go_at_call 37; refine (HS.out (by trivial) (by trivial) _).mono ?_; rintro e w2 ⟨rfl, hb2⟩; replace hb1 := below_then hb1 hb2; clear hc1 hf1 hb2; obtain ⟨hc1, hf1⟩ := bcell hb1))
  all_goals go_ret
  all_goals
    refine Ret.mk (bool_eq ?_) ?_
    · simp
      try omega
    · exact below_then (below_three w _ _ _) hb1
set_option maxRecDepth 100000 in
set_option maxHeartbeats 8000000 in
theorem rMay_s5 {c : Cf} {f : Ds} (x A : Int) (yt zt : Bool) (v1 v2 v3 : Nat) (v4 : Int) (v5 : Nat) (hx : x = 0) (hy : yt = true) (hz : zt = true) (h5 : f.kind = 5) (hw : DWf f)
    (HC : Hid (∀ W, Calls Tryd.prog 72 #[cfv c, opv (frX f)] W (Ret (.int .i64 x) W)))
    (HT : Hid (∀ W, Calls Tryd.prog 73 #[.int .u8 (f.kind : Nat), .int .u8 (f.pc : Nat)] W (Ret (.bool yt) W)))
    (HN : Hid (∀ W, Calls Tryd.prog 74 #[cfv c, frv f] W (Ret (.bool zt) W)))
    (HS : Hid (yt = true → zt = true → ∀ W, Calls Tryd.prog 37 #[cfv c, frv f] W (Ret (.agg #[.int .u8 v1, .int .i64 A, .int .u64 v2, .int .u64 v3, .int .u64 0, .int .i64 v4, .int .u32 v5]) W))) (w : World) :
    Calls Tryd.prog 36 #[cfv c, frv f] w (Ret (.bool (decide (x = 0) && (yt && (zt && decide (0 ≤ A))))) w) := by
  unfold cfv frv opv frX at *
  obtain ⟨t, k, seq, kind, a, b, pc, i, j, n, p, h, z, y⟩ := f
  simp only at *
  subst hx hy hz
  subst h5
  rw [if_pos rfl] at HC
  have q : ((5 : Nat) : Int) = 5 := rfl
  rw [q] at *
  clear hw
  have hfd : ∀ W : World, (Instr.field 26 (.agg #[.int .u8 v1, .int .i64 A, .int .u64 v2, .int .u64 v3, .int .u64 0, .int .i64 v4, .int .u32 v5]) 1).run Tryd.prog W = .ok (.int .i64 A) W := fun W => by kernel_rfl
  go_enter Tryd.func36, Tryd.ntmps36
  go_wp2_with (first
    | (go_at_call 72; refine (HC.out _).mono ?_; rintro e w1 ⟨rfl, hb1⟩; obtain ⟨hc1, hf1⟩ := bcell hb1)
    | (go_at_call 73; refine (HT.out _).mono ?_; rintro e w2 ⟨rfl, hb2⟩; replace hb1 := below_then hb1 hb2; clear hc1 hf1 hb2; obtain ⟨hc1, hf1⟩ := bcell hb1)
    | (go_at_call 74; refine (HN.out _).mono ?_; rintro e w2 ⟨rfl, hb2⟩; replace hb1 := below_then hb1 hb2; clear hc1 hf1 hb2; obtain ⟨hc1, hf1⟩ := bcell hb1)
    | (go_at_call 37; refine (HS.out (by trivial) (by trivial) _).mono ?_; rintro e w2 ⟨rfl, hb2⟩; replace hb1 := below_then hb1 hb2; clear hc1 hf1 hb2; obtain ⟨hc1, hf1⟩ := bcell hb1))
  all_goals go_ret
  all_goals
    refine Ret.mk (bool_eq ?_) ?_
    · simp
      try omega
    · exact below_then (below_three w _ _ _) hb1
set_option maxRecDepth 100000 in
set_option maxHeartbeats 8000000 in
theorem rMay_xn {c : Cf} {f : Ds} (x A : Int) (yt zt : Bool) (v1 v2 v3 : Nat) (v4 : Int) (v5 : Nat) (hx : x ≠ 0) (_ : True) (_ : True) (h5 : ¬ f.kind = 5) (hw : DWf f)
    (HC : Hid (∀ W, Calls Tryd.prog 72 #[cfv c, opv (frX f)] W (Ret (.int .i64 x) W)))
    (HT : Hid (∀ W, Calls Tryd.prog 73 #[.int .u8 (f.kind : Nat), .int .u8 (f.pc : Nat)] W (Ret (.bool yt) W)))
    (HN : Hid (∀ W, Calls Tryd.prog 74 #[cfv c, frv f] W (Ret (.bool zt) W)))
    (HS : Hid (yt = true → zt = true → ∀ W, Calls Tryd.prog 37 #[cfv c, frv f] W (Ret (.agg #[.int .u8 v1, .int .i64 A, .int .u64 v2, .int .u64 v3, .int .u64 0, .int .i64 v4, .int .u32 v5]) W))) (w : World) :
    Calls Tryd.prog 36 #[cfv c, frv f] w (Ret (.bool (decide (x = 0) && (yt && (zt && decide (0 ≤ A))))) w) := by
  unfold cfv frv opv frX at *
  obtain ⟨t, k, seq, kind, a, b, pc, i, j, n, p, h, z, y⟩ := f
  simp only at *
  have x2 : (x == 0) = false := by simp; omega
  rw [if_neg h5] at HC
  have h5' : ((kind : Int) == 5) = false := by simp; omega
  clear hw
  go_enter Tryd.func36, Tryd.ntmps36
  go_wp2_with (first
    | (go_at_call 72; refine (HC.out _).mono ?_; rintro e w1 ⟨rfl, hb1⟩; obtain ⟨hc1, hf1⟩ := bcell hb1)
    | (go_at_call 73; refine (HT.out _).mono ?_; rintro e w2 ⟨rfl, hb2⟩; replace hb1 := below_then hb1 hb2; clear hc1 hf1 hb2; obtain ⟨hc1, hf1⟩ := bcell hb1)
    | (go_at_call 74; refine (HN.out _).mono ?_; rintro e w2 ⟨rfl, hb2⟩; replace hb1 := below_then hb1 hb2; clear hc1 hf1 hb2; obtain ⟨hc1, hf1⟩ := bcell hb1)
    | (go_at_call 37; refine (HS.out (by trivial) (by trivial) _).mono ?_; rintro e w2 ⟨rfl, hb2⟩; replace hb1 := below_then hb1 hb2; clear hc1 hf1 hb2; obtain ⟨hc1, hf1⟩ := bcell hb1))
  all_goals go_ret
  all_goals
    refine Ret.mk (bool_eq ?_) ?_
    · simp
      try omega
    · exact below_then (below_three w _ _ _) hb1
set_option maxRecDepth 100000 in
set_option maxHeartbeats 8000000 in
theorem rMay_tn {c : Cf} {f : Ds} (x A : Int) (yt zt : Bool) (v1 v2 v3 : Nat) (v4 : Int) (v5 : Nat) (hx : x = 0) (hy : yt = false) (_ : True) (h5 : ¬ f.kind = 5) (hw : DWf f)
    (HC : Hid (∀ W, Calls Tryd.prog 72 #[cfv c, opv (frX f)] W (Ret (.int .i64 x) W)))
    (HT : Hid (∀ W, Calls Tryd.prog 73 #[.int .u8 (f.kind : Nat), .int .u8 (f.pc : Nat)] W (Ret (.bool yt) W)))
    (HN : Hid (∀ W, Calls Tryd.prog 74 #[cfv c, frv f] W (Ret (.bool zt) W)))
    (HS : Hid (yt = true → zt = true → ∀ W, Calls Tryd.prog 37 #[cfv c, frv f] W (Ret (.agg #[.int .u8 v1, .int .i64 A, .int .u64 v2, .int .u64 v3, .int .u64 0, .int .i64 v4, .int .u32 v5]) W))) (w : World) :
    Calls Tryd.prog 36 #[cfv c, frv f] w (Ret (.bool (decide (x = 0) && (yt && (zt && decide (0 ≤ A))))) w) := by
  unfold cfv frv opv frX at *
  obtain ⟨t, k, seq, kind, a, b, pc, i, j, n, p, h, z, y⟩ := f
  simp only at *
  subst hx hy
  rw [if_neg h5] at HC
  have h5' : ((kind : Int) == 5) = false := by simp; omega
  clear hw
  go_enter Tryd.func36, Tryd.ntmps36
  go_wp2_with (first
    | (go_at_call 72; refine (HC.out _).mono ?_; rintro e w1 ⟨rfl, hb1⟩; obtain ⟨hc1, hf1⟩ := bcell hb1)
    | (go_at_call 73; refine (HT.out _).mono ?_; rintro e w2 ⟨rfl, hb2⟩; replace hb1 := below_then hb1 hb2; clear hc1 hf1 hb2; obtain ⟨hc1, hf1⟩ := bcell hb1)
    | (go_at_call 74; refine (HN.out _).mono ?_; rintro e w2 ⟨rfl, hb2⟩; replace hb1 := below_then hb1 hb2; clear hc1 hf1 hb2; obtain ⟨hc1, hf1⟩ := bcell hb1)
    | (go_at_call 37; refine (HS.out (by trivial) (by trivial) _).mono ?_; rintro e w2 ⟨rfl, hb2⟩; replace hb1 := below_then hb1 hb2; clear hc1 hf1 hb2; obtain ⟨hc1, hf1⟩ := bcell hb1))
  all_goals go_ret
  all_goals
    refine Ret.mk (bool_eq ?_) ?_
    · simp
      try omega
    · exact below_then (below_three w _ _ _) hb1
set_option maxRecDepth 100000 in
set_option maxHeartbeats 8000000 in
theorem rMay_nn {c : Cf} {f : Ds} (x A : Int) (yt zt : Bool) (v1 v2 v3 : Nat) (v4 : Int) (v5 : Nat) (hx : x = 0) (hy : yt = true) (hz : zt = false) (h5 : ¬ f.kind = 5) (hw : DWf f)
    (HC : Hid (∀ W, Calls Tryd.prog 72 #[cfv c, opv (frX f)] W (Ret (.int .i64 x) W)))
    (HT : Hid (∀ W, Calls Tryd.prog 73 #[.int .u8 (f.kind : Nat), .int .u8 (f.pc : Nat)] W (Ret (.bool yt) W)))
    (HN : Hid (∀ W, Calls Tryd.prog 74 #[cfv c, frv f] W (Ret (.bool zt) W)))
    (HS : Hid (yt = true → zt = true → ∀ W, Calls Tryd.prog 37 #[cfv c, frv f] W (Ret (.agg #[.int .u8 v1, .int .i64 A, .int .u64 v2, .int .u64 v3, .int .u64 0, .int .i64 v4, .int .u32 v5]) W))) (w : World) :
    Calls Tryd.prog 36 #[cfv c, frv f] w (Ret (.bool (decide (x = 0) && (yt && (zt && decide (0 ≤ A))))) w) := by
  unfold cfv frv opv frX at *
  obtain ⟨t, k, seq, kind, a, b, pc, i, j, n, p, h, z, y⟩ := f
  simp only at *
  subst hx hy hz
  rw [if_neg h5] at HC
  have h5' : ((kind : Int) == 5) = false := by simp; omega
  clear hw
  go_enter Tryd.func36, Tryd.ntmps36
  go_wp2_with (first
    | (go_at_call 72; refine (HC.out _).mono ?_; rintro e w1 ⟨rfl, hb1⟩; obtain ⟨hc1, hf1⟩ := bcell hb1)
    | (go_at_call 73; refine (HT.out _).mono ?_; rintro e w2 ⟨rfl, hb2⟩; replace hb1 := below_then hb1 hb2; clear hc1 hf1 hb2; obtain ⟨hc1, hf1⟩ := bcell hb1)
    | (go_at_call 74; refine (HN.out _).mono ?_; rintro e w2 ⟨rfl, hb2⟩; replace hb1 := below_then hb1 hb2; clear hc1 hf1 hb2; obtain ⟨hc1, hf1⟩ := bcell hb1)
    | (go_at_call 37; refine (HS.out (by trivial) (by trivial) _).mono ?_; rintro e w2 ⟨rfl, hb2⟩; replace hb1 := below_then hb1 hb2; clear hc1 hf1 hb2; obtain ⟨hc1, hf1⟩ := bcell hb1))
  all_goals go_ret
  all_goals
    refine Ret.mk (bool_eq ?_) ?_
    · simp
      try omega
    · exact below_then (below_three w _ _ _) hb1
set_option maxRecDepth 100000 in
set_option maxHeartbeats 8000000 in
theorem rMay_sn {c : Cf} {f : Ds} (x A : Int) (yt zt : Bool) (v1 v2 v3 : Nat) (v4 : Int) (v5 : Nat) (hx : x = 0) (hy : yt = true) (hz : zt = true) (h5 : ¬ f.kind = 5) (hw : DWf f)
    (HC : Hid (∀ W, Calls Tryd.prog 72 #[cfv c, opv (frX f)] W (Ret (.int .i64 x) W)))
    (HT : Hid (∀ W, Calls Tryd.prog 73 #[.int .u8 (f.kind : Nat), .int .u8 (f.pc : Nat)] W (Ret (.bool yt) W)))
    (HN : Hid (∀ W, Calls Tryd.prog 74 #[cfv c, frv f] W (Ret (.bool zt) W)))
    (HS : Hid (yt = true → zt = true → ∀ W, Calls Tryd.prog 37 #[cfv c, frv f] W (Ret (.agg #[.int .u8 v1, .int .i64 A, .int .u64 v2, .int .u64 v3, .int .u64 0, .int .i64 v4, .int .u32 v5]) W))) (w : World) :
    Calls Tryd.prog 36 #[cfv c, frv f] w (Ret (.bool (decide (x = 0) && (yt && (zt && decide (0 ≤ A))))) w) := by
  unfold cfv frv opv frX at *
  obtain ⟨t, k, seq, kind, a, b, pc, i, j, n, p, h, z, y⟩ := f
  simp only at *
  subst hx hy hz
  rw [if_neg h5] at HC
  have h5' : ((kind : Int) == 5) = false := by simp; omega
  clear hw
  have hfd : ∀ W : World, (Instr.field 26 (.agg #[.int .u8 v1, .int .i64 A, .int .u64 v2, .int .u64 v3, .int .u64 0, .int .i64 v4, .int .u32 v5]) 1).run Tryd.prog W = .ok (.int .i64 A) W := fun W => by kernel_rfl
  go_enter Tryd.func36, Tryd.ntmps36
  go_wp2_with (first
    | (go_at_call 72; refine (HC.out _).mono ?_; rintro e w1 ⟨rfl, hb1⟩; obtain ⟨hc1, hf1⟩ := bcell hb1)
    | (go_at_call 73; refine (HT.out _).mono ?_; rintro e w2 ⟨rfl, hb2⟩; replace hb1 := below_then hb1 hb2; clear hc1 hf1 hb2; obtain ⟨hc1, hf1⟩ := bcell hb1)
    | (go_at_call 74; refine (HN.out _).mono ?_; rintro e w2 ⟨rfl, hb2⟩; replace hb1 := below_then hb1 hb2; clear hc1 hf1 hb2; obtain ⟨hc1, hf1⟩ := bcell hb1)
    | (go_at_call 37; refine (HS.out (by trivial) (by trivial) _).mono ?_; rintro e w2 ⟨rfl, hb2⟩; replace hb1 := below_then hb1 hb2; clear hc1 hf1 hb2; obtain ⟨hc1, hf1⟩ := bcell hb1))
  all_goals go_ret
  all_goals
    refine Ret.mk (bool_eq ?_) ?_
    · simp
      try omega
    · exact below_then (below_three w _ _ _) hb1
theorem rMayX_any {c : Cf} {C N K : Nat} (s : SzX c C N K) (f : Ds) (hw : DWf f) (w : World) : Calls Tryd.prog 36 #[cfv c, frv f] w (Ret (.bool (decide (XMay c f))) w) := by
  have hwo : Wf (frX f) := by
    unfold DWf at hw
    unfold Wf frX
    simp only
    split <;> omega
  have HC := Lib.hid (fun W => rCheck_op c (frX f) hwo W)
  have HT := Lib.hid (fun W => rThereX_any f.kind f.pc W)
  have HN := Lib.hid (fun W => rNumX_any s f hw W)
  have HS : Hid (decide (ThereX f.kind f.pc) = true → decide (NumX c f) = true → ∀ W, Calls Tryd.prog 37 #[cfv c, frv f] W (Ret (acI c f) W)) := Lib.hid (fun ht hn W => rStepX_any s f hw (of_decide_eq_true ht) (of_decide_eq_true hn) W)
  rw [mayX_eq]
  unfold acI at HS
  by_cases h5 : f.kind = 5
  · by_cases hx : chk c (frX f) = 0
    · cases hy : decide (ThereX f.kind f.pc) with
      | false => rw [hy] at HT HS; exact rMay_t5 _ _ _ _ _ _ _ _ _ hx rfl trivial h5 hw HC HT HN HS w
      | true =>
        rw [hy] at HT HS
        cases hz : decide (NumX c f) with
        | false => rw [hz] at HN HS; exact rMay_n5 _ _ _ _ _ _ _ _ _ hx rfl rfl h5 hw HC HT HN HS w
        | true => rw [hz] at HN HS; exact rMay_s5 _ _ _ _ _ _ _ _ _ hx rfl rfl h5 hw HC HT HN HS w
    · exact rMay_x5 _ _ _ _ _ _ _ _ _ hx trivial trivial h5 hw HC HT HN HS w
  · by_cases hx : chk c (frX f) = 0
    · cases hy : decide (ThereX f.kind f.pc) with
      | false => rw [hy] at HT HS; exact rMay_tn _ _ _ _ _ _ _ _ _ hx rfl trivial h5 hw HC HT HN HS w
      | true =>
        rw [hy] at HT HS
        cases hz : decide (NumX c f) with
        | false => rw [hz] at HN HS; exact rMay_nn _ _ _ _ _ _ _ _ _ hx rfl rfl h5 hw HC HT HN HS w
        | true => rw [hz] at HN HS; exact rMay_sn _ _ _ _ _ _ _ _ _ hx rfl rfl h5 hw HC HT HN HS w
    · exact rMay_xn _ _ _ _ _ _ _ _ _ hx trivial trivial h5 hw HC HT HN HS w
end Go.Proofs.YtmkehailohgebaaDoor
