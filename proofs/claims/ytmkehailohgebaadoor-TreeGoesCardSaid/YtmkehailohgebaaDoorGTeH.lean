/- What becomes of a frame of an index: the document's own small steps. What becomes of a frame of an index: the document's own, going on. What becomes of a frame of an index: the document's own, a scan's. -/
import Derived.Test.YtmkehailohgebaaDoorTeNum
import Derived.Test.YtmkehailohgebaaDoorGTeR
namespace Go.Proofs.YtmkehailohgebaaDoor
open Go.RowKit Go.Lib Pt Opn

set_option maxRecDepth 100000 in
set_option maxHeartbeats 4000000 in
theorem rAtX_any (f : Ds) (q : Nat) (w : World) : Calls Tryd.prog 77 #[frv f, .int .u8 q] w (Ret (frv { f with pc := q }) w) := by
  unfold frv
  obtain ⟨t, k, seq, kind, a, b, pc, i, j, n, p, h, x, y⟩ := f
  go_enter Tryd.func77, Tryd.ntmps77
  go_wp2
  refine bodyPost_ret ?_ rfl ⟨rfl, ?_⟩
  · simp [results, Tryd.results77, go_sem]
  · (repeat' (first | with_reducible exact below_two _ _ _ | with_reducible exact below_one _ _ | (with_reducible refine Below.setCell ?_ ?_ _))) <;> (simp; try omega)
set_option maxRecDepth 100000 in
set_option maxHeartbeats 4000000 in
theorem rRowX_any (f : Ds) (hx : f.x < 4294967296) (hy : f.y < 4294967296) (w : World) : Calls Tryd.prog 39 #[frv f] w (Ret (.agg #[.int .u64 (f.x : Nat), .int .u64 (f.y : Nat)]) w) := by
  unfold frv
  obtain ⟨t, k, seq, kind, a, b, pc, i, j, n, p, h, x, y⟩ := f
  simp only at hx hy ⊢
  have x1 : IntKind.u64.wrap (x : Int) = (x : Int) := by rw [IntKind.wrap_u64]; omega
  have y1 : IntKind.u64.wrap (y : Int) = (y : Int) := by rw [IntKind.wrap_u64]; omega
  go_enter Tryd.func39, Tryd.ntmps39
  go_wp2
  refine bodyPost_ret ?_ rfl ⟨rfl, ?_⟩
  · simp [results, Tryd.results39, go_sem]
  · (repeat' (first | with_reducible exact below_two _ _ _ | with_reducible exact below_one _ _ | (with_reducible refine Below.setCell ?_ ?_ _))) <;> (simp; try omega)
set_option maxRecDepth 100000 in
set_option maxHeartbeats 4000000 in
theorem rOverX_any (f : Ds) (t A B C : Nat) (w : World) : Calls Tryd.prog 79 #[frv f, cvT t A B C] w (Ret (frv (overX f A B)) w) := by
  unfold frv overX cvT
  obtain ⟨t', k, seq, kind, a, b, pc, i, j, n, p, h, x, y⟩ := f
  have e1 : IntKind.u32.wrap ((A : Int) % 4294967296) = ((A % 4294967296 : Nat) : Int) := by rw [IntKind.wrap_u32]; omega
  have e2 : IntKind.u32.wrap ((B : Int) % 4294967296) = ((B % 4294967296 : Nat) : Int) := by rw [IntKind.wrap_u32]; omega
  generalize A % 4294967296 = u1 at *
  generalize B % 4294967296 = u2 at *
  simp only
  go_enter Tryd.func79, Tryd.ntmps79
  go_wp2
  refine bodyPost_ret ?_ rfl ⟨rfl, ?_⟩
  · simp [results, Tryd.results79, go_sem]
  · (repeat' (first | with_reducible exact below_three _ _ _ _ | with_reducible exact below_two _ _ _ | with_reducible exact below_one _ _ | (with_reducible refine Below.setCell ?_ ?_ _))) <;> (simp; try omega)
set_option maxRecDepth 100000 in
set_option maxHeartbeats 4000000 in
/-- .. whatever numbers the fields are. -/
theorem rAtI (kind a b pc i j n p h x y q : Int) (w : World) : Calls Tryd.prog 77 #[.agg #[.int .u8 kind, .int .u32 a, .int .u32 b, .int .u8 pc, .int .u8 i, .int .u8 j, .int .u8 n, .int .u8 p, .int .u8 h, .int .u32 x, .int .u32 y], .int .u8 q] w (Ret (.agg #[.int .u8 kind, .int .u32 a, .int .u32 b, .int .u8 q, .int .u8 i, .int .u8 j, .int .u8 n, .int .u8 p, .int .u8 h, .int .u32 x, .int .u32 y]) w) := by
  go_enter Tryd.func77, Tryd.ntmps77
  go_wp2
  refine bodyPost_ret ?_ rfl ⟨rfl, ?_⟩
  · simp [results, Tryd.results77, go_sem]
  · (repeat' (first | with_reducible exact below_two _ _ _ | with_reducible exact below_one _ _ | (with_reducible refine Below.setCell ?_ ?_ _))) <;> (simp; try omega)
set_option maxRecDepth 100000 in
set_option maxHeartbeats 8000000 in
theorem rNextOne_any (f : Ds) (hp : f.p < 255) (hn : f.n < 256) (w : World) : Calls Tryd.prog 82 #[frv f] w (Ret (frv (nextOne f)) w) := by
  obtain ⟨X, hX⟩ : ∃ X, nextOne f = X := ⟨_, rfl⟩
  rw [hX]
  unfold nextOne at hX
  unfold frv
  obtain ⟨t, k, seq, kind, a, b, pc, i, j, n, p, h, x, y⟩ := f
  simp only at hp hn hX
  have p1 : IntKind.u8.wrap ((p : Int) + 1) = (p : Int) + 1 := by rw [IntKind.wrap_u8]; omega
  by_cases g : n ≤ p + 1
  · rw [if_pos g] at hX
    subst hX
    have g1 : (n : Int) ≤ (p : Int) + 1 := by omega
    clear g
    go_enter Tryd.func82, Tryd.ntmps82
    go_wp2_with (go_at_call 77; refine (rAtI _ _ _ _ _ _ _ _ _ _ _ _ _).mono ?_; rintro e w1 ⟨rfl, hb1⟩; have HB := Lib.hid (below_then (below_two w _ _) hb1); have G2 := blk_below (heap_alloc2_new w _ _) hb1; obtain ⟨u0, v0, u1, v1, u2, v2, u3, v3, u4, v4, u5, v5, u6, v6, u7, v7, u8, v8, u9, v9, u10, v10⟩ := cells11 G2; clear hb1 G2)
    refine bodyPost_ret ?_ rfl ⟨rfl, ?_⟩
    · simp [results, Tryd.results82, go_sem, u0, u1, u2, u3, u4, u5, u6, u7, u8, u9, u10]
    · (repeat' (first | with_reducible exact HB.out | (with_reducible refine Below.setCell ?_ ?_ _))) <;> (simp; try omega)
  · rw [if_neg g] at hX
    subst hX
    have g1 : ¬ (n : Int) ≤ (p : Int) + 1 := by omega
    clear g
    go_enter Tryd.func82, Tryd.ntmps82
    go_wp2_with (go_at_call 77; refine (rAtI _ _ _ _ _ _ _ _ _ _ _ _ _).mono ?_; rintro e w1 ⟨rfl, hb1⟩; have HB := Lib.hid (below_then (below_two w _ _) hb1); have G2 := blk_below (heap_alloc2_new w _ _) hb1; obtain ⟨u0, v0, u1, v1, u2, v2, u3, v3, u4, v4, u5, v5, u6, v6, u7, v7, u8, v8, u9, v9, u10, v10⟩ := cells11 G2; clear hb1 G2)
    refine bodyPost_ret ?_ rfl ⟨rfl, ?_⟩
    · simp [results, Tryd.results82, go_sem, u0, u1, u2, u3, u4, u5, u6, u7, u8, u9, u10]
    · (repeat' (first | with_reducible exact HB.out | (with_reducible refine Below.setCell ?_ ?_ _))) <;> (simp; try omega)
set_option maxRecDepth 100000 in
set_option maxHeartbeats 8000000 in
theorem rFreshX_any (c : Cf) (f : Ds) (hn : f.n < 256) (w : World) : Calls Tryd.prog 112 #[cfv c, frv f] w (Ret (frv (freshX c f)) w) := by
  obtain ⟨X, hX⟩ : ∃ X, freshX c f = X := ⟨_, rfl⟩
  rw [hX]
  unfold freshX at hX
  unfold frv cfv
  obtain ⟨t, k, seq, kind, a, b, pc, i, j, n, p, h, x, y⟩ := f
  simp only at hn hX
  by_cases g : c.cap ≤ (n : Int)
  · rw [if_pos g] at hX
    subst hX
    go_enter Tryd.func112, Tryd.ntmps112
    go_wp2_with (go_at_call 77; refine (rAtI _ _ _ _ _ _ _ _ _ _ _ _ _).mono ?_; rintro e w1 ⟨rfl, hb1⟩; have HB := Lib.hid (below_then (below_three w _ _ _) hb1); have G2 := blk_below (new_third w _ _ _) hb1; obtain ⟨u0, v0, u1, v1, u2, v2, u3, v3, u4, v4, u5, v5, u6, v6, u7, v7, u8, v8, u9, v9, u10, v10⟩ := cells11 G2; clear hb1 G2)
    refine bodyPost_ret ?_ rfl ⟨rfl, ?_⟩
    · simp [results, Tryd.results112, go_sem, u0, u1, u2, u3, u4, u5, u6, u7, u8, u9, u10]
    · (repeat' (first | with_reducible exact HB.out | (with_reducible refine Below.setCell ?_ ?_ _))) <;> (simp; try omega)
  rw [if_neg g] at hX
  by_cases g2 : n ≤ p
  · rw [if_pos g2] at hX
    subst hX
    have g3 : (n : Int) ≤ (p : Int) := by omega
    clear g2
    go_enter Tryd.func112, Tryd.ntmps112
    go_wp2_with (go_at_call 77; refine (rAtI _ _ _ _ _ _ _ _ _ _ _ _ _).mono ?_; rintro e w1 ⟨rfl, hb1⟩; have HB := Lib.hid (below_then (below_three w _ _ _) hb1); have G2 := blk_below (new_third w _ _ _) hb1; obtain ⟨u0, v0, u1, v1, u2, v2, u3, v3, u4, v4, u5, v5, u6, v6, u7, v7, u8, v8, u9, v9, u10, v10⟩ := cells11 G2; clear hb1 G2)
    refine bodyPost_ret ?_ rfl ⟨rfl, ?_⟩
    · simp [results, Tryd.results112, go_sem, u0, u1, u2, u3, u4, u5, u6, u7, u8, u9, u10]
    · (repeat' (first | with_reducible exact HB.out | (with_reducible refine Below.setCell ?_ ?_ _))) <;> (simp; try omega)
  · rw [if_neg g2] at hX
    subst hX
    have g3 : ¬ (n : Int) ≤ (p : Int) := by omega
    clear g2
    go_enter Tryd.func112, Tryd.ntmps112
    go_wp2_with (go_at_call 77; refine (rAtI _ _ _ _ _ _ _ _ _ _ _ _ _).mono ?_; rintro e w1 ⟨rfl, hb1⟩; have HB := Lib.hid (below_then (below_three w _ _ _) hb1); have G2 := blk_below (new_third w _ _ _) hb1; obtain ⟨u0, v0, u1, v1, u2, v2, u3, v3, u4, v4, u5, v5, u6, v6, u7, v7, u8, v8, u9, v9, u10, v10⟩ := cells11 G2; clear hb1 G2)
    refine bodyPost_ret ?_ rfl ⟨rfl, ?_⟩
    · simp [results, Tryd.results112, go_sem, u0, u1, u2, u3, u4, u5, u6, u7, u8, u9, u10]
    · (repeat' (first | with_reducible exact HB.out | (with_reducible refine Below.setCell ?_ ?_ _))) <;> (simp; try omega)
end Go.Proofs.YtmkehailohgebaaDoor

namespace Go.Proofs.YtmkehailohgebaaDoor
open Go.RowKit Go.Lib Pt Opn

set_option maxRecDepth 100000 in
set_option maxHeartbeats 8000000 in
theorem rNoneX_any (c : Cf) (f : Ds) (hn : f.n < 256) (w : World) : Calls Tryd.prog 76 #[cfv c, frv f] w (Ret (frv (noneX c f)) w) := by
  have HF := Lib.hid (fun W => rFreshX_any c { f with p := f.n } hn W)
  obtain ⟨X, hX⟩ : ∃ X, noneX c f = X := ⟨_, rfl⟩
  rw [hX]
  unfold noneX at hX
  obtain ⟨Y, hY⟩ : ∃ Y, freshX c { f with p := f.n } = Y := ⟨_, rfl⟩
  rw [hY] at HF hX
  clear hY
  unfold frv cfv at *
  obtain ⟨t, k, seq, kind, a, b, pc, i, j, n, p, h, x, y⟩ := f
  simp only at hn hX HF
  by_cases g4 : kind = 4
  · rw [if_pos g4] at hX
    subst hX g4
    have q : ((4 : Nat) : Int) = 4 := rfl
    rw [q] at *
    go_enter Tryd.func76, Tryd.ntmps76
    go_wp2_with (go_at_call 112; refine (HF.out _).mono ?_; rintro e w1 ⟨rfl, hb1⟩; have HB := Lib.hid (below_then (below_three w _ _ _) hb1); have G2 := blk_below (new_third w _ _ _) hb1; obtain ⟨u0, v0, u1, v1, u2, v2, u3, v3, u4, v4, u5, v5, u6, v6, u7, v7, u8, v8, u9, v9, u10, v10⟩ := cells11 G2; clear hb1 G2)
    refine bodyPost_ret ?_ rfl ⟨rfl, ?_⟩
    · simp [results, Tryd.results76, go_sem, u0, u1, u2, u3, u4, u5, u6, u7, u8, u9, u10]
    · (repeat' (first | with_reducible exact HB.out | (with_reducible refine Below.setCell ?_ ?_ _))) <;> (simp; try omega)
  rw [if_neg g4] at hX
  clear HF
  have k4 : ((kind : Int) == 4) = false := by simp; omega
  by_cases g8 : kind = 8
  · rw [if_pos g8] at hX
    subst hX g8
    go_enter Tryd.func76, Tryd.ntmps76
    go_wp2_with (go_at_call 77; refine (rAtI _ _ _ _ _ _ _ _ _ _ _ _ _).mono ?_; rintro e w1 ⟨rfl, hb1⟩; have HB := Lib.hid (below_then (below_three w _ _ _) hb1); have G2 := blk_below (new_third w _ _ _) hb1; obtain ⟨u0, v0, u1, v1, u2, v2, u3, v3, u4, v4, u5, v5, u6, v6, u7, v7, u8, v8, u9, v9, u10, v10⟩ := cells11 G2; clear hb1 G2)
    refine bodyPost_ret ?_ rfl ⟨rfl, ?_⟩
    · simp [results, Tryd.results76, go_sem, u0, u1, u2, u3, u4, u5, u6, u7, u8, u9, u10]
    · (repeat' (first | with_reducible exact HB.out | (with_reducible refine Below.setCell ?_ ?_ _))) <;> (simp; try omega)
  rw [if_neg g8] at hX
  have k8 : ((kind : Int) == 8) = false := by simp; omega
  by_cases g7 : kind = 7
  · by_cases gn : 0 < n
    · rw [if_pos ⟨g7, gn⟩] at hX
      subst hX g7
      have n1 : (0 : Int) < (n : Int) := by omega
      clear gn
      go_enter Tryd.func76, Tryd.ntmps76
      go_wp2_with (go_at_call 77; refine (rAtI _ _ _ _ _ _ _ _ _ _ _ _ _).mono ?_; rintro e w1 ⟨rfl, hb1⟩; have HB := Lib.hid (below_then (below_three w _ _ _) hb1); have G2 := blk_below (new_third w _ _ _) hb1; obtain ⟨u0, v0, u1, v1, u2, v2, u3, v3, u4, v4, u5, v5, u6, v6, u7, v7, u8, v8, u9, v9, u10, v10⟩ := cells11 G2; clear hb1 G2)
      refine bodyPost_ret ?_ rfl ⟨rfl, ?_⟩
      · simp [results, Tryd.results76, go_sem, u0, u1, u2, u3, u4, u5, u6, u7, u8, u9, u10]
      · (repeat' (first | with_reducible exact HB.out | (with_reducible refine Below.setCell ?_ ?_ _))) <;> (simp; try omega)
    · rw [if_neg (fun q => gn q.2)] at hX
      obtain rfl : n = 0 := by omega
      subst hX g7
      go_enter Tryd.func76, Tryd.ntmps76
      go_wp2_with (go_at_call 77; refine (rAtI _ _ _ _ _ _ _ _ _ _ _ _ _).mono ?_; rintro e w1 ⟨rfl, hb1⟩; have HB := Lib.hid (below_then (below_three w _ _ _) hb1); have G2 := blk_below (new_third w _ _ _) hb1; obtain ⟨u0, v0, u1, v1, u2, v2, u3, v3, u4, v4, u5, v5, u6, v6, u7, v7, u8, v8, u9, v9, u10, v10⟩ := cells11 G2; clear hb1 G2)
      refine bodyPost_ret ?_ rfl ⟨rfl, ?_⟩
      · simp [results, Tryd.results76, go_sem, u0, u1, u2, u3, u4, u5, u6, u7, u8, u9, u10]
      · (repeat' (first | with_reducible exact HB.out | (with_reducible refine Below.setCell ?_ ?_ _))) <;> (simp; try omega)
  · rw [if_neg (fun q => g7 q.1)] at hX
    subst hX
    have k7 : ((kind : Int) == 7) = false := by simp; omega
    go_enter Tryd.func76, Tryd.ntmps76
    go_wp2_with (go_at_call 77; refine (rAtI _ _ _ _ _ _ _ _ _ _ _ _ _).mono ?_; rintro e w1 ⟨rfl, hb1⟩; have HB := Lib.hid (below_then (below_three w _ _ _) hb1); have G2 := blk_below (new_third w _ _ _) hb1; obtain ⟨u0, v0, u1, v1, u2, v2, u3, v3, u4, v4, u5, v5, u6, v6, u7, v7, u8, v8, u9, v9, u10, v10⟩ := cells11 G2; clear hb1 G2)
    refine bodyPost_ret ?_ rfl ⟨rfl, ?_⟩
    · simp [results, Tryd.results76, go_sem, u0, u1, u2, u3, u4, u5, u6, u7, u8, u9, u10]
    · (repeat' (first | with_reducible exact HB.out | (with_reducible refine Below.setCell ?_ ?_ _))) <;> (simp; try omega)
end Go.Proofs.YtmkehailohgebaaDoor

namespace Go.Proofs.YtmkehailohgebaaDoor
open Go.RowKit Go.Lib Pt Opn

set_option maxRecDepth 100000 in
set_option maxHeartbeats 8000000 in
theorem rOnX_any (c : Cf) (f : Ds) (hn : f.n < 256) (hp : f.p < 255) (hj : f.j < 255) (w : World) : Calls Tryd.prog 83 #[cfv c, frv f] w (Ret2 (frv (onX c f).1) (.bool (onX c f).2) w) := by
  have HN := Lib.hid (fun W => rNextOne_any { f with j := f.j + 1 } hp hn W)
  obtain ⟨X, hX⟩ : ∃ X, onX c f = X := ⟨_, rfl⟩
  rw [hX]
  unfold onX at hX
  obtain ⟨Y, hY⟩ : ∃ Y, nextOne { f with j := f.j + 1 } = Y := ⟨_, rfl⟩
  rw [hY] at HN hX
  clear hY
  unfold frv cfv at *
  obtain ⟨t, k, seq, kind, a, b, pc, i, j, n, p, h, x, y⟩ := f
  simp only at hn hj hX HN
  have j1 : IntKind.u8.wrap ((j : Int) + 1) = (j : Int) + 1 := by rw [IntKind.wrap_u8]; omega
  have j2 : IntKind.i64.wrap ((j : Int) + 1) = (j : Int) + 1 := by rw [IntKind.wrap_i64]; omega
  have e : (((j + 1 : Nat)) : Int) = (j : Int) + 1 := by push_cast; rfl
  rw [e] at HN
  by_cases g : b < x
  · rw [if_pos g] at hX
    subst hX
    have g1 : (b : Int) < (x : Int) := by omega
    clear g HN
    go_enter Tryd.func83, Tryd.ntmps83
    go_wp2_with (go_at_call 77; refine (rAtI _ _ _ _ _ _ _ _ _ _ _ _ _).mono ?_; rintro e w1 ⟨rfl, hb1⟩; have HB := Lib.hid (below_then (below_three w _ _ _) hb1); have G2 := blk_below (new_third w _ _ _) hb1; obtain ⟨u0, v0, u1, v1, u2, v2, u3, v3, u4, v4, u5, v5, u6, v6, u7, v7, u8, v8, u9, v9, u10, v10⟩ := cells11 G2; clear hb1 G2)
    refine bodyPost_ret ?_ rfl ⟨rfl, ?_⟩
    · simp [results, Tryd.results83, go_sem, u0, u1, u2, u3, u4, u5, u6, u7, u8, u9, u10]
    · (repeat' (first | with_reducible exact HB.out | (with_reducible refine Below.setCell ?_ ?_ _))) <;> (simp; try omega)
  have g1 : ¬ (b : Int) < (x : Int) := by omega
  rw [if_neg g] at hX
  clear g
  by_cases g2 : c.chunk ≤ (j : Int) + 1
  · rw [if_pos g2] at hX
    subst hX
    clear HN
    go_enter Tryd.func83, Tryd.ntmps83
    go_wp2_with (go_at_call 77; refine (rAtI _ _ _ _ _ _ _ _ _ _ _ _ _).mono ?_; rintro e w1 ⟨rfl, hb1⟩; have HB := Lib.hid (below_then (below_three w _ _ _) hb1); have G2 := blk_below (new_third w _ _ _) hb1; obtain ⟨u0, v0, u1, v1, u2, v2, u3, v3, u4, v4, u5, v5, u6, v6, u7, v7, u8, v8, u9, v9, u10, v10⟩ := cells11 G2; clear hb1 G2)
    refine bodyPost_ret ?_ rfl ⟨rfl, ?_⟩
    · simp [results, Tryd.results83, go_sem, u0, u1, u2, u3, u4, u5, u6, u7, u8, u9, u10]
    · (repeat' (first | with_reducible exact HB.out | (with_reducible refine Below.setCell ?_ ?_ _))) <;> (simp; try omega)
  · rw [if_neg g2] at hX
    subst hX
    go_enter Tryd.func83, Tryd.ntmps83
    go_wp2_with (go_at_call 82; refine (HN.out _).mono ?_; rintro e w1 ⟨rfl, hb1⟩; have HB := Lib.hid (below_then (below_three w _ _ _) hb1); have G2 := blk_below (new_third w _ _ _) hb1; obtain ⟨u0, v0, u1, v1, u2, v2, u3, v3, u4, v4, u5, v5, u6, v6, u7, v7, u8, v8, u9, v9, u10, v10⟩ := cells11 G2; clear hb1 G2)
    refine bodyPost_ret ?_ rfl ⟨rfl, ?_⟩
    · simp [results, Tryd.results83, go_sem, u0, u1, u2, u3, u4, u5, u6, u7, u8, u9, u10]
    · (repeat' (first | with_reducible exact HB.out | (with_reducible refine Below.setCell ?_ ?_ _))) <;> (simp; try omega)
end Go.Proofs.YtmkehailohgebaaDoor
