/- What becomes of a frame of an index that has found its place: the document's own. -/
import Derived.Test.YtmkehailohgebaaDoorGTeH
namespace Go.Proofs.YtmkehailohgebaaDoor
open Go.RowKit Go.Lib Pt Opn

set_option maxRecDepth 100000 in
set_option maxHeartbeats 8000000 in
theorem rFound_6 (c : Cf) (f : Ds) (hk : f.kind = 6) (hn : f.n < 256) (hp : f.p < 255) (hj : f.j < 255) (w : World) : Calls Tryd.prog 113 #[cfv c, frv f] w (Ret2 (frv (foundX c f).1) (.bool (foundX c f).2) w) := by
  obtain ⟨X, hX⟩ : ∃ X, foundX c f = X := ⟨_, rfl⟩
  rw [hX]
  unfold foundX at hX
  unfold frv cfv at *
  obtain ⟨t, k, seq, kind, a, b, pc, i, j, n, p, h, x, y⟩ := f
  simp only at *
  subst hk
  rw [if_pos rfl] at hX
  by_cases g : x = a
  · have s1 : ((x : Int) == (a : Int)) = true := by simp [g]
    rw [if_pos g] at hX
    subst hX
    clear g
    go_enter Tryd.func113, Tryd.ntmps113
    go_wp2_with (go_at_call 77; refine (rAtI _ _ _ _ _ _ _ _ _ _ _ _ _).mono ?_; rintro e w1 ⟨rfl, hb1⟩; have HB := Lib.hid (below_then (below_three w _ _ _) hb1); have G2 := blk_below (new_third w _ _ _) hb1; obtain ⟨u0, v0, u1, v1, u2, v2, u3, v3, u4, v4, u5, v5, u6, v6, u7, v7, u8, v8, u9, v9, u10, v10⟩ := cells11 G2; clear hb1 G2)
    refine bodyPost_ret ?_ rfl ⟨rfl, ?_⟩
    · simp [results, Tryd.results113, go_sem, u0, u1, u2, u3, u4, u5, u6, u7, u8, u9, u10]
    · (repeat' (first | with_reducible exact HB.out | (with_reducible refine Below.setCell ?_ ?_ _))) <;> (simp; try omega)
  · have s1 : ((x : Int) == (a : Int)) = false := by simp; omega
    rw [if_neg g] at hX
    subst hX
    clear g
    go_enter Tryd.func113, Tryd.ntmps113
    go_wp2_with (go_at_call 77; refine (rAtI _ _ _ _ _ _ _ _ _ _ _ _ _).mono ?_; rintro e w1 ⟨rfl, hb1⟩; have HB := Lib.hid (below_then (below_three w _ _ _) hb1); have G2 := blk_below (new_third w _ _ _) hb1; obtain ⟨u0, v0, u1, v1, u2, v2, u3, v3, u4, v4, u5, v5, u6, v6, u7, v7, u8, v8, u9, v9, u10, v10⟩ := cells11 G2; clear hb1 G2)
    refine bodyPost_ret ?_ rfl ⟨rfl, ?_⟩
    · simp [results, Tryd.results113, go_sem, u0, u1, u2, u3, u4, u5, u6, u7, u8, u9, u10]
    · (repeat' (first | with_reducible exact HB.out | (with_reducible refine Below.setCell ?_ ?_ _))) <;> (simp; try omega)

set_option maxRecDepth 100000 in
set_option maxHeartbeats 8000000 in
theorem rFound_7 (c : Cf) (f : Ds) (hk : f.kind = 7) (hn : f.n < 256) (hp : f.p < 255) (hj : f.j < 255) (w : World) : Calls Tryd.prog 113 #[cfv c, frv f] w (Ret2 (frv (foundX c f).1) (.bool (foundX c f).2) w) := by
  obtain ⟨X, hX⟩ : ∃ X, foundX c f = X := ⟨_, rfl⟩
  rw [hX]
  unfold foundX at hX
  unfold frv cfv at *
  obtain ⟨t, k, seq, kind, a, b, pc, i, j, n, p, h, x, y⟩ := f
  simp only at *
  subst hk
  rw [if_neg (by decide), if_pos rfl] at hX
  by_cases g : x = a
  · have s1 : ((x : Int) == (a : Int)) = true := by simp [g]
    rw [if_pos g] at hX
    subst hX
    clear g
    go_enter Tryd.func113, Tryd.ntmps113
    go_wp2_with (go_at_call 77; refine (rAtI _ _ _ _ _ _ _ _ _ _ _ _ _).mono ?_; rintro e w1 ⟨rfl, hb1⟩; have HB := Lib.hid (below_then (below_three w _ _ _) hb1); have G2 := blk_below (new_third w _ _ _) hb1; obtain ⟨u0, v0, u1, v1, u2, v2, u3, v3, u4, v4, u5, v5, u6, v6, u7, v7, u8, v8, u9, v9, u10, v10⟩ := cells11 G2; clear hb1 G2)
    refine bodyPost_ret ?_ rfl ⟨rfl, ?_⟩
    · simp [results, Tryd.results113, go_sem, u0, u1, u2, u3, u4, u5, u6, u7, u8, u9, u10]
    · (repeat' (first | with_reducible exact HB.out | (with_reducible refine Below.setCell ?_ ?_ _))) <;> (simp; try omega)
  · have s1 : ((x : Int) == (a : Int)) = false := by simp; omega
    rw [if_neg g] at hX
    by_cases gp : 0 < p
    · rw [if_pos gp] at hX
      subst hX
      have p1 : (0 : Int) < (p : Int) := by omega
      clear g gp
      go_enter Tryd.func113, Tryd.ntmps113
      go_wp2_with (go_at_call 77; refine (rAtI _ _ _ _ _ _ _ _ _ _ _ _ _).mono ?_; rintro e w1 ⟨rfl, hb1⟩; have HB := Lib.hid (below_then (below_three w _ _ _) hb1); have G2 := blk_below (new_third w _ _ _) hb1; obtain ⟨u0, v0, u1, v1, u2, v2, u3, v3, u4, v4, u5, v5, u6, v6, u7, v7, u8, v8, u9, v9, u10, v10⟩ := cells11 G2; clear hb1 G2)
      refine bodyPost_ret ?_ rfl ⟨rfl, ?_⟩
      · simp [results, Tryd.results113, go_sem, u0, u1, u2, u3, u4, u5, u6, u7, u8, u9, u10]
      · (repeat' (first | with_reducible exact HB.out | (with_reducible refine Below.setCell ?_ ?_ _))) <;> (simp; try omega)
    · rw [if_neg gp] at hX
      obtain rfl : p = 0 := by omega
      subst hX
      clear g gp
      go_enter Tryd.func113, Tryd.ntmps113
      go_wp2_with (go_at_call 77; refine (rAtI _ _ _ _ _ _ _ _ _ _ _ _ _).mono ?_; rintro e w1 ⟨rfl, hb1⟩; have HB := Lib.hid (below_then (below_three w _ _ _) hb1); have G2 := blk_below (new_third w _ _ _) hb1; obtain ⟨u0, v0, u1, v1, u2, v2, u3, v3, u4, v4, u5, v5, u6, v6, u7, v7, u8, v8, u9, v9, u10, v10⟩ := cells11 G2; clear hb1 G2)
      refine bodyPost_ret ?_ rfl ⟨rfl, ?_⟩
      · simp [results, Tryd.results113, go_sem, u0, u1, u2, u3, u4, u5, u6, u7, u8, u9, u10]
      · (repeat' (first | with_reducible exact HB.out | (with_reducible refine Below.setCell ?_ ?_ _))) <;> (simp; try omega)

set_option maxRecDepth 100000 in
set_option maxHeartbeats 8000000 in
theorem rFound_4 (c : Cf) (f : Ds) (hk : f.kind = 4) (hn : f.n < 256) (hp : f.p < 255) (hj : f.j < 255) (w : World) : Calls Tryd.prog 113 #[cfv c, frv f] w (Ret2 (frv (foundX c f).1) (.bool (foundX c f).2) w) := by
  have HF := Lib.hid (fun W => rFreshX_any c f hn W)
  obtain ⟨X, hX⟩ : ∃ X, foundX c f = X := ⟨_, rfl⟩
  rw [hX]
  unfold foundX at hX
  obtain ⟨Y, hY⟩ : ∃ Y, freshX c f = Y := ⟨_, rfl⟩
  rw [hY] at HF hX
  clear hY
  unfold frv cfv at *
  obtain ⟨t, k, seq, kind, a, b, pc, i, j, n, p, h, x, y⟩ := f
  simp only at *
  subst hk
  rw [if_neg (by decide), if_neg (by decide), if_neg (by decide), if_pos rfl] at hX
  have q : ((4 : Nat) : Int) = 4 := rfl
  rw [q] at *
  by_cases g : x = a
  · have s1 : ((x : Int) == (a : Int)) = true := by simp [g]
    rw [if_pos g] at hX
    subst hX
    clear g HF
    go_enter Tryd.func113, Tryd.ntmps113
    go_wp2_with (go_at_call 77; refine (rAtI _ _ _ _ _ _ _ _ _ _ _ _ _).mono ?_; rintro e w1 ⟨rfl, hb1⟩; have HB := Lib.hid (below_then (below_three w _ _ _) hb1); have G2 := blk_below (new_third w _ _ _) hb1; obtain ⟨u0, v0, u1, v1, u2, v2, u3, v3, u4, v4, u5, v5, u6, v6, u7, v7, u8, v8, u9, v9, u10, v10⟩ := cells11 G2; clear hb1 G2)
    refine bodyPost_ret ?_ rfl ⟨rfl, ?_⟩
    · simp [results, Tryd.results113, go_sem, u0, u1, u2, u3, u4, u5, u6, u7, u8, u9, u10]
    · (repeat' (first | with_reducible exact HB.out | (with_reducible refine Below.setCell ?_ ?_ _))) <;> (simp; try omega)
  · have s1 : ((x : Int) == (a : Int)) = false := by simp; omega
    rw [if_neg g] at hX
    subst hX
    clear g
    go_enter Tryd.func113, Tryd.ntmps113
    go_wp2_with (go_at_call 112; refine (HF.out _).mono ?_; rintro e w1 ⟨rfl, hb1⟩; have HB := Lib.hid (below_then (below_three w _ _ _) hb1); have G2 := blk_below (new_third w _ _ _) hb1; obtain ⟨u0, v0, u1, v1, u2, v2, u3, v3, u4, v4, u5, v5, u6, v6, u7, v7, u8, v8, u9, v9, u10, v10⟩ := cells11 G2; clear hb1 G2)
    refine bodyPost_ret ?_ rfl ⟨rfl, ?_⟩
    · simp [results, Tryd.results113, go_sem, u0, u1, u2, u3, u4, u5, u6, u7, u8, u9, u10]
    · (repeat' (first | with_reducible exact HB.out | (with_reducible refine Below.setCell ?_ ?_ _))) <;> (simp; try omega)

set_option maxRecDepth 100000 in
set_option maxHeartbeats 8000000 in
theorem rFound_5 (c : Cf) (f : Ds) (hk : f.kind = 5) (hn : f.n < 256) (hp : f.p < 255) (hj : f.j < 255) (w : World) : Calls Tryd.prog 113 #[cfv c, frv f] w (Ret2 (frv (foundX c f).1) (.bool (foundX c f).2) w) := by
  obtain ⟨X, hX⟩ : ∃ X, foundX c f = X := ⟨_, rfl⟩
  rw [hX]
  unfold foundX at hX
  unfold frv cfv at *
  obtain ⟨t, k, seq, kind, a, b, pc, i, j, n, p, h, x, y⟩ := f
  simp only at *
  subst hk
  rw [if_neg (by decide), if_neg (by decide), if_neg (by decide), if_neg (by decide), if_pos rfl] at hX
  have y1 : IntKind.u32.wrap ((y : Int) + 1) = (((y + 1) % 4294967296 : Nat) : Int) := by rw [IntKind.wrap_u32]; omega
  have p2 : IntKind.u8.wrap ((p : Int) + 1) = (p : Int) + 1 := by rw [IntKind.wrap_u8]; omega
  generalize (y + 1) % 4294967296 = y' at *
  by_cases g : x = a
  · have s1 : ((x : Int) == (a : Int)) = true := by simp [g]
    rw [if_pos g] at hX
    by_cases gp : n ≤ p + 1
    · rw [if_pos gp] at hX
      subst hX
      have p1 : (n : Int) ≤ (p : Int) + 1 := by omega
      clear g gp
      go_enter Tryd.func113, Tryd.ntmps113
      go_wp2_with (go_at_call 77; refine (rAtI _ _ _ _ _ _ _ _ _ _ _ _ _).mono ?_; rintro e w1 ⟨rfl, hb1⟩; have HB := Lib.hid (below_then (below_three w _ _ _) hb1); have G2 := blk_below (new_third w _ _ _) hb1; obtain ⟨u0, v0, u1, v1, u2, v2, u3, v3, u4, v4, u5, v5, u6, v6, u7, v7, u8, v8, u9, v9, u10, v10⟩ := cells11 G2; clear hb1 G2)
      refine bodyPost_ret ?_ rfl ⟨rfl, ?_⟩
      · simp [results, Tryd.results113, go_sem, u0, u1, u2, u3, u4, u5, u6, u7, u8, u9, u10]
      · (repeat' (first | with_reducible exact HB.out | (with_reducible refine Below.setCell ?_ ?_ _))) <;> (simp; try omega)
    · rw [if_neg gp] at hX
      subst hX
      have p1 : ¬ (n : Int) ≤ (p : Int) + 1 := by omega
      clear g gp
      go_enter Tryd.func113, Tryd.ntmps113
      go_wp2_with (go_at_call 77; refine (rAtI _ _ _ _ _ _ _ _ _ _ _ _ _).mono ?_; rintro e w1 ⟨rfl, hb1⟩; have HB := Lib.hid (below_then (below_three w _ _ _) hb1); have G2 := blk_below (new_third w _ _ _) hb1; obtain ⟨u0, v0, u1, v1, u2, v2, u3, v3, u4, v4, u5, v5, u6, v6, u7, v7, u8, v8, u9, v9, u10, v10⟩ := cells11 G2; clear hb1 G2)
      refine bodyPost_ret ?_ rfl ⟨rfl, ?_⟩
      · simp [results, Tryd.results113, go_sem, u0, u1, u2, u3, u4, u5, u6, u7, u8, u9, u10]
      · (repeat' (first | with_reducible exact HB.out | (with_reducible refine Below.setCell ?_ ?_ _))) <;> (simp; try omega)
  · have s1 : ((x : Int) == (a : Int)) = false := by simp; omega
    rw [if_neg g] at hX
    subst hX
    clear g
    go_enter Tryd.func113, Tryd.ntmps113
    go_wp2_with (go_at_call 77; refine (rAtI _ _ _ _ _ _ _ _ _ _ _ _ _).mono ?_; rintro e w1 ⟨rfl, hb1⟩; have HB := Lib.hid (below_then (below_three w _ _ _) hb1); have G2 := blk_below (new_third w _ _ _) hb1; obtain ⟨u0, v0, u1, v1, u2, v2, u3, v3, u4, v4, u5, v5, u6, v6, u7, v7, u8, v8, u9, v9, u10, v10⟩ := cells11 G2; clear hb1 G2)
    refine bodyPost_ret ?_ rfl ⟨rfl, ?_⟩
    · simp [results, Tryd.results113, go_sem, u0, u1, u2, u3, u4, u5, u6, u7, u8, u9, u10]
    · (repeat' (first | with_reducible exact HB.out | (with_reducible refine Below.setCell ?_ ?_ _))) <;> (simp; try omega)

set_option maxRecDepth 100000 in
set_option maxHeartbeats 8000000 in
theorem rFound_8 (c : Cf) (f : Ds) (hk : f.kind = 8) (hn : f.n < 256) (hp : f.p < 255) (hj : f.j < 255) (w : World) : Calls Tryd.prog 113 #[cfv c, frv f] w (Ret2 (frv (foundX c f).1) (.bool (foundX c f).2) w) := by
  have HN := Lib.hid (fun W => rOnX_any c f hn hp hj W)
  obtain ⟨X, hX⟩ : ∃ X, foundX c f = X := ⟨_, rfl⟩
  rw [hX]
  unfold foundX at hX
  obtain ⟨Y, hY⟩ : ∃ Y, onX c f = Y := ⟨_, rfl⟩
  rw [hY] at HN hX
  clear hY
  unfold frv cfv at *
  obtain ⟨t, k, seq, kind, a, b, pc, i, j, n, p, h, x, y⟩ := f
  simp only at *
  subst hk
  rw [if_neg (by decide), if_neg (by decide), if_pos rfl] at hX
  have q : ((8 : Nat) : Int) = 8 := rfl
  rw [q] at *
  subst hX
  go_enter Tryd.func113, Tryd.ntmps113
  go_wp2_with (go_at_call 83; refine (HN.out _).mono ?_; rintro e w1 ⟨rfl, hb1⟩; have HB := Lib.hid (below_then (below_three w _ _ _) hb1); have G2 := blk_below (new_third w _ _ _) hb1; obtain ⟨u0, v0, u1, v1, u2, v2, u3, v3, u4, v4, u5, v5, u6, v6, u7, v7, u8, v8, u9, v9, u10, v10⟩ := cells11 G2; clear hb1 G2)
  refine bodyPost_ret ?_ rfl ⟨rfl, ?_⟩
  · simp [results, Tryd.results113, go_sem, u0, u1, u2, u3, u4, u5, u6, u7, u8, u9, u10]
  · (repeat' (first | with_reducible exact HB.out | (with_reducible refine Below.setCell ?_ ?_ _))) <;> (simp; try omega)

theorem rFoundX_any (c : Cf) (f : Ds) (hk : f.kind = 4 ∨ f.kind = 5 ∨ f.kind = 6 ∨ f.kind = 7 ∨ f.kind = 8) (hn : f.n < 256) (hp : f.p < 255) (hj : f.j < 255) (w : World) : Calls Tryd.prog 113 #[cfv c, frv f] w (Ret2 (frv (foundX c f).1) (.bool (foundX c f).2) w) := by
  rcases hk with e | e | e | e | e
  · exact rFound_4 c f e hn hp hj w
  · exact rFound_5 c f e hn hp hj w
  · exact rFound_6 c f e hn hp hj w
  · exact rFound_7 c f e hn hp hj w
  · exact rFound_8 c f e hn hp hj w
end Go.Proofs.YtmkehailohgebaaDoor
