/- The document's own program of a set of access rules: what becomes of a frame. -/
import Derived.Test.YtljhcegkekdjgaaDoorGtMay
import Derived.Test.YtljhcegkekdjgaaDoorGBk
namespace Go.Proofs.YtljhcegkekdjgaaDoor
open Go.RowKit Go.Lib Pt Opn

set_option maxRecDepth 100000 in
set_option maxHeartbeats 8000000 in
theorem rCheckedG_any (c : Cf) (f : Ds) (t A B C : Nat) (hw : DWf f) (hp : f.pc = 0) (hi : f.i ≤ 31) (w : World) : Calls Tryd.prog 49 #[cfv c, frv f, cvT t A B C] w (Ret (frv (checkedG c f A B C)) w) := by
  have HS := Lib.hid (fun W => rSpkG_any f t A B C hw W)
  obtain ⟨s, hs⟩ : ∃ s, decide (spkG f A B C) = s := ⟨_, rfl⟩
  rw [hs] at HS
  have hs' : spkG f A B C ↔ s = true := by rw [← hs, decide_eq_true_iff]
  obtain ⟨X, hX⟩ : ∃ X, checkedG c f A B C = X := ⟨_, rfl⟩
  rw [hX]
  unfold checkedG onG at hX
  simp only [hs'] at hX
  clear hs hs' hw
  obtain ⟨t', k, seq, kind, a, b, pc, i, j, n, p, h, x, y⟩ := f
  unfold cfv cvT frv at *
  simp only at *
  subst hp
  have i1 : IntKind.i64.wrap (i : Int) = (i : Int) := by rw [IntKind.wrap_i64]; omega
  have i2 : IntKind.u8.wrap ((i : Int) + 1) = ((i + 1 : Nat) : Int) := by rw [IntKind.wrap_u8]; omega
  have i3 : IntKind.i64.wrap ((i : Int) + 1) = (i : Int) + 1 := by rw [IntKind.wrap_i64]; omega
  have hA : A = 2 ∨ (A ≠ 2 ∧ ((A : Int) == 2) = false) := by
    by_cases g : A = 2
    · exact .inl g
    · exact .inr ⟨g, by simp; omega⟩
  have hc : ((i : Int) + 1 = c.cap ∧ ((i : Int) + 1 == c.cap) = true) ∨ (¬ (i : Int) + 1 = c.cap ∧ ((i : Int) + 1 == c.cap) = false) := by
    by_cases g : (i : Int) + 1 = c.cap
    · exact .inl ⟨g, by simpa using g⟩
    · exact .inr ⟨g, by simpa using g⟩
  cases s <;> rcases hA with rfl | ⟨A1, A2⟩ <;> rcases hc with ⟨gg1, gg2⟩ | ⟨gg1, gg2⟩
  all_goals
    simp [*] at hX
    subst hX
    try clear A1
    clear gg1 hi
    simp only [show ((0 : Nat) : Int) = 0 from rfl, show ((1 : Nat) : Int) = 1 from rfl, show ((2 : Nat) : Int) = 2 from rfl, show ((20 : Nat) : Int) = 20 from rfl] at HS ⊢
    go_enter Tryd.func49, Tryd.ntmps49
    go_upto_region 1 with fail
    refine enter4 fun W hb g0 g1 g2 g3 q0 q1 q2 q3 => ?_
    obtain ⟨r0, r1, r2, r3, r4, r5, r6, r7, r8, r9, r10, r11⟩ := cl12 g0
    obtain ⟨k0, y0, k1, y1, k2, y2, k3, y3, k4, y4, k5, y5, k6, y6, k7, y7, k8, y8, k9, y9, k10, y10⟩ := cells11 g1
    obtain ⟨c0, c1, c2, c3⟩ := cells4p g2
    obtain ⟨u0, v0, u1, v1, u2, v2, u3, v3, u4, v4, u5, v5, u6, v6, u7, v7, u8, v8, u9, v9, u10, v10⟩ := cells11 g3
    clear q0 q1 q2 q3
    have q0 := (Array.getElem?_eq_some_iff.1 g0).1
    have q1 := (Array.getElem?_eq_some_iff.1 g1).1
    have q2 := (Array.getElem?_eq_some_iff.1 g2).1
    have q3 := (Array.getElem?_eq_some_iff.1 g3).1
    go_wp2_with (go_at_call 68; refine (HS.out _).mono ?_; rintro e w1 ⟨rfl, hb1⟩; replace hb := below_then hb hb1; replace g0 := blk_below g0 hb1; replace g1 := blk_below g1 hb1; replace g2 := blk_below g2 hb1; replace g3 := blk_below g3 hb1; clear hb1; clear r0 r1 r2 r3 r4 r5 r6 r7 r8 r9 r10 r11 k0 y0 k1 y1 k2 y2 k3 y3 k4 y4 k5 y5 k6 y6 k7 y7 k8 y8 k9 y9 k10 y10 c0 c1 c2 c3 u0 v0 u1 v1 u2 v2 u3 v3 u4 v4 u5 v5 u6 v6 u7 v7 u8 v8 u9 v9 u10 v10 q0 q1 q2 q3; obtain ⟨r0, r1, r2, r3, r4, r5, r6, r7, r8, r9, r10, r11⟩ := cl12 g0; obtain ⟨k0, y0, k1, y1, k2, y2, k3, y3, k4, y4, k5, y5, k6, y6, k7, y7, k8, y8, k9, y9, k10, y10⟩ := cells11 g1; obtain ⟨c0, c1, c2, c3⟩ := cells4p g2; obtain ⟨u0, v0, u1, v1, u2, v2, u3, v3, u4, v4, u5, v5, u6, v6, u7, v7, u8, v8, u9, v9, u10, v10⟩ := cells11 g3; have q0 := (Array.getElem?_eq_some_iff.1 g0).1; have q1 := (Array.getElem?_eq_some_iff.1 g1).1; have q2 := (Array.getElem?_eq_some_iff.1 g2).1; have q3 := (Array.getElem?_eq_some_iff.1 g3).1)
    have HB := Lib.hid hb
    clear hb
    refine bodyPost_ret ?_ rfl ⟨rfl, ?_⟩
    · simp [results, Tryd.results49, go_sem, u0, u1, u2, u3, u4, u5, u6, u7, u8, u9, u10]
    · (repeat' (first | with_reducible exact HB.out | (with_reducible refine Below.setCell ?_ ?_ _) | (with_reducible refine Below.alloc ?_ ?_ _))) <;> (simp; try omega)
end Go.Proofs.YtljhcegkekdjgaaDoor
