/- What becomes of a frame of a table of routes, of whatever kind: the document's own. -/
import Derived.Test.YtjhgccfnihbokaaDoorTrBeh
namespace Go.Proofs.YtjhgccfnihbokaaDoor
open Go.RowKit Pt Opn

set_option maxRecDepth 100000 in
set_option maxHeartbeats 8000000 in
theorem rBehT_read (c : Cf) (f : Ds) (t A B C : Nat) (hk : f.kind = 3) (hp : f.pc = 0) (hb : 0 ≤ c.bits ∧ c.bits ≤ 6) (hh : f.h ≤ 6) (w : World) : Calls Tryd.prog 30 #[cfv c, frv f, cvT t A B C] w (Ret (frv (behindT c f A B)) w) := by
  have HL := Lib.hid (fun W => rLookT_any c f t A B C hb hh W)
  rw [← bhT_look hk hp] at HL
  obtain ⟨X, hX⟩ : ∃ X, behindT c f A B = X := ⟨_, rfl⟩
  rw [hX] at HL ⊢
  clear hX hh hb
  obtain ⟨x1, x2, x3, kind', x4, x5, pc', x6, x7, x8, x9, x10, x11, x12⟩ := X
  obtain ⟨t', k, seq, kind, a, b, pc, i, j, n, p, h, x, y⟩ := f
  simp only at hk hp
  subst hk hp
  unfold cfv cvT frv at *
  simp only at *
  go_enter Tryd.func30, Tryd.ntmps30
  go_wp2_with fail
  refine (HL.out _).mono ?_
  rintro e w1 ⟨rfl, hb1⟩
  have hre := blk_below (new_fourth w _ _ _ _) hb1
  have HB := Lib.hid (below_then (below_then (below_three w _ _ _) (below_one _ _)) hb1)
  have hz := (Array.getElem?_eq_some_iff.1 hre).1
  obtain ⟨r0, f0, r1, f1, r2, f2, r3, f3, r4, f4, r5, f5, r6, f6, r7, f7, r8, f8, r9, f9, r10, f10⟩ := cells11 hre
  clear hre hb1
  go_wp2
  refine bodyPost_ret ?_ rfl ⟨rfl, ?_⟩
  · simp [results, Tryd.results30, go_sem, r0, r1, r2, r3, r4, r5, r6, r7, r8, r9, r10]
  · (repeat' (first | with_reducible exact HB.out | (with_reducible refine Below.setCell ?_ ?_ _))) <;> (simp; try omega)

set_option maxRecDepth 100000 in
set_option maxHeartbeats 8000000 in
theorem rBehT_rest (c : Cf) (f : Ds) (t A B C : Nat) (hc : Ok c) (hobj : c.obj = 1) (hm : TMay c f) (hn : ¬ (f.kind = 3 ∧ f.pc = 0)) (hw : DWf f) (hB : B < 18446744073709551616) (w : World) : Calls Tryd.prog 30 #[cfv c, frv f, cvT t A B C] w (Ret (frv (behindT c f A B)) w) := by
  obtain ⟨_, b2, _, _, b5, b6, _, _⟩ := mayT_bounds hc hobj hm
  have hcap : 1 ≤ c.cap ∧ c.cap ≤ 32 := by have := hc.2.2; unfold RestOk at this; omega
  have hth := hm.2.1
  rw [thereT_iff] at hth
  have htop : f.kind ≠ 3 → topT c f = f.b := fun g => by unfold topT; rw [if_neg g]
  obtain ⟨X, hX⟩ : ∃ X, behindT c f A B = X := ⟨_, rfl⟩
  rw [hX]
  unfold behindT at hX
  obtain ⟨nc, hnc⟩ : ∃ n : Nat, c.cap = n := ⟨c.cap.toNat, by omega⟩
  rw [hnc] at hX hcap
  simp only [Int.toNat_natCast] at hX
  have c1 : IntKind.u64.wrap (nc : Int) = (nc : Int) := by rw [IntKind.wrap_u64]; omega
  generalize topT c f = T at *
  unfold cfv cvT frv
  rw [hnc]
  clear hnc hm hc hobj
  obtain ⟨t', k, seq, kind, a, b, pc, i, j, n, p, h, x, y⟩ := f
  unfold DWf at hw
  obtain ⟨V, hV⟩ : ∃ V, A % 4294967296 = V := ⟨_, rfl⟩
  have e1 : IntKind.u32.wrap ((A : Int) % 4294967296) = (V : Int) := by rw [IntKind.wrap_u32]; omega
  obtain ⟨M, hM⟩ : ∃ M, B % 64 = M := ⟨_, rfl⟩
  have e2 : IntKind.u8.wrap ((B : Int) % 64) = (M : Int) := by rw [IntKind.wrap_u8]; omega
  rw [hV, hM] at hX
  clear hV hM
  simp only at hX hw hth htop b5 b6 hn ⊢
  have h1 : IntKind.u8.wrap ((h : Int) + 1) = ((h + 1 : Nat) : Int) := by rw [IntKind.wrap_u8]; omega
  have h2 : IntKind.u32.wrap (h : Int) = (h : Int) := by rw [IntKind.wrap_u32]; omega
  have hv : V = 0 ∨ (V ≠ 0 ∧ ((V : Int) != 0) = true) := by
    by_cases g : V = 0
    · exact .inl g
    · exact .inr ⟨g, by simp; omega⟩
  have hbl : (B < nc ∧ (B : Int) < nc) ∨ (¬ B < nc ∧ ¬ (B : Int) < nc) := by omega
  have hhb : h = b ∨ (h ≠ b ∧ ((h : Int) == (b : Int)) = false) := by
    by_cases g : h = b
    · exact .inl g
    · exact .inr ⟨g, by simp; omega⟩
  have hcase : (kind = 3 ∧ (pc = 6 ∨ pc = 8)) ∨ (kind = 1 ∧ (pc = 0 ∨ pc = 1 ∨ pc = 2 ∨ pc = 3 ∨ pc = 5 ∨ pc = 6 ∨ pc = 7)) ∨ (kind = 2 ∧ (pc = 0 ∨ pc = 2 ∨ pc = 3 ∨ pc = 6 ∨ pc = 8)) := by omega
  clear hth htop b5 b6 hn b2
  rcases hcase with ⟨rfl, rfl | rfl⟩ | ⟨rfl, rfl | rfl | rfl | rfl | rfl | rfl | rfl⟩ | ⟨rfl, rfl | rfl | rfl | rfl | rfl⟩
  · simp at hX
    subst hX
    go_enter Tryd.func30, Tryd.ntmps30
    go_wp2
    refine bodyPost_ret ?_ rfl ⟨rfl, ?_⟩
    · simp [results, Tryd.results30, go_sem]
    · (repeat' (first | with_reducible exact Below.refl _ _ | (with_reducible refine Below.setCell ?_ ?_ _) | (with_reducible refine Below.alloc ?_ ?_ _))) <;> (simp; try omega)
  · simp at hX
    subst hX
    go_enter Tryd.func30, Tryd.ntmps30
    go_wp2
    refine bodyPost_ret ?_ rfl ⟨rfl, ?_⟩
    · simp [results, Tryd.results30, go_sem]
    · (repeat' (first | with_reducible exact Below.refl _ _ | (with_reducible refine Below.setCell ?_ ?_ _) | (with_reducible refine Below.alloc ?_ ?_ _))) <;> (simp; try omega)
  · rcases hv with rfl | ⟨v1, v2⟩
    · simp at hX
      subst hX
      go_enter Tryd.func30, Tryd.ntmps30
      go_wp2
      refine bodyPost_ret ?_ rfl ⟨rfl, ?_⟩
      · simp [results, Tryd.results30, go_sem]
      · (repeat' (first | with_reducible exact Below.refl _ _ | (with_reducible refine Below.setCell ?_ ?_ _) | (with_reducible refine Below.alloc ?_ ?_ _))) <;> (simp; try omega)
    · simp [v1] at hX
      subst hX
      go_enter Tryd.func30, Tryd.ntmps30
      go_wp2
      refine bodyPost_ret ?_ rfl ⟨rfl, ?_⟩
      · simp [results, Tryd.results30, go_sem]
      · (repeat' (first | with_reducible exact Below.refl _ _ | (with_reducible refine Below.setCell ?_ ?_ _) | (with_reducible refine Below.alloc ?_ ?_ _))) <;> (simp; try omega)
  · rcases hbl with ⟨g1, g2⟩ | ⟨g1, g2⟩
    · simp [g1] at hX
      subst hX
      go_enter Tryd.func30, Tryd.ntmps30
      go_wp2
      refine bodyPost_ret ?_ rfl ⟨rfl, ?_⟩
      · simp [results, Tryd.results30, go_sem]
      · (repeat' (first | with_reducible exact Below.refl _ _ | (with_reducible refine Below.setCell ?_ ?_ _) | (with_reducible refine Below.alloc ?_ ?_ _))) <;> (simp; try omega)
    · simp [g1] at hX
      subst hX
      go_enter Tryd.func30, Tryd.ntmps30
      go_wp2
      refine bodyPost_ret ?_ rfl ⟨rfl, ?_⟩
      · simp [results, Tryd.results30, go_sem]
      · (repeat' (first | with_reducible exact Below.refl _ _ | (with_reducible refine Below.setCell ?_ ?_ _) | (with_reducible refine Below.alloc ?_ ?_ _))) <;> (simp; try omega)
  · simp at hX
    subst hX
    go_enter Tryd.func30, Tryd.ntmps30
    go_wp2
    refine bodyPost_ret ?_ rfl ⟨rfl, ?_⟩
    · simp [results, Tryd.results30, go_sem]
    · (repeat' (first | with_reducible exact Below.refl _ _ | (with_reducible refine Below.setCell ?_ ?_ _) | (with_reducible refine Below.alloc ?_ ?_ _))) <;> (simp; try omega)
  · rcases hhb with rfl | ⟨g1, g2⟩
    · simp at hX
      subst hX
      go_enter Tryd.func30, Tryd.ntmps30
      go_wp2
      refine bodyPost_ret ?_ rfl ⟨rfl, ?_⟩
      · simp [results, Tryd.results30, go_sem]
      · (repeat' (first | with_reducible exact Below.refl _ _ | (with_reducible refine Below.setCell ?_ ?_ _) | (with_reducible refine Below.alloc ?_ ?_ _))) <;> (simp; try omega)
    · simp [g1] at hX
      subst hX
      go_enter Tryd.func30, Tryd.ntmps30
      go_wp2
      refine bodyPost_ret ?_ rfl ⟨rfl, ?_⟩
      · simp [results, Tryd.results30, go_sem]
      · (repeat' (first | with_reducible exact Below.refl _ _ | (with_reducible refine Below.setCell ?_ ?_ _) | (with_reducible refine Below.alloc ?_ ?_ _))) <;> (simp; try omega)
  · simp at hX
    subst hX
    go_enter Tryd.func30, Tryd.ntmps30
    go_wp2
    refine bodyPost_ret ?_ rfl ⟨rfl, ?_⟩
    · simp [results, Tryd.results30, go_sem]
    · (repeat' (first | with_reducible exact Below.refl _ _ | (with_reducible refine Below.setCell ?_ ?_ _) | (with_reducible refine Below.alloc ?_ ?_ _))) <;> (simp; try omega)
  · simp at hX
    subst hX
    go_enter Tryd.func30, Tryd.ntmps30
    go_wp2
    refine bodyPost_ret ?_ rfl ⟨rfl, ?_⟩
    · simp [results, Tryd.results30, go_sem]
    · (repeat' (first | with_reducible exact Below.refl _ _ | (with_reducible refine Below.setCell ?_ ?_ _) | (with_reducible refine Below.alloc ?_ ?_ _))) <;> (simp; try omega)
  · simp at hX
    subst hX
    go_enter Tryd.func30, Tryd.ntmps30
    go_wp2
    refine bodyPost_ret ?_ rfl ⟨rfl, ?_⟩
    · simp [results, Tryd.results30, go_sem]
    · (repeat' (first | with_reducible exact Below.refl _ _ | (with_reducible refine Below.setCell ?_ ?_ _) | (with_reducible refine Below.alloc ?_ ?_ _))) <;> (simp; try omega)
  · rcases hv with rfl | ⟨v1, v2⟩
    · simp at hX
      subst hX
      go_enter Tryd.func30, Tryd.ntmps30
      go_wp2
      refine bodyPost_ret ?_ rfl ⟨rfl, ?_⟩
      · simp [results, Tryd.results30, go_sem]
      · (repeat' (first | with_reducible exact Below.refl _ _ | (with_reducible refine Below.setCell ?_ ?_ _) | (with_reducible refine Below.alloc ?_ ?_ _))) <;> (simp; try omega)
    · simp [v1] at hX
      subst hX
      go_enter Tryd.func30, Tryd.ntmps30
      go_wp2
      refine bodyPost_ret ?_ rfl ⟨rfl, ?_⟩
      · simp [results, Tryd.results30, go_sem]
      · (repeat' (first | with_reducible exact Below.refl _ _ | (with_reducible refine Below.setCell ?_ ?_ _) | (with_reducible refine Below.alloc ?_ ?_ _))) <;> (simp; try omega)
  · simp at hX
    subst hX
    go_enter Tryd.func30, Tryd.ntmps30
    go_wp2
    refine bodyPost_ret ?_ rfl ⟨rfl, ?_⟩
    · simp [results, Tryd.results30, go_sem]
    · (repeat' (first | with_reducible exact Below.refl _ _ | (with_reducible refine Below.setCell ?_ ?_ _) | (with_reducible refine Below.alloc ?_ ?_ _))) <;> (simp; try omega)
  · rcases hhb with rfl | ⟨g1, g2⟩
    · simp at hX
      subst hX
      go_enter Tryd.func30, Tryd.ntmps30
      go_wp2
      refine bodyPost_ret ?_ rfl ⟨rfl, ?_⟩
      · simp [results, Tryd.results30, go_sem]
      · (repeat' (first | with_reducible exact Below.refl _ _ | (with_reducible refine Below.setCell ?_ ?_ _) | (with_reducible refine Below.alloc ?_ ?_ _))) <;> (simp; try omega)
    · simp [g1] at hX
      subst hX
      go_enter Tryd.func30, Tryd.ntmps30
      go_wp2
      refine bodyPost_ret ?_ rfl ⟨rfl, ?_⟩
      · simp [results, Tryd.results30, go_sem]
      · (repeat' (first | with_reducible exact Below.refl _ _ | (with_reducible refine Below.setCell ?_ ?_ _) | (with_reducible refine Below.alloc ?_ ?_ _))) <;> (simp; try omega)
  · simp at hX
    subst hX
    go_enter Tryd.func30, Tryd.ntmps30
    go_wp2
    refine bodyPost_ret ?_ rfl ⟨rfl, ?_⟩
    · simp [results, Tryd.results30, go_sem]
    · (repeat' (first | with_reducible exact Below.refl _ _ | (with_reducible refine Below.setCell ?_ ?_ _) | (with_reducible refine Below.alloc ?_ ?_ _))) <;> (simp; try omega)
  · simp at hX
    subst hX
    go_enter Tryd.func30, Tryd.ntmps30
    go_wp2
    refine bodyPost_ret ?_ rfl ⟨rfl, ?_⟩
    · simp [results, Tryd.results30, go_sem]
    · (repeat' (first | with_reducible exact Below.refl _ _ | (with_reducible refine Below.setCell ?_ ?_ _) | (with_reducible refine Below.alloc ?_ ?_ _))) <;> (simp; try omega)

theorem rBehT_any (c : Cf) (f : Ds) (t A B C : Nat) (hc : Ok c) (hobj : c.obj = 1) (hm : TMay c f) (hw : DWf f) (hB : B < 18446744073709551616) (w : World) : Calls Tryd.prog 30 #[cfv c, frv f, cvT t A B C] w (Ret (frv (behindT c f A B)) w) := by
  by_cases hn : f.kind = 3 ∧ f.pc = 0
  · obtain ⟨b1, b2, _, _, b5, _⟩ := mayT_bounds hc hobj hm
    exact rBehT_read c f t A B C hn.1 hn.2 b1 (by omega) w
  · exact rBehT_rest c f t A B C hc hobj hm hn hw hB w
end Go.Proofs.YtjhgccfnihbokaaDoor
