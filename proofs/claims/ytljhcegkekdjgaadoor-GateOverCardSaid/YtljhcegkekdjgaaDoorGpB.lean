/- The program of a set of access rules, the program's own: the questions, as closures. -/
import Derived.Test.YtljhcegkekdjgaaDoorGpA
import Derived.Deep.Cut
import Derived.Deep.RegionHeld3
namespace Go.Proofs.YtljhcegkekdjgaaDoor
open Go.RowKit Go.Lib Pt Opn

/-- A closure over two numbers; over a bit. -/
def Asks2 (F : FuncId) (a b : Nat) (w : World) (e : Ending) (w' : World) : Prop := ∃ p q : Nat, e = .returned (.func (.func F) #[] #[.pointer (some ⟨p, 0, none⟩), .pointer (some ⟨q, 0, none⟩)]) ∧ w'.cell? ⟨p, 0, none⟩ = some (.int .u64 (a : Nat)) ∧ w'.cell? ⟨q, 0, none⟩ = some (.int .u64 (b : Nat)) ∧ Below w.heap.size w w'
def Asks1 (F : FuncId) (r : Bool) (w : World) (e : Ending) (w' : World) : Prop := ∃ p : Nat, e = .returned (.func (.func F) #[] #[.pointer (some ⟨p, 0, none⟩)]) ∧ w'.cell? ⟨p, 0, none⟩ = some (.bool r) ∧ Below w.heap.size w w'

set_option maxRecDepth 100000 in
set_option maxHeartbeats 8000000 in
theorem pRuleOf_any (f : Ds) (hw : DWf f) (w : World) : Calls Tryd.prog 64 #[frv f] w (Asks2 84 f.a f.b w) := by
  unfold DWf at hw
  have a1 := wrap64u (a := f.a) (by omega)
  have b1 := wrap64u (a := f.b) (by omega)
  obtain ⟨tg, k, seq, kind, a, b, pc, i, j, n, p, h, x, y⟩ := f
  unfold frv
  simp only at *
  clear hw
  go_enter Tryd.func64, Tryd.ntmps64
  go_upto_region 1 with fail
  refine enter1 fun W hb g0 q0 => ?_
  obtain ⟨k0, k1, k2, k3, k4, k5, k6, k7, k8, k9, k10⟩ := cl11 g0
  go_cut [3, 4] (fun s3 s4 wx => ∃ p q : Nat, s3 = .pointer (some ⟨p, 0, none⟩) ∧ s4 = .pointer (some ⟨q, 0, none⟩) ∧ Hid (wx.cell? ⟨p, 0, none⟩ = some (.int .u64 (a : Nat)) ∧ wx.cell? ⟨q, 0, none⟩ = some (.int .u64 (b : Nat)) ∧ Below W.heap.size W wx))
  case first =>
    go_region
    all_goals
      go_wp2_with fail
      go_meet
      exact ⟨_, _, rfl, rfl, Lib.hid ⟨by simp [go_sem], by simp [go_sem], below_drew' (below_two _ _ _)⟩⟩
  case rest =>
    obtain ⟨p, q, rfl, rfl, HM⟩ := hcut
    go_wp2_with fail
    refine bodyPost_ret ?_ rfl ⟨p, q, rfl, HM.out.1, HM.out.2.1, below_then hb HM.out.2.2⟩
    simp [results, Tryd.results64, go_sem]
set_option maxRecDepth 100000 in
set_option maxHeartbeats 8000000 in
theorem pSpeakOf_any (f : Ds) (hw : DWf f) (w : World) : Calls Tryd.prog 62 #[frv f] w (Asks2 82 f.a f.b w) := by
  unfold DWf at hw
  have a1 := wrap64u (a := f.a) (by omega)
  have b1 := wrap64u (a := f.b) (by omega)
  obtain ⟨tg, k, seq, kind, a, b, pc, i, j, n, p, h, x, y⟩ := f
  unfold frv
  simp only at *
  clear hw
  go_enter Tryd.func62, Tryd.ntmps62
  go_upto_region 1 with fail
  refine enter1 fun W hb g0 q0 => ?_
  obtain ⟨k0, k1, k2, k3, k4, k5, k6, k7, k8, k9, k10⟩ := cl11 g0
  go_cut [3, 4] (fun s3 s4 wx => ∃ p q : Nat, s3 = .pointer (some ⟨p, 0, none⟩) ∧ s4 = .pointer (some ⟨q, 0, none⟩) ∧ Hid (wx.cell? ⟨p, 0, none⟩ = some (.int .u64 (a : Nat)) ∧ wx.cell? ⟨q, 0, none⟩ = some (.int .u64 (b : Nat)) ∧ Below W.heap.size W wx))
  case first =>
    go_region
    all_goals
      go_wp2_with fail
      go_meet
      exact ⟨_, _, rfl, rfl, Lib.hid ⟨by simp [go_sem], by simp [go_sem], below_drew' (below_two _ _ _)⟩⟩
  case rest =>
    obtain ⟨p, q, rfl, rfl, HM⟩ := hcut
    go_wp2_with fail
    refine bodyPost_ret ?_ rfl ⟨p, q, rfl, HM.out.1, HM.out.2.1, below_then hb HM.out.2.2⟩
    simp [results, Tryd.results62, go_sem]
set_option maxRecDepth 100000 in
set_option maxHeartbeats 8000000 in
theorem pRoomFor_any (f : Ds) (w : World) : Calls Tryd.prog 65 #[frv f] w (Asks1 85 (decide (f.kind = 9 ∧ f.h = 0)) w) := by
  obtain ⟨tg, k, seq, kind, a, b, pc, i, j, n, p, h, x, y⟩ := f
  unfold frv
  simp only at *
  rcases (show kind = 9 ∨ (kind ≠ 9 ∧ ((kind : Int) == 9) = false) by by_cases e : kind = 9; exact .inl e; exact .inr ⟨e, by simp; omega⟩) with rfl | ⟨k1, k2⟩ <;> rcases (show h = 0 ∨ (h ≠ 0 ∧ ((h : Int) == 0) = false) by by_cases e : h = 0; exact .inl e; exact .inr ⟨e, by simp; omega⟩) with rfl | ⟨h1, h2⟩
  all_goals
    simp [*]
    go_enter Tryd.func65, Tryd.ntmps65
    go_wp2
    refine bodyPost_ret (v := .func (.func 85) #[] #[.pointer (some ⟨w.heap.size + 1, 0, none⟩)]) ?_ rfl ⟨_, rfl, ?_, below_two _ _ _⟩
    · simp [results, Tryd.results65, go_sem]
    · simp [go_sem]
set_option maxRecDepth 100000 in
set_option maxHeartbeats 8000000 in
theorem pIsRule_any (f : Ds) (t A B C : Nat) (p q : Nat) (w : World) (hp : w.cell? ⟨p, 0, none⟩ = some (.int .u64 (f.a : Nat))) (hq : w.cell? ⟨q, 0, none⟩ = some (.int .u64 (f.b : Nat))) :
    Calls Tryd.prog 84 #[cvT t A B C, .pointer (some ⟨p, 0, none⟩), .pointer (some ⟨q, 0, none⟩)] w (Ret (.bool (decide (hasG f A B C))) w) := by
  obtain ⟨r, hr⟩ : ∃ r, decide (hasG f A B C) = r := ⟨_, rfl⟩
  rw [hr]
  replace hr : r = true ↔ hasG f A B C := by rw [← hr]; exact decide_eq_true_iff
  unfold hasG at hr
  obtain ⟨tg, k, seq, kind, a, b, pc, i, j, n, p', h, x, y⟩ := f
  unfold cvT
  simp only at *
  have HR := Lib.hid hr
  have p1 := World.block_lt_of_cell? _ _ hp
  have q1 := World.block_lt_of_cell? _ _ hq
  simp only at p1 q1
  clear hr
  go_enter Tryd.func84, Tryd.ntmps84
  go_wp2
  all_goals go_ret
  all_goals
    have hr := HR.out
    refine Ret.mk (bool_eq ?_) ?_
    · rw [Bool.eq_iff_iff, hr]
      clear HR hr hp hq
      simp only [ne_eq] at *
      simp
      try omega
    · (repeat' (first | with_reducible exact Below.refl _ _ | (with_reducible refine Below.setCell ?_ ?_ _) | (with_reducible refine Below.alloc ?_ ?_ _))) <;> (simp; try omega)
set_option maxRecDepth 100000 in
set_option maxHeartbeats 8000000 in
theorem pSpeaks_any (f : Ds) (t A B C : Nat) (p q : Nat) (w : World) (hp : w.cell? ⟨p, 0, none⟩ = some (.int .u64 (f.a : Nat))) (hq : w.cell? ⟨q, 0, none⟩ = some (.int .u64 (f.b : Nat))) :
    Calls Tryd.prog 82 #[cvT t A B C, .pointer (some ⟨p, 0, none⟩), .pointer (some ⟨q, 0, none⟩)] w (Ret (.bool (decide (spkG f A B C))) w) := by
  obtain ⟨r, hr⟩ : ∃ r, decide (spkG f A B C) = r := ⟨_, rfl⟩
  rw [hr]
  replace hr : r = true ↔ spkG f A B C := by rw [← hr]; exact decide_eq_true_iff
  unfold spkG at hr
  obtain ⟨tg, k, seq, kind, a, b, pc, i, j, n, p', h, x, y⟩ := f
  unfold cvT
  simp only at *
  have HR := Lib.hid hr
  have p1 := World.block_lt_of_cell? _ _ hp
  have q1 := World.block_lt_of_cell? _ _ hq
  simp only at p1 q1
  clear hr
  go_enter Tryd.func82, Tryd.ntmps82
  go_wp2
  all_goals go_ret
  all_goals
    have hr := HR.out
    refine Ret.mk (bool_eq ?_) ?_
    · rw [Bool.eq_iff_iff, hr]
      clear HR hr hp hq
      simp only [bne_iff_ne, ne_eq] at *
      simp
      try omega
    · (repeat' (first | with_reducible exact Below.refl _ _ | (with_reducible refine Below.setCell ?_ ?_ _) | (with_reducible refine Below.alloc ?_ ?_ _))) <;> (simp; try omega)
set_option maxRecDepth 100000 in
set_option maxHeartbeats 8000000 in
theorem pIsRoom_any (r : Bool) (t A B C : Nat) (p : Nat) (w : World) (hp : w.cell? ⟨p, 0, none⟩ = some (.bool r)) :
    Calls Tryd.prog 85 #[cvT t A B C, .pointer (some ⟨p, 0, none⟩)] w (Ret (.bool (r && decide (A = 0))) w) := by
  obtain ⟨s, hs⟩ : ∃ s, (r && decide (A = 0)) = s := ⟨_, rfl⟩
  rw [hs]
  have HR := Lib.hid hs
  have p1 := World.block_lt_of_cell? _ _ hp
  simp only at p1
  unfold cvT
  clear hs
  cases r
  all_goals
    go_enter Tryd.func85, Tryd.ntmps85
    go_wp2
  all_goals go_ret
  all_goals
    refine Ret.mk (bool_eq ?_) ?_
    · rw [← HR.out]
      clear HR hp
      (try simp only [beq_iff_eq, beq_eq_false_iff_ne, ne_eq] at *)
      (try simp)
      (try (rw [Bool.eq_iff_iff]; simp))
      try omega
    · (repeat' (first | with_reducible exact Below.refl _ _ | (with_reducible refine Below.setCell ?_ ?_ _) | (with_reducible refine Below.alloc ?_ ?_ _))) <;> (simp; try omega)
end Go.Proofs.YtljhcegkekdjgaaDoor
