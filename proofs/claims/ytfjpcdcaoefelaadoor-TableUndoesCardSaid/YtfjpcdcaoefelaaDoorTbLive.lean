/- The statements' own examples, played. -/
import Derived.Test.YtfjpcdcaoefelaaDoorTbAlive
namespace Go.Proofs.YtfjpcdcaoefelaaDoor
open Go.RowKit Go.Lib Tb Pt Opn

theorem is_one {w : World} {g a b : Nat} (h0 : w.cell? ⟨g, 0, none⟩ = some (.int .u64 a)) (h1 : w.cell? ⟨g, 1, none⟩ = some (.int .u64 b)) : IsR w (some ⟨g, 0, none⟩) [(a, b)] := fun i x hx => by
  match i, hx with
  | 0, hx => injection hx with hx; subst hx; exact ⟨g, 0, rfl, fun j u hj => by match j, hj with | 0, hj => injection hj with hj; subst hj; exact h0 | 1, hj => injection hj with hj; subst hj; exact h1⟩
theorem is_two {w : World} {g a b c d : Nat} (h0 : w.cell? ⟨g, 0, none⟩ = some (.int .u64 a)) (h1 : w.cell? ⟨g, 1, none⟩ = some (.int .u64 b)) (h2 : w.cell? ⟨g, 2, none⟩ = some (.int .u64 c)) (h3 : w.cell? ⟨g, 3, none⟩ = some (.int .u64 d)) : IsR w (some ⟨g, 0, none⟩) [(a, b), (c, d)] := fun i x hx => by
  match i, hx with
  | 0, hx => injection hx with hx; subst hx; exact ⟨g, 0, rfl, fun j u hj => by match j, hj with | 0, hj => injection hj with hj; subst hj; exact h0 | 1, hj => injection hj with hj; subst hj; exact h1⟩
  | 1, hx => injection hx with hx; subst hx; exact ⟨g, 0, rfl, fun j u hj => by match j, hj with | 0, hj => injection hj with hj; subst hj; exact h2 | 1, hj => injection hj with hj; subst hj; exact h3⟩
theorem does_ex (l want : List R) (o : O) (ho : Wf o) (code v : Int) (hg : doE cfC l = 0 ∧ (doR cfC l o).2.1 = code ∧ (doR cfC l o).2.2 = v ∧ (doR cfC l o).1 = want) (k a b c : Int) (hk : (o.k : Int) = k) (ha : (o.a : Int) = a) (hb : (o.b : Int) = b) (hc : (o.c : Int) = c) (n m : Nat) (hn : l.length = n) (hm : want.length = m) (hl : n ≤ 1000)
    (A B : Option Addr) (d dB : Nat) (hA : A = none → n = 0 ∧ d = 0) (w : World) (hp : Obs w) (h : IsR w A l) (hB : IsR w B want) :
    Calls Tryd.prog 11 #[.slice A n d, .agg #[.int .u8 k, .int .u32 a, .int .u32 b, .int .u32 c], .int .i64 code, .int .u32 v, .slice B m dB] w (Ret (.bool true) w) := by
  subst hn hm hk ha hb hc
  have h1 := does_any A l d hA hl o ho code v B want dB w hp h hB
  rw [decide_eq_true hg] at h1
  exact h1
theorem ex_0 (gb : Nat) (X : World) (hp : Obs X) (h : IsR X none []) (hB : IsR X (some ⟨gb, 0, none⟩) [(13, 7)]) :
    Calls Tryd.prog 11 #[.slice none 0 0, .agg #[.int .u8 1, .int .u32 5, .int .u32 3, .int .u32 7], .int .i64 0, .int .u32 0, .slice (some ⟨gb, 0, none⟩) 1 1] X (Ret (.bool true) X) :=
  does_ex [] [(13, 7)] ⟨1, 5, 3, 7⟩ (by unfold Wf; decide) 0 0 (by decide +kernel) 1 5 3 7 rfl rfl rfl rfl 0 1 rfl rfl (by decide) none (some ⟨gb, 0, none⟩) 0 1 (by simp) X hp h hB
theorem ex_1 (ga gb : Nat) (X : World) (hp : Obs X) (h : IsR X (some ⟨ga, 0, none⟩) [(1, 4), (13, 7)]) (hB : IsR X (some ⟨gb, 0, none⟩) [(1, 4), (13, 7)]) :
    Calls Tryd.prog 11 #[.slice (some ⟨ga, 0, none⟩) 2 2, .agg #[.int .u8 3, .int .u32 5, .int .u32 0, .int .u32 0], .int .i64 0, .int .u32 8, .slice (some ⟨gb, 0, none⟩) 2 2] X (Ret (.bool true) X) :=
  does_ex [(1, 4), (13, 7)] [(1, 4), (13, 7)] ⟨3, 5, 0, 0⟩ (by unfold Wf; decide) 0 8 (by decide +kernel) 3 5 0 0 rfl rfl rfl rfl 2 2 rfl rfl (by decide) (some ⟨ga, 0, none⟩) (some ⟨gb, 0, none⟩) 2 2 (by simp) X hp h hB
theorem ex_2 (ga gb : Nat) (X : World) (hp : Obs X) (h : IsR X (some ⟨ga, 0, none⟩) [(1, 4), (13, 7)]) (hB : IsR X (some ⟨gb, 0, none⟩) [(1, 4), (13, 7)]) :
    Calls Tryd.prog 11 #[.slice (some ⟨ga, 0, none⟩) 2 2, .agg #[.int .u8 3, .int .u32 4, .int .u32 0, .int .u32 0], .int .i64 0, .int .u32 5, .slice (some ⟨gb, 0, none⟩) 2 2] X (Ret (.bool true) X) :=
  does_ex [(1, 4), (13, 7)] [(1, 4), (13, 7)] ⟨3, 4, 0, 0⟩ (by unfold Wf; decide) 0 5 (by decide +kernel) 3 4 0 0 rfl rfl rfl rfl 2 2 rfl rfl (by decide) (some ⟨ga, 0, none⟩) (some ⟨gb, 0, none⟩) 2 2 (by simp) X hp h hB
theorem ex_3 (ga gb : Nat) (X : World) (hp : Obs X) (h : IsR X (some ⟨ga, 0, none⟩) [(1, 4), (13, 7)]) (hB : IsR X (some ⟨gb, 0, none⟩) [(1, 4), (13, 7)]) :
    Calls Tryd.prog 11 #[.slice (some ⟨ga, 0, none⟩) 2 2, .agg #[.int .u8 1, .int .u32 2, .int .u32 2, .int .u32 0], .int .i64 9, .int .u32 0, .slice (some ⟨gb, 0, none⟩) 2 2] X (Ret (.bool true) X) :=
  does_ex [(1, 4), (13, 7)] [(1, 4), (13, 7)] ⟨1, 2, 2, 0⟩ (by unfold Wf; decide) 9 0 (by decide +kernel) 1 2 2 0 rfl rfl rfl rfl 2 2 rfl rfl (by decide) (some ⟨ga, 0, none⟩) (some ⟨gb, 0, none⟩) 2 2 (by simp) X hp h hB
theorem ex_4 (ga gb : Nat) (X : World) (hp : Obs X) (h : IsR X (some ⟨ga, 0, none⟩) [(1, 4), (13, 7)]) (hB : IsR X (some ⟨gb, 0, none⟩) [(1, 4), (13, 9)]) :
    Calls Tryd.prog 11 #[.slice (some ⟨ga, 0, none⟩) 2 2, .agg #[.int .u8 1, .int .u32 5, .int .u32 3, .int .u32 9], .int .i64 0, .int .u32 8, .slice (some ⟨gb, 0, none⟩) 2 2] X (Ret (.bool true) X) :=
  does_ex [(1, 4), (13, 7)] [(1, 4), (13, 9)] ⟨1, 5, 3, 9⟩ (by unfold Wf; decide) 0 8 (by decide +kernel) 1 5 3 9 rfl rfl rfl rfl 2 2 rfl rfl (by decide) (some ⟨ga, 0, none⟩) (some ⟨gb, 0, none⟩) 2 2 (by simp) X hp h hB
theorem ex_5 (ga gb : Nat) (X : World) (hp : Obs X) (h : IsR X (some ⟨ga, 0, none⟩) [(1, 4), (13, 7)]) (hB : IsR X (some ⟨gb, 0, none⟩) [(13, 7)]) :
    Calls Tryd.prog 11 #[.slice (some ⟨ga, 0, none⟩) 2 2, .agg #[.int .u8 2, .int .u32 0, .int .u32 0, .int .u32 0], .int .i64 0, .int .u32 5, .slice (some ⟨gb, 0, none⟩) 1 1] X (Ret (.bool true) X) :=
  does_ex [(1, 4), (13, 7)] [(13, 7)] ⟨2, 0, 0, 0⟩ (by unfold Wf; decide) 0 5 (by decide +kernel) 2 0 0 0 rfl rfl rfl rfl 2 1 rfl rfl (by decide) (some ⟨ga, 0, none⟩) (some ⟨gb, 0, none⟩) 2 1 (by simp) X hp h hB
theorem ex_6 (ga gb : Nat) (X : World) (hp : Obs X) (h : IsR X (some ⟨ga, 0, none⟩) [(13, 7)]) (hB : IsR X (some ⟨gb, 0, none⟩) [(13, 7)]) :
    Calls Tryd.prog 11 #[.slice (some ⟨ga, 0, none⟩) 1 1, .agg #[.int .u8 3, .int .u32 4, .int .u32 0, .int .u32 0], .int .i64 6, .int .u32 0, .slice (some ⟨gb, 0, none⟩) 1 1] X (Ret (.bool true) X) :=
  does_ex [(13, 7)] [(13, 7)] ⟨3, 4, 0, 0⟩ (by unfold Wf; decide) 6 0 (by decide +kernel) 3 4 0 0 rfl rfl rfl rfl 1 1 rfl rfl (by decide) (some ⟨ga, 0, none⟩) (some ⟨gb, 0, none⟩) 1 1 (by simp) X hp h hB
set_option maxRecDepth 20000 in
set_option maxHeartbeats 4000000 in
theorem alive_any (w : World) (hp : Obs w) : Calls Tryd.prog 12 #[] w (Ret (.bool true) w) := by
  have HP := Lib.hid hp
  clear hp
  go_enter Tryd.func12, Tryd.ntmps12
  go_wp2_with fail
  obtain ⟨W, hW⟩ : ∃ W, W = ((w.alloc (.cells #[.int .u64 13, .int .u64 7] 24)).alloc (.cells #[.int .u64 1, .int .u64 4, .int .u64 13, .int .u64 7] 24)) := ⟨_, rfl⟩
  have hb0 : Below w.heap.size w W := by rw [hW]; exact below_two _ _ _
  have HP1 := Lib.hid (HP.out.below hb0)
  have R1 := Lib.hid (show IsR W (some ⟨w.heap.size, 0, none⟩) [(13, 7)] by rw [hW]; exact is_one (by simp [go_sem]) (by simp [go_sem]))
  have R2 := Lib.hid (show IsR W (some ⟨w.heap.size + 1, 0, none⟩) [(1, 4), (13, 7)] by rw [hW]; exact is_two (by simp [go_sem]) (by simp [go_sem]) (by simp [go_sem]) (by simp [go_sem]))
  rw [← hW]
  clear hW
  refine (ex_0 w.heap.size _ (HP1.out.below (Below.refl _ _)) (IsL.nil _ _ _ _) (R1.out.below (Below.refl _ _))).mono ?_
  rintro e w2 ⟨rfl, hb2⟩
  obtain ⟨w1, hw1⟩ : ∃ X, X = w2 := ⟨_, rfl⟩
  rw [← hw1] at hb2 ⊢
  have hb1 := hb2
  clear hb2 hw1 w2
  go_wp2_with fail
  refine (ex_1 (w.heap.size + 1) (w.heap.size + 1) _ (HP1.out.below hb1) (R2.out.below hb1) (R2.out.below hb1)).mono ?_
  rintro e w2 ⟨rfl, hb2⟩
  replace hb1 := below_then hb1 hb2
  clear hb2
  go_wp2_with fail
  refine (ex_2 (w.heap.size + 1) (w.heap.size + 1) _ (HP1.out.below hb1) (R2.out.below hb1) (R2.out.below hb1)).mono ?_
  rintro e w2 ⟨rfl, hb2⟩
  replace hb1 := below_then hb1 hb2
  clear hb2
  go_wp2_with fail
  refine (ex_3 (w.heap.size + 1) (w.heap.size + 1) _ (HP1.out.below hb1) (R2.out.below hb1) (R2.out.below hb1)).mono ?_
  rintro e w2 ⟨rfl, hb2⟩
  replace hb1 := below_then hb1 hb2
  clear hb2
  go_wp2_with fail
  refine (ex_4 (w.heap.size + 1) _ _ (HP1.out.below (below_then hb1 (below_one _ _))) (R2.out.below (below_then hb1 (below_one _ _))) (is_two (by simp [go_sem]) (by simp [go_sem]) (by simp [go_sem]) (by simp [go_sem]))).mono ?_
  rintro e w2 ⟨rfl, hb2⟩
  replace hb1 := below_then (below_then hb1 (below_one _ _)) hb2
  clear hb2
  go_wp2_with fail
  refine (ex_5 (w.heap.size + 1) w.heap.size _ (HP1.out.below hb1) (R2.out.below hb1) (R1.out.below hb1)).mono ?_
  rintro e w2 ⟨rfl, hb2⟩
  replace hb1 := below_then hb1 hb2
  clear hb2
  go_wp2_with fail
  refine (ex_6 w.heap.size w.heap.size _ (HP1.out.below hb1) (R1.out.below hb1) (R1.out.below hb1)).mono ?_
  rintro e w2 ⟨rfl, hb2⟩
  replace hb1 := below_then hb1 hb2
  clear hb2
  go_wp2
  go_ret
  exact Ret.mk rfl (below_then hb0 hb1)
end Go.Proofs.YtfjpcdcaoefelaaDoor
