/- The statements' own examples, played. -/
import Derived.Test.YtohllaolbebogaaDoorOrAlive
namespace Go.Proofs.YtohllaolbebogaaDoor
open Go.RowKit Go.Lib Tb Pt Opn

theorem isr_lit (w : World) (xs : Array Value) (l : List R) (n : Nat) (hn : l.length = n) (hx : xs.toList = flatL rowL l) (hl : n ≤ 1000) : IsR (w.alloc (.cells xs 37)) (some ⟨w.heap.size, 0, none⟩) l := by
  subst hn
  have hs : xs.size = l.length * 2 := by rw [← Array.length_toList, hx, flatR]
  have h := World.ownsRow_lit (e := 37) (base := w.heap.size) (size := 2) w xs l.length (Nat.le_refl _) (by unfold maxLen; omega) hs
  rw [hx] at h
  obtain ⟨A, c, e, _, _, h2⟩ := MadeX.form rowL_len (show MadeX _ _ _ 2 rowL _ l from h)
  injection e with e _ _
  rw [e]; exact h2
theorem isr_take {w : World} {A : Option Addr} {l : List R} (h : IsR w A l) (n : Nat) : IsR w A (l.take n) := fun i x hx => by
  rw [List.getElem?_take] at hx
  split at hx
  · exact h i x hx
  · cases hx
theorem three_any (w : World) : Calls Tryd.prog 10 #[] w fun e w' => e = .returned (.slice (some ⟨w.heap.size, 0, none⟩) 3 3) ∧ Below w.heap.size w w' ∧ IsR w' (some ⟨w.heap.size, 0, none⟩) [(2, 20), (5, 50), (9, 90)] := by
  go_enter Tryd.func10, Tryd.ntmps10
  go_wp2
  go_ret
  exact ⟨rfl, below_one _ _, isr_lit w _ [(2, 20), (5, 50), (9, 90)] 3 rfl rfl (by decide)⟩
theorem idoes_ex (l want : List R) (o : O) (ho : Wf o) (code v : Int) (many : Nat) (hg : doOE cfI l = 0 ∧ (doOR cfI l o).2.1 = code ∧ (doOR cfI l o).2.2.1 = v ∧ (doOR cfI l o).2.2.2 = want ∧ (doOR cfI l o).1.length = many) (k a b c : Int) (hk : (o.k : Int) = k) (ha : (o.a : Int) = a) (hb : (o.b : Int) = b) (hc : (o.c : Int) = c) (n m : Nat) (hn : l.length = n) (hm : want.length = m) (hl : n ≤ 1000) (hwl : m ≤ 1000) (z : Int) (hz : (many : Int) = z)
    (A B : Option Addr) (d dB : Nat) (hA : A = none → n = 0 ∧ d = 0) (w : World) (hp : Obs w) (h : IsR w A l) (hB : IsR w B want) :
    Calls Tryd.prog 13 #[.slice A n d, .agg #[.int .u8 k, .int .u32 a, .int .u32 b, .int .u32 c], .agg #[.int .i64 code, .int .u32 v, .slice B m dB], .int .i64 z] w (Ret (.bool true) w) := by
  subst hn hm hk ha hb hc hz
  have h1 := idoes_any A l d hA hl o ho code v B want dB many w hp h hB (by omega)
  rw [decide_eq_true hg] at h1
  exact h1
theorem put_first (X : World) (hp : Obs X) : Calls Tryd.prog 11 #[.agg #[.int .u8 2, .int .i64 2, .int .i64 1, .int .u8 1, .int .i64 0, .int .i64 0, .int .i64 3, .int .i64 2, .int .i64 1, .int .i64 1, .int .u64 131072, .int .u64 0], .slice none 0 0, .agg #[.int .u8 4, .int .u32 5, .int .u32 50, .int .u32 0]] X fun e w' =>
    ∃ A c B d, e = .returned (.tuple #[.slice A 1 c, .agg #[.int .i64 0, .int .u32 0, .slice B 0 d], .int .i64 0]) ∧ IsR w' A [(5, 50)] ∧ Below X.heap.size X w' := by
  have h := odo_any cfI none [] 0 ⟨4, 5, 50, 0⟩ (by unfold Wf; decide) (fun _ => ⟨rfl, rfl⟩) (by decide) X hp (IsL.nil _ _ _ _)
  rw [show doOR cfI [] ⟨4, 5, 50, 0⟩ = ([(5, 50)], 0, 0, []) by decide +kernel, show doOE cfI [] = 0 by decide +kernel] at h
  refine h.mono ?_
  rintro e w' ⟨u, r, rfl, hu, hr, _, hb⟩
  obtain ⟨A, c, rfl, _, _, h2⟩ := MadeX.form rowL_len hu
  obtain ⟨B, d, rfl, _⟩ := MadeX.form rowL_len hr
  exact ⟨A, c, B, d, rfl, h2, hb⟩
theorem ix_0 (g : Nat) (X : World) (hp : Obs X) (h : IsR X (some ⟨g, 0, none⟩) [(2, 20), (5, 50), (9, 90)]) :
    Calls Tryd.prog 13 #[.slice (some ⟨g, 0, none⟩) 3 3, .agg #[.int .u8 6, .int .u32 5, .int .u32 0, .int .u32 0], .agg #[.int .i64 0, .int .u32 51, .slice none 0 0], .int .i64 3] X (Ret (.bool true) X) :=
  idoes_ex [(2, 20), (5, 50), (9, 90)] [] ⟨6, 5, 0, 0⟩ (by unfold Wf; decide) 0 51 3 (by decide +kernel) 6 5 0 0 rfl rfl rfl rfl 3 0 rfl rfl (by decide) (by decide) 3 rfl (some ⟨g, 0, none⟩) none 3 0 (by simp) X hp h (IsL.nil _ _ _ _)
theorem ix_1 (g : Nat) (X : World) (hp : Obs X) (h : IsR X (some ⟨g, 0, none⟩) [(2, 20), (5, 50), (9, 90)]) :
    Calls Tryd.prog 13 #[.slice (some ⟨g, 0, none⟩) 3 3, .agg #[.int .u8 6, .int .u32 6, .int .u32 0, .int .u32 0], .agg #[.int .i64 6, .int .u32 0, .slice none 0 0], .int .i64 3] X (Ret (.bool true) X) :=
  idoes_ex [(2, 20), (5, 50), (9, 90)] [] ⟨6, 6, 0, 0⟩ (by unfold Wf; decide) 6 0 3 (by decide +kernel) 6 6 0 0 rfl rfl rfl rfl 3 0 rfl rfl (by decide) (by decide) 3 rfl (some ⟨g, 0, none⟩) none 3 0 (by simp) X hp h (IsL.nil _ _ _ _)
theorem ix_2 (g : Nat) (X : World) (hp : Obs X) (h : IsR X (some ⟨g, 0, none⟩) [(2, 20), (5, 50), (9, 90)]) (hB : IsR X (some ⟨g, 2, none⟩) [(5, 50)]) :
    Calls Tryd.prog 13 #[.slice (some ⟨g, 0, none⟩) 3 3, .agg #[.int .u8 7, .int .u32 6, .int .u32 0, .int .u32 0], .agg #[.int .i64 0, .int .u32 0, .slice (some ⟨g, 2, none⟩) 1 2], .int .i64 3] X (Ret (.bool true) X) :=
  idoes_ex [(2, 20), (5, 50), (9, 90)] [(5, 50)] ⟨7, 6, 0, 0⟩ (by unfold Wf; decide) 0 0 3 (by decide +kernel) 7 6 0 0 rfl rfl rfl rfl 3 1 rfl rfl (by decide) (by decide) 3 rfl (some ⟨g, 0, none⟩) (some ⟨g, 2, none⟩) 3 2 (by simp) X hp h hB
theorem ix_3 (g : Nat) (X : World) (hp : Obs X) (h : IsR X (some ⟨g, 0, none⟩) [(2, 20), (5, 50), (9, 90)]) :
    Calls Tryd.prog 13 #[.slice (some ⟨g, 0, none⟩) 3 3, .agg #[.int .u8 7, .int .u32 1, .int .u32 0, .int .u32 0], .agg #[.int .i64 6, .int .u32 0, .slice none 0 0], .int .i64 3] X (Ret (.bool true) X) :=
  idoes_ex [(2, 20), (5, 50), (9, 90)] [] ⟨7, 1, 0, 0⟩ (by unfold Wf; decide) 6 0 3 (by decide +kernel) 7 1 0 0 rfl rfl rfl rfl 3 0 rfl rfl (by decide) (by decide) 3 rfl (some ⟨g, 0, none⟩) none 3 0 (by simp) X hp h (IsL.nil _ _ _ _)
theorem ix_4 (g : Nat) (X : World) (hp : Obs X) (h : IsR X (some ⟨g, 0, none⟩) [(2, 20), (5, 50), (9, 90)]) (hB : IsR X (some ⟨g, 2, none⟩) [(5, 50), (9, 90)]) :
    Calls Tryd.prog 13 #[.slice (some ⟨g, 0, none⟩) 3 3, .agg #[.int .u8 8, .int .u32 3, .int .u32 9, .int .u32 0], .agg #[.int .i64 0, .int .u32 0, .slice (some ⟨g, 2, none⟩) 2 2], .int .i64 3] X (Ret (.bool true) X) :=
  idoes_ex [(2, 20), (5, 50), (9, 90)] [(5, 50), (9, 90)] ⟨8, 3, 9, 0⟩ (by unfold Wf; decide) 0 0 3 (by decide +kernel) 8 3 9 0 rfl rfl rfl rfl 3 2 rfl rfl (by decide) (by decide) 3 rfl (some ⟨g, 0, none⟩) (some ⟨g, 2, none⟩) 3 2 (by simp) X hp h hB
theorem ix_5 (g : Nat) (X : World) (hp : Obs X) (h : IsR X (some ⟨g, 0, none⟩) [(2, 20), (5, 50), (9, 90)]) :
    Calls Tryd.prog 13 #[.slice (some ⟨g, 0, none⟩) 3 3, .agg #[.int .u8 8, .int .u32 9, .int .u32 3, .int .u32 0], .agg #[.int .i64 0, .int .u32 0, .slice none 0 0], .int .i64 3] X (Ret (.bool true) X) :=
  idoes_ex [(2, 20), (5, 50), (9, 90)] [] ⟨8, 9, 3, 0⟩ (by unfold Wf; decide) 0 0 3 (by decide +kernel) 8 9 3 0 rfl rfl rfl rfl 3 0 rfl rfl (by decide) (by decide) 3 rfl (some ⟨g, 0, none⟩) none 3 0 (by simp) X hp h (IsL.nil _ _ _ _)
theorem ix_6 (g : Nat) (X : World) (hp : Obs X) (h : IsR X (some ⟨g, 0, none⟩) [(2, 20), (5, 50), (9, 90)]) :
    Calls Tryd.prog 13 #[.slice (some ⟨g, 0, none⟩) 3 3, .agg #[.int .u8 4, .int .u32 6, .int .u32 1, .int .u32 0], .agg #[.int .i64 9, .int .u32 0, .slice none 0 0], .int .i64 3] X (Ret (.bool true) X) :=
  idoes_ex [(2, 20), (5, 50), (9, 90)] [] ⟨4, 6, 1, 0⟩ (by unfold Wf; decide) 9 0 3 (by decide +kernel) 4 6 1 0 rfl rfl rfl rfl 3 0 rfl rfl (by decide) (by decide) 3 rfl (some ⟨g, 0, none⟩) none 3 0 (by simp) X hp h (IsL.nil _ _ _ _)
theorem ix_7 (g : Nat) (X : World) (hp : Obs X) (h : IsR X (some ⟨g, 0, none⟩) [(2, 20), (5, 50), (9, 90)]) :
    Calls Tryd.prog 13 #[.slice (some ⟨g, 0, none⟩) 3 3, .agg #[.int .u8 4, .int .u32 5, .int .u32 1, .int .u32 0], .agg #[.int .i64 0, .int .u32 51, .slice none 0 0], .int .i64 3] X (Ret (.bool true) X) :=
  idoes_ex [(2, 20), (5, 50), (9, 90)] [] ⟨4, 5, 1, 0⟩ (by unfold Wf; decide) 0 51 3 (by decide +kernel) 4 5 1 0 rfl rfl rfl rfl 3 0 rfl rfl (by decide) (by decide) 3 rfl (some ⟨g, 0, none⟩) none 3 0 (by simp) X hp h (IsL.nil _ _ _ _)
theorem ix_8 (g : Nat) (X : World) (hp : Obs X) (h : IsR X (some ⟨g, 0, none⟩) [(2, 20), (5, 50), (9, 90)]) :
    Calls Tryd.prog 13 #[.slice (some ⟨g, 0, none⟩) 3 3, .agg #[.int .u8 5, .int .u32 2, .int .u32 0, .int .u32 0], .agg #[.int .i64 0, .int .u32 21, .slice none 0 0], .int .i64 2] X (Ret (.bool true) X) :=
  idoes_ex [(2, 20), (5, 50), (9, 90)] [] ⟨5, 2, 0, 0⟩ (by unfold Wf; decide) 0 21 2 (by decide +kernel) 5 2 0 0 rfl rfl rfl rfl 3 0 rfl rfl (by decide) (by decide) 2 rfl (some ⟨g, 0, none⟩) none 3 0 (by simp) X hp h (IsL.nil _ _ _ _)
set_option maxRecDepth 20000 in
set_option maxHeartbeats 8000000 in
theorem ialive_any (w : World) (hp : Obs w) : Calls Tryd.prog 14 #[] w (Ret (.bool true) w) := by
  have HP := Lib.hid hp
  clear hp
  have HC := iconf_any
  unfold cfv cfI at HC
  replace HC := Lib.hid HC
  obtain ⟨g, hg⟩ : ∃ g, w.heap.size = g := ⟨_, rfl⟩
  have HG := Lib.hid hg
  clear hg
  go_enter Tryd.func14, Tryd.ntmps14
  go_wp2_with fail
  refine (three_any _).mono ?_
  rintro e w0 ⟨rfl, hb0, hR0⟩
  rw [HG.out] at hR0 ⊢
  have HR := Lib.hid hR0
  have HF := Lib.hid (show IsR w0 (some ⟨g, 2, none⟩) [(5, 50)] from isr_take (isr_drop hR0 1) 1)
  have HS := Lib.hid (show IsR w0 (some ⟨g, 2, none⟩) [(5, 50), (9, 90)] from isr_drop hR0 1)
  clear hR0
  go_wp2_with fail
  refine (HC.out _).mono ?_
  rintro e v1 ⟨rfl, hb1⟩
  go_wp2_with fail
  refine (put_first _ (HP.out.below (below_then hb0 hb1))).mono ?_
  rintro e v2 ⟨A2, c2, B2, d2, rfl, hA2, hb2⟩
  have HA2 := Lib.hid hA2
  have hb3 := below_then (below_then hb1 hb2) (below_one v2 (.cells #[.int .i64 0, .int .u32 0, .slice B2 0 d2] 27))
  have HB2 := Lib.hid (below_one v2 (.cells #[.int .i64 0, .int .u32 0, .slice B2 0 d2] 27))
  clear hb1 hb2 hA2
  go_wp2_with fail
  obtain ⟨w1, hw1⟩ : ∃ X, X = v2.alloc (.cells #[.int .i64 0, .int .u32 0, .slice B2 0 d2] 27) := ⟨_, rfl⟩
  rw [← hw1] at hb3 HB2 ⊢
  have HA3 := Lib.hid (HA2.out.below HB2.out)
  have hbw := hb3
  obtain ⟨w2, hw2⟩ : ∃ X, X = w1 := ⟨_, rfl⟩
  have HA := Lib.hid (show IsR w2 A2 [(5, 50)] by rw [hw2]; exact HA3.out)
  have HBZ := Lib.hid (show Below w0.heap.size w0 w2 by rw [hw2]; exact hbw)
  have hb1 : Below w2.heap.size w2 w1 := by rw [hw2]; exact Below.refl _ _
  clear hw1 hb3 HB2 HA2 HA3 hw2 hbw
  refine (ix_0 g _ (HP.out.below (below_then hb0 (below_then HBZ.out hb1))) (HR.out.below (below_then HBZ.out hb1))).mono ?_
  rintro e x0 ⟨rfl, hb2⟩
  replace hb1 := below_then hb1 hb2
  clear hb2
  go_wp2_with fail
  refine (ix_1 g _ (HP.out.below (below_then hb0 (below_then HBZ.out hb1))) (HR.out.below (below_then HBZ.out hb1))).mono ?_
  rintro e x1 ⟨rfl, hb2⟩
  replace hb1 := below_then hb1 hb2
  clear hb2
  go_wp2_with fail
  refine (ix_2 g _ (HP.out.below (below_then hb0 (below_then HBZ.out hb1))) (HR.out.below (below_then HBZ.out hb1)) (HF.out.below (below_then HBZ.out hb1))).mono ?_
  rintro e x2 ⟨rfl, hb2⟩
  replace hb1 := below_then hb1 hb2
  clear hb2
  go_wp2_with fail
  refine (ix_3 g _ (HP.out.below (below_then hb0 (below_then HBZ.out hb1))) (HR.out.below (below_then HBZ.out hb1))).mono ?_
  rintro e x3 ⟨rfl, hb2⟩
  replace hb1 := below_then hb1 hb2
  clear hb2
  go_wp2_with fail
  refine (ix_4 g _ (HP.out.below (below_then hb0 (below_then HBZ.out hb1))) (HR.out.below (below_then HBZ.out hb1)) (HS.out.below (below_then HBZ.out hb1))).mono ?_
  rintro e x4 ⟨rfl, hb2⟩
  replace hb1 := below_then hb1 hb2
  clear hb2
  go_wp2_with fail
  refine (ix_5 g _ (HP.out.below (below_then hb0 (below_then HBZ.out hb1))) (HR.out.below (below_then HBZ.out hb1))).mono ?_
  rintro e x5 ⟨rfl, hb2⟩
  replace hb1 := below_then hb1 hb2
  clear hb2
  go_wp2_with fail
  refine (ix_6 g _ (HP.out.below (below_then hb0 (below_then HBZ.out hb1))) (HR.out.below (below_then HBZ.out hb1))).mono ?_
  rintro e x6 ⟨rfl, hb2⟩
  replace hb1 := below_then hb1 hb2
  clear hb2
  go_wp2_with fail
  refine (ix_7 g _ (HP.out.below (below_then hb0 (below_then HBZ.out hb1))) (HR.out.below (below_then HBZ.out hb1))).mono ?_
  rintro e x7 ⟨rfl, hb2⟩
  replace hb1 := below_then hb1 hb2
  clear hb2
  go_wp2_with fail
  refine (ix_8 g _ (HP.out.below (below_then hb0 (below_then HBZ.out hb1))) (HR.out.below (below_then HBZ.out hb1))).mono ?_
  rintro e x8 ⟨rfl, hb2⟩
  replace hb1 := below_then hb1 hb2
  clear hb2
  go_wp2_with fail
  have hs : x8.heap.size < (x8.alloc (.cells #[.int .u64 5, .int .u64 50] 37)).heap.size := by simp
  refine (rSameRows_any A2 (some ⟨x8.heap.size, 0, none⟩) [(5, 50)] [(5, 50)] c2 1 (by decide) _ (HA.out.below (below_then hb1 (below_one _ _))) (isr_lit _ _ [(5, 50)] 1 rfl rfl (by decide))).mono ?_
  rintro e x9 ⟨rfl, hb2⟩
  simp only [decide_true]
  go_wp2
  go_ret
  exact Ret.mk rfl (below_then hb0 (below_then HBZ.out (below_then hb1 (below_then (below_one _ _) hb2))))
end Go.Proofs.YtohllaolbebogaaDoor
