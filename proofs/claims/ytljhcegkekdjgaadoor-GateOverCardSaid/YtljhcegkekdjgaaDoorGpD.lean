/- The program of a set of access rules, the program's own: a step is turned; the act of a frame; which frames may be. -/
import Derived.Test.YtljhcegkekdjgaaDoorGpS
import Derived.Test.YtljhcegkekdjgaaDoorGOp
import Derived.Test.YtljhcegkekdjgaaDoorGTab
namespace Go.Proofs.YtljhcegkekdjgaaDoor
open Go.RowKit Go.Lib Pt Opn

set_option maxRecDepth 100000 in
set_option maxHeartbeats 8000000 in
theorem pTurnG_2 (C : Int) (g : Nat) (f : Ds) (t A B Cc : Nat) (hp : f.pc = 2) (w : World) (hs : StG C g f w) : Calls Tryd.prog 25 #[.pointer (some ⟨g, 0, none⟩), cvT t A B Cc] w (TurnG C g { f with pc := 20 } w) := by
  have qw := (Array.getElem?_eq_some_iff.1 (show w.heap[g]? = some _ from hs)).1
  have HS0 := Lib.hid hs
  obtain ⟨tg, k, seq, kind, a, b, pc, i, j, n, p, h, x, y⟩ := f
  unfold StG stG at hs
  unfold cvT
  simp only at *
  subst hp
  simp only [show ((2 : Nat) : Int) = 2 from rfl] at hs ⊢
  go_enter Tryd.func25, Tryd.ntmps25
  go_upto_region 2 with fail
  refine enter1 fun W hb g0 q0 => ?_
  have gs := blk_below hs hb
  have qg := (Array.getElem?_eq_some_iff.1 gs).1
  obtain ⟨⟨r0, r1, r2, r3, r4, r5, r6, r7, r8, r9, r10, r11⟩, hf⟩ := cells12f gs
  have HS := Lib.hid gs
  clear gs hs
  go_wp2_with fail
  refine bodyPost_end (results_none rfl _ _ _) rfl ⟨rfl, ?_, ?_⟩
  · unfold StG
    exact st_of (bk_store HS.out _ _) rfl
  · exact (Only.of_below _ hb).trans (only_set (Only.refl _ _) _ _)
set_option maxRecDepth 100000 in
set_option maxHeartbeats 8000000 in
theorem pTurnG_stay (C : Int) (g : Nat) (f : Ds) (t A B Cc : Nat) (hp : f.pc = 20 ∨ f.pc = 21 ∨ f.pc = 22) (w : World) (hs : StG C g f w) : Calls Tryd.prog 25 #[.pointer (some ⟨g, 0, none⟩), cvT t A B Cc] w (TurnG C g f w) := by
  have HS0 := Lib.hid hs
  obtain ⟨tg, k, seq, kind, a, b, pc, i, j, n, p, h, x, y⟩ := f
  unfold StG stG at hs
  unfold cvT
  simp only at *
  rcases hp with rfl | rfl | rfl
  all_goals
    simp only [show ((20 : Nat) : Int) = 20 from rfl, show ((21 : Nat) : Int) = 21 from rfl, show ((22 : Nat) : Int) = 22 from rfl] at hs ⊢
    go_enter Tryd.func25, Tryd.ntmps25
    go_upto_region 2 with fail
    refine enter1 fun W hb g0 q0 => ?_
    have gs := blk_below hs hb
    have qg := (Array.getElem?_eq_some_iff.1 gs).1
    obtain ⟨⟨r0, r1, r2, r3, r4, r5, r6, r7, r8, r9, r10, r11⟩, hf⟩ := cells12f gs
    have HS := Lib.hid gs
    clear gs hs
    go_wp2_with fail
    refine bodyPost_ret (results_none rfl _ _ _) rfl ⟨rfl, ?_, ?_⟩
    · unfold StG
      exact HS.out
    · exact Only.of_below _ hb
set_option maxRecDepth 100000 in
set_option maxHeartbeats 8000000 in
theorem pTurnG_check (c : Cf) (g : Nat) (f : Ds) (t A B Cc : Nat) (hw : DWf f) (hp : f.pc = 0) (hk : f.kind = 11) (hic : (f.i : Int) < c.cap) (hi : f.i ≤ 31) (hh : f.h ≤ 1) (w : World) (hs : StG c.cap g f w) : Calls Tryd.prog 25 #[.pointer (some ⟨g, 0, none⟩), cvT t A B Cc] w (TurnG c.cap g (checkedG c f A B Cc) w) := by
  have HL := Lib.hid (fun W hs => pListen_any c g f t A B Cc hw hp hk hic hi hh W hs)
  have hk1 : ((f.kind : Int) == 11) = true := by simp; omega
  obtain ⟨X, hX⟩ : ∃ X, (checkedG c f A B Cc) = X := ⟨_, rfl⟩
  rw [hX] at HL ⊢
  have HS0 := Lib.hid hs
  have HK := Lib.hid hk1
  clear hX hw hi hh hk hk1
  obtain ⟨tg, k, seq, kind, a, b, pc, i, j, n, p, h, x, y⟩ := f
  generalize c.cap = CC at *
  unfold StG stG at hs
  unfold TurnG at HL
  unfold cvT at HL ⊢
  simp only at *
  subst hp
  simp only [show ((0 : Nat) : Int) = 0 from rfl] at hs ⊢
  have hk1 := HK.out
  go_enter Tryd.func25, Tryd.ntmps25
  go_upto_region 2 with fail
  refine enter1 fun W hb g0 q0 => ?_
  have gs := blk_below hs hb
  have qg := (Array.getElem?_eq_some_iff.1 gs).1
  obtain ⟨⟨r0, r1, r2, r3, r4, r5, r6, r7, r8, r9, r10, r11⟩, hf⟩ := cells12f gs
  obtain ⟨c0, c1, c2, c3⟩ := cells4p g0
  have HS := Lib.hid gs
  clear gs hs g0
  go_wp2_with fail
  refine (HL.out _ HS.out).mono ?_
  rintro e w1 ⟨rfl, h1, h2⟩
  go_wp2_with fail
  exact bodyPost_end (results_none rfl _ _ _) rfl ⟨rfl, h1, (Only.of_below _ hb).trans h2⟩
set_option maxRecDepth 100000 in
set_option maxHeartbeats 8000000 in
theorem pTurnG_seek (c : Cf) (g : Nat) (f : Ds) (t A B Cc : Nat) (hw : DWf f) (hp : f.pc = 0) (hk : f.kind = 9 ∨ f.kind = 10) (hi : f.i ≤ 31) (hh : f.h ≤ 1) (w : World) (hs : StG c.cap g f w) : Calls Tryd.prog 25 #[.pointer (some ⟨g, 0, none⟩), cvT t A B Cc] w (TurnG c.cap g (if hasG f A B Cc then { f with x := A % 4294967296, j := f.i, pc := 2 } else overG c (roomG f A)) w) := by
  have HL := Lib.hid (fun W hs => pSeek_any c g f t A B Cc hw hk hi hh W hs)
  have hk1 : ((f.kind : Int) == 11) = false := by simp; omega
  obtain ⟨X, hX⟩ : ∃ X, (if hasG f A B Cc then { f with x := A % 4294967296, j := f.i, pc := 2 } else overG c (roomG f A)) = X := ⟨_, rfl⟩
  rw [hX] at HL ⊢
  have HS0 := Lib.hid hs
  have HK := Lib.hid hk1
  clear hX hw hi hh hk hk1
  obtain ⟨tg, k, seq, kind, a, b, pc, i, j, n, p, h, x, y⟩ := f
  generalize c.cap = CC at *
  unfold StG stG at hs
  unfold TurnG at HL
  unfold cvT at HL ⊢
  simp only at *
  subst hp
  simp only [show ((0 : Nat) : Int) = 0 from rfl] at hs ⊢
  have hk1 := HK.out
  go_enter Tryd.func25, Tryd.ntmps25
  go_upto_region 2 with fail
  refine enter1 fun W hb g0 q0 => ?_
  have gs := blk_below hs hb
  have qg := (Array.getElem?_eq_some_iff.1 gs).1
  obtain ⟨⟨r0, r1, r2, r3, r4, r5, r6, r7, r8, r9, r10, r11⟩, hf⟩ := cells12f gs
  obtain ⟨c0, c1, c2, c3⟩ := cells4p g0
  have HS := Lib.hid gs
  clear gs hs g0
  go_wp2_with fail
  refine (HL.out _ HS.out).mono ?_
  rintro e w1 ⟨rfl, h1, h2⟩
  go_wp2_with fail
  exact bodyPost_end (results_none rfl _ _ _) rfl ⟨rfl, h1, (Only.of_below _ hb).trans h2⟩
theorem pTurnG_any (c : Cf) (g : Nat) (f : Ds) (t A B Cc : Nat) (hok : Ok c) (ho : c.obj = 3) (hm : GMay c f) (hw : DWf f) (w : World) (hs : StG c.cap g f w) : Calls Tryd.prog 25 #[.pointer (some ⟨g, 0, none⟩), cvT t A B Cc] w (TurnG c.cap g (behindG c f A B Cc) w) := by
  have h := mayG hok ho hm
  by_cases h2 : f.pc = 2
  · rw [bhG_2 h2]
    exact pTurnG_2 c.cap g f t A B Cc h2 w hs
  · by_cases h0 : f.pc = 0
    · by_cases hk : f.kind = 11
      · rw [bhG_check h0 hk]
        exact pTurnG_check c g f t A B Cc hw h0 hk (by omega) (by omega) (by omega) w hs
      · have H := pTurnG_seek c g f t A B Cc hw h0 (by omega) (by omega) (by omega) w hs
        by_cases hh : hasG f A B Cc
        · rw [bhG_has h0 hk hh]
          rw [if_pos hh] at H
          exact H
        · rw [bhG_not h0 hk hh]
          rw [if_neg hh] at H
          exact H
    · rw [bhG_stay h2 h0]
      exact pTurnG_stay c.cap g f t A B Cc (by omega) w hs
end Go.Proofs.YtljhcegkekdjgaaDoor
