/- The program of a set of access rules, the program's own: a step is turned. -/
import Derived.Test.YtljhcegkekdjgaaDoorGpB
namespace Go.Proofs.YtljhcegkekdjgaaDoor
open Go.RowKit Go.Lib Pt Opn

set_option maxRecDepth 100000 in
set_option maxHeartbeats 8000000 in
theorem pListen_any (c : Cf) (g : Nat) (f : Ds) (t A B Cc : Nat) (hw : DWf f) (_hp : f.pc = 0) (hk : f.kind = 11) (hi : (f.i : Int) < c.cap) (hi2 : f.i ≤ 31) (hh : f.h ≤ 1) (w : World) (hs : StG c.cap g f w) :
    Calls Tryd.prog 45 #[.pointer (some ⟨g, 0, none⟩), cvT t A B Cc] w (TurnG c.cap g (checkedG c f A B Cc) w) := by
  have HSP := Lib.hid (fun W => pSpeakOf_any f hw W)
  have HCL := Lib.hid (fun p q W hp hq => pSpeaks_any f t A B Cc p q W hp hq)
  have HG1 := Lib.hid (fun W hs => pGoOn_any c.cap g f (.inr (.inr hk)) hh hi2 W hs)
  have HG2 := Lib.hid (fun W hs => pGoOn_any c.cap g { f with x := 1 } (.inr (.inr hk)) hh hi2 W hs)
  rw [← on_goOn hk hi] at HG1
  rw [← on_goOn (f := { f with x := 1 }) hk hi] at HG2
  obtain ⟨s, hsp⟩ : ∃ s, decide (spkG f A B Cc) = s := ⟨_, rfl⟩
  rw [hsp] at HCL
  have hsp' : spkG f A B Cc ↔ s = true := by rw [← hsp, decide_eq_true_iff]
  unfold checkedG
  rw [show (if spkG f A B Cc then (if A = 2 then ({ f with x := 2, pc := 20 } : Ds) else onG c { f with x := 1 }) else onG c f) = (if s = true then (if A = 2 then ({ f with x := 2, pc := 20 } : Ds) else onG c { f with x := 1 }) else onG c f) by simp only [hsp']]
  have HST := Lib.hid hs
  unfold Asks2 at HSP
  clear hsp hsp' hw hi hi2 hh
  generalize c.cap = CC at *
  obtain ⟨X0, hX0⟩ : ∃ X, onG c f = X := ⟨_, rfl⟩
  obtain ⟨X1, hX1⟩ : ∃ X, onG c { f with x := 1 } = X := ⟨_, rfl⟩
  rw [hX0] at HG1 ⊢
  rw [hX1] at HG2 ⊢
  obtain ⟨R, hR⟩ : ∃ R, (if s = true then (if A = 2 then ({ f with x := 2, pc := 20 } : Ds) else X1) else X0) = R := ⟨_, rfl⟩
  rw [hR]
  have HR := Lib.hid hR
  clear hX0 hX1 _hp hk hR
  unfold TurnG at HG1 HG2
  unfold frv at HSP
  unfold cvT at HCL ⊢
  go_enter Tryd.func45, Tryd.ntmps45
  go_upto_region 1 with fail
  refine enter1 fun W hb g0 q0 => ?_
  have gs := blk_below (show w.heap[g]? = some _ from hs) hb
  have qg := (Array.getElem?_eq_some_iff.1 gs).1
  have qw := (Array.getElem?_eq_some_iff.1 (show w.heap[g]? = some _ from hs)).1
  unfold stG at gs
  obtain ⟨⟨r0, r1, r2, r3, r4, r5, r6, r7, r8, r9, r10, r11⟩, hf⟩ := cells12f gs
  go_wp2_with fail
  refine (HSP.out _).mono ?_
  rintro e w1 ⟨p, q, rfl, hp, hq, hb1⟩
  have gs1 := blk_below gs hb1
  have g01 := blk_below g0 hb1
  have hb2 := below_then hb hb1
  have HB := Lib.hid (And.intro hb2 gs1)
  clear r0 r1 r2 r3 r4 r5 r6 r7 r8 r9 r10 r11 hf qg q0 g0 gs hb1 hb2 hb
  have q0 := (Array.getElem?_eq_some_iff.1 g01).1
  obtain ⟨c0, c1, c2, c3⟩ := cells4p g01
  go_wp2_with fail
  refine (HCL.out p q _ hp hq).mono ?_
  rintro e w2 ⟨rfl, hb3⟩
  have gs2 := blk_below HB.out.2 hb3
  have g02 := blk_below g01 hb3
  have HB2 := Lib.hid (And.intro (below_then HB.out.1 hb3) gs2)
  clear c0 c1 c2 c3 q0 hp hq gs1 HB hb3
  have q0 := (Array.getElem?_eq_some_iff.1 g02).1
  have qg := (Array.getElem?_eq_some_iff.1 gs2).1
  obtain ⟨c0, c1, c2, c3⟩ := cells4p g02
  obtain ⟨⟨r0, r1, r2, r3, r4, r5, r6, r7, r8, r9, r10, r11⟩, hf⟩ := cells12f gs2
  clear g01 g02 gs2
  cases s with
  | false =>
    have hR := HR.out
    rw [if_neg (by decide)] at hR
    subst hR
    clear HR
    go_wp2_with fail
    refine (HG1.out _ HB2.out.2).mono ?_
    rintro e w3 ⟨rfl, h1, h2⟩
    go_wp2_with fail
    exact bodyPost_end (results_none rfl _ _ _) rfl ⟨rfl, h1, (Only.of_below _ HB2.out.1).trans h2⟩
  | true =>
    by_cases hA : A = 2
    · have hA' : ((A : Int) == 2) = true := by simp [hA]
      have hR := HR.out
      rw [if_pos rfl, if_pos hA] at hR
      subst hR
      clear hA HR
      go_wp2_with fail
      repeat (go_region; try go_wp2_with fail)
      refine bodyPost_ret (results_none rfl _ _ _) rfl ⟨rfl, ?_, ?_⟩
      · unfold StG
        exact st_of (bk_store (bk_store HB2.out.2 _ _) _ _) rfl
      · exact (Only.of_below _ HB2.out.1).trans (only_set (only_set (Only.refl _ _) _ _) _ _)
    · have hA' : ((A : Int) == 2) = false := by simp; omega
      have hR := HR.out
      rw [if_pos rfl, if_neg hA] at hR
      subst hR
      clear hA HR
      go_wp2_with fail
      have hs3 : StG CC g { f with x := 1 } (w2.setCell ⟨g, 10, none⟩ (.int .u32 1)) := st_of (bk_store HB2.out.2 _ _) rfl
      refine (HG2.out _ hs3).mono ?_
      rintro e w3 ⟨rfl, h1, h2⟩
      go_wp2_with fail
      exact bodyPost_end (results_none rfl _ _ _) rfl ⟨rfl, h1, ((Only.of_below _ HB2.out.1).trans (only_set (Only.refl _ _) _ _)).trans h2⟩
end Go.Proofs.YtljhcegkekdjgaaDoor
