/- The program of a set of access rules, the program's own: a step is turned, where it seeks. -/
import Derived.Test.YtljhcegkekdjgaaDoorGpC
namespace Go.Proofs.YtljhcegkekdjgaaDoor
open Go.RowKit Go.Lib Pt Opn

theorem undrewB {X Y : World} (h : Below X.drew.heap.size X.drew Y) : Below X.heap.size X Y := ⟨h.os, h.tape, h.output, h.size, h.block⟩
set_option maxRecDepth 100000 in
set_option maxHeartbeats 8000000 in
theorem pSeek_any (c : Cf) (g : Nat) (f : Ds) (t A B Cc : Nat) (hw : DWf f) (hk : f.kind = 9 ∨ f.kind = 10) (hi2 : f.i ≤ 31) (hh : f.h ≤ 1) (w : World) (hs : StG c.cap g f w) :
    Calls Tryd.prog 46 #[.pointer (some ⟨g, 0, none⟩), cvT t A B Cc] w (TurnG c.cap g (if hasG f A B Cc then { f with x := A % 4294967296, j := f.i, pc := 2 } else overG c (roomG f A)) w) := by
  have HRU := Lib.hid (fun W => pRuleOf_any f hw W)
  have HRO := Lib.hid (fun W => pRoomFor_any f W)
  have HCL := Lib.hid (fun p q W hp hq => pIsRule_any f t A B Cc p q W hp hq)
  have HG1 := Lib.hid (fun W hs => pGoOn_any c.cap g f (by omega) hh hi2 W hs)
  have HG2 := Lib.hid (fun W hs => pGoOn_any c.cap g { f with j := f.i, h := 1 } (show f.kind = 9 ∨ f.kind = 10 ∨ f.kind = 11 by omega) (Nat.le_refl 1) hi2 W hs)
  rw [← over_goOn hk] at HG1
  rw [← over_goOn (c := c) (f := { f with j := f.i, h := 1 }) hk] at HG2
  obtain ⟨s, hsp⟩ : ∃ s, decide (hasG f A B Cc) = s := ⟨_, rfl⟩
  rw [hsp] at HCL
  have hsp' : hasG f A B Cc ↔ s = true := by rw [← hsp, decide_eq_true_iff]
  obtain ⟨rb, hrb⟩ : ∃ r, decide (f.kind = 9 ∧ f.h = 0) = r := ⟨_, rfl⟩
  rw [hrb] at HRO
  have HCR := Lib.hid (fun p W hp => pIsRoom_any rb t A B Cc p W hp)
  obtain ⟨z, hz⟩ : ∃ z, (rb && decide (A = 0)) = z := ⟨_, rfl⟩
  rw [hz] at HCR
  have hroom : roomG f A = if z = true then { f with j := f.i, h := 1 } else f := by
    unfold roomG
    rw [← hz, ← hrb]
    by_cases e : f.kind = 9 ∧ A = 0 ∧ f.h = 0
    · rw [if_pos e, if_pos (by simp [e])]
    · rw [if_neg e, if_neg (by simp only [Bool.and_eq_true, decide_eq_true_eq]; intro h; exact e ⟨h.1.1, h.2, h.1.2⟩)]
  rw [hroom]
  obtain ⟨X1, hX1⟩ : ∃ X, overG c f = X := ⟨_, rfl⟩
  obtain ⟨X2, hX2⟩ : ∃ X, overG c { f with j := f.i, h := 1 } = X := ⟨_, rfl⟩
  have hov : overG c (if z = true then { f with j := f.i, h := 1 } else f) = if z = true then X2 else X1 := by
    cases z
    · rw [if_neg (by decide), if_neg (by decide)]; exact hX1
    · rw [if_pos rfl, if_pos rfl]; exact hX2
  rw [hov]
  rw [hX1] at HG1
  rw [hX2] at HG2
  obtain ⟨V, hV⟩ : ∃ V, A % 4294967296 = V := ⟨_, rfl⟩
  have e1 : IntKind.u32.wrap (A : Int) = (V : Int) := by rw [IntKind.wrap_u32]; omega
  rw [hV]
  obtain ⟨R, hR⟩ : ∃ R, (if hasG f A B Cc then ({ f with x := V, j := f.i, pc := 2 } : Ds) else (if z = true then X2 else X1)) = R := ⟨_, rfl⟩
  rw [hR]
  simp only [hsp'] at hR
  have HR := Lib.hid hR
  unfold Asks2 at HRU
  unfold Asks1 at HRO
  unfold TurnG at HG1 HG2
  unfold frv at HRU HRO
  unfold cvT at HCL HCR ⊢
  clear hsp hsp' hrb hz hroom hX1 hX2 hov hV hw hi2 hh hk hR
  generalize c.cap = CC at *
  go_enter Tryd.func46, Tryd.ntmps46
  go_upto_region 1 with fail
  refine enter1 fun W hb g0 q0 => ?_
  have gs := blk_below (show w.heap[g]? = some _ from hs) hb
  have qg := (Array.getElem?_eq_some_iff.1 gs).1
  unfold stG at gs
  obtain ⟨⟨r0, r1, r2, r3, r4, r5, r6, r7, r8, r9, r10, r11⟩, hf⟩ := cells12f gs
  go_upto_region 2 with fail
  go_cut [5, 6] (fun s5 s6 wx => ∃ p q r : Nat, s5 = .func (.func 84) #[] #[.pointer (some ⟨p, 0, none⟩), .pointer (some ⟨q, 0, none⟩)] ∧ s6 = .func (.func 85) #[] #[.pointer (some ⟨r, 0, none⟩)] ∧
    Hid (wx.cell? ⟨p, 0, none⟩ = some (.int .u64 (f.a : Nat)) ∧ wx.cell? ⟨q, 0, none⟩ = some (.int .u64 (f.b : Nat)) ∧ wx.cell? ⟨r, 0, none⟩ = some (.bool rb) ∧ Below W.heap.size W wx))
  case first =>
    go_region_held3 (fun X => W.heap.size ≤ X.heap.size ∧ ∀ b o, b < W.heap.size → X.cell? ⟨b, o, none⟩ = W.cell? ⟨b, o, none⟩)
      (first
        | ((repeat' (first
            | with_reducible refine keep_drew ?_
            | with_reducible refine keep_below hb6 ?_
            | with_reducible refine keep_below hb5 ?_
            | with_reducible exact keep_refl _));
           done)
        | fail)
      (first
        | ((with_reducible refine (HRU.out _).mono ?_); rintro e w5 ⟨p, q, rfl, hp5, hq5, hb5⟩)
        | ((with_reducible refine (HRO.out _).mono ?_); rintro e w6 ⟨r, rfl, hr6, hb6⟩))
    all_goals
      go_wp2_with fail
      go_meet
      refine ⟨_, _, _, rfl, rfl, Lib.hid ?_⟩
      first
        | exact ⟨(hb6.cell (p := ⟨p, 0, none⟩) (World.block_lt_of_cell? _ _ hp5)).trans hp5, (hb6.cell (p := ⟨q, 0, none⟩) (World.block_lt_of_cell? _ _ hq5)).trans hq5, hr6, below_then (undrewB hb5) hb6⟩
        | exact ⟨hp5, hq5, (hb5.cell (p := ⟨r, 0, none⟩) (World.block_lt_of_cell? _ _ hr6)).trans hr6, below_then (undrewB hb6) hb5⟩
  case rest =>
    obtain ⟨p, q, r, rfl, rfl, HM⟩ := hcut
    obtain ⟨w1, hw1⟩ : ∃ Z, Z = wc := ⟨_, rfl⟩
    subst hw1
    obtain ⟨hp, hq, hr, hb1⟩ := HM.out
    have gs1 := blk_below gs hb1
    have g01 := blk_below g0 hb1
    have HB := Lib.hid (And.intro (below_then hb hb1) (And.intro gs1 hr))
    clear r0 r1 r2 r3 r4 r5 r6 r7 r8 r9 r10 r11 hf qg q0 g0 gs hb1 hb hr HM HRU HRO
    have q0 := (Array.getElem?_eq_some_iff.1 g01).1
    obtain ⟨c0, c1, c2, c3⟩ := cells4p g01
    go_wp2_with fail
    refine (HCL.out p q _ hp hq).mono ?_
    rintro e w2 ⟨rfl, hb3⟩
    have gs2 := blk_below HB.out.2.1 hb3
    have g02 := blk_below g01 hb3
    have hr2 := (hb3.cell (p := ⟨r, 0, none⟩) (World.block_lt_of_cell? _ _ HB.out.2.2)).trans HB.out.2.2
    have HB2 := Lib.hid (And.intro (below_then HB.out.1 hb3) (And.intro gs2 hr2))
    clear c0 c1 c2 c3 q0 hp hq gs1 HB hb3 hr2
    have q0 := (Array.getElem?_eq_some_iff.1 g02).1
    have qg := (Array.getElem?_eq_some_iff.1 gs2).1
    obtain ⟨c0, c1, c2, c3⟩ := cells4p g02
    obtain ⟨⟨r0, r1, r2, r3, r4, r5, r6, r7, r8, r9, r10, r11⟩, hf⟩ := cells12f gs2
    cases s with
    | true =>
      have hR := HR.out
      rw [if_pos rfl] at hR
      subst hR
      clear HR g02 gs2
      go_wp2_with fail
      go_region
      all_goals
        go_wp2_with fail
        refine bodyPost_ret (results_none rfl _ _ _) rfl ⟨rfl, ?_, ?_⟩
        · unfold StG
          with_reducible first | refine st_of HB2.out.2.1 ?_ | refine st_of (bk_store HB2.out.2.1 _ _) ?_ | refine st_of (bk_store (bk_store HB2.out.2.1 _ _) _ _) ?_ | refine st_of (bk_store (bk_store (bk_store HB2.out.2.1 _ _) _ _) _ _) ?_ | refine st_of (bk_store (bk_store (bk_store (bk_store HB2.out.2.1 _ _) _ _) _ _) _ _) ?_ | refine st_of (bk_store (bk_store (bk_store (bk_store (bk_store HB2.out.2.1 _ _) _ _) _ _) _ _) _ _) ?_ | refine st_of (bk_drew HB2.out.2.1) ?_ | refine st_of (bk_drew (bk_store HB2.out.2.1 _ _)) ?_ | refine st_of (bk_drew (bk_store (bk_store HB2.out.2.1 _ _) _ _)) ?_ | refine st_of (bk_drew (bk_store (bk_store (bk_store HB2.out.2.1 _ _) _ _) _ _)) ?_ | refine st_of (bk_drew (bk_store (bk_store (bk_store (bk_store HB2.out.2.1 _ _) _ _) _ _) _ _)) ?_ | refine st_of (bk_drew (bk_store (bk_store (bk_store (bk_store (bk_store HB2.out.2.1 _ _) _ _) _ _) _ _) _ _)) ?_ | refine st_of (bk_drew (bk_drew HB2.out.2.1)) ?_ | refine st_of (bk_drew (bk_drew (bk_store HB2.out.2.1 _ _))) ?_ | refine st_of (bk_drew (bk_drew (bk_store (bk_store HB2.out.2.1 _ _) _ _))) ?_ | refine st_of (bk_drew (bk_drew (bk_store (bk_store (bk_store HB2.out.2.1 _ _) _ _) _ _))) ?_ | refine st_of (bk_drew (bk_drew (bk_store (bk_store (bk_store (bk_store HB2.out.2.1 _ _) _ _) _ _) _ _))) ?_ | refine st_of (bk_drew (bk_drew (bk_store (bk_store (bk_store (bk_store (bk_store HB2.out.2.1 _ _) _ _) _ _) _ _) _ _))) ?_
          rfl
        · refine (Only.of_below _ HB2.out.1).trans ?_
          repeat' (first | with_reducible exact Only.refl _ _ | with_reducible refine Only.drew ?_ | with_reducible refine only_set ?_ _ _)
    | false =>
      have hR := HR.out
      rw [if_neg (by decide)] at hR
      have HR2 := Lib.hid hR
      clear hR HR gs2
      go_wp2_with fail
      refine (HCR.out r _ HB2.out.2.2).mono ?_
      rintro e w3 ⟨rfl, hb4⟩
      have gs3 := blk_below HB2.out.2.1 hb4
      have g03 := blk_below g02 hb4
      have HB3 := Lib.hid (And.intro (below_then HB2.out.1 hb4) gs3)
      clear c0 c1 c2 c3 r0 r1 r2 r3 r4 r5 r6 r7 r8 r9 r10 r11 hf qg q0 HB2 hb4 g02
      have q0 := (Array.getElem?_eq_some_iff.1 g03).1
      have qg := (Array.getElem?_eq_some_iff.1 gs3).1
      obtain ⟨⟨r0, r1, r2, r3, r4, r5, r6, r7, r8, r9, r10, r11⟩, hf⟩ := cells12f gs3
      clear gs3 g03
      cases z with
      | true =>
        have hR := HR2.out
        rw [if_pos rfl] at hR
        subst hR
        clear HR2
        go_wp2_with fail
        have hs3 : StG CC g { f with j := f.i, h := 1 } ((w3.setCell ⟨g, 6, none⟩ (.int .u8 (f.i : Nat))).setCell ⟨g, 9, none⟩ (.int .u8 1)) := st_of (bk_store (bk_store HB3.out.2 _ _) _ _) rfl
        refine (HG2.out _ hs3).mono ?_
        rintro e w4 ⟨rfl, h1, h2⟩
        go_wp2_with fail
        exact bodyPost_end (results_none rfl _ _ _) rfl ⟨rfl, h1, ((Only.of_below _ HB3.out.1).trans (only_set (only_set (Only.refl _ _) _ _) _ _)).trans h2⟩
      | false =>
        have hR := HR2.out
        rw [if_neg (by decide)] at hR
        subst hR
        clear HR2
        go_wp2_with fail
        refine (HG1.out _ HB3.out.2).mono ?_
        rintro e w4 ⟨rfl, h1, h2⟩
        go_wp2_with fail
        exact bodyPost_end (results_none rfl _ _ _) rfl ⟨rfl, h1, (Only.of_below _ HB3.out.1).trans h2⟩
end Go.Proofs.YtljhcegkekdjgaaDoor
