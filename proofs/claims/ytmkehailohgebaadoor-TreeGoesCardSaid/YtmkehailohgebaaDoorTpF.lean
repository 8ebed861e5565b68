/- The program of an index, the program's own: its way down, its start: whole. -/
import Derived.Test.YtmkehailohgebaaDoorTpE
import Derived.BigRegion
import Derived.BigQuiet
import Derived.Deep.DeepCutAuto
namespace Go.Proofs.YtmkehailohgebaaDoor
open Go.RowKit Go.Lib Pt Opn

theorem entSetD {P : Program} {code : Code} {Q : Exit → Act → World → Prop} {x : Act} {W : World} {g i : Nat} {v : Value} {cs cs' : Array Value} {t : TypeId} (hg : W.heap[g]? = some (.cells cs t (0, 0)))
    (hcs : cs.setIfInBounds i v = cs') (h : ∀ W', W'.heap[g]? = some (.cells cs' t (0, 0)) → Only (fun k => k = g) W W' → code.wp P Q x W') : code.wp P Q x (W.setCell ⟨g, i, none⟩ v).drew := by
  subst hcs
  exact h _ (bk_drew (bk_store hg i v)) (only_set (Only.refl _ W) i v).drew
theorem Pow.drew {W : World} (h : Pow W) : Pow W.drew := fun j hj => h j hj
theorem item_right {c : Cf} {f : Ds} {A B : Nat} (h : ¬ f.a ≤ A) : itemX c f A B = (rightX c f, false) := by
  unfold itemX rightX
  rw [if_neg h]
  split <;> rfl
set_option maxRecDepth 100000 in
set_option maxHeartbeats 8000000 in
theorem pSeekX_any {c : Cf} {C N K : Nat} (s : SzX c C N K) (L : Value) (g : Nat) (f : Ds) (hk : f.kind = 4 ∨ f.kind = 5 ∨ f.kind = 6 ∨ f.kind = 7 ∨ f.kind = 8) (ha : f.a < 4294967296) (hn : f.n ≤ C) (hh : f.h ≤ 4) (hi : f.i < 60) (hj : f.j < 255) (tt A B Cc : Nat) (_ : g ≠ 1) (w : World) (hP : Pow w) (hs : StX c L g f 0 0 false w) :
    Calls Tryd.prog 62 #[.pointer (some ⟨g, 0, none⟩), cvT tt A B Cc] w (TurnX c L g (itemX c f A B).1 (toldX (itemX c f A B)).1 (toldX (itemX c f A B)).2 (itemX c f A B).2 w) := by
  have c2 := s.c2
  have n1 := s.n1
  have n2 := s.n2
  have HM := Lib.hid (fun W hP hs => pRightX_any s L g f 0 0 false hk hn hh (by omega) W hP hs)
  have HK := Lib.hid (fun W hs => pTakeX_any c L g { f with p := f.i } 0 0 false tt A B Cc W hs)
  have HF := Lib.hid (fun W hs => pFoundX_any c L g (overX { f with p := f.i } A B) hk (by simp only [overX]; omega) (by simp only [overX]; omega) (by simp only [overX]; omega) (by simp only [overX]; omega) (by simp only [overX]; omega) W hs)
  have hright := item_right (c := c) (f := f) (A := A) (B := B)
  obtain ⟨X, hX⟩ : ∃ X, itemX c f A B = X := ⟨_, rfl⟩
  rw [hX] at hright ⊢
  unfold itemX at hX
  rw [s.node, Int.toNat_natCast] at hX
  have HP := Lib.hid hP
  have sn := s.node
  clear s hP hk
  unfold cvT at *
  unfold StX stO at hs
  have HS := Lib.hid hs
  have q0 := (Array.getElem?_eq_some_iff.1 hs).1
  obtain ⟨⟨r0, r1, r2, r3, r4, r5, r6, r7, r8, r9, r10, r11, r12, r13, r14, r15, r16, r17⟩, hf⟩ := cells18 hs
  clear hs
  obtain ⟨tg, k, seq, kind, a, b, pc, i, j, n, p, h, x, y⟩ := f
  simp only at ha hn hh hi hj hX hright HM HK HF HS r4 r5 r6 r7 r8 r9 r10 r11 r12 r13 r14
  have a1 : IntKind.u64.wrap (a : Int) = (a : Int) := by rw [IntKind.wrap_u64]; omega
  by_cases e1 : a ≤ A
  · rw [if_pos e1] at hX
    have e2 : ¬ (A : Int) < (a : Int) := by omega
    clear e1 hright
    by_cases e3 : h = 0
    · subst e3
      rw [if_pos rfl] at hX
      subst hX
      have qk : ((0 : Nat) : Int) = 0 := rfl
      go_enter Tryd.func62, Tryd.ntmps62
      go_upto_region 1 with fail
      refine enter1 fun W hb g0 qq => ?_
      have HG := Lib.hid (blk_below HS.out hb)
      have HB := Lib.hid (Only.of_below (fun k => k = g) hb)
      have HPW := Lib.hid (HP.out.below hb)
      have hne : w.heap.size ≠ g := by omega
      have hG := HG.out
      clear r0 r1 r2 r3 r4 r5 r6 r7 r8 r9 r10 r11 r12 r13 r14 r15 r16 r17 hf hb
      obtain ⟨⟨r0, r1, r2, r3, r4, r5, r6, r7, r8, r9, r10, r11, r12, r13, r14, r15, r16, r17⟩, hf⟩ := cells18 hG
      clear hG
      have q1 : g < W.heap.size := by omega
      obtain ⟨u0, u1, u2, u3⟩ := cells4p g0
      clear g0
      go_wp2_with fail
      repeat (go_region; try go_wp2_with fail)
      go_wp2_with (first | (go_at_call 63; refine (HK.out _ (by unfold StX; (with_reducible first | refine st_of HG.out ?_ | refine st_of (bk_store HG.out _ _) ?_ | refine st_of (bk_store (bk_store HG.out _ _) _ _) ?_ | refine st_of (bk_store (bk_store (bk_store HG.out _ _) _ _) _ _) ?_ | refine st_of (bk_store (bk_store (bk_store (bk_store HG.out _ _) _ _) _ _) _ _) ?_ | refine st_of (bk_drew HG.out) ?_ | refine st_of (bk_drew (bk_store HG.out _ _)) ?_ | refine st_of (bk_drew (bk_store (bk_store HG.out _ _) _ _)) ?_ | refine st_of (bk_drew (bk_store (bk_store (bk_store HG.out _ _) _ _) _ _)) ?_ | refine st_of (bk_drew (bk_store (bk_store (bk_store (bk_store HG.out _ _) _ _) _ _) _ _)) ?_); rfl)).mono ?_; rintro e W1 ⟨rfl, h1, o1⟩; have HO1 := Lib.hid (Only.trans (C := fun k => k = g) (A := w) (by repeat' (first | with_reducible exact HB.out | with_reducible refine Only.drew ?_ | with_reducible refine only_set ?_ _ _)) o1); have HT1 := Lib.hid h1; clear h1 o1) | (go_at_call 107; refine (HF.out _ HT1.out).mono ?_; rintro e W2 ⟨rfl, h2, o2⟩; have HO2 := Lib.hid (Only.trans (C := fun k => k = g) (A := w) (by repeat' (first | with_reducible exact HO1.out | with_reducible refine Only.drew ?_ | with_reducible refine only_set ?_ _ _)) o2); have HT2 := Lib.hid h2; clear h2 o2))
      refine bodyPost_end (results_none rfl _ _ _) rfl ⟨rfl, ?_, ?_⟩
      · exact HT2.out
      · exact HO2.out
    · rw [if_neg e3] at hX
      subst hX
      have e4 : (0 : Int) < (h : Int) := by omega
      have h1 : IntKind.u8.wrap ((h : Int) - 1) = ((h - 1 : Nat) : Int) := by rw [IntKind.wrap_u8]; omega
      have w1 : IntKind.u8.wrap (N : Int) = (N : Int) := by rw [IntKind.wrap_u8]; omega
      have w2 : IntKind.u8.wrap ((i : Int) * (N : Int)) = ((i * N : Nat) : Int) := by
        have : i * N ≤ 59 * 4 := Nat.mul_le_mul (by omega) n2
        rw [IntKind.wrap_u8]
        push_cast
        rw [show (i : Int) * (N : Int) = ((i * N : Nat) : Int) from by push_cast; rfl]
        generalize i * N = z at *
        omega
      go_enter Tryd.func62, Tryd.ntmps62
      go_upto_region 1 with fail
      refine enter1 fun W hb g0 qq => ?_
      have HG := Lib.hid (blk_below HS.out hb)
      have HB := Lib.hid (Only.of_below (fun k => k = g) hb)
      have HPW := Lib.hid (HP.out.below hb)
      have hne : w.heap.size ≠ g := by omega
      have hG := HG.out
      clear r0 r1 r2 r3 r4 r5 r6 r7 r8 r9 r10 r11 r12 r13 r14 r15 r16 r17 hf hb
      obtain ⟨⟨r0, r1, r2, r3, r4, r5, r6, r7, r8, r9, r10, r11, r12, r13, r14, r15, r16, r17⟩, hf⟩ := cells18 hG
      clear hG
      have q1 : g < W.heap.size := by omega
      obtain ⟨u0, u1, u2, u3⟩ := cells4p g0
      clear g0
      rw [sn] at r1
      go_wp2_with fail
      repeat (go_region; try go_wp2_with fail)
      try go_wp2_with fail
      repeat (go_region; try go_wp2_with fail)
      refine bodyPost_end (results_none rfl _ _ _) rfl ⟨rfl, ?_, ?_⟩
      · unfold StX
        with_reducible first | refine st_of HG.out ?_ | refine st_of (bk_store HG.out _ _) ?_ | refine st_of (bk_store (bk_store HG.out _ _) _ _) ?_ | refine st_of (bk_store (bk_store (bk_store HG.out _ _) _ _) _ _) ?_ | refine st_of (bk_store (bk_store (bk_store (bk_store HG.out _ _) _ _) _ _) _ _) ?_ | refine st_of (bk_store (bk_store (bk_store (bk_store (bk_store HG.out _ _) _ _) _ _) _ _) _ _) ?_ | refine st_of (bk_drew HG.out) ?_ | refine st_of (bk_drew (bk_store HG.out _ _)) ?_ | refine st_of (bk_drew (bk_store (bk_store HG.out _ _) _ _)) ?_ | refine st_of (bk_drew (bk_store (bk_store (bk_store HG.out _ _) _ _) _ _)) ?_ | refine st_of (bk_drew (bk_store (bk_store (bk_store (bk_store HG.out _ _) _ _) _ _) _ _)) ?_ | refine st_of (bk_drew (bk_store (bk_store (bk_store (bk_store (bk_store HG.out _ _) _ _) _ _) _ _) _ _)) ?_ | refine st_of (bk_drew (bk_drew HG.out)) ?_ | refine st_of (bk_drew (bk_drew (bk_store HG.out _ _))) ?_ | refine st_of (bk_drew (bk_drew (bk_store (bk_store HG.out _ _) _ _))) ?_ | refine st_of (bk_drew (bk_drew (bk_store (bk_store (bk_store HG.out _ _) _ _) _ _))) ?_ | refine st_of (bk_drew (bk_drew (bk_store (bk_store (bk_store (bk_store HG.out _ _) _ _) _ _) _ _))) ?_ | refine st_of (bk_drew (bk_drew (bk_store (bk_store (bk_store (bk_store (bk_store HG.out _ _) _ _) _ _) _ _) _ _))) ?_
        rfl
      · repeat' (first | with_reducible exact HB.out | with_reducible refine Only.drew ?_ | with_reducible refine only_set ?_ _ _)
  · have hX2 := hright e1
    clear hX hright
    subst hX2
    have e2 : (A : Int) < (a : Int) := by omega
    clear e1
    go_enter Tryd.func62, Tryd.ntmps62
    go_upto_region 1 with fail
    refine enter1 fun W hb g0 qq => ?_
    have HG := Lib.hid (blk_below HS.out hb)
    have HB := Lib.hid (Only.of_below (fun k => k = g) hb)
    have HPW := Lib.hid (HP.out.below hb)
    have hne : w.heap.size ≠ g := by omega
    have hG := HG.out
    clear r0 r1 r2 r3 r4 r5 r6 r7 r8 r9 r10 r11 r12 r13 r14 r15 r16 r17 hf hb
    obtain ⟨⟨r0, r1, r2, r3, r4, r5, r6, r7, r8, r9, r10, r11, r12, r13, r14, r15, r16, r17⟩, hf⟩ := cells18 hG
    clear hG
    have q1 : g < W.heap.size := by omega
    obtain ⟨u0, u1, u2, u3⟩ := cells4p g0
    clear g0
    go_wp2_with fail
    repeat (go_region; try go_wp2_with fail)
    go_wp2_with (go_at_call 106; refine (HM.out _ (by first | with_reducible exact HPW.out | with_reducible exact HPW.out.drew) (by unfold StX; (with_reducible first | refine st_of HG.out ?_ | refine st_of (bk_store HG.out _ _) ?_ | refine st_of (bk_store (bk_store HG.out _ _) _ _) ?_ | refine st_of (bk_store (bk_store (bk_store HG.out _ _) _ _) _ _) ?_ | refine st_of (bk_store (bk_store (bk_store (bk_store HG.out _ _) _ _) _ _) _ _) ?_ | refine st_of (bk_drew HG.out) ?_ | refine st_of (bk_drew (bk_store HG.out _ _)) ?_ | refine st_of (bk_drew (bk_store (bk_store HG.out _ _) _ _)) ?_ | refine st_of (bk_drew (bk_store (bk_store (bk_store HG.out _ _) _ _) _ _)) ?_ | refine st_of (bk_drew (bk_store (bk_store (bk_store (bk_store HG.out _ _) _ _) _ _) _ _)) ?_); rfl)).mono ?_; rintro e W1 ⟨rfl, h1, o1⟩; have HO1 := Lib.hid (Only.trans (C := fun k => k = g) (A := w) (by repeat' (first | with_reducible exact HB.out | with_reducible refine Only.drew ?_ | with_reducible refine only_set ?_ _ _)) o1); have HT1 := Lib.hid h1; clear h1 o1)
    refine bodyPost_end (results_none rfl _ _ _) rfl ⟨rfl, ?_, ?_⟩
    · exact HT1.out
    · exact HO1.out
set_option maxRecDepth 100000 in
set_option maxHeartbeats 8000000 in
theorem pStartX_any {c : Cf} {C N K : Nat} (s : SzX c C N K) (A0 : Option Addr) (cp : Nat) (g : Nat) (f : Ds) (hk : f.kind = 4 ∨ f.kind = 5 ∨ f.kind = 6 ∨ f.kind = 7 ∨ f.kind = 8) (tt A B Cc : Nat) (w : World) (hs : StX c (.slice A0 (topX c + 1 : Nat) cp) g f 0 0 false w) :
    Calls Tryd.prog 61 #[.pointer (some ⟨g, 0, none⟩), cvT tt A B Cc] w (TurnX c (.slice A0 (topX c + 1 : Nat) cp) g (headX c f A) 0 0 false w) := by
  have c1 := s.c1
  have c2 := s.c2
  have t4 := topX_le c
  have HT := Lib.hid (fun W => pTopX_any c A0 (topX c) cp (by omega) W)
  have HM := Lib.hid (fun W hs => pNoneX_any c (.slice A0 (topX c + 1 : Nat) cp) g { f with n := 0 } 0 0 false hk (by simp) W hs)
  obtain ⟨X, hX⟩ : ∃ X, headX c f A = X := ⟨_, rfl⟩
  rw [hX]
  unfold headX at hX
  have hcap : c.cap.toNat = C := s.cap'
  have sc := s.cap
  rw [hcap, sc] at hX
  clear s hk
  unfold cvT shX at *
  unfold StX stO at hs
  have HS := Lib.hid hs
  have q0 := (Array.getElem?_eq_some_iff.1 hs).1
  obtain ⟨⟨r0, r1, r2, r3, r4, r5, r6, r7, r8, r9, r10, r11, r12, r13, r14, r15, r16, r17⟩, hf⟩ := cells18 hs
  clear hs
  rw [sc] at r0
  rw [sc] at HT
  generalize topX c = T at *
  obtain ⟨tg, k, seq, kind, a, b, pc, i, j, n, p, h, x, y⟩ := f
  simp only at hX HM HS r4 r5 r6 r7 r8 r9 r10 r11 r12 r13 r14
  have a1 : IntKind.u64.wrap (C : Int) = (C : Int) := by rw [IntKind.wrap_u64]; omega
  have a3 : IntKind.u8.wrap (T : Int) = (T : Int) := by rw [IntKind.wrap_u8]; omega
  by_cases e1 : A = 0
  · subst e1
    have hA : (if (((0 : Nat)) : Int) < (C : Int) then 0 else C) = 0 := by split <;> omega
    simp only [hA] at hX
    rw [if_pos trivial] at hX
    subst hX
    have e3 : ¬ ((C : Int) < ((0 : Nat) : Int)) := by omega
    have e4 : ¬ C < 0 := by omega
    have qk : ((0 : Nat) : Int) = 0 := rfl
    rw [qk] at *
    clear qk
    go_enter Tryd.func61, Tryd.ntmps61
    go_upto_region 1 with fail
    refine enter1 fun W hb g0 qq => ?_
    have HG := Lib.hid (blk_below HS.out hb)
    have HB := Lib.hid (Only.of_below (fun k => k = g) hb)
    have hne : w.heap.size ≠ g := by omega
    have hG := HG.out
    rw [sc] at hG
    clear r0 r1 r2 r3 r4 r5 r6 r7 r8 r9 r10 r11 r12 r13 r14 r15 r16 r17 hf hb
    obtain ⟨⟨r0, r1, r2, r3, r4, r5, r6, r7, r8, r9, r10, r11, r12, r13, r14, r15, r16, r17⟩, hf⟩ := cells18 hG
    clear hG
    have q1 : g < W.heap.size := by omega
    obtain ⟨u0, u1, u2, u3⟩ := cells4p g0
    clear g0
    go_wp2_with fail
    repeat (go_region; try go_wp2_with fail)
    try go_wp2_with fail
    go_wp2_with (go_at_call 105; refine (HM.out _ (by unfold StX; (with_reducible first | refine st_of HG.out ?_ | refine st_of (bk_store HG.out _ _) ?_ | refine st_of (bk_store (bk_store HG.out _ _) _ _) ?_ | refine st_of (bk_store (bk_store (bk_store HG.out _ _) _ _) _ _) ?_ | refine st_of (bk_store (bk_store (bk_store (bk_store HG.out _ _) _ _) _ _) _ _) ?_ | refine st_of (bk_drew HG.out) ?_ | refine st_of (bk_drew (bk_store HG.out _ _)) ?_ | refine st_of (bk_drew (bk_store (bk_store HG.out _ _) _ _)) ?_ | refine st_of (bk_drew (bk_store (bk_store (bk_store HG.out _ _) _ _) _ _)) ?_ | refine st_of (bk_drew (bk_store (bk_store (bk_store (bk_store HG.out _ _) _ _) _ _) _ _)) ?_); rfl)).mono ?_; rintro e W1 ⟨rfl, h1, o1⟩; have HO1 := Lib.hid (Only.trans (C := fun k => k = g) (A := w) (by repeat' (first | with_reducible exact HB.out | with_reducible refine Only.drew ?_ | with_reducible refine only_set ?_ _ _)) o1); have HT1 := Lib.hid h1; clear h1 o1)
    refine bodyPost_ret (results_none rfl _ _ _) rfl ⟨rfl, ?_, ?_⟩
    · exact HT1.out
    · exact HO1.out
  · by_cases e5 : C < A
    · have hA : (if (A : Int) < (C : Int) then A else C) = C := by split <;> omega
      simp only [hA] at hX
      rw [if_neg (by omega)] at hX
      subst hX
      have e2 : ((C : Int) == 0) = false := by simp; omega
      have a2 : IntKind.u8.wrap (C : Int) = (C : Int) := by rw [IntKind.wrap_u8]; omega
      have e3 :  (C : Int) < (A : Int) := by omega
      go_enter Tryd.func61, Tryd.ntmps61
      go_upto_region 1 with fail
      refine enter1 fun W hb g0 qq => ?_
      have HG := Lib.hid (blk_below HS.out hb)
      have HB := Lib.hid (Only.of_below (fun k => k = g) hb)
      have hne : w.heap.size ≠ g := by omega
      have hG := HG.out
      rw [sc] at hG
      clear r0 r1 r2 r3 r4 r5 r6 r7 r8 r9 r10 r11 r12 r13 r14 r15 r16 r17 hf hb
      obtain ⟨⟨r0, r1, r2, r3, r4, r5, r6, r7, r8, r9, r10, r11, r12, r13, r14, r15, r16, r17⟩, hf⟩ := cells18 hG
      clear hG
      have q1 : g < W.heap.size := by omega
      obtain ⟨u0, u1, u2, u3⟩ := cells4p g0
      clear g0
      go_wp2_with fail
      go_region
      go_upto_region 3 with fail
      refine entSetD HG.out rfl fun W2 G2 o2 => ?_
      have HO2 := Lib.hid (HB.out.trans o2)
      have HG2 := Lib.hid G2
      have z2 := HG2.out
      rw [sc] at z2
      clear o2 G2 r0 r1 r2 r3 r4 r5 r6 r7 r8 r9 r10 r11 r12 r13 r14 r15 r16 r17 hf q1
      have q1 : g < W2.heap.size := (Array.getElem?_eq_some_iff.1 z2).1
      obtain ⟨⟨r0, r1, r2, r3, r4, r5, r6, r7, r8, r9, r10, r11, r12, r13, r14, r15, r16, r17⟩, hf⟩ := cells18 z2
      clear z2
      go_wp2_with (go_at_call 97; refine (HT.out _).mono ?_; rintro e w3 ⟨rfl, hb3⟩; have HG3 := Lib.hid (blk_below HG2.out hb3); have HO3 := Lib.hid (HO2.out.trans (Only.of_below (fun k => k = g) hb3)); clear hb3 HG2 HO2 q1 r0 r1 r2 r3 r4 r5 r6 r7 r8 r9 r10 r11 r12 r13 r14 r15 r16 r17 hf; have z3 := HG3.out; have q1 : g < w3.heap.size := (Array.getElem?_eq_some_iff.1 z3).1; obtain ⟨⟨r0, r1, r2, r3, r4, r5, r6, r7, r8, r9, r10, r11, r12, r13, r14, r15, r16, r17⟩, hf⟩ := cells18 z3; clear z3)
      try repeat (go_region; try go_wp2_with fail)
      refine bodyPost_end (results_none rfl _ _ _) rfl ⟨rfl, ?_, ?_⟩
      · unfold StX
        with_reducible first | refine st_of HG3.out ?_ | refine st_of (bk_store HG3.out _ _) ?_ | refine st_of (bk_store (bk_store HG3.out _ _) _ _) ?_ | refine st_of (bk_store (bk_store (bk_store HG3.out _ _) _ _) _ _) ?_ | refine st_of (bk_store (bk_store (bk_store (bk_store HG3.out _ _) _ _) _ _) _ _) ?_ | refine st_of (bk_store (bk_store (bk_store (bk_store (bk_store HG3.out _ _) _ _) _ _) _ _) _ _) ?_ | refine st_of (bk_drew HG3.out) ?_ | refine st_of (bk_drew (bk_store HG3.out _ _)) ?_ | refine st_of (bk_drew (bk_store (bk_store HG3.out _ _) _ _)) ?_ | refine st_of (bk_drew (bk_store (bk_store (bk_store HG3.out _ _) _ _) _ _)) ?_ | refine st_of (bk_drew (bk_store (bk_store (bk_store (bk_store HG3.out _ _) _ _) _ _) _ _)) ?_ | refine st_of (bk_drew (bk_store (bk_store (bk_store (bk_store (bk_store HG3.out _ _) _ _) _ _) _ _) _ _)) ?_ | refine st_of (bk_drew (bk_drew HG3.out)) ?_ | refine st_of (bk_drew (bk_drew (bk_store HG3.out _ _))) ?_ | refine st_of (bk_drew (bk_drew (bk_store (bk_store HG3.out _ _) _ _))) ?_ | refine st_of (bk_drew (bk_drew (bk_store (bk_store (bk_store HG3.out _ _) _ _) _ _))) ?_ | refine st_of (bk_drew (bk_drew (bk_store (bk_store (bk_store (bk_store HG3.out _ _) _ _) _ _) _ _))) ?_ | refine st_of (bk_drew (bk_drew (bk_store (bk_store (bk_store (bk_store (bk_store HG3.out _ _) _ _) _ _) _ _) _ _))) ?_
        rfl
      · repeat' (first | with_reducible exact HO3.out | with_reducible refine Only.drew ?_ | with_reducible refine only_set ?_ _ _)
    · have hA : (if (A : Int) < (C : Int) then A else C) = A := by split <;> omega
      simp only [hA] at hX
      rw [if_neg (by omega)] at hX
      subst hX
      have e2 : ((A : Int) == 0) = false := by simp; omega
      have a2 : IntKind.u8.wrap (A : Int) = (A : Int) := by rw [IntKind.wrap_u8]; omega
      have e3 : ¬ (C : Int) < (A : Int) := by omega
      go_enter Tryd.func61, Tryd.ntmps61
      go_upto_region 1 with fail
      refine enter1 fun W hb g0 qq => ?_
      have HG := Lib.hid (blk_below HS.out hb)
      have HB := Lib.hid (Only.of_below (fun k => k = g) hb)
      have hne : w.heap.size ≠ g := by omega
      have hG := HG.out
      rw [sc] at hG
      clear r0 r1 r2 r3 r4 r5 r6 r7 r8 r9 r10 r11 r12 r13 r14 r15 r16 r17 hf hb
      obtain ⟨⟨r0, r1, r2, r3, r4, r5, r6, r7, r8, r9, r10, r11, r12, r13, r14, r15, r16, r17⟩, hf⟩ := cells18 hG
      clear hG
      have q1 : g < W.heap.size := by omega
      obtain ⟨u0, u1, u2, u3⟩ := cells4p g0
      clear g0
      go_wp2_with fail
      go_region
      go_upto_region 3 with fail
      refine entSetD HG.out rfl fun W2 G2 o2 => ?_
      have HO2 := Lib.hid (HB.out.trans o2)
      have HG2 := Lib.hid G2
      have z2 := HG2.out
      rw [sc] at z2
      clear o2 G2 r0 r1 r2 r3 r4 r5 r6 r7 r8 r9 r10 r11 r12 r13 r14 r15 r16 r17 hf q1
      have q1 : g < W2.heap.size := (Array.getElem?_eq_some_iff.1 z2).1
      obtain ⟨⟨r0, r1, r2, r3, r4, r5, r6, r7, r8, r9, r10, r11, r12, r13, r14, r15, r16, r17⟩, hf⟩ := cells18 z2
      clear z2
      go_wp2_with (go_at_call 97; refine (HT.out _).mono ?_; rintro e w3 ⟨rfl, hb3⟩; have HG3 := Lib.hid (blk_below HG2.out hb3); have HO3 := Lib.hid (HO2.out.trans (Only.of_below (fun k => k = g) hb3)); clear hb3 HG2 HO2 q1 r0 r1 r2 r3 r4 r5 r6 r7 r8 r9 r10 r11 r12 r13 r14 r15 r16 r17 hf; have z3 := HG3.out; have q1 : g < w3.heap.size := (Array.getElem?_eq_some_iff.1 z3).1; obtain ⟨⟨r0, r1, r2, r3, r4, r5, r6, r7, r8, r9, r10, r11, r12, r13, r14, r15, r16, r17⟩, hf⟩ := cells18 z3; clear z3)
      try repeat (go_region; try go_wp2_with fail)
      refine bodyPost_end (results_none rfl _ _ _) rfl ⟨rfl, ?_, ?_⟩
      · unfold StX
        with_reducible first | refine st_of HG3.out ?_ | refine st_of (bk_store HG3.out _ _) ?_ | refine st_of (bk_store (bk_store HG3.out _ _) _ _) ?_ | refine st_of (bk_store (bk_store (bk_store HG3.out _ _) _ _) _ _) ?_ | refine st_of (bk_store (bk_store (bk_store (bk_store HG3.out _ _) _ _) _ _) _ _) ?_ | refine st_of (bk_store (bk_store (bk_store (bk_store (bk_store HG3.out _ _) _ _) _ _) _ _) _ _) ?_ | refine st_of (bk_drew HG3.out) ?_ | refine st_of (bk_drew (bk_store HG3.out _ _)) ?_ | refine st_of (bk_drew (bk_store (bk_store HG3.out _ _) _ _)) ?_ | refine st_of (bk_drew (bk_store (bk_store (bk_store HG3.out _ _) _ _) _ _)) ?_ | refine st_of (bk_drew (bk_store (bk_store (bk_store (bk_store HG3.out _ _) _ _) _ _) _ _)) ?_ | refine st_of (bk_drew (bk_store (bk_store (bk_store (bk_store (bk_store HG3.out _ _) _ _) _ _) _ _) _ _)) ?_ | refine st_of (bk_drew (bk_drew HG3.out)) ?_ | refine st_of (bk_drew (bk_drew (bk_store HG3.out _ _))) ?_ | refine st_of (bk_drew (bk_drew (bk_store (bk_store HG3.out _ _) _ _))) ?_ | refine st_of (bk_drew (bk_drew (bk_store (bk_store (bk_store HG3.out _ _) _ _) _ _))) ?_ | refine st_of (bk_drew (bk_drew (bk_store (bk_store (bk_store (bk_store HG3.out _ _) _ _) _ _) _ _))) ?_ | refine st_of (bk_drew (bk_drew (bk_store (bk_store (bk_store (bk_store (bk_store HG3.out _ _) _ _) _ _) _ _) _ _))) ?_
        rfl
      · repeat' (first | with_reducible exact HO3.out | with_reducible refine Only.drew ?_ | with_reducible refine only_set ?_ _ _)
end Go.Proofs.YtmkehailohgebaaDoor
