/- The program of an index, the program's own: a step is turned, Pc by Pc. -/
import Derived.Test.YtmkehailohgebaaDoorTpF
import Derived.Test.YtmkehailohgebaaDoorFitX
import Derived.BigRegion
import Derived.BigQuiet
import Derived.Deep.DeepCutAuto
namespace Go.Proofs.YtmkehailohgebaaDoor
open Go.RowKit Go.Lib Pt Opn

theorem stays_up {c : Cf} {f : Ds} : (if f.i + 1 < upX c f.n f.h then ({ f with i := f.i + 1, pc := 9 }, false) else if clearsX c f = true then ({ f with i := f.i + 1, pc := 12 }, false) else (climbX c { f with i := f.i + 1 }, false)) = ((if (staysX c { f with i := f.i + 1 }).2 = true then (staysX c { f with i := f.i + 1 }).1 else climbX c { f with i := f.i + 1 }), false) := by
  have hc : clearsX c { f with i := f.i + 1 } = clearsX c f := rfl
  unfold staysX
  simp only [hc]
  split
  · rfl
  · split <;> rfl

set_option maxRecDepth 100000 in
set_option maxHeartbeats 8000000 in
theorem pStayUpX_any {c : Cf} {C N K : Nat} (s : SzX c C N K) (A0 : Option Addr) (cp : Nat) (g : Nat) (f : Ds) (rk rv : Nat) (t : Bool) (hn : f.n ≤ C) (hh : f.h ≤ topX c) (hi : f.i < 256) (hp : f.p < 256) (hk : f.kind = 4 ∨ f.kind = 5) (hg : g ≠ 1) (w : World) (hP : Pow w) (hs : StX c (.slice A0 (topX c + 1 : Nat) cp) g f rk rv t w) :
    Calls Tryd.prog 67 #[.pointer (some ⟨g, 0, none⟩)] w (TurnX c (.slice A0 (topX c + 1 : Nat) cp) g (if (staysX c f).2 = true then (staysX c f).1 else climbX c f) rk rv t w) := by
  have t4 := topX_le c
  have HY := Lib.hid (pStaysX_any s (.slice A0 (topX c + 1 : Nat) cp) g f rk rv t hn (by omega) hi (by rcases hk with e | e <;> rw [e] <;> decide) w hP hs)
  have HU := Lib.hid (fun W hP hs => pGoUpX_any s A0 cp g f rk rv t hn hh hp hk hg W hP hs)
  have HN := Lib.hid (fun e => stays_not (c := c) (f := f) e)
  have HP := Lib.hid hP
  have q0 := (Array.getElem?_eq_some_iff.1 hs).1
  clear hP hs s hn hh hi hp hk
  obtain ⟨R, hR⟩ : ∃ R, staysX c f = R := ⟨_, rfl⟩
  rw [hR] at HY HN ⊢
  clear hR
  obtain ⟨R1, R2⟩ := R
  cases R2 with
  | true =>
    rw [if_pos rfl]
    go_enter Tryd.func67, Tryd.ntmps67
    go_wp2_with (go_at_call 109; refine HY.out.mono ?_; rintro e W1 ⟨rfl, h1, o1⟩)
    exact bodyPost_end (results_none rfl _ _ _) rfl ⟨rfl, h1, o1⟩
  | false =>
    rw [if_neg (by simp)]
    have hr := HN.out rfl
    simp only at hr
    subst hr
    go_enter Tryd.func67, Tryd.ntmps67
    go_wp2_with (first
      | (go_at_call 109; refine HY.out.mono ?_; rintro e W1 ⟨rfl, h1, o1⟩; have HH1 := Lib.hid h1; have HO1 := Lib.hid o1; clear h1 o1)
      | (go_at_call 66; refine (HU.out _ (HP.out.only HO1.out hg) HH1.out).mono ?_; rintro e W2 ⟨rfl, h2, o2⟩))
    exact bodyPost_end (results_none rfl _ _ _) rfl ⟨rfl, h2, HO1.out.trans o2⟩

set_option maxRecDepth 100000 in
set_option maxHeartbeats 8000000 in
theorem pTurn_0 {c : Cf} {C N K : Nat} (s : SzX c C N K) (A0 : Option Addr) (cp : Nat) (g : Nat) (f : Ds) (hpc : f.pc = 0) (q : FitX c C K f) (tt A B Cc : Nat) (hg : g ≠ 1) (w : World) (hP : Pow w) (hs : StX c (.slice A0 (topX c + 1 : Nat) cp) g f 0 0 false w) :
    Calls Tryd.prog 32 #[.pointer (some ⟨g, 0, none⟩), cvT tt A B Cc] w (TurnX c (.slice A0 (topX c + 1 : Nat) cp) g (behindX c f A B).1 (toldX (behindX c f A B)).1 (toldX (behindX c f A B)).2 (behindX c f A B).2 w) := by
  have _u1 := hg
  have _u2 := hP
  clear _u1 _u2
  have c2 := s.c2
  have k2 := s.k2
  have n2 := s.n2
  have t4 := topX_le c
  obtain ⟨qk5, qn, qp, qj, qh, qa, qb, qx, qy, qi1, qi6, qi14, qi11, qn15, qk4⟩ := q
  rw [bh_0 hpc]
  have HC := Lib.hid (fun W hs => pStartX_any s A0 cp g f qk5 tt A B Cc W hs)
  try simp only at HC
  obtain ⟨X, hX⟩ : ∃ X, (headX c f A, false) = X := ⟨_, rfl⟩
  rw [hX]
  have HP := Lib.hid hP
  clear hP s
  unfold cvT at *
  unfold StX stO at hs
  have HS := Lib.hid hs
  have q0 := (Array.getElem?_eq_some_iff.1 hs).1
  obtain ⟨⟨r0, r1, r2, r3, r4, r5, r6, r7, r8, r9, r10, r11, r12, r13, r14, r15, r16, r17⟩, hf⟩ := cells18 hs
  clear hs
  obtain ⟨tg, k, seq, kind, a, b, pc, i, j, n, p, h, x, y⟩ := f
  simp only at hpc qk5 qn qp qj qh qa qb qx qy qi1 qi6 qi14 qi11 qn15 qk4 hX HS r4 r5 r6 r7 r8 r9 r10 r11 r12 r13 r14
  subst hX
  subst hpc
  have qk : ((0 : Nat) : Int) = 0 := rfl
  rw [qk] at *
  clear qk
  go_enter Tryd.func32, Tryd.ntmps32
  go_upto_region 1 with fail
  refine enter1 fun W hb g0 qq => ?_
  have HG := Lib.hid (blk_below HS.out hb)
  have HB := Lib.hid (Only.of_below (fun k => k = g) hb)
  have HPW := Lib.hid (HP.out.below hb)
  have hne : w.heap.size ≠ g := by omega
  have hG := HG.out
  clear r0 r1 r2 r3 r4 r5 r6 r7 r8 r9 r10 r11 r12 r13 r14 r15 r16 r17 hf hb
  obtain ⟨⟨r0, r1, r2, r3, r4, r5, r6, r7, r8, r9, r10, r11, r12, r13, r14, r15, r16, r17⟩, hf⟩ := cells18 hG
  clear hG
  have q1 : g < W.heap.size := by omega
  obtain ⟨u0, u1, u2, u3⟩ := cells4p g0
  clear g0
  go_wp2_with fail
  go_wp2_with (go_at_call 61; refine (HC.out _ (by unfold StX; (with_reducible first | refine st_of HG.out ?_ | refine st_of (bk_store HG.out _ _) ?_ | refine st_of (bk_store (bk_store HG.out _ _) _ _) ?_ | refine st_of (bk_store (bk_store (bk_store HG.out _ _) _ _) _ _) ?_ | refine st_of (bk_store (bk_store (bk_store (bk_store HG.out _ _) _ _) _ _) _ _) ?_ | refine st_of (bk_drew HG.out) ?_ | refine st_of (bk_drew (bk_store HG.out _ _)) ?_ | refine st_of (bk_drew (bk_store (bk_store HG.out _ _) _ _)) ?_ | refine st_of (bk_drew (bk_store (bk_store (bk_store HG.out _ _) _ _) _ _)) ?_ | refine st_of (bk_drew (bk_store (bk_store (bk_store (bk_store HG.out _ _) _ _) _ _) _ _)) ?_); rfl)).mono ?_; rintro e W1 ⟨rfl, h1, o1⟩; have HO1 := Lib.hid (Only.trans (C := fun k => k = g) (A := w) (by repeat' (first | with_reducible exact HB.out | with_reducible refine Only.drew ?_ | with_reducible refine only_set ?_ _ _)) o1); have HT1 := Lib.hid h1; clear h1 o1)
  refine bodyPost_end (results_none rfl _ _ _) rfl ⟨rfl, ?_, ?_⟩
  · exact HT1.out
  · exact HO1.out

set_option maxRecDepth 100000 in
set_option maxHeartbeats 8000000 in
theorem pTurn_1 {c : Cf} {C N K : Nat} (s : SzX c C N K) (A0 : Option Addr) (cp : Nat) (g : Nat) (f : Ds) (hpc : f.pc = 1) (q : FitX c C K f) (tt A B Cc : Nat) (hg : g ≠ 1) (w : World) (hP : Pow w) (hs : StX c (.slice A0 (topX c + 1 : Nat) cp) g f 0 0 false w) :
    Calls Tryd.prog 32 #[.pointer (some ⟨g, 0, none⟩), cvT tt A B Cc] w (TurnX c (.slice A0 (topX c + 1 : Nat) cp) g (behindX c f A B).1 (toldX (behindX c f A B)).1 (toldX (behindX c f A B)).2 (behindX c f A B).2 w) := by
  have _u1 := hg
  have _u2 := hP
  clear _u1 _u2
  have c2 := s.c2
  have k2 := s.k2
  have n2 := s.n2
  have t4 := topX_le c
  obtain ⟨qk5, qn, qp, qj, qh, qa, qb, qx, qy, qi1, qi6, qi14, qi11, qn15, qk4⟩ := q
  rw [bh_1 hpc]
  have HC := Lib.hid (fun W hP hs => pSeekX_any s (.slice A0 (topX c + 1 : Nat) cp) g f qk5 qa qn (by omega) (qi1 hpc) (by omega) tt A B Cc hg W hP hs)
  try simp only at HC
  obtain ⟨X, hX⟩ : ∃ X, itemX c f A B = X := ⟨_, rfl⟩
  rw [hX]
  have HP := Lib.hid hP
  clear hP s
  unfold cvT at *
  unfold StX stO at hs
  have HS := Lib.hid hs
  have q0 := (Array.getElem?_eq_some_iff.1 hs).1
  obtain ⟨⟨r0, r1, r2, r3, r4, r5, r6, r7, r8, r9, r10, r11, r12, r13, r14, r15, r16, r17⟩, hf⟩ := cells18 hs
  clear hs
  obtain ⟨tg, k, seq, kind, a, b, pc, i, j, n, p, h, x, y⟩ := f
  simp only at hpc qk5 qn qp qj qh qa qb qx qy qi1 qi6 qi14 qi11 qn15 qk4 hX HS r4 r5 r6 r7 r8 r9 r10 r11 r12 r13 r14
  subst hX
  subst hpc
  have qk : ((1 : Nat) : Int) = 1 := rfl
  rw [qk] at *
  clear qk
  go_enter Tryd.func32, Tryd.ntmps32
  go_upto_region 1 with fail
  refine enter1 fun W hb g0 qq => ?_
  have HG := Lib.hid (blk_below HS.out hb)
  have HB := Lib.hid (Only.of_below (fun k => k = g) hb)
  have HPW := Lib.hid (HP.out.below hb)
  have hne : w.heap.size ≠ g := by omega
  have hG := HG.out
  clear r0 r1 r2 r3 r4 r5 r6 r7 r8 r9 r10 r11 r12 r13 r14 r15 r16 r17 hf hb
  obtain ⟨⟨r0, r1, r2, r3, r4, r5, r6, r7, r8, r9, r10, r11, r12, r13, r14, r15, r16, r17⟩, hf⟩ := cells18 hG
  clear hG
  have q1 : g < W.heap.size := by omega
  obtain ⟨u0, u1, u2, u3⟩ := cells4p g0
  clear g0
  go_wp2_with fail
  go_wp2_with (go_at_call 62; refine (HC.out _ (by first | with_reducible exact HPW.out | with_reducible exact HPW.out.drew) (by unfold StX; (with_reducible first | refine st_of HG.out ?_ | refine st_of (bk_store HG.out _ _) ?_ | refine st_of (bk_store (bk_store HG.out _ _) _ _) ?_ | refine st_of (bk_store (bk_store (bk_store HG.out _ _) _ _) _ _) ?_ | refine st_of (bk_store (bk_store (bk_store (bk_store HG.out _ _) _ _) _ _) _ _) ?_ | refine st_of (bk_drew HG.out) ?_ | refine st_of (bk_drew (bk_store HG.out _ _)) ?_ | refine st_of (bk_drew (bk_store (bk_store HG.out _ _) _ _)) ?_ | refine st_of (bk_drew (bk_store (bk_store (bk_store HG.out _ _) _ _) _ _)) ?_ | refine st_of (bk_drew (bk_store (bk_store (bk_store (bk_store HG.out _ _) _ _) _ _) _ _)) ?_); rfl)).mono ?_; rintro e W1 ⟨rfl, h1, o1⟩; have HO1 := Lib.hid (Only.trans (C := fun k => k = g) (A := w) (by repeat' (first | with_reducible exact HB.out | with_reducible refine Only.drew ?_ | with_reducible refine only_set ?_ _ _)) o1); have HT1 := Lib.hid h1; clear h1 o1)
  refine bodyPost_end (results_none rfl _ _ _) rfl ⟨rfl, ?_, ?_⟩
  · exact HT1.out
  · exact HO1.out

set_option maxRecDepth 100000 in
set_option maxHeartbeats 8000000 in
theorem pTurn_3 {c : Cf} {C N K : Nat} (s : SzX c C N K) (A0 : Option Addr) (cp : Nat) (g : Nat) (f : Ds) (hpc : f.pc = 3) (q : FitX c C K f) (tt A B Cc : Nat) (hg : g ≠ 1) (w : World) (hP : Pow w) (hs : StX c (.slice A0 (topX c + 1 : Nat) cp) g f 0 0 false w) :
    Calls Tryd.prog 32 #[.pointer (some ⟨g, 0, none⟩), cvT tt A B Cc] w (TurnX c (.slice A0 (topX c + 1 : Nat) cp) g (behindX c f A B).1 (toldX (behindX c f A B)).1 (toldX (behindX c f A B)).2 (behindX c f A B).2 w) := by
  have _u1 := hg
  have _u2 := hP
  clear _u1 _u2
  have c2 := s.c2
  have k2 := s.k2
  have n2 := s.n2
  have t4 := topX_le c
  obtain ⟨qk5, qn, qp, qj, qh, qa, qb, qx, qy, qi1, qi6, qi14, qi11, qn15, qk4⟩ := q
  rw [bh_3 hpc]
  have HK := Lib.hid (fun W hs => pTakeX_any c (.slice A0 (topX c + 1 : Nat) cp) g f 0 0 false tt A B Cc W hs)
  try simp only [overX] at HK
  have HT := Lib.hid (fun W hs => pTellX_any c (.slice A0 (topX c + 1 : Nat) cp) g (overX f A B) 0 0 false (by simp only [overX]; omega) (by simp only [overX]; omega) W hs)
  try simp only [overX] at HT
  obtain ⟨X, hX⟩ : ∃ X, ({ overX f A B with pc := 20 }, true) = X := ⟨_, rfl⟩
  rw [hX]
  have HP := Lib.hid hP
  clear hP s
  unfold cvT at *
  unfold StX stO at hs
  have HS := Lib.hid hs
  have q0 := (Array.getElem?_eq_some_iff.1 hs).1
  obtain ⟨⟨r0, r1, r2, r3, r4, r5, r6, r7, r8, r9, r10, r11, r12, r13, r14, r15, r16, r17⟩, hf⟩ := cells18 hs
  clear hs
  obtain ⟨tg, k, seq, kind, a, b, pc, i, j, n, p, h, x, y⟩ := f
  simp only at hpc qk5 qn qp qj qh qa qb qx qy qi1 qi6 qi14 qi11 qn15 qk4 hX HS r4 r5 r6 r7 r8 r9 r10 r11 r12 r13 r14
  unfold overX at hX
  simp only at hX
  have hu : A % 4294967296 < 4294967296 := by omega
  have hv : B % 4294967296 < 4294967296 := by omega
  generalize A % 4294967296 = u at *
  generalize B % 4294967296 = v at *
  subst hX
  subst hpc
  have qk : ((3 : Nat) : Int) = 3 := rfl
  rw [qk] at *
  clear qk
  go_enter Tryd.func32, Tryd.ntmps32
  go_upto_region 1 with fail
  refine enter1 fun W hb g0 qq => ?_
  have HG := Lib.hid (blk_below HS.out hb)
  have HB := Lib.hid (Only.of_below (fun k => k = g) hb)
  have HPW := Lib.hid (HP.out.below hb)
  have hne : w.heap.size ≠ g := by omega
  have hG := HG.out
  clear r0 r1 r2 r3 r4 r5 r6 r7 r8 r9 r10 r11 r12 r13 r14 r15 r16 r17 hf hb
  obtain ⟨⟨r0, r1, r2, r3, r4, r5, r6, r7, r8, r9, r10, r11, r12, r13, r14, r15, r16, r17⟩, hf⟩ := cells18 hG
  clear hG
  have q1 : g < W.heap.size := by omega
  obtain ⟨u0, u1, u2, u3⟩ := cells4p g0
  clear g0
  go_wp2_with fail
  go_wp2_with (first | (go_at_call 63; refine (HK.out _ (by unfold StX; (with_reducible first | refine st_of HG.out ?_ | refine st_of (bk_store HG.out _ _) ?_ | refine st_of (bk_store (bk_store HG.out _ _) _ _) ?_ | refine st_of (bk_store (bk_store (bk_store HG.out _ _) _ _) _ _) ?_ | refine st_of (bk_store (bk_store (bk_store (bk_store HG.out _ _) _ _) _ _) _ _) ?_ | refine st_of (bk_drew HG.out) ?_ | refine st_of (bk_drew (bk_store HG.out _ _)) ?_ | refine st_of (bk_drew (bk_store (bk_store HG.out _ _) _ _)) ?_ | refine st_of (bk_drew (bk_store (bk_store (bk_store HG.out _ _) _ _) _ _)) ?_ | refine st_of (bk_drew (bk_store (bk_store (bk_store (bk_store HG.out _ _) _ _) _ _) _ _)) ?_); rfl)).mono ?_; rintro e W1 ⟨rfl, h1, o1⟩; have HO1 := Lib.hid (Only.trans (C := fun k => k = g) (A := w) (by repeat' (first | with_reducible exact HB.out | with_reducible refine Only.drew ?_ | with_reducible refine only_set ?_ _ _)) o1); unfold StX stO at h1; have HS1 := Lib.hid h1; simp only at h1; obtain ⟨⟨s1_0, s1_1, s1_2, s1_3, s1_4, s1_5, s1_6, s1_7, s1_8, s1_9, s1_10, s1_11, s1_12, s1_13, s1_14, s1_15, s1_16, s1_17⟩, hf1⟩ := cells18 h1; clear h1 o1; have q1 : g < W1.heap.size := (Array.getElem?_eq_some_iff.1 HS1.out).1) | (go_at_call 64; refine (HT.out _ (by unfold StX; (with_reducible first | refine st_of HS1.out ?_ | refine st_of (bk_store HS1.out _ _) ?_ | refine st_of (bk_store (bk_store HS1.out _ _) _ _) ?_ | refine st_of (bk_store (bk_store (bk_store HS1.out _ _) _ _) _ _) ?_ | refine st_of (bk_store (bk_store (bk_store (bk_store HS1.out _ _) _ _) _ _) _ _) ?_ | refine st_of (bk_drew HS1.out) ?_ | refine st_of (bk_drew (bk_store HS1.out _ _)) ?_ | refine st_of (bk_drew (bk_store (bk_store HS1.out _ _) _ _)) ?_ | refine st_of (bk_drew (bk_store (bk_store (bk_store HS1.out _ _) _ _) _ _)) ?_ | refine st_of (bk_drew (bk_store (bk_store (bk_store (bk_store HS1.out _ _) _ _) _ _) _ _)) ?_); rfl)).mono ?_; rintro e W2 ⟨rfl, h2, o2⟩; have HO2 := Lib.hid (Only.trans (C := fun k => k = g) (A := w) (by repeat' (first | with_reducible exact HO1.out | with_reducible refine Only.drew ?_ | with_reducible refine only_set ?_ _ _)) o2); unfold StX stO at h2; have HS2 := Lib.hid h2; simp only at h2; obtain ⟨⟨s2_0, s2_1, s2_2, s2_3, s2_4, s2_5, s2_6, s2_7, s2_8, s2_9, s2_10, s2_11, s2_12, s2_13, s2_14, s2_15, s2_16, s2_17⟩, hf2⟩ := cells18 h2; clear h2 o2; have q2 : g < W2.heap.size := (Array.getElem?_eq_some_iff.1 HS2.out).1))
  refine bodyPost_end (results_none rfl _ _ _) rfl ⟨rfl, ?_, ?_⟩
  · unfold StX
    with_reducible first | refine st_of HS2.out ?_ | refine st_of (bk_store HS2.out _ _) ?_ | refine st_of (bk_store (bk_store HS2.out _ _) _ _) ?_ | refine st_of (bk_store (bk_store (bk_store HS2.out _ _) _ _) _ _) ?_ | refine st_of (bk_store (bk_store (bk_store (bk_store HS2.out _ _) _ _) _ _) _ _) ?_ | refine st_of (bk_store (bk_store (bk_store (bk_store (bk_store HS2.out _ _) _ _) _ _) _ _) _ _) ?_ | refine st_of (bk_drew HS2.out) ?_ | refine st_of (bk_drew (bk_store HS2.out _ _)) ?_ | refine st_of (bk_drew (bk_store (bk_store HS2.out _ _) _ _)) ?_ | refine st_of (bk_drew (bk_store (bk_store (bk_store HS2.out _ _) _ _) _ _)) ?_ | refine st_of (bk_drew (bk_store (bk_store (bk_store (bk_store HS2.out _ _) _ _) _ _) _ _)) ?_ | refine st_of (bk_drew (bk_store (bk_store (bk_store (bk_store (bk_store HS2.out _ _) _ _) _ _) _ _) _ _)) ?_ | refine st_of (bk_drew (bk_drew HS2.out)) ?_ | refine st_of (bk_drew (bk_drew (bk_store HS2.out _ _))) ?_ | refine st_of (bk_drew (bk_drew (bk_store (bk_store HS2.out _ _) _ _))) ?_ | refine st_of (bk_drew (bk_drew (bk_store (bk_store (bk_store HS2.out _ _) _ _) _ _))) ?_ | refine st_of (bk_drew (bk_drew (bk_store (bk_store (bk_store (bk_store HS2.out _ _) _ _) _ _) _ _))) ?_ | refine st_of (bk_drew (bk_drew (bk_store (bk_store (bk_store (bk_store (bk_store HS2.out _ _) _ _) _ _) _ _) _ _))) ?_
    rfl
  · repeat' (first | with_reducible exact HO2.out | with_reducible refine Only.drew ?_ | with_reducible refine only_set ?_ _ _)

set_option maxRecDepth 100000 in
set_option maxHeartbeats 8000000 in
theorem pTurn_4 {c : Cf} {C N K : Nat} (s : SzX c C N K) (A0 : Option Addr) (cp : Nat) (g : Nat) (f : Ds) (hpc : f.pc = 4) (q : FitX c C K f) (tt A B Cc : Nat) (hg : g ≠ 1) (w : World) (hP : Pow w) (hs : StX c (.slice A0 (topX c + 1 : Nat) cp) g f 0 0 false w) :
    Calls Tryd.prog 32 #[.pointer (some ⟨g, 0, none⟩), cvT tt A B Cc] w (TurnX c (.slice A0 (topX c + 1 : Nat) cp) g (behindX c f A B).1 (toldX (behindX c f A B)).1 (toldX (behindX c f A B)).2 (behindX c f A B).2 w) := by
  have _u1 := hg
  have _u2 := hP
  clear _u1 _u2
  have c2 := s.c2
  have k2 := s.k2
  have n2 := s.n2
  have t4 := topX_le c
  obtain ⟨qk5, qn, qp, qj, qh, qa, qb, qx, qy, qi1, qi6, qi14, qi11, qn15, qk4⟩ := q
  rw [bh_4 hpc]
  obtain ⟨X, hX⟩ : ∃ X, ({ f with pc := 23 }, false) = X := ⟨_, rfl⟩
  rw [hX]
  have HP := Lib.hid hP
  clear hP s
  unfold cvT at *
  unfold StX stO at hs
  have HS := Lib.hid hs
  have q0 := (Array.getElem?_eq_some_iff.1 hs).1
  obtain ⟨⟨r0, r1, r2, r3, r4, r5, r6, r7, r8, r9, r10, r11, r12, r13, r14, r15, r16, r17⟩, hf⟩ := cells18 hs
  clear hs
  obtain ⟨tg, k, seq, kind, a, b, pc, i, j, n, p, h, x, y⟩ := f
  simp only at hpc qk5 qn qp qj qh qa qb qx qy qi1 qi6 qi14 qi11 qn15 qk4 hX HS r4 r5 r6 r7 r8 r9 r10 r11 r12 r13 r14
  subst hX
  subst hpc
  have qk : ((4 : Nat) : Int) = 4 := rfl
  rw [qk] at *
  clear qk
  go_enter Tryd.func32, Tryd.ntmps32
  go_upto_region 1 with fail
  refine enter1 fun W hb g0 qq => ?_
  have HG := Lib.hid (blk_below HS.out hb)
  have HB := Lib.hid (Only.of_below (fun k => k = g) hb)
  have HPW := Lib.hid (HP.out.below hb)
  have hne : w.heap.size ≠ g := by omega
  have hG := HG.out
  clear r0 r1 r2 r3 r4 r5 r6 r7 r8 r9 r10 r11 r12 r13 r14 r15 r16 r17 hf hb
  obtain ⟨⟨r0, r1, r2, r3, r4, r5, r6, r7, r8, r9, r10, r11, r12, r13, r14, r15, r16, r17⟩, hf⟩ := cells18 hG
  clear hG
  have q1 : g < W.heap.size := by omega
  obtain ⟨u0, u1, u2, u3⟩ := cells4p g0
  clear g0
  go_wp2_with fail
  refine bodyPost_end (results_none rfl _ _ _) rfl ⟨rfl, ?_, ?_⟩
  · unfold StX
    with_reducible first | refine st_of HG.out ?_ | refine st_of (bk_store HG.out _ _) ?_ | refine st_of (bk_store (bk_store HG.out _ _) _ _) ?_ | refine st_of (bk_store (bk_store (bk_store HG.out _ _) _ _) _ _) ?_ | refine st_of (bk_store (bk_store (bk_store (bk_store HG.out _ _) _ _) _ _) _ _) ?_ | refine st_of (bk_store (bk_store (bk_store (bk_store (bk_store HG.out _ _) _ _) _ _) _ _) _ _) ?_ | refine st_of (bk_drew HG.out) ?_ | refine st_of (bk_drew (bk_store HG.out _ _)) ?_ | refine st_of (bk_drew (bk_store (bk_store HG.out _ _) _ _)) ?_ | refine st_of (bk_drew (bk_store (bk_store (bk_store HG.out _ _) _ _) _ _)) ?_ | refine st_of (bk_drew (bk_store (bk_store (bk_store (bk_store HG.out _ _) _ _) _ _) _ _)) ?_ | refine st_of (bk_drew (bk_store (bk_store (bk_store (bk_store (bk_store HG.out _ _) _ _) _ _) _ _) _ _)) ?_ | refine st_of (bk_drew (bk_drew HG.out)) ?_ | refine st_of (bk_drew (bk_drew (bk_store HG.out _ _))) ?_ | refine st_of (bk_drew (bk_drew (bk_store (bk_store HG.out _ _) _ _))) ?_ | refine st_of (bk_drew (bk_drew (bk_store (bk_store (bk_store HG.out _ _) _ _) _ _))) ?_ | refine st_of (bk_drew (bk_drew (bk_store (bk_store (bk_store (bk_store HG.out _ _) _ _) _ _) _ _))) ?_ | refine st_of (bk_drew (bk_drew (bk_store (bk_store (bk_store (bk_store (bk_store HG.out _ _) _ _) _ _) _ _) _ _))) ?_
    rfl
  · repeat' (first | with_reducible exact HB.out | with_reducible refine Only.drew ?_ | with_reducible refine only_set ?_ _ _)

set_option maxRecDepth 100000 in
set_option maxHeartbeats 8000000 in
theorem pTurn_5 {c : Cf} {C N K : Nat} (s : SzX c C N K) (A0 : Option Addr) (cp : Nat) (g : Nat) (f : Ds) (hpc : f.pc = 5) (q : FitX c C K f) (tt A B Cc : Nat) (hg : g ≠ 1) (w : World) (hP : Pow w) (hs : StX c (.slice A0 (topX c + 1 : Nat) cp) g f 0 0 false w) :
    Calls Tryd.prog 32 #[.pointer (some ⟨g, 0, none⟩), cvT tt A B Cc] w (TurnX c (.slice A0 (topX c + 1 : Nat) cp) g (behindX c f A B).1 (toldX (behindX c f A B)).1 (toldX (behindX c f A B)).2 (behindX c f A B).2 w) := by
  have _u1 := hg
  have _u2 := hP
  clear _u1 _u2
  have c2 := s.c2
  have k2 := s.k2
  have n2 := s.n2
  have t4 := topX_le c
  obtain ⟨qk5, qn, qp, qj, qh, qa, qb, qx, qy, qi1, qi6, qi14, qi11, qn15, qk4⟩ := q
  rw [bh_5 hpc]
  have HK := Lib.hid (fun W hs => pTakeX_any c (.slice A0 (topX c + 1 : Nat) cp) g f 0 0 false tt A B Cc W hs)
  try simp only [overX] at HK
  obtain ⟨X, hX⟩ : ∃ X, ({ overX f A B with pc := 6 }, false) = X := ⟨_, rfl⟩
  rw [hX]
  have HP := Lib.hid hP
  clear hP s
  unfold cvT at *
  unfold StX stO at hs
  have HS := Lib.hid hs
  have q0 := (Array.getElem?_eq_some_iff.1 hs).1
  obtain ⟨⟨r0, r1, r2, r3, r4, r5, r6, r7, r8, r9, r10, r11, r12, r13, r14, r15, r16, r17⟩, hf⟩ := cells18 hs
  clear hs
  obtain ⟨tg, k, seq, kind, a, b, pc, i, j, n, p, h, x, y⟩ := f
  simp only at hpc qk5 qn qp qj qh qa qb qx qy qi1 qi6 qi14 qi11 qn15 qk4 hX HS r4 r5 r6 r7 r8 r9 r10 r11 r12 r13 r14
  unfold overX at hX
  simp only at hX
  have hu : A % 4294967296 < 4294967296 := by omega
  have hv : B % 4294967296 < 4294967296 := by omega
  generalize A % 4294967296 = u at *
  generalize B % 4294967296 = v at *
  subst hX
  subst hpc
  have qk : ((5 : Nat) : Int) = 5 := rfl
  rw [qk] at *
  clear qk
  go_enter Tryd.func32, Tryd.ntmps32
  go_upto_region 1 with fail
  refine enter1 fun W hb g0 qq => ?_
  have HG := Lib.hid (blk_below HS.out hb)
  have HB := Lib.hid (Only.of_below (fun k => k = g) hb)
  have HPW := Lib.hid (HP.out.below hb)
  have hne : w.heap.size ≠ g := by omega
  have hG := HG.out
  clear r0 r1 r2 r3 r4 r5 r6 r7 r8 r9 r10 r11 r12 r13 r14 r15 r16 r17 hf hb
  obtain ⟨⟨r0, r1, r2, r3, r4, r5, r6, r7, r8, r9, r10, r11, r12, r13, r14, r15, r16, r17⟩, hf⟩ := cells18 hG
  clear hG
  have q1 : g < W.heap.size := by omega
  obtain ⟨u0, u1, u2, u3⟩ := cells4p g0
  clear g0
  go_wp2_with fail
  go_wp2_with (go_at_call 63; refine (HK.out _ (by unfold StX; (with_reducible first | refine st_of HG.out ?_ | refine st_of (bk_store HG.out _ _) ?_ | refine st_of (bk_store (bk_store HG.out _ _) _ _) ?_ | refine st_of (bk_store (bk_store (bk_store HG.out _ _) _ _) _ _) ?_ | refine st_of (bk_store (bk_store (bk_store (bk_store HG.out _ _) _ _) _ _) _ _) ?_ | refine st_of (bk_drew HG.out) ?_ | refine st_of (bk_drew (bk_store HG.out _ _)) ?_ | refine st_of (bk_drew (bk_store (bk_store HG.out _ _) _ _)) ?_ | refine st_of (bk_drew (bk_store (bk_store (bk_store HG.out _ _) _ _) _ _)) ?_ | refine st_of (bk_drew (bk_store (bk_store (bk_store (bk_store HG.out _ _) _ _) _ _) _ _)) ?_); rfl)).mono ?_; rintro e W1 ⟨rfl, h1, o1⟩; have HO1 := Lib.hid (Only.trans (C := fun k => k = g) (A := w) (by repeat' (first | with_reducible exact HB.out | with_reducible refine Only.drew ?_ | with_reducible refine only_set ?_ _ _)) o1); unfold StX stO at h1; have HS1 := Lib.hid h1; simp only at h1; obtain ⟨⟨s1_0, s1_1, s1_2, s1_3, s1_4, s1_5, s1_6, s1_7, s1_8, s1_9, s1_10, s1_11, s1_12, s1_13, s1_14, s1_15, s1_16, s1_17⟩, hf1⟩ := cells18 h1; clear h1 o1; have q1 : g < W1.heap.size := (Array.getElem?_eq_some_iff.1 HS1.out).1)
  refine bodyPost_end (results_none rfl _ _ _) rfl ⟨rfl, ?_, ?_⟩
  · unfold StX
    with_reducible first | refine st_of HS1.out ?_ | refine st_of (bk_store HS1.out _ _) ?_ | refine st_of (bk_store (bk_store HS1.out _ _) _ _) ?_ | refine st_of (bk_store (bk_store (bk_store HS1.out _ _) _ _) _ _) ?_ | refine st_of (bk_store (bk_store (bk_store (bk_store HS1.out _ _) _ _) _ _) _ _) ?_ | refine st_of (bk_store (bk_store (bk_store (bk_store (bk_store HS1.out _ _) _ _) _ _) _ _) _ _) ?_ | refine st_of (bk_drew HS1.out) ?_ | refine st_of (bk_drew (bk_store HS1.out _ _)) ?_ | refine st_of (bk_drew (bk_store (bk_store HS1.out _ _) _ _)) ?_ | refine st_of (bk_drew (bk_store (bk_store (bk_store HS1.out _ _) _ _) _ _)) ?_ | refine st_of (bk_drew (bk_store (bk_store (bk_store (bk_store HS1.out _ _) _ _) _ _) _ _)) ?_ | refine st_of (bk_drew (bk_store (bk_store (bk_store (bk_store (bk_store HS1.out _ _) _ _) _ _) _ _) _ _)) ?_ | refine st_of (bk_drew (bk_drew HS1.out)) ?_ | refine st_of (bk_drew (bk_drew (bk_store HS1.out _ _))) ?_ | refine st_of (bk_drew (bk_drew (bk_store (bk_store HS1.out _ _) _ _))) ?_ | refine st_of (bk_drew (bk_drew (bk_store (bk_store (bk_store HS1.out _ _) _ _) _ _))) ?_ | refine st_of (bk_drew (bk_drew (bk_store (bk_store (bk_store (bk_store HS1.out _ _) _ _) _ _) _ _))) ?_ | refine st_of (bk_drew (bk_drew (bk_store (bk_store (bk_store (bk_store (bk_store HS1.out _ _) _ _) _ _) _ _) _ _))) ?_
    rfl
  · repeat' (first | with_reducible exact HO1.out | with_reducible refine Only.drew ?_ | with_reducible refine only_set ?_ _ _)

set_option maxRecDepth 100000 in
set_option maxHeartbeats 8000000 in
theorem pTurn_6 {c : Cf} {C N K : Nat} (s : SzX c C N K) (A0 : Option Addr) (cp : Nat) (g : Nat) (f : Ds) (hpc : f.pc = 6) (q : FitX c C K f) (tt A B Cc : Nat) (hg : g ≠ 1) (w : World) (hP : Pow w) (hs : StX c (.slice A0 (topX c + 1 : Nat) cp) g f 0 0 false w) :
    Calls Tryd.prog 32 #[.pointer (some ⟨g, 0, none⟩), cvT tt A B Cc] w (TurnX c (.slice A0 (topX c + 1 : Nat) cp) g (behindX c f A B).1 (toldX (behindX c f A B)).1 (toldX (behindX c f A B)).2 (behindX c f A B).2 w) := by
  have _u1 := hg
  have _u2 := hP
  clear _u1 _u2
  have c2 := s.c2
  have k2 := s.k2
  have n2 := s.n2
  have t4 := topX_le c
  obtain ⟨qk5, qn, qp, qj, qh, qa, qb, qx, qy, qi1, qi6, qi14, qi11, qn15, qk4⟩ := q
  rw [bh_6 hpc]
  have HC := Lib.hid (fun W hs => pMoreRoom_any c (.slice A0 (topX c + 1 : Nat) cp) g f 0 0 false (qi6 hpc).1 (qi6 hpc).2 W hs)
  try simp only at HC
  obtain ⟨X, hX⟩ : ∃ X, (if f.i - 1 ≤ f.p then ({ f with i := f.i - 1, pc := 7 }, false) else ({ f with i := f.i - 1, pc := 5 }, false)) = X := ⟨_, rfl⟩
  rw [hX]
  have HP := Lib.hid hP
  clear hP s
  unfold cvT at *
  unfold StX stO at hs
  have HS := Lib.hid hs
  have q0 := (Array.getElem?_eq_some_iff.1 hs).1
  obtain ⟨⟨r0, r1, r2, r3, r4, r5, r6, r7, r8, r9, r10, r11, r12, r13, r14, r15, r16, r17⟩, hf⟩ := cells18 hs
  clear hs
  obtain ⟨tg, k, seq, kind, a, b, pc, i, j, n, p, h, x, y⟩ := f
  simp only at hpc qk5 qn qp qj qh qa qb qx qy qi1 qi6 qi14 qi11 qn15 qk4 hX HS r4 r5 r6 r7 r8 r9 r10 r11 r12 r13 r14
  by_cases e : i - 1 ≤ p
  · rw [if_pos e] at hX
    simp only [if_pos e] at HC
    subst hX
    clear e
    subst hpc
    have qk : ((6 : Nat) : Int) = 6 := rfl
    rw [qk] at *
    clear qk
    go_enter Tryd.func32, Tryd.ntmps32
    go_upto_region 1 with fail
    refine enter1 fun W hb g0 qq => ?_
    have HG := Lib.hid (blk_below HS.out hb)
    have HB := Lib.hid (Only.of_below (fun k => k = g) hb)
    have HPW := Lib.hid (HP.out.below hb)
    have hne : w.heap.size ≠ g := by omega
    have hG := HG.out
    clear r0 r1 r2 r3 r4 r5 r6 r7 r8 r9 r10 r11 r12 r13 r14 r15 r16 r17 hf hb
    obtain ⟨⟨r0, r1, r2, r3, r4, r5, r6, r7, r8, r9, r10, r11, r12, r13, r14, r15, r16, r17⟩, hf⟩ := cells18 hG
    clear hG
    have q1 : g < W.heap.size := by omega
    obtain ⟨u0, u1, u2, u3⟩ := cells4p g0
    clear g0
    go_wp2_with fail
    go_wp2_with (go_at_call 65; refine (HC.out _ (by unfold StX; (with_reducible first | refine st_of HG.out ?_ | refine st_of (bk_store HG.out _ _) ?_ | refine st_of (bk_store (bk_store HG.out _ _) _ _) ?_ | refine st_of (bk_store (bk_store (bk_store HG.out _ _) _ _) _ _) ?_ | refine st_of (bk_store (bk_store (bk_store (bk_store HG.out _ _) _ _) _ _) _ _) ?_ | refine st_of (bk_drew HG.out) ?_ | refine st_of (bk_drew (bk_store HG.out _ _)) ?_ | refine st_of (bk_drew (bk_store (bk_store HG.out _ _) _ _)) ?_ | refine st_of (bk_drew (bk_store (bk_store (bk_store HG.out _ _) _ _) _ _)) ?_ | refine st_of (bk_drew (bk_store (bk_store (bk_store (bk_store HG.out _ _) _ _) _ _) _ _)) ?_); rfl)).mono ?_; rintro e W1 ⟨rfl, h1, o1⟩; have HO1 := Lib.hid (Only.trans (C := fun k => k = g) (A := w) (by repeat' (first | with_reducible exact HB.out | with_reducible refine Only.drew ?_ | with_reducible refine only_set ?_ _ _)) o1); have HT1 := Lib.hid h1; clear h1 o1)
    refine bodyPost_end (results_none rfl _ _ _) rfl ⟨rfl, ?_, ?_⟩
    · exact HT1.out
    · exact HO1.out
  · rw [if_neg e] at hX
    simp only [if_neg e] at HC
    subst hX
    clear e
    subst hpc
    have qk : ((6 : Nat) : Int) = 6 := rfl
    rw [qk] at *
    clear qk
    go_enter Tryd.func32, Tryd.ntmps32
    go_upto_region 1 with fail
    refine enter1 fun W hb g0 qq => ?_
    have HG := Lib.hid (blk_below HS.out hb)
    have HB := Lib.hid (Only.of_below (fun k => k = g) hb)
    have HPW := Lib.hid (HP.out.below hb)
    have hne : w.heap.size ≠ g := by omega
    have hG := HG.out
    clear r0 r1 r2 r3 r4 r5 r6 r7 r8 r9 r10 r11 r12 r13 r14 r15 r16 r17 hf hb
    obtain ⟨⟨r0, r1, r2, r3, r4, r5, r6, r7, r8, r9, r10, r11, r12, r13, r14, r15, r16, r17⟩, hf⟩ := cells18 hG
    clear hG
    have q1 : g < W.heap.size := by omega
    obtain ⟨u0, u1, u2, u3⟩ := cells4p g0
    clear g0
    go_wp2_with fail
    go_wp2_with (go_at_call 65; refine (HC.out _ (by unfold StX; (with_reducible first | refine st_of HG.out ?_ | refine st_of (bk_store HG.out _ _) ?_ | refine st_of (bk_store (bk_store HG.out _ _) _ _) ?_ | refine st_of (bk_store (bk_store (bk_store HG.out _ _) _ _) _ _) ?_ | refine st_of (bk_store (bk_store (bk_store (bk_store HG.out _ _) _ _) _ _) _ _) ?_ | refine st_of (bk_drew HG.out) ?_ | refine st_of (bk_drew (bk_store HG.out _ _)) ?_ | refine st_of (bk_drew (bk_store (bk_store HG.out _ _) _ _)) ?_ | refine st_of (bk_drew (bk_store (bk_store (bk_store HG.out _ _) _ _) _ _)) ?_ | refine st_of (bk_drew (bk_store (bk_store (bk_store (bk_store HG.out _ _) _ _) _ _) _ _)) ?_); rfl)).mono ?_; rintro e W1 ⟨rfl, h1, o1⟩; have HO1 := Lib.hid (Only.trans (C := fun k => k = g) (A := w) (by repeat' (first | with_reducible exact HB.out | with_reducible refine Only.drew ?_ | with_reducible refine only_set ?_ _ _)) o1); have HT1 := Lib.hid h1; clear h1 o1)
    refine bodyPost_end (results_none rfl _ _ _) rfl ⟨rfl, ?_, ?_⟩
    · exact HT1.out
    · exact HO1.out

set_option maxRecDepth 100000 in
set_option maxHeartbeats 8000000 in
theorem pTurn_7 {c : Cf} {C N K : Nat} (s : SzX c C N K) (A0 : Option Addr) (cp : Nat) (g : Nat) (f : Ds) (hpc : f.pc = 7) (q : FitX c C K f) (tt A B Cc : Nat) (hg : g ≠ 1) (w : World) (hP : Pow w) (hs : StX c (.slice A0 (topX c + 1 : Nat) cp) g f 0 0 false w) :
    Calls Tryd.prog 32 #[.pointer (some ⟨g, 0, none⟩), cvT tt A B Cc] w (TurnX c (.slice A0 (topX c + 1 : Nat) cp) g (behindX c f A B).1 (toldX (behindX c f A B)).1 (toldX (behindX c f A B)).2 (behindX c f A B).2 w) := by
  have _u1 := hg
  have _u2 := hP
  clear _u1 _u2
  have c2 := s.c2
  have k2 := s.k2
  have n2 := s.n2
  have t4 := topX_le c
  obtain ⟨qk5, qn, qp, qj, qh, qa, qb, qx, qy, qi1, qi6, qi14, qi11, qn15, qk4⟩ := q
  rw [bh_7 hpc]
  obtain ⟨X, hX⟩ : ∃ X, ({ f with n := f.n + 1, pc := 8 }, false) = X := ⟨_, rfl⟩
  rw [hX]
  have HP := Lib.hid hP
  clear hP s
  unfold cvT at *
  unfold StX stO at hs
  have HS := Lib.hid hs
  have q0 := (Array.getElem?_eq_some_iff.1 hs).1
  obtain ⟨⟨r0, r1, r2, r3, r4, r5, r6, r7, r8, r9, r10, r11, r12, r13, r14, r15, r16, r17⟩, hf⟩ := cells18 hs
  clear hs
  obtain ⟨tg, k, seq, kind, a, b, pc, i, j, n, p, h, x, y⟩ := f
  simp only at hpc qk5 qn qp qj qh qa qb qx qy qi1 qi6 qi14 qi11 qn15 qk4 hX HS r4 r5 r6 r7 r8 r9 r10 r11 r12 r13 r14
  subst hX
  have p1 : IntKind.u8.wrap ((n : Int) + 1) = (n : Int) + 1 := by rw [IntKind.wrap_u8]; omega
  subst hpc
  have qk : ((7 : Nat) : Int) = 7 := rfl
  rw [qk] at *
  clear qk
  go_enter Tryd.func32, Tryd.ntmps32
  go_upto_region 1 with fail
  refine enter1 fun W hb g0 qq => ?_
  have HG := Lib.hid (blk_below HS.out hb)
  have HB := Lib.hid (Only.of_below (fun k => k = g) hb)
  have HPW := Lib.hid (HP.out.below hb)
  have hne : w.heap.size ≠ g := by omega
  have hG := HG.out
  clear r0 r1 r2 r3 r4 r5 r6 r7 r8 r9 r10 r11 r12 r13 r14 r15 r16 r17 hf hb
  obtain ⟨⟨r0, r1, r2, r3, r4, r5, r6, r7, r8, r9, r10, r11, r12, r13, r14, r15, r16, r17⟩, hf⟩ := cells18 hG
  clear hG
  have q1 : g < W.heap.size := by omega
  obtain ⟨u0, u1, u2, u3⟩ := cells4p g0
  clear g0
  go_wp2_with fail
  refine bodyPost_end (results_none rfl _ _ _) rfl ⟨rfl, ?_, ?_⟩
  · unfold StX
    with_reducible first | refine st_of HG.out ?_ | refine st_of (bk_store HG.out _ _) ?_ | refine st_of (bk_store (bk_store HG.out _ _) _ _) ?_ | refine st_of (bk_store (bk_store (bk_store HG.out _ _) _ _) _ _) ?_ | refine st_of (bk_store (bk_store (bk_store (bk_store HG.out _ _) _ _) _ _) _ _) ?_ | refine st_of (bk_store (bk_store (bk_store (bk_store (bk_store HG.out _ _) _ _) _ _) _ _) _ _) ?_ | refine st_of (bk_drew HG.out) ?_ | refine st_of (bk_drew (bk_store HG.out _ _)) ?_ | refine st_of (bk_drew (bk_store (bk_store HG.out _ _) _ _)) ?_ | refine st_of (bk_drew (bk_store (bk_store (bk_store HG.out _ _) _ _) _ _)) ?_ | refine st_of (bk_drew (bk_store (bk_store (bk_store (bk_store HG.out _ _) _ _) _ _) _ _)) ?_ | refine st_of (bk_drew (bk_store (bk_store (bk_store (bk_store (bk_store HG.out _ _) _ _) _ _) _ _) _ _)) ?_ | refine st_of (bk_drew (bk_drew HG.out)) ?_ | refine st_of (bk_drew (bk_drew (bk_store HG.out _ _))) ?_ | refine st_of (bk_drew (bk_drew (bk_store (bk_store HG.out _ _) _ _))) ?_ | refine st_of (bk_drew (bk_drew (bk_store (bk_store (bk_store HG.out _ _) _ _) _ _))) ?_ | refine st_of (bk_drew (bk_drew (bk_store (bk_store (bk_store (bk_store HG.out _ _) _ _) _ _) _ _))) ?_ | refine st_of (bk_drew (bk_drew (bk_store (bk_store (bk_store (bk_store (bk_store HG.out _ _) _ _) _ _) _ _) _ _))) ?_
    rfl
  · repeat' (first | with_reducible exact HB.out | with_reducible refine Only.drew ?_ | with_reducible refine only_set ?_ _ _)

set_option maxRecDepth 100000 in
set_option maxHeartbeats 8000000 in
theorem pTurn_8 {c : Cf} {C N K : Nat} (s : SzX c C N K) (A0 : Option Addr) (cp : Nat) (g : Nat) (f : Ds) (hpc : f.pc = 8) (q : FitX c C K f) (tt A B Cc : Nat) (hg : g ≠ 1) (w : World) (hP : Pow w) (hs : StX c (.slice A0 (topX c + 1 : Nat) cp) g f 0 0 false w) :
    Calls Tryd.prog 32 #[.pointer (some ⟨g, 0, none⟩), cvT tt A B Cc] w (TurnX c (.slice A0 (topX c + 1 : Nat) cp) g (behindX c f A B).1 (toldX (behindX c f A B)).1 (toldX (behindX c f A B)).2 (behindX c f A B).2 w) := by
  have _u1 := hg
  have _u2 := hP
  clear _u1 _u2
  have c2 := s.c2
  have k2 := s.k2
  have n2 := s.n2
  have t4 := topX_le c
  obtain ⟨qk5, qn, qp, qj, qh, qa, qb, qx, qy, qi1, qi6, qi14, qi11, qn15, qk4⟩ := q
  rw [bh_8 hpc]
  have HC := Lib.hid (fun W hP hs => pGoUpX_any s A0 cp g { f with h := 0 } 0 0 false qn (Nat.zero_le _) (by show f.p < 256; omega) (qk4 (by omega)) hg W hP hs)
  try simp only at HC
  obtain ⟨X, hX⟩ : ∃ X, (climbX c { f with h := 0 }, false) = X := ⟨_, rfl⟩
  rw [hX]
  have HP := Lib.hid hP
  clear hP s
  unfold cvT at *
  unfold StX stO at hs
  have HS := Lib.hid hs
  have q0 := (Array.getElem?_eq_some_iff.1 hs).1
  obtain ⟨⟨r0, r1, r2, r3, r4, r5, r6, r7, r8, r9, r10, r11, r12, r13, r14, r15, r16, r17⟩, hf⟩ := cells18 hs
  clear hs
  obtain ⟨tg, k, seq, kind, a, b, pc, i, j, n, p, h, x, y⟩ := f
  simp only at hpc qk5 qn qp qj qh qa qb qx qy qi1 qi6 qi14 qi11 qn15 qk4 hX HS r4 r5 r6 r7 r8 r9 r10 r11 r12 r13 r14
  subst hX
  subst hpc
  have qk : ((8 : Nat) : Int) = 8 := rfl
  rw [qk] at *
  clear qk
  go_enter Tryd.func32, Tryd.ntmps32
  go_upto_region 1 with fail
  refine enter1 fun W hb g0 qq => ?_
  have HG := Lib.hid (blk_below HS.out hb)
  have HB := Lib.hid (Only.of_below (fun k => k = g) hb)
  have HPW := Lib.hid (HP.out.below hb)
  have hne : w.heap.size ≠ g := by omega
  have hG := HG.out
  clear r0 r1 r2 r3 r4 r5 r6 r7 r8 r9 r10 r11 r12 r13 r14 r15 r16 r17 hf hb
  obtain ⟨⟨r0, r1, r2, r3, r4, r5, r6, r7, r8, r9, r10, r11, r12, r13, r14, r15, r16, r17⟩, hf⟩ := cells18 hG
  clear hG
  have q1 : g < W.heap.size := by omega
  obtain ⟨u0, u1, u2, u3⟩ := cells4p g0
  clear g0
  go_wp2_with fail
  go_wp2_with (go_at_call 66; refine (HC.out _ (by first | with_reducible exact HPW.out | with_reducible exact HPW.out.drew | exact (HPW.out.only (only_set (Only.refl _ _) _ _) hg)) (by unfold StX; (with_reducible first | refine st_of HG.out ?_ | refine st_of (bk_store HG.out _ _) ?_ | refine st_of (bk_store (bk_store HG.out _ _) _ _) ?_ | refine st_of (bk_store (bk_store (bk_store HG.out _ _) _ _) _ _) ?_ | refine st_of (bk_store (bk_store (bk_store (bk_store HG.out _ _) _ _) _ _) _ _) ?_ | refine st_of (bk_drew HG.out) ?_ | refine st_of (bk_drew (bk_store HG.out _ _)) ?_ | refine st_of (bk_drew (bk_store (bk_store HG.out _ _) _ _)) ?_ | refine st_of (bk_drew (bk_store (bk_store (bk_store HG.out _ _) _ _) _ _)) ?_ | refine st_of (bk_drew (bk_store (bk_store (bk_store (bk_store HG.out _ _) _ _) _ _) _ _)) ?_); rfl)).mono ?_; rintro e W1 ⟨rfl, h1, o1⟩; have HO1 := Lib.hid (Only.trans (C := fun k => k = g) (A := w) (by repeat' (first | with_reducible exact HB.out | with_reducible refine Only.drew ?_ | with_reducible refine only_set ?_ _ _)) o1); have HT1 := Lib.hid h1; clear h1 o1)
  refine bodyPost_end (results_none rfl _ _ _) rfl ⟨rfl, ?_, ?_⟩
  · exact HT1.out
  · exact HO1.out

end Go.Proofs.YtmkehailohgebaaDoor
