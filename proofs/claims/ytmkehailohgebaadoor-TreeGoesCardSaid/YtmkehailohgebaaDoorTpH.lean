/- The program of an index, the program's own: a step is turned, the rest of the Pcs. -/
import Derived.Test.YtmkehailohgebaaDoorTpG
import Derived.BigRegion
import Derived.BigQuiet
import Derived.Deep.DeepCutAuto
namespace Go.Proofs.YtmkehailohgebaaDoor
open Go.RowKit Go.Lib Pt Opn

set_option maxRecDepth 100000 in
set_option maxHeartbeats 8000000 in
theorem pTurn_9 {c : Cf} {C N K : Nat} (s : SzX c C N K) (A0 : Option Addr) (cp : Nat) (g : Nat) (f : Ds) (hpc : f.pc = 9) (q : FitX c C K f) (tt A B Cc : Nat) (hg : g ≠ 1) (w : World) (hP : Pow w) (hs : StX c (.slice A0 (topX c + 1 : Nat) cp) g f 0 0 false w) :
    Calls Tryd.prog 32 #[.pointer (some ⟨g, 0, none⟩), cvT tt A B Cc] w (TurnX c (.slice A0 (topX c + 1 : Nat) cp) g (behindX c f A B).1 (toldX (behindX c f A B)).1 (toldX (behindX c f A B)).2 (behindX c f A B).2 w) := by
  have _u1 := hg
  have _u2 := hP
  clear _u1 _u2
  have c2 := s.c2
  have k2 := s.k2
  have n2 := s.n2
  have t4 := topX_le c
  obtain ⟨qk5, qn, qp, qj, qh, qa, qb, qx, qy, qi1, qi6, qi14, qi11, qn15, qk4⟩ := q
  rw [bh_9 hpc]
  have HK := Lib.hid (fun W hs => pTakeX_any c (.slice A0 (topX c + 1 : Nat) cp) g f 0 0 false tt A B Cc W hs)
  try simp only [overX] at HK
  obtain ⟨X, hX⟩ : ∃ X, ({ overX f A B with pc := 11 }, false) = X := ⟨_, rfl⟩
  rw [hX]
  have HP := Lib.hid hP
  clear hP s
  unfold cvT at *
  unfold StX stO at hs
  have HS := Lib.hid hs
  have q0 := (Array.getElem?_eq_some_iff.1 hs).1
  obtain ⟨⟨r0, r1, r2, r3, r4, r5, r6, r7, r8, r9, r10, r11, r12, r13, r14, r15, r16, r17⟩, hf⟩ := cells18 hs
  clear hs
  obtain ⟨tg, k, seq, kind, a, b, pc, i, j, n, p, h, x, y⟩ := f
  simp only at hpc qk5 qn qp qj qh qa qb qx qy qi1 qi6 qi14 qi11 qn15 qk4 hX HS r4 r5 r6 r7 r8 r9 r10 r11 r12 r13 r14
  unfold overX at hX
  simp only at hX
  have hu : A % 4294967296 < 4294967296 := by omega
  have hv : B % 4294967296 < 4294967296 := by omega
  generalize A % 4294967296 = u at *
  generalize B % 4294967296 = v at *
  subst hX
  subst hpc
  have qk : ((9 : Nat) : Int) = 9 := rfl
  rw [qk] at *
  clear qk
  go_enter Tryd.func32, Tryd.ntmps32
  go_upto_region 1 with fail
  refine enter1 fun W hb g0 qq => ?_
  have HG := Lib.hid (blk_below HS.out hb)
  have HB := Lib.hid (Only.of_below (fun k => k = g) hb)
  have HPW := Lib.hid (HP.out.below hb)
  have hne : w.heap.size ≠ g := by omega
  have hG := HG.out
  clear r0 r1 r2 r3 r4 r5 r6 r7 r8 r9 r10 r11 r12 r13 r14 r15 r16 r17 hf hb
  obtain ⟨⟨r0, r1, r2, r3, r4, r5, r6, r7, r8, r9, r10, r11, r12, r13, r14, r15, r16, r17⟩, hf⟩ := cells18 hG
  clear hG
  have q1 : g < W.heap.size := by omega
  obtain ⟨u0, u1, u2, u3⟩ := cells4p g0
  clear g0
  go_wp2_with fail
  go_wp2_with (go_at_call 63; refine (HK.out _ (by unfold StX; (with_reducible first | refine st_of HG.out ?_ | refine st_of (bk_store HG.out _ _) ?_ | refine st_of (bk_store (bk_store HG.out _ _) _ _) ?_ | refine st_of (bk_store (bk_store (bk_store HG.out _ _) _ _) _ _) ?_ | refine st_of (bk_store (bk_store (bk_store (bk_store HG.out _ _) _ _) _ _) _ _) ?_ | refine st_of (bk_drew HG.out) ?_ | refine st_of (bk_drew (bk_store HG.out _ _)) ?_ | refine st_of (bk_drew (bk_store (bk_store HG.out _ _) _ _)) ?_ | refine st_of (bk_drew (bk_store (bk_store (bk_store HG.out _ _) _ _) _ _)) ?_ | refine st_of (bk_drew (bk_store (bk_store (bk_store (bk_store HG.out _ _) _ _) _ _) _ _)) ?_); rfl)).mono ?_; rintro e W1 ⟨rfl, h1, o1⟩; have HO1 := Lib.hid (Only.trans (C := fun k => k = g) (A := w) (by repeat' (first | with_reducible exact HB.out | with_reducible refine Only.drew ?_ | with_reducible refine only_set ?_ _ _)) o1); unfold StX stO at h1; have HS1 := Lib.hid h1; simp only at h1; obtain ⟨⟨s1_0, s1_1, s1_2, s1_3, s1_4, s1_5, s1_6, s1_7, s1_8, s1_9, s1_10, s1_11, s1_12, s1_13, s1_14, s1_15, s1_16, s1_17⟩, hf1⟩ := cells18 h1; clear h1 o1; have q1 : g < W1.heap.size := (Array.getElem?_eq_some_iff.1 HS1.out).1)
  refine bodyPost_end (results_none rfl _ _ _) rfl ⟨rfl, ?_, ?_⟩
  · unfold StX
    with_reducible first | refine st_of HS1.out ?_ | refine st_of (bk_store HS1.out _ _) ?_ | refine st_of (bk_store (bk_store HS1.out _ _) _ _) ?_ | refine st_of (bk_store (bk_store (bk_store HS1.out _ _) _ _) _ _) ?_ | refine st_of (bk_store (bk_store (bk_store (bk_store HS1.out _ _) _ _) _ _) _ _) ?_ | refine st_of (bk_store (bk_store (bk_store (bk_store (bk_store HS1.out _ _) _ _) _ _) _ _) _ _) ?_ | refine st_of (bk_drew HS1.out) ?_ | refine st_of (bk_drew (bk_store HS1.out _ _)) ?_ | refine st_of (bk_drew (bk_store (bk_store HS1.out _ _) _ _)) ?_ | refine st_of (bk_drew (bk_store (bk_store (bk_store HS1.out _ _) _ _) _ _)) ?_ | refine st_of (bk_drew (bk_store (bk_store (bk_store (bk_store HS1.out _ _) _ _) _ _) _ _)) ?_ | refine st_of (bk_drew (bk_store (bk_store (bk_store (bk_store (bk_store HS1.out _ _) _ _) _ _) _ _) _ _)) ?_ | refine st_of (bk_drew (bk_drew HS1.out)) ?_ | refine st_of (bk_drew (bk_drew (bk_store HS1.out _ _))) ?_ | refine st_of (bk_drew (bk_drew (bk_store (bk_store HS1.out _ _) _ _))) ?_ | refine st_of (bk_drew (bk_drew (bk_store (bk_store (bk_store HS1.out _ _) _ _) _ _))) ?_ | refine st_of (bk_drew (bk_drew (bk_store (bk_store (bk_store (bk_store HS1.out _ _) _ _) _ _) _ _))) ?_ | refine st_of (bk_drew (bk_drew (bk_store (bk_store (bk_store (bk_store (bk_store HS1.out _ _) _ _) _ _) _ _) _ _))) ?_
    rfl
  · repeat' (first | with_reducible exact HO1.out | with_reducible refine Only.drew ?_ | with_reducible refine only_set ?_ _ _)

set_option maxRecDepth 100000 in
set_option maxHeartbeats 8000000 in
theorem pTurn_11 {c : Cf} {C N K : Nat} (s : SzX c C N K) (A0 : Option Addr) (cp : Nat) (g : Nat) (f : Ds) (hpc : f.pc = 11) (q : FitX c C K f) (tt A B Cc : Nat) (hg : g ≠ 1) (w : World) (hP : Pow w) (hs : StX c (.slice A0 (topX c + 1 : Nat) cp) g f 0 0 false w) :
    Calls Tryd.prog 32 #[.pointer (some ⟨g, 0, none⟩), cvT tt A B Cc] w (TurnX c (.slice A0 (topX c + 1 : Nat) cp) g (behindX c f A B).1 (toldX (behindX c f A B)).1 (toldX (behindX c f A B)).2 (behindX c f A B).2 w) := by
  have _u1 := hg
  have _u2 := hP
  clear _u1 _u2
  have c2 := s.c2
  have k2 := s.k2
  have n2 := s.n2
  have t4 := topX_le c
  obtain ⟨qk5, qn, qp, qj, qh, qa, qb, qx, qy, qi1, qi6, qi14, qi11, qn15, qk4⟩ := q
  rw [bh_11 hpc]
  rw [stays_up]
  have HC := Lib.hid (fun W hP hs => pStayUpX_any s A0 cp g { f with i := f.i + 1 } 0 0 false qn qh (by have := qi11 hpc; simp only; omega) (by show f.p < 256; omega) (qk4 (by omega)) hg W hP hs)
  obtain ⟨R, hR⟩ : ∃ R, (if (staysX c { f with i := f.i + 1 }).2 = true then (staysX c { f with i := f.i + 1 }).1 else climbX c { f with i := f.i + 1 }) = R := ⟨_, rfl⟩
  rw [hR] at HC ⊢
  clear hR
  try simp only at HC
  obtain ⟨X, hX⟩ : ∃ X, (R, false) = X := ⟨_, rfl⟩
  rw [hX]
  have HP := Lib.hid hP
  clear hP s
  unfold cvT at *
  unfold StX stO at hs
  have HS := Lib.hid hs
  have q0 := (Array.getElem?_eq_some_iff.1 hs).1
  obtain ⟨⟨r0, r1, r2, r3, r4, r5, r6, r7, r8, r9, r10, r11, r12, r13, r14, r15, r16, r17⟩, hf⟩ := cells18 hs
  clear hs
  obtain ⟨tg, k, seq, kind, a, b, pc, i, j, n, p, h, x, y⟩ := f
  simp only at hpc qk5 qn qp qj qh qa qb qx qy qi1 qi6 qi14 qi11 qn15 qk4 hX HS r4 r5 r6 r7 r8 r9 r10 r11 r12 r13 r14
  subst hX
  have hi := qi11 hpc
  have p1 : IntKind.u8.wrap ((i : Int) + 1) = (i : Int) + 1 := by rw [IntKind.wrap_u8]; omega
  subst hpc
  have qk : ((11 : Nat) : Int) = 11 := rfl
  rw [qk] at *
  clear qk
  go_enter Tryd.func32, Tryd.ntmps32
  go_upto_region 1 with fail
  refine enter1 fun W hb g0 qq => ?_
  have HG := Lib.hid (blk_below HS.out hb)
  have HB := Lib.hid (Only.of_below (fun k => k = g) hb)
  have HPW := Lib.hid (HP.out.below hb)
  have hne : w.heap.size ≠ g := by omega
  have hG := HG.out
  clear r0 r1 r2 r3 r4 r5 r6 r7 r8 r9 r10 r11 r12 r13 r14 r15 r16 r17 hf hb
  obtain ⟨⟨r0, r1, r2, r3, r4, r5, r6, r7, r8, r9, r10, r11, r12, r13, r14, r15, r16, r17⟩, hf⟩ := cells18 hG
  clear hG
  have q1 : g < W.heap.size := by omega
  obtain ⟨u0, u1, u2, u3⟩ := cells4p g0
  clear g0
  go_wp2_with fail
  go_wp2_with (go_at_call 67; refine (HC.out _ (by first | with_reducible exact HPW.out | with_reducible exact HPW.out.drew | exact (HPW.out.only (only_set (Only.refl _ _) _ _) hg)) (by unfold StX; (with_reducible first | refine st_of HG.out ?_ | refine st_of (bk_store HG.out _ _) ?_ | refine st_of (bk_store (bk_store HG.out _ _) _ _) ?_ | refine st_of (bk_store (bk_store (bk_store HG.out _ _) _ _) _ _) ?_ | refine st_of (bk_store (bk_store (bk_store (bk_store HG.out _ _) _ _) _ _) _ _) ?_ | refine st_of (bk_drew HG.out) ?_ | refine st_of (bk_drew (bk_store HG.out _ _)) ?_ | refine st_of (bk_drew (bk_store (bk_store HG.out _ _) _ _)) ?_ | refine st_of (bk_drew (bk_store (bk_store (bk_store HG.out _ _) _ _) _ _)) ?_ | refine st_of (bk_drew (bk_store (bk_store (bk_store (bk_store HG.out _ _) _ _) _ _) _ _)) ?_); rfl)).mono ?_; rintro e W1 ⟨rfl, h1, o1⟩; have HO1 := Lib.hid (Only.trans (C := fun k => k = g) (A := w) (by repeat' (first | with_reducible exact HB.out | with_reducible refine Only.drew ?_ | with_reducible refine only_set ?_ _ _)) o1); have HT1 := Lib.hid h1; clear h1 o1)
  refine bodyPost_end (results_none rfl _ _ _) rfl ⟨rfl, ?_, ?_⟩
  · exact HT1.out
  · exact HO1.out

set_option maxRecDepth 100000 in
set_option maxHeartbeats 8000000 in
theorem pTurn_12 {c : Cf} {C N K : Nat} (s : SzX c C N K) (A0 : Option Addr) (cp : Nat) (g : Nat) (f : Ds) (hpc : f.pc = 12) (q : FitX c C K f) (tt A B Cc : Nat) (hg : g ≠ 1) (w : World) (hP : Pow w) (hs : StX c (.slice A0 (topX c + 1 : Nat) cp) g f 0 0 false w) :
    Calls Tryd.prog 32 #[.pointer (some ⟨g, 0, none⟩), cvT tt A B Cc] w (TurnX c (.slice A0 (topX c + 1 : Nat) cp) g (behindX c f A B).1 (toldX (behindX c f A B)).1 (toldX (behindX c f A B)).2 (behindX c f A B).2 w) := by
  have _u1 := hg
  have _u2 := hP
  clear _u1 _u2
  have c2 := s.c2
  have k2 := s.k2
  have n2 := s.n2
  have t4 := topX_le c
  obtain ⟨qk5, qn, qp, qj, qh, qa, qb, qx, qy, qi1, qi6, qi14, qi11, qn15, qk4⟩ := q
  rw [bh_12 hpc]
  have HC := Lib.hid (fun W hP hs => pGoUpX_any s A0 cp g f 0 0 false qn qh (by omega) (qk4 (by omega)) hg W hP hs)
  try simp only at HC
  obtain ⟨X, hX⟩ : ∃ X, (climbX c f, false) = X := ⟨_, rfl⟩
  rw [hX]
  have HP := Lib.hid hP
  clear hP s
  unfold cvT at *
  unfold StX stO at hs
  have HS := Lib.hid hs
  have q0 := (Array.getElem?_eq_some_iff.1 hs).1
  obtain ⟨⟨r0, r1, r2, r3, r4, r5, r6, r7, r8, r9, r10, r11, r12, r13, r14, r15, r16, r17⟩, hf⟩ := cells18 hs
  clear hs
  obtain ⟨tg, k, seq, kind, a, b, pc, i, j, n, p, h, x, y⟩ := f
  simp only at hpc qk5 qn qp qj qh qa qb qx qy qi1 qi6 qi14 qi11 qn15 qk4 hX HS r4 r5 r6 r7 r8 r9 r10 r11 r12 r13 r14
  subst hX
  subst hpc
  have qk : ((12 : Nat) : Int) = 12 := rfl
  rw [qk] at *
  clear qk
  go_enter Tryd.func32, Tryd.ntmps32
  go_upto_region 1 with fail
  refine enter1 fun W hb g0 qq => ?_
  have HG := Lib.hid (blk_below HS.out hb)
  have HB := Lib.hid (Only.of_below (fun k => k = g) hb)
  have HPW := Lib.hid (HP.out.below hb)
  have hne : w.heap.size ≠ g := by omega
  have hG := HG.out
  clear r0 r1 r2 r3 r4 r5 r6 r7 r8 r9 r10 r11 r12 r13 r14 r15 r16 r17 hf hb
  obtain ⟨⟨r0, r1, r2, r3, r4, r5, r6, r7, r8, r9, r10, r11, r12, r13, r14, r15, r16, r17⟩, hf⟩ := cells18 hG
  clear hG
  have q1 : g < W.heap.size := by omega
  obtain ⟨u0, u1, u2, u3⟩ := cells4p g0
  clear g0
  go_wp2_with fail
  go_wp2_with (go_at_call 66; refine (HC.out _ (by first | with_reducible exact HPW.out | with_reducible exact HPW.out.drew) (by unfold StX; (with_reducible first | refine st_of HG.out ?_ | refine st_of (bk_store HG.out _ _) ?_ | refine st_of (bk_store (bk_store HG.out _ _) _ _) ?_ | refine st_of (bk_store (bk_store (bk_store HG.out _ _) _ _) _ _) ?_ | refine st_of (bk_store (bk_store (bk_store (bk_store HG.out _ _) _ _) _ _) _ _) ?_ | refine st_of (bk_drew HG.out) ?_ | refine st_of (bk_drew (bk_store HG.out _ _)) ?_ | refine st_of (bk_drew (bk_store (bk_store HG.out _ _) _ _)) ?_ | refine st_of (bk_drew (bk_store (bk_store (bk_store HG.out _ _) _ _) _ _)) ?_ | refine st_of (bk_drew (bk_store (bk_store (bk_store (bk_store HG.out _ _) _ _) _ _) _ _)) ?_); rfl)).mono ?_; rintro e W1 ⟨rfl, h1, o1⟩; have HO1 := Lib.hid (Only.trans (C := fun k => k = g) (A := w) (by repeat' (first | with_reducible exact HB.out | with_reducible refine Only.drew ?_ | with_reducible refine only_set ?_ _ _)) o1); have HT1 := Lib.hid h1; clear h1 o1)
  refine bodyPost_end (results_none rfl _ _ _) rfl ⟨rfl, ?_, ?_⟩
  · exact HT1.out
  · exact HO1.out

set_option maxRecDepth 100000 in
set_option maxHeartbeats 8000000 in
theorem pTurn_13 {c : Cf} {C N K : Nat} (s : SzX c C N K) (A0 : Option Addr) (cp : Nat) (g : Nat) (f : Ds) (hpc : f.pc = 13) (q : FitX c C K f) (tt A B Cc : Nat) (hg : g ≠ 1) (w : World) (hP : Pow w) (hs : StX c (.slice A0 (topX c + 1 : Nat) cp) g f 0 0 false w) :
    Calls Tryd.prog 32 #[.pointer (some ⟨g, 0, none⟩), cvT tt A B Cc] w (TurnX c (.slice A0 (topX c + 1 : Nat) cp) g (behindX c f A B).1 (toldX (behindX c f A B)).1 (toldX (behindX c f A B)).2 (behindX c f A B).2 w) := by
  have _u1 := hg
  have _u2 := hP
  clear _u1 _u2
  have c2 := s.c2
  have k2 := s.k2
  have n2 := s.n2
  have t4 := topX_le c
  obtain ⟨qk5, qn, qp, qj, qh, qa, qb, qx, qy, qi1, qi6, qi14, qi11, qn15, qk4⟩ := q
  rw [bh_13 hpc]
  have HK := Lib.hid (fun W hs => pTakeX_any c (.slice A0 (topX c + 1 : Nat) cp) g f 0 0 false tt A B Cc W hs)
  try simp only [overX] at HK
  obtain ⟨X, hX⟩ : ∃ X, ({ overX f A B with pc := 14 }, false) = X := ⟨_, rfl⟩
  rw [hX]
  have HP := Lib.hid hP
  clear hP s
  unfold cvT at *
  unfold StX stO at hs
  have HS := Lib.hid hs
  have q0 := (Array.getElem?_eq_some_iff.1 hs).1
  obtain ⟨⟨r0, r1, r2, r3, r4, r5, r6, r7, r8, r9, r10, r11, r12, r13, r14, r15, r16, r17⟩, hf⟩ := cells18 hs
  clear hs
  obtain ⟨tg, k, seq, kind, a, b, pc, i, j, n, p, h, x, y⟩ := f
  simp only at hpc qk5 qn qp qj qh qa qb qx qy qi1 qi6 qi14 qi11 qn15 qk4 hX HS r4 r5 r6 r7 r8 r9 r10 r11 r12 r13 r14
  unfold overX at hX
  simp only at hX
  have hu : A % 4294967296 < 4294967296 := by omega
  have hv : B % 4294967296 < 4294967296 := by omega
  generalize A % 4294967296 = u at *
  generalize B % 4294967296 = v at *
  subst hX
  subst hpc
  have qk : ((13 : Nat) : Int) = 13 := rfl
  rw [qk] at *
  clear qk
  go_enter Tryd.func32, Tryd.ntmps32
  go_upto_region 1 with fail
  refine enter1 fun W hb g0 qq => ?_
  have HG := Lib.hid (blk_below HS.out hb)
  have HB := Lib.hid (Only.of_below (fun k => k = g) hb)
  have HPW := Lib.hid (HP.out.below hb)
  have hne : w.heap.size ≠ g := by omega
  have hG := HG.out
  clear r0 r1 r2 r3 r4 r5 r6 r7 r8 r9 r10 r11 r12 r13 r14 r15 r16 r17 hf hb
  obtain ⟨⟨r0, r1, r2, r3, r4, r5, r6, r7, r8, r9, r10, r11, r12, r13, r14, r15, r16, r17⟩, hf⟩ := cells18 hG
  clear hG
  have q1 : g < W.heap.size := by omega
  obtain ⟨u0, u1, u2, u3⟩ := cells4p g0
  clear g0
  go_wp2_with fail
  go_wp2_with (go_at_call 63; refine (HK.out _ (by unfold StX; (with_reducible first | refine st_of HG.out ?_ | refine st_of (bk_store HG.out _ _) ?_ | refine st_of (bk_store (bk_store HG.out _ _) _ _) ?_ | refine st_of (bk_store (bk_store (bk_store HG.out _ _) _ _) _ _) ?_ | refine st_of (bk_store (bk_store (bk_store (bk_store HG.out _ _) _ _) _ _) _ _) ?_ | refine st_of (bk_drew HG.out) ?_ | refine st_of (bk_drew (bk_store HG.out _ _)) ?_ | refine st_of (bk_drew (bk_store (bk_store HG.out _ _) _ _)) ?_ | refine st_of (bk_drew (bk_store (bk_store (bk_store HG.out _ _) _ _) _ _)) ?_ | refine st_of (bk_drew (bk_store (bk_store (bk_store (bk_store HG.out _ _) _ _) _ _) _ _)) ?_); rfl)).mono ?_; rintro e W1 ⟨rfl, h1, o1⟩; have HO1 := Lib.hid (Only.trans (C := fun k => k = g) (A := w) (by repeat' (first | with_reducible exact HB.out | with_reducible refine Only.drew ?_ | with_reducible refine only_set ?_ _ _)) o1); unfold StX stO at h1; have HS1 := Lib.hid h1; simp only at h1; obtain ⟨⟨s1_0, s1_1, s1_2, s1_3, s1_4, s1_5, s1_6, s1_7, s1_8, s1_9, s1_10, s1_11, s1_12, s1_13, s1_14, s1_15, s1_16, s1_17⟩, hf1⟩ := cells18 h1; clear h1 o1; have q1 : g < W1.heap.size := (Array.getElem?_eq_some_iff.1 HS1.out).1)
  refine bodyPost_end (results_none rfl _ _ _) rfl ⟨rfl, ?_, ?_⟩
  · unfold StX
    with_reducible first | refine st_of HS1.out ?_ | refine st_of (bk_store HS1.out _ _) ?_ | refine st_of (bk_store (bk_store HS1.out _ _) _ _) ?_ | refine st_of (bk_store (bk_store (bk_store HS1.out _ _) _ _) _ _) ?_ | refine st_of (bk_store (bk_store (bk_store (bk_store HS1.out _ _) _ _) _ _) _ _) ?_ | refine st_of (bk_store (bk_store (bk_store (bk_store (bk_store HS1.out _ _) _ _) _ _) _ _) _ _) ?_ | refine st_of (bk_drew HS1.out) ?_ | refine st_of (bk_drew (bk_store HS1.out _ _)) ?_ | refine st_of (bk_drew (bk_store (bk_store HS1.out _ _) _ _)) ?_ | refine st_of (bk_drew (bk_store (bk_store (bk_store HS1.out _ _) _ _) _ _)) ?_ | refine st_of (bk_drew (bk_store (bk_store (bk_store (bk_store HS1.out _ _) _ _) _ _) _ _)) ?_ | refine st_of (bk_drew (bk_store (bk_store (bk_store (bk_store (bk_store HS1.out _ _) _ _) _ _) _ _) _ _)) ?_ | refine st_of (bk_drew (bk_drew HS1.out)) ?_ | refine st_of (bk_drew (bk_drew (bk_store HS1.out _ _))) ?_ | refine st_of (bk_drew (bk_drew (bk_store (bk_store HS1.out _ _) _ _))) ?_ | refine st_of (bk_drew (bk_drew (bk_store (bk_store (bk_store HS1.out _ _) _ _) _ _))) ?_ | refine st_of (bk_drew (bk_drew (bk_store (bk_store (bk_store (bk_store HS1.out _ _) _ _) _ _) _ _))) ?_ | refine st_of (bk_drew (bk_drew (bk_store (bk_store (bk_store (bk_store (bk_store HS1.out _ _) _ _) _ _) _ _) _ _))) ?_
    rfl
  · repeat' (first | with_reducible exact HO1.out | with_reducible refine Only.drew ?_ | with_reducible refine only_set ?_ _ _)

set_option maxRecDepth 100000 in
set_option maxHeartbeats 8000000 in
theorem pTurn_14 {c : Cf} {C N K : Nat} (s : SzX c C N K) (A0 : Option Addr) (cp : Nat) (g : Nat) (f : Ds) (hpc : f.pc = 14) (q : FitX c C K f) (tt A B Cc : Nat) (hg : g ≠ 1) (w : World) (hP : Pow w) (hs : StX c (.slice A0 (topX c + 1 : Nat) cp) g f 0 0 false w) :
    Calls Tryd.prog 32 #[.pointer (some ⟨g, 0, none⟩), cvT tt A B Cc] w (TurnX c (.slice A0 (topX c + 1 : Nat) cp) g (behindX c f A B).1 (toldX (behindX c f A B)).1 (toldX (behindX c f A B)).2 (behindX c f A B).2 w) := by
  have _u1 := hg
  have _u2 := hP
  clear _u1 _u2
  have c2 := s.c2
  have k2 := s.k2
  have n2 := s.n2
  have t4 := topX_le c
  obtain ⟨qk5, qn, qp, qj, qh, qa, qb, qx, qy, qi1, qi6, qi14, qi11, qn15, qk4⟩ := q
  rw [bh_14 hpc]
  have HC := Lib.hid (fun W hs => pGapOn_any c (.slice A0 (topX c + 1 : Nat) cp) g f 0 0 false (by have := qi14 hpc; omega) W hs)
  try simp only at HC
  obtain ⟨X, hX⟩ : ∃ X, (if f.n ≤ f.i + 1 then ({ f with i := f.i + 1, pc := 15 }, false) else ({ f with i := f.i + 1, pc := 13 }, false)) = X := ⟨_, rfl⟩
  rw [hX]
  have HP := Lib.hid hP
  clear hP s
  unfold cvT at *
  unfold StX stO at hs
  have HS := Lib.hid hs
  have q0 := (Array.getElem?_eq_some_iff.1 hs).1
  obtain ⟨⟨r0, r1, r2, r3, r4, r5, r6, r7, r8, r9, r10, r11, r12, r13, r14, r15, r16, r17⟩, hf⟩ := cells18 hs
  clear hs
  obtain ⟨tg, k, seq, kind, a, b, pc, i, j, n, p, h, x, y⟩ := f
  simp only at hpc qk5 qn qp qj qh qa qb qx qy qi1 qi6 qi14 qi11 qn15 qk4 hX HS r4 r5 r6 r7 r8 r9 r10 r11 r12 r13 r14
  by_cases e : n ≤ i + 1
  · rw [if_pos e] at hX
    simp only [if_pos e] at HC
    subst hX
    clear e
    subst hpc
    have qk : ((14 : Nat) : Int) = 14 := rfl
    rw [qk] at *
    clear qk
    go_enter Tryd.func32, Tryd.ntmps32
    go_upto_region 1 with fail
    refine enter1 fun W hb g0 qq => ?_
    have HG := Lib.hid (blk_below HS.out hb)
    have HB := Lib.hid (Only.of_below (fun k => k = g) hb)
    have HPW := Lib.hid (HP.out.below hb)
    have hne : w.heap.size ≠ g := by omega
    have hG := HG.out
    clear r0 r1 r2 r3 r4 r5 r6 r7 r8 r9 r10 r11 r12 r13 r14 r15 r16 r17 hf hb
    obtain ⟨⟨r0, r1, r2, r3, r4, r5, r6, r7, r8, r9, r10, r11, r12, r13, r14, r15, r16, r17⟩, hf⟩ := cells18 hG
    clear hG
    have q1 : g < W.heap.size := by omega
    obtain ⟨u0, u1, u2, u3⟩ := cells4p g0
    clear g0
    go_wp2_with fail
    go_wp2_with (go_at_call 68; refine (HC.out _ (by unfold StX; (with_reducible first | refine st_of HG.out ?_ | refine st_of (bk_store HG.out _ _) ?_ | refine st_of (bk_store (bk_store HG.out _ _) _ _) ?_ | refine st_of (bk_store (bk_store (bk_store HG.out _ _) _ _) _ _) ?_ | refine st_of (bk_store (bk_store (bk_store (bk_store HG.out _ _) _ _) _ _) _ _) ?_ | refine st_of (bk_drew HG.out) ?_ | refine st_of (bk_drew (bk_store HG.out _ _)) ?_ | refine st_of (bk_drew (bk_store (bk_store HG.out _ _) _ _)) ?_ | refine st_of (bk_drew (bk_store (bk_store (bk_store HG.out _ _) _ _) _ _)) ?_ | refine st_of (bk_drew (bk_store (bk_store (bk_store (bk_store HG.out _ _) _ _) _ _) _ _)) ?_); rfl)).mono ?_; rintro e W1 ⟨rfl, h1, o1⟩; have HO1 := Lib.hid (Only.trans (C := fun k => k = g) (A := w) (by repeat' (first | with_reducible exact HB.out | with_reducible refine Only.drew ?_ | with_reducible refine only_set ?_ _ _)) o1); have HT1 := Lib.hid h1; clear h1 o1)
    refine bodyPost_end (results_none rfl _ _ _) rfl ⟨rfl, ?_, ?_⟩
    · exact HT1.out
    · exact HO1.out
  · rw [if_neg e] at hX
    simp only [if_neg e] at HC
    subst hX
    clear e
    subst hpc
    have qk : ((14 : Nat) : Int) = 14 := rfl
    rw [qk] at *
    clear qk
    go_enter Tryd.func32, Tryd.ntmps32
    go_upto_region 1 with fail
    refine enter1 fun W hb g0 qq => ?_
    have HG := Lib.hid (blk_below HS.out hb)
    have HB := Lib.hid (Only.of_below (fun k => k = g) hb)
    have HPW := Lib.hid (HP.out.below hb)
    have hne : w.heap.size ≠ g := by omega
    have hG := HG.out
    clear r0 r1 r2 r3 r4 r5 r6 r7 r8 r9 r10 r11 r12 r13 r14 r15 r16 r17 hf hb
    obtain ⟨⟨r0, r1, r2, r3, r4, r5, r6, r7, r8, r9, r10, r11, r12, r13, r14, r15, r16, r17⟩, hf⟩ := cells18 hG
    clear hG
    have q1 : g < W.heap.size := by omega
    obtain ⟨u0, u1, u2, u3⟩ := cells4p g0
    clear g0
    go_wp2_with fail
    go_wp2_with (go_at_call 68; refine (HC.out _ (by unfold StX; (with_reducible first | refine st_of HG.out ?_ | refine st_of (bk_store HG.out _ _) ?_ | refine st_of (bk_store (bk_store HG.out _ _) _ _) ?_ | refine st_of (bk_store (bk_store (bk_store HG.out _ _) _ _) _ _) ?_ | refine st_of (bk_store (bk_store (bk_store (bk_store HG.out _ _) _ _) _ _) _ _) ?_ | refine st_of (bk_drew HG.out) ?_ | refine st_of (bk_drew (bk_store HG.out _ _)) ?_ | refine st_of (bk_drew (bk_store (bk_store HG.out _ _) _ _)) ?_ | refine st_of (bk_drew (bk_store (bk_store (bk_store HG.out _ _) _ _) _ _)) ?_ | refine st_of (bk_drew (bk_store (bk_store (bk_store (bk_store HG.out _ _) _ _) _ _) _ _)) ?_); rfl)).mono ?_; rintro e W1 ⟨rfl, h1, o1⟩; have HO1 := Lib.hid (Only.trans (C := fun k => k = g) (A := w) (by repeat' (first | with_reducible exact HB.out | with_reducible refine Only.drew ?_ | with_reducible refine only_set ?_ _ _)) o1); have HT1 := Lib.hid h1; clear h1 o1)
    refine bodyPost_end (results_none rfl _ _ _) rfl ⟨rfl, ?_, ?_⟩
    · exact HT1.out
    · exact HO1.out

set_option maxRecDepth 100000 in
set_option maxHeartbeats 8000000 in
theorem pTurn_15 {c : Cf} {C N K : Nat} (s : SzX c C N K) (A0 : Option Addr) (cp : Nat) (g : Nat) (f : Ds) (hpc : f.pc = 15) (q : FitX c C K f) (tt A B Cc : Nat) (hg : g ≠ 1) (w : World) (hP : Pow w) (hs : StX c (.slice A0 (topX c + 1 : Nat) cp) g f 0 0 false w) :
    Calls Tryd.prog 32 #[.pointer (some ⟨g, 0, none⟩), cvT tt A B Cc] w (TurnX c (.slice A0 (topX c + 1 : Nat) cp) g (behindX c f A B).1 (toldX (behindX c f A B)).1 (toldX (behindX c f A B)).2 (behindX c f A B).2 w) := by
  have _u1 := hg
  have _u2 := hP
  clear _u1 _u2
  have c2 := s.c2
  have k2 := s.k2
  have n2 := s.n2
  have t4 := topX_le c
  obtain ⟨qk5, qn, qp, qj, qh, qa, qb, qx, qy, qi1, qi6, qi14, qi11, qn15, qk4⟩ := q
  rw [bh_15 hpc]
  obtain ⟨X, hX⟩ : ∃ X, ({ f with n := f.n - 1, pc := 8 }, false) = X := ⟨_, rfl⟩
  rw [hX]
  have HP := Lib.hid hP
  clear hP s
  unfold cvT at *
  unfold StX stO at hs
  have HS := Lib.hid hs
  have q0 := (Array.getElem?_eq_some_iff.1 hs).1
  obtain ⟨⟨r0, r1, r2, r3, r4, r5, r6, r7, r8, r9, r10, r11, r12, r13, r14, r15, r16, r17⟩, hf⟩ := cells18 hs
  clear hs
  obtain ⟨tg, k, seq, kind, a, b, pc, i, j, n, p, h, x, y⟩ := f
  simp only at hpc qk5 qn qp qj qh qa qb qx qy qi1 qi6 qi14 qi11 qn15 qk4 hX HS r4 r5 r6 r7 r8 r9 r10 r11 r12 r13 r14
  obtain ⟨m, rfl⟩ : ∃ m, n = m + 1 := ⟨n - 1, by have := qn15 hpc; omega⟩
  rw [Nat.add_sub_cancel] at hX
  subst hX
  have p1 : IntKind.u8.wrap (((m + 1 : Nat) : Int) - 1) = (m : Int) := by rw [IntKind.wrap_u8]; omega
  subst hpc
  have qk : ((15 : Nat) : Int) = 15 := rfl
  rw [qk] at *
  clear qk
  go_enter Tryd.func32, Tryd.ntmps32
  go_upto_region 1 with fail
  refine enter1 fun W hb g0 qq => ?_
  have HG := Lib.hid (blk_below HS.out hb)
  have HB := Lib.hid (Only.of_below (fun k => k = g) hb)
  have HPW := Lib.hid (HP.out.below hb)
  have hne : w.heap.size ≠ g := by omega
  have hG := HG.out
  clear r0 r1 r2 r3 r4 r5 r6 r7 r8 r9 r10 r11 r12 r13 r14 r15 r16 r17 hf hb
  obtain ⟨⟨r0, r1, r2, r3, r4, r5, r6, r7, r8, r9, r10, r11, r12, r13, r14, r15, r16, r17⟩, hf⟩ := cells18 hG
  clear hG
  have q1 : g < W.heap.size := by omega
  obtain ⟨u0, u1, u2, u3⟩ := cells4p g0
  clear g0
  go_wp2_with fail
  refine bodyPost_end (results_none rfl _ _ _) rfl ⟨rfl, ?_, ?_⟩
  · unfold StX
    with_reducible first | refine st_of HG.out ?_ | refine st_of (bk_store HG.out _ _) ?_ | refine st_of (bk_store (bk_store HG.out _ _) _ _) ?_ | refine st_of (bk_store (bk_store (bk_store HG.out _ _) _ _) _ _) ?_ | refine st_of (bk_store (bk_store (bk_store (bk_store HG.out _ _) _ _) _ _) _ _) ?_ | refine st_of (bk_store (bk_store (bk_store (bk_store (bk_store HG.out _ _) _ _) _ _) _ _) _ _) ?_ | refine st_of (bk_drew HG.out) ?_ | refine st_of (bk_drew (bk_store HG.out _ _)) ?_ | refine st_of (bk_drew (bk_store (bk_store HG.out _ _) _ _)) ?_ | refine st_of (bk_drew (bk_store (bk_store (bk_store HG.out _ _) _ _) _ _)) ?_ | refine st_of (bk_drew (bk_store (bk_store (bk_store (bk_store HG.out _ _) _ _) _ _) _ _)) ?_ | refine st_of (bk_drew (bk_store (bk_store (bk_store (bk_store (bk_store HG.out _ _) _ _) _ _) _ _) _ _)) ?_ | refine st_of (bk_drew (bk_drew HG.out)) ?_ | refine st_of (bk_drew (bk_drew (bk_store HG.out _ _))) ?_ | refine st_of (bk_drew (bk_drew (bk_store (bk_store HG.out _ _) _ _))) ?_ | refine st_of (bk_drew (bk_drew (bk_store (bk_store (bk_store HG.out _ _) _ _) _ _))) ?_ | refine st_of (bk_drew (bk_drew (bk_store (bk_store (bk_store (bk_store HG.out _ _) _ _) _ _) _ _))) ?_ | refine st_of (bk_drew (bk_drew (bk_store (bk_store (bk_store (bk_store (bk_store HG.out _ _) _ _) _ _) _ _) _ _))) ?_
    rfl
  · repeat' (first | with_reducible exact HB.out | with_reducible refine Only.drew ?_ | with_reducible refine only_set ?_ _ _)

set_option maxRecDepth 100000 in
set_option maxHeartbeats 8000000 in
theorem pTurn_16 {c : Cf} {C N K : Nat} (s : SzX c C N K) (A0 : Option Addr) (cp : Nat) (g : Nat) (f : Ds) (hpc : f.pc = 16) (q : FitX c C K f) (tt A B Cc : Nat) (hg : g ≠ 1) (w : World) (hP : Pow w) (hs : StX c (.slice A0 (topX c + 1 : Nat) cp) g f 0 0 false w) :
    Calls Tryd.prog 32 #[.pointer (some ⟨g, 0, none⟩), cvT tt A B Cc] w (TurnX c (.slice A0 (topX c + 1 : Nat) cp) g (behindX c f A B).1 (toldX (behindX c f A B)).1 (toldX (behindX c f A B)).2 (behindX c f A B).2 w) := by
  have _u1 := hg
  have _u2 := hP
  clear _u1 _u2
  have c2 := s.c2
  have k2 := s.k2
  have n2 := s.n2
  have t4 := topX_le c
  obtain ⟨qk5, qn, qp, qj, qh, qa, qb, qx, qy, qi1, qi6, qi14, qi11, qn15, qk4⟩ := q
  rw [bh_16 hpc]
  have HC := Lib.hid (fun W hs => pNextRow_any c (.slice A0 (topX c + 1 : Nat) cp) g { f with j := 0 } 0 0 false (by show f.p < 255; omega) W hs)
  try simp only at HC
  obtain ⟨X, hX⟩ : ∃ X, (nextOne { f with j := 0 }, false) = X := ⟨_, rfl⟩
  rw [hX]
  have HP := Lib.hid hP
  clear hP s
  unfold cvT at *
  unfold StX stO at hs
  have HS := Lib.hid hs
  have q0 := (Array.getElem?_eq_some_iff.1 hs).1
  obtain ⟨⟨r0, r1, r2, r3, r4, r5, r6, r7, r8, r9, r10, r11, r12, r13, r14, r15, r16, r17⟩, hf⟩ := cells18 hs
  clear hs
  obtain ⟨tg, k, seq, kind, a, b, pc, i, j, n, p, h, x, y⟩ := f
  simp only at hpc qk5 qn qp qj qh qa qb qx qy qi1 qi6 qi14 qi11 qn15 qk4 hX HS r4 r5 r6 r7 r8 r9 r10 r11 r12 r13 r14
  subst hX
  subst hpc
  have qk : ((16 : Nat) : Int) = 16 := rfl
  rw [qk] at *
  clear qk
  go_enter Tryd.func32, Tryd.ntmps32
  go_upto_region 1 with fail
  refine enter1 fun W hb g0 qq => ?_
  have HG := Lib.hid (blk_below HS.out hb)
  have HB := Lib.hid (Only.of_below (fun k => k = g) hb)
  have HPW := Lib.hid (HP.out.below hb)
  have hne : w.heap.size ≠ g := by omega
  have hG := HG.out
  clear r0 r1 r2 r3 r4 r5 r6 r7 r8 r9 r10 r11 r12 r13 r14 r15 r16 r17 hf hb
  obtain ⟨⟨r0, r1, r2, r3, r4, r5, r6, r7, r8, r9, r10, r11, r12, r13, r14, r15, r16, r17⟩, hf⟩ := cells18 hG
  clear hG
  have q1 : g < W.heap.size := by omega
  obtain ⟨u0, u1, u2, u3⟩ := cells4p g0
  clear g0
  go_wp2_with fail
  go_wp2_with (go_at_call 69; refine (HC.out _ (by unfold StX; (with_reducible first | refine st_of HG.out ?_ | refine st_of (bk_store HG.out _ _) ?_ | refine st_of (bk_store (bk_store HG.out _ _) _ _) ?_ | refine st_of (bk_store (bk_store (bk_store HG.out _ _) _ _) _ _) ?_ | refine st_of (bk_store (bk_store (bk_store (bk_store HG.out _ _) _ _) _ _) _ _) ?_ | refine st_of (bk_drew HG.out) ?_ | refine st_of (bk_drew (bk_store HG.out _ _)) ?_ | refine st_of (bk_drew (bk_store (bk_store HG.out _ _) _ _)) ?_ | refine st_of (bk_drew (bk_store (bk_store (bk_store HG.out _ _) _ _) _ _)) ?_ | refine st_of (bk_drew (bk_store (bk_store (bk_store (bk_store HG.out _ _) _ _) _ _) _ _)) ?_); rfl)).mono ?_; rintro e W1 ⟨rfl, h1, o1⟩; have HO1 := Lib.hid (Only.trans (C := fun k => k = g) (A := w) (by repeat' (first | with_reducible exact HB.out | with_reducible refine Only.drew ?_ | with_reducible refine only_set ?_ _ _)) o1); have HT1 := Lib.hid h1; clear h1 o1)
  refine bodyPost_end (results_none rfl _ _ _) rfl ⟨rfl, ?_, ?_⟩
  · exact HT1.out
  · exact HO1.out

set_option maxRecDepth 100000 in
set_option maxHeartbeats 8000000 in
theorem pTurn_17 {c : Cf} {C N K : Nat} (s : SzX c C N K) (A0 : Option Addr) (cp : Nat) (g : Nat) (f : Ds) (hpc : f.pc = 17) (q : FitX c C K f) (tt A B Cc : Nat) (hg : g ≠ 1) (w : World) (hP : Pow w) (hs : StX c (.slice A0 (topX c + 1 : Nat) cp) g f 0 0 false w) :
    Calls Tryd.prog 32 #[.pointer (some ⟨g, 0, none⟩), cvT tt A B Cc] w (TurnX c (.slice A0 (topX c + 1 : Nat) cp) g (behindX c f A B).1 (toldX (behindX c f A B)).1 (toldX (behindX c f A B)).2 (behindX c f A B).2 w) := by
  have _u1 := hg
  have _u2 := hP
  clear _u1 _u2
  have c2 := s.c2
  have k2 := s.k2
  have n2 := s.n2
  have t4 := topX_le c
  obtain ⟨qk5, qn, qp, qj, qh, qa, qb, qx, qy, qi1, qi6, qi14, qi11, qn15, qk4⟩ := q
  rw [bh_17 hpc]
  have HK := Lib.hid (fun W hs => pTakeX_any c (.slice A0 (topX c + 1 : Nat) cp) g f 0 0 false tt A B Cc W hs)
  try simp only [overX] at HK
  have HT := Lib.hid (fun W hs => pScanX_any c (.slice A0 (topX c + 1 : Nat) cp) g (overX f A B) (by simp only [overX]; omega) (by simp only [overX]; omega) (by simp only [overX]; omega) (by simp only [overX]; omega) (by simp only [overX]; omega) W hs)
  try simp only [overX] at HT
  obtain ⟨X, hX⟩ : ∃ X, onX c (overX f A B) = X := ⟨_, rfl⟩
  rw [hX]
  have HP := Lib.hid hP
  clear hP s
  unfold cvT at *
  unfold StX stO at hs
  have HS := Lib.hid hs
  have q0 := (Array.getElem?_eq_some_iff.1 hs).1
  obtain ⟨⟨r0, r1, r2, r3, r4, r5, r6, r7, r8, r9, r10, r11, r12, r13, r14, r15, r16, r17⟩, hf⟩ := cells18 hs
  clear hs
  obtain ⟨tg, k, seq, kind, a, b, pc, i, j, n, p, h, x, y⟩ := f
  simp only at hpc qk5 qn qp qj qh qa qb qx qy qi1 qi6 qi14 qi11 qn15 qk4 hX HS r4 r5 r6 r7 r8 r9 r10 r11 r12 r13 r14
  unfold overX at hX
  have hu : A % 4294967296 < 4294967296 := by omega
  have hv : B % 4294967296 < 4294967296 := by omega
  generalize A % 4294967296 = u at *
  generalize B % 4294967296 = v at *
  subst hX
  subst hpc
  have qk : ((17 : Nat) : Int) = 17 := rfl
  rw [qk] at *
  clear qk
  go_enter Tryd.func32, Tryd.ntmps32
  go_upto_region 1 with fail
  refine enter1 fun W hb g0 qq => ?_
  have HG := Lib.hid (blk_below HS.out hb)
  have HB := Lib.hid (Only.of_below (fun k => k = g) hb)
  have HPW := Lib.hid (HP.out.below hb)
  have hne : w.heap.size ≠ g := by omega
  have hG := HG.out
  clear r0 r1 r2 r3 r4 r5 r6 r7 r8 r9 r10 r11 r12 r13 r14 r15 r16 r17 hf hb
  obtain ⟨⟨r0, r1, r2, r3, r4, r5, r6, r7, r8, r9, r10, r11, r12, r13, r14, r15, r16, r17⟩, hf⟩ := cells18 hG
  clear hG
  have q1 : g < W.heap.size := by omega
  obtain ⟨u0, u1, u2, u3⟩ := cells4p g0
  clear g0
  go_wp2_with fail
  go_wp2_with (first | (go_at_call 63; refine (HK.out _ (by unfold StX; (with_reducible first | refine st_of HG.out ?_ | refine st_of (bk_store HG.out _ _) ?_ | refine st_of (bk_store (bk_store HG.out _ _) _ _) ?_ | refine st_of (bk_store (bk_store (bk_store HG.out _ _) _ _) _ _) ?_ | refine st_of (bk_store (bk_store (bk_store (bk_store HG.out _ _) _ _) _ _) _ _) ?_ | refine st_of (bk_drew HG.out) ?_ | refine st_of (bk_drew (bk_store HG.out _ _)) ?_ | refine st_of (bk_drew (bk_store (bk_store HG.out _ _) _ _)) ?_ | refine st_of (bk_drew (bk_store (bk_store (bk_store HG.out _ _) _ _) _ _)) ?_ | refine st_of (bk_drew (bk_store (bk_store (bk_store (bk_store HG.out _ _) _ _) _ _) _ _)) ?_); rfl)).mono ?_; rintro e W1 ⟨rfl, h1, o1⟩; have HO1 := Lib.hid (Only.trans (C := fun k => k = g) (A := w) (by repeat' (first | with_reducible exact HB.out | with_reducible refine Only.drew ?_ | with_reducible refine only_set ?_ _ _)) o1); unfold StX stO at h1; have HS1 := Lib.hid h1; simp only at h1; obtain ⟨⟨s1_0, s1_1, s1_2, s1_3, s1_4, s1_5, s1_6, s1_7, s1_8, s1_9, s1_10, s1_11, s1_12, s1_13, s1_14, s1_15, s1_16, s1_17⟩, hf1⟩ := cells18 h1; clear h1 o1; have q1 : g < W1.heap.size := (Array.getElem?_eq_some_iff.1 HS1.out).1) | (go_at_call 70; refine (HT.out _ (by unfold StX; (with_reducible first | refine st_of HS1.out ?_ | refine st_of (bk_store HS1.out _ _) ?_ | refine st_of (bk_store (bk_store HS1.out _ _) _ _) ?_ | refine st_of (bk_store (bk_store (bk_store HS1.out _ _) _ _) _ _) ?_ | refine st_of (bk_store (bk_store (bk_store (bk_store HS1.out _ _) _ _) _ _) _ _) ?_ | refine st_of (bk_drew HS1.out) ?_ | refine st_of (bk_drew (bk_store HS1.out _ _)) ?_ | refine st_of (bk_drew (bk_store (bk_store HS1.out _ _) _ _)) ?_ | refine st_of (bk_drew (bk_store (bk_store (bk_store HS1.out _ _) _ _) _ _)) ?_ | refine st_of (bk_drew (bk_store (bk_store (bk_store (bk_store HS1.out _ _) _ _) _ _) _ _)) ?_); rfl)).mono ?_; rintro e W2 ⟨rfl, h2, o2⟩; have HO2 := Lib.hid (Only.trans (C := fun k => k = g) (A := w) (by repeat' (first | with_reducible exact HO1.out | with_reducible refine Only.drew ?_ | with_reducible refine only_set ?_ _ _)) o2); have HT2 := Lib.hid h2; clear h2 o2))
  refine bodyPost_end (results_none rfl _ _ _) rfl ⟨rfl, ?_, ?_⟩
  · exact HT2.out
  · exact HO2.out

set_option maxRecDepth 100000 in
set_option maxHeartbeats 8000000 in
theorem pTurn_20 {c : Cf} {C N K : Nat} (s : SzX c C N K) (A0 : Option Addr) (cp : Nat) (g : Nat) (f : Ds) (hpc : 20 ≤ f.pc ∧ f.pc ≤ 25) (q : FitX c C K f) (tt A B Cc : Nat) (hg : g ≠ 1) (w : World) (hP : Pow w) (hs : StX c (.slice A0 (topX c + 1 : Nat) cp) g f 0 0 false w) :
    Calls Tryd.prog 32 #[.pointer (some ⟨g, 0, none⟩), cvT tt A B Cc] w (TurnX c (.slice A0 (topX c + 1 : Nat) cp) g (behindX c f A B).1 (toldX (behindX c f A B)).1 (toldX (behindX c f A B)).2 (behindX c f A B).2 w) := by
  have _u1 := hg
  have _u2 := hP
  clear _u1 _u2
  have c2 := s.c2
  have k2 := s.k2
  have n2 := s.n2
  have t4 := topX_le c
  obtain ⟨qk5, qn, qp, qj, qh, qa, qb, qx, qy, qi1, qi6, qi14, qi11, qn15, qk4⟩ := q
  rw [show behindX c f A B = (f, false) from by unfold behindX; (repeat rw [if_neg (by omega)])]
  obtain ⟨X, hX⟩ : ∃ X, (f, false) = X := ⟨_, rfl⟩
  rw [hX]
  have HP := Lib.hid hP
  clear hP s
  unfold cvT at *
  unfold StX stO at hs
  have HS := Lib.hid hs
  have q0 := (Array.getElem?_eq_some_iff.1 hs).1
  obtain ⟨⟨r0, r1, r2, r3, r4, r5, r6, r7, r8, r9, r10, r11, r12, r13, r14, r15, r16, r17⟩, hf⟩ := cells18 hs
  clear hs
  obtain ⟨tg, k, seq, kind, a, b, pc, i, j, n, p, h, x, y⟩ := f
  simp only at hpc qk5 qn qp qj qh qa qb qx qy qi1 qi6 qi14 qi11 qn15 qk4 hX HS r4 r5 r6 r7 r8 r9 r10 r11 r12 r13 r14
  subst hX
  obtain ⟨p20, p25⟩ := hpc
  have hp6 : pc = 20 ∨ pc = 21 ∨ pc = 22 ∨ pc = 23 ∨ pc = 24 ∨ pc = 25 := by omega
  clear p20 p25 qi1 qi6 qi14 qi11 qn15 qk4
  rcases hp6 with rfl | rfl | rfl | rfl | rfl | rfl
  · have qk : ((20 : Nat) : Int) = 20 := rfl
    rw [qk] at *
    clear qk
    go_enter Tryd.func32, Tryd.ntmps32
    go_upto_region 1 with fail
    refine enter1 fun W hb g0 qq => ?_
    have HG := Lib.hid (blk_below HS.out hb)
    have HB := Lib.hid (Only.of_below (fun k => k = g) hb)
    have HPW := Lib.hid (HP.out.below hb)
    have hne : w.heap.size ≠ g := by omega
    have hG := HG.out
    clear r0 r1 r2 r3 r4 r5 r6 r7 r8 r9 r10 r11 r12 r13 r14 r15 r16 r17 hf hb
    obtain ⟨⟨r0, r1, r2, r3, r4, r5, r6, r7, r8, r9, r10, r11, r12, r13, r14, r15, r16, r17⟩, hf⟩ := cells18 hG
    clear hG
    have q1 : g < W.heap.size := by omega
    obtain ⟨u0, u1, u2, u3⟩ := cells4p g0
    clear g0
    go_wp2_with fail
    refine bodyPost_end (results_none rfl _ _ _) rfl ⟨rfl, ?_, ?_⟩
    · unfold StX
      with_reducible first | refine st_of HG.out ?_ | refine st_of (bk_store HG.out _ _) ?_ | refine st_of (bk_store (bk_store HG.out _ _) _ _) ?_ | refine st_of (bk_store (bk_store (bk_store HG.out _ _) _ _) _ _) ?_ | refine st_of (bk_store (bk_store (bk_store (bk_store HG.out _ _) _ _) _ _) _ _) ?_ | refine st_of (bk_store (bk_store (bk_store (bk_store (bk_store HG.out _ _) _ _) _ _) _ _) _ _) ?_ | refine st_of (bk_drew HG.out) ?_ | refine st_of (bk_drew (bk_store HG.out _ _)) ?_ | refine st_of (bk_drew (bk_store (bk_store HG.out _ _) _ _)) ?_ | refine st_of (bk_drew (bk_store (bk_store (bk_store HG.out _ _) _ _) _ _)) ?_ | refine st_of (bk_drew (bk_store (bk_store (bk_store (bk_store HG.out _ _) _ _) _ _) _ _)) ?_ | refine st_of (bk_drew (bk_store (bk_store (bk_store (bk_store (bk_store HG.out _ _) _ _) _ _) _ _) _ _)) ?_ | refine st_of (bk_drew (bk_drew HG.out)) ?_ | refine st_of (bk_drew (bk_drew (bk_store HG.out _ _))) ?_ | refine st_of (bk_drew (bk_drew (bk_store (bk_store HG.out _ _) _ _))) ?_ | refine st_of (bk_drew (bk_drew (bk_store (bk_store (bk_store HG.out _ _) _ _) _ _))) ?_ | refine st_of (bk_drew (bk_drew (bk_store (bk_store (bk_store (bk_store HG.out _ _) _ _) _ _) _ _))) ?_ | refine st_of (bk_drew (bk_drew (bk_store (bk_store (bk_store (bk_store (bk_store HG.out _ _) _ _) _ _) _ _) _ _))) ?_
      rfl
    · repeat' (first | with_reducible exact HB.out | with_reducible refine Only.drew ?_ | with_reducible refine only_set ?_ _ _)
  · have qk : ((21 : Nat) : Int) = 21 := rfl
    rw [qk] at *
    clear qk
    go_enter Tryd.func32, Tryd.ntmps32
    go_upto_region 1 with fail
    refine enter1 fun W hb g0 qq => ?_
    have HG := Lib.hid (blk_below HS.out hb)
    have HB := Lib.hid (Only.of_below (fun k => k = g) hb)
    have HPW := Lib.hid (HP.out.below hb)
    have hne : w.heap.size ≠ g := by omega
    have hG := HG.out
    clear r0 r1 r2 r3 r4 r5 r6 r7 r8 r9 r10 r11 r12 r13 r14 r15 r16 r17 hf hb
    obtain ⟨⟨r0, r1, r2, r3, r4, r5, r6, r7, r8, r9, r10, r11, r12, r13, r14, r15, r16, r17⟩, hf⟩ := cells18 hG
    clear hG
    have q1 : g < W.heap.size := by omega
    obtain ⟨u0, u1, u2, u3⟩ := cells4p g0
    clear g0
    go_wp2_with fail
    refine bodyPost_end (results_none rfl _ _ _) rfl ⟨rfl, ?_, ?_⟩
    · unfold StX
      with_reducible first | refine st_of HG.out ?_ | refine st_of (bk_store HG.out _ _) ?_ | refine st_of (bk_store (bk_store HG.out _ _) _ _) ?_ | refine st_of (bk_store (bk_store (bk_store HG.out _ _) _ _) _ _) ?_ | refine st_of (bk_store (bk_store (bk_store (bk_store HG.out _ _) _ _) _ _) _ _) ?_ | refine st_of (bk_store (bk_store (bk_store (bk_store (bk_store HG.out _ _) _ _) _ _) _ _) _ _) ?_ | refine st_of (bk_drew HG.out) ?_ | refine st_of (bk_drew (bk_store HG.out _ _)) ?_ | refine st_of (bk_drew (bk_store (bk_store HG.out _ _) _ _)) ?_ | refine st_of (bk_drew (bk_store (bk_store (bk_store HG.out _ _) _ _) _ _)) ?_ | refine st_of (bk_drew (bk_store (bk_store (bk_store (bk_store HG.out _ _) _ _) _ _) _ _)) ?_ | refine st_of (bk_drew (bk_store (bk_store (bk_store (bk_store (bk_store HG.out _ _) _ _) _ _) _ _) _ _)) ?_ | refine st_of (bk_drew (bk_drew HG.out)) ?_ | refine st_of (bk_drew (bk_drew (bk_store HG.out _ _))) ?_ | refine st_of (bk_drew (bk_drew (bk_store (bk_store HG.out _ _) _ _))) ?_ | refine st_of (bk_drew (bk_drew (bk_store (bk_store (bk_store HG.out _ _) _ _) _ _))) ?_ | refine st_of (bk_drew (bk_drew (bk_store (bk_store (bk_store (bk_store HG.out _ _) _ _) _ _) _ _))) ?_ | refine st_of (bk_drew (bk_drew (bk_store (bk_store (bk_store (bk_store (bk_store HG.out _ _) _ _) _ _) _ _) _ _))) ?_
      rfl
    · repeat' (first | with_reducible exact HB.out | with_reducible refine Only.drew ?_ | with_reducible refine only_set ?_ _ _)
  · have qk : ((22 : Nat) : Int) = 22 := rfl
    rw [qk] at *
    clear qk
    go_enter Tryd.func32, Tryd.ntmps32
    go_upto_region 1 with fail
    refine enter1 fun W hb g0 qq => ?_
    have HG := Lib.hid (blk_below HS.out hb)
    have HB := Lib.hid (Only.of_below (fun k => k = g) hb)
    have HPW := Lib.hid (HP.out.below hb)
    have hne : w.heap.size ≠ g := by omega
    have hG := HG.out
    clear r0 r1 r2 r3 r4 r5 r6 r7 r8 r9 r10 r11 r12 r13 r14 r15 r16 r17 hf hb
    obtain ⟨⟨r0, r1, r2, r3, r4, r5, r6, r7, r8, r9, r10, r11, r12, r13, r14, r15, r16, r17⟩, hf⟩ := cells18 hG
    clear hG
    have q1 : g < W.heap.size := by omega
    obtain ⟨u0, u1, u2, u3⟩ := cells4p g0
    clear g0
    go_wp2_with fail
    refine bodyPost_end (results_none rfl _ _ _) rfl ⟨rfl, ?_, ?_⟩
    · unfold StX
      with_reducible first | refine st_of HG.out ?_ | refine st_of (bk_store HG.out _ _) ?_ | refine st_of (bk_store (bk_store HG.out _ _) _ _) ?_ | refine st_of (bk_store (bk_store (bk_store HG.out _ _) _ _) _ _) ?_ | refine st_of (bk_store (bk_store (bk_store (bk_store HG.out _ _) _ _) _ _) _ _) ?_ | refine st_of (bk_store (bk_store (bk_store (bk_store (bk_store HG.out _ _) _ _) _ _) _ _) _ _) ?_ | refine st_of (bk_drew HG.out) ?_ | refine st_of (bk_drew (bk_store HG.out _ _)) ?_ | refine st_of (bk_drew (bk_store (bk_store HG.out _ _) _ _)) ?_ | refine st_of (bk_drew (bk_store (bk_store (bk_store HG.out _ _) _ _) _ _)) ?_ | refine st_of (bk_drew (bk_store (bk_store (bk_store (bk_store HG.out _ _) _ _) _ _) _ _)) ?_ | refine st_of (bk_drew (bk_store (bk_store (bk_store (bk_store (bk_store HG.out _ _) _ _) _ _) _ _) _ _)) ?_ | refine st_of (bk_drew (bk_drew HG.out)) ?_ | refine st_of (bk_drew (bk_drew (bk_store HG.out _ _))) ?_ | refine st_of (bk_drew (bk_drew (bk_store (bk_store HG.out _ _) _ _))) ?_ | refine st_of (bk_drew (bk_drew (bk_store (bk_store (bk_store HG.out _ _) _ _) _ _))) ?_ | refine st_of (bk_drew (bk_drew (bk_store (bk_store (bk_store (bk_store HG.out _ _) _ _) _ _) _ _))) ?_ | refine st_of (bk_drew (bk_drew (bk_store (bk_store (bk_store (bk_store (bk_store HG.out _ _) _ _) _ _) _ _) _ _))) ?_
      rfl
    · repeat' (first | with_reducible exact HB.out | with_reducible refine Only.drew ?_ | with_reducible refine only_set ?_ _ _)
  · have qk : ((23 : Nat) : Int) = 23 := rfl
    rw [qk] at *
    clear qk
    go_enter Tryd.func32, Tryd.ntmps32
    go_upto_region 1 with fail
    refine enter1 fun W hb g0 qq => ?_
    have HG := Lib.hid (blk_below HS.out hb)
    have HB := Lib.hid (Only.of_below (fun k => k = g) hb)
    have HPW := Lib.hid (HP.out.below hb)
    have hne : w.heap.size ≠ g := by omega
    have hG := HG.out
    clear r0 r1 r2 r3 r4 r5 r6 r7 r8 r9 r10 r11 r12 r13 r14 r15 r16 r17 hf hb
    obtain ⟨⟨r0, r1, r2, r3, r4, r5, r6, r7, r8, r9, r10, r11, r12, r13, r14, r15, r16, r17⟩, hf⟩ := cells18 hG
    clear hG
    have q1 : g < W.heap.size := by omega
    obtain ⟨u0, u1, u2, u3⟩ := cells4p g0
    clear g0
    go_wp2_with fail
    refine bodyPost_end (results_none rfl _ _ _) rfl ⟨rfl, ?_, ?_⟩
    · unfold StX
      with_reducible first | refine st_of HG.out ?_ | refine st_of (bk_store HG.out _ _) ?_ | refine st_of (bk_store (bk_store HG.out _ _) _ _) ?_ | refine st_of (bk_store (bk_store (bk_store HG.out _ _) _ _) _ _) ?_ | refine st_of (bk_store (bk_store (bk_store (bk_store HG.out _ _) _ _) _ _) _ _) ?_ | refine st_of (bk_store (bk_store (bk_store (bk_store (bk_store HG.out _ _) _ _) _ _) _ _) _ _) ?_ | refine st_of (bk_drew HG.out) ?_ | refine st_of (bk_drew (bk_store HG.out _ _)) ?_ | refine st_of (bk_drew (bk_store (bk_store HG.out _ _) _ _)) ?_ | refine st_of (bk_drew (bk_store (bk_store (bk_store HG.out _ _) _ _) _ _)) ?_ | refine st_of (bk_drew (bk_store (bk_store (bk_store (bk_store HG.out _ _) _ _) _ _) _ _)) ?_ | refine st_of (bk_drew (bk_store (bk_store (bk_store (bk_store (bk_store HG.out _ _) _ _) _ _) _ _) _ _)) ?_ | refine st_of (bk_drew (bk_drew HG.out)) ?_ | refine st_of (bk_drew (bk_drew (bk_store HG.out _ _))) ?_ | refine st_of (bk_drew (bk_drew (bk_store (bk_store HG.out _ _) _ _))) ?_ | refine st_of (bk_drew (bk_drew (bk_store (bk_store (bk_store HG.out _ _) _ _) _ _))) ?_ | refine st_of (bk_drew (bk_drew (bk_store (bk_store (bk_store (bk_store HG.out _ _) _ _) _ _) _ _))) ?_ | refine st_of (bk_drew (bk_drew (bk_store (bk_store (bk_store (bk_store (bk_store HG.out _ _) _ _) _ _) _ _) _ _))) ?_
      rfl
    · repeat' (first | with_reducible exact HB.out | with_reducible refine Only.drew ?_ | with_reducible refine only_set ?_ _ _)
  · have qk : ((24 : Nat) : Int) = 24 := rfl
    rw [qk] at *
    clear qk
    go_enter Tryd.func32, Tryd.ntmps32
    go_upto_region 1 with fail
    refine enter1 fun W hb g0 qq => ?_
    have HG := Lib.hid (blk_below HS.out hb)
    have HB := Lib.hid (Only.of_below (fun k => k = g) hb)
    have HPW := Lib.hid (HP.out.below hb)
    have hne : w.heap.size ≠ g := by omega
    have hG := HG.out
    clear r0 r1 r2 r3 r4 r5 r6 r7 r8 r9 r10 r11 r12 r13 r14 r15 r16 r17 hf hb
    obtain ⟨⟨r0, r1, r2, r3, r4, r5, r6, r7, r8, r9, r10, r11, r12, r13, r14, r15, r16, r17⟩, hf⟩ := cells18 hG
    clear hG
    have q1 : g < W.heap.size := by omega
    obtain ⟨u0, u1, u2, u3⟩ := cells4p g0
    clear g0
    go_wp2_with fail
    refine bodyPost_end (results_none rfl _ _ _) rfl ⟨rfl, ?_, ?_⟩
    · unfold StX
      with_reducible first | refine st_of HG.out ?_ | refine st_of (bk_store HG.out _ _) ?_ | refine st_of (bk_store (bk_store HG.out _ _) _ _) ?_ | refine st_of (bk_store (bk_store (bk_store HG.out _ _) _ _) _ _) ?_ | refine st_of (bk_store (bk_store (bk_store (bk_store HG.out _ _) _ _) _ _) _ _) ?_ | refine st_of (bk_store (bk_store (bk_store (bk_store (bk_store HG.out _ _) _ _) _ _) _ _) _ _) ?_ | refine st_of (bk_drew HG.out) ?_ | refine st_of (bk_drew (bk_store HG.out _ _)) ?_ | refine st_of (bk_drew (bk_store (bk_store HG.out _ _) _ _)) ?_ | refine st_of (bk_drew (bk_store (bk_store (bk_store HG.out _ _) _ _) _ _)) ?_ | refine st_of (bk_drew (bk_store (bk_store (bk_store (bk_store HG.out _ _) _ _) _ _) _ _)) ?_ | refine st_of (bk_drew (bk_store (bk_store (bk_store (bk_store (bk_store HG.out _ _) _ _) _ _) _ _) _ _)) ?_ | refine st_of (bk_drew (bk_drew HG.out)) ?_ | refine st_of (bk_drew (bk_drew (bk_store HG.out _ _))) ?_ | refine st_of (bk_drew (bk_drew (bk_store (bk_store HG.out _ _) _ _))) ?_ | refine st_of (bk_drew (bk_drew (bk_store (bk_store (bk_store HG.out _ _) _ _) _ _))) ?_ | refine st_of (bk_drew (bk_drew (bk_store (bk_store (bk_store (bk_store HG.out _ _) _ _) _ _) _ _))) ?_ | refine st_of (bk_drew (bk_drew (bk_store (bk_store (bk_store (bk_store (bk_store HG.out _ _) _ _) _ _) _ _) _ _))) ?_
      rfl
    · repeat' (first | with_reducible exact HB.out | with_reducible refine Only.drew ?_ | with_reducible refine only_set ?_ _ _)
  · have qk : ((25 : Nat) : Int) = 25 := rfl
    rw [qk] at *
    clear qk
    go_enter Tryd.func32, Tryd.ntmps32
    go_upto_region 1 with fail
    refine enter1 fun W hb g0 qq => ?_
    have HG := Lib.hid (blk_below HS.out hb)
    have HB := Lib.hid (Only.of_below (fun k => k = g) hb)
    have HPW := Lib.hid (HP.out.below hb)
    have hne : w.heap.size ≠ g := by omega
    have hG := HG.out
    clear r0 r1 r2 r3 r4 r5 r6 r7 r8 r9 r10 r11 r12 r13 r14 r15 r16 r17 hf hb
    obtain ⟨⟨r0, r1, r2, r3, r4, r5, r6, r7, r8, r9, r10, r11, r12, r13, r14, r15, r16, r17⟩, hf⟩ := cells18 hG
    clear hG
    have q1 : g < W.heap.size := by omega
    obtain ⟨u0, u1, u2, u3⟩ := cells4p g0
    clear g0
    go_wp2_with fail
    refine bodyPost_end (results_none rfl _ _ _) rfl ⟨rfl, ?_, ?_⟩
    · unfold StX
      with_reducible first | refine st_of HG.out ?_ | refine st_of (bk_store HG.out _ _) ?_ | refine st_of (bk_store (bk_store HG.out _ _) _ _) ?_ | refine st_of (bk_store (bk_store (bk_store HG.out _ _) _ _) _ _) ?_ | refine st_of (bk_store (bk_store (bk_store (bk_store HG.out _ _) _ _) _ _) _ _) ?_ | refine st_of (bk_store (bk_store (bk_store (bk_store (bk_store HG.out _ _) _ _) _ _) _ _) _ _) ?_ | refine st_of (bk_drew HG.out) ?_ | refine st_of (bk_drew (bk_store HG.out _ _)) ?_ | refine st_of (bk_drew (bk_store (bk_store HG.out _ _) _ _)) ?_ | refine st_of (bk_drew (bk_store (bk_store (bk_store HG.out _ _) _ _) _ _)) ?_ | refine st_of (bk_drew (bk_store (bk_store (bk_store (bk_store HG.out _ _) _ _) _ _) _ _)) ?_ | refine st_of (bk_drew (bk_store (bk_store (bk_store (bk_store (bk_store HG.out _ _) _ _) _ _) _ _) _ _)) ?_ | refine st_of (bk_drew (bk_drew HG.out)) ?_ | refine st_of (bk_drew (bk_drew (bk_store HG.out _ _))) ?_ | refine st_of (bk_drew (bk_drew (bk_store (bk_store HG.out _ _) _ _))) ?_ | refine st_of (bk_drew (bk_drew (bk_store (bk_store (bk_store HG.out _ _) _ _) _ _))) ?_ | refine st_of (bk_drew (bk_drew (bk_store (bk_store (bk_store (bk_store HG.out _ _) _ _) _ _) _ _))) ?_ | refine st_of (bk_drew (bk_drew (bk_store (bk_store (bk_store (bk_store (bk_store HG.out _ _) _ _) _ _) _ _) _ _))) ?_
      rfl
    · repeat' (first | with_reducible exact HB.out | with_reducible refine Only.drew ?_ | with_reducible refine only_set ?_ _ _)

end Go.Proofs.YtmkehailohgebaaDoor
