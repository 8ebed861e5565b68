/- The program of an index, the program's own: its way down, its start. -/
import Derived.Test.YtmkehailohgebaaDoorTpD
import Derived.BigRegion
import Derived.BigQuiet
import Derived.Deep.DeepCutAuto
namespace Go.Proofs.YtmkehailohgebaaDoor
open Go.RowKit Go.Lib Pt Opn

set_option maxRecDepth 100000 in
set_option maxHeartbeats 8000000 in
theorem pFoundX_any (c : Cf) (L : Value) (g : Nat) (f : Ds)  (hk : f.kind = 4 ∨ f.kind = 5 ∨ f.kind = 6 ∨ f.kind = 7 ∨ f.kind = 8) (hn : f.n < 256) (hp : f.p < 255) (hj : f.j < 255) (hxx : f.x < 4294967296) (hy : f.y < 4294967296) (w : World) (hs : StX c L g f 0 0 false w) :
    Calls Tryd.prog 107 #[.pointer (some ⟨g, 0, none⟩)] w (TurnX c L g (foundX c f).1 (toldX (foundX c f)).1 (toldX (foundX c f)).2 (foundX c f).2 w) := by
  obtain ⟨X, hX⟩ : ∃ X, (foundX c f) = X := ⟨_, rfl⟩
  rw [hX]
  unfold StX stO at hs
  have HS := Lib.hid hs
  have q0 := (Array.getElem?_eq_some_iff.1 hs).1
  obtain ⟨⟨r0, r1, r2, r3, r4, r5, r6, r7, r8, r9, r10, r11, r12, r13, r14, r15, r16, r17⟩, hf⟩ := cells18 hs
  clear hs
  obtain ⟨tg, k, seq, kind, a, b, pc, i, j, n, p, h, x, y⟩ := f
  simp only at * 
  by_cases k8 : kind = 8
  · subst k8
    have hX2 : onX c ⟨tg, k, seq, 8, a, b, pc, i, j, n, p, h, x, y⟩ = X := by rw [← hX]; rfl
    clear hX
    subst hX2
    have qk : ((8 : Nat) : Int) = 8 := rfl
    rw [qk] at *
    clear qk
    go_enter Tryd.func107, Tryd.ntmps107
    go_wp2_with fail
    go_wp2_with (go_at_call 70; refine (pScanX_any c L g ⟨tg, k, seq, 8, a, b, pc, i, j, n, p, h, x, y⟩ hn hp hj hxx hy _ (by unfold StX; (with_reducible first | refine st_of HS.out ?_ | refine st_of (bk_store HS.out _ _) ?_ | refine st_of (bk_store (bk_store HS.out _ _) _ _) ?_ | refine st_of (bk_store (bk_store (bk_store HS.out _ _) _ _) _ _) ?_ | refine st_of (bk_store (bk_store (bk_store (bk_store HS.out _ _) _ _) _ _) _ _) ?_ | refine st_of (bk_drew HS.out) ?_ | refine st_of (bk_drew (bk_store HS.out _ _)) ?_ | refine st_of (bk_drew (bk_store (bk_store HS.out _ _) _ _)) ?_ | refine st_of (bk_drew (bk_store (bk_store (bk_store HS.out _ _) _ _) _ _)) ?_ | refine st_of (bk_drew (bk_store (bk_store (bk_store (bk_store HS.out _ _) _ _) _ _) _ _)) ?_); rfl)).mono ?_; rintro e W1 ⟨rfl, h1, o1⟩; have HO1 := Lib.hid (Only.trans (C := fun k => k = g) (A := w) (by repeat' (first | with_reducible exact Only.refl _ _ | with_reducible refine Only.drew ?_ | with_reducible refine only_set ?_ _ _)) o1); have HT1 := Lib.hid h1; clear h1 o1)
    refine bodyPost_end (results_none rfl _ _ _) rfl ⟨rfl, ?_, ?_⟩
    · exact HT1.out
    · exact HO1.out
  have hk4 : kind = 4 ∨ kind = 5 ∨ kind = 6 ∨ kind = 7 := by omega
  have k8' : ((kind : Int) == 8) = false := by simp; omega
  clear k8
  by_cases ea : x = a
  · have e2 : ((x : Int) == (a : Int)) = true := by simp [ea]
    have HC := Lib.hid (fun W hs => pHit_any c L g ⟨tg, k, seq, kind, a, b, pc, i, j, n, p, h, x, y⟩ hk4 ea hp hxx hy W hs)
    rw [hX] at HC
    clear hX ea hk4 hk
    go_enter Tryd.func107, Tryd.ntmps107
    go_wp2_with fail
    repeat (go_region; try go_wp2_with fail)
    go_wp2_with (go_at_call 127; refine (HC.out _ (by unfold StX; (with_reducible first | refine st_of HS.out ?_ | refine st_of (bk_store HS.out _ _) ?_ | refine st_of (bk_store (bk_store HS.out _ _) _ _) ?_ | refine st_of (bk_store (bk_store (bk_store HS.out _ _) _ _) _ _) ?_ | refine st_of (bk_store (bk_store (bk_store (bk_store HS.out _ _) _ _) _ _) _ _) ?_ | refine st_of (bk_drew HS.out) ?_ | refine st_of (bk_drew (bk_store HS.out _ _)) ?_ | refine st_of (bk_drew (bk_store (bk_store HS.out _ _) _ _)) ?_ | refine st_of (bk_drew (bk_store (bk_store (bk_store HS.out _ _) _ _) _ _)) ?_ | refine st_of (bk_drew (bk_store (bk_store (bk_store (bk_store HS.out _ _) _ _) _ _) _ _)) ?_); rfl)).mono ?_; rintro e W1 ⟨rfl, h1, o1⟩; have HO1 := Lib.hid (Only.trans (C := fun k => k = g) (A := w) (by repeat' (first | with_reducible exact Only.refl _ _ | with_reducible refine Only.drew ?_ | with_reducible refine only_set ?_ _ _)) o1); have HT1 := Lib.hid h1; clear h1 o1)
    refine bodyPost_end (results_none rfl _ _ _) rfl ⟨rfl, ?_, ?_⟩
    · exact HT1.out
    · exact HO1.out
  · have e2 : ((x : Int) == (a : Int)) = false := by simp; omega
    rw [found_miss (f := ⟨tg, k, seq, kind, a, b, pc, i, j, n, p, h, x, y⟩) hk4 ea] at hX
    subst hX
    have HC := Lib.hid (fun W hs => pMiss_any c L g ⟨tg, k, seq, kind, a, b, pc, i, j, n, p, h, x, y⟩ 0 0 false hk hn W hs)
    clear ea hk4 hk
    go_enter Tryd.func107, Tryd.ntmps107
    go_wp2_with fail
    repeat (go_region; try go_wp2_with fail)
    go_wp2_with (go_at_call 126; refine (HC.out _ (by unfold StX; (with_reducible first | refine st_of HS.out ?_ | refine st_of (bk_store HS.out _ _) ?_ | refine st_of (bk_store (bk_store HS.out _ _) _ _) ?_ | refine st_of (bk_store (bk_store (bk_store HS.out _ _) _ _) _ _) ?_ | refine st_of (bk_store (bk_store (bk_store (bk_store HS.out _ _) _ _) _ _) _ _) ?_ | refine st_of (bk_drew HS.out) ?_ | refine st_of (bk_drew (bk_store HS.out _ _)) ?_ | refine st_of (bk_drew (bk_store (bk_store HS.out _ _) _ _)) ?_ | refine st_of (bk_drew (bk_store (bk_store (bk_store HS.out _ _) _ _) _ _)) ?_ | refine st_of (bk_drew (bk_store (bk_store (bk_store (bk_store HS.out _ _) _ _) _ _) _ _)) ?_); rfl)).mono ?_; rintro e W1 ⟨rfl, h1, o1⟩; have HO1 := Lib.hid (Only.trans (C := fun k => k = g) (A := w) (by repeat' (first | with_reducible exact Only.refl _ _ | with_reducible refine Only.drew ?_ | with_reducible refine only_set ?_ _ _)) o1); have HT1 := Lib.hid h1; clear h1 o1)
    refine bodyPost_end (results_none rfl _ _ _) rfl ⟨rfl, ?_, ?_⟩
    · exact HT1.out
    · exact HO1.out
set_option maxRecDepth 100000 in
set_option maxHeartbeats 8000000 in
theorem pNoneX_any (c : Cf) (L : Value) (g : Nat) (f : Ds) (rk rv : Nat) (t : Bool) (hk : f.kind = 4 ∨ f.kind = 5 ∨ f.kind = 6 ∨ f.kind = 7 ∨ f.kind = 8) (hn : f.n < 256) (w : World) (hs : StX c L g f rk rv t w) :
    Calls Tryd.prog 105 #[.pointer (some ⟨g, 0, none⟩)] w (TurnX c L g (noneX c f) rk rv t w) := by
  obtain ⟨X, hX⟩ : ∃ X, (noneX c f) = X := ⟨_, rfl⟩
  rw [hX]
  unfold StX stO at hs
  have HS := Lib.hid hs
  have q0 := (Array.getElem?_eq_some_iff.1 hs).1
  obtain ⟨⟨r0, r1, r2, r3, r4, r5, r6, r7, r8, r9, r10, r11, r12, r13, r14, r15, r16, r17⟩, hf⟩ := cells18 hs
  clear hs
  obtain ⟨tg, k, seq, kind, a, b, pc, i, j, n, p, h, x, y⟩ := f
  simp only at * 
  rw [noneX_miss] at hX
  subst hX
  have HC := Lib.hid (fun W hs => pMiss_any c L g ⟨tg, k, seq, kind, a, b, pc, i, j, n, n, h, x, y⟩ rk rv t hk hn W hs)
  clear hk
  go_enter Tryd.func105, Tryd.ntmps105
  go_wp2_with fail
  go_wp2_with (go_at_call 126; refine (HC.out _ (by unfold StX; (with_reducible first | refine st_of HS.out ?_ | refine st_of (bk_store HS.out _ _) ?_ | refine st_of (bk_store (bk_store HS.out _ _) _ _) ?_ | refine st_of (bk_store (bk_store (bk_store HS.out _ _) _ _) _ _) ?_ | refine st_of (bk_store (bk_store (bk_store (bk_store HS.out _ _) _ _) _ _) _ _) ?_ | refine st_of (bk_drew HS.out) ?_ | refine st_of (bk_drew (bk_store HS.out _ _)) ?_ | refine st_of (bk_drew (bk_store (bk_store HS.out _ _) _ _)) ?_ | refine st_of (bk_drew (bk_store (bk_store (bk_store HS.out _ _) _ _) _ _)) ?_ | refine st_of (bk_drew (bk_store (bk_store (bk_store (bk_store HS.out _ _) _ _) _ _) _ _)) ?_); rfl)).mono ?_; rintro e W1 ⟨rfl, h1, o1⟩; have HO1 := Lib.hid (Only.trans (C := fun k => k = g) (A := w) (by repeat' (first | with_reducible exact Only.refl _ _ | with_reducible refine Only.drew ?_ | with_reducible refine only_set ?_ _ _)) o1); have HT1 := Lib.hid h1; clear h1 o1)
  refine bodyPost_end (results_none rfl _ _ _) rfl ⟨rfl, ?_, ?_⟩
  · exact HT1.out
  · exact HO1.out
def rightX (c : Cf) (f : Ds) : Ds := if (f.i + 1) % c.node.toNat = 0 ∨ upX c f.n f.h ≤ f.i + 1 then noneX c f else { f with i := f.i + 1 }
set_option maxRecDepth 100000 in
set_option maxHeartbeats 8000000 in
theorem pRightX_any {c : Cf} {C N K : Nat} (s : SzX c C N K) (L : Value) (g : Nat) (f : Ds) (rk rv : Nat) (t : Bool) (hk : f.kind = 4 ∨ f.kind = 5 ∨ f.kind = 6 ∨ f.kind = 7 ∨ f.kind = 8) (hn : f.n ≤ C) (hh : f.h ≤ 4) (hi : f.i < 250) (w : World) (hP : Pow w) (hs : StX c L g f rk rv t w) :
    Calls Tryd.prog 106 #[.pointer (some ⟨g, 0, none⟩)] w (TurnX c L g (rightX c f) rk rv t w) := by
  have c2 := s.c2
  have n1 := s.n1
  have n2 := s.n2
  have HN := Lib.hid (fun W hp => pNowX_any s L f (by omega) hh W hp)
  have HM := Lib.hid (fun W hs => pNoneX_any c L g f rk rv t hk (by omega) W hs)
  obtain ⟨X, hX⟩ : ∃ X, rightX c f = X := ⟨_, rfl⟩
  rw [hX]
  unfold rightX at hX
  rw [s.node, Int.toNat_natCast] at hX
  generalize upX c f.n f.h = U at *
  have HP := Lib.hid hP
  have sn := s.node
  clear s hP
  unfold shX frv at HN
  rw [sn] at HN
  unfold StX stO at hs
  have HS := Lib.hid hs
  have q0 := (Array.getElem?_eq_some_iff.1 hs).1
  obtain ⟨⟨r0, r1, r2, r3, r4, r5, r6, r7, r8, r9, r10, r11, r12, r13, r14, r15, r16, r17⟩, hf⟩ := cells18 hs
  clear hs
  rw [sn] at r1
  obtain ⟨tg, k, seq, kind, a, b, pc, i, j, n, p, h, x, y⟩ := f
  simp only at * 
  have i1 : IntKind.i64.wrap ((i : Int) + 1) = (i : Int) + 1 := by rw [IntKind.wrap_i64]; omega
  have hN0 : ((N : Nat) : Int) ≠ 0 := by omega
  have hmod : ((i : Int) + 1) % (N : Int) = (((i + 1) % N : Nat) : Int) := by push_cast; rfl
  have p1 : IntKind.u8.wrap ((i : Int) + 1) = (i : Int) + 1 := by rw [IntKind.wrap_u8]; omega
  by_cases e1 : (i + 1) % N = 0
  · rw [if_pos (.inl e1)] at hX
    subst hX
    rw [e1] at hmod
    go_enter Tryd.func106, Tryd.ntmps106
    go_wp2_with fail
    refine wp_region_quiet_reads (by kernel_rfl) (by kernel_rfl) fun HR => ?_
    repeat (go_big_quiet_step (first | with_reducible exact Calls.regrown_of (HN.out _ (HP.out.below (below_regrown _ _ _)))))
    refine wpQuiet_nil ?_
    intro Q1 hw'
    obtain ⟨⟨dq, osq⟩, hw''⟩ := hw'
    have hbq1 : Below w.heap.size w Q1 := by rw [hw'']; exact below_regrown _ dq osq
    clear hw'' HR dq osq 
    have HQ1 := Lib.hid (blk_below HS.out hbq1)
    have hq := HQ1.out
    obtain ⟨⟨r0, r1, r2, r3, r4, r5, r6, r7, r8, r9, r10, r11, r12, r13, r14, r15, r16, r17⟩, hf⟩ := cells18 hq
    have q0 : g < Q1.heap.size := (Array.getElem?_eq_some_iff.1 hq).1
    clear hq
    have HB := Lib.hid (Only.of_below (fun k => k = g) hbq1)
    clear hbq1
    go_wp2_with (go_at_call 105; refine (HM.out _ (by unfold StX; (with_reducible first | refine st_of HQ1.out ?_ | refine st_of (bk_store HQ1.out _ _) ?_ | refine st_of (bk_store (bk_store HQ1.out _ _) _ _) ?_ | refine st_of (bk_store (bk_store (bk_store HQ1.out _ _) _ _) _ _) ?_ | refine st_of (bk_store (bk_store (bk_store (bk_store HQ1.out _ _) _ _) _ _) _ _) ?_ | refine st_of (bk_drew HQ1.out) ?_ | refine st_of (bk_drew (bk_store HQ1.out _ _)) ?_ | refine st_of (bk_drew (bk_store (bk_store HQ1.out _ _) _ _)) ?_ | refine st_of (bk_drew (bk_store (bk_store (bk_store HQ1.out _ _) _ _) _ _)) ?_ | refine st_of (bk_drew (bk_store (bk_store (bk_store (bk_store HQ1.out _ _) _ _) _ _) _ _)) ?_); rfl)).mono ?_; rintro e W1 ⟨rfl, h1, o1⟩; have HO1 := Lib.hid (Only.trans (C := fun k => k = g) (A := w) (by repeat' (first | with_reducible exact HB.out | with_reducible refine Only.drew ?_ | with_reducible refine only_set ?_ _ _)) o1); have HT1 := Lib.hid h1; clear h1 o1)
    refine bodyPost_ret (results_none rfl _ _ _) rfl ⟨rfl, ?_, ?_⟩
    · exact HT1.out
    · exact HO1.out
  · have e2 : ((((i + 1) % N : Nat) : Int) == 0) = false := by simp; omega
    generalize (i + 1) % N = md at *
    by_cases e3 : U ≤ i + 1
    · rw [if_pos (.inr e3)] at hX
      subst hX
      have e4 : (U : Int) ≤ (i : Int) + 1 := by omega
      clear e3
      go_enter Tryd.func106, Tryd.ntmps106
      go_wp2_with fail
      refine wp_region_quiet_reads (by kernel_rfl) (by kernel_rfl) fun HR => ?_
      repeat (go_big_quiet_step (first | with_reducible exact Calls.regrown_of (HN.out _ (HP.out.below (below_regrown _ _ _)))))
      refine wpQuiet_nil ?_
      intro Q1 hw'
      obtain ⟨⟨dq, osq⟩, hw''⟩ := hw'
      have hbq1 : Below w.heap.size w Q1 := by rw [hw'']; exact below_regrown _ dq osq
      clear hw'' HR dq osq 
      have HQ1 := Lib.hid (blk_below HS.out hbq1)
      have hq := HQ1.out
      obtain ⟨⟨r0, r1, r2, r3, r4, r5, r6, r7, r8, r9, r10, r11, r12, r13, r14, r15, r16, r17⟩, hf⟩ := cells18 hq
      have q0 : g < Q1.heap.size := (Array.getElem?_eq_some_iff.1 hq).1
      clear hq
      have HB := Lib.hid (Only.of_below (fun k => k = g) hbq1)
      clear hbq1
      go_wp2_with (go_at_call 105; refine (HM.out _ (by unfold StX; (with_reducible first | refine st_of HQ1.out ?_ | refine st_of (bk_store HQ1.out _ _) ?_ | refine st_of (bk_store (bk_store HQ1.out _ _) _ _) ?_ | refine st_of (bk_store (bk_store (bk_store HQ1.out _ _) _ _) _ _) ?_ | refine st_of (bk_store (bk_store (bk_store (bk_store HQ1.out _ _) _ _) _ _) _ _) ?_ | refine st_of (bk_drew HQ1.out) ?_ | refine st_of (bk_drew (bk_store HQ1.out _ _)) ?_ | refine st_of (bk_drew (bk_store (bk_store HQ1.out _ _) _ _)) ?_ | refine st_of (bk_drew (bk_store (bk_store (bk_store HQ1.out _ _) _ _) _ _)) ?_ | refine st_of (bk_drew (bk_store (bk_store (bk_store (bk_store HQ1.out _ _) _ _) _ _) _ _)) ?_); rfl)).mono ?_; rintro e W1 ⟨rfl, h1, o1⟩; have HO1 := Lib.hid (Only.trans (C := fun k => k = g) (A := w) (by repeat' (first | with_reducible exact HB.out | with_reducible refine Only.drew ?_ | with_reducible refine only_set ?_ _ _)) o1); have HT1 := Lib.hid h1; clear h1 o1)
      refine bodyPost_ret (results_none rfl _ _ _) rfl ⟨rfl, ?_, ?_⟩
      · exact HT1.out
      · exact HO1.out
    · rw [if_neg (by omega)] at hX
      subst hX
      have e4 : ¬ (U : Int) ≤ (i : Int) + 1 := by omega
      clear e3
      go_enter Tryd.func106, Tryd.ntmps106
      go_wp2_with fail
      refine wp_region_quiet_reads (by kernel_rfl) (by kernel_rfl) fun HR => ?_
      repeat (go_big_quiet_step (first | with_reducible exact Calls.regrown_of (HN.out _ (HP.out.below (below_regrown _ _ _)))))
      refine wpQuiet_nil ?_
      intro Q1 hw'
      obtain ⟨⟨dq, osq⟩, hw''⟩ := hw'
      have hbq1 : Below w.heap.size w Q1 := by rw [hw'']; exact below_regrown _ dq osq
      clear hw'' HR dq osq 
      have HQ1 := Lib.hid (blk_below HS.out hbq1)
      have hq := HQ1.out
      obtain ⟨⟨r0, r1, r2, r3, r4, r5, r6, r7, r8, r9, r10, r11, r12, r13, r14, r15, r16, r17⟩, hf⟩ := cells18 hq
      have q0 : g < Q1.heap.size := (Array.getElem?_eq_some_iff.1 hq).1
      clear hq
      have HB := Lib.hid (Only.of_below (fun k => k = g) hbq1)
      clear hbq1
      go_wp2_with fail
      refine bodyPost_end (results_none rfl _ _ _) rfl ⟨rfl, ?_, ?_⟩
      · unfold StX
        with_reducible first | refine st_of HQ1.out ?_ | refine st_of (bk_store HQ1.out _ _) ?_ | refine st_of (bk_store (bk_store HQ1.out _ _) _ _) ?_ | refine st_of (bk_store (bk_store (bk_store HQ1.out _ _) _ _) _ _) ?_ | refine st_of (bk_store (bk_store (bk_store (bk_store HQ1.out _ _) _ _) _ _) _ _) ?_ | refine st_of (bk_store (bk_store (bk_store (bk_store (bk_store HQ1.out _ _) _ _) _ _) _ _) _ _) ?_ | refine st_of (bk_drew HQ1.out) ?_ | refine st_of (bk_drew (bk_store HQ1.out _ _)) ?_ | refine st_of (bk_drew (bk_store (bk_store HQ1.out _ _) _ _)) ?_ | refine st_of (bk_drew (bk_store (bk_store (bk_store HQ1.out _ _) _ _) _ _)) ?_ | refine st_of (bk_drew (bk_store (bk_store (bk_store (bk_store HQ1.out _ _) _ _) _ _) _ _)) ?_ | refine st_of (bk_drew (bk_store (bk_store (bk_store (bk_store (bk_store HQ1.out _ _) _ _) _ _) _ _) _ _)) ?_ | refine st_of (bk_drew (bk_drew HQ1.out)) ?_ | refine st_of (bk_drew (bk_drew (bk_store HQ1.out _ _))) ?_ | refine st_of (bk_drew (bk_drew (bk_store (bk_store HQ1.out _ _) _ _))) ?_ | refine st_of (bk_drew (bk_drew (bk_store (bk_store (bk_store HQ1.out _ _) _ _) _ _))) ?_ | refine st_of (bk_drew (bk_drew (bk_store (bk_store (bk_store (bk_store HQ1.out _ _) _ _) _ _) _ _))) ?_ | refine st_of (bk_drew (bk_drew (bk_store (bk_store (bk_store (bk_store (bk_store HQ1.out _ _) _ _) _ _) _ _) _ _))) ?_
        rfl
      · repeat' (first | with_reducible exact HB.out | with_reducible refine Only.drew ?_ | with_reducible refine only_set ?_ _ _)
end Go.Proofs.YtmkehailohgebaaDoor
