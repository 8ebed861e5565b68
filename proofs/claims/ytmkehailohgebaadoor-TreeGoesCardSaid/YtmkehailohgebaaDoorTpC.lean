/- The program of an index, the program's own: does anything stay on a level; up. -/
import Derived.Test.YtmkehailohgebaaDoorTpB
import Derived.Test.YtmkehailohgebaaDoorTpS
import Derived.BigRegion
import Derived.BigQuiet
import Derived.Deep.DeepCutAuto
import Derived.ScopeJumps
import Derived.WalkMore
namespace Go.Proofs.YtmkehailohgebaaDoor
open Go.RowKit Go.Lib Pt Opn

theorem Pow.only {g : Nat} {W X : World} (h : Pow W) (o : Only (fun k => k = g) W X) (hg : g ≠ 1) : Pow X := fun j hj => o.cell (h j hj) (fun e => hg e.symm)
/-- Does anything stay on the level? -/
def staysX (c : Cf) (f : Ds) : Ds × Bool := if f.i < upX c f.n f.h then ({ f with pc := 9 }, true) else if clearsX c f = true then ({ f with pc := 12 }, true) else (f, false)
def TurnB (c : Cf) (L : Value) (g : Nat) (r : Ds × Bool) (rk rv : Nat) (t : Bool) (w : World) (e : Ending) (w' : World) : Prop := e = .returned (.bool r.2) ∧ StX c L g r.1 rk rv t w' ∧ Only (fun k => k = g) w w'

set_option maxRecDepth 100000 in
set_option maxHeartbeats 8000000 in
theorem pStaysX_any {c : Cf} {C N K : Nat} (s : SzX c C N K) (L : Value) (g : Nat) (f : Ds) (rk rv : Nat) (t : Bool) (hn : f.n ≤ C) (hh : f.h ≤ 4) (hi : f.i < 256) (hk : f.kind < 256) (w : World) (hP : Pow w) (hs : StX c L g f rk rv t w) :
    Calls Tryd.prog 109 #[.pointer (some ⟨g, 0, none⟩)] w (TurnB c L g (staysX c f) rk rv t w) := by
  have c2 := s.c2
  have HN := Lib.hid (fun W hp => pNowX_any s L f (by omega) hh W hp)
  have HV := Lib.hid (fun W hp => pBeforeX_any s L f hn hh W hp)
  obtain ⟨X, hX⟩ : ∃ X, staysX c f = X := ⟨_, rfl⟩
  rw [hX]
  unfold staysX clearsX at hX
  have hU1 : upX c f.n f.h ≤ 32 := by rw [s.up]; exact Rk.items_le (by omega) s.n1 s.n2 hh
  have hV1 : upX c (if (f.n : Int) < c.cap then f.n + 1 else f.n) f.h ≤ 32 := by rw [s.up]; exact Rk.items_le (by rw [s.cap]; split <;> omega) s.n1 s.n2 hh
  generalize upX c f.n f.h = U at *
  generalize upX c (if (f.n : Int) < c.cap then f.n + 1 else f.n) f.h = V at *
  have HP := Lib.hid hP
  clear s hP
  unfold shX frv at HN HV
  unfold StX stO at hs
  have HS := Lib.hid hs
  have q0 := (Array.getElem?_eq_some_iff.1 hs).1
  obtain ⟨⟨r0, r1, r2, r3, r4, r5, r6, r7, r8, r9, r10, r11, r12, r13, r14, r15, r16, r17⟩, hf⟩ := cells18 hs
  clear hs
  obtain ⟨tg, k, seq, kind, a, b, pc, i, j, n, p, h, x, y⟩ := f
  simp only at * 
  go_enter Tryd.func109, Tryd.ntmps109
  go_wp2_with fail
  refine wp_region_quiet_reads (by kernel_rfl) (by kernel_rfl) fun HR => ?_
  repeat (go_big_quiet_step (first | with_reducible exact Calls.regrown_of (HN.out _ (HP.out.below (below_regrown _ _ _)))))
  refine wpQuiet_nil ?_
  intro Q1 hw'
  obtain ⟨⟨dq, osq⟩, hw''⟩ := hw'
  have hbq1 : Below w.heap.size w Q1 := by rw [hw'']; exact below_regrown _ dq osq
  clear hw'' HR dq osq 
  have HQ1 := Lib.hid (blk_below HS.out hbq1)
  have hq := HQ1.out
  obtain ⟨⟨r0, r1, r2, r3, r4, r5, r6, r7, r8, r9, r10, r11, r12, r13, r14, r15, r16, r17⟩, hf⟩ := cells18 hq
  have q0 : g < Q1.heap.size := (Array.getElem?_eq_some_iff.1 hq).1
  clear hq
  have HB := Lib.hid (Only.of_below (fun k => k = g) hbq1)
  have HP1 := Lib.hid (HP.out.below hbq1)
  clear hbq1
  by_cases e1 : i < U
  · rw [if_pos e1] at hX
    subst hX
    have e2 : (i : Int) < (U : Int) := by omega
    clear e1
    go_wp2_with fail
    repeat (go_region; try go_wp2_with fail)
    go_ret
    refine ⟨rfl, ?_, ?_⟩
    · unfold StX
      with_reducible first | refine st_of HQ1.out ?_ | refine st_of (bk_store HQ1.out _ _) ?_ | refine st_of (bk_store (bk_store HQ1.out _ _) _ _) ?_ | refine st_of (bk_store (bk_store (bk_store HQ1.out _ _) _ _) _ _) ?_ | refine st_of (bk_store (bk_store (bk_store (bk_store HQ1.out _ _) _ _) _ _) _ _) ?_ | refine st_of (bk_store (bk_store (bk_store (bk_store (bk_store HQ1.out _ _) _ _) _ _) _ _) _ _) ?_ | refine st_of (bk_drew HQ1.out) ?_ | refine st_of (bk_drew (bk_store HQ1.out _ _)) ?_ | refine st_of (bk_drew (bk_store (bk_store HQ1.out _ _) _ _)) ?_ | refine st_of (bk_drew (bk_store (bk_store (bk_store HQ1.out _ _) _ _) _ _)) ?_ | refine st_of (bk_drew (bk_store (bk_store (bk_store (bk_store HQ1.out _ _) _ _) _ _) _ _)) ?_ | refine st_of (bk_drew (bk_store (bk_store (bk_store (bk_store (bk_store HQ1.out _ _) _ _) _ _) _ _) _ _)) ?_ | refine st_of (bk_drew (bk_drew HQ1.out)) ?_ | refine st_of (bk_drew (bk_drew (bk_store HQ1.out _ _))) ?_ | refine st_of (bk_drew (bk_drew (bk_store (bk_store HQ1.out _ _) _ _))) ?_ | refine st_of (bk_drew (bk_drew (bk_store (bk_store (bk_store HQ1.out _ _) _ _) _ _))) ?_ | refine st_of (bk_drew (bk_drew (bk_store (bk_store (bk_store (bk_store HQ1.out _ _) _ _) _ _) _ _))) ?_ | refine st_of (bk_drew (bk_drew (bk_store (bk_store (bk_store (bk_store (bk_store HQ1.out _ _) _ _) _ _) _ _) _ _))) ?_
      rfl
    · repeat' (first | with_reducible exact HB.out | with_reducible refine Only.drew ?_ | with_reducible refine only_set ?_ _ _)
  · rw [if_neg e1] at hX
    have e2 : ¬ (i : Int) < (U : Int) := by omega
    clear e1
    by_cases e5 : kind = 5
    · subst e5
      have qk : ((5 : Nat) : Int) = 5 := rfl
      rw [qk] at *
      clear qk
      by_cases e3 : U < V
      · rw [if_pos (decide_eq_true ⟨rfl, e3⟩)] at hX
        subst hX
        have e4 : (U : Int) < (V : Int) := by omega
        clear e3
        go_wp2_with fail
        refine wp_region_quiet_reads (by kernel_rfl) (by kernel_rfl) fun HR => ?_
        repeat (go_big_quiet_step (first | with_reducible exact Calls.regrown_of (HV.out _ (HP1.out.below (below_regrown _ _ _)))))
        refine wpQuiet_nil ?_
        intro Q2 hw'
        obtain ⟨⟨dq, osq⟩, hw''⟩ := hw'
        have hbq2 : Below Q1.heap.size Q1 Q2 := by rw [hw'']; exact below_regrown _ dq osq
        clear hw'' HR dq osq r0 r1 r2 r3 r4 r5 r6 r7 r8 r9 r10 r11 r12 r13 r14 r15 r16 r17 hf q0
        have HQ2 := Lib.hid (blk_below HQ1.out hbq2)
        have hq := HQ2.out
        obtain ⟨⟨r0, r1, r2, r3, r4, r5, r6, r7, r8, r9, r10, r11, r12, r13, r14, r15, r16, r17⟩, hf⟩ := cells18 hq
        have q0 : g < Q2.heap.size := (Array.getElem?_eq_some_iff.1 hq).1
        clear hq
        have HB2 := Lib.hid (HB.out.trans (Only.of_below (fun k => k = g) hbq2))
        clear hbq2
        go_wp2_with fail
        repeat (go_region; try go_wp2_with fail)
        go_ret
        refine ⟨rfl, ?_, ?_⟩
        · unfold StX
          with_reducible first | refine st_of HQ2.out ?_ | refine st_of (bk_store HQ2.out _ _) ?_ | refine st_of (bk_store (bk_store HQ2.out _ _) _ _) ?_ | refine st_of (bk_store (bk_store (bk_store HQ2.out _ _) _ _) _ _) ?_ | refine st_of (bk_store (bk_store (bk_store (bk_store HQ2.out _ _) _ _) _ _) _ _) ?_ | refine st_of (bk_store (bk_store (bk_store (bk_store (bk_store HQ2.out _ _) _ _) _ _) _ _) _ _) ?_ | refine st_of (bk_drew HQ2.out) ?_ | refine st_of (bk_drew (bk_store HQ2.out _ _)) ?_ | refine st_of (bk_drew (bk_store (bk_store HQ2.out _ _) _ _)) ?_ | refine st_of (bk_drew (bk_store (bk_store (bk_store HQ2.out _ _) _ _) _ _)) ?_ | refine st_of (bk_drew (bk_store (bk_store (bk_store (bk_store HQ2.out _ _) _ _) _ _) _ _)) ?_ | refine st_of (bk_drew (bk_store (bk_store (bk_store (bk_store (bk_store HQ2.out _ _) _ _) _ _) _ _) _ _)) ?_ | refine st_of (bk_drew (bk_drew HQ2.out)) ?_ | refine st_of (bk_drew (bk_drew (bk_store HQ2.out _ _))) ?_ | refine st_of (bk_drew (bk_drew (bk_store (bk_store HQ2.out _ _) _ _))) ?_ | refine st_of (bk_drew (bk_drew (bk_store (bk_store (bk_store HQ2.out _ _) _ _) _ _))) ?_ | refine st_of (bk_drew (bk_drew (bk_store (bk_store (bk_store (bk_store HQ2.out _ _) _ _) _ _) _ _))) ?_ | refine st_of (bk_drew (bk_drew (bk_store (bk_store (bk_store (bk_store (bk_store HQ2.out _ _) _ _) _ _) _ _) _ _))) ?_
          rfl
        · repeat' (first | with_reducible exact HB2.out | with_reducible refine Only.drew ?_ | with_reducible refine only_set ?_ _ _)
      · rw [if_neg (by simp; omega)] at hX
        subst hX
        have e4 : ¬ (U : Int) < (V : Int) := by omega
        clear e3
        go_wp2_with fail
        refine wp_region_quiet_reads (by kernel_rfl) (by kernel_rfl) fun HR => ?_
        repeat (go_big_quiet_step (first | with_reducible exact Calls.regrown_of (HV.out _ (HP1.out.below (below_regrown _ _ _)))))
        refine wpQuiet_nil ?_
        intro Q2 hw'
        obtain ⟨⟨dq, osq⟩, hw''⟩ := hw'
        have hbq2 : Below Q1.heap.size Q1 Q2 := by rw [hw'']; exact below_regrown _ dq osq
        clear hw'' HR dq osq r0 r1 r2 r3 r4 r5 r6 r7 r8 r9 r10 r11 r12 r13 r14 r15 r16 r17 hf q0
        have HQ2 := Lib.hid (blk_below HQ1.out hbq2)
        have hq := HQ2.out
        obtain ⟨⟨r0, r1, r2, r3, r4, r5, r6, r7, r8, r9, r10, r11, r12, r13, r14, r15, r16, r17⟩, hf⟩ := cells18 hq
        have q0 : g < Q2.heap.size := (Array.getElem?_eq_some_iff.1 hq).1
        clear hq
        have HB2 := Lib.hid (HB.out.trans (Only.of_below (fun k => k = g) hbq2))
        clear hbq2
        go_wp2_with fail
        repeat (go_region; try go_wp2_with fail)
        go_ret
        refine ⟨rfl, ?_, ?_⟩
        · unfold StX
          with_reducible first | refine st_of HQ2.out ?_ | refine st_of (bk_store HQ2.out _ _) ?_ | refine st_of (bk_store (bk_store HQ2.out _ _) _ _) ?_ | refine st_of (bk_store (bk_store (bk_store HQ2.out _ _) _ _) _ _) ?_ | refine st_of (bk_store (bk_store (bk_store (bk_store HQ2.out _ _) _ _) _ _) _ _) ?_ | refine st_of (bk_store (bk_store (bk_store (bk_store (bk_store HQ2.out _ _) _ _) _ _) _ _) _ _) ?_ | refine st_of (bk_drew HQ2.out) ?_ | refine st_of (bk_drew (bk_store HQ2.out _ _)) ?_ | refine st_of (bk_drew (bk_store (bk_store HQ2.out _ _) _ _)) ?_ | refine st_of (bk_drew (bk_store (bk_store (bk_store HQ2.out _ _) _ _) _ _)) ?_ | refine st_of (bk_drew (bk_store (bk_store (bk_store (bk_store HQ2.out _ _) _ _) _ _) _ _)) ?_ | refine st_of (bk_drew (bk_store (bk_store (bk_store (bk_store (bk_store HQ2.out _ _) _ _) _ _) _ _) _ _)) ?_ | refine st_of (bk_drew (bk_drew HQ2.out)) ?_ | refine st_of (bk_drew (bk_drew (bk_store HQ2.out _ _))) ?_ | refine st_of (bk_drew (bk_drew (bk_store (bk_store HQ2.out _ _) _ _))) ?_ | refine st_of (bk_drew (bk_drew (bk_store (bk_store (bk_store HQ2.out _ _) _ _) _ _))) ?_ | refine st_of (bk_drew (bk_drew (bk_store (bk_store (bk_store (bk_store HQ2.out _ _) _ _) _ _) _ _))) ?_ | refine st_of (bk_drew (bk_drew (bk_store (bk_store (bk_store (bk_store (bk_store HQ2.out _ _) _ _) _ _) _ _) _ _))) ?_
          rfl
        · repeat' (first | with_reducible exact HB2.out | with_reducible refine Only.drew ?_ | with_reducible refine only_set ?_ _ _)
    · rw [if_neg (by simp [e5])] at hX
      subst hX
      have e4 : ((kind : Int) == 5) = false := by simp; omega
      clear e5
      go_wp2_with fail
      refine wp_region_quiet_reads (by kernel_rfl) (by kernel_rfl) fun HR => ?_
      repeat (go_big_quiet_step (first | with_reducible exact Calls.regrown_of (HV.out _ (HP1.out.below (below_regrown _ _ _)))))
      refine wpQuiet_nil ?_
      intro Q2 hw'
      obtain ⟨⟨dq, osq⟩, hw''⟩ := hw'
      have hbq2 : Below Q1.heap.size Q1 Q2 := by rw [hw'']; exact below_regrown _ dq osq
      clear hw'' HR dq osq r0 r1 r2 r3 r4 r5 r6 r7 r8 r9 r10 r11 r12 r13 r14 r15 r16 r17 hf q0
      have HQ2 := Lib.hid (blk_below HQ1.out hbq2)
      have hq := HQ2.out
      obtain ⟨⟨r0, r1, r2, r3, r4, r5, r6, r7, r8, r9, r10, r11, r12, r13, r14, r15, r16, r17⟩, hf⟩ := cells18 hq
      have q0 : g < Q2.heap.size := (Array.getElem?_eq_some_iff.1 hq).1
      clear hq
      have HB2 := Lib.hid (HB.out.trans (Only.of_below (fun k => k = g) hbq2))
      clear hbq2
      go_wp2_with fail
      repeat (go_region; try go_wp2_with fail)
      go_ret
      refine ⟨rfl, ?_, ?_⟩
      · unfold StX
        with_reducible first | refine st_of HQ2.out ?_ | refine st_of (bk_store HQ2.out _ _) ?_ | refine st_of (bk_store (bk_store HQ2.out _ _) _ _) ?_ | refine st_of (bk_store (bk_store (bk_store HQ2.out _ _) _ _) _ _) ?_ | refine st_of (bk_store (bk_store (bk_store (bk_store HQ2.out _ _) _ _) _ _) _ _) ?_ | refine st_of (bk_store (bk_store (bk_store (bk_store (bk_store HQ2.out _ _) _ _) _ _) _ _) _ _) ?_ | refine st_of (bk_drew HQ2.out) ?_ | refine st_of (bk_drew (bk_store HQ2.out _ _)) ?_ | refine st_of (bk_drew (bk_store (bk_store HQ2.out _ _) _ _)) ?_ | refine st_of (bk_drew (bk_store (bk_store (bk_store HQ2.out _ _) _ _) _ _)) ?_ | refine st_of (bk_drew (bk_store (bk_store (bk_store (bk_store HQ2.out _ _) _ _) _ _) _ _)) ?_ | refine st_of (bk_drew (bk_store (bk_store (bk_store (bk_store (bk_store HQ2.out _ _) _ _) _ _) _ _) _ _)) ?_ | refine st_of (bk_drew (bk_drew HQ2.out)) ?_ | refine st_of (bk_drew (bk_drew (bk_store HQ2.out _ _))) ?_ | refine st_of (bk_drew (bk_drew (bk_store (bk_store HQ2.out _ _) _ _))) ?_ | refine st_of (bk_drew (bk_drew (bk_store (bk_store (bk_store HQ2.out _ _) _ _) _ _))) ?_ | refine st_of (bk_drew (bk_drew (bk_store (bk_store (bk_store (bk_store HQ2.out _ _) _ _) _ _) _ _))) ?_ | refine st_of (bk_drew (bk_drew (bk_store (bk_store (bk_store (bk_store (bk_store HQ2.out _ _) _ _) _ _) _ _) _ _))) ?_
        rfl
      · repeat' (first | with_reducible exact HB2.out | with_reducible refine Only.drew ?_ | with_reducible refine only_set ?_ _ _)
end Go.Proofs.YtmkehailohgebaaDoor
