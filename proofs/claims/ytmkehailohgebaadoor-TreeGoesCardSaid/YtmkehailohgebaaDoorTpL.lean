/- The program of an index, the program's own: the act of a frame. -/
import Derived.Test.YtmkehailohgebaaDoorTpK
import Derived.BigRegion
import Derived.BigQuiet
import Derived.Deep.DeepCutAuto
namespace Go.Proofs.YtmkehailohgebaaDoor
open Go.RowKit Go.Lib Pt Opn

/-- What else a frame's numbers should be. -/
def Num2 (c : Cf) (f : Ds) : Prop := (f.pc = 6 → 1 ≤ f.i) ∧ (f.pc = 9 ∨ f.pc = 11 → 1 ≤ f.h ∧ f.i < upX c f.n f.h) ∧ (f.pc = 12 → 1 ≤ f.h)
/-- An act, and whether its cell is there. -/
def ActR (c : Cf) (f : Ds) (w : World) (e : Ending) (w' : World) : Prop := ∃ (X : Ac) (b : Bool), e = .returned (.tuple #[acv X, .bool b]) ∧ Below w.heap.size w w' ∧ (b = true ↔ Num2 c f ∧ 0 ≤ placeX c f) ∧ (b = true → X = stepX c f)
set_option maxRecDepth 100000 in
set_option maxHeartbeats 8000000 in
theorem pActAbove_any {c : Cf} {C N K : Nat} (s : SzX c C N K) (ob : Nat) (L : Value) (f : Ds) (hpc : f.pc = 9 ∨ f.pc = 11 ∨ f.pc = 12) (hn : f.n ≤ C) (hh : f.h ≤ topX c) (hi : f.i < 256) (hx : f.x < 4294967296) (w : World) (hP : Pow w) (hl : Leans c ob w) :
    Calls Tryd.prog 58 #[shX c L, frv f, readFn ob, writeFn ob] w (ActR c f w) := by
  have c2 := s.c2
  have t4 := topX_le c
  have HP := Lib.hid hP
  have HL := Lib.hid hl
  have HNW := Lib.hid (fun W hp => pNowX_any s L f (by omega) (by omega) W hp)
  have HLA := Lib.hid (fun W hp => last_any (f.n : Nat) c.node (f.h : Nat) (f.i : Nat) W hp)
  have hU32 : upX c f.n f.h ≤ 32 := by rw [s.up]; exact Rk.items_le (by omega) s.n1 s.n2 (by omega)
  unfold ActR
  by_cases h0 : f.h = 0
  · have hno : ¬ (Num2 c f ∧ 0 ≤ placeX c f) := by
      rintro ⟨⟨_, a1, a2⟩, _⟩
      rcases hpc with e | e | e
      · have := (a1 (.inl e)).1; omega
      · have := (a1 (.inr e)).1; omega
      · have := a2 e; omega
    have HNO := Lib.hid hno
    clear hno s hP hl hpc
    have h0' : (f.h : Int) = 0 := by omega
    unfold shX frv readFn writeFn
    go_enter Tryd.func58, Tryd.ntmps58
    go_upto_region 1 with fail
    refine enter3 fun W hb g0 g1 g2 q0 q1 q2 => ?_
    obtain ⟨r0, r1, r2, r3⟩ := cells4q g0
    obtain ⟨k0, k1, k2, k3, k4, k5, k6, k7, k8, k9, k10⟩ := cl11 g1
    obtain ⟨u0, v0, u1, v1, u2, v2, u3, v3, u4, v4, u5, v5, u6, v6⟩ := cells7 g2
    have HW := Lib.hid (And.intro g0 (And.intro g1 g2))
    have HB := Lib.hid hb
    have HPW := Lib.hid (HP.out.below hb)
    have HLW := Lib.hid (HL.out.below hb)
    clear g0 g1 g2 hb
    go_wp2_with fail
    refine wp_region_quiet_reads (by kernel_rfl) (by kernel_rfl) fun HR => ?_
    repeat (go_big_quiet_step (fail))
    refine wpQuiet_nil ?_
    intro Q0 hw'
    obtain ⟨⟨dq, osq⟩, hw''⟩ := hw'
    have hb0 : Below W.heap.size W Q0 := by rw [hw'']; exact below_regrown _ dq osq
    clear hw'' HR dq osq q0 q1 q2
    have HB0 := Lib.hid (below_then HB.out hb0)
    have HPW0 := Lib.hid (HPW.out.below hb0)
    have HLW0 := Lib.hid (HLW.out.below hb0)
    obtain ⟨g0, g1, g2⟩ := HW.out
    have HW0 := Lib.hid (And.intro (blk_below g0 hb0) (And.intro (blk_below g1 hb0) (blk_below g2 hb0)))
    clear r0 r1 r2 r3 k0 k1 k2 k3 k4 k5 k6 k7 k8 k9 k10 u0 v0 u1 v1 u2 v2 u3 v3 u4 v4 u5 v5 u6 v6
    clear g0 g1 g2 hb0
    obtain ⟨g0, g1, g2⟩ := HW0.out
    obtain ⟨r0, r1, r2, r3⟩ := cells4q g0
    obtain ⟨k0, k1, k2, k3, k4, k5, k6, k7, k8, k9, k10⟩ := cl11 g1
    obtain ⟨u0, v0, u1, v1, u2, v2, u3, v3, u4, v4, u5, v5, u6, v6⟩ := cells7 g2
    have q0 := (Array.getElem?_eq_some_iff.1 g0).1
    have q1 := (Array.getElem?_eq_some_iff.1 g1).1
    clear g0 g1 g2
    clear HB HPW HLW HW
    go_wp2_with fail
    refine bodyPost_ret (v := .tuple #[acv ⟨0, 0, 0, 0, 0, 0, 0⟩, .bool false]) ?_ rfl ⟨⟨0, 0, 0, 0, 0, 0, 0⟩, false, rfl, ?_, ?_, ?_⟩
    · simp [results, Tryd.results58, go_sem, acv, u0, u1, u2, u3, u4, u5, u6]
    · (repeat' (first | with_reducible exact HB0.out | (with_reducible refine Below.setCell ?_ ?_ _))) <;> (simp; try omega)
    · exact ⟨fun e => absurd e (by simp), fun e => (HNO.out e).elim⟩
    · exact fun e => absurd e (by simp)
  · have h1 : 1 ≤ f.h := by omega
    have h0' : ((f.h : Int) == 0) = false := by simp; omega
    have hL32 : -1 ≤ Rk.lst f.n c.node f.h f.i ∧ Rk.lst f.n c.node f.h f.i ≤ 255 := by
      have n1 := s.n1
      have n2 := s.n2
      have hc : Rk.cnt f.n c.node ((f.h : Int) - 1) ≤ 32 := by
        unfold Rk.cnt
        rw [show ((f.h : Int) - 1) = ((f.h - 1 : Nat) : Int) from by omega, s.node]
        simp only [Int.toNat_natCast]
        have := Rk.items_le (m := f.n) (w := N) (h := f.h - 1) (by omega) n1 n2 (by omega)
        omega
      have hc0 : 0 ≤ Rk.cnt f.n c.node ((f.h : Int) - 1) := by unfold Rk.cnt; omega
      have hm : 0 ≤ ((f.i : Int) + 1) * c.node := Int.mul_nonneg (by omega) (by rw [s.node]; omega)
      unfold Rk.lst
      omega
    have hcnt : Rk.cnt f.n c.node f.h = ((upX c f.n f.h : Nat) : Int) := by unfold Rk.cnt upX; simp only [Int.toNat_natCast]
    by_cases e12 : f.pc = 12
    · have eN : Num2 c f := ⟨fun e => by omega, fun e => by omega, fun _ => h1⟩
      have ep : placeX c f = offX c f.h (upX c f.n f.h : Nat) := by simp [placeX, e12]
      have es : stepX c f = ⟨2, (offX c f.h (upX c f.n f.h : Nat)).toNat, 0, 0, 0, 0, 0⟩ := by simp [stepX, ep, kindX, wordX, wordY, codeX, valX, e12]
      have eD : decide (0 ≤ offX c f.h (upX c f.n f.h : Nat)) = true ↔ 0 ≤ placeX c f := by rw [ep]; simp
      have HWR := Lib.hid (fun W hl => pWriteX_any s ob f.h (upX c f.n f.h : Nat) 0 0 hh (by omega) W hl)
      clear ep
      generalize (offX c f.h (upX c f.n f.h : Nat)).toNat = O at *
      generalize decide (0 ≤ offX c f.h (upX c f.n f.h : Nat)) = D at *
      have HE := Lib.hid (And.intro eN (And.intro eD es))
      clear eN es eD s hP hl hpc hcnt hL32 HLA
      generalize upX c f.n f.h = U at *
      unfold shX frv readFn writeFn
      unfold shX frv at HNW
      unfold acv at HWR
      obtain ⟨tg, k, seq, kind, a, b, pc, i, j, n, p, h, x, y⟩ := f
      simp only at e12 h1 h0' hh hn hi hx HNW HWR HE ⊢
      obtain rfl : pc = 12 := e12
      rw [show ((12 : Nat) : Int) = 12 from rfl] at HNW ⊢
      rw [show ((0 : Nat) : Int) = 0 from rfl] at HWR
      go_enter Tryd.func58, Tryd.ntmps58
      go_upto_region 1 with fail
      refine enter3 fun W hb g0 g1 g2 q0 q1 q2 => ?_
      obtain ⟨r0, r1, r2, r3⟩ := cells4q g0
      obtain ⟨k0, k1, k2, k3, k4, k5, k6, k7, k8, k9, k10⟩ := cl11 g1
      obtain ⟨u0, v0, u1, v1, u2, v2, u3, v3, u4, v4, u5, v5, u6, v6⟩ := cells7 g2
      have HW := Lib.hid (And.intro g0 (And.intro g1 g2))
      have HB := Lib.hid hb
      have HPW := Lib.hid (HP.out.below hb)
      have HLW := Lib.hid (HL.out.below hb)
      clear g0 g1 g2 hb
      go_wp2_with fail
      refine wp_region_quiet_reads (by kernel_rfl) (by kernel_rfl) fun HR => ?_
      repeat (go_big_quiet_step (fail))
      refine wpQuiet_nil ?_
      intro Q0 hw'
      obtain ⟨⟨dq, osq⟩, hw''⟩ := hw'
      have hb0 : Below W.heap.size W Q0 := by rw [hw'']; exact below_regrown _ dq osq
      clear hw'' HR dq osq q0 q1 q2
      have HB0 := Lib.hid (below_then HB.out hb0)
      have HPW0 := Lib.hid (HPW.out.below hb0)
      have HLW0 := Lib.hid (HLW.out.below hb0)
      obtain ⟨g0, g1, g2⟩ := HW.out
      have HW0 := Lib.hid (And.intro (blk_below g0 hb0) (And.intro (blk_below g1 hb0) (blk_below g2 hb0)))
      clear r0 r1 r2 r3 k0 k1 k2 k3 k4 k5 k6 k7 k8 k9 k10 u0 v0 u1 v1 u2 v2 u3 v3 u4 v4 u5 v5 u6 v6
      clear g0 g1 g2 hb0
      obtain ⟨g0, g1, g2⟩ := HW0.out
      obtain ⟨r0, r1, r2, r3⟩ := cells4q g0
      obtain ⟨k0, k1, k2, k3, k4, k5, k6, k7, k8, k9, k10⟩ := cl11 g1
      obtain ⟨u0, v0, u1, v1, u2, v2, u3, v3, u4, v4, u5, v5, u6, v6⟩ := cells7 g2
      have q0 := (Array.getElem?_eq_some_iff.1 g0).1
      have q1 := (Array.getElem?_eq_some_iff.1 g1).1
      clear g0 g1 g2
      clear HB HPW HLW HW
      go_wp2_with (first | (go_at_call 101; refine (HNW.out _ HPW0.out).mono ?_; rintro e w1 ⟨rfl, hb1⟩; have HB1 := Lib.hid (below_then HB0.out hb1); have HPW1 := Lib.hid (HPW0.out.below hb1); have HLW1 := Lib.hid (HLW0.out.below hb1); obtain ⟨g0, g1, g2⟩ := HW0.out; have HW1 := Lib.hid (And.intro (blk_below g0 hb1) (And.intro (blk_below g1 hb1) (blk_below g2 hb1))); clear r0 r1 r2 r3 k0 k1 k2 k3 k4 k5 k6 k7 k8 k9 k10 u0 v0 u1 v1 u2 v2 u3 v3 u4 v4 u5 v5 u6 v6; clear g0 g1 g2 hb1; obtain ⟨g0, g1, g2⟩ := HW1.out; obtain ⟨r0, r1, r2, r3⟩ := cells4q g0; obtain ⟨k0, k1, k2, k3, k4, k5, k6, k7, k8, k9, k10⟩ := cl11 g1; obtain ⟨u0, v0, u1, v1, u2, v2, u3, v3, u4, v4, u5, v5, u6, v6⟩ := cells7 g2; have q0 := (Array.getElem?_eq_some_iff.1 g0).1; have q1 := (Array.getElem?_eq_some_iff.1 g1).1; clear g0 g1 g2) | (go_at_call 100; refine (HWR.out _ HLW1.out).mono ?_; rintro e w2 ⟨rfl, hb2⟩; have HB2 := Lib.hid (below_then HB1.out hb2); have HPW2 := Lib.hid (HPW1.out.below hb2); have HLW2 := Lib.hid (HLW1.out.below hb2); obtain ⟨g0, g1, g2⟩ := HW1.out; have HW2 := Lib.hid (And.intro (blk_below g0 hb2) (And.intro (blk_below g1 hb2) (blk_below g2 hb2))); clear r0 r1 r2 r3 k0 k1 k2 k3 k4 k5 k6 k7 k8 k9 k10 u0 v0 u1 v1 u2 v2 u3 v3 u4 v4 u5 v5 u6 v6; clear g0 g1 g2 hb2; obtain ⟨g0, g1, g2⟩ := HW2.out; obtain ⟨r0, r1, r2, r3⟩ := cells4q g0; obtain ⟨k0, k1, k2, k3, k4, k5, k6, k7, k8, k9, k10⟩ := cl11 g1; obtain ⟨u0, v0, u1, v1, u2, v2, u3, v3, u4, v4, u5, v5, u6, v6⟩ := cells7 g2; have q0 := (Array.getElem?_eq_some_iff.1 g0).1; have q1 := (Array.getElem?_eq_some_iff.1 g1).1; clear g0 g1 g2))
      refine bodyPost_ret (v := .tuple #[acv ⟨2, O, 0, 0, 0, 0, 0⟩, .bool D]) ?_ rfl ⟨⟨2, O, 0, 0, 0, 0, 0⟩, D, rfl, ?_, ?_, ?_⟩
      · simp [results, Tryd.results58, go_sem, acv, u0, u1, u2, u3, u4, u5, u6]
      · (repeat' (first | with_reducible exact HB2.out | (with_reducible refine Below.setCell ?_ ?_ _))) <;> (simp; try omega)
      · exact ⟨fun e => ⟨HE.out.1, HE.out.2.1.1 e⟩, fun e => HE.out.2.1.2 e.2⟩
      · exact fun _ => HE.out.2.2.symm
    · have e911 : f.pc = 9 ∨ f.pc = 11 := by omega
      have p12 : ((f.pc : Int) == 12) = false := by simp; omega
      by_cases hiu : f.i < upX c f.n f.h
      · have hok : Rk.okL f.n c.node f.h f.i = true := by
          unfold Rk.okL
          rw [hcnt, s.node, Rk.mayBe_mk (by omega) s.n1 s.n2, decide_eq_true (by omega)]
          rfl
        replace HLA : Hid (∀ W, Pow W → Calls Tryd.prog 102 #[.int .i64 f.n, .int .i64 c.node, .int .i64 f.h, .int .i64 f.i] W (Ret2 (.int .i64 (Rk.lst f.n c.node f.h f.i)) (.int .i64 0) W)) := Lib.hid fun W hp => by
          have h := last_any (f.n : Nat) c.node (f.h : Nat) (f.i : Nat) W hp
          rw [hok] at h
          exact h
        have eN : Num2 c f := ⟨fun e => by omega, fun _ => ⟨h1, hiu⟩, fun _ => h1⟩
        rcases e911 with e9 | e11
        · have ep : placeX c f = offX c (f.h - 1) (Rk.lst f.n c.node f.h f.i) := by simp [placeX, e9]
          have es : stepX c f = ⟨1, (offX c (f.h - 1) (Rk.lst f.n c.node f.h f.i)).toNat, 0, 0, 0, 0, 0⟩ := by simp [stepX, ep, kindX, wordX, wordY, codeX, valX, e9]
          have eD : decide (0 ≤ offX c (f.h - 1) (Rk.lst f.n c.node f.h f.i)) = true ↔ 0 ≤ placeX c f := by rw [ep]; simp
          have HRD := Lib.hid (fun W hl => pReadX_any s ob (f.h - 1) (Rk.lst f.n c.node f.h f.i) (by omega) (by omega) W hl)
          rw [show (((f.h - 1 : Nat)) : Int) = (f.h : Int) - 1 from by omega] at HRD
          have w1 : wrap64 ((f.h : Int) - 1) = (f.h : Int) - 1 := by unfold wrap64; omega
          clear ep
          generalize (offX c (f.h - 1) (Rk.lst f.n c.node f.h f.i)).toNat = O at *
          generalize decide (0 ≤ offX c (f.h - 1) (Rk.lst f.n c.node f.h f.i)) = D at *
          have HE := Lib.hid (And.intro eN (And.intro eD es))
          clear eN es eD s hP hl hpc hcnt hok HNW
          generalize Rk.lst f.n c.node f.h f.i = LL at *
          unfold shX frv readFn writeFn
          unfold acv at HRD
          obtain ⟨tg, k, seq, kind, a, b, pc, i, j, n, p, h, x, y⟩ := f
          simp only at e9 e12 p12 h1 h0' hh hn hi hx w1 HLA HRD HE ⊢
          obtain rfl : pc = 9 := e9
          rw [show ((9 : Nat) : Int) = 9 from rfl] at ⊢
          go_enter Tryd.func58, Tryd.ntmps58
          go_upto_region 1 with fail
          refine enter3 fun W hb g0 g1 g2 q0 q1 q2 => ?_
          obtain ⟨r0, r1, r2, r3⟩ := cells4q g0
          obtain ⟨k0, k1, k2, k3, k4, k5, k6, k7, k8, k9, k10⟩ := cl11 g1
          obtain ⟨u0, v0, u1, v1, u2, v2, u3, v3, u4, v4, u5, v5, u6, v6⟩ := cells7 g2
          have HW := Lib.hid (And.intro g0 (And.intro g1 g2))
          have HB := Lib.hid hb
          have HPW := Lib.hid (HP.out.below hb)
          have HLW := Lib.hid (HL.out.below hb)
          clear g0 g1 g2 hb
          go_wp2_with fail
          refine wp_region_quiet_reads (by kernel_rfl) (by kernel_rfl) fun HR => ?_
          repeat (go_big_quiet_step (fail))
          refine wpQuiet_nil ?_
          intro Q0 hw'
          obtain ⟨⟨dq, osq⟩, hw''⟩ := hw'
          have hb0 : Below W.heap.size W Q0 := by rw [hw'']; exact below_regrown _ dq osq
          clear hw'' HR dq osq q0 q1 q2
          have HB0 := Lib.hid (below_then HB.out hb0)
          have HPW0 := Lib.hid (HPW.out.below hb0)
          have HLW0 := Lib.hid (HLW.out.below hb0)
          obtain ⟨g0, g1, g2⟩ := HW.out
          have HW0 := Lib.hid (And.intro (blk_below g0 hb0) (And.intro (blk_below g1 hb0) (blk_below g2 hb0)))
          clear r0 r1 r2 r3 k0 k1 k2 k3 k4 k5 k6 k7 k8 k9 k10 u0 v0 u1 v1 u2 v2 u3 v3 u4 v4 u5 v5 u6 v6
          clear g0 g1 g2 hb0
          obtain ⟨g0, g1, g2⟩ := HW0.out
          obtain ⟨r0, r1, r2, r3⟩ := cells4q g0
          obtain ⟨k0, k1, k2, k3, k4, k5, k6, k7, k8, k9, k10⟩ := cl11 g1
          obtain ⟨u0, v0, u1, v1, u2, v2, u3, v3, u4, v4, u5, v5, u6, v6⟩ := cells7 g2
          have q0 := (Array.getElem?_eq_some_iff.1 g0).1
          have q1 := (Array.getElem?_eq_some_iff.1 g1).1
          clear g0 g1 g2
          clear HB HPW HLW HW
          go_wp2_with (first | (go_at_call 102; refine (HLA.out _ HPW0.out).mono ?_; rintro e w1 ⟨rfl, hb1⟩; have HB1 := Lib.hid (below_then HB0.out hb1); have HPW1 := Lib.hid (HPW0.out.below hb1); have HLW1 := Lib.hid (HLW0.out.below hb1); obtain ⟨g0, g1, g2⟩ := HW0.out; have HW1 := Lib.hid (And.intro (blk_below g0 hb1) (And.intro (blk_below g1 hb1) (blk_below g2 hb1))); clear r0 r1 r2 r3 k0 k1 k2 k3 k4 k5 k6 k7 k8 k9 k10 u0 v0 u1 v1 u2 v2 u3 v3 u4 v4 u5 v5 u6 v6; clear g0 g1 g2 hb1; obtain ⟨g0, g1, g2⟩ := HW1.out; obtain ⟨r0, r1, r2, r3⟩ := cells4q g0; obtain ⟨k0, k1, k2, k3, k4, k5, k6, k7, k8, k9, k10⟩ := cl11 g1; obtain ⟨u0, v0, u1, v1, u2, v2, u3, v3, u4, v4, u5, v5, u6, v6⟩ := cells7 g2; have q0 := (Array.getElem?_eq_some_iff.1 g0).1; have q1 := (Array.getElem?_eq_some_iff.1 g1).1; clear g0 g1 g2) | (go_at_call 99; refine (HRD.out _ HLW1.out).mono ?_; rintro e w2 ⟨rfl, hb2⟩; have HB2 := Lib.hid (below_then HB1.out hb2); have HPW2 := Lib.hid (HPW1.out.below hb2); have HLW2 := Lib.hid (HLW1.out.below hb2); obtain ⟨g0, g1, g2⟩ := HW1.out; have HW2 := Lib.hid (And.intro (blk_below g0 hb2) (And.intro (blk_below g1 hb2) (blk_below g2 hb2))); clear r0 r1 r2 r3 k0 k1 k2 k3 k4 k5 k6 k7 k8 k9 k10 u0 v0 u1 v1 u2 v2 u3 v3 u4 v4 u5 v5 u6 v6; clear g0 g1 g2 hb2; obtain ⟨g0, g1, g2⟩ := HW2.out; obtain ⟨r0, r1, r2, r3⟩ := cells4q g0; obtain ⟨k0, k1, k2, k3, k4, k5, k6, k7, k8, k9, k10⟩ := cl11 g1; obtain ⟨u0, v0, u1, v1, u2, v2, u3, v3, u4, v4, u5, v5, u6, v6⟩ := cells7 g2; have q0 := (Array.getElem?_eq_some_iff.1 g0).1; have q1 := (Array.getElem?_eq_some_iff.1 g1).1; clear g0 g1 g2))
          refine bodyPost_ret (v := .tuple #[acv ⟨1, O, 0, 0, 0, 0, 0⟩, .bool D]) ?_ rfl ⟨⟨1, O, 0, 0, 0, 0, 0⟩, D, rfl, ?_, ?_, ?_⟩
          · simp [results, Tryd.results58, go_sem, acv, u0, u1, u2, u3, u4, u5, u6]
          · (repeat' (first | with_reducible exact HB2.out | (with_reducible refine Below.setCell ?_ ?_ _))) <;> (simp; try omega)
          · exact ⟨fun e => ⟨HE.out.1, HE.out.2.1.1 e⟩, fun e => HE.out.2.1.2 e.2⟩
          · exact fun _ => HE.out.2.2.symm
        · have ep : placeX c f = offX c f.h f.i := by simp [placeX, e11]
          have es : stepX c f = ⟨2, (offX c f.h f.i).toNat, f.x, 0, 0, 0, 0⟩ := by simp [stepX, ep, kindX, wordX, wordY, codeX, valX, e11]
          have eD : decide (0 ≤ offX c f.h f.i) = true ↔ 0 ≤ placeX c f := by rw [ep]; simp
          have HWR := Lib.hid (fun W hl => pWriteX_any s ob f.h f.i f.x 0 (by omega) (by omega) W hl)
          have wx : IntKind.u64.wrap (f.x : Int) = (f.x : Int) := by rw [IntKind.wrap_u64]; omega
          clear ep
          generalize (offX c f.h f.i).toNat = O at *
          generalize decide (0 ≤ offX c f.h f.i) = D at *
          have HE := Lib.hid (And.intro eN (And.intro eD es))
          clear eN es eD s hP hl hpc hcnt hok HNW
          generalize Rk.lst f.n c.node f.h f.i = LL at *
          unfold shX frv readFn writeFn
          unfold acv at HWR
          obtain ⟨tg, k, seq, kind, a, b, pc, i, j, n, p, h, x, y⟩ := f
          simp only at e11 e12 p12 h1 h0' hh hn hi hx wx HLA HWR HE ⊢
          obtain rfl : pc = 11 := e11
          rw [show ((11 : Nat) : Int) = 11 from rfl] at ⊢
          rw [show ((0 : Nat) : Int) = 0 from rfl] at HWR
          go_enter Tryd.func58, Tryd.ntmps58
          go_upto_region 1 with fail
          refine enter3 fun W hb g0 g1 g2 q0 q1 q2 => ?_
          obtain ⟨r0, r1, r2, r3⟩ := cells4q g0
          obtain ⟨k0, k1, k2, k3, k4, k5, k6, k7, k8, k9, k10⟩ := cl11 g1
          obtain ⟨u0, v0, u1, v1, u2, v2, u3, v3, u4, v4, u5, v5, u6, v6⟩ := cells7 g2
          have HW := Lib.hid (And.intro g0 (And.intro g1 g2))
          have HB := Lib.hid hb
          have HPW := Lib.hid (HP.out.below hb)
          have HLW := Lib.hid (HL.out.below hb)
          clear g0 g1 g2 hb
          go_wp2_with fail
          refine wp_region_quiet_reads (by kernel_rfl) (by kernel_rfl) fun HR => ?_
          repeat (go_big_quiet_step (fail))
          refine wpQuiet_nil ?_
          intro Q0 hw'
          obtain ⟨⟨dq, osq⟩, hw''⟩ := hw'
          have hb0 : Below W.heap.size W Q0 := by rw [hw'']; exact below_regrown _ dq osq
          clear hw'' HR dq osq q0 q1 q2
          have HB0 := Lib.hid (below_then HB.out hb0)
          have HPW0 := Lib.hid (HPW.out.below hb0)
          have HLW0 := Lib.hid (HLW.out.below hb0)
          obtain ⟨g0, g1, g2⟩ := HW.out
          have HW0 := Lib.hid (And.intro (blk_below g0 hb0) (And.intro (blk_below g1 hb0) (blk_below g2 hb0)))
          clear r0 r1 r2 r3 k0 k1 k2 k3 k4 k5 k6 k7 k8 k9 k10 u0 v0 u1 v1 u2 v2 u3 v3 u4 v4 u5 v5 u6 v6
          clear g0 g1 g2 hb0
          obtain ⟨g0, g1, g2⟩ := HW0.out
          obtain ⟨r0, r1, r2, r3⟩ := cells4q g0
          obtain ⟨k0, k1, k2, k3, k4, k5, k6, k7, k8, k9, k10⟩ := cl11 g1
          obtain ⟨u0, v0, u1, v1, u2, v2, u3, v3, u4, v4, u5, v5, u6, v6⟩ := cells7 g2
          have q0 := (Array.getElem?_eq_some_iff.1 g0).1
          have q1 := (Array.getElem?_eq_some_iff.1 g1).1
          clear g0 g1 g2
          clear HB HPW HLW HW
          go_wp2_with (first | (go_at_call 102; refine (HLA.out _ HPW0.out).mono ?_; rintro e w1 ⟨rfl, hb1⟩; have HB1 := Lib.hid (below_then HB0.out hb1); have HPW1 := Lib.hid (HPW0.out.below hb1); have HLW1 := Lib.hid (HLW0.out.below hb1); obtain ⟨g0, g1, g2⟩ := HW0.out; have HW1 := Lib.hid (And.intro (blk_below g0 hb1) (And.intro (blk_below g1 hb1) (blk_below g2 hb1))); clear r0 r1 r2 r3 k0 k1 k2 k3 k4 k5 k6 k7 k8 k9 k10 u0 v0 u1 v1 u2 v2 u3 v3 u4 v4 u5 v5 u6 v6; clear g0 g1 g2 hb1; obtain ⟨g0, g1, g2⟩ := HW1.out; obtain ⟨r0, r1, r2, r3⟩ := cells4q g0; obtain ⟨k0, k1, k2, k3, k4, k5, k6, k7, k8, k9, k10⟩ := cl11 g1; obtain ⟨u0, v0, u1, v1, u2, v2, u3, v3, u4, v4, u5, v5, u6, v6⟩ := cells7 g2; have q0 := (Array.getElem?_eq_some_iff.1 g0).1; have q1 := (Array.getElem?_eq_some_iff.1 g1).1; clear g0 g1 g2) | (go_at_call 100; refine (HWR.out _ HLW1.out).mono ?_; rintro e w2 ⟨rfl, hb2⟩; have HB2 := Lib.hid (below_then HB1.out hb2); have HPW2 := Lib.hid (HPW1.out.below hb2); have HLW2 := Lib.hid (HLW1.out.below hb2); obtain ⟨g0, g1, g2⟩ := HW1.out; have HW2 := Lib.hid (And.intro (blk_below g0 hb2) (And.intro (blk_below g1 hb2) (blk_below g2 hb2))); clear r0 r1 r2 r3 k0 k1 k2 k3 k4 k5 k6 k7 k8 k9 k10 u0 v0 u1 v1 u2 v2 u3 v3 u4 v4 u5 v5 u6 v6; clear g0 g1 g2 hb2; obtain ⟨g0, g1, g2⟩ := HW2.out; obtain ⟨r0, r1, r2, r3⟩ := cells4q g0; obtain ⟨k0, k1, k2, k3, k4, k5, k6, k7, k8, k9, k10⟩ := cl11 g1; obtain ⟨u0, v0, u1, v1, u2, v2, u3, v3, u4, v4, u5, v5, u6, v6⟩ := cells7 g2; have q0 := (Array.getElem?_eq_some_iff.1 g0).1; have q1 := (Array.getElem?_eq_some_iff.1 g1).1; clear g0 g1 g2))
          refine bodyPost_ret (v := .tuple #[acv ⟨2, O, x, 0, 0, 0, 0⟩, .bool D]) ?_ rfl ⟨⟨2, O, x, 0, 0, 0, 0⟩, D, rfl, ?_, ?_, ?_⟩
          · simp [results, Tryd.results58, go_sem, acv, u0, u1, u2, u3, u4, u5, u6]
          · (repeat' (first | with_reducible exact HB2.out | (with_reducible refine Below.setCell ?_ ?_ _))) <;> (simp; try omega)
          · exact ⟨fun e => ⟨HE.out.1, HE.out.2.1.1 e⟩, fun e => HE.out.2.1.2 e.2⟩
          · exact fun _ => HE.out.2.2.symm
      · have hok : Rk.okL f.n c.node f.h f.i = false := by
          unfold Rk.okL
          rw [hcnt, s.node, Rk.mayBe_mk (by omega) s.n1 s.n2, decide_eq_false (by omega)]
          rfl
        replace HLA : Hid (∀ W, Pow W → Calls Tryd.prog 102 #[.int .i64 f.n, .int .i64 c.node, .int .i64 f.h, .int .i64 f.i] W (Ret2 (.int .i64 0) (.int .i64 2) W)) := Lib.hid fun W hp => by
          have h := last_any (f.n : Nat) c.node (f.h : Nat) (f.i : Nat) W hp
          rw [hok] at h
          exact h
        have hno : ¬ (Num2 c f ∧ 0 ≤ placeX c f) := fun e => hiu (e.1.2.1 e911).2
        have HNO := Lib.hid hno
        have p12' : ¬ f.pc = 12 := by omega
        clear hno s hP hl hpc hcnt hok HNW e911 e12
        unfold shX frv readFn writeFn
        obtain ⟨tg, k, seq, kind, a, b, pc, i, j, n, p, h, x, y⟩ := f
        simp only at p12 h1 h0' hh hn hi hx HLA HNO ⊢
        go_enter Tryd.func58, Tryd.ntmps58
        go_upto_region 1 with fail
        refine enter3 fun W hb g0 g1 g2 q0 q1 q2 => ?_
        obtain ⟨r0, r1, r2, r3⟩ := cells4q g0
        obtain ⟨k0, k1, k2, k3, k4, k5, k6, k7, k8, k9, k10⟩ := cl11 g1
        obtain ⟨u0, v0, u1, v1, u2, v2, u3, v3, u4, v4, u5, v5, u6, v6⟩ := cells7 g2
        have HW := Lib.hid (And.intro g0 (And.intro g1 g2))
        have HB := Lib.hid hb
        have HPW := Lib.hid (HP.out.below hb)
        have HLW := Lib.hid (HL.out.below hb)
        clear g0 g1 g2 hb
        go_wp2_with fail
        refine wp_region_quiet_reads (by kernel_rfl) (by kernel_rfl) fun HR => ?_
        repeat (go_big_quiet_step (fail))
        refine wpQuiet_nil ?_
        intro Q0 hw'
        obtain ⟨⟨dq, osq⟩, hw''⟩ := hw'
        have hb0 : Below W.heap.size W Q0 := by rw [hw'']; exact below_regrown _ dq osq
        clear hw'' HR dq osq q0 q1 q2
        have HB0 := Lib.hid (below_then HB.out hb0)
        have HPW0 := Lib.hid (HPW.out.below hb0)
        have HLW0 := Lib.hid (HLW.out.below hb0)
        obtain ⟨g0, g1, g2⟩ := HW.out
        have HW0 := Lib.hid (And.intro (blk_below g0 hb0) (And.intro (blk_below g1 hb0) (blk_below g2 hb0)))
        clear r0 r1 r2 r3 k0 k1 k2 k3 k4 k5 k6 k7 k8 k9 k10 u0 v0 u1 v1 u2 v2 u3 v3 u4 v4 u5 v5 u6 v6
        clear g0 g1 g2 hb0
        obtain ⟨g0, g1, g2⟩ := HW0.out
        obtain ⟨r0, r1, r2, r3⟩ := cells4q g0
        obtain ⟨k0, k1, k2, k3, k4, k5, k6, k7, k8, k9, k10⟩ := cl11 g1
        obtain ⟨u0, v0, u1, v1, u2, v2, u3, v3, u4, v4, u5, v5, u6, v6⟩ := cells7 g2
        have q0 := (Array.getElem?_eq_some_iff.1 g0).1
        have q1 := (Array.getElem?_eq_some_iff.1 g1).1
        clear g0 g1 g2
        clear HB HPW HLW HW
        go_wp2_with ((go_at_call 102; refine (HLA.out _ HPW0.out).mono ?_; rintro e w1 ⟨rfl, hb1⟩; have HB1 := Lib.hid (below_then HB0.out hb1); have HPW1 := Lib.hid (HPW0.out.below hb1); have HLW1 := Lib.hid (HLW0.out.below hb1); obtain ⟨g0, g1, g2⟩ := HW0.out; have HW1 := Lib.hid (And.intro (blk_below g0 hb1) (And.intro (blk_below g1 hb1) (blk_below g2 hb1))); clear r0 r1 r2 r3 k0 k1 k2 k3 k4 k5 k6 k7 k8 k9 k10 u0 v0 u1 v1 u2 v2 u3 v3 u4 v4 u5 v5 u6 v6; clear g0 g1 g2 hb1; obtain ⟨g0, g1, g2⟩ := HW1.out; obtain ⟨r0, r1, r2, r3⟩ := cells4q g0; obtain ⟨k0, k1, k2, k3, k4, k5, k6, k7, k8, k9, k10⟩ := cl11 g1; obtain ⟨u0, v0, u1, v1, u2, v2, u3, v3, u4, v4, u5, v5, u6, v6⟩ := cells7 g2; have q0 := (Array.getElem?_eq_some_iff.1 g0).1; have q1 := (Array.getElem?_eq_some_iff.1 g1).1; clear g0 g1 g2))
        refine bodyPost_ret (v := .tuple #[acv ⟨0, 0, 0, 0, 0, 0, 0⟩, .bool false]) ?_ rfl ⟨⟨0, 0, 0, 0, 0, 0, 0⟩, false, rfl, ?_, ?_, ?_⟩
        · simp [results, Tryd.results58, go_sem, acv, u0, u1, u2, u3, u4, u5, u6]
        · (repeat' (first | with_reducible exact HB1.out | (with_reducible refine Below.setCell ?_ ?_ _))) <;> (simp; try omega)
        · exact ⟨fun e => absurd e (by simp), fun e => (HNO.out e).elim⟩
        · exact fun e => absurd e (by simp)
end Go.Proofs.YtmkehailohgebaaDoor
