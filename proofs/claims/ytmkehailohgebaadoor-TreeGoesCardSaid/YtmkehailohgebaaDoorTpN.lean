/- The program of an index, the program's own: the act of a frame, the rest of the Pcs. -/
import Derived.Test.YtmkehailohgebaaDoorTpM
import Derived.BigRegion
import Derived.BigQuiet
import Derived.Deep.DeepCutAuto
namespace Go.Proofs.YtmkehailohgebaaDoor
open Go.RowKit Go.Lib Pt Opn

set_option maxRecDepth 100000 in
set_option maxHeartbeats 8000000 in
theorem pActOf_7 {c : Cf} {C N K : Nat} (s : SzX c C N K) (sb cp : Nat) (f : Ds) (hpc : f.pc = 7) (q : FitA c C f) (hcp : topX c + 1 ≤ cp ∧ cp ≤ 9223372036854775807) (w : World) (hP : Pow w) (hl : LevX c sb w) :
    Calls Tryd.prog 30 #[shX c (.slice (some ⟨sb, 0, none⟩) (topX c + 1 : Nat) cp), frv f] w (ActR c f w) := by
  have c2 := s.c2
  have t4 := topX_le c
  obtain ⟨hn, hp, hh, hi, ha, hbb, hx, hy⟩ := q
  have HP := Lib.hid hP
  have HL := Lib.hid hl
  have HMK := Lib.hid (fun W hL => pMakers_any c sb cp hcp W hL)
  have ep : placeX c f = offX c 0 (f.p : Int) := by simp [placeX, hpc]
  have es : stepX c f = ⟨2, (offX c 0 (f.p : Int)).toNat, f.a, f.b, 0, 0, 0⟩ := by simp [stepX, ep, kindX, wordX, wordY, codeX, valX, hpc]
  have eD : decide (0 ≤ offX c 0 (f.p : Int)) = true ↔ 0 ≤ placeX c f := by rw [ep]; simp
  have HWR := Lib.hid (fun ob W hl => pWriteX_any s ob 0 (f.p : Int) f.a f.b (by omega) (by omega) W hl)
  rw [show ((0 : Nat) : Int) = 0 from rfl] at HWR
  have wa : IntKind.u64.wrap (f.a : Int) = (f.a : Int) := by rw [IntKind.wrap_u64]; omega
  have wb : IntKind.u64.wrap (f.b : Int) = (f.b : Int) := by rw [IntKind.wrap_u64]; omega
  generalize (offX c 0 (f.p : Int)).toNat = O at *
  generalize decide (0 ≤ offX c 0 (f.p : Int)) = D at *
  have HE := Lib.hid (And.intro (num2_free (c := c) (f := f) (by omega)) (And.intro eD es))
  clear es eD ep s hP hl hcp
  unfold shX frv
  unfold acv at HWR
  obtain ⟨tg, k, seq, kind, a, b, pc, i, j, n, p, h, x, y⟩ := f
  simp only at *
  obtain rfl : pc = 7 := hpc
  rw [show ((7 : Nat) : Int) = 7 from rfl] at ⊢
  go_enter Tryd.func30, Tryd.ntmps30
  go_upto_region 1 with fail
  refine enter3 fun W hb g0 g1 g2 q0 q1 q2 => ?_
  obtain ⟨r0, r1, r2, r3⟩ := cells4q g0
  obtain ⟨k0, k1, k2, k3, k4, k5, k6, k7, k8, k9, k10⟩ := cl11 g1
  obtain ⟨u0, v0, u1, v1, u2, v2, u3, v3, u4, v4, u5, v5, u6, v6⟩ := cells7 g2
  have HW := Lib.hid (And.intro g0 (And.intro g1 g2))
  have HB := Lib.hid hb
  have HPW := Lib.hid (HP.out.below hb)
  have HLV := Lib.hid (HL.out.below hb)
  clear g0 g1 g2 hb
  go_upto_region 2 with (go_at_call 57; refine (HMK.out _ HLV.out).mono ?_; rintro e w1 ⟨ob, rfl, hl1, hb1⟩; unfold readFn writeFn; have HB1 := Lib.hid (below_then HB.out hb1); have HPW1 := Lib.hid (HPW.out.below hb1); have HLW1 := Lib.hid hl1; clear hl1; obtain ⟨g0, g1, g2⟩ := HW.out; have HW1 := Lib.hid (And.intro (blk_below g0 hb1) (And.intro (blk_below g1 hb1) (blk_below g2 hb1))); clear r0 r1 r2 r3 k0 k1 k2 k3 k4 k5 k6 k7 k8 k9 k10 u0 v0 u1 v1 u2 v2 u3 v3 u4 v4 u5 v5 u6 v6; clear g0 g1 g2 hb1; obtain ⟨g0, g1, g2⟩ := HW1.out; obtain ⟨r0, r1, r2, r3⟩ := cells4q g0; obtain ⟨k0, k1, k2, k3, k4, k5, k6, k7, k8, k9, k10⟩ := cl11 g1; obtain ⟨u0, v0, u1, v1, u2, v2, u3, v3, u4, v4, u5, v5, u6, v6⟩ := cells7 g2; have q0 := (Array.getElem?_eq_some_iff.1 g0).1; have q1 := (Array.getElem?_eq_some_iff.1 g1).1; clear g0 g1 g2)
  refine wp_region_quiet_reads (by kernel_rfl) (by kernel_rfl) fun HR => ?_
  repeat (go_big_quiet_step (fail))
  refine wpQuiet_nil ?_
  intro Q2 hw'
  obtain ⟨⟨dq, osq⟩, hw''⟩ := hw'
  have hb2 : Below w1.heap.size w1 Q2 := by rw [hw'']; exact below_regrown _ dq osq
  clear hw'' HR dq osq q0 q1
  have HB2 := Lib.hid (below_then HB1.out hb2)
  have HPW2 := Lib.hid (HPW1.out.below hb2)
  have HLW2 := Lib.hid (HLW1.out.below hb2)
  obtain ⟨g0, g1, g2⟩ := HW1.out
  have HW2 := Lib.hid (And.intro (blk_below g0 hb2) (And.intro (blk_below g1 hb2) (blk_below g2 hb2)))
  clear r0 r1 r2 r3 k0 k1 k2 k3 k4 k5 k6 k7 k8 k9 k10 u0 v0 u1 v1 u2 v2 u3 v3 u4 v4 u5 v5 u6 v6
  clear g0 g1 g2 hb2
  obtain ⟨g0, g1, g2⟩ := HW2.out
  obtain ⟨r0, r1, r2, r3⟩ := cells4q g0
  obtain ⟨k0, k1, k2, k3, k4, k5, k6, k7, k8, k9, k10⟩ := cl11 g1
  obtain ⟨u0, v0, u1, v1, u2, v2, u3, v3, u4, v4, u5, v5, u6, v6⟩ := cells7 g2
  have q0 := (Array.getElem?_eq_some_iff.1 g0).1
  have q1 := (Array.getElem?_eq_some_iff.1 g1).1
  clear g0 g1 g2
  clear HB HPW HW HB1 HPW1 HLW1 HW1
  go_wp2_with (go_at_call 100; refine (HWR.out _ _ HLW2.out).mono ?_; rintro e w3 ⟨rfl, hb3⟩; have HB3 := Lib.hid (below_then HB2.out hb3); have HPW3 := Lib.hid (HPW2.out.below hb3); have HLW3 := Lib.hid (HLW2.out.below hb3); obtain ⟨g0, g1, g2⟩ := HW2.out; have HW3 := Lib.hid (And.intro (blk_below g0 hb3) (And.intro (blk_below g1 hb3) (blk_below g2 hb3))); clear r0 r1 r2 r3 k0 k1 k2 k3 k4 k5 k6 k7 k8 k9 k10 u0 v0 u1 v1 u2 v2 u3 v3 u4 v4 u5 v5 u6 v6; clear g0 g1 g2 hb3; obtain ⟨g0, g1, g2⟩ := HW3.out; obtain ⟨r0, r1, r2, r3⟩ := cells4q g0; obtain ⟨k0, k1, k2, k3, k4, k5, k6, k7, k8, k9, k10⟩ := cl11 g1; obtain ⟨u0, v0, u1, v1, u2, v2, u3, v3, u4, v4, u5, v5, u6, v6⟩ := cells7 g2; have q0 := (Array.getElem?_eq_some_iff.1 g0).1; have q1 := (Array.getElem?_eq_some_iff.1 g1).1; clear g0 g1 g2)
  refine bodyPost_ret (v := .tuple #[acv ⟨2, O, a, b, 0, 0, 0⟩, .bool D]) ?_ rfl ⟨⟨2, O, a, b, 0, 0, 0⟩, D, rfl, ?_, ?_, ?_⟩
  · simp [results, Tryd.results30, go_sem, acv, u0, u1, u2, u3, u4, u5, u6]
  · (repeat' (first | with_reducible exact HB3.out | (with_reducible refine Below.setCell ?_ ?_ _))) <;> (simp; try omega)
  · exact ⟨fun e => ⟨HE.out.1, HE.out.2.1.1 e⟩, fun e => HE.out.2.1.2 e.2⟩
  · exact fun _ => HE.out.2.2.symm

set_option maxRecDepth 100000 in
set_option maxHeartbeats 8000000 in
theorem pActOf_8 {c : Cf} {C N K : Nat} (s : SzX c C N K) (sb cp : Nat) (f : Ds) (hpc : f.pc = 8) (q : FitA c C f) (hcp : topX c + 1 ≤ cp ∧ cp ≤ 9223372036854775807) (w : World) (hP : Pow w) (hl : LevX c sb w) :
    Calls Tryd.prog 30 #[shX c (.slice (some ⟨sb, 0, none⟩) (topX c + 1 : Nat) cp), frv f] w (ActR c f w) := by
  have c2 := s.c2
  have t4 := topX_le c
  obtain ⟨hn, hp, hh, hi, ha, hbb, hx, hy⟩ := q
  have HP := Lib.hid hP
  have HL := Lib.hid hl
  have HMK := Lib.hid (fun W hL => pMakers_any c sb cp hcp W hL)
  have ep : placeX c f = 0 := by simp [placeX, hpc]
  have es : stepX c f = ⟨2, 0, f.n, 0, 0, 0, 0⟩ := by simp [stepX, ep, kindX, wordX, wordY, codeX, valX, hpc]
  have wn : IntKind.u64.wrap (f.n : Int) = (f.n : Int) := by rw [IntKind.wrap_u64]; omega
  have HE := Lib.hid (And.intro (show Num2 c f ∧ 0 ≤ placeX c f from ⟨num2_free (by omega), by omega⟩) es)
  clear es ep s hP hl hcp
  unfold shX frv
  obtain ⟨tg, k, seq, kind, a, b, pc, i, j, n, p, h, x, y⟩ := f
  simp only at *
  obtain rfl : pc = 8 := hpc
  rw [show ((8 : Nat) : Int) = 8 from rfl] at ⊢
  go_enter Tryd.func30, Tryd.ntmps30
  go_upto_region 1 with fail
  refine enter3 fun W hb g0 g1 g2 q0 q1 q2 => ?_
  obtain ⟨r0, r1, r2, r3⟩ := cells4q g0
  obtain ⟨k0, k1, k2, k3, k4, k5, k6, k7, k8, k9, k10⟩ := cl11 g1
  obtain ⟨u0, v0, u1, v1, u2, v2, u3, v3, u4, v4, u5, v5, u6, v6⟩ := cells7 g2
  have HW := Lib.hid (And.intro g0 (And.intro g1 g2))
  have HB := Lib.hid hb
  have HPW := Lib.hid (HP.out.below hb)
  have HLV := Lib.hid (HL.out.below hb)
  clear g0 g1 g2 hb
  go_upto_region 2 with (go_at_call 57; refine (HMK.out _ HLV.out).mono ?_; rintro e w1 ⟨ob, rfl, hl1, hb1⟩; unfold readFn writeFn; have HB1 := Lib.hid (below_then HB.out hb1); have HPW1 := Lib.hid (HPW.out.below hb1); have HLW1 := Lib.hid hl1; clear hl1; obtain ⟨g0, g1, g2⟩ := HW.out; have HW1 := Lib.hid (And.intro (blk_below g0 hb1) (And.intro (blk_below g1 hb1) (blk_below g2 hb1))); clear r0 r1 r2 r3 k0 k1 k2 k3 k4 k5 k6 k7 k8 k9 k10 u0 v0 u1 v1 u2 v2 u3 v3 u4 v4 u5 v5 u6 v6; clear g0 g1 g2 hb1; obtain ⟨g0, g1, g2⟩ := HW1.out; obtain ⟨r0, r1, r2, r3⟩ := cells4q g0; obtain ⟨k0, k1, k2, k3, k4, k5, k6, k7, k8, k9, k10⟩ := cl11 g1; obtain ⟨u0, v0, u1, v1, u2, v2, u3, v3, u4, v4, u5, v5, u6, v6⟩ := cells7 g2; have q0 := (Array.getElem?_eq_some_iff.1 g0).1; have q1 := (Array.getElem?_eq_some_iff.1 g1).1; clear g0 g1 g2)
  refine wp_region_quiet_reads (by kernel_rfl) (by kernel_rfl) fun HR => ?_
  repeat (go_big_quiet_step (fail))
  refine wpQuiet_nil ?_
  intro Q2 hw'
  obtain ⟨⟨dq, osq⟩, hw''⟩ := hw'
  have hb2 : Below w1.heap.size w1 Q2 := by rw [hw'']; exact below_regrown _ dq osq
  clear hw'' HR dq osq q0 q1
  have HB2 := Lib.hid (below_then HB1.out hb2)
  have HPW2 := Lib.hid (HPW1.out.below hb2)
  have HLW2 := Lib.hid (HLW1.out.below hb2)
  obtain ⟨g0, g1, g2⟩ := HW1.out
  have HW2 := Lib.hid (And.intro (blk_below g0 hb2) (And.intro (blk_below g1 hb2) (blk_below g2 hb2)))
  clear r0 r1 r2 r3 k0 k1 k2 k3 k4 k5 k6 k7 k8 k9 k10 u0 v0 u1 v1 u2 v2 u3 v3 u4 v4 u5 v5 u6 v6
  clear g0 g1 g2 hb2
  obtain ⟨g0, g1, g2⟩ := HW2.out
  obtain ⟨r0, r1, r2, r3⟩ := cells4q g0
  obtain ⟨k0, k1, k2, k3, k4, k5, k6, k7, k8, k9, k10⟩ := cl11 g1
  obtain ⟨u0, v0, u1, v1, u2, v2, u3, v3, u4, v4, u5, v5, u6, v6⟩ := cells7 g2
  have q0 := (Array.getElem?_eq_some_iff.1 g0).1
  have q1 := (Array.getElem?_eq_some_iff.1 g1).1
  clear g0 g1 g2
  clear HB HPW HW HB1 HPW1 HLW1 HW1
  go_wp2_with fail
  refine bodyPost_ret (v := .tuple #[acv ⟨2, 0, n, 0, 0, 0, 0⟩, .bool true]) ?_ rfl ⟨⟨2, 0, n, 0, 0, 0, 0⟩, true, rfl, ?_, ?_, ?_⟩
  · simp [results, Tryd.results30, go_sem, acv, u0, u1, u2, u3, u4, u5, u6]
  · (repeat' (first | with_reducible exact HB2.out | (with_reducible refine Below.setCell ?_ ?_ _))) <;> (simp; try omega)
  · exact ⟨fun _ => HE.out.1, fun _ => rfl⟩
  · exact fun _ => HE.out.2.symm

set_option maxRecDepth 100000 in
set_option maxHeartbeats 8000000 in
theorem pActOf_above {c : Cf} {C N K : Nat} (s : SzX c C N K) (sb cp : Nat) (f : Ds) (hpc : f.pc = 9 ∨ f.pc = 11 ∨ f.pc = 12) (q : FitA c C f) (hcp : topX c + 1 ≤ cp ∧ cp ≤ 9223372036854775807) (w : World) (hP : Pow w) (hl : LevX c sb w) :
    Calls Tryd.prog 30 #[shX c (.slice (some ⟨sb, 0, none⟩) (topX c + 1 : Nat) cp), frv f] w (ActR c f w) := by
  have c2 := s.c2
  have t4 := topX_le c
  obtain ⟨hn, hp, hh, hi, ha, hbb, hx, hy⟩ := q
  have HP := Lib.hid hP
  have HL := Lib.hid hl
  have HMK := Lib.hid (fun W hL => pMakers_any c sb cp hcp W hL)
  have HAB := Lib.hid (fun ob W hp hl => pActAbove_any s ob (.slice (some ⟨sb, 0, none⟩) (topX c + 1 : Nat) cp) f hpc hn hh hi hx W hp hl)
  have HCF := Lib.hid (show ∀ w0 w1 e, ActR c f w0 e w1 → ActR c f w0 e w1 from fun _ _ _ h => h)
  clear s hP hl hcp
  generalize hF : ActR c f = FF at *
  unfold shX frv readFn writeFn at HAB
  unfold shX frv
  obtain ⟨tg, k, seq, kind, a, b, pc, i, j, n, p, h, x, y⟩ := f
  simp only at *
  rcases hpc with rfl | rfl | rfl
  · rw [show ((9 : Nat) : Int) = 9 from rfl] at HAB ⊢
    go_enter Tryd.func30, Tryd.ntmps30
    go_upto_region 1 with fail
    refine enter3 fun W hb g0 g1 g2 q0 q1 q2 => ?_
    obtain ⟨r0, r1, r2, r3⟩ := cells4q g0
    obtain ⟨k0, k1, k2, k3, k4, k5, k6, k7, k8, k9, k10⟩ := cl11 g1
    obtain ⟨u0, v0, u1, v1, u2, v2, u3, v3, u4, v4, u5, v5, u6, v6⟩ := cells7 g2
    have HW := Lib.hid (And.intro g0 (And.intro g1 g2))
    have HB := Lib.hid hb
    have HPW := Lib.hid (HP.out.below hb)
    have HLV := Lib.hid (HL.out.below hb)
    clear g0 g1 g2 hb
    go_upto_region 2 with (go_at_call 57; refine (HMK.out _ HLV.out).mono ?_; rintro e w1 ⟨ob, rfl, hl1, hb1⟩; unfold readFn writeFn; have HB1 := Lib.hid (below_then HB.out hb1); have HPW1 := Lib.hid (HPW.out.below hb1); have HLW1 := Lib.hid hl1; clear hl1; obtain ⟨g0, g1, g2⟩ := HW.out; have HW1 := Lib.hid (And.intro (blk_below g0 hb1) (And.intro (blk_below g1 hb1) (blk_below g2 hb1))); clear r0 r1 r2 r3 k0 k1 k2 k3 k4 k5 k6 k7 k8 k9 k10 u0 v0 u1 v1 u2 v2 u3 v3 u4 v4 u5 v5 u6 v6; clear g0 g1 g2 hb1; obtain ⟨g0, g1, g2⟩ := HW1.out; obtain ⟨r0, r1, r2, r3⟩ := cells4q g0; obtain ⟨k0, k1, k2, k3, k4, k5, k6, k7, k8, k9, k10⟩ := cl11 g1; obtain ⟨u0, v0, u1, v1, u2, v2, u3, v3, u4, v4, u5, v5, u6, v6⟩ := cells7 g2; have q0 := (Array.getElem?_eq_some_iff.1 g0).1; have q1 := (Array.getElem?_eq_some_iff.1 g1).1; clear g0 g1 g2)
    refine wp_region_quiet_reads (by kernel_rfl) (by kernel_rfl) fun HR => ?_
    repeat (go_big_quiet_step (fail))
    refine wpQuiet_nil ?_
    intro Q2 hw'
    obtain ⟨⟨dq, osq⟩, hw''⟩ := hw'
    have hb2 : Below w1.heap.size w1 Q2 := by rw [hw'']; exact below_regrown _ dq osq
    clear hw'' HR dq osq q0 q1
    have HB2 := Lib.hid (below_then HB1.out hb2)
    have HPW2 := Lib.hid (HPW1.out.below hb2)
    have HLW2 := Lib.hid (HLW1.out.below hb2)
    obtain ⟨g0, g1, g2⟩ := HW1.out
    have HW2 := Lib.hid (And.intro (blk_below g0 hb2) (And.intro (blk_below g1 hb2) (blk_below g2 hb2)))
    clear r0 r1 r2 r3 k0 k1 k2 k3 k4 k5 k6 k7 k8 k9 k10 u0 v0 u1 v1 u2 v2 u3 v3 u4 v4 u5 v5 u6 v6
    clear g0 g1 g2 hb2
    obtain ⟨g0, g1, g2⟩ := HW2.out
    obtain ⟨r0, r1, r2, r3⟩ := cells4q g0
    obtain ⟨k0, k1, k2, k3, k4, k5, k6, k7, k8, k9, k10⟩ := cl11 g1
    obtain ⟨u0, v0, u1, v1, u2, v2, u3, v3, u4, v4, u5, v5, u6, v6⟩ := cells7 g2
    have q0 := (Array.getElem?_eq_some_iff.1 g0).1
    have q1 := (Array.getElem?_eq_some_iff.1 g1).1
    clear g0 g1 g2
    clear HB HPW HW HB1 HPW1 HLW1 HW1
    go_wp2_with (go_at_call 58; refine (HAB.out _ _ HPW2.out HLW2.out).mono ?_; intro e w3 hf; rw [← hF] at hf; obtain ⟨X, bo, rfl, hb3, hi1, hi2⟩ := hf; have HX := Lib.hid (And.intro hi1 hi2); clear hi1 hi2; unfold acv; have HB3 := Lib.hid (below_then HB2.out hb3); have HPW3 := Lib.hid (HPW2.out.below hb3); have HLW3 := Lib.hid (HLW2.out.below hb3); obtain ⟨g0, g1, g2⟩ := HW2.out; have HW3 := Lib.hid (And.intro (blk_below g0 hb3) (And.intro (blk_below g1 hb3) (blk_below g2 hb3))); clear r0 r1 r2 r3 k0 k1 k2 k3 k4 k5 k6 k7 k8 k9 k10 u0 v0 u1 v1 u2 v2 u3 v3 u4 v4 u5 v5 u6 v6; clear g0 g1 g2 hb3; obtain ⟨g0, g1, g2⟩ := HW3.out; obtain ⟨r0, r1, r2, r3⟩ := cells4q g0; obtain ⟨k0, k1, k2, k3, k4, k5, k6, k7, k8, k9, k10⟩ := cl11 g1; obtain ⟨u0, v0, u1, v1, u2, v2, u3, v3, u4, v4, u5, v5, u6, v6⟩ := cells7 g2; have q0 := (Array.getElem?_eq_some_iff.1 g0).1; have q1 := (Array.getElem?_eq_some_iff.1 g1).1; clear g0 g1 g2)
    rw [← hF]
    refine bodyPost_ret (v := .tuple #[acv X, .bool bo]) ?_ rfl ⟨X, bo, rfl, ?_, ?_, ?_⟩
    · simp [results, Tryd.results30, go_sem, acv, u0, u1, u2, u3, u4, u5, u6]
    · (repeat' (first | with_reducible exact HB3.out | (with_reducible refine Below.setCell ?_ ?_ _))) <;> (simp; try omega)
    · exact HX.out.1
    · exact HX.out.2
  · rw [show ((11 : Nat) : Int) = 11 from rfl] at HAB ⊢
    go_enter Tryd.func30, Tryd.ntmps30
    go_upto_region 1 with fail
    refine enter3 fun W hb g0 g1 g2 q0 q1 q2 => ?_
    obtain ⟨r0, r1, r2, r3⟩ := cells4q g0
    obtain ⟨k0, k1, k2, k3, k4, k5, k6, k7, k8, k9, k10⟩ := cl11 g1
    obtain ⟨u0, v0, u1, v1, u2, v2, u3, v3, u4, v4, u5, v5, u6, v6⟩ := cells7 g2
    have HW := Lib.hid (And.intro g0 (And.intro g1 g2))
    have HB := Lib.hid hb
    have HPW := Lib.hid (HP.out.below hb)
    have HLV := Lib.hid (HL.out.below hb)
    clear g0 g1 g2 hb
    go_upto_region 2 with (go_at_call 57; refine (HMK.out _ HLV.out).mono ?_; rintro e w1 ⟨ob, rfl, hl1, hb1⟩; unfold readFn writeFn; have HB1 := Lib.hid (below_then HB.out hb1); have HPW1 := Lib.hid (HPW.out.below hb1); have HLW1 := Lib.hid hl1; clear hl1; obtain ⟨g0, g1, g2⟩ := HW.out; have HW1 := Lib.hid (And.intro (blk_below g0 hb1) (And.intro (blk_below g1 hb1) (blk_below g2 hb1))); clear r0 r1 r2 r3 k0 k1 k2 k3 k4 k5 k6 k7 k8 k9 k10 u0 v0 u1 v1 u2 v2 u3 v3 u4 v4 u5 v5 u6 v6; clear g0 g1 g2 hb1; obtain ⟨g0, g1, g2⟩ := HW1.out; obtain ⟨r0, r1, r2, r3⟩ := cells4q g0; obtain ⟨k0, k1, k2, k3, k4, k5, k6, k7, k8, k9, k10⟩ := cl11 g1; obtain ⟨u0, v0, u1, v1, u2, v2, u3, v3, u4, v4, u5, v5, u6, v6⟩ := cells7 g2; have q0 := (Array.getElem?_eq_some_iff.1 g0).1; have q1 := (Array.getElem?_eq_some_iff.1 g1).1; clear g0 g1 g2)
    refine wp_region_quiet_reads (by kernel_rfl) (by kernel_rfl) fun HR => ?_
    repeat (go_big_quiet_step (fail))
    refine wpQuiet_nil ?_
    intro Q2 hw'
    obtain ⟨⟨dq, osq⟩, hw''⟩ := hw'
    have hb2 : Below w1.heap.size w1 Q2 := by rw [hw'']; exact below_regrown _ dq osq
    clear hw'' HR dq osq q0 q1
    have HB2 := Lib.hid (below_then HB1.out hb2)
    have HPW2 := Lib.hid (HPW1.out.below hb2)
    have HLW2 := Lib.hid (HLW1.out.below hb2)
    obtain ⟨g0, g1, g2⟩ := HW1.out
    have HW2 := Lib.hid (And.intro (blk_below g0 hb2) (And.intro (blk_below g1 hb2) (blk_below g2 hb2)))
    clear r0 r1 r2 r3 k0 k1 k2 k3 k4 k5 k6 k7 k8 k9 k10 u0 v0 u1 v1 u2 v2 u3 v3 u4 v4 u5 v5 u6 v6
    clear g0 g1 g2 hb2
    obtain ⟨g0, g1, g2⟩ := HW2.out
    obtain ⟨r0, r1, r2, r3⟩ := cells4q g0
    obtain ⟨k0, k1, k2, k3, k4, k5, k6, k7, k8, k9, k10⟩ := cl11 g1
    obtain ⟨u0, v0, u1, v1, u2, v2, u3, v3, u4, v4, u5, v5, u6, v6⟩ := cells7 g2
    have q0 := (Array.getElem?_eq_some_iff.1 g0).1
    have q1 := (Array.getElem?_eq_some_iff.1 g1).1
    clear g0 g1 g2
    clear HB HPW HW HB1 HPW1 HLW1 HW1
    go_wp2_with (go_at_call 58; refine (HAB.out _ _ HPW2.out HLW2.out).mono ?_; intro e w3 hf; rw [← hF] at hf; obtain ⟨X, bo, rfl, hb3, hi1, hi2⟩ := hf; have HX := Lib.hid (And.intro hi1 hi2); clear hi1 hi2; unfold acv; have HB3 := Lib.hid (below_then HB2.out hb3); have HPW3 := Lib.hid (HPW2.out.below hb3); have HLW3 := Lib.hid (HLW2.out.below hb3); obtain ⟨g0, g1, g2⟩ := HW2.out; have HW3 := Lib.hid (And.intro (blk_below g0 hb3) (And.intro (blk_below g1 hb3) (blk_below g2 hb3))); clear r0 r1 r2 r3 k0 k1 k2 k3 k4 k5 k6 k7 k8 k9 k10 u0 v0 u1 v1 u2 v2 u3 v3 u4 v4 u5 v5 u6 v6; clear g0 g1 g2 hb3; obtain ⟨g0, g1, g2⟩ := HW3.out; obtain ⟨r0, r1, r2, r3⟩ := cells4q g0; obtain ⟨k0, k1, k2, k3, k4, k5, k6, k7, k8, k9, k10⟩ := cl11 g1; obtain ⟨u0, v0, u1, v1, u2, v2, u3, v3, u4, v4, u5, v5, u6, v6⟩ := cells7 g2; have q0 := (Array.getElem?_eq_some_iff.1 g0).1; have q1 := (Array.getElem?_eq_some_iff.1 g1).1; clear g0 g1 g2)
    rw [← hF]
    refine bodyPost_ret (v := .tuple #[acv X, .bool bo]) ?_ rfl ⟨X, bo, rfl, ?_, ?_, ?_⟩
    · simp [results, Tryd.results30, go_sem, acv, u0, u1, u2, u3, u4, u5, u6]
    · (repeat' (first | with_reducible exact HB3.out | (with_reducible refine Below.setCell ?_ ?_ _))) <;> (simp; try omega)
    · exact HX.out.1
    · exact HX.out.2
  · rw [show ((12 : Nat) : Int) = 12 from rfl] at HAB ⊢
    go_enter Tryd.func30, Tryd.ntmps30
    go_upto_region 1 with fail
    refine enter3 fun W hb g0 g1 g2 q0 q1 q2 => ?_
    obtain ⟨r0, r1, r2, r3⟩ := cells4q g0
    obtain ⟨k0, k1, k2, k3, k4, k5, k6, k7, k8, k9, k10⟩ := cl11 g1
    obtain ⟨u0, v0, u1, v1, u2, v2, u3, v3, u4, v4, u5, v5, u6, v6⟩ := cells7 g2
    have HW := Lib.hid (And.intro g0 (And.intro g1 g2))
    have HB := Lib.hid hb
    have HPW := Lib.hid (HP.out.below hb)
    have HLV := Lib.hid (HL.out.below hb)
    clear g0 g1 g2 hb
    go_upto_region 2 with (go_at_call 57; refine (HMK.out _ HLV.out).mono ?_; rintro e w1 ⟨ob, rfl, hl1, hb1⟩; unfold readFn writeFn; have HB1 := Lib.hid (below_then HB.out hb1); have HPW1 := Lib.hid (HPW.out.below hb1); have HLW1 := Lib.hid hl1; clear hl1; obtain ⟨g0, g1, g2⟩ := HW.out; have HW1 := Lib.hid (And.intro (blk_below g0 hb1) (And.intro (blk_below g1 hb1) (blk_below g2 hb1))); clear r0 r1 r2 r3 k0 k1 k2 k3 k4 k5 k6 k7 k8 k9 k10 u0 v0 u1 v1 u2 v2 u3 v3 u4 v4 u5 v5 u6 v6; clear g0 g1 g2 hb1; obtain ⟨g0, g1, g2⟩ := HW1.out; obtain ⟨r0, r1, r2, r3⟩ := cells4q g0; obtain ⟨k0, k1, k2, k3, k4, k5, k6, k7, k8, k9, k10⟩ := cl11 g1; obtain ⟨u0, v0, u1, v1, u2, v2, u3, v3, u4, v4, u5, v5, u6, v6⟩ := cells7 g2; have q0 := (Array.getElem?_eq_some_iff.1 g0).1; have q1 := (Array.getElem?_eq_some_iff.1 g1).1; clear g0 g1 g2)
    refine wp_region_quiet_reads (by kernel_rfl) (by kernel_rfl) fun HR => ?_
    repeat (go_big_quiet_step (fail))
    refine wpQuiet_nil ?_
    intro Q2 hw'
    obtain ⟨⟨dq, osq⟩, hw''⟩ := hw'
    have hb2 : Below w1.heap.size w1 Q2 := by rw [hw'']; exact below_regrown _ dq osq
    clear hw'' HR dq osq q0 q1
    have HB2 := Lib.hid (below_then HB1.out hb2)
    have HPW2 := Lib.hid (HPW1.out.below hb2)
    have HLW2 := Lib.hid (HLW1.out.below hb2)
    obtain ⟨g0, g1, g2⟩ := HW1.out
    have HW2 := Lib.hid (And.intro (blk_below g0 hb2) (And.intro (blk_below g1 hb2) (blk_below g2 hb2)))
    clear r0 r1 r2 r3 k0 k1 k2 k3 k4 k5 k6 k7 k8 k9 k10 u0 v0 u1 v1 u2 v2 u3 v3 u4 v4 u5 v5 u6 v6
    clear g0 g1 g2 hb2
    obtain ⟨g0, g1, g2⟩ := HW2.out
    obtain ⟨r0, r1, r2, r3⟩ := cells4q g0
    obtain ⟨k0, k1, k2, k3, k4, k5, k6, k7, k8, k9, k10⟩ := cl11 g1
    obtain ⟨u0, v0, u1, v1, u2, v2, u3, v3, u4, v4, u5, v5, u6, v6⟩ := cells7 g2
    have q0 := (Array.getElem?_eq_some_iff.1 g0).1
    have q1 := (Array.getElem?_eq_some_iff.1 g1).1
    clear g0 g1 g2
    clear HB HPW HW HB1 HPW1 HLW1 HW1
    go_wp2_with (go_at_call 58; refine (HAB.out _ _ HPW2.out HLW2.out).mono ?_; intro e w3 hf; rw [← hF] at hf; obtain ⟨X, bo, rfl, hb3, hi1, hi2⟩ := hf; have HX := Lib.hid (And.intro hi1 hi2); clear hi1 hi2; unfold acv; have HB3 := Lib.hid (below_then HB2.out hb3); have HPW3 := Lib.hid (HPW2.out.below hb3); have HLW3 := Lib.hid (HLW2.out.below hb3); obtain ⟨g0, g1, g2⟩ := HW2.out; have HW3 := Lib.hid (And.intro (blk_below g0 hb3) (And.intro (blk_below g1 hb3) (blk_below g2 hb3))); clear r0 r1 r2 r3 k0 k1 k2 k3 k4 k5 k6 k7 k8 k9 k10 u0 v0 u1 v1 u2 v2 u3 v3 u4 v4 u5 v5 u6 v6; clear g0 g1 g2 hb3; obtain ⟨g0, g1, g2⟩ := HW3.out; obtain ⟨r0, r1, r2, r3⟩ := cells4q g0; obtain ⟨k0, k1, k2, k3, k4, k5, k6, k7, k8, k9, k10⟩ := cl11 g1; obtain ⟨u0, v0, u1, v1, u2, v2, u3, v3, u4, v4, u5, v5, u6, v6⟩ := cells7 g2; have q0 := (Array.getElem?_eq_some_iff.1 g0).1; have q1 := (Array.getElem?_eq_some_iff.1 g1).1; clear g0 g1 g2)
    rw [← hF]
    refine bodyPost_ret (v := .tuple #[acv X, .bool bo]) ?_ rfl ⟨X, bo, rfl, ?_, ?_, ?_⟩
    · simp [results, Tryd.results30, go_sem, acv, u0, u1, u2, u3, u4, u5, u6]
    · (repeat' (first | with_reducible exact HB3.out | (with_reducible refine Below.setCell ?_ ?_ _))) <;> (simp; try omega)
    · exact HX.out.1
    · exact HX.out.2

set_option maxRecDepth 100000 in
set_option maxHeartbeats 8000000 in
theorem pActOf_13 {c : Cf} {C N K : Nat} (s : SzX c C N K) (sb cp : Nat) (f : Ds) (hpc : f.pc = 13) (q : FitA c C f) (hcp : topX c + 1 ≤ cp ∧ cp ≤ 9223372036854775807) (w : World) (hP : Pow w) (hl : LevX c sb w) :
    Calls Tryd.prog 30 #[shX c (.slice (some ⟨sb, 0, none⟩) (topX c + 1 : Nat) cp), frv f] w (ActR c f w) := by
  have c2 := s.c2
  have t4 := topX_le c
  obtain ⟨hn, hp, hh, hi, ha, hbb, hx, hy⟩ := q
  have HP := Lib.hid hP
  have HL := Lib.hid hl
  have HMK := Lib.hid (fun W hL => pMakers_any c sb cp hcp W hL)
  have ep : placeX c f = offX c 0 (f.i : Int) := by simp [placeX, hpc]
  have es : stepX c f = ⟨1, (offX c 0 (f.i : Int)).toNat, 0, 0, 0, 0, 0⟩ := by simp [stepX, ep, kindX, wordX, wordY, codeX, valX, hpc]
  have eD : decide (0 ≤ offX c 0 (f.i : Int)) = true ↔ 0 ≤ placeX c f := by rw [ep]; simp
  have HRD := Lib.hid (fun ob W hl => pReadX_any s ob 0 (f.i : Int) (by omega) (by omega) W hl)
  rw [show ((0 : Nat) : Int) = 0 from rfl] at HRD
  generalize (offX c 0 (f.i : Int)).toNat = O at *
  generalize decide (0 ≤ offX c 0 (f.i : Int)) = D at *
  have HE := Lib.hid (And.intro (num2_free (c := c) (f := f) (by omega)) (And.intro eD es))
  clear es eD ep s hP hl hcp
  unfold shX frv
  unfold acv at HRD
  obtain ⟨tg, k, seq, kind, a, b, pc, i, j, n, p, h, x, y⟩ := f
  simp only at *
  obtain rfl : pc = 13 := hpc
  rw [show ((13 : Nat) : Int) = 13 from rfl] at ⊢
  go_enter Tryd.func30, Tryd.ntmps30
  go_upto_region 1 with fail
  refine enter3 fun W hb g0 g1 g2 q0 q1 q2 => ?_
  obtain ⟨r0, r1, r2, r3⟩ := cells4q g0
  obtain ⟨k0, k1, k2, k3, k4, k5, k6, k7, k8, k9, k10⟩ := cl11 g1
  obtain ⟨u0, v0, u1, v1, u2, v2, u3, v3, u4, v4, u5, v5, u6, v6⟩ := cells7 g2
  have HW := Lib.hid (And.intro g0 (And.intro g1 g2))
  have HB := Lib.hid hb
  have HPW := Lib.hid (HP.out.below hb)
  have HLV := Lib.hid (HL.out.below hb)
  clear g0 g1 g2 hb
  go_upto_region 2 with (go_at_call 57; refine (HMK.out _ HLV.out).mono ?_; rintro e w1 ⟨ob, rfl, hl1, hb1⟩; unfold readFn writeFn; have HB1 := Lib.hid (below_then HB.out hb1); have HPW1 := Lib.hid (HPW.out.below hb1); have HLW1 := Lib.hid hl1; clear hl1; obtain ⟨g0, g1, g2⟩ := HW.out; have HW1 := Lib.hid (And.intro (blk_below g0 hb1) (And.intro (blk_below g1 hb1) (blk_below g2 hb1))); clear r0 r1 r2 r3 k0 k1 k2 k3 k4 k5 k6 k7 k8 k9 k10 u0 v0 u1 v1 u2 v2 u3 v3 u4 v4 u5 v5 u6 v6; clear g0 g1 g2 hb1; obtain ⟨g0, g1, g2⟩ := HW1.out; obtain ⟨r0, r1, r2, r3⟩ := cells4q g0; obtain ⟨k0, k1, k2, k3, k4, k5, k6, k7, k8, k9, k10⟩ := cl11 g1; obtain ⟨u0, v0, u1, v1, u2, v2, u3, v3, u4, v4, u5, v5, u6, v6⟩ := cells7 g2; have q0 := (Array.getElem?_eq_some_iff.1 g0).1; have q1 := (Array.getElem?_eq_some_iff.1 g1).1; clear g0 g1 g2)
  refine wp_region_quiet_reads (by kernel_rfl) (by kernel_rfl) fun HR => ?_
  repeat (go_big_quiet_step (fail))
  refine wpQuiet_nil ?_
  intro Q2 hw'
  obtain ⟨⟨dq, osq⟩, hw''⟩ := hw'
  have hb2 : Below w1.heap.size w1 Q2 := by rw [hw'']; exact below_regrown _ dq osq
  clear hw'' HR dq osq q0 q1
  have HB2 := Lib.hid (below_then HB1.out hb2)
  have HPW2 := Lib.hid (HPW1.out.below hb2)
  have HLW2 := Lib.hid (HLW1.out.below hb2)
  obtain ⟨g0, g1, g2⟩ := HW1.out
  have HW2 := Lib.hid (And.intro (blk_below g0 hb2) (And.intro (blk_below g1 hb2) (blk_below g2 hb2)))
  clear r0 r1 r2 r3 k0 k1 k2 k3 k4 k5 k6 k7 k8 k9 k10 u0 v0 u1 v1 u2 v2 u3 v3 u4 v4 u5 v5 u6 v6
  clear g0 g1 g2 hb2
  obtain ⟨g0, g1, g2⟩ := HW2.out
  obtain ⟨r0, r1, r2, r3⟩ := cells4q g0
  obtain ⟨k0, k1, k2, k3, k4, k5, k6, k7, k8, k9, k10⟩ := cl11 g1
  obtain ⟨u0, v0, u1, v1, u2, v2, u3, v3, u4, v4, u5, v5, u6, v6⟩ := cells7 g2
  have q0 := (Array.getElem?_eq_some_iff.1 g0).1
  have q1 := (Array.getElem?_eq_some_iff.1 g1).1
  clear g0 g1 g2
  clear HB HPW HW HB1 HPW1 HLW1 HW1
  go_wp2_with (go_at_call 99; refine (HRD.out _ _ HLW2.out).mono ?_; rintro e w3 ⟨rfl, hb3⟩; have HB3 := Lib.hid (below_then HB2.out hb3); have HPW3 := Lib.hid (HPW2.out.below hb3); have HLW3 := Lib.hid (HLW2.out.below hb3); obtain ⟨g0, g1, g2⟩ := HW2.out; have HW3 := Lib.hid (And.intro (blk_below g0 hb3) (And.intro (blk_below g1 hb3) (blk_below g2 hb3))); clear r0 r1 r2 r3 k0 k1 k2 k3 k4 k5 k6 k7 k8 k9 k10 u0 v0 u1 v1 u2 v2 u3 v3 u4 v4 u5 v5 u6 v6; clear g0 g1 g2 hb3; obtain ⟨g0, g1, g2⟩ := HW3.out; obtain ⟨r0, r1, r2, r3⟩ := cells4q g0; obtain ⟨k0, k1, k2, k3, k4, k5, k6, k7, k8, k9, k10⟩ := cl11 g1; obtain ⟨u0, v0, u1, v1, u2, v2, u3, v3, u4, v4, u5, v5, u6, v6⟩ := cells7 g2; have q0 := (Array.getElem?_eq_some_iff.1 g0).1; have q1 := (Array.getElem?_eq_some_iff.1 g1).1; clear g0 g1 g2)
  refine bodyPost_ret (v := .tuple #[acv ⟨1, O, 0, 0, 0, 0, 0⟩, .bool D]) ?_ rfl ⟨⟨1, O, 0, 0, 0, 0, 0⟩, D, rfl, ?_, ?_, ?_⟩
  · simp [results, Tryd.results30, go_sem, acv, u0, u1, u2, u3, u4, u5, u6]
  · (repeat' (first | with_reducible exact HB3.out | (with_reducible refine Below.setCell ?_ ?_ _))) <;> (simp; try omega)
  · exact ⟨fun e => ⟨HE.out.1, HE.out.2.1.1 e⟩, fun e => HE.out.2.1.2 e.2⟩
  · exact fun _ => HE.out.2.2.symm

set_option maxRecDepth 100000 in
set_option maxHeartbeats 8000000 in
theorem pActOf_14 {c : Cf} {C N K : Nat} (s : SzX c C N K) (sb cp : Nat) (f : Ds) (hpc : f.pc = 14) (q : FitA c C f) (hcp : topX c + 1 ≤ cp ∧ cp ≤ 9223372036854775807) (w : World) (hP : Pow w) (hl : LevX c sb w) :
    Calls Tryd.prog 30 #[shX c (.slice (some ⟨sb, 0, none⟩) (topX c + 1 : Nat) cp), frv f] w (ActR c f w) := by
  have c2 := s.c2
  have t4 := topX_le c
  obtain ⟨hn, hp, hh, hi, ha, hbb, hx, hy⟩ := q
  have HP := Lib.hid hP
  have HL := Lib.hid hl
  have HMK := Lib.hid (fun W hL => pMakers_any c sb cp hcp W hL)
  have ep : placeX c f = offX c 0 ((f.i : Int) - 1) := by simp [placeX, hpc]
  have es : stepX c f = ⟨2, (offX c 0 ((f.i : Int) - 1)).toNat, f.x, f.y, 0, 0, 0⟩ := by simp [stepX, ep, kindX, wordX, wordY, codeX, valX, hpc]
  have eD : decide (0 ≤ offX c 0 ((f.i : Int) - 1)) = true ↔ 0 ≤ placeX c f := by rw [ep]; simp
  have HWR := Lib.hid (fun ob W hl => pWriteX_any s ob 0 ((f.i : Int) - 1) f.x f.y (by omega) (by omega) W hl)
  rw [show ((0 : Nat) : Int) = 0 from rfl] at HWR
  have wx : IntKind.u64.wrap (f.x : Int) = (f.x : Int) := by rw [IntKind.wrap_u64]; omega
  have wy : IntKind.u64.wrap (f.y : Int) = (f.y : Int) := by rw [IntKind.wrap_u64]; omega
  have w1 : wrap64 ((f.i : Int) - 1) = (f.i : Int) - 1 := by unfold wrap64; omega
  generalize (offX c 0 ((f.i : Int) - 1)).toNat = O at *
  generalize decide (0 ≤ offX c 0 ((f.i : Int) - 1)) = D at *
  have HE := Lib.hid (And.intro (num2_free (c := c) (f := f) (by omega)) (And.intro eD es))
  clear es eD ep s hP hl hcp
  unfold shX frv
  unfold acv at HWR
  obtain ⟨tg, k, seq, kind, a, b, pc, i, j, n, p, h, x, y⟩ := f
  simp only at *
  obtain rfl : pc = 14 := hpc
  rw [show ((14 : Nat) : Int) = 14 from rfl] at ⊢
  go_enter Tryd.func30, Tryd.ntmps30
  go_upto_region 1 with fail
  refine enter3 fun W hb g0 g1 g2 q0 q1 q2 => ?_
  obtain ⟨r0, r1, r2, r3⟩ := cells4q g0
  obtain ⟨k0, k1, k2, k3, k4, k5, k6, k7, k8, k9, k10⟩ := cl11 g1
  obtain ⟨u0, v0, u1, v1, u2, v2, u3, v3, u4, v4, u5, v5, u6, v6⟩ := cells7 g2
  have HW := Lib.hid (And.intro g0 (And.intro g1 g2))
  have HB := Lib.hid hb
  have HPW := Lib.hid (HP.out.below hb)
  have HLV := Lib.hid (HL.out.below hb)
  clear g0 g1 g2 hb
  go_upto_region 2 with (go_at_call 57; refine (HMK.out _ HLV.out).mono ?_; rintro e w1 ⟨ob, rfl, hl1, hb1⟩; unfold readFn writeFn; have HB1 := Lib.hid (below_then HB.out hb1); have HPW1 := Lib.hid (HPW.out.below hb1); have HLW1 := Lib.hid hl1; clear hl1; obtain ⟨g0, g1, g2⟩ := HW.out; have HW1 := Lib.hid (And.intro (blk_below g0 hb1) (And.intro (blk_below g1 hb1) (blk_below g2 hb1))); clear r0 r1 r2 r3 k0 k1 k2 k3 k4 k5 k6 k7 k8 k9 k10 u0 v0 u1 v1 u2 v2 u3 v3 u4 v4 u5 v5 u6 v6; clear g0 g1 g2 hb1; obtain ⟨g0, g1, g2⟩ := HW1.out; obtain ⟨r0, r1, r2, r3⟩ := cells4q g0; obtain ⟨k0, k1, k2, k3, k4, k5, k6, k7, k8, k9, k10⟩ := cl11 g1; obtain ⟨u0, v0, u1, v1, u2, v2, u3, v3, u4, v4, u5, v5, u6, v6⟩ := cells7 g2; have q0 := (Array.getElem?_eq_some_iff.1 g0).1; have q1 := (Array.getElem?_eq_some_iff.1 g1).1; clear g0 g1 g2)
  refine wp_region_quiet_reads (by kernel_rfl) (by kernel_rfl) fun HR => ?_
  repeat (go_big_quiet_step (fail))
  refine wpQuiet_nil ?_
  intro Q2 hw'
  obtain ⟨⟨dq, osq⟩, hw''⟩ := hw'
  have hb2 : Below w1.heap.size w1 Q2 := by rw [hw'']; exact below_regrown _ dq osq
  clear hw'' HR dq osq q0 q1
  have HB2 := Lib.hid (below_then HB1.out hb2)
  have HPW2 := Lib.hid (HPW1.out.below hb2)
  have HLW2 := Lib.hid (HLW1.out.below hb2)
  obtain ⟨g0, g1, g2⟩ := HW1.out
  have HW2 := Lib.hid (And.intro (blk_below g0 hb2) (And.intro (blk_below g1 hb2) (blk_below g2 hb2)))
  clear r0 r1 r2 r3 k0 k1 k2 k3 k4 k5 k6 k7 k8 k9 k10 u0 v0 u1 v1 u2 v2 u3 v3 u4 v4 u5 v5 u6 v6
  clear g0 g1 g2 hb2
  obtain ⟨g0, g1, g2⟩ := HW2.out
  obtain ⟨r0, r1, r2, r3⟩ := cells4q g0
  obtain ⟨k0, k1, k2, k3, k4, k5, k6, k7, k8, k9, k10⟩ := cl11 g1
  obtain ⟨u0, v0, u1, v1, u2, v2, u3, v3, u4, v4, u5, v5, u6, v6⟩ := cells7 g2
  have q0 := (Array.getElem?_eq_some_iff.1 g0).1
  have q1 := (Array.getElem?_eq_some_iff.1 g1).1
  clear g0 g1 g2
  clear HB HPW HW HB1 HPW1 HLW1 HW1
  go_wp2_with (go_at_call 100; refine (HWR.out _ _ HLW2.out).mono ?_; rintro e w3 ⟨rfl, hb3⟩; have HB3 := Lib.hid (below_then HB2.out hb3); have HPW3 := Lib.hid (HPW2.out.below hb3); have HLW3 := Lib.hid (HLW2.out.below hb3); obtain ⟨g0, g1, g2⟩ := HW2.out; have HW3 := Lib.hid (And.intro (blk_below g0 hb3) (And.intro (blk_below g1 hb3) (blk_below g2 hb3))); clear r0 r1 r2 r3 k0 k1 k2 k3 k4 k5 k6 k7 k8 k9 k10 u0 v0 u1 v1 u2 v2 u3 v3 u4 v4 u5 v5 u6 v6; clear g0 g1 g2 hb3; obtain ⟨g0, g1, g2⟩ := HW3.out; obtain ⟨r0, r1, r2, r3⟩ := cells4q g0; obtain ⟨k0, k1, k2, k3, k4, k5, k6, k7, k8, k9, k10⟩ := cl11 g1; obtain ⟨u0, v0, u1, v1, u2, v2, u3, v3, u4, v4, u5, v5, u6, v6⟩ := cells7 g2; have q0 := (Array.getElem?_eq_some_iff.1 g0).1; have q1 := (Array.getElem?_eq_some_iff.1 g1).1; clear g0 g1 g2)
  refine bodyPost_ret (v := .tuple #[acv ⟨2, O, x, y, 0, 0, 0⟩, .bool D]) ?_ rfl ⟨⟨2, O, x, y, 0, 0, 0⟩, D, rfl, ?_, ?_, ?_⟩
  · simp [results, Tryd.results30, go_sem, acv, u0, u1, u2, u3, u4, u5, u6]
  · (repeat' (first | with_reducible exact HB3.out | (with_reducible refine Below.setCell ?_ ?_ _))) <;> (simp; try omega)
  · exact ⟨fun e => ⟨HE.out.1, HE.out.2.1.1 e⟩, fun e => HE.out.2.1.2 e.2⟩
  · exact fun _ => HE.out.2.2.symm

set_option maxRecDepth 100000 in
set_option maxHeartbeats 8000000 in
theorem pActOf_15 {c : Cf} {C N K : Nat} (s : SzX c C N K) (sb cp : Nat) (f : Ds) (hpc : f.pc = 15) (q : FitA c C f) (hcp : topX c + 1 ≤ cp ∧ cp ≤ 9223372036854775807) (w : World) (hP : Pow w) (hl : LevX c sb w) :
    Calls Tryd.prog 30 #[shX c (.slice (some ⟨sb, 0, none⟩) (topX c + 1 : Nat) cp), frv f] w (ActR c f w) := by
  have c2 := s.c2
  have t4 := topX_le c
  obtain ⟨hn, hp, hh, hi, ha, hbb, hx, hy⟩ := q
  have HP := Lib.hid hP
  have HL := Lib.hid hl
  have HMK := Lib.hid (fun W hL => pMakers_any c sb cp hcp W hL)
  have ep : placeX c f = offX c 0 ((f.n : Int) - 1) := by simp [placeX, hpc]
  have es : stepX c f = ⟨2, (offX c 0 ((f.n : Int) - 1)).toNat, 0, 0, 0, 0, 0⟩ := by simp [stepX, ep, kindX, wordX, wordY, codeX, valX, hpc]
  have eD : decide (0 ≤ offX c 0 ((f.n : Int) - 1)) = true ↔ 0 ≤ placeX c f := by rw [ep]; simp
  have HWR := Lib.hid (fun ob W hl => pWriteX_any s ob 0 ((f.n : Int) - 1) 0 0 (by omega) (by omega) W hl)
  rw [show ((0 : Nat) : Int) = 0 from rfl] at HWR
  have w1 : wrap64 ((f.n : Int) - 1) = (f.n : Int) - 1 := by unfold wrap64; omega
  generalize (offX c 0 ((f.n : Int) - 1)).toNat = O at *
  generalize decide (0 ≤ offX c 0 ((f.n : Int) - 1)) = D at *
  have HE := Lib.hid (And.intro (num2_free (c := c) (f := f) (by omega)) (And.intro eD es))
  clear es eD ep s hP hl hcp
  unfold shX frv
  unfold acv at HWR
  obtain ⟨tg, k, seq, kind, a, b, pc, i, j, n, p, h, x, y⟩ := f
  simp only at *
  obtain rfl : pc = 15 := hpc
  rw [show ((15 : Nat) : Int) = 15 from rfl] at ⊢
  go_enter Tryd.func30, Tryd.ntmps30
  go_upto_region 1 with fail
  refine enter3 fun W hb g0 g1 g2 q0 q1 q2 => ?_
  obtain ⟨r0, r1, r2, r3⟩ := cells4q g0
  obtain ⟨k0, k1, k2, k3, k4, k5, k6, k7, k8, k9, k10⟩ := cl11 g1
  obtain ⟨u0, v0, u1, v1, u2, v2, u3, v3, u4, v4, u5, v5, u6, v6⟩ := cells7 g2
  have HW := Lib.hid (And.intro g0 (And.intro g1 g2))
  have HB := Lib.hid hb
  have HPW := Lib.hid (HP.out.below hb)
  have HLV := Lib.hid (HL.out.below hb)
  clear g0 g1 g2 hb
  go_upto_region 2 with (go_at_call 57; refine (HMK.out _ HLV.out).mono ?_; rintro e w1 ⟨ob, rfl, hl1, hb1⟩; unfold readFn writeFn; have HB1 := Lib.hid (below_then HB.out hb1); have HPW1 := Lib.hid (HPW.out.below hb1); have HLW1 := Lib.hid hl1; clear hl1; obtain ⟨g0, g1, g2⟩ := HW.out; have HW1 := Lib.hid (And.intro (blk_below g0 hb1) (And.intro (blk_below g1 hb1) (blk_below g2 hb1))); clear r0 r1 r2 r3 k0 k1 k2 k3 k4 k5 k6 k7 k8 k9 k10 u0 v0 u1 v1 u2 v2 u3 v3 u4 v4 u5 v5 u6 v6; clear g0 g1 g2 hb1; obtain ⟨g0, g1, g2⟩ := HW1.out; obtain ⟨r0, r1, r2, r3⟩ := cells4q g0; obtain ⟨k0, k1, k2, k3, k4, k5, k6, k7, k8, k9, k10⟩ := cl11 g1; obtain ⟨u0, v0, u1, v1, u2, v2, u3, v3, u4, v4, u5, v5, u6, v6⟩ := cells7 g2; have q0 := (Array.getElem?_eq_some_iff.1 g0).1; have q1 := (Array.getElem?_eq_some_iff.1 g1).1; clear g0 g1 g2)
  refine wp_region_quiet_reads (by kernel_rfl) (by kernel_rfl) fun HR => ?_
  repeat (go_big_quiet_step (fail))
  refine wpQuiet_nil ?_
  intro Q2 hw'
  obtain ⟨⟨dq, osq⟩, hw''⟩ := hw'
  have hb2 : Below w1.heap.size w1 Q2 := by rw [hw'']; exact below_regrown _ dq osq
  clear hw'' HR dq osq q0 q1
  have HB2 := Lib.hid (below_then HB1.out hb2)
  have HPW2 := Lib.hid (HPW1.out.below hb2)
  have HLW2 := Lib.hid (HLW1.out.below hb2)
  obtain ⟨g0, g1, g2⟩ := HW1.out
  have HW2 := Lib.hid (And.intro (blk_below g0 hb2) (And.intro (blk_below g1 hb2) (blk_below g2 hb2)))
  clear r0 r1 r2 r3 k0 k1 k2 k3 k4 k5 k6 k7 k8 k9 k10 u0 v0 u1 v1 u2 v2 u3 v3 u4 v4 u5 v5 u6 v6
  clear g0 g1 g2 hb2
  obtain ⟨g0, g1, g2⟩ := HW2.out
  obtain ⟨r0, r1, r2, r3⟩ := cells4q g0
  obtain ⟨k0, k1, k2, k3, k4, k5, k6, k7, k8, k9, k10⟩ := cl11 g1
  obtain ⟨u0, v0, u1, v1, u2, v2, u3, v3, u4, v4, u5, v5, u6, v6⟩ := cells7 g2
  have q0 := (Array.getElem?_eq_some_iff.1 g0).1
  have q1 := (Array.getElem?_eq_some_iff.1 g1).1
  clear g0 g1 g2
  clear HB HPW HW HB1 HPW1 HLW1 HW1
  go_wp2_with (go_at_call 100; refine (HWR.out _ _ HLW2.out).mono ?_; rintro e w3 ⟨rfl, hb3⟩; have HB3 := Lib.hid (below_then HB2.out hb3); have HPW3 := Lib.hid (HPW2.out.below hb3); have HLW3 := Lib.hid (HLW2.out.below hb3); obtain ⟨g0, g1, g2⟩ := HW2.out; have HW3 := Lib.hid (And.intro (blk_below g0 hb3) (And.intro (blk_below g1 hb3) (blk_below g2 hb3))); clear r0 r1 r2 r3 k0 k1 k2 k3 k4 k5 k6 k7 k8 k9 k10 u0 v0 u1 v1 u2 v2 u3 v3 u4 v4 u5 v5 u6 v6; clear g0 g1 g2 hb3; obtain ⟨g0, g1, g2⟩ := HW3.out; obtain ⟨r0, r1, r2, r3⟩ := cells4q g0; obtain ⟨k0, k1, k2, k3, k4, k5, k6, k7, k8, k9, k10⟩ := cl11 g1; obtain ⟨u0, v0, u1, v1, u2, v2, u3, v3, u4, v4, u5, v5, u6, v6⟩ := cells7 g2; have q0 := (Array.getElem?_eq_some_iff.1 g0).1; have q1 := (Array.getElem?_eq_some_iff.1 g1).1; clear g0 g1 g2)
  refine bodyPost_ret (v := .tuple #[acv ⟨2, O, 0, 0, 0, 0, 0⟩, .bool D]) ?_ rfl ⟨⟨2, O, 0, 0, 0, 0, 0⟩, D, rfl, ?_, ?_, ?_⟩
  · simp [results, Tryd.results30, go_sem, acv, u0, u1, u2, u3, u4, u5, u6]
  · (repeat' (first | with_reducible exact HB3.out | (with_reducible refine Below.setCell ?_ ?_ _))) <;> (simp; try omega)
  · exact ⟨fun e => ⟨HE.out.1, HE.out.2.1.1 e⟩, fun e => HE.out.2.1.2 e.2⟩
  · exact fun _ => HE.out.2.2.symm

set_option maxRecDepth 100000 in
set_option maxHeartbeats 8000000 in
theorem pActOf_16 {c : Cf} {C N K : Nat} (s : SzX c C N K) (sb cp : Nat) (f : Ds) (hpc : f.pc = 16) (q : FitA c C f) (hcp : topX c + 1 ≤ cp ∧ cp ≤ 9223372036854775807) (w : World) (hP : Pow w) (hl : LevX c sb w) :
    Calls Tryd.prog 30 #[shX c (.slice (some ⟨sb, 0, none⟩) (topX c + 1 : Nat) cp), frv f] w (ActR c f w) := by
  have c2 := s.c2
  have t4 := topX_le c
  obtain ⟨hn, hp, hh, hi, ha, hbb, hx, hy⟩ := q
  have HP := Lib.hid hP
  have HL := Lib.hid hl
  have HMK := Lib.hid (fun W hL => pMakers_any c sb cp hcp W hL)
  have ep : placeX c f = 0 := by simp [placeX, hpc]
  have es : stepX c f = ⟨3, 0, 0, 0, 0, 0, 0⟩ := by simp [stepX, ep, kindX, wordX, wordY, codeX, valX, hpc]
  have wn : IntKind.u64.wrap (f.n : Int) = (f.n : Int) := by rw [IntKind.wrap_u64]; omega
  have HE := Lib.hid (And.intro (show Num2 c f ∧ 0 ≤ placeX c f from ⟨num2_free (by omega), by omega⟩) es)
  clear es ep s hP hl hcp
  unfold shX frv
  obtain ⟨tg, k, seq, kind, a, b, pc, i, j, n, p, h, x, y⟩ := f
  simp only at *
  obtain rfl : pc = 16 := hpc
  rw [show ((16 : Nat) : Int) = 16 from rfl] at ⊢
  go_enter Tryd.func30, Tryd.ntmps30
  go_upto_region 1 with fail
  refine enter3 fun W hb g0 g1 g2 q0 q1 q2 => ?_
  obtain ⟨r0, r1, r2, r3⟩ := cells4q g0
  obtain ⟨k0, k1, k2, k3, k4, k5, k6, k7, k8, k9, k10⟩ := cl11 g1
  obtain ⟨u0, v0, u1, v1, u2, v2, u3, v3, u4, v4, u5, v5, u6, v6⟩ := cells7 g2
  have HW := Lib.hid (And.intro g0 (And.intro g1 g2))
  have HB := Lib.hid hb
  have HPW := Lib.hid (HP.out.below hb)
  have HLV := Lib.hid (HL.out.below hb)
  clear g0 g1 g2 hb
  go_upto_region 2 with (go_at_call 57; refine (HMK.out _ HLV.out).mono ?_; rintro e w1 ⟨ob, rfl, hl1, hb1⟩; unfold readFn writeFn; have HB1 := Lib.hid (below_then HB.out hb1); have HPW1 := Lib.hid (HPW.out.below hb1); have HLW1 := Lib.hid hl1; clear hl1; obtain ⟨g0, g1, g2⟩ := HW.out; have HW1 := Lib.hid (And.intro (blk_below g0 hb1) (And.intro (blk_below g1 hb1) (blk_below g2 hb1))); clear r0 r1 r2 r3 k0 k1 k2 k3 k4 k5 k6 k7 k8 k9 k10 u0 v0 u1 v1 u2 v2 u3 v3 u4 v4 u5 v5 u6 v6; clear g0 g1 g2 hb1; obtain ⟨g0, g1, g2⟩ := HW1.out; obtain ⟨r0, r1, r2, r3⟩ := cells4q g0; obtain ⟨k0, k1, k2, k3, k4, k5, k6, k7, k8, k9, k10⟩ := cl11 g1; obtain ⟨u0, v0, u1, v1, u2, v2, u3, v3, u4, v4, u5, v5, u6, v6⟩ := cells7 g2; have q0 := (Array.getElem?_eq_some_iff.1 g0).1; have q1 := (Array.getElem?_eq_some_iff.1 g1).1; clear g0 g1 g2)
  refine wp_region_quiet_reads (by kernel_rfl) (by kernel_rfl) fun HR => ?_
  repeat (go_big_quiet_step (fail))
  refine wpQuiet_nil ?_
  intro Q2 hw'
  obtain ⟨⟨dq, osq⟩, hw''⟩ := hw'
  have hb2 : Below w1.heap.size w1 Q2 := by rw [hw'']; exact below_regrown _ dq osq
  clear hw'' HR dq osq q0 q1
  have HB2 := Lib.hid (below_then HB1.out hb2)
  have HPW2 := Lib.hid (HPW1.out.below hb2)
  have HLW2 := Lib.hid (HLW1.out.below hb2)
  obtain ⟨g0, g1, g2⟩ := HW1.out
  have HW2 := Lib.hid (And.intro (blk_below g0 hb2) (And.intro (blk_below g1 hb2) (blk_below g2 hb2)))
  clear r0 r1 r2 r3 k0 k1 k2 k3 k4 k5 k6 k7 k8 k9 k10 u0 v0 u1 v1 u2 v2 u3 v3 u4 v4 u5 v5 u6 v6
  clear g0 g1 g2 hb2
  obtain ⟨g0, g1, g2⟩ := HW2.out
  obtain ⟨r0, r1, r2, r3⟩ := cells4q g0
  obtain ⟨k0, k1, k2, k3, k4, k5, k6, k7, k8, k9, k10⟩ := cl11 g1
  obtain ⟨u0, v0, u1, v1, u2, v2, u3, v3, u4, v4, u5, v5, u6, v6⟩ := cells7 g2
  have q0 := (Array.getElem?_eq_some_iff.1 g0).1
  have q1 := (Array.getElem?_eq_some_iff.1 g1).1
  clear g0 g1 g2
  clear HB HPW HW HB1 HPW1 HLW1 HW1
  go_wp2_with fail
  refine bodyPost_ret (v := .tuple #[acv ⟨3, 0, 0, 0, 0, 0, 0⟩, .bool true]) ?_ rfl ⟨⟨3, 0, 0, 0, 0, 0, 0⟩, true, rfl, ?_, ?_, ?_⟩
  · simp [results, Tryd.results30, go_sem, acv, u0, u1, u2, u3, u4, u5, u6]
  · (repeat' (first | with_reducible exact HB2.out | (with_reducible refine Below.setCell ?_ ?_ _))) <;> (simp; try omega)
  · exact ⟨fun _ => HE.out.1, fun _ => rfl⟩
  · exact fun _ => HE.out.2.symm

set_option maxRecDepth 100000 in
set_option maxHeartbeats 8000000 in
theorem pActOf_17 {c : Cf} {C N K : Nat} (s : SzX c C N K) (sb cp : Nat) (f : Ds) (hpc : f.pc = 17) (q : FitA c C f) (hcp : topX c + 1 ≤ cp ∧ cp ≤ 9223372036854775807) (w : World) (hP : Pow w) (hl : LevX c sb w) :
    Calls Tryd.prog 30 #[shX c (.slice (some ⟨sb, 0, none⟩) (topX c + 1 : Nat) cp), frv f] w (ActR c f w) := by
  have c2 := s.c2
  have t4 := topX_le c
  obtain ⟨hn, hp, hh, hi, ha, hbb, hx, hy⟩ := q
  have HP := Lib.hid hP
  have HL := Lib.hid hl
  have HMK := Lib.hid (fun W hL => pMakers_any c sb cp hcp W hL)
  have ep : placeX c f = offX c 0 (f.p : Int) := by simp [placeX, hpc]
  have es : stepX c f = ⟨1, (offX c 0 (f.p : Int)).toNat, 0, 0, 0, 0, 0⟩ := by simp [stepX, ep, kindX, wordX, wordY, codeX, valX, hpc]
  have eD : decide (0 ≤ offX c 0 (f.p : Int)) = true ↔ 0 ≤ placeX c f := by rw [ep]; simp
  have HRD := Lib.hid (fun ob W hl => pReadX_any s ob 0 (f.p : Int) (by omega) (by omega) W hl)
  rw [show ((0 : Nat) : Int) = 0 from rfl] at HRD
  generalize (offX c 0 (f.p : Int)).toNat = O at *
  generalize decide (0 ≤ offX c 0 (f.p : Int)) = D at *
  have HE := Lib.hid (And.intro (num2_free (c := c) (f := f) (by omega)) (And.intro eD es))
  clear es eD ep s hP hl hcp
  unfold shX frv
  unfold acv at HRD
  obtain ⟨tg, k, seq, kind, a, b, pc, i, j, n, p, h, x, y⟩ := f
  simp only at *
  obtain rfl : pc = 17 := hpc
  rw [show ((17 : Nat) : Int) = 17 from rfl] at ⊢
  go_enter Tryd.func30, Tryd.ntmps30
  go_upto_region 1 with fail
  refine enter3 fun W hb g0 g1 g2 q0 q1 q2 => ?_
  obtain ⟨r0, r1, r2, r3⟩ := cells4q g0
  obtain ⟨k0, k1, k2, k3, k4, k5, k6, k7, k8, k9, k10⟩ := cl11 g1
  obtain ⟨u0, v0, u1, v1, u2, v2, u3, v3, u4, v4, u5, v5, u6, v6⟩ := cells7 g2
  have HW := Lib.hid (And.intro g0 (And.intro g1 g2))
  have HB := Lib.hid hb
  have HPW := Lib.hid (HP.out.below hb)
  have HLV := Lib.hid (HL.out.below hb)
  clear g0 g1 g2 hb
  go_upto_region 2 with (go_at_call 57; refine (HMK.out _ HLV.out).mono ?_; rintro e w1 ⟨ob, rfl, hl1, hb1⟩; unfold readFn writeFn; have HB1 := Lib.hid (below_then HB.out hb1); have HPW1 := Lib.hid (HPW.out.below hb1); have HLW1 := Lib.hid hl1; clear hl1; obtain ⟨g0, g1, g2⟩ := HW.out; have HW1 := Lib.hid (And.intro (blk_below g0 hb1) (And.intro (blk_below g1 hb1) (blk_below g2 hb1))); clear r0 r1 r2 r3 k0 k1 k2 k3 k4 k5 k6 k7 k8 k9 k10 u0 v0 u1 v1 u2 v2 u3 v3 u4 v4 u5 v5 u6 v6; clear g0 g1 g2 hb1; obtain ⟨g0, g1, g2⟩ := HW1.out; obtain ⟨r0, r1, r2, r3⟩ := cells4q g0; obtain ⟨k0, k1, k2, k3, k4, k5, k6, k7, k8, k9, k10⟩ := cl11 g1; obtain ⟨u0, v0, u1, v1, u2, v2, u3, v3, u4, v4, u5, v5, u6, v6⟩ := cells7 g2; have q0 := (Array.getElem?_eq_some_iff.1 g0).1; have q1 := (Array.getElem?_eq_some_iff.1 g1).1; clear g0 g1 g2)
  refine wp_region_quiet_reads (by kernel_rfl) (by kernel_rfl) fun HR => ?_
  repeat (go_big_quiet_step (fail))
  refine wpQuiet_nil ?_
  intro Q2 hw'
  obtain ⟨⟨dq, osq⟩, hw''⟩ := hw'
  have hb2 : Below w1.heap.size w1 Q2 := by rw [hw'']; exact below_regrown _ dq osq
  clear hw'' HR dq osq q0 q1
  have HB2 := Lib.hid (below_then HB1.out hb2)
  have HPW2 := Lib.hid (HPW1.out.below hb2)
  have HLW2 := Lib.hid (HLW1.out.below hb2)
  obtain ⟨g0, g1, g2⟩ := HW1.out
  have HW2 := Lib.hid (And.intro (blk_below g0 hb2) (And.intro (blk_below g1 hb2) (blk_below g2 hb2)))
  clear r0 r1 r2 r3 k0 k1 k2 k3 k4 k5 k6 k7 k8 k9 k10 u0 v0 u1 v1 u2 v2 u3 v3 u4 v4 u5 v5 u6 v6
  clear g0 g1 g2 hb2
  obtain ⟨g0, g1, g2⟩ := HW2.out
  obtain ⟨r0, r1, r2, r3⟩ := cells4q g0
  obtain ⟨k0, k1, k2, k3, k4, k5, k6, k7, k8, k9, k10⟩ := cl11 g1
  obtain ⟨u0, v0, u1, v1, u2, v2, u3, v3, u4, v4, u5, v5, u6, v6⟩ := cells7 g2
  have q0 := (Array.getElem?_eq_some_iff.1 g0).1
  have q1 := (Array.getElem?_eq_some_iff.1 g1).1
  clear g0 g1 g2
  clear HB HPW HW HB1 HPW1 HLW1 HW1
  go_wp2_with (go_at_call 99; refine (HRD.out _ _ HLW2.out).mono ?_; rintro e w3 ⟨rfl, hb3⟩; have HB3 := Lib.hid (below_then HB2.out hb3); have HPW3 := Lib.hid (HPW2.out.below hb3); have HLW3 := Lib.hid (HLW2.out.below hb3); obtain ⟨g0, g1, g2⟩ := HW2.out; have HW3 := Lib.hid (And.intro (blk_below g0 hb3) (And.intro (blk_below g1 hb3) (blk_below g2 hb3))); clear r0 r1 r2 r3 k0 k1 k2 k3 k4 k5 k6 k7 k8 k9 k10 u0 v0 u1 v1 u2 v2 u3 v3 u4 v4 u5 v5 u6 v6; clear g0 g1 g2 hb3; obtain ⟨g0, g1, g2⟩ := HW3.out; obtain ⟨r0, r1, r2, r3⟩ := cells4q g0; obtain ⟨k0, k1, k2, k3, k4, k5, k6, k7, k8, k9, k10⟩ := cl11 g1; obtain ⟨u0, v0, u1, v1, u2, v2, u3, v3, u4, v4, u5, v5, u6, v6⟩ := cells7 g2; have q0 := (Array.getElem?_eq_some_iff.1 g0).1; have q1 := (Array.getElem?_eq_some_iff.1 g1).1; clear g0 g1 g2)
  refine bodyPost_ret (v := .tuple #[acv ⟨1, O, 0, 0, 0, 0, 0⟩, .bool D]) ?_ rfl ⟨⟨1, O, 0, 0, 0, 0, 0⟩, D, rfl, ?_, ?_, ?_⟩
  · simp [results, Tryd.results30, go_sem, acv, u0, u1, u2, u3, u4, u5, u6]
  · (repeat' (first | with_reducible exact HB3.out | (with_reducible refine Below.setCell ?_ ?_ _))) <;> (simp; try omega)
  · exact ⟨fun e => ⟨HE.out.1, HE.out.2.1.1 e⟩, fun e => HE.out.2.1.2 e.2⟩
  · exact fun _ => HE.out.2.2.symm

set_option maxRecDepth 100000 in
set_option maxHeartbeats 8000000 in
theorem pActOf_done {c : Cf} {C N K : Nat} (s : SzX c C N K) (sb cp : Nat) (f : Ds) (hpc : f.pc = 20 ∨ f.pc = 21 ∨ f.pc = 22 ∨ f.pc = 23 ∨ f.pc = 24 ∨ f.pc = 25) (q : FitA c C f) (hcp : topX c + 1 ≤ cp ∧ cp ≤ 9223372036854775807) (w : World) (hP : Pow w) (hl : LevX c sb w) :
    Calls Tryd.prog 30 #[shX c (.slice (some ⟨sb, 0, none⟩) (topX c + 1 : Nat) cp), frv f] w (ActR c f w) := by
  have c2 := s.c2
  have t4 := topX_le c
  obtain ⟨hn, hp, hh, hi, ha, hbb, hx, hy⟩ := q
  have HP := Lib.hid hP
  have HL := Lib.hid hl
  have HMK := Lib.hid (fun W hL => pMakers_any c sb cp hcp W hL)
  have HAN := Lib.hid (fun W => pAnswerX_any f hpc W)
  have ep : placeX c f = 0 := by rcases hpc with e | e | e | e | e | e <;> simp [placeX, e]
  have es : stepX c f = ⟨4, 0, 0, 0, 0, codeX f.pc, valX f⟩ := by rcases hpc with e | e | e | e | e | e <;> simp [stepX, ep, kindX, wordX, wordY, e]
  have HE := Lib.hid (And.intro (show Num2 c f ∧ 0 ≤ placeX c f from ⟨num2_free (by omega), by omega⟩) es)
  clear es ep s hP hl hcp
  generalize codeX f.pc = CO at *
  generalize valX f = VA at *
  unfold shX frv
  unfold acv frv at HAN
  obtain ⟨tg, k, seq, kind, a, b, pc, i, j, n, p, h, x, y⟩ := f
  simp only at *
  rcases hpc with rfl | rfl | rfl | rfl | rfl | rfl
  · rw [show ((20 : Nat) : Int) = 20 from rfl] at HAN ⊢
    go_enter Tryd.func30, Tryd.ntmps30
    go_upto_region 1 with fail
    refine enter3 fun W hb g0 g1 g2 q0 q1 q2 => ?_
    obtain ⟨r0, r1, r2, r3⟩ := cells4q g0
    obtain ⟨k0, k1, k2, k3, k4, k5, k6, k7, k8, k9, k10⟩ := cl11 g1
    obtain ⟨u0, v0, u1, v1, u2, v2, u3, v3, u4, v4, u5, v5, u6, v6⟩ := cells7 g2
    have HW := Lib.hid (And.intro g0 (And.intro g1 g2))
    have HB := Lib.hid hb
    have HPW := Lib.hid (HP.out.below hb)
    have HLV := Lib.hid (HL.out.below hb)
    clear g0 g1 g2 hb
    go_upto_region 2 with (go_at_call 57; refine (HMK.out _ HLV.out).mono ?_; rintro e w1 ⟨ob, rfl, hl1, hb1⟩; unfold readFn writeFn; have HB1 := Lib.hid (below_then HB.out hb1); have HPW1 := Lib.hid (HPW.out.below hb1); have HLW1 := Lib.hid hl1; clear hl1; obtain ⟨g0, g1, g2⟩ := HW.out; have HW1 := Lib.hid (And.intro (blk_below g0 hb1) (And.intro (blk_below g1 hb1) (blk_below g2 hb1))); clear r0 r1 r2 r3 k0 k1 k2 k3 k4 k5 k6 k7 k8 k9 k10 u0 v0 u1 v1 u2 v2 u3 v3 u4 v4 u5 v5 u6 v6; clear g0 g1 g2 hb1; obtain ⟨g0, g1, g2⟩ := HW1.out; obtain ⟨r0, r1, r2, r3⟩ := cells4q g0; obtain ⟨k0, k1, k2, k3, k4, k5, k6, k7, k8, k9, k10⟩ := cl11 g1; obtain ⟨u0, v0, u1, v1, u2, v2, u3, v3, u4, v4, u5, v5, u6, v6⟩ := cells7 g2; have q0 := (Array.getElem?_eq_some_iff.1 g0).1; have q1 := (Array.getElem?_eq_some_iff.1 g1).1; clear g0 g1 g2)
    refine wp_region_quiet_reads (by kernel_rfl) (by kernel_rfl) fun HR => ?_
    repeat (go_big_quiet_step (fail))
    refine wpQuiet_nil ?_
    intro Q2 hw'
    obtain ⟨⟨dq, osq⟩, hw''⟩ := hw'
    have hb2 : Below w1.heap.size w1 Q2 := by rw [hw'']; exact below_regrown _ dq osq
    clear hw'' HR dq osq q0 q1
    have HB2 := Lib.hid (below_then HB1.out hb2)
    have HPW2 := Lib.hid (HPW1.out.below hb2)
    have HLW2 := Lib.hid (HLW1.out.below hb2)
    obtain ⟨g0, g1, g2⟩ := HW1.out
    have HW2 := Lib.hid (And.intro (blk_below g0 hb2) (And.intro (blk_below g1 hb2) (blk_below g2 hb2)))
    clear r0 r1 r2 r3 k0 k1 k2 k3 k4 k5 k6 k7 k8 k9 k10 u0 v0 u1 v1 u2 v2 u3 v3 u4 v4 u5 v5 u6 v6
    clear g0 g1 g2 hb2
    obtain ⟨g0, g1, g2⟩ := HW2.out
    obtain ⟨r0, r1, r2, r3⟩ := cells4q g0
    obtain ⟨k0, k1, k2, k3, k4, k5, k6, k7, k8, k9, k10⟩ := cl11 g1
    obtain ⟨u0, v0, u1, v1, u2, v2, u3, v3, u4, v4, u5, v5, u6, v6⟩ := cells7 g2
    have q0 := (Array.getElem?_eq_some_iff.1 g0).1
    have q1 := (Array.getElem?_eq_some_iff.1 g1).1
    clear g0 g1 g2
    clear HB HPW HW HB1 HPW1 HLW1 HW1
    go_wp2_with (go_at_call 59; refine (HAN.out _).mono ?_; rintro e w3 ⟨rfl, hb3⟩; have HB3 := Lib.hid (below_then HB2.out hb3); have HPW3 := Lib.hid (HPW2.out.below hb3); have HLW3 := Lib.hid (HLW2.out.below hb3); obtain ⟨g0, g1, g2⟩ := HW2.out; have HW3 := Lib.hid (And.intro (blk_below g0 hb3) (And.intro (blk_below g1 hb3) (blk_below g2 hb3))); clear r0 r1 r2 r3 k0 k1 k2 k3 k4 k5 k6 k7 k8 k9 k10 u0 v0 u1 v1 u2 v2 u3 v3 u4 v4 u5 v5 u6 v6; clear g0 g1 g2 hb3; obtain ⟨g0, g1, g2⟩ := HW3.out; obtain ⟨r0, r1, r2, r3⟩ := cells4q g0; obtain ⟨k0, k1, k2, k3, k4, k5, k6, k7, k8, k9, k10⟩ := cl11 g1; obtain ⟨u0, v0, u1, v1, u2, v2, u3, v3, u4, v4, u5, v5, u6, v6⟩ := cells7 g2; have q0 := (Array.getElem?_eq_some_iff.1 g0).1; have q1 := (Array.getElem?_eq_some_iff.1 g1).1; clear g0 g1 g2)
    refine bodyPost_ret (v := .tuple #[acv ⟨4, 0, 0, 0, 0, CO, VA⟩, .bool true]) ?_ rfl ⟨⟨4, 0, 0, 0, 0, CO, VA⟩, true, rfl, ?_, ?_, ?_⟩
    · simp [results, Tryd.results30, go_sem, acv, u0, u1, u2, u3, u4, u5, u6]
    · (repeat' (first | with_reducible exact HB3.out | (with_reducible refine Below.setCell ?_ ?_ _))) <;> (simp; try omega)
    · exact ⟨fun _ => HE.out.1, fun _ => rfl⟩
    · exact fun _ => HE.out.2.symm
  · rw [show ((21 : Nat) : Int) = 21 from rfl] at HAN ⊢
    go_enter Tryd.func30, Tryd.ntmps30
    go_upto_region 1 with fail
    refine enter3 fun W hb g0 g1 g2 q0 q1 q2 => ?_
    obtain ⟨r0, r1, r2, r3⟩ := cells4q g0
    obtain ⟨k0, k1, k2, k3, k4, k5, k6, k7, k8, k9, k10⟩ := cl11 g1
    obtain ⟨u0, v0, u1, v1, u2, v2, u3, v3, u4, v4, u5, v5, u6, v6⟩ := cells7 g2
    have HW := Lib.hid (And.intro g0 (And.intro g1 g2))
    have HB := Lib.hid hb
    have HPW := Lib.hid (HP.out.below hb)
    have HLV := Lib.hid (HL.out.below hb)
    clear g0 g1 g2 hb
    go_upto_region 2 with (go_at_call 57; refine (HMK.out _ HLV.out).mono ?_; rintro e w1 ⟨ob, rfl, hl1, hb1⟩; unfold readFn writeFn; have HB1 := Lib.hid (below_then HB.out hb1); have HPW1 := Lib.hid (HPW.out.below hb1); have HLW1 := Lib.hid hl1; clear hl1; obtain ⟨g0, g1, g2⟩ := HW.out; have HW1 := Lib.hid (And.intro (blk_below g0 hb1) (And.intro (blk_below g1 hb1) (blk_below g2 hb1))); clear r0 r1 r2 r3 k0 k1 k2 k3 k4 k5 k6 k7 k8 k9 k10 u0 v0 u1 v1 u2 v2 u3 v3 u4 v4 u5 v5 u6 v6; clear g0 g1 g2 hb1; obtain ⟨g0, g1, g2⟩ := HW1.out; obtain ⟨r0, r1, r2, r3⟩ := cells4q g0; obtain ⟨k0, k1, k2, k3, k4, k5, k6, k7, k8, k9, k10⟩ := cl11 g1; obtain ⟨u0, v0, u1, v1, u2, v2, u3, v3, u4, v4, u5, v5, u6, v6⟩ := cells7 g2; have q0 := (Array.getElem?_eq_some_iff.1 g0).1; have q1 := (Array.getElem?_eq_some_iff.1 g1).1; clear g0 g1 g2)
    refine wp_region_quiet_reads (by kernel_rfl) (by kernel_rfl) fun HR => ?_
    repeat (go_big_quiet_step (fail))
    refine wpQuiet_nil ?_
    intro Q2 hw'
    obtain ⟨⟨dq, osq⟩, hw''⟩ := hw'
    have hb2 : Below w1.heap.size w1 Q2 := by rw [hw'']; exact below_regrown _ dq osq
    clear hw'' HR dq osq q0 q1
    have HB2 := Lib.hid (below_then HB1.out hb2)
    have HPW2 := Lib.hid (HPW1.out.below hb2)
    have HLW2 := Lib.hid (HLW1.out.below hb2)
    obtain ⟨g0, g1, g2⟩ := HW1.out
    have HW2 := Lib.hid (And.intro (blk_below g0 hb2) (And.intro (blk_below g1 hb2) (blk_below g2 hb2)))
    clear r0 r1 r2 r3 k0 k1 k2 k3 k4 k5 k6 k7 k8 k9 k10 u0 v0 u1 v1 u2 v2 u3 v3 u4 v4 u5 v5 u6 v6
    clear g0 g1 g2 hb2
    obtain ⟨g0, g1, g2⟩ := HW2.out
    obtain ⟨r0, r1, r2, r3⟩ := cells4q g0
    obtain ⟨k0, k1, k2, k3, k4, k5, k6, k7, k8, k9, k10⟩ := cl11 g1
    obtain ⟨u0, v0, u1, v1, u2, v2, u3, v3, u4, v4, u5, v5, u6, v6⟩ := cells7 g2
    have q0 := (Array.getElem?_eq_some_iff.1 g0).1
    have q1 := (Array.getElem?_eq_some_iff.1 g1).1
    clear g0 g1 g2
    clear HB HPW HW HB1 HPW1 HLW1 HW1
    go_wp2_with (go_at_call 59; refine (HAN.out _).mono ?_; rintro e w3 ⟨rfl, hb3⟩; have HB3 := Lib.hid (below_then HB2.out hb3); have HPW3 := Lib.hid (HPW2.out.below hb3); have HLW3 := Lib.hid (HLW2.out.below hb3); obtain ⟨g0, g1, g2⟩ := HW2.out; have HW3 := Lib.hid (And.intro (blk_below g0 hb3) (And.intro (blk_below g1 hb3) (blk_below g2 hb3))); clear r0 r1 r2 r3 k0 k1 k2 k3 k4 k5 k6 k7 k8 k9 k10 u0 v0 u1 v1 u2 v2 u3 v3 u4 v4 u5 v5 u6 v6; clear g0 g1 g2 hb3; obtain ⟨g0, g1, g2⟩ := HW3.out; obtain ⟨r0, r1, r2, r3⟩ := cells4q g0; obtain ⟨k0, k1, k2, k3, k4, k5, k6, k7, k8, k9, k10⟩ := cl11 g1; obtain ⟨u0, v0, u1, v1, u2, v2, u3, v3, u4, v4, u5, v5, u6, v6⟩ := cells7 g2; have q0 := (Array.getElem?_eq_some_iff.1 g0).1; have q1 := (Array.getElem?_eq_some_iff.1 g1).1; clear g0 g1 g2)
    refine bodyPost_ret (v := .tuple #[acv ⟨4, 0, 0, 0, 0, CO, VA⟩, .bool true]) ?_ rfl ⟨⟨4, 0, 0, 0, 0, CO, VA⟩, true, rfl, ?_, ?_, ?_⟩
    · simp [results, Tryd.results30, go_sem, acv, u0, u1, u2, u3, u4, u5, u6]
    · (repeat' (first | with_reducible exact HB3.out | (with_reducible refine Below.setCell ?_ ?_ _))) <;> (simp; try omega)
    · exact ⟨fun _ => HE.out.1, fun _ => rfl⟩
    · exact fun _ => HE.out.2.symm
  · rw [show ((22 : Nat) : Int) = 22 from rfl] at HAN ⊢
    go_enter Tryd.func30, Tryd.ntmps30
    go_upto_region 1 with fail
    refine enter3 fun W hb g0 g1 g2 q0 q1 q2 => ?_
    obtain ⟨r0, r1, r2, r3⟩ := cells4q g0
    obtain ⟨k0, k1, k2, k3, k4, k5, k6, k7, k8, k9, k10⟩ := cl11 g1
    obtain ⟨u0, v0, u1, v1, u2, v2, u3, v3, u4, v4, u5, v5, u6, v6⟩ := cells7 g2
    have HW := Lib.hid (And.intro g0 (And.intro g1 g2))
    have HB := Lib.hid hb
    have HPW := Lib.hid (HP.out.below hb)
    have HLV := Lib.hid (HL.out.below hb)
    clear g0 g1 g2 hb
    go_upto_region 2 with (go_at_call 57; refine (HMK.out _ HLV.out).mono ?_; rintro e w1 ⟨ob, rfl, hl1, hb1⟩; unfold readFn writeFn; have HB1 := Lib.hid (below_then HB.out hb1); have HPW1 := Lib.hid (HPW.out.below hb1); have HLW1 := Lib.hid hl1; clear hl1; obtain ⟨g0, g1, g2⟩ := HW.out; have HW1 := Lib.hid (And.intro (blk_below g0 hb1) (And.intro (blk_below g1 hb1) (blk_below g2 hb1))); clear r0 r1 r2 r3 k0 k1 k2 k3 k4 k5 k6 k7 k8 k9 k10 u0 v0 u1 v1 u2 v2 u3 v3 u4 v4 u5 v5 u6 v6; clear g0 g1 g2 hb1; obtain ⟨g0, g1, g2⟩ := HW1.out; obtain ⟨r0, r1, r2, r3⟩ := cells4q g0; obtain ⟨k0, k1, k2, k3, k4, k5, k6, k7, k8, k9, k10⟩ := cl11 g1; obtain ⟨u0, v0, u1, v1, u2, v2, u3, v3, u4, v4, u5, v5, u6, v6⟩ := cells7 g2; have q0 := (Array.getElem?_eq_some_iff.1 g0).1; have q1 := (Array.getElem?_eq_some_iff.1 g1).1; clear g0 g1 g2)
    refine wp_region_quiet_reads (by kernel_rfl) (by kernel_rfl) fun HR => ?_
    repeat (go_big_quiet_step (fail))
    refine wpQuiet_nil ?_
    intro Q2 hw'
    obtain ⟨⟨dq, osq⟩, hw''⟩ := hw'
    have hb2 : Below w1.heap.size w1 Q2 := by rw [hw'']; exact below_regrown _ dq osq
    clear hw'' HR dq osq q0 q1
    have HB2 := Lib.hid (below_then HB1.out hb2)
    have HPW2 := Lib.hid (HPW1.out.below hb2)
    have HLW2 := Lib.hid (HLW1.out.below hb2)
    obtain ⟨g0, g1, g2⟩ := HW1.out
    have HW2 := Lib.hid (And.intro (blk_below g0 hb2) (And.intro (blk_below g1 hb2) (blk_below g2 hb2)))
    clear r0 r1 r2 r3 k0 k1 k2 k3 k4 k5 k6 k7 k8 k9 k10 u0 v0 u1 v1 u2 v2 u3 v3 u4 v4 u5 v5 u6 v6
    clear g0 g1 g2 hb2
    obtain ⟨g0, g1, g2⟩ := HW2.out
    obtain ⟨r0, r1, r2, r3⟩ := cells4q g0
    obtain ⟨k0, k1, k2, k3, k4, k5, k6, k7, k8, k9, k10⟩ := cl11 g1
    obtain ⟨u0, v0, u1, v1, u2, v2, u3, v3, u4, v4, u5, v5, u6, v6⟩ := cells7 g2
    have q0 := (Array.getElem?_eq_some_iff.1 g0).1
    have q1 := (Array.getElem?_eq_some_iff.1 g1).1
    clear g0 g1 g2
    clear HB HPW HW HB1 HPW1 HLW1 HW1
    go_wp2_with (go_at_call 59; refine (HAN.out _).mono ?_; rintro e w3 ⟨rfl, hb3⟩; have HB3 := Lib.hid (below_then HB2.out hb3); have HPW3 := Lib.hid (HPW2.out.below hb3); have HLW3 := Lib.hid (HLW2.out.below hb3); obtain ⟨g0, g1, g2⟩ := HW2.out; have HW3 := Lib.hid (And.intro (blk_below g0 hb3) (And.intro (blk_below g1 hb3) (blk_below g2 hb3))); clear r0 r1 r2 r3 k0 k1 k2 k3 k4 k5 k6 k7 k8 k9 k10 u0 v0 u1 v1 u2 v2 u3 v3 u4 v4 u5 v5 u6 v6; clear g0 g1 g2 hb3; obtain ⟨g0, g1, g2⟩ := HW3.out; obtain ⟨r0, r1, r2, r3⟩ := cells4q g0; obtain ⟨k0, k1, k2, k3, k4, k5, k6, k7, k8, k9, k10⟩ := cl11 g1; obtain ⟨u0, v0, u1, v1, u2, v2, u3, v3, u4, v4, u5, v5, u6, v6⟩ := cells7 g2; have q0 := (Array.getElem?_eq_some_iff.1 g0).1; have q1 := (Array.getElem?_eq_some_iff.1 g1).1; clear g0 g1 g2)
    refine bodyPost_ret (v := .tuple #[acv ⟨4, 0, 0, 0, 0, CO, VA⟩, .bool true]) ?_ rfl ⟨⟨4, 0, 0, 0, 0, CO, VA⟩, true, rfl, ?_, ?_, ?_⟩
    · simp [results, Tryd.results30, go_sem, acv, u0, u1, u2, u3, u4, u5, u6]
    · (repeat' (first | with_reducible exact HB3.out | (with_reducible refine Below.setCell ?_ ?_ _))) <;> (simp; try omega)
    · exact ⟨fun _ => HE.out.1, fun _ => rfl⟩
    · exact fun _ => HE.out.2.symm
  · rw [show ((23 : Nat) : Int) = 23 from rfl] at HAN ⊢
    go_enter Tryd.func30, Tryd.ntmps30
    go_upto_region 1 with fail
    refine enter3 fun W hb g0 g1 g2 q0 q1 q2 => ?_
    obtain ⟨r0, r1, r2, r3⟩ := cells4q g0
    obtain ⟨k0, k1, k2, k3, k4, k5, k6, k7, k8, k9, k10⟩ := cl11 g1
    obtain ⟨u0, v0, u1, v1, u2, v2, u3, v3, u4, v4, u5, v5, u6, v6⟩ := cells7 g2
    have HW := Lib.hid (And.intro g0 (And.intro g1 g2))
    have HB := Lib.hid hb
    have HPW := Lib.hid (HP.out.below hb)
    have HLV := Lib.hid (HL.out.below hb)
    clear g0 g1 g2 hb
    go_upto_region 2 with (go_at_call 57; refine (HMK.out _ HLV.out).mono ?_; rintro e w1 ⟨ob, rfl, hl1, hb1⟩; unfold readFn writeFn; have HB1 := Lib.hid (below_then HB.out hb1); have HPW1 := Lib.hid (HPW.out.below hb1); have HLW1 := Lib.hid hl1; clear hl1; obtain ⟨g0, g1, g2⟩ := HW.out; have HW1 := Lib.hid (And.intro (blk_below g0 hb1) (And.intro (blk_below g1 hb1) (blk_below g2 hb1))); clear r0 r1 r2 r3 k0 k1 k2 k3 k4 k5 k6 k7 k8 k9 k10 u0 v0 u1 v1 u2 v2 u3 v3 u4 v4 u5 v5 u6 v6; clear g0 g1 g2 hb1; obtain ⟨g0, g1, g2⟩ := HW1.out; obtain ⟨r0, r1, r2, r3⟩ := cells4q g0; obtain ⟨k0, k1, k2, k3, k4, k5, k6, k7, k8, k9, k10⟩ := cl11 g1; obtain ⟨u0, v0, u1, v1, u2, v2, u3, v3, u4, v4, u5, v5, u6, v6⟩ := cells7 g2; have q0 := (Array.getElem?_eq_some_iff.1 g0).1; have q1 := (Array.getElem?_eq_some_iff.1 g1).1; clear g0 g1 g2)
    refine wp_region_quiet_reads (by kernel_rfl) (by kernel_rfl) fun HR => ?_
    repeat (go_big_quiet_step (fail))
    refine wpQuiet_nil ?_
    intro Q2 hw'
    obtain ⟨⟨dq, osq⟩, hw''⟩ := hw'
    have hb2 : Below w1.heap.size w1 Q2 := by rw [hw'']; exact below_regrown _ dq osq
    clear hw'' HR dq osq q0 q1
    have HB2 := Lib.hid (below_then HB1.out hb2)
    have HPW2 := Lib.hid (HPW1.out.below hb2)
    have HLW2 := Lib.hid (HLW1.out.below hb2)
    obtain ⟨g0, g1, g2⟩ := HW1.out
    have HW2 := Lib.hid (And.intro (blk_below g0 hb2) (And.intro (blk_below g1 hb2) (blk_below g2 hb2)))
    clear r0 r1 r2 r3 k0 k1 k2 k3 k4 k5 k6 k7 k8 k9 k10 u0 v0 u1 v1 u2 v2 u3 v3 u4 v4 u5 v5 u6 v6
    clear g0 g1 g2 hb2
    obtain ⟨g0, g1, g2⟩ := HW2.out
    obtain ⟨r0, r1, r2, r3⟩ := cells4q g0
    obtain ⟨k0, k1, k2, k3, k4, k5, k6, k7, k8, k9, k10⟩ := cl11 g1
    obtain ⟨u0, v0, u1, v1, u2, v2, u3, v3, u4, v4, u5, v5, u6, v6⟩ := cells7 g2
    have q0 := (Array.getElem?_eq_some_iff.1 g0).1
    have q1 := (Array.getElem?_eq_some_iff.1 g1).1
    clear g0 g1 g2
    clear HB HPW HW HB1 HPW1 HLW1 HW1
    go_wp2_with (go_at_call 59; refine (HAN.out _).mono ?_; rintro e w3 ⟨rfl, hb3⟩; have HB3 := Lib.hid (below_then HB2.out hb3); have HPW3 := Lib.hid (HPW2.out.below hb3); have HLW3 := Lib.hid (HLW2.out.below hb3); obtain ⟨g0, g1, g2⟩ := HW2.out; have HW3 := Lib.hid (And.intro (blk_below g0 hb3) (And.intro (blk_below g1 hb3) (blk_below g2 hb3))); clear r0 r1 r2 r3 k0 k1 k2 k3 k4 k5 k6 k7 k8 k9 k10 u0 v0 u1 v1 u2 v2 u3 v3 u4 v4 u5 v5 u6 v6; clear g0 g1 g2 hb3; obtain ⟨g0, g1, g2⟩ := HW3.out; obtain ⟨r0, r1, r2, r3⟩ := cells4q g0; obtain ⟨k0, k1, k2, k3, k4, k5, k6, k7, k8, k9, k10⟩ := cl11 g1; obtain ⟨u0, v0, u1, v1, u2, v2, u3, v3, u4, v4, u5, v5, u6, v6⟩ := cells7 g2; have q0 := (Array.getElem?_eq_some_iff.1 g0).1; have q1 := (Array.getElem?_eq_some_iff.1 g1).1; clear g0 g1 g2)
    refine bodyPost_ret (v := .tuple #[acv ⟨4, 0, 0, 0, 0, CO, VA⟩, .bool true]) ?_ rfl ⟨⟨4, 0, 0, 0, 0, CO, VA⟩, true, rfl, ?_, ?_, ?_⟩
    · simp [results, Tryd.results30, go_sem, acv, u0, u1, u2, u3, u4, u5, u6]
    · (repeat' (first | with_reducible exact HB3.out | (with_reducible refine Below.setCell ?_ ?_ _))) <;> (simp; try omega)
    · exact ⟨fun _ => HE.out.1, fun _ => rfl⟩
    · exact fun _ => HE.out.2.symm
  · rw [show ((24 : Nat) : Int) = 24 from rfl] at HAN ⊢
    go_enter Tryd.func30, Tryd.ntmps30
    go_upto_region 1 with fail
    refine enter3 fun W hb g0 g1 g2 q0 q1 q2 => ?_
    obtain ⟨r0, r1, r2, r3⟩ := cells4q g0
    obtain ⟨k0, k1, k2, k3, k4, k5, k6, k7, k8, k9, k10⟩ := cl11 g1
    obtain ⟨u0, v0, u1, v1, u2, v2, u3, v3, u4, v4, u5, v5, u6, v6⟩ := cells7 g2
    have HW := Lib.hid (And.intro g0 (And.intro g1 g2))
    have HB := Lib.hid hb
    have HPW := Lib.hid (HP.out.below hb)
    have HLV := Lib.hid (HL.out.below hb)
    clear g0 g1 g2 hb
    go_upto_region 2 with (go_at_call 57; refine (HMK.out _ HLV.out).mono ?_; rintro e w1 ⟨ob, rfl, hl1, hb1⟩; unfold readFn writeFn; have HB1 := Lib.hid (below_then HB.out hb1); have HPW1 := Lib.hid (HPW.out.below hb1); have HLW1 := Lib.hid hl1; clear hl1; obtain ⟨g0, g1, g2⟩ := HW.out; have HW1 := Lib.hid (And.intro (blk_below g0 hb1) (And.intro (blk_below g1 hb1) (blk_below g2 hb1))); clear r0 r1 r2 r3 k0 k1 k2 k3 k4 k5 k6 k7 k8 k9 k10 u0 v0 u1 v1 u2 v2 u3 v3 u4 v4 u5 v5 u6 v6; clear g0 g1 g2 hb1; obtain ⟨g0, g1, g2⟩ := HW1.out; obtain ⟨r0, r1, r2, r3⟩ := cells4q g0; obtain ⟨k0, k1, k2, k3, k4, k5, k6, k7, k8, k9, k10⟩ := cl11 g1; obtain ⟨u0, v0, u1, v1, u2, v2, u3, v3, u4, v4, u5, v5, u6, v6⟩ := cells7 g2; have q0 := (Array.getElem?_eq_some_iff.1 g0).1; have q1 := (Array.getElem?_eq_some_iff.1 g1).1; clear g0 g1 g2)
    refine wp_region_quiet_reads (by kernel_rfl) (by kernel_rfl) fun HR => ?_
    repeat (go_big_quiet_step (fail))
    refine wpQuiet_nil ?_
    intro Q2 hw'
    obtain ⟨⟨dq, osq⟩, hw''⟩ := hw'
    have hb2 : Below w1.heap.size w1 Q2 := by rw [hw'']; exact below_regrown _ dq osq
    clear hw'' HR dq osq q0 q1
    have HB2 := Lib.hid (below_then HB1.out hb2)
    have HPW2 := Lib.hid (HPW1.out.below hb2)
    have HLW2 := Lib.hid (HLW1.out.below hb2)
    obtain ⟨g0, g1, g2⟩ := HW1.out
    have HW2 := Lib.hid (And.intro (blk_below g0 hb2) (And.intro (blk_below g1 hb2) (blk_below g2 hb2)))
    clear r0 r1 r2 r3 k0 k1 k2 k3 k4 k5 k6 k7 k8 k9 k10 u0 v0 u1 v1 u2 v2 u3 v3 u4 v4 u5 v5 u6 v6
    clear g0 g1 g2 hb2
    obtain ⟨g0, g1, g2⟩ := HW2.out
    obtain ⟨r0, r1, r2, r3⟩ := cells4q g0
    obtain ⟨k0, k1, k2, k3, k4, k5, k6, k7, k8, k9, k10⟩ := cl11 g1
    obtain ⟨u0, v0, u1, v1, u2, v2, u3, v3, u4, v4, u5, v5, u6, v6⟩ := cells7 g2
    have q0 := (Array.getElem?_eq_some_iff.1 g0).1
    have q1 := (Array.getElem?_eq_some_iff.1 g1).1
    clear g0 g1 g2
    clear HB HPW HW HB1 HPW1 HLW1 HW1
    go_wp2_with (go_at_call 59; refine (HAN.out _).mono ?_; rintro e w3 ⟨rfl, hb3⟩; have HB3 := Lib.hid (below_then HB2.out hb3); have HPW3 := Lib.hid (HPW2.out.below hb3); have HLW3 := Lib.hid (HLW2.out.below hb3); obtain ⟨g0, g1, g2⟩ := HW2.out; have HW3 := Lib.hid (And.intro (blk_below g0 hb3) (And.intro (blk_below g1 hb3) (blk_below g2 hb3))); clear r0 r1 r2 r3 k0 k1 k2 k3 k4 k5 k6 k7 k8 k9 k10 u0 v0 u1 v1 u2 v2 u3 v3 u4 v4 u5 v5 u6 v6; clear g0 g1 g2 hb3; obtain ⟨g0, g1, g2⟩ := HW3.out; obtain ⟨r0, r1, r2, r3⟩ := cells4q g0; obtain ⟨k0, k1, k2, k3, k4, k5, k6, k7, k8, k9, k10⟩ := cl11 g1; obtain ⟨u0, v0, u1, v1, u2, v2, u3, v3, u4, v4, u5, v5, u6, v6⟩ := cells7 g2; have q0 := (Array.getElem?_eq_some_iff.1 g0).1; have q1 := (Array.getElem?_eq_some_iff.1 g1).1; clear g0 g1 g2)
    refine bodyPost_ret (v := .tuple #[acv ⟨4, 0, 0, 0, 0, CO, VA⟩, .bool true]) ?_ rfl ⟨⟨4, 0, 0, 0, 0, CO, VA⟩, true, rfl, ?_, ?_, ?_⟩
    · simp [results, Tryd.results30, go_sem, acv, u0, u1, u2, u3, u4, u5, u6]
    · (repeat' (first | with_reducible exact HB3.out | (with_reducible refine Below.setCell ?_ ?_ _))) <;> (simp; try omega)
    · exact ⟨fun _ => HE.out.1, fun _ => rfl⟩
    · exact fun _ => HE.out.2.symm
  · rw [show ((25 : Nat) : Int) = 25 from rfl] at HAN ⊢
    go_enter Tryd.func30, Tryd.ntmps30
    go_upto_region 1 with fail
    refine enter3 fun W hb g0 g1 g2 q0 q1 q2 => ?_
    obtain ⟨r0, r1, r2, r3⟩ := cells4q g0
    obtain ⟨k0, k1, k2, k3, k4, k5, k6, k7, k8, k9, k10⟩ := cl11 g1
    obtain ⟨u0, v0, u1, v1, u2, v2, u3, v3, u4, v4, u5, v5, u6, v6⟩ := cells7 g2
    have HW := Lib.hid (And.intro g0 (And.intro g1 g2))
    have HB := Lib.hid hb
    have HPW := Lib.hid (HP.out.below hb)
    have HLV := Lib.hid (HL.out.below hb)
    clear g0 g1 g2 hb
    go_upto_region 2 with (go_at_call 57; refine (HMK.out _ HLV.out).mono ?_; rintro e w1 ⟨ob, rfl, hl1, hb1⟩; unfold readFn writeFn; have HB1 := Lib.hid (below_then HB.out hb1); have HPW1 := Lib.hid (HPW.out.below hb1); have HLW1 := Lib.hid hl1; clear hl1; obtain ⟨g0, g1, g2⟩ := HW.out; have HW1 := Lib.hid (And.intro (blk_below g0 hb1) (And.intro (blk_below g1 hb1) (blk_below g2 hb1))); clear r0 r1 r2 r3 k0 k1 k2 k3 k4 k5 k6 k7 k8 k9 k10 u0 v0 u1 v1 u2 v2 u3 v3 u4 v4 u5 v5 u6 v6; clear g0 g1 g2 hb1; obtain ⟨g0, g1, g2⟩ := HW1.out; obtain ⟨r0, r1, r2, r3⟩ := cells4q g0; obtain ⟨k0, k1, k2, k3, k4, k5, k6, k7, k8, k9, k10⟩ := cl11 g1; obtain ⟨u0, v0, u1, v1, u2, v2, u3, v3, u4, v4, u5, v5, u6, v6⟩ := cells7 g2; have q0 := (Array.getElem?_eq_some_iff.1 g0).1; have q1 := (Array.getElem?_eq_some_iff.1 g1).1; clear g0 g1 g2)
    refine wp_region_quiet_reads (by kernel_rfl) (by kernel_rfl) fun HR => ?_
    repeat (go_big_quiet_step (fail))
    refine wpQuiet_nil ?_
    intro Q2 hw'
    obtain ⟨⟨dq, osq⟩, hw''⟩ := hw'
    have hb2 : Below w1.heap.size w1 Q2 := by rw [hw'']; exact below_regrown _ dq osq
    clear hw'' HR dq osq q0 q1
    have HB2 := Lib.hid (below_then HB1.out hb2)
    have HPW2 := Lib.hid (HPW1.out.below hb2)
    have HLW2 := Lib.hid (HLW1.out.below hb2)
    obtain ⟨g0, g1, g2⟩ := HW1.out
    have HW2 := Lib.hid (And.intro (blk_below g0 hb2) (And.intro (blk_below g1 hb2) (blk_below g2 hb2)))
    clear r0 r1 r2 r3 k0 k1 k2 k3 k4 k5 k6 k7 k8 k9 k10 u0 v0 u1 v1 u2 v2 u3 v3 u4 v4 u5 v5 u6 v6
    clear g0 g1 g2 hb2
    obtain ⟨g0, g1, g2⟩ := HW2.out
    obtain ⟨r0, r1, r2, r3⟩ := cells4q g0
    obtain ⟨k0, k1, k2, k3, k4, k5, k6, k7, k8, k9, k10⟩ := cl11 g1
    obtain ⟨u0, v0, u1, v1, u2, v2, u3, v3, u4, v4, u5, v5, u6, v6⟩ := cells7 g2
    have q0 := (Array.getElem?_eq_some_iff.1 g0).1
    have q1 := (Array.getElem?_eq_some_iff.1 g1).1
    clear g0 g1 g2
    clear HB HPW HW HB1 HPW1 HLW1 HW1
    go_wp2_with (go_at_call 59; refine (HAN.out _).mono ?_; rintro e w3 ⟨rfl, hb3⟩; have HB3 := Lib.hid (below_then HB2.out hb3); have HPW3 := Lib.hid (HPW2.out.below hb3); have HLW3 := Lib.hid (HLW2.out.below hb3); obtain ⟨g0, g1, g2⟩ := HW2.out; have HW3 := Lib.hid (And.intro (blk_below g0 hb3) (And.intro (blk_below g1 hb3) (blk_below g2 hb3))); clear r0 r1 r2 r3 k0 k1 k2 k3 k4 k5 k6 k7 k8 k9 k10 u0 v0 u1 v1 u2 v2 u3 v3 u4 v4 u5 v5 u6 v6; clear g0 g1 g2 hb3; obtain ⟨g0, g1, g2⟩ := HW3.out; obtain ⟨r0, r1, r2, r3⟩ := cells4q g0; obtain ⟨k0, k1, k2, k3, k4, k5, k6, k7, k8, k9, k10⟩ := cl11 g1; obtain ⟨u0, v0, u1, v1, u2, v2, u3, v3, u4, v4, u5, v5, u6, v6⟩ := cells7 g2; have q0 := (Array.getElem?_eq_some_iff.1 g0).1; have q1 := (Array.getElem?_eq_some_iff.1 g1).1; clear g0 g1 g2)
    refine bodyPost_ret (v := .tuple #[acv ⟨4, 0, 0, 0, 0, CO, VA⟩, .bool true]) ?_ rfl ⟨⟨4, 0, 0, 0, 0, CO, VA⟩, true, rfl, ?_, ?_, ?_⟩
    · simp [results, Tryd.results30, go_sem, acv, u0, u1, u2, u3, u4, u5, u6]
    · (repeat' (first | with_reducible exact HB3.out | (with_reducible refine Below.setCell ?_ ?_ _))) <;> (simp; try omega)
    · exact ⟨fun _ => HE.out.1, fun _ => rfl⟩
    · exact fun _ => HE.out.2.symm

end Go.Proofs.YtmkehailohgebaaDoor
