/- The program of an index, the program's own: the act of a frame, Pc by Pc. -/
import Derived.Test.YtmkehailohgebaaDoorTpL
import Derived.BigRegion
import Derived.BigQuiet
import Derived.Deep.DeepCutAuto
namespace Go.Proofs.YtmkehailohgebaaDoor
open Go.RowKit Go.Lib Pt Opn

set_option maxRecDepth 100000 in
set_option maxHeartbeats 8000000 in
theorem pAnswerX_any (f : Ds) (hpc : f.pc = 20 ∨ f.pc = 21 ∨ f.pc = 22 ∨ f.pc = 23 ∨ f.pc = 24 ∨ f.pc = 25) (w : World) : Calls Tryd.prog 59 #[frv f] w (Ret (acv ⟨4, 0, 0, 0, 0, codeX f.pc, valX f⟩) w) := by
  unfold valX codeX acv frv
  obtain ⟨tg, k, seq, kind, a, b, pc, i, j, n, p, h, x, y⟩ := f
  simp only at hpc ⊢
  have y1 : IntKind.u32.wrap ((y : Int) + 1) = (((y + 1) % 4294967296 : Nat) : Int) := by rw [IntKind.wrap_u32]; omega
  generalize (y + 1) % 4294967296 = z at *
  rcases hpc with rfl | rfl | rfl | rfl | rfl | rfl
  · go_enter Tryd.func59, Tryd.ntmps59
    go_wp2
    refine bodyPost_ret ?_ rfl ⟨rfl, ?_⟩
    · simp [results, Tryd.results59, go_sem]
    · (repeat' (first | with_reducible exact below_three w _ _ _ | (with_reducible refine Below.setCell ?_ ?_ _))) <;> (simp; try omega)
  · go_enter Tryd.func59, Tryd.ntmps59
    go_wp2
    refine bodyPost_ret ?_ rfl ⟨rfl, ?_⟩
    · simp [results, Tryd.results59, go_sem]
    · (repeat' (first | with_reducible exact below_three w _ _ _ | (with_reducible refine Below.setCell ?_ ?_ _))) <;> (simp; try omega)
  · go_enter Tryd.func59, Tryd.ntmps59
    go_wp2
    refine bodyPost_ret ?_ rfl ⟨rfl, ?_⟩
    · simp [results, Tryd.results59, go_sem]
    · (repeat' (first | with_reducible exact below_three w _ _ _ | (with_reducible refine Below.setCell ?_ ?_ _))) <;> (simp; try omega)
  · go_enter Tryd.func59, Tryd.ntmps59
    go_wp2
    refine bodyPost_ret ?_ rfl ⟨rfl, ?_⟩
    · simp [results, Tryd.results59, go_sem]
    · (repeat' (first | with_reducible exact below_three w _ _ _ | (with_reducible refine Below.setCell ?_ ?_ _))) <;> (simp; try omega)
  · go_enter Tryd.func59, Tryd.ntmps59
    go_wp2
    refine bodyPost_ret ?_ rfl ⟨rfl, ?_⟩
    · simp [results, Tryd.results59, go_sem]
    · (repeat' (first | with_reducible exact below_three w _ _ _ | (with_reducible refine Below.setCell ?_ ?_ _))) <;> (simp; try omega)
  · go_enter Tryd.func59, Tryd.ntmps59
    go_wp2
    refine bodyPost_ret ?_ rfl ⟨rfl, ?_⟩
    · simp [results, Tryd.results59, go_sem]
    · (repeat' (first | with_reducible exact below_three w _ _ _ | (with_reducible refine Below.setCell ?_ ?_ _))) <;> (simp; try omega)

/-- A whole act is stored: the world gets a name. -/
theorem entSet7 {P : Program} {code : Code} {Q : Exit → Act → World → Prop} {x : Act} {W : World} {g : Nat} {z0 z1 z2 z3 z4 z5 z6 v0 v1 v2 v3 v4 v5 v6 : Value} {t : TypeId} (hg : W.heap[g]? = some (.cells #[z0, z1, z2, z3, z4, z5, z6] t (0, 0)))
    (h : ∀ W', W'.heap[g]? = some (.cells #[v0, v1, v2, v3, v4, v5, v6] t (0, 0)) → Only (fun k => k = g) W W' → code.wp P Q x W') : code.wp P Q x (((((((W.setCell ⟨g, 0, none⟩ v0).setCell ⟨g, 1, none⟩ v1).setCell ⟨g, 2, none⟩ v2).setCell ⟨g, 3, none⟩ v3).setCell ⟨g, 4, none⟩ v4).setCell ⟨g, 5, none⟩ v5).setCell ⟨g, 6, none⟩ v6) :=
  h _ (bk_set7 hg) (only_set (only_set (only_set (only_set (only_set (only_set (only_set (Only.refl _ W) 0 v0) 1 v1) 2 v2) 3 v3) 4 v4) 5 v5) 6 v6)
/-- What is known of a frame's numbers. -/
structure FitA (c : Cf) (C : Nat) (f : Ds) : Prop where
  n : f.n ≤ C
  p : f.p ≤ C
  h : f.h ≤ topX c
  i : f.i < 256
  a : f.a < 4294967296
  b : f.b < 4294967296
  x : f.x < 4294967296
  y : f.y < 4294967296
theorem num2_free {c : Cf} {f : Ds} (h : f.pc ≠ 6 ∧ f.pc ≠ 9 ∧ f.pc ≠ 11 ∧ f.pc ≠ 12) : Num2 c f := ⟨fun e => absurd e h.1, fun e => (e.elim h.2.1 h.2.2.1).elim, fun e => absurd e h.2.2.2⟩

set_option maxRecDepth 100000 in
set_option maxHeartbeats 8000000 in
theorem pActOf_0 {c : Cf} {C N K : Nat} (s : SzX c C N K) (sb cp : Nat) (f : Ds) (hpc : f.pc = 0) (q : FitA c C f) (hcp : topX c + 1 ≤ cp ∧ cp ≤ 9223372036854775807) (w : World) (hP : Pow w) (hl : LevX c sb w) :
    Calls Tryd.prog 30 #[shX c (.slice (some ⟨sb, 0, none⟩) (topX c + 1 : Nat) cp), frv f] w (ActR c f w) := by
  have c2 := s.c2
  have t4 := topX_le c
  obtain ⟨hn, hp, hh, hi, ha, hbb, hx, hy⟩ := q
  have HP := Lib.hid hP
  have HL := Lib.hid hl
  have HMK := Lib.hid (fun W hL => pMakers_any c sb cp hcp W hL)
  have ep : placeX c f = 0 := by simp [placeX, hpc]
  have es : stepX c f = ⟨1, 0, 0, 0, 0, 0, 0⟩ := by simp [stepX, ep, kindX, wordX, wordY, codeX, valX, hpc]
  have wn : IntKind.u64.wrap (f.n : Int) = (f.n : Int) := by rw [IntKind.wrap_u64]; omega
  have HE := Lib.hid (And.intro (show Num2 c f ∧ 0 ≤ placeX c f from ⟨num2_free (by omega), by omega⟩) es)
  clear es ep s hP hl hcp
  unfold shX frv
  obtain ⟨tg, k, seq, kind, a, b, pc, i, j, n, p, h, x, y⟩ := f
  simp only at *
  obtain rfl : pc = 0 := hpc
  rw [show ((0 : Nat) : Int) = 0 from rfl] at ⊢
  go_enter Tryd.func30, Tryd.ntmps30
  go_upto_region 1 with fail
  refine enter3 fun W hb g0 g1 g2 q0 q1 q2 => ?_
  obtain ⟨r0, r1, r2, r3⟩ := cells4q g0
  obtain ⟨k0, k1, k2, k3, k4, k5, k6, k7, k8, k9, k10⟩ := cl11 g1
  obtain ⟨u0, v0, u1, v1, u2, v2, u3, v3, u4, v4, u5, v5, u6, v6⟩ := cells7 g2
  have HW := Lib.hid (And.intro g0 (And.intro g1 g2))
  have HB := Lib.hid hb
  have HPW := Lib.hid (HP.out.below hb)
  have HLV := Lib.hid (HL.out.below hb)
  clear g0 g1 g2 hb
  go_upto_region 2 with (go_at_call 57; refine (HMK.out _ HLV.out).mono ?_; rintro e w1 ⟨ob, rfl, hl1, hb1⟩; unfold readFn writeFn; have HB1 := Lib.hid (below_then HB.out hb1); have HPW1 := Lib.hid (HPW.out.below hb1); have HLW1 := Lib.hid hl1; clear hl1; obtain ⟨g0, g1, g2⟩ := HW.out; have HW1 := Lib.hid (And.intro (blk_below g0 hb1) (And.intro (blk_below g1 hb1) (blk_below g2 hb1))); clear r0 r1 r2 r3 k0 k1 k2 k3 k4 k5 k6 k7 k8 k9 k10 u0 v0 u1 v1 u2 v2 u3 v3 u4 v4 u5 v5 u6 v6; clear g0 g1 g2 hb1; obtain ⟨g0, g1, g2⟩ := HW1.out; obtain ⟨r0, r1, r2, r3⟩ := cells4q g0; obtain ⟨k0, k1, k2, k3, k4, k5, k6, k7, k8, k9, k10⟩ := cl11 g1; obtain ⟨u0, v0, u1, v1, u2, v2, u3, v3, u4, v4, u5, v5, u6, v6⟩ := cells7 g2; have q0 := (Array.getElem?_eq_some_iff.1 g0).1; have q1 := (Array.getElem?_eq_some_iff.1 g1).1; clear g0 g1 g2)
  refine wp_region_quiet_reads (by kernel_rfl) (by kernel_rfl) fun HR => ?_
  repeat (go_big_quiet_step (fail))
  refine wpQuiet_nil ?_
  intro Q2 hw'
  obtain ⟨⟨dq, osq⟩, hw''⟩ := hw'
  have hb2 : Below w1.heap.size w1 Q2 := by rw [hw'']; exact below_regrown _ dq osq
  clear hw'' HR dq osq q0 q1
  have HB2 := Lib.hid (below_then HB1.out hb2)
  have HPW2 := Lib.hid (HPW1.out.below hb2)
  have HLW2 := Lib.hid (HLW1.out.below hb2)
  obtain ⟨g0, g1, g2⟩ := HW1.out
  have HW2 := Lib.hid (And.intro (blk_below g0 hb2) (And.intro (blk_below g1 hb2) (blk_below g2 hb2)))
  clear r0 r1 r2 r3 k0 k1 k2 k3 k4 k5 k6 k7 k8 k9 k10 u0 v0 u1 v1 u2 v2 u3 v3 u4 v4 u5 v5 u6 v6
  clear g0 g1 g2 hb2
  obtain ⟨g0, g1, g2⟩ := HW2.out
  obtain ⟨r0, r1, r2, r3⟩ := cells4q g0
  obtain ⟨k0, k1, k2, k3, k4, k5, k6, k7, k8, k9, k10⟩ := cl11 g1
  obtain ⟨u0, v0, u1, v1, u2, v2, u3, v3, u4, v4, u5, v5, u6, v6⟩ := cells7 g2
  have q0 := (Array.getElem?_eq_some_iff.1 g0).1
  have q1 := (Array.getElem?_eq_some_iff.1 g1).1
  clear g0 g1 g2
  clear HB HPW HW HB1 HPW1 HLW1 HW1
  go_wp2_with fail
  refine bodyPost_ret (v := .tuple #[acv ⟨1, 0, 0, 0, 0, 0, 0⟩, .bool true]) ?_ rfl ⟨⟨1, 0, 0, 0, 0, 0, 0⟩, true, rfl, ?_, ?_, ?_⟩
  · simp [results, Tryd.results30, go_sem, acv, u0, u1, u2, u3, u4, u5, u6]
  · (repeat' (first | with_reducible exact HB2.out | (with_reducible refine Below.setCell ?_ ?_ _))) <;> (simp; try omega)
  · exact ⟨fun _ => HE.out.1, fun _ => rfl⟩
  · exact fun _ => HE.out.2.symm

set_option maxRecDepth 100000 in
set_option maxHeartbeats 8000000 in
theorem pActOf_1 {c : Cf} {C N K : Nat} (s : SzX c C N K) (sb cp : Nat) (f : Ds) (hpc : f.pc = 1) (q : FitA c C f) (hcp : topX c + 1 ≤ cp ∧ cp ≤ 9223372036854775807) (w : World) (hP : Pow w) (hl : LevX c sb w) :
    Calls Tryd.prog 30 #[shX c (.slice (some ⟨sb, 0, none⟩) (topX c + 1 : Nat) cp), frv f] w (ActR c f w) := by
  have c2 := s.c2
  have t4 := topX_le c
  obtain ⟨hn, hp, hh, hi, ha, hbb, hx, hy⟩ := q
  have HP := Lib.hid hP
  have HL := Lib.hid hl
  have HMK := Lib.hid (fun W hL => pMakers_any c sb cp hcp W hL)
  have ep : placeX c f = offX c ((f.h : Nat) : Int) (f.i : Int) := by simp [placeX, hpc]
  have es : stepX c f = ⟨1, (offX c ((f.h : Nat) : Int) (f.i : Int)).toNat, 0, 0, 0, 0, 0⟩ := by simp [stepX, ep, kindX, wordX, wordY, codeX, valX, hpc]
  have eD : decide (0 ≤ offX c ((f.h : Nat) : Int) (f.i : Int)) = true ↔ 0 ≤ placeX c f := by rw [ep]; simp
  have HRD := Lib.hid (fun ob W hl => pReadX_any s ob f.h (f.i : Int) (by omega) (by omega) W hl)
  generalize (offX c ((f.h : Nat) : Int) (f.i : Int)).toNat = O at *
  generalize decide (0 ≤ offX c ((f.h : Nat) : Int) (f.i : Int)) = D at *
  have HE := Lib.hid (And.intro (num2_free (c := c) (f := f) (by omega)) (And.intro eD es))
  clear es eD ep s hP hl hcp
  unfold shX frv
  unfold acv at HRD
  obtain ⟨tg, k, seq, kind, a, b, pc, i, j, n, p, h, x, y⟩ := f
  simp only at *
  obtain rfl : pc = 1 := hpc
  rw [show ((1 : Nat) : Int) = 1 from rfl] at ⊢
  go_enter Tryd.func30, Tryd.ntmps30
  go_upto_region 1 with fail
  refine enter3 fun W hb g0 g1 g2 q0 q1 q2 => ?_
  obtain ⟨r0, r1, r2, r3⟩ := cells4q g0
  obtain ⟨k0, k1, k2, k3, k4, k5, k6, k7, k8, k9, k10⟩ := cl11 g1
  obtain ⟨u0, v0, u1, v1, u2, v2, u3, v3, u4, v4, u5, v5, u6, v6⟩ := cells7 g2
  have HW := Lib.hid (And.intro g0 (And.intro g1 g2))
  have HB := Lib.hid hb
  have HPW := Lib.hid (HP.out.below hb)
  have HLV := Lib.hid (HL.out.below hb)
  clear g0 g1 g2 hb
  go_upto_region 2 with (go_at_call 57; refine (HMK.out _ HLV.out).mono ?_; rintro e w1 ⟨ob, rfl, hl1, hb1⟩; unfold readFn writeFn; have HB1 := Lib.hid (below_then HB.out hb1); have HPW1 := Lib.hid (HPW.out.below hb1); have HLW1 := Lib.hid hl1; clear hl1; obtain ⟨g0, g1, g2⟩ := HW.out; have HW1 := Lib.hid (And.intro (blk_below g0 hb1) (And.intro (blk_below g1 hb1) (blk_below g2 hb1))); clear r0 r1 r2 r3 k0 k1 k2 k3 k4 k5 k6 k7 k8 k9 k10 u0 v0 u1 v1 u2 v2 u3 v3 u4 v4 u5 v5 u6 v6; clear g0 g1 g2 hb1; obtain ⟨g0, g1, g2⟩ := HW1.out; obtain ⟨r0, r1, r2, r3⟩ := cells4q g0; obtain ⟨k0, k1, k2, k3, k4, k5, k6, k7, k8, k9, k10⟩ := cl11 g1; obtain ⟨u0, v0, u1, v1, u2, v2, u3, v3, u4, v4, u5, v5, u6, v6⟩ := cells7 g2; have q0 := (Array.getElem?_eq_some_iff.1 g0).1; have q1 := (Array.getElem?_eq_some_iff.1 g1).1; clear g0 g1 g2)
  refine wp_region_quiet_reads (by kernel_rfl) (by kernel_rfl) fun HR => ?_
  repeat (go_big_quiet_step (fail))
  refine wpQuiet_nil ?_
  intro Q2 hw'
  obtain ⟨⟨dq, osq⟩, hw''⟩ := hw'
  have hb2 : Below w1.heap.size w1 Q2 := by rw [hw'']; exact below_regrown _ dq osq
  clear hw'' HR dq osq q0 q1
  have HB2 := Lib.hid (below_then HB1.out hb2)
  have HPW2 := Lib.hid (HPW1.out.below hb2)
  have HLW2 := Lib.hid (HLW1.out.below hb2)
  obtain ⟨g0, g1, g2⟩ := HW1.out
  have HW2 := Lib.hid (And.intro (blk_below g0 hb2) (And.intro (blk_below g1 hb2) (blk_below g2 hb2)))
  clear r0 r1 r2 r3 k0 k1 k2 k3 k4 k5 k6 k7 k8 k9 k10 u0 v0 u1 v1 u2 v2 u3 v3 u4 v4 u5 v5 u6 v6
  clear g0 g1 g2 hb2
  obtain ⟨g0, g1, g2⟩ := HW2.out
  obtain ⟨r0, r1, r2, r3⟩ := cells4q g0
  obtain ⟨k0, k1, k2, k3, k4, k5, k6, k7, k8, k9, k10⟩ := cl11 g1
  obtain ⟨u0, v0, u1, v1, u2, v2, u3, v3, u4, v4, u5, v5, u6, v6⟩ := cells7 g2
  have q0 := (Array.getElem?_eq_some_iff.1 g0).1
  have q1 := (Array.getElem?_eq_some_iff.1 g1).1
  clear g0 g1 g2
  clear HB HPW HW HB1 HPW1 HLW1 HW1
  go_wp2_with (go_at_call 99; refine (HRD.out _ _ HLW2.out).mono ?_; rintro e w3 ⟨rfl, hb3⟩; have HB3 := Lib.hid (below_then HB2.out hb3); have HPW3 := Lib.hid (HPW2.out.below hb3); have HLW3 := Lib.hid (HLW2.out.below hb3); obtain ⟨g0, g1, g2⟩ := HW2.out; have HW3 := Lib.hid (And.intro (blk_below g0 hb3) (And.intro (blk_below g1 hb3) (blk_below g2 hb3))); clear r0 r1 r2 r3 k0 k1 k2 k3 k4 k5 k6 k7 k8 k9 k10 u0 v0 u1 v1 u2 v2 u3 v3 u4 v4 u5 v5 u6 v6; clear g0 g1 g2 hb3; obtain ⟨g0, g1, g2⟩ := HW3.out; obtain ⟨r0, r1, r2, r3⟩ := cells4q g0; obtain ⟨k0, k1, k2, k3, k4, k5, k6, k7, k8, k9, k10⟩ := cl11 g1; obtain ⟨u0, v0, u1, v1, u2, v2, u3, v3, u4, v4, u5, v5, u6, v6⟩ := cells7 g2; have q0 := (Array.getElem?_eq_some_iff.1 g0).1; have q1 := (Array.getElem?_eq_some_iff.1 g1).1; clear g0 g1 g2)
  refine bodyPost_ret (v := .tuple #[acv ⟨1, O, 0, 0, 0, 0, 0⟩, .bool D]) ?_ rfl ⟨⟨1, O, 0, 0, 0, 0, 0⟩, D, rfl, ?_, ?_, ?_⟩
  · simp [results, Tryd.results30, go_sem, acv, u0, u1, u2, u3, u4, u5, u6]
  · (repeat' (first | with_reducible exact HB3.out | (with_reducible refine Below.setCell ?_ ?_ _))) <;> (simp; try omega)
  · exact ⟨fun e => ⟨HE.out.1, HE.out.2.1.1 e⟩, fun e => HE.out.2.1.2 e.2⟩
  · exact fun _ => HE.out.2.2.symm

set_option maxRecDepth 100000 in
set_option maxHeartbeats 8000000 in
theorem pActOf_3 {c : Cf} {C N K : Nat} (s : SzX c C N K) (sb cp : Nat) (f : Ds) (hpc : f.pc = 3) (q : FitA c C f) (hcp : topX c + 1 ≤ cp ∧ cp ≤ 9223372036854775807) (w : World) (hP : Pow w) (hl : LevX c sb w) :
    Calls Tryd.prog 30 #[shX c (.slice (some ⟨sb, 0, none⟩) (topX c + 1 : Nat) cp), frv f] w (ActR c f w) := by
  have c2 := s.c2
  have t4 := topX_le c
  obtain ⟨hn, hp, hh, hi, ha, hbb, hx, hy⟩ := q
  have HP := Lib.hid hP
  have HL := Lib.hid hl
  have HMK := Lib.hid (fun W hL => pMakers_any c sb cp hcp W hL)
  have ep : placeX c f = offX c 0 ((f.p : Int) - 1) := by simp [placeX, hpc]
  have es : stepX c f = ⟨1, (offX c 0 ((f.p : Int) - 1)).toNat, 0, 0, 0, 0, 0⟩ := by simp [stepX, ep, kindX, wordX, wordY, codeX, valX, hpc]
  have eD : decide (0 ≤ offX c 0 ((f.p : Int) - 1)) = true ↔ 0 ≤ placeX c f := by rw [ep]; simp
  have HRD := Lib.hid (fun ob W hl => pReadX_any s ob 0 ((f.p : Int) - 1) (by omega) (by omega) W hl)
  rw [show ((0 : Nat) : Int) = 0 from rfl] at HRD
  have w1 : wrap64 ((f.p : Int) - 1) = (f.p : Int) - 1 := by unfold wrap64; omega
  generalize (offX c 0 ((f.p : Int) - 1)).toNat = O at *
  generalize decide (0 ≤ offX c 0 ((f.p : Int) - 1)) = D at *
  have HE := Lib.hid (And.intro (num2_free (c := c) (f := f) (by omega)) (And.intro eD es))
  clear es eD ep s hP hl hcp
  unfold shX frv
  unfold acv at HRD
  obtain ⟨tg, k, seq, kind, a, b, pc, i, j, n, p, h, x, y⟩ := f
  simp only at *
  obtain rfl : pc = 3 := hpc
  rw [show ((3 : Nat) : Int) = 3 from rfl] at ⊢
  go_enter Tryd.func30, Tryd.ntmps30
  go_upto_region 1 with fail
  refine enter3 fun W hb g0 g1 g2 q0 q1 q2 => ?_
  obtain ⟨r0, r1, r2, r3⟩ := cells4q g0
  obtain ⟨k0, k1, k2, k3, k4, k5, k6, k7, k8, k9, k10⟩ := cl11 g1
  obtain ⟨u0, v0, u1, v1, u2, v2, u3, v3, u4, v4, u5, v5, u6, v6⟩ := cells7 g2
  have HW := Lib.hid (And.intro g0 (And.intro g1 g2))
  have HB := Lib.hid hb
  have HPW := Lib.hid (HP.out.below hb)
  have HLV := Lib.hid (HL.out.below hb)
  clear g0 g1 g2 hb
  go_upto_region 2 with (go_at_call 57; refine (HMK.out _ HLV.out).mono ?_; rintro e w1 ⟨ob, rfl, hl1, hb1⟩; unfold readFn writeFn; have HB1 := Lib.hid (below_then HB.out hb1); have HPW1 := Lib.hid (HPW.out.below hb1); have HLW1 := Lib.hid hl1; clear hl1; obtain ⟨g0, g1, g2⟩ := HW.out; have HW1 := Lib.hid (And.intro (blk_below g0 hb1) (And.intro (blk_below g1 hb1) (blk_below g2 hb1))); clear r0 r1 r2 r3 k0 k1 k2 k3 k4 k5 k6 k7 k8 k9 k10 u0 v0 u1 v1 u2 v2 u3 v3 u4 v4 u5 v5 u6 v6; clear g0 g1 g2 hb1; obtain ⟨g0, g1, g2⟩ := HW1.out; obtain ⟨r0, r1, r2, r3⟩ := cells4q g0; obtain ⟨k0, k1, k2, k3, k4, k5, k6, k7, k8, k9, k10⟩ := cl11 g1; obtain ⟨u0, v0, u1, v1, u2, v2, u3, v3, u4, v4, u5, v5, u6, v6⟩ := cells7 g2; have q0 := (Array.getElem?_eq_some_iff.1 g0).1; have q1 := (Array.getElem?_eq_some_iff.1 g1).1; clear g0 g1 g2)
  refine wp_region_quiet_reads (by kernel_rfl) (by kernel_rfl) fun HR => ?_
  repeat (go_big_quiet_step (fail))
  refine wpQuiet_nil ?_
  intro Q2 hw'
  obtain ⟨⟨dq, osq⟩, hw''⟩ := hw'
  have hb2 : Below w1.heap.size w1 Q2 := by rw [hw'']; exact below_regrown _ dq osq
  clear hw'' HR dq osq q0 q1
  have HB2 := Lib.hid (below_then HB1.out hb2)
  have HPW2 := Lib.hid (HPW1.out.below hb2)
  have HLW2 := Lib.hid (HLW1.out.below hb2)
  obtain ⟨g0, g1, g2⟩ := HW1.out
  have HW2 := Lib.hid (And.intro (blk_below g0 hb2) (And.intro (blk_below g1 hb2) (blk_below g2 hb2)))
  clear r0 r1 r2 r3 k0 k1 k2 k3 k4 k5 k6 k7 k8 k9 k10 u0 v0 u1 v1 u2 v2 u3 v3 u4 v4 u5 v5 u6 v6
  clear g0 g1 g2 hb2
  obtain ⟨g0, g1, g2⟩ := HW2.out
  obtain ⟨r0, r1, r2, r3⟩ := cells4q g0
  obtain ⟨k0, k1, k2, k3, k4, k5, k6, k7, k8, k9, k10⟩ := cl11 g1
  obtain ⟨u0, v0, u1, v1, u2, v2, u3, v3, u4, v4, u5, v5, u6, v6⟩ := cells7 g2
  have q0 := (Array.getElem?_eq_some_iff.1 g0).1
  have q1 := (Array.getElem?_eq_some_iff.1 g1).1
  clear g0 g1 g2
  clear HB HPW HW HB1 HPW1 HLW1 HW1
  go_wp2_with (go_at_call 99; refine (HRD.out _ _ HLW2.out).mono ?_; rintro e w3 ⟨rfl, hb3⟩; have HB3 := Lib.hid (below_then HB2.out hb3); have HPW3 := Lib.hid (HPW2.out.below hb3); have HLW3 := Lib.hid (HLW2.out.below hb3); obtain ⟨g0, g1, g2⟩ := HW2.out; have HW3 := Lib.hid (And.intro (blk_below g0 hb3) (And.intro (blk_below g1 hb3) (blk_below g2 hb3))); clear r0 r1 r2 r3 k0 k1 k2 k3 k4 k5 k6 k7 k8 k9 k10 u0 v0 u1 v1 u2 v2 u3 v3 u4 v4 u5 v5 u6 v6; clear g0 g1 g2 hb3; obtain ⟨g0, g1, g2⟩ := HW3.out; obtain ⟨r0, r1, r2, r3⟩ := cells4q g0; obtain ⟨k0, k1, k2, k3, k4, k5, k6, k7, k8, k9, k10⟩ := cl11 g1; obtain ⟨u0, v0, u1, v1, u2, v2, u3, v3, u4, v4, u5, v5, u6, v6⟩ := cells7 g2; have q0 := (Array.getElem?_eq_some_iff.1 g0).1; have q1 := (Array.getElem?_eq_some_iff.1 g1).1; clear g0 g1 g2)
  refine bodyPost_ret (v := .tuple #[acv ⟨1, O, 0, 0, 0, 0, 0⟩, .bool D]) ?_ rfl ⟨⟨1, O, 0, 0, 0, 0, 0⟩, D, rfl, ?_, ?_, ?_⟩
  · simp [results, Tryd.results30, go_sem, acv, u0, u1, u2, u3, u4, u5, u6]
  · (repeat' (first | with_reducible exact HB3.out | (with_reducible refine Below.setCell ?_ ?_ _))) <;> (simp; try omega)
  · exact ⟨fun e => ⟨HE.out.1, HE.out.2.1.1 e⟩, fun e => HE.out.2.1.2 e.2⟩
  · exact fun _ => HE.out.2.2.symm

set_option maxRecDepth 100000 in
set_option maxHeartbeats 8000000 in
theorem pActOf_4 {c : Cf} {C N K : Nat} (s : SzX c C N K) (sb cp : Nat) (f : Ds) (hpc : f.pc = 4) (q : FitA c C f) (hcp : topX c + 1 ≤ cp ∧ cp ≤ 9223372036854775807) (w : World) (hP : Pow w) (hl : LevX c sb w) :
    Calls Tryd.prog 30 #[shX c (.slice (some ⟨sb, 0, none⟩) (topX c + 1 : Nat) cp), frv f] w (ActR c f w) := by
  have c2 := s.c2
  have t4 := topX_le c
  obtain ⟨hn, hp, hh, hi, ha, hbb, hx, hy⟩ := q
  have HP := Lib.hid hP
  have HL := Lib.hid hl
  have HMK := Lib.hid (fun W hL => pMakers_any c sb cp hcp W hL)
  have ep : placeX c f = offX c 0 (f.p : Int) := by simp [placeX, hpc]
  have es : stepX c f = ⟨2, (offX c 0 (f.p : Int)).toNat, f.a, f.b, 0, 0, 0⟩ := by simp [stepX, ep, kindX, wordX, wordY, codeX, valX, hpc]
  have eD : decide (0 ≤ offX c 0 (f.p : Int)) = true ↔ 0 ≤ placeX c f := by rw [ep]; simp
  have HWR := Lib.hid (fun ob W hl => pWriteX_any s ob 0 (f.p : Int) f.a f.b (by omega) (by omega) W hl)
  rw [show ((0 : Nat) : Int) = 0 from rfl] at HWR
  have wa : IntKind.u64.wrap (f.a : Int) = (f.a : Int) := by rw [IntKind.wrap_u64]; omega
  have wb : IntKind.u64.wrap (f.b : Int) = (f.b : Int) := by rw [IntKind.wrap_u64]; omega
  generalize (offX c 0 (f.p : Int)).toNat = O at *
  generalize decide (0 ≤ offX c 0 (f.p : Int)) = D at *
  have HE := Lib.hid (And.intro (num2_free (c := c) (f := f) (by omega)) (And.intro eD es))
  clear es eD ep s hP hl hcp
  unfold shX frv
  unfold acv at HWR
  obtain ⟨tg, k, seq, kind, a, b, pc, i, j, n, p, h, x, y⟩ := f
  simp only at *
  obtain rfl : pc = 4 := hpc
  rw [show ((4 : Nat) : Int) = 4 from rfl] at ⊢
  go_enter Tryd.func30, Tryd.ntmps30
  go_upto_region 1 with fail
  refine enter3 fun W hb g0 g1 g2 q0 q1 q2 => ?_
  obtain ⟨r0, r1, r2, r3⟩ := cells4q g0
  obtain ⟨k0, k1, k2, k3, k4, k5, k6, k7, k8, k9, k10⟩ := cl11 g1
  obtain ⟨u0, v0, u1, v1, u2, v2, u3, v3, u4, v4, u5, v5, u6, v6⟩ := cells7 g2
  have HW := Lib.hid (And.intro g0 (And.intro g1 g2))
  have HB := Lib.hid hb
  have HPW := Lib.hid (HP.out.below hb)
  have HLV := Lib.hid (HL.out.below hb)
  clear g0 g1 g2 hb
  go_upto_region 2 with (go_at_call 57; refine (HMK.out _ HLV.out).mono ?_; rintro e w1 ⟨ob, rfl, hl1, hb1⟩; unfold readFn writeFn; have HB1 := Lib.hid (below_then HB.out hb1); have HPW1 := Lib.hid (HPW.out.below hb1); have HLW1 := Lib.hid hl1; clear hl1; obtain ⟨g0, g1, g2⟩ := HW.out; have HW1 := Lib.hid (And.intro (blk_below g0 hb1) (And.intro (blk_below g1 hb1) (blk_below g2 hb1))); clear r0 r1 r2 r3 k0 k1 k2 k3 k4 k5 k6 k7 k8 k9 k10 u0 v0 u1 v1 u2 v2 u3 v3 u4 v4 u5 v5 u6 v6; clear g0 g1 g2 hb1; obtain ⟨g0, g1, g2⟩ := HW1.out; obtain ⟨r0, r1, r2, r3⟩ := cells4q g0; obtain ⟨k0, k1, k2, k3, k4, k5, k6, k7, k8, k9, k10⟩ := cl11 g1; obtain ⟨u0, v0, u1, v1, u2, v2, u3, v3, u4, v4, u5, v5, u6, v6⟩ := cells7 g2; have q0 := (Array.getElem?_eq_some_iff.1 g0).1; have q1 := (Array.getElem?_eq_some_iff.1 g1).1; clear g0 g1 g2)
  refine wp_region_quiet_reads (by kernel_rfl) (by kernel_rfl) fun HR => ?_
  repeat (go_big_quiet_step (fail))
  refine wpQuiet_nil ?_
  intro Q2 hw'
  obtain ⟨⟨dq, osq⟩, hw''⟩ := hw'
  have hb2 : Below w1.heap.size w1 Q2 := by rw [hw'']; exact below_regrown _ dq osq
  clear hw'' HR dq osq q0 q1
  have HB2 := Lib.hid (below_then HB1.out hb2)
  have HPW2 := Lib.hid (HPW1.out.below hb2)
  have HLW2 := Lib.hid (HLW1.out.below hb2)
  obtain ⟨g0, g1, g2⟩ := HW1.out
  have HW2 := Lib.hid (And.intro (blk_below g0 hb2) (And.intro (blk_below g1 hb2) (blk_below g2 hb2)))
  clear r0 r1 r2 r3 k0 k1 k2 k3 k4 k5 k6 k7 k8 k9 k10 u0 v0 u1 v1 u2 v2 u3 v3 u4 v4 u5 v5 u6 v6
  clear g0 g1 g2 hb2
  obtain ⟨g0, g1, g2⟩ := HW2.out
  obtain ⟨r0, r1, r2, r3⟩ := cells4q g0
  obtain ⟨k0, k1, k2, k3, k4, k5, k6, k7, k8, k9, k10⟩ := cl11 g1
  obtain ⟨u0, v0, u1, v1, u2, v2, u3, v3, u4, v4, u5, v5, u6, v6⟩ := cells7 g2
  have q0 := (Array.getElem?_eq_some_iff.1 g0).1
  have q1 := (Array.getElem?_eq_some_iff.1 g1).1
  clear g0 g1 g2
  clear HB HPW HW HB1 HPW1 HLW1 HW1
  go_wp2_with (go_at_call 100; refine (HWR.out _ _ HLW2.out).mono ?_; rintro e w3 ⟨rfl, hb3⟩; have HB3 := Lib.hid (below_then HB2.out hb3); have HPW3 := Lib.hid (HPW2.out.below hb3); have HLW3 := Lib.hid (HLW2.out.below hb3); obtain ⟨g0, g1, g2⟩ := HW2.out; have HW3 := Lib.hid (And.intro (blk_below g0 hb3) (And.intro (blk_below g1 hb3) (blk_below g2 hb3))); clear r0 r1 r2 r3 k0 k1 k2 k3 k4 k5 k6 k7 k8 k9 k10 u0 v0 u1 v1 u2 v2 u3 v3 u4 v4 u5 v5 u6 v6; clear g0 g1 g2 hb3; obtain ⟨g0, g1, g2⟩ := HW3.out; obtain ⟨r0, r1, r2, r3⟩ := cells4q g0; obtain ⟨k0, k1, k2, k3, k4, k5, k6, k7, k8, k9, k10⟩ := cl11 g1; obtain ⟨u0, v0, u1, v1, u2, v2, u3, v3, u4, v4, u5, v5, u6, v6⟩ := cells7 g2; have q0 := (Array.getElem?_eq_some_iff.1 g0).1; have q1 := (Array.getElem?_eq_some_iff.1 g1).1; clear g0 g1 g2)
  refine bodyPost_ret (v := .tuple #[acv ⟨2, O, a, b, 0, 0, 0⟩, .bool D]) ?_ rfl ⟨⟨2, O, a, b, 0, 0, 0⟩, D, rfl, ?_, ?_, ?_⟩
  · simp [results, Tryd.results30, go_sem, acv, u0, u1, u2, u3, u4, u5, u6]
  · (repeat' (first | with_reducible exact HB3.out | (with_reducible refine Below.setCell ?_ ?_ _))) <;> (simp; try omega)
  · exact ⟨fun e => ⟨HE.out.1, HE.out.2.1.1 e⟩, fun e => HE.out.2.1.2 e.2⟩
  · exact fun _ => HE.out.2.2.symm

set_option maxRecDepth 100000 in
set_option maxHeartbeats 8000000 in
theorem pActOf_5 {c : Cf} {C N K : Nat} (s : SzX c C N K) (sb cp : Nat) (f : Ds) (hpc : f.pc = 5) (q : FitA c C f) (hcp : topX c + 1 ≤ cp ∧ cp ≤ 9223372036854775807) (w : World) (hP : Pow w) (hl : LevX c sb w) :
    Calls Tryd.prog 30 #[shX c (.slice (some ⟨sb, 0, none⟩) (topX c + 1 : Nat) cp), frv f] w (ActR c f w) := by
  have c2 := s.c2
  have t4 := topX_le c
  obtain ⟨hn, hp, hh, hi, ha, hbb, hx, hy⟩ := q
  have HP := Lib.hid hP
  have HL := Lib.hid hl
  have HMK := Lib.hid (fun W hL => pMakers_any c sb cp hcp W hL)
  have ep : placeX c f = offX c 0 ((f.i : Int) - 1) := by simp [placeX, hpc]
  have es : stepX c f = ⟨1, (offX c 0 ((f.i : Int) - 1)).toNat, 0, 0, 0, 0, 0⟩ := by simp [stepX, ep, kindX, wordX, wordY, codeX, valX, hpc]
  have eD : decide (0 ≤ offX c 0 ((f.i : Int) - 1)) = true ↔ 0 ≤ placeX c f := by rw [ep]; simp
  have HRD := Lib.hid (fun ob W hl => pReadX_any s ob 0 ((f.i : Int) - 1) (by omega) (by omega) W hl)
  rw [show ((0 : Nat) : Int) = 0 from rfl] at HRD
  have w1 : wrap64 ((f.i : Int) - 1) = (f.i : Int) - 1 := by unfold wrap64; omega
  generalize (offX c 0 ((f.i : Int) - 1)).toNat = O at *
  generalize decide (0 ≤ offX c 0 ((f.i : Int) - 1)) = D at *
  have HE := Lib.hid (And.intro (num2_free (c := c) (f := f) (by omega)) (And.intro eD es))
  clear es eD ep s hP hl hcp
  unfold shX frv
  unfold acv at HRD
  obtain ⟨tg, k, seq, kind, a, b, pc, i, j, n, p, h, x, y⟩ := f
  simp only at *
  obtain rfl : pc = 5 := hpc
  rw [show ((5 : Nat) : Int) = 5 from rfl] at ⊢
  go_enter Tryd.func30, Tryd.ntmps30
  go_upto_region 1 with fail
  refine enter3 fun W hb g0 g1 g2 q0 q1 q2 => ?_
  obtain ⟨r0, r1, r2, r3⟩ := cells4q g0
  obtain ⟨k0, k1, k2, k3, k4, k5, k6, k7, k8, k9, k10⟩ := cl11 g1
  obtain ⟨u0, v0, u1, v1, u2, v2, u3, v3, u4, v4, u5, v5, u6, v6⟩ := cells7 g2
  have HW := Lib.hid (And.intro g0 (And.intro g1 g2))
  have HB := Lib.hid hb
  have HPW := Lib.hid (HP.out.below hb)
  have HLV := Lib.hid (HL.out.below hb)
  clear g0 g1 g2 hb
  go_upto_region 2 with (go_at_call 57; refine (HMK.out _ HLV.out).mono ?_; rintro e w1 ⟨ob, rfl, hl1, hb1⟩; unfold readFn writeFn; have HB1 := Lib.hid (below_then HB.out hb1); have HPW1 := Lib.hid (HPW.out.below hb1); have HLW1 := Lib.hid hl1; clear hl1; obtain ⟨g0, g1, g2⟩ := HW.out; have HW1 := Lib.hid (And.intro (blk_below g0 hb1) (And.intro (blk_below g1 hb1) (blk_below g2 hb1))); clear r0 r1 r2 r3 k0 k1 k2 k3 k4 k5 k6 k7 k8 k9 k10 u0 v0 u1 v1 u2 v2 u3 v3 u4 v4 u5 v5 u6 v6; clear g0 g1 g2 hb1; obtain ⟨g0, g1, g2⟩ := HW1.out; obtain ⟨r0, r1, r2, r3⟩ := cells4q g0; obtain ⟨k0, k1, k2, k3, k4, k5, k6, k7, k8, k9, k10⟩ := cl11 g1; obtain ⟨u0, v0, u1, v1, u2, v2, u3, v3, u4, v4, u5, v5, u6, v6⟩ := cells7 g2; have q0 := (Array.getElem?_eq_some_iff.1 g0).1; have q1 := (Array.getElem?_eq_some_iff.1 g1).1; clear g0 g1 g2)
  refine wp_region_quiet_reads (by kernel_rfl) (by kernel_rfl) fun HR => ?_
  repeat (go_big_quiet_step (fail))
  refine wpQuiet_nil ?_
  intro Q2 hw'
  obtain ⟨⟨dq, osq⟩, hw''⟩ := hw'
  have hb2 : Below w1.heap.size w1 Q2 := by rw [hw'']; exact below_regrown _ dq osq
  clear hw'' HR dq osq q0 q1
  have HB2 := Lib.hid (below_then HB1.out hb2)
  have HPW2 := Lib.hid (HPW1.out.below hb2)
  have HLW2 := Lib.hid (HLW1.out.below hb2)
  obtain ⟨g0, g1, g2⟩ := HW1.out
  have HW2 := Lib.hid (And.intro (blk_below g0 hb2) (And.intro (blk_below g1 hb2) (blk_below g2 hb2)))
  clear r0 r1 r2 r3 k0 k1 k2 k3 k4 k5 k6 k7 k8 k9 k10 u0 v0 u1 v1 u2 v2 u3 v3 u4 v4 u5 v5 u6 v6
  clear g0 g1 g2 hb2
  obtain ⟨g0, g1, g2⟩ := HW2.out
  obtain ⟨r0, r1, r2, r3⟩ := cells4q g0
  obtain ⟨k0, k1, k2, k3, k4, k5, k6, k7, k8, k9, k10⟩ := cl11 g1
  obtain ⟨u0, v0, u1, v1, u2, v2, u3, v3, u4, v4, u5, v5, u6, v6⟩ := cells7 g2
  have q0 := (Array.getElem?_eq_some_iff.1 g0).1
  have q1 := (Array.getElem?_eq_some_iff.1 g1).1
  clear g0 g1 g2
  clear HB HPW HW HB1 HPW1 HLW1 HW1
  go_wp2_with (go_at_call 99; refine (HRD.out _ _ HLW2.out).mono ?_; rintro e w3 ⟨rfl, hb3⟩; have HB3 := Lib.hid (below_then HB2.out hb3); have HPW3 := Lib.hid (HPW2.out.below hb3); have HLW3 := Lib.hid (HLW2.out.below hb3); obtain ⟨g0, g1, g2⟩ := HW2.out; have HW3 := Lib.hid (And.intro (blk_below g0 hb3) (And.intro (blk_below g1 hb3) (blk_below g2 hb3))); clear r0 r1 r2 r3 k0 k1 k2 k3 k4 k5 k6 k7 k8 k9 k10 u0 v0 u1 v1 u2 v2 u3 v3 u4 v4 u5 v5 u6 v6; clear g0 g1 g2 hb3; obtain ⟨g0, g1, g2⟩ := HW3.out; obtain ⟨r0, r1, r2, r3⟩ := cells4q g0; obtain ⟨k0, k1, k2, k3, k4, k5, k6, k7, k8, k9, k10⟩ := cl11 g1; obtain ⟨u0, v0, u1, v1, u2, v2, u3, v3, u4, v4, u5, v5, u6, v6⟩ := cells7 g2; have q0 := (Array.getElem?_eq_some_iff.1 g0).1; have q1 := (Array.getElem?_eq_some_iff.1 g1).1; clear g0 g1 g2)
  refine bodyPost_ret (v := .tuple #[acv ⟨1, O, 0, 0, 0, 0, 0⟩, .bool D]) ?_ rfl ⟨⟨1, O, 0, 0, 0, 0, 0⟩, D, rfl, ?_, ?_, ?_⟩
  · simp [results, Tryd.results30, go_sem, acv, u0, u1, u2, u3, u4, u5, u6]
  · (repeat' (first | with_reducible exact HB3.out | (with_reducible refine Below.setCell ?_ ?_ _))) <;> (simp; try omega)
  · exact ⟨fun e => ⟨HE.out.1, HE.out.2.1.1 e⟩, fun e => HE.out.2.1.2 e.2⟩
  · exact fun _ => HE.out.2.2.symm

set_option maxRecDepth 100000 in
set_option maxHeartbeats 8000000 in
theorem pActOf_6 {c : Cf} {C N K : Nat} (s : SzX c C N K) (sb cp : Nat) (f : Ds) (hpc : f.pc = 6) (q : FitA c C f) (hcp : topX c + 1 ≤ cp ∧ cp ≤ 9223372036854775807) (w : World) (hP : Pow w) (hl : LevX c sb w) :
    Calls Tryd.prog 30 #[shX c (.slice (some ⟨sb, 0, none⟩) (topX c + 1 : Nat) cp), frv f] w (ActR c f w) := by
  have c2 := s.c2
  have t4 := topX_le c
  obtain ⟨hn, hp, hh, hi, ha, hbb, hx, hy⟩ := q
  have HP := Lib.hid hP
  have HL := Lib.hid hl
  have HMK := Lib.hid (fun W hL => pMakers_any c sb cp hcp W hL)
  have ep : placeX c f = offX c 0 (f.i : Int) := by simp [placeX, hpc]
  have es : stepX c f = ⟨2, (offX c 0 (f.i : Int)).toNat, f.x, f.y, 0, 0, 0⟩ := by simp [stepX, ep, kindX, wordX, wordY, codeX, valX, hpc]
  have eD : decide (0 ≤ offX c 0 (f.i : Int)) = true ↔ 0 ≤ placeX c f := by rw [ep]; simp
  have HWR := Lib.hid (fun ob W hl => pWriteX_any s ob 0 (f.i : Int) f.x f.y (by omega) (by omega) W hl)
  rw [show ((0 : Nat) : Int) = 0 from rfl] at HWR
  have wx : IntKind.u64.wrap (f.x : Int) = (f.x : Int) := by rw [IntKind.wrap_u64]; omega
  have wy : IntKind.u64.wrap (f.y : Int) = (f.y : Int) := by rw [IntKind.wrap_u64]; omega
  generalize (offX c 0 (f.i : Int)).toNat = O at *
  generalize decide (0 ≤ offX c 0 (f.i : Int)) = D at *
  have HE := Lib.hid (And.intro (show (D && decide (1 ≤ f.i)) = true ↔ Num2 c f ∧ 0 ≤ placeX c f from by
    rw [Bool.and_eq_true, eD, decide_eq_true_iff]
    exact ⟨fun e => ⟨⟨fun _ => e.2, fun e => by omega, fun e => by omega⟩, e.1⟩, fun e => ⟨e.2, e.1.1 hpc⟩⟩) (And.intro eD es))
  clear es eD ep s hP hl hcp
  unfold shX frv
  unfold acv at HWR
  obtain ⟨tg, k, seq, kind, a, b, pc, i, j, n, p, h, x, y⟩ := f
  simp only at *
  obtain rfl : pc = 6 := hpc
  rw [show ((6 : Nat) : Int) = 6 from rfl] at ⊢
  cases D with
  | false =>
    go_enter Tryd.func30, Tryd.ntmps30
    go_upto_region 1 with fail
    refine enter3 fun W hb g0 g1 g2 q0 q1 q2 => ?_
    obtain ⟨r0, r1, r2, r3⟩ := cells4q g0
    obtain ⟨k0, k1, k2, k3, k4, k5, k6, k7, k8, k9, k10⟩ := cl11 g1
    obtain ⟨u0, v0, u1, v1, u2, v2, u3, v3, u4, v4, u5, v5, u6, v6⟩ := cells7 g2
    have HW := Lib.hid (And.intro g0 (And.intro g1 g2))
    have HB := Lib.hid hb
    have HPW := Lib.hid (HP.out.below hb)
    have HLV := Lib.hid (HL.out.below hb)
    clear g0 g1 g2 hb
    go_upto_region 2 with (go_at_call 57; refine (HMK.out _ HLV.out).mono ?_; rintro e w1 ⟨ob, rfl, hl1, hb1⟩; unfold readFn writeFn; have HB1 := Lib.hid (below_then HB.out hb1); have HPW1 := Lib.hid (HPW.out.below hb1); have HLW1 := Lib.hid hl1; clear hl1; obtain ⟨g0, g1, g2⟩ := HW.out; have HW1 := Lib.hid (And.intro (blk_below g0 hb1) (And.intro (blk_below g1 hb1) (blk_below g2 hb1))); clear r0 r1 r2 r3 k0 k1 k2 k3 k4 k5 k6 k7 k8 k9 k10 u0 v0 u1 v1 u2 v2 u3 v3 u4 v4 u5 v5 u6 v6; clear g0 g1 g2 hb1; obtain ⟨g0, g1, g2⟩ := HW1.out; obtain ⟨r0, r1, r2, r3⟩ := cells4q g0; obtain ⟨k0, k1, k2, k3, k4, k5, k6, k7, k8, k9, k10⟩ := cl11 g1; obtain ⟨u0, v0, u1, v1, u2, v2, u3, v3, u4, v4, u5, v5, u6, v6⟩ := cells7 g2; have q0 := (Array.getElem?_eq_some_iff.1 g0).1; have q1 := (Array.getElem?_eq_some_iff.1 g1).1; clear g0 g1 g2)
    refine wp_region_quiet_reads (by kernel_rfl) (by kernel_rfl) fun HR => ?_
    repeat (go_big_quiet_step (fail))
    refine wpQuiet_nil ?_
    intro Q2 hw'
    obtain ⟨⟨dq, osq⟩, hw''⟩ := hw'
    have hb2 : Below w1.heap.size w1 Q2 := by rw [hw'']; exact below_regrown _ dq osq
    clear hw'' HR dq osq q0 q1
    have HB2 := Lib.hid (below_then HB1.out hb2)
    have HPW2 := Lib.hid (HPW1.out.below hb2)
    have HLW2 := Lib.hid (HLW1.out.below hb2)
    obtain ⟨g0, g1, g2⟩ := HW1.out
    have HW2 := Lib.hid (And.intro (blk_below g0 hb2) (And.intro (blk_below g1 hb2) (blk_below g2 hb2)))
    clear r0 r1 r2 r3 k0 k1 k2 k3 k4 k5 k6 k7 k8 k9 k10 u0 v0 u1 v1 u2 v2 u3 v3 u4 v4 u5 v5 u6 v6
    clear g0 g1 g2 hb2
    obtain ⟨g0, g1, g2⟩ := HW2.out
    obtain ⟨r0, r1, r2, r3⟩ := cells4q g0
    obtain ⟨k0, k1, k2, k3, k4, k5, k6, k7, k8, k9, k10⟩ := cl11 g1
    obtain ⟨u0, v0, u1, v1, u2, v2, u3, v3, u4, v4, u5, v5, u6, v6⟩ := cells7 g2
    have q0 := (Array.getElem?_eq_some_iff.1 g0).1
    have q1 := (Array.getElem?_eq_some_iff.1 g1).1
    clear g0 g1 g2
    clear HB HPW HW HB1 HPW1 HLW1 HW1
    go_upto_region 17 with (go_at_call 100; refine (HWR.out _ _ HLW2.out).mono ?_; rintro e w3 ⟨rfl, hb3⟩; have HB3 := Lib.hid (below_then HB2.out hb3); have HPW3 := Lib.hid (HPW2.out.below hb3); have HLW3 := Lib.hid (HLW2.out.below hb3); obtain ⟨g0, g1, g2⟩ := HW2.out; have HW3 := Lib.hid (And.intro (blk_below g0 hb3) (And.intro (blk_below g1 hb3) (blk_below g2 hb3))); clear r0 r1 r2 r3 k0 k1 k2 k3 k4 k5 k6 k7 k8 k9 k10 u0 v0 u1 v1 u2 v2 u3 v3 u4 v4 u5 v5 u6 v6; clear g0 g1 g2 hb3; obtain ⟨g0, g1, g2⟩ := HW3.out; obtain ⟨r0, r1, r2, r3⟩ := cells4q g0; obtain ⟨k0, k1, k2, k3, k4, k5, k6, k7, k8, k9, k10⟩ := cl11 g1; obtain ⟨u0, v0, u1, v1, u2, v2, u3, v3, u4, v4, u5, v5, u6, v6⟩ := cells7 g2; have q0 := (Array.getElem?_eq_some_iff.1 g0).1; have q1 := (Array.getElem?_eq_some_iff.1 g1).1; clear g0 g1 g2)
    obtain ⟨g0, g1, g2⟩ := HW3.out
    refine entSet7 g2 fun W4 G4 o4 => ?_
    have HB4 := Lib.hid (Only.then_below (Nat.le_refl _) HB3.out o4 (fun k hk => by omega))
    replace g1 := only_blk o4 g1 (by omega)
    clear g0 g2 o4 HB3 HW3 HPW3 HLW3 q0 q1 r0 r1 r2 r3 k0 k1 k2 k3 k4 k5 k6 k7 k8 k9 k10 u0 v0 u1 v1 u2 v2 u3 v3 u4 v4 u5 v5 u6 v6
    obtain ⟨k0, k1, k2, k3, k4, k5, k6, k7, k8, k9, k10⟩ := cl11 g1
    obtain ⟨u0, v0, u1, v1, u2, v2, u3, v3, u4, v4, u5, v5, u6, v6⟩ := cells7 G4
    clear g1 G4
    go_wp2_with fail
    refine bodyPost_ret (v := .tuple #[acv ⟨2, O, x, y, 0, 0, 0⟩, .bool (false && decide (1 ≤ i))]) ?_ rfl ⟨⟨2, O, x, y, 0, 0, 0⟩, (false && decide (1 ≤ i)), rfl, ?_, ?_, ?_⟩
    · simp [results, Tryd.results30, go_sem, acv, u0, u1, u2, u3, u4, u5, u6]
    · (repeat' (first | with_reducible exact HB4.out | (with_reducible refine Below.setCell ?_ ?_ _))) <;> (simp; try omega)
    · exact HE.out.1
    · exact fun _ => HE.out.2.2.symm
  | true =>
    by_cases ei : 1 ≤ i
    · have ei' : (1 : Int) ≤ (i : Int) := by omega
      go_enter Tryd.func30, Tryd.ntmps30
      go_upto_region 1 with fail
      refine enter3 fun W hb g0 g1 g2 q0 q1 q2 => ?_
      obtain ⟨r0, r1, r2, r3⟩ := cells4q g0
      obtain ⟨k0, k1, k2, k3, k4, k5, k6, k7, k8, k9, k10⟩ := cl11 g1
      obtain ⟨u0, v0, u1, v1, u2, v2, u3, v3, u4, v4, u5, v5, u6, v6⟩ := cells7 g2
      have HW := Lib.hid (And.intro g0 (And.intro g1 g2))
      have HB := Lib.hid hb
      have HPW := Lib.hid (HP.out.below hb)
      have HLV := Lib.hid (HL.out.below hb)
      clear g0 g1 g2 hb
      go_upto_region 2 with (go_at_call 57; refine (HMK.out _ HLV.out).mono ?_; rintro e w1 ⟨ob, rfl, hl1, hb1⟩; unfold readFn writeFn; have HB1 := Lib.hid (below_then HB.out hb1); have HPW1 := Lib.hid (HPW.out.below hb1); have HLW1 := Lib.hid hl1; clear hl1; obtain ⟨g0, g1, g2⟩ := HW.out; have HW1 := Lib.hid (And.intro (blk_below g0 hb1) (And.intro (blk_below g1 hb1) (blk_below g2 hb1))); clear r0 r1 r2 r3 k0 k1 k2 k3 k4 k5 k6 k7 k8 k9 k10 u0 v0 u1 v1 u2 v2 u3 v3 u4 v4 u5 v5 u6 v6; clear g0 g1 g2 hb1; obtain ⟨g0, g1, g2⟩ := HW1.out; obtain ⟨r0, r1, r2, r3⟩ := cells4q g0; obtain ⟨k0, k1, k2, k3, k4, k5, k6, k7, k8, k9, k10⟩ := cl11 g1; obtain ⟨u0, v0, u1, v1, u2, v2, u3, v3, u4, v4, u5, v5, u6, v6⟩ := cells7 g2; have q0 := (Array.getElem?_eq_some_iff.1 g0).1; have q1 := (Array.getElem?_eq_some_iff.1 g1).1; clear g0 g1 g2)
      refine wp_region_quiet_reads (by kernel_rfl) (by kernel_rfl) fun HR => ?_
      repeat (go_big_quiet_step (fail))
      refine wpQuiet_nil ?_
      intro Q2 hw'
      obtain ⟨⟨dq, osq⟩, hw''⟩ := hw'
      have hb2 : Below w1.heap.size w1 Q2 := by rw [hw'']; exact below_regrown _ dq osq
      clear hw'' HR dq osq q0 q1
      have HB2 := Lib.hid (below_then HB1.out hb2)
      have HPW2 := Lib.hid (HPW1.out.below hb2)
      have HLW2 := Lib.hid (HLW1.out.below hb2)
      obtain ⟨g0, g1, g2⟩ := HW1.out
      have HW2 := Lib.hid (And.intro (blk_below g0 hb2) (And.intro (blk_below g1 hb2) (blk_below g2 hb2)))
      clear r0 r1 r2 r3 k0 k1 k2 k3 k4 k5 k6 k7 k8 k9 k10 u0 v0 u1 v1 u2 v2 u3 v3 u4 v4 u5 v5 u6 v6
      clear g0 g1 g2 hb2
      obtain ⟨g0, g1, g2⟩ := HW2.out
      obtain ⟨r0, r1, r2, r3⟩ := cells4q g0
      obtain ⟨k0, k1, k2, k3, k4, k5, k6, k7, k8, k9, k10⟩ := cl11 g1
      obtain ⟨u0, v0, u1, v1, u2, v2, u3, v3, u4, v4, u5, v5, u6, v6⟩ := cells7 g2
      have q0 := (Array.getElem?_eq_some_iff.1 g0).1
      have q1 := (Array.getElem?_eq_some_iff.1 g1).1
      clear g0 g1 g2
      clear HB HPW HW HB1 HPW1 HLW1 HW1
      go_upto_region 17 with (go_at_call 100; refine (HWR.out _ _ HLW2.out).mono ?_; rintro e w3 ⟨rfl, hb3⟩; have HB3 := Lib.hid (below_then HB2.out hb3); have HPW3 := Lib.hid (HPW2.out.below hb3); have HLW3 := Lib.hid (HLW2.out.below hb3); obtain ⟨g0, g1, g2⟩ := HW2.out; have HW3 := Lib.hid (And.intro (blk_below g0 hb3) (And.intro (blk_below g1 hb3) (blk_below g2 hb3))); clear r0 r1 r2 r3 k0 k1 k2 k3 k4 k5 k6 k7 k8 k9 k10 u0 v0 u1 v1 u2 v2 u3 v3 u4 v4 u5 v5 u6 v6; clear g0 g1 g2 hb3; obtain ⟨g0, g1, g2⟩ := HW3.out; obtain ⟨r0, r1, r2, r3⟩ := cells4q g0; obtain ⟨k0, k1, k2, k3, k4, k5, k6, k7, k8, k9, k10⟩ := cl11 g1; obtain ⟨u0, v0, u1, v1, u2, v2, u3, v3, u4, v4, u5, v5, u6, v6⟩ := cells7 g2; have q0 := (Array.getElem?_eq_some_iff.1 g0).1; have q1 := (Array.getElem?_eq_some_iff.1 g1).1; clear g0 g1 g2)
      obtain ⟨g0, g1, g2⟩ := HW3.out
      refine entSet7 g2 fun W4 G4 o4 => ?_
      have HB4 := Lib.hid (Only.then_below (Nat.le_refl _) HB3.out o4 (fun k hk => by omega))
      replace g1 := only_blk o4 g1 (by omega)
      clear g0 g2 o4 HB3 HW3 HPW3 HLW3 q0 q1 r0 r1 r2 r3 k0 k1 k2 k3 k4 k5 k6 k7 k8 k9 k10 u0 v0 u1 v1 u2 v2 u3 v3 u4 v4 u5 v5 u6 v6
      obtain ⟨k0, k1, k2, k3, k4, k5, k6, k7, k8, k9, k10⟩ := cl11 g1
      obtain ⟨u0, v0, u1, v1, u2, v2, u3, v3, u4, v4, u5, v5, u6, v6⟩ := cells7 G4
      clear g1 G4
      go_wp2_with fail
      refine bodyPost_ret (v := .tuple #[acv ⟨2, O, x, y, 0, 0, 0⟩, .bool (true && decide (1 ≤ i))]) ?_ rfl ⟨⟨2, O, x, y, 0, 0, 0⟩, (true && decide (1 ≤ i)), rfl, ?_, ?_, ?_⟩
      · simp [ei, results, Tryd.results30, go_sem, acv, u0, u1, u2, u3, u4, u5, u6]
      · (repeat' (first | with_reducible exact HB4.out | (with_reducible refine Below.setCell ?_ ?_ _))) <;> (simp; try omega)
      · exact HE.out.1
      · exact fun _ => HE.out.2.2.symm
    · have ei' : ¬ (1 : Int) ≤ (i : Int) := by omega
      go_enter Tryd.func30, Tryd.ntmps30
      go_upto_region 1 with fail
      refine enter3 fun W hb g0 g1 g2 q0 q1 q2 => ?_
      obtain ⟨r0, r1, r2, r3⟩ := cells4q g0
      obtain ⟨k0, k1, k2, k3, k4, k5, k6, k7, k8, k9, k10⟩ := cl11 g1
      obtain ⟨u0, v0, u1, v1, u2, v2, u3, v3, u4, v4, u5, v5, u6, v6⟩ := cells7 g2
      have HW := Lib.hid (And.intro g0 (And.intro g1 g2))
      have HB := Lib.hid hb
      have HPW := Lib.hid (HP.out.below hb)
      have HLV := Lib.hid (HL.out.below hb)
      clear g0 g1 g2 hb
      go_upto_region 2 with (go_at_call 57; refine (HMK.out _ HLV.out).mono ?_; rintro e w1 ⟨ob, rfl, hl1, hb1⟩; unfold readFn writeFn; have HB1 := Lib.hid (below_then HB.out hb1); have HPW1 := Lib.hid (HPW.out.below hb1); have HLW1 := Lib.hid hl1; clear hl1; obtain ⟨g0, g1, g2⟩ := HW.out; have HW1 := Lib.hid (And.intro (blk_below g0 hb1) (And.intro (blk_below g1 hb1) (blk_below g2 hb1))); clear r0 r1 r2 r3 k0 k1 k2 k3 k4 k5 k6 k7 k8 k9 k10 u0 v0 u1 v1 u2 v2 u3 v3 u4 v4 u5 v5 u6 v6; clear g0 g1 g2 hb1; obtain ⟨g0, g1, g2⟩ := HW1.out; obtain ⟨r0, r1, r2, r3⟩ := cells4q g0; obtain ⟨k0, k1, k2, k3, k4, k5, k6, k7, k8, k9, k10⟩ := cl11 g1; obtain ⟨u0, v0, u1, v1, u2, v2, u3, v3, u4, v4, u5, v5, u6, v6⟩ := cells7 g2; have q0 := (Array.getElem?_eq_some_iff.1 g0).1; have q1 := (Array.getElem?_eq_some_iff.1 g1).1; clear g0 g1 g2)
      refine wp_region_quiet_reads (by kernel_rfl) (by kernel_rfl) fun HR => ?_
      repeat (go_big_quiet_step (fail))
      refine wpQuiet_nil ?_
      intro Q2 hw'
      obtain ⟨⟨dq, osq⟩, hw''⟩ := hw'
      have hb2 : Below w1.heap.size w1 Q2 := by rw [hw'']; exact below_regrown _ dq osq
      clear hw'' HR dq osq q0 q1
      have HB2 := Lib.hid (below_then HB1.out hb2)
      have HPW2 := Lib.hid (HPW1.out.below hb2)
      have HLW2 := Lib.hid (HLW1.out.below hb2)
      obtain ⟨g0, g1, g2⟩ := HW1.out
      have HW2 := Lib.hid (And.intro (blk_below g0 hb2) (And.intro (blk_below g1 hb2) (blk_below g2 hb2)))
      clear r0 r1 r2 r3 k0 k1 k2 k3 k4 k5 k6 k7 k8 k9 k10 u0 v0 u1 v1 u2 v2 u3 v3 u4 v4 u5 v5 u6 v6
      clear g0 g1 g2 hb2
      obtain ⟨g0, g1, g2⟩ := HW2.out
      obtain ⟨r0, r1, r2, r3⟩ := cells4q g0
      obtain ⟨k0, k1, k2, k3, k4, k5, k6, k7, k8, k9, k10⟩ := cl11 g1
      obtain ⟨u0, v0, u1, v1, u2, v2, u3, v3, u4, v4, u5, v5, u6, v6⟩ := cells7 g2
      have q0 := (Array.getElem?_eq_some_iff.1 g0).1
      have q1 := (Array.getElem?_eq_some_iff.1 g1).1
      clear g0 g1 g2
      clear HB HPW HW HB1 HPW1 HLW1 HW1
      go_upto_region 17 with (go_at_call 100; refine (HWR.out _ _ HLW2.out).mono ?_; rintro e w3 ⟨rfl, hb3⟩; have HB3 := Lib.hid (below_then HB2.out hb3); have HPW3 := Lib.hid (HPW2.out.below hb3); have HLW3 := Lib.hid (HLW2.out.below hb3); obtain ⟨g0, g1, g2⟩ := HW2.out; have HW3 := Lib.hid (And.intro (blk_below g0 hb3) (And.intro (blk_below g1 hb3) (blk_below g2 hb3))); clear r0 r1 r2 r3 k0 k1 k2 k3 k4 k5 k6 k7 k8 k9 k10 u0 v0 u1 v1 u2 v2 u3 v3 u4 v4 u5 v5 u6 v6; clear g0 g1 g2 hb3; obtain ⟨g0, g1, g2⟩ := HW3.out; obtain ⟨r0, r1, r2, r3⟩ := cells4q g0; obtain ⟨k0, k1, k2, k3, k4, k5, k6, k7, k8, k9, k10⟩ := cl11 g1; obtain ⟨u0, v0, u1, v1, u2, v2, u3, v3, u4, v4, u5, v5, u6, v6⟩ := cells7 g2; have q0 := (Array.getElem?_eq_some_iff.1 g0).1; have q1 := (Array.getElem?_eq_some_iff.1 g1).1; clear g0 g1 g2)
      obtain ⟨g0, g1, g2⟩ := HW3.out
      refine entSet7 g2 fun W4 G4 o4 => ?_
      have HB4 := Lib.hid (Only.then_below (Nat.le_refl _) HB3.out o4 (fun k hk => by omega))
      replace g1 := only_blk o4 g1 (by omega)
      clear g0 g2 o4 HB3 HW3 HPW3 HLW3 q0 q1 r0 r1 r2 r3 k0 k1 k2 k3 k4 k5 k6 k7 k8 k9 k10 u0 v0 u1 v1 u2 v2 u3 v3 u4 v4 u5 v5 u6 v6
      obtain ⟨k0, k1, k2, k3, k4, k5, k6, k7, k8, k9, k10⟩ := cl11 g1
      obtain ⟨u0, v0, u1, v1, u2, v2, u3, v3, u4, v4, u5, v5, u6, v6⟩ := cells7 G4
      clear g1 G4
      go_wp2_with fail
      refine bodyPost_ret (v := .tuple #[acv ⟨2, O, x, y, 0, 0, 0⟩, .bool (true && decide (1 ≤ i))]) ?_ rfl ⟨⟨2, O, x, y, 0, 0, 0⟩, (true && decide (1 ≤ i)), rfl, ?_, ?_, ?_⟩
      · simp [ei, results, Tryd.results30, go_sem, acv, u0, u1, u2, u3, u4, u5, u6]
        omega
      · (repeat' (first | with_reducible exact HB4.out | (with_reducible refine Below.setCell ?_ ?_ _))) <;> (simp; try omega)
      · exact HE.out.1
      · exact fun _ => HE.out.2.2.symm

end Go.Proofs.YtmkehailohgebaaDoor
