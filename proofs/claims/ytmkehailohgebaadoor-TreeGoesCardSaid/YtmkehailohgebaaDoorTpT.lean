/- The program of an index, the program's own call: the act of a frame. -/
import Derived.Test.YtmkehailohgebaaDoorTpN
import Derived.Test.YtmkehailohgebaaDoorTpR
import Derived.Deep.Cut
import Derived.Deep.RegionHeld3
import Derived.Deep.DeepCutAuto
namespace Go.Proofs.YtmkehailohgebaaDoor
open Go.RowKit Go.Lib Pt Opn

theorem Pow.drewn {W : World} (h : Pow W) : Pow W.drew := fun j hj => h j hj
theorem LevX.drewn {c : Cf} {sb : Nat} {W : World} (h : LevX c sb W) : LevX c sb W.drew := fun j hj => h j hj
theorem LevX.alloc {c : Cf} {sb : Nat} {W : World} (h : LevX c sb W) (o : Obj) : LevX c sb (W.alloc o) := h.below (below_one W o)
instance (c : Cf) (f : Ds) : Decidable (Num2 c f) := by unfold Num2; infer_instance
theorem numX_iff (c : Cf) (f : Ds) : NumX c f ↔ RegsX c f ∧ Num2 c f := Iff.rfl
theorem pActOf_any {c : Cf} {C N K : Nat} (s : SzX c C N K) (sb cp : Nat) (f : Ds) (ht : ThereX f.kind f.pc) (q : FitA c C f) (hcp : topX c + 1 ≤ cp ∧ cp ≤ 9223372036854775807) (w : World) (hP : Pow w) (hl : LevX c sb w) :
    Calls Tryd.prog 30 #[shX c (.slice (some ⟨sb, 0, none⟩) (topX c + 1 : Nat) cp), frv f] w (ActR c f w) := by
  have hp : f.pc = 0 ∨ f.pc = 1 ∨ f.pc = 3 ∨ f.pc = 4 ∨ f.pc = 5 ∨ f.pc = 6 ∨ f.pc = 7 ∨ f.pc = 8 ∨ f.pc = 9 ∨ f.pc = 11 ∨ f.pc = 12 ∨ f.pc = 13 ∨ f.pc = 14 ∨ f.pc = 15 ∨ f.pc = 16 ∨ f.pc = 17 ∨ f.pc = 20 ∨ f.pc = 21 ∨ f.pc = 22 ∨ f.pc = 23 ∨ f.pc = 24 ∨ f.pc = 25 := by
    unfold ThereX pcsX at ht
    (repeat' split at ht) <;> simp at ht <;> omega
  rcases hp with e | e | e | e | e | e | e | e | e | e | e | e | e | e | e | e | e | e | e | e | e | e
  · exact pActOf_0 s sb cp f e q hcp w hP hl
  · exact pActOf_1 s sb cp f e q hcp w hP hl
  · exact pActOf_3 s sb cp f e q hcp w hP hl
  · exact pActOf_4 s sb cp f e q hcp w hP hl
  · exact pActOf_5 s sb cp f e q hcp w hP hl
  · exact pActOf_6 s sb cp f e q hcp w hP hl
  · exact pActOf_7 s sb cp f e q hcp w hP hl
  · exact pActOf_8 s sb cp f e q hcp w hP hl
  · exact pActOf_above s sb cp f (.inl e) q hcp w hP hl
  · exact pActOf_above s sb cp f (.inr (.inl e)) q hcp w hP hl
  · exact pActOf_above s sb cp f (.inr (.inr e)) q hcp w hP hl
  · exact pActOf_13 s sb cp f e q hcp w hP hl
  · exact pActOf_14 s sb cp f e q hcp w hP hl
  · exact pActOf_15 s sb cp f e q hcp w hP hl
  · exact pActOf_16 s sb cp f e q hcp w hP hl
  · exact pActOf_17 s sb cp f e q hcp w hP hl
  · exact pActOf_done s sb cp f (by omega) q hcp w hP hl
  · exact pActOf_done s sb cp f (by omega) q hcp w hP hl
  · exact pActOf_done s sb cp f (by omega) q hcp w hP hl
  · exact pActOf_done s sb cp f (by omega) q hcp w hP hl
  · exact pActOf_done s sb cp f (by omega) q hcp w hP hl
  · exact pActOf_done s sb cp f (by omega) q hcp w hP hl

set_option maxRecDepth 100000 in
set_option maxHeartbeats 16000000 in
theorem pNextX_bad (c : Cf) (f : Ds) (E : Int) (hE : chkX c f = E) (h0 : E ≠ 0) (hw : DWf f) (w : World) (hO : Obs w) (hPP : Pow w) : Calls Tryd.prog 9 #[cfv c, frv f] w (Ret2 (acv Ac.none) (.int .i64 E) w) := by
  have HC := Lib.hid (fun W hp hq => pCheckX_any c f hw W hp hq)
  rw [hE] at HC
  have HO := Lib.hid hO
  have HPO := Lib.hid hPP
  have h4 : (E != 0) = true := by simpa using h0
  clear hE hw hO hPP h0
  unfold acv Ac.none
  unfold cfv frv at HC ⊢
  obtain ⟨t', k, seq, kind, a, b, pc, i, j, n, p, h, x, y⟩ := f
  simp only at *
  go_enter Tryd.func9, Tryd.ntmps9
  go_upto_region 1 with fail
  refine enter3 fun W hb g0 g1 g2 q0 q1 q2 => ?_
  have HO1 := Lib.hid (HO.out.below hb)
  have HP1 := Lib.hid (HPO.out.below hb)
  obtain ⟨r0, r1, r2, r3, r4, r5, r6, r7, r8, r9, r10, r11⟩ := cells12 g0
  obtain ⟨k0, y0, k1, y1, k2, y2, k3, y3, k4, y4, k5, y5, k6, y6, k7, y7, k8, y8, k9, y9, k10, y10⟩ := cells11 g1
  go_wp2_with (go_at_call 29; refine (HC.out _ HO1.out HP1.out).mono ?_; rintro e w1 ⟨rfl, hb1⟩; have G2 := blk_below g2 hb1; have HB := Lib.hid (below_then hb hb1); obtain ⟨n0, e0, n1, e1, n2, e2, n3, e3, n4, e4, n5, e5, n6, e6⟩ := cells7 G2; clear G2 hb1)
  refine bodyPost_ret (v := .tuple #[.agg #[.int .u8 0, .int .i64 0, .int .u64 0, .int .u64 0, .int .u64 0, .int .i64 0, .int .u32 0], .int .i64 E]) ?_ rfl ⟨rfl, ?_⟩
  · simp [results, Tryd.results9, go_sem, n0, n1, n2, n3, n4, n5, n6]
  · (repeat' (first | with_reducible exact HB.out | (with_reducible refine Below.setCell ?_ ?_ _))) <;> (simp; try omega)

set_option maxRecDepth 100000 in
set_option maxHeartbeats 32000000 in
theorem pNextX_ok {c : Cf} {C N K : Nat} (s : SzX c C N K) (f : Ds) (h0 : chkX c f = 0) (hw : DWf f) (ht : ThereX f.kind f.pc) (q : FitA c C f) (w : World) (hO : Obs w) (hPP : Pow w) :
    Calls Tryd.prog 9 #[cfv c, frv f] w (Ret2 (acv (if Num2 c f ∧ 0 ≤ placeX c f then stepX c f else Ac.none)) (.int .i64 (if Num2 c f ∧ 0 ≤ placeX c f then 0 else 2)) w) := by
  have HC := Lib.hid (fun W hp hq => pCheckX_any c f hw W hp hq)
  rw [h0] at HC
  have HO := Lib.hid hO
  have HPO := Lib.hid hPP
  have HSH := Lib.hid (fun W hp => pShapeX_any s W hp)
  have HAO := Lib.hid (fun sb cp hcp W hP hl => pActOf_any s sb cp f ht q hcp W hP hl)
  clear h0 hw hO hPP s ht q
  unfold RetS at HSH
  unfold ActR at HAO
  obtain ⟨G, hG⟩ : ∃ G : Bool, decide (Num2 c f ∧ 0 ≤ placeX c f) = G := ⟨_, rfl⟩
  have hiff : (Num2 c f ∧ 0 ≤ placeX c f) ↔ G = true := by rw [← hG, decide_eq_true_iff]
  simp only [hiff] at HAO ⊢
  obtain ⟨Y, hY⟩ : ∃ Y, stepX c f = Y := ⟨_, rfl⟩
  rw [hY] at HAO ⊢
  clear hY hG hiff
  obtain ⟨RA, hRA⟩ : ∃ RA, (if G = true then Y else Ac.none) = RA := ⟨_, rfl⟩
  obtain ⟨RB, hRB⟩ : ∃ RB : Int, (if G = true then (0 : Int) else 2) = RB := ⟨_, rfl⟩
  rw [hRA, hRB]
  have HRA := Lib.hid hRA
  have HRB := Lib.hid hRB
  clear hRA hRB
  generalize hT : topX c + 1 = T at *
  generalize hLV : LevX c = LV at *
  have HLA : Hid (∀ sb W o, LV sb W → LV sb (W.alloc o)) := Lib.hid (by rw [← hLV]; exact fun sb W o h => h.alloc o)
  have HLD : Hid (∀ sb W, LV sb W → LV sb W.drew) := Lib.hid (by rw [← hLV]; exact fun sb W h => h.drewn)
  clear hT hLV
  unfold shX at HSH HAO
  unfold cfv frv at HC
  unfold frv at HAO
  unfold cfv at HSH
  unfold cfv frv acv
  obtain ⟨t', k, seq, kind, a, b, pc, i, j, n, p, h, x, y⟩ := f
  simp only at *
  go_enter Tryd.func9, Tryd.ntmps9
  go_upto_region 1 with fail
  refine enter3 fun W hb g0 g1 g2 q0 q1 q2 => ?_
  have HO1 := Lib.hid (HO.out.below hb)
  have HP1 := Lib.hid (HPO.out.below hb)
  obtain ⟨r0, r1, r2, r3, r4, r5, r6, r7, r8, r9, r10, r11⟩ := cells12 g0
  obtain ⟨k0, y0, k1, y1, k2, y2, k3, y3, k4, y4, k5, y5, k6, y6, k7, y7, k8, y8, k9, y9, k10, y10⟩ := cells11 g1
  go_wp2_with (go_at_call 29; refine (HC.out _ HO1.out HP1.out).mono ?_; rintro e w1 ⟨rfl, hb1⟩; have HP2 := Lib.hid (HP1.out.below hb1); have G2 := blk_below g2 hb1)
  have G0 := blk_below g0 hb1
  have G1 := blk_below g1 hb1
  have z0 := (Array.getElem?_eq_some_iff.1 G0).1
  have z1 := (Array.getElem?_eq_some_iff.1 G1).1
  clear r0 r1 r2 r3 r4 r5 r6 r7 r8 r9 r10 r11 k0 y0 k1 y1 k2 y2 k3 y3 k4 y4 k5 y5 k6 y6 k7 y7 k8 y8 k9 y9 k10 y10 g0 g1 g2
  obtain ⟨r0, r1, r2, r3, r4, r5, r6, r7, r8, r9, r10, r11⟩ := cells12 G0
  obtain ⟨k0, y0, k1, y1, k2, y2, k3, y3, k4, y4, k5, y5, k6, y6, k7, y7, k8, y8, k9, y9, k10, y10⟩ := cells11 G1
  have HG2 := Lib.hid G2
  have HBW := Lib.hid (below_then hb hb1)
  clear G0 G1 G2 hb hb1 q0 q1 q2 HO HO1 HC
  go_cut [7, 8] (fun s7 s8 wx => ∃ (g : Nat) (X : Ac) (bo : Bool), s7 = .pointer (some ⟨g, 0, none⟩) ∧ s8 = .bool bo ∧ Hid (ActAt wx g X ∧ Below w1.heap.size w1 wx ∧ (bo = true ↔ G = true) ∧ (bo = true → X = Y)))
  case first =>
    go_region_held3 (fun X => w1.heap.size ≤ X.heap.size ∧ ∀ b o, b < w1.heap.size → X.cell? ⟨b, o, none⟩ = w1.cell? ⟨b, o, none⟩)
      (first
        | ((repeat' (first
            | with_reducible refine keep_set7 ?_ _ ?_ _ _ _ _ _ _ _
            | with_reducible refine keep_drew ?_
            | with_reducible refine keep_alloc ?_ _
            | with_reducible refine keep_below hb6 ?_
            | with_reducible refine keep_below hb5 ?_
            | with_reducible exact keep_refl _
            | (first | with_reducible exact Nat.le_refl _ | omega)));
           done)
        | fail)
      (first
        | ((with_reducible refine (HSH.out _ (by repeat' (first | with_reducible exact HP2.out | with_reducible refine Pow.alloc ?_ _ | with_reducible refine Pow.drewn ?_))).mono ?_); rintro e w5 ⟨sb, cp, rfl, hx5, hy5, _, hl5, hb5⟩; have HP5 := Lib.hid (Pow.below (by repeat' (first | with_reducible exact HP2.out | with_reducible refine Pow.alloc ?_ _ | with_reducible refine Pow.drewn ?_)) hb5); have HL5 := Lib.hid hl5; have HX5 := Lib.hid (And.intro hx5 hy5); clear hl5 hx5 hy5; have hs5 := hb5.size; simp at hs5; obtain ⟨hc5, hf5⟩ := bcell hb5; (try have p1 : w1.heap.size < w5.heap.size := by omega); (try have p2 : w1.heap.size + 1 < w5.heap.size := by omega))
        | ((with_reducible refine (HAO.out _ _ HX5.out _ (by repeat' (first | with_reducible exact HP5.out | with_reducible refine Pow.alloc ?_ _ | with_reducible refine Pow.drewn ?_)) (by repeat' (first | with_reducible exact HL5.out | with_reducible refine HLA.out _ _ _ ?_ | with_reducible refine HLD.out _ _ ?_))).mono ?_); rintro e w6 ⟨XX, bo, rfl, hb6, hi1, hi2⟩; have HI := Lib.hid (And.intro hi1 hi2); clear hi1 hi2; unfold acv; have hs6 := hb6.size; (try simp at hs6); obtain ⟨hc6, hf6⟩ := bcell hb6; (try have p3 : w5.heap.size < w6.heap.size := by omega); (try have p4 : w5.heap.size + 1 < w6.heap.size := by omega); (try have p5 : w1.heap.size < w6.heap.size := by omega); (try have p6 : w1.heap.size + 1 < w6.heap.size := by omega)))
    all_goals
      go_wp2_with fail
      go_meet
      clear r0 r1 r2 r3 r4 r5 r6 r7 r8 r9 r10 r11 k0 y0 k1 y1 k2 y2 k3 y3 k4 y4 k5 y5 k6 y6 k7 y7 k8 y8 k9 y9 k10 y10 z0 z1 hc5 hf5 hc6 hf6
      refine ⟨_, XX, bo, rfl, rfl, Lib.hid ⟨act_of (t := 26) ?_, ?_, HI.out.1, HI.out.2⟩⟩
      · (repeat' (first
          | with_reducible refine Bk7.set ?_
          | (with_reducible refine bk_newg ?_; simp; done)
          | with_reducible refine Bk7.drew ?_
          | (with_reducible refine Bk7.new ?_; simp; done)
          | with_reducible refine Bk7.alloc ?_
          | with_reducible refine Bk7.below hb6 ?_
          | with_reducible refine Bk7.below hb5 ?_
          | omega))
      · (repeat' (first
          | with_reducible refine bw_set7 ?_ ?_
          | with_reducible refine bw_drew ?_
          | with_reducible refine bw_alloc ?_
          | with_reducible refine bw_below hb6 ?_
          | with_reducible refine bw_below hb5 ?_
          | with_reducible exact Below.refl _ _
          | omega))
  case rest =>
    obtain ⟨g, XX, bo, rfl, rfl, HM⟩ := hcut
    obtain ⟨hat, hbc, hi1, hi2⟩ := HM.out
    unfold ActAt at hat
    obtain ⟨a0, a1, a2, a3, a4, a5, a6⟩ := hat
    have G2 := blk_below HG2.out hbc
    have HB := Lib.hid (below_then HBW.out hbc)
    clear HM HG2 HBW hbc r0 r1 r2 r3 r4 r5 r6 r7 r8 r9 r10 r11 k0 y0 k1 y1 k2 y2 k3 y3 k4 y4 k5 y5 k6 y6 k7 y7 k8 y8 k9 y9 k10 y10 z0 z1
    obtain ⟨n0, e0, n1, e1, n2, e2, n3, e3, n4, e4, n5, e5, n6, e6⟩ := cells7 G2
    clear G2
    cases bo with
    | true =>
      have hg := hi1.1 rfl
      have hx := hi2 rfl
      subst hx
      have e1 := HRA.out
      have e2 := HRB.out
      rw [if_pos hg] at e1 e2
      subst e1 e2
      clear hi1 hi2 hg HAO HSH
      go_wp2
      refine bodyPost_ret ?_ rfl ⟨rfl, ?_⟩
      · simp [results, Tryd.results9, go_sem, n0, n1, n2, n3, n4, n5, n6]
      · (repeat' (first | with_reducible exact HB.out | (with_reducible refine Below.setCell ?_ ?_ _))) <;> (simp; try omega)
    | false =>
      have hg : ¬ G = true := fun e => absurd (hi1.2 e) (by decide)
      have e1 := HRA.out
      have e2 := HRB.out
      rw [if_neg hg] at e1 e2
      subst e1 e2
      clear hi1 hi2 hg HAO HSH
      go_wp2
      refine bodyPost_ret ?_ rfl ⟨rfl, ?_⟩
      · simp [Ac.none, results, Tryd.results9, go_sem, n0, n1, n2, n3, n4, n5, n6]
      · (repeat' (first | with_reducible exact HB.out | (with_reducible refine Below.setCell ?_ ?_ _))) <;> (simp; try omega)

theorem pNextX_any (c : Cf) (f : Ds) (hw : DWf f) (w : World) (hO : Obs w) (hPP : Pow w) : Calls Tryd.prog 9 #[cfv c, frv f] w (Ret2 (acv (nextX c f).1) (.int .i64 (nextX c f).2) w) := by
  by_cases hok : Ok c ∧ c.obj = 2
  · by_cases hc : chk c (frX f) = 0 ∧ ThereX f.kind f.pc ∧ RegsX c f
    · have h0 : chkX c f = 0 := by unfold chkX; rw [if_neg (not_not_intro hok), if_neg (not_not_intro hc)]
      obtain ⟨C, N, K, s⟩ := szX hok.1 hok.2
      have hq : FitA c C f := by
        have hd := hw
        unfold DWf at hd
        obtain ⟨r1, r2, r3, r4⟩ := hc.2.2
        rw [s.cap] at r1 r2
        exact ⟨by omega, by omega, r4, by omega, by omega, by omega, by omega, by omega⟩
      have H := pNextX_ok s f h0 hw hc.2.1 hq w hO hPP
      have hm : XMay c f ↔ Num2 c f ∧ 0 ≤ placeX c f := by
        unfold XMay
        rw [numX_iff]
        exact ⟨fun e => ⟨e.2.2.1.2, e.2.2.2⟩, fun e => ⟨hc.1, hc.2.1, ⟨hc.2.2, e.1⟩, e.2⟩⟩
      unfold nextX
      rw [if_neg (not_not_intro hok)]
      by_cases hx : Num2 c f ∧ 0 ≤ placeX c f
      · rw [if_pos hx, if_pos hx] at H
        rw [if_neg (not_not_intro (hm.2 hx))]
        exact H
      · rw [if_neg hx, if_neg hx] at H
        rw [if_pos (fun e => hx (hm.1 e))]
        exact H
    · have h2 : chkX c f = 2 := by unfold chkX; rw [if_neg (not_not_intro hok), if_pos hc]
      have hx : nextX c f = (Ac.none, 2) := by
        unfold nextX
        rw [if_neg (not_not_intro hok), if_pos (fun e => hc ⟨e.1, e.2.1, ((numX_iff c f).1 e.2.2.1).1⟩)]
      rw [hx]
      exact pNextX_bad c f 2 h2 (by decide) hw w hO hPP
  · have h4 : chkX c f = 40 := by unfold chkX; rw [if_pos hok]
    have hx : nextX c f = (Ac.none, 40) := by unfold nextX; rw [if_pos hok]
    rw [hx]
    exact pNextX_bad c f 40 h4 (by decide) hw w hO hPP
end Go.Proofs.YtmkehailohgebaaDoor
