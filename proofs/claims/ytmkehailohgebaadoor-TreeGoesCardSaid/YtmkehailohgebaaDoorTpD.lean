/- The program of an index, the program's own: does anything stay on a level; up. -/
import Derived.Test.YtmkehailohgebaaDoorTpC
import Derived.Test.YtmkehailohgebaaDoorTpS
import Derived.BigRegion
import Derived.BigQuiet
import Derived.Deep.DeepCutAuto
import Derived.ScopeJumps
import Derived.WalkMore
namespace Go.Proofs.YtmkehailohgebaaDoor
open Go.RowKit Go.Lib Pt Opn

/-- A scope in which the run jumps back to one label: what holds at the label, and a measure. -/
theorem wp_scope_loop {P : Program} {a : Act} {w : World} {Q : Exit → Act → World → Prop} {c rest : Code} (l : Nat) (J : Act → World → Prop) (μ : Act → World → Nat) (hf : findLabel c l = some (Code.seq Code.skip rest))
    (pass : ∀ a w, J a w → rest.wp P (Exit.jump l (fun a' w' => J a' w' ∧ μ a' w' < μ a w) Q) a w)
    (first : (∀ a w, J a w → rest.wp P (Exit.jump l J Q) a w) → c.wp P (Exit.jump l J Q) a w) : (Code.scope c).wp P Q a w :=
  wp_scope_jumps l J μ hf (first fun a w h => Code.wp_mono (fun e a' w' q => by
    cases e with
    | goto l' => exact ⟨q.1, q.2.1⟩
    | _ => exact q) (pass a w h)) fun a w h => wp_seq (wp_skip (pass a w h))
/-- The level, as it lies. -/
def hOf (g : Nat) (w : World) : Nat := match w.cell? ⟨g, 12, none⟩ with | some (.int _ q) => q.toNat | _ => 0
theorem goUp_stays {c : Cf} {C N K : Nat} (s : SzX c C N K) (m : Nat) (f : Ds) : goUp c (m + 1) f = if (staysX c { f with h := f.h + 1, i := f.p / N ^ (f.h + 1) }).2 = true then (staysX c { f with h := f.h + 1, i := f.p / N ^ (f.h + 1) }).1 else goUp c m { f with h := f.h + 1, i := f.p / N ^ (f.h + 1) } := by
  simp only [goUp, staysX, s.node, Int.toNat_natCast]
  split
  · rfl
  · split <;> rfl
theorem stays_not {c : Cf} {f : Ds} (h : (staysX c f).2 = false) : (staysX c f).1 = f := by
  unfold staysX at *
  split at h
  · simp at h
  · split at h
    · simp at h
    · rename_i h1 h2
      rw [if_neg h1, if_neg h2]

set_option maxRecDepth 100000 in
set_option maxHeartbeats 16000000 in
theorem pGoUpX_any {c : Cf} {C N K : Nat} (s : SzX c C N K) (A : Option Addr) (cp : Nat) (g : Nat) (f : Ds) (rk rv : Nat) (t : Bool) (hn : f.n ≤ C) (hh : f.h ≤ topX c) (hp : f.p < 256) (hk : f.kind = 4 ∨ f.kind = 5) (hg : g ≠ 1) (w : World) (hP : Pow w) (hs : StX c (.slice A (topX c + 1 : Nat) cp) g f rk rv t w) :
    Calls Tryd.prog 66 #[.pointer (some ⟨g, 0, none⟩)] w (TurnX c (.slice A (topX c + 1 : Nat) cp) g (climbX c f) rk rv t w) := by
  have t4 := topX_le c
  have hN1 := s.n1
  have HT := Lib.hid (fun W => pTopX_any c A (topX c) cp (by omega) W)
  have HA := Lib.hid (fun (f : Ds) hp hh W => pAboveX_any s (.slice A (topX c + 1 : Nat) cp) f hp hh W)
  have HY := Lib.hid (fun f hn hh hi hk W hP hs => pStaysX_any s (.slice A (topX c + 1 : Nat) cp) g f rk rv t hn hh hi hk W hP hs)
  have HG := Lib.hid (fun m f => goUp_stays s m f)
  have hst := hs
  unfold climbX
  obtain ⟨X, hX⟩ : ∃ X, goUp c (topX c - f.h) f = X := ⟨_, rfl⟩
  rw [hX]
  have HX := Lib.hid hX
  have HP := Lib.hid hP
  clear hX hP s
  unfold StX stO at hs
  have HS := Lib.hid hs
  have q0 := (Array.getElem?_eq_some_iff.1 hs).1
  obtain ⟨⟨r0, r1, r2, r3, r4, r5, r6, r7, r8, r9, r10, r11, r12, r13, r14, r15, r16, r17⟩, hf⟩ := cells18 hs
  clear hs
  obtain ⟨tg, k, seq, kind, a, b, pc, i, j, n, p, h, x, y⟩ := f
  simp only at hn hh hp hk HS HX r4 r5 r6 r7 r8 r9 r10 r11 r12 r13 r14
  unfold shX at HT HA
  unfold frv at HA
  generalize hTT : topX c = T at *
  go_enter Tryd.func66, Tryd.ntmps66
  go_wp2_with fail
  refine wp_scope_loop 0 (fun a' w' => ∃ (u1 u3 u4 u5 u6 u7 u8 u9 u10 u11 u12 u13 u14 u15 u16 u17 u18 u19 u20 u21 u22 u23 u24 u25 u26 u27 u28 u29 u30 u31 u32 u33 u34 u35 u36 u37 u38 u39 u40 u41 u42 u43 u44 u45 u46 u47 u48 u49 : Value), a' = { tmps := #[.pointer (some ⟨g, 0, none⟩), u1, .pointer (some ⟨g, 4, none⟩), u3, u4, u5, u6, u7, u8, u9, u10, u11, u12, u13, u14, u15, u16, u17, u18, u19, u20, u21, u22, u23, u24, u25, u26, u27, u28, u29, u30, u31, u32, u33, u34, u35, u36, u37, u38, u39, u40, u41, u42, u43, u44, u45, u46, u47, u48, u49], defers := [] } ∧ ∃ h' i' : Nat, h' ≤ T ∧ Hid (goUp c (T - h') ⟨tg, k, seq, kind, a, b, pc, i', j, n, p, h', x, y⟩ = X) ∧ StX c (.slice A (T + 1 : Nat) cp) g ⟨tg, k, seq, kind, a, b, pc, i', j, n, p, h', x, y⟩ rk rv t w' ∧ Only (fun k => k = g) w w') (fun _ w' => T - hOf g w') rfl ?_ ?_
  case refine_2 =>
    intro HR
    go_wp2_with fail
    go_step3
    rename_i KK hKK
    exact hKK _ _ (HR _ _ ⟨_, _, _, _, _, _, _, _, _, _, _, _, _, _, _, _, _, _, _, _, _, _, _, _, _, _, _, _, _, _, _, _, _, _, _, _, _, _, _, _, _, _, _, _, _, _, _, _, rfl, h, i, hh, HX, hst, Only.refl _ _⟩)
  case refine_1 =>
    clear HS HX r0 r1 r2 r3 r4 r5 r6 r7 r8 r9 r10 r11 r12 r13 r14 r15 r16 r17 hf q0 hh hst
    rintro a' w' ⟨u1, u3, u4, u5, u6, u7, u8, u9, u10, u11, u12, u13, u14, u15, u16, u17, u18, u19, u20, u21, u22, u23, u24, u25, u26, u27, u28, u29, u30, u31, u32, u33, u34, u35, u36, u37, u38, u39, u40, u41, u42, u43, u44, u45, u46, u47, u48, u49, rfl, h', i', hh', HX, hs, ho⟩
    have HO := Lib.hid ho
    have HP1 := Lib.hid (HP.out.only ho hg)
    clear ho
    unfold StX stO at hs
    simp only at hs
    have HS := Lib.hid hs
    have q0 := (Array.getElem?_eq_some_iff.1 hs).1
    obtain ⟨⟨r0, r1, r2, r3, r4, r5, r6, r7, r8, r9, r10, r11, r12, r13, r14, r15, r16, r17⟩, hf⟩ := cells18 hs
    clear hs
    have hof : hOf g w' = h' := by unfold hOf; rw [r12]; rfl
    rw [hof]
    clear hof
    go_wp2_with fail
    refine wp_region_quiet_reads (by kernel_rfl) (by kernel_rfl) fun HR => ?_
    repeat (go_big_quiet_step (first | with_reducible exact Calls.regrown_of (HT.out _)))
    refine wpQuiet_nil ?_
    intro Q1 hw'
    obtain ⟨⟨dq, osq⟩, hw''⟩ := hw'
    have hbq1 : Below w'.heap.size w' Q1 := by rw [hw'']; exact below_regrown _ dq osq
    clear hw'' HR dq osq r0 r1 r2 r3 r4 r5 r6 r7 r8 r9 r10 r11 r12 r13 r14 r15 r16 r17 hf q0
    have HQ1 := Lib.hid (blk_below HS.out hbq1)
    have hq := HQ1.out
    obtain ⟨⟨r0, r1, r2, r3, r4, r5, r6, r7, r8, r9, r10, r11, r12, r13, r14, r15, r16, r17⟩, hf⟩ := cells18 hq
    have q0 : g < Q1.heap.size := (Array.getElem?_eq_some_iff.1 hq).1
    clear hq
    have HO1 := Lib.hid (HO.out.trans (Only.of_below (fun k => k = g) hbq1))
    have HP2 := Lib.hid (HP1.out.below hbq1)
    clear hbq1 HO HP1
    by_cases hlt : h' < T
    · have l1 : ((h' : Int) == (T : Int)) = false := by simp; omega
      have w1 : IntKind.u8.wrap ((h' : Int) + 1) = (h' : Int) + 1 := by rw [IntKind.wrap_u8]; omega
      have HX2 := HX.out
      rw [show T - h' = T - (h' + 1) + 1 from by omega, HG.out] at HX2
      have HX3 := Lib.hid HX2
      clear HX2 HX
      go_upto_region 6 with fail
      refine entSet HQ1.out rfl fun W4 G4 o4 => ?_
      have HO4 := Lib.hid (HO1.out.trans o4)
      have HP4 := Lib.hid (HP2.out.only o4 hg)
      have HG4 := Lib.hid G4
      clear o4 G4 HQ1 HO1 HP2 w1 l1 r0 r1 r2 r3 r4 r5 r6 r7 r8 r9 r10 r11 r12 r13 r14 r15 r16 r17 hf q0
      have hs4 := HG4.out
      have q0 := (Array.getElem?_eq_some_iff.1 hs4).1
      obtain ⟨⟨r0, r1, r2, r3, r4, r5, r6, r7, r8, r9, r10, r11, r12, r13, r14, r15, r16, r17⟩, hf⟩ := cells18 hs4
      clear hs4
      have HAh := Lib.hid (fun W => HA.out ⟨tg, k, seq, kind, a, b, pc, i', j, n, p, h' + 1, x, y⟩ hp (by simp only; omega) W)
      have hq256 : p / N ^ (h' + 1) < 256 := Nat.lt_of_le_of_lt (Nat.div_le_self _ _) hp
      simp only at HAh
      generalize p / N ^ (h' + 1) = q at *
      have wq : IntKind.u8.wrap (q : Int) = (q : Int) := by rw [IntKind.wrap_u8]; omega
      rw [show (((h' + 1 : Nat)) : Int) = (h' : Int) + 1 from by push_cast; rfl] at HAh
      refine wp_region_tail_reads 12 (by kernel_rfl) (by kernel_rfl) fun HRD => ?_
      simp only [List.take_succ_cons, List.take_zero, List.drop_succ_cons, List.drop_zero]
      repeat (go_big_quiet_step (first | with_reducible exact Calls.regrown_of (HAh.out _)))
      refine wpQuiet_nil ?_
      intro Q5 hw'
      obtain ⟨⟨dq, osq⟩, hw''⟩ := hw'
      have hbq5 : Below W4.heap.size W4 Q5 := by rw [hw'']; exact below_regrown _ dq osq
      clear hw'' HRD dq osq r0 r1 r2 r3 r4 r5 r6 r7 r8 r9 r10 r11 r12 r13 r14 r15 r16 r17 hf q0
      have hs5 := blk_below HG4.out hbq5
      have HO5 := Lib.hid (HO4.out.trans (Only.of_below (fun k => k = g) hbq5))
      have HP5 := Lib.hid (HP4.out.below hbq5)
      clear hbq5 HO4 HP4 HG4
      have HS5 := Lib.hid hs5
      have q0 := (Array.getElem?_eq_some_iff.1 hs5).1
      obtain ⟨⟨r0, r1, r2, r3, r4, r5, r6, r7, r8, r9, r10, r11, r12, r13, r14, r15, r16, r17⟩, hf⟩ := cells18 hs5
      clear hs5
      go_upto_region 7 with fail
      refine entSet HS5.out rfl fun W6 G6 o6 => ?_
      have HO6 := Lib.hid (HO5.out.trans o6)
      have HP6 := Lib.hid (HP5.out.only o6 hg)
      have HS6 := Lib.hid G6
      clear o6 G6 HS5 HO5 HP5 wq r0 r1 r2 r3 r4 r5 r6 r7 r8 r9 r10 r11 r12 r13 r14 r15 r16 r17 hf q0
      have HYh := Lib.hid (fun W hP hs => HY.out ⟨tg, k, seq, kind, a, b, pc, q, j, n, p, h' + 1, x, y⟩ hn (by simp only; omega) hq256 (by rcases hk with rfl | rfl <;> simp) W hP hs)
      have HN := Lib.hid (fun e => stays_not (c := c) (f := ⟨tg, k, seq, kind, a, b, pc, q, j, n, p, h' + 1, x, y⟩) e)
      have HX4 := HX3.out
      simp only at HX4
      clear HX3 HY HA HAh HT
      obtain ⟨R, hR⟩ : ∃ R, staysX c ⟨tg, k, seq, kind, a, b, pc, q, j, n, p, h' + 1, x, y⟩ = R := ⟨_, rfl⟩
      rw [hR] at HX4 HYh HN
      obtain ⟨R1, R2⟩ := R
      have HX5 := Lib.hid HX4
      clear HX4 hR
      cases R2 with
      | true =>
        have HX6 := HX5.out
        rw [if_pos rfl] at HX6
        simp only at HX6
        subst HX6
        go_wp2_with (go_at_call 109; refine (HYh.out _ HP6.out (by unfold StX; exact HS6.out)).mono ?_; rintro e W7 ⟨rfl, h7, o7⟩)
        show bodyPost _ _ _ Exit.normal _ _
        exact bodyPost_end (results_none rfl _ _ _) rfl ⟨rfl, h7, HO6.out.trans o7⟩
      | false =>
        have HX6 := HX5.out
        rw [if_neg (by simp)] at HX6
        have hr1 := HN.out rfl
        simp only at hr1
        subst hr1
        go_wp2_with (go_at_call 109; refine (HYh.out _ HP6.out (by unfold StX; exact HS6.out)).mono ?_; rintro e W7 ⟨rfl, h7, o7⟩)
        go_step3
        change Exit.jump 0 _ _ (Exit.goto 0) _ _
        have hof : hOf g W7 = h' + 1 := by
          unfold StX stO at h7
          unfold hOf
          rw [(cells18 h7).1.2.2.2.2.2.2.2.2.2.2.2.2.1]
          rfl
        exact ⟨rfl, ⟨_, _, _, _, _, _, _, _, _, _, _, _, _, _, _, _, _, _, _, _, _, _, _, _, _, _, _, _, _, _, _, _, _, _, _, _, _, _, _, _, _, _, _, _, _, _, _, _, rfl, h' + 1, q, by omega, Lib.hid HX6, h7, HO6.out.trans o7⟩, by rw [hof]; omega⟩
    · obtain rfl : h' = T := by omega
      have HX2 := HX.out
      rw [show h' - h' = 0 from by omega] at HX2
      unfold goUp at HX2
      simp only at HX2
      have b1 : ((h' : Int) == (h' : Int)) = true := by simp
      rcases hk with rfl | rfl
      · rw [if_pos rfl] at HX2
        subst HX2
        have qk : ((4 : Nat) : Int) = 4 := rfl
        rw [qk] at *
        clear qk
        go_wp2_with fail
        show bodyPost _ _ _ Exit.ret _ _
        refine bodyPost_ret (results_none rfl _ _ _) rfl ⟨rfl, ?_, ?_⟩
        · unfold StX
          with_reducible first | refine st_of HQ1.out ?_ | refine st_of (bk_store HQ1.out _ _) ?_ | refine st_of (bk_store (bk_store HQ1.out _ _) _ _) ?_ | refine st_of (bk_store (bk_store (bk_store HQ1.out _ _) _ _) _ _) ?_ | refine st_of (bk_store (bk_store (bk_store (bk_store HQ1.out _ _) _ _) _ _) _ _) ?_ | refine st_of (bk_store (bk_store (bk_store (bk_store (bk_store HQ1.out _ _) _ _) _ _) _ _) _ _) ?_ | refine st_of (bk_drew HQ1.out) ?_ | refine st_of (bk_drew (bk_store HQ1.out _ _)) ?_ | refine st_of (bk_drew (bk_store (bk_store HQ1.out _ _) _ _)) ?_ | refine st_of (bk_drew (bk_store (bk_store (bk_store HQ1.out _ _) _ _) _ _)) ?_ | refine st_of (bk_drew (bk_store (bk_store (bk_store (bk_store HQ1.out _ _) _ _) _ _) _ _)) ?_ | refine st_of (bk_drew (bk_store (bk_store (bk_store (bk_store (bk_store HQ1.out _ _) _ _) _ _) _ _) _ _)) ?_ | refine st_of (bk_drew (bk_drew HQ1.out)) ?_ | refine st_of (bk_drew (bk_drew (bk_store HQ1.out _ _))) ?_ | refine st_of (bk_drew (bk_drew (bk_store (bk_store HQ1.out _ _) _ _))) ?_ | refine st_of (bk_drew (bk_drew (bk_store (bk_store (bk_store HQ1.out _ _) _ _) _ _))) ?_ | refine st_of (bk_drew (bk_drew (bk_store (bk_store (bk_store (bk_store HQ1.out _ _) _ _) _ _) _ _))) ?_ | refine st_of (bk_drew (bk_drew (bk_store (bk_store (bk_store (bk_store (bk_store HQ1.out _ _) _ _) _ _) _ _) _ _))) ?_
          rfl
        · repeat' (first | with_reducible exact HO1.out | with_reducible refine Only.drew ?_ | with_reducible refine only_set ?_ _ _)
      · rw [if_neg (by decide)] at HX2
        subst HX2
        have qk : ((5 : Nat) : Int) = 5 := rfl
        rw [qk] at *
        clear qk
        go_wp2_with fail
        show bodyPost _ _ _ Exit.ret _ _
        refine bodyPost_ret (results_none rfl _ _ _) rfl ⟨rfl, ?_, ?_⟩
        · unfold StX
          with_reducible first | refine st_of HQ1.out ?_ | refine st_of (bk_store HQ1.out _ _) ?_ | refine st_of (bk_store (bk_store HQ1.out _ _) _ _) ?_ | refine st_of (bk_store (bk_store (bk_store HQ1.out _ _) _ _) _ _) ?_ | refine st_of (bk_store (bk_store (bk_store (bk_store HQ1.out _ _) _ _) _ _) _ _) ?_ | refine st_of (bk_store (bk_store (bk_store (bk_store (bk_store HQ1.out _ _) _ _) _ _) _ _) _ _) ?_ | refine st_of (bk_drew HQ1.out) ?_ | refine st_of (bk_drew (bk_store HQ1.out _ _)) ?_ | refine st_of (bk_drew (bk_store (bk_store HQ1.out _ _) _ _)) ?_ | refine st_of (bk_drew (bk_store (bk_store (bk_store HQ1.out _ _) _ _) _ _)) ?_ | refine st_of (bk_drew (bk_store (bk_store (bk_store (bk_store HQ1.out _ _) _ _) _ _) _ _)) ?_ | refine st_of (bk_drew (bk_store (bk_store (bk_store (bk_store (bk_store HQ1.out _ _) _ _) _ _) _ _) _ _)) ?_ | refine st_of (bk_drew (bk_drew HQ1.out)) ?_ | refine st_of (bk_drew (bk_drew (bk_store HQ1.out _ _))) ?_ | refine st_of (bk_drew (bk_drew (bk_store (bk_store HQ1.out _ _) _ _))) ?_ | refine st_of (bk_drew (bk_drew (bk_store (bk_store (bk_store HQ1.out _ _) _ _) _ _))) ?_ | refine st_of (bk_drew (bk_drew (bk_store (bk_store (bk_store (bk_store HQ1.out _ _) _ _) _ _) _ _))) ?_ | refine st_of (bk_drew (bk_drew (bk_store (bk_store (bk_store (bk_store (bk_store HQ1.out _ _) _ _) _ _) _ _) _ _))) ?_
          rfl
        · repeat' (first | with_reducible exact HO1.out | with_reducible refine Only.drew ?_ | with_reducible refine only_set ?_ _ _)
end Go.Proofs.YtmkehailohgebaaDoor
