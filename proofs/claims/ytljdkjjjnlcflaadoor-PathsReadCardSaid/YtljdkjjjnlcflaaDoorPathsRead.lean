/- For any config, rows, setting and another operation: what is set is read, also behind the other operation if it is of another path; and none but the rows of that path, and of those above it, are new, or others. Condition: the table of objects holds at the call's start what the program's text lays there (the tied card). -/
import Derived.Test.YtljdkjjjnlcflaaDoorPaLive
import Derived.Test.YtljdkjjjnlcflaaDoorLaw
import Derived.Test.YtljdkjjjnlcflaaDoorOpenOp
import Derived.Test.YtljdkjjjnlcflaaDoorOpenCfg
import Derived.Test.YtljdkjjjnlcflaaDoorOpenRow
import Derived.Deep.DeepCutAuto
import Derived.Deep.RegionHeld3
namespace Go.Proofs.YtljdkjjjnlcflaaDoor.pathsRead
open Go.ChangeShapes Go.WideShapes Go.ChangeAt Go.RowKit Pt Opn Tb

/-- The reading of o's path. -/
def rd (o : O) : O := ⟨14, o.a, o.b, 0⟩
theorem facts (c : Cf) (l : List R) (o o2 : O) (ho : Wf o) (ho2 : Wf o2) (hk : o.k = 12) (he : doPE c l = 0) (hx : (doPR c l o).2.1 = 0) :
    (∀ (i : Nat) (h : i < (doPR c l o).1.length), (fnd l ((doPR c l o).1[i]).1 = -1 ∧ ((doPR c l o).1[i]).1 ∈ ups 3 (pth o)) ∨ (∃ j : Nat, ∃ g : j < l.length, fnd l ((doPR c l o).1[i]).1 = j ∧ (l[j].2 = ((doPR c l o).1[i]).2 ∨ ((doPR c l o).1[i]).1 = pth o))) ∧
    l.length ≤ (doPR c l o).1.length ∧ doPE c (doPR c l o).1 = 0 ∧ doPR c (doPR c l o).1 (rd o) = ((doPR c l o).1, 0, ((o.c + 1 : Nat) : Int)) ∧ o.c ≤ 2147483647 ∧
    doPE c (doPR c (doPR c l o).1 o2).1 = 0 ∧ ((o2.a = o.a ∧ o2.b = o.b) ∨ (¬ (o2.a = o.a ∧ o2.b = o.b) ∧ ∃ z, doPR c (doPR c (doPR c l o).1 o2).1 (rd o) = (z, 0, ((o.c + 1 : Nat) : Int)))) ∧
    (∀ x ∈ (doPR c l o).1, x.1 < 18446744073709551616) ∧ ∀ x ∈ (doPR c (doPR c l o).1 o2).1, x.1 < 18446744073709551616 := by
  rcases doPE_cases c l with ⟨_, ht⟩ | ⟨h, _⟩
  · obtain ⟨hp, hc, hr⟩ := set_done ht hk hx
    have hu := ht.2.2.2.1
    have ht2 := doPR_tab o ho ht
    rw [hr] at ht2 ⊢
    have hu2 := ht2.2.2.2.1
    have hgp : Tb.get (setR l (pth o) o.c) (pth o) = some (o.c + 1) := by rw [get_set hu, if_pos rfl]
    have ht3 := doPR_tab o2 ho2 ht2
    have hrd : pth ⟨14, o.a, o.b, 0⟩ = pth o := by unfold pth; rfl
    refine ⟨fun i hi => ?_, ?_, ndpE ht2, ans_read ht2 (a := o.a) (b := o.b) (u := o.c) hp (by rw [hrd]; exact hgp), hc, ndpE ht3, ?_, fun x hx => ?_, fun x hx => ?_⟩
    · have hmem : ∀ x ∈ setR l (pth o) o.c, Tb.get (setR l (pth o) o.c) x.1 = some x.2 := fun x hx => get_of hu2 hx
      have hg := hmem _ (List.getElem_mem hi)
      generalize (setR l (pth o) o.c)[i] = z at *
      rw [get_set hu] at hg
      rcases fnd_get l z.1 with ⟨h1, h2⟩ | ⟨j, hj, h1, _, h2⟩
      · refine .inl ⟨h1, ?_⟩
        rw [h2] at hg
        split at hg
        · rename_i e
          rw [e]
          exact ups_self (pth_path ho hp).2.1
        · simp only at hg
          split at hg
          · assumption
          · cases hg
      · refine .inr ⟨j, hj, h1, ?_⟩
        rw [h2] at hg
        split at hg
        · rename_i e
          exact .inr e
        · simp only at hg
          exact .inl (Option.some.inj hg)
    · rw [len_set hu (pth_path ho hp).2.1]
      exact (len_mk 3 l (pth o) hu).2
    · by_cases e : o2.a = o.a ∧ o2.b = o.b
      · exact .inl e
      · refine .inr ⟨e, _, ans_read ht3 (a := o.a) (b := o.b) (u := o.c) hp ?_⟩
        rw [hrd]
        exact other_stays ht2 o2 hgp fun hp2 h => e (pth_same ho2 ho hp2 hp h)
    · have := (ht2.2.2.2.2 x hx).1.1; unfold IsPa at this; omega
    · have := (ht3.2.2.2.2 x hx).1.1; unfold IsPa at this; omega
  · exact absurd he h

set_option maxRecDepth 100000 in
set_option maxHeartbeats 16000000 in
theorem walk (c : Cf) (A : Option Addr) (d : Nat) (l : List R) (o : O) (ho : Wf o) (o2 : O) (ho2 : Wf o2) (_ : l.length ≤ d ∧ d ≤ 9223372036854775807) (hA : A = none → l.length = 0 ∧ d = 0) (hw64 : ∀ x ∈ l, x.1 < 18446744073709551616) (w : World) (hp : Obs w) (h : IsR w A l) :
    Calls Tryd.prog 7 #[cfv c, .slice A l.length d, opv o, opv o2] w (Ret (.bool true) w) := by
  have HL := Lib.hid h
  have HP := Lib.hid hp
  by_cases hn : 100 < l.length
  · have hn2 : (100 : Int) < (l.length : Int) := by omega
    clear h hA hp hw64
    generalize l.length = N at *
    unfold cfv opv
    go_enter Tryd.func7, Tryd.ntmps7
    go_wp2_with fail
    refine (palive_any _ (HP.out.below (below_three _ _ _ _))).mono ?_
    rintro e w1 ⟨rfl, hb1⟩
    go_wp2
    go_ret
    exact Ret.mk rfl (below_then (below_three _ _ _ _) hb1)
  · have hn2 : ¬ (100 : Int) < (l.length : Int) := by omega
    by_cases hk : o.k = 12
    · have hk2 : (o.k : Int) = 12 := by omega
      have HDo := Lib.hid (fun W hW hl => pdo_any c A l d o ho hA (by omega) hw64 W hW hl)
      have HF := Lib.hid (facts c l o o2 ho ho2 hk)
      have hDr := fun B (m : List R) e hB hm hw W hW hl => pdo_any c B m e (rd o) (by unfold rd; unfold Wf at *; simp only; omega) hB hm hw W hW hl
      have hDt := fun B (m : List R) e hB hm hw W hW hl => pdo_any c B m e o2 ho2 hB hm hw W hW hl
      have HPT := Lib.hid (pPath_any o ho)
      have HFi := Lib.hid (fun K W hl => rFind_any A l d (by omega) K W hl)
      have HPar := Lib.hid (fun q (hq : q < 18446744073709551616) W => pParent_any q hq W)
      have HWo := Lib.hid (And.intro ho ho2)
      have hlen := doPR_len c l o
      have hpl : pth o < 18446744073709551616 := by have := ho.2.1; have := ho.2.2.1; unfold pth; omega
      generalize pth o = p at *
      generalize hre : doPE c l = er at *
      generalize hrs : doPR c l o = s at *
      obtain ⟨rows, x, y⟩ := s
      simp only at hlen HF
      have hl104 : rows.length ≤ 104 := by omega
      clear h hp hA ho ho2 hlen hw64 hre hrs
      have hDo := HDo.out
      have hPT := HPT.out
      unfold Did4 resv at hDo hDr hDt
      simp only at hDo
      unfold cfv opv at hDo hPT hDr hDt ⊢
      rw [show (rd o).k = 14 from rfl, show (rd o).a = o.a from rfl, show (rd o).b = o.b from rfl, show (rd o).c = 0 from rfl] at hDr
      have HDr := Lib.hid hDr
      have HDt := Lib.hid hDt
      clear hDr hDt
      simp only [hk2] at hDo hPT ⊢
      have HDo1 := Lib.hid hDo
      have HPT1 := Lib.hid hPT
      clear HDo hDo HPT hPT
      go_enter Tryd.func7, Tryd.ntmps7
      go_wp2_with fail
      refine (palive_any _ (HP.out.below (below_three _ _ _ _))).mono ?_
      rintro e w1 ⟨rfl, hb1⟩
      have HB1 := Lib.hid (below_then (below_three _ _ _ _) hb1)
      obtain ⟨q, hq⟩ : ∃ q, w.heap.size = q := ⟨_, rfl⟩
      have hq1 : q + 3 ≤ w1.heap.size := by have := hb1.size; simp at this; omega
      have HC := Lib.hid (show w1.heap[q]? = some (.cells #[.int .u8 c.obj, .int .i64 c.inst, .int .i64 c.thr, .int .u8 c.kind, .int .i64 c.str, .int .i64 c.bits, .int .i64 c.cap, .int .i64 c.node, .int .i64 c.bat, .int .i64 c.chunk, .int .u64 c.lim, .int .u64 c.most] 33 (0, 0)) from by
        rw [← hq]
        exact (hb1.block _ (by simp; omega)).trans ((heap_alloc_old _ _ (by simp; omega)).trans ((heap_alloc_old _ _ (by simp)).trans (heap_alloc_new w _))))
      have HO := Lib.hid (show w1.heap[q + 1]? = some (.cells #[.int .u8 12, .int .u32 o.a, .int .u32 o.b, .int .u32 o.c] 35 (0, 0)) from by
        rw [← hq]
        exact (hb1.block _ (by simp)).trans ((heap_alloc_old _ _ (by simp)).trans (by simpa using heap_alloc_new (w.alloc (.cells #[.int .u8 c.obj, .int .i64 c.inst, .int .i64 c.thr, .int .u8 c.kind, .int .i64 c.str, .int .i64 c.bits, .int .i64 c.cap, .int .i64 c.node, .int .i64 c.bat, .int .i64 c.chunk, .int .u64 c.lim, .int .u64 c.most] 33)) (.cells #[.int .u8 12, .int .u32 o.a, .int .u32 o.b, .int .u32 o.c] 35))))
      have HO2 := Lib.hid (show w1.heap[q + 2]? = some (.cells #[.int .u8 o2.k, .int .u32 o2.a, .int .u32 o2.b, .int .u32 o2.c] 35 (0, 0)) from by
        rw [← hq]
        exact (hb1.block _ (by simp)).trans (by simpa using heap_alloc_new ((w.alloc (.cells #[.int .u8 c.obj, .int .i64 c.inst, .int .i64 c.thr, .int .u8 c.kind, .int .i64 c.str, .int .i64 c.bits, .int .i64 c.cap, .int .i64 c.node, .int .i64 c.bat, .int .i64 c.chunk, .int .u64 c.lim, .int .u64 c.most] 33)).alloc (.cells #[.int .u8 12, .int .u32 o.a, .int .u32 o.b, .int .u32 o.c] 35)) (.cells #[.int .u8 o2.k, .int .u32 o2.a, .int .u32 o2.b, .int .u32 o2.c] 35)))
      have f0 := cell_of HC.out 0 rfl
      have f1 := cell_of HC.out 1 rfl
      have f2 := cell_of HC.out 2 rfl
      have f3 := cell_of HC.out 3 rfl
      have f4 := cell_of HC.out 4 rfl
      have f5 := cell_of HC.out 5 rfl
      have f6 := cell_of HC.out 6 rfl
      have f7 := cell_of HC.out 7 rfl
      have f8 := cell_of HC.out 8 rfl
      have f9 := cell_of HC.out 9 rfl
      have f10 := cell_of HC.out 10 rfl
      have f11 := cell_of HC.out 11 rfl
      have z0 := cell_of HO.out 0 rfl
      have z1 := cell_of HO.out 1 rfl
      have z2 := cell_of HO.out 2 rfl
      have z3 := cell_of HO.out 3 rfl
      have HQ := Lib.hid hq
      rw [hq]
      clear hb1 hq
      go_wp2_with fail
      refine (HDo1.out w1 (HP.out.below HB1.out) (HL.out.below HB1.out)).mono ?_
      rintro e w3 ⟨u, rfl, hM3, hb3⟩
      obtain ⟨Aa, da, rfl, _, hAa, hLa⟩ := MadeX.form rowL_len hM3
      have bb := below_then hb3 (below_one w3 (.cells #[.int .i64 x, .int .u32 y, .slice none 0 0] 29))
      have HLa := Lib.hid (hLa.below (below_one w3 (.cells #[.int .i64 x, .int .u32 y, .slice none 0 0] 29)))
      have HAa := Lib.hid hAa
      have HC3 := Lib.hid (cell_below HC.out bb)
      have HO3 := Lib.hid (cell_below HO.out bb)
      have HO23 := Lib.hid (cell_below HO2.out bb)
      have HB3 := Lib.hid (below_then HB1.out bb)
      clear f0 f1 f2 f3 f4 f5 f6 f7 f8 f9 f10 f11 z0 z1 z2 z3 hM3 hLa hAa HC HO HO2 HDo1
      by_cases he : er = 0
      · by_cases hx : x = 0
        · obtain ⟨k1, k2, k3, k4, k5, k6, k7, k8, k9⟩ := HF.out he hx
          subst he hx
          obtain ⟨oc1, hoc⟩ : ∃ z, o.c + 1 = z := ⟨_, rfl⟩
          rw [hoc] at k4 k7
          have HOC := Lib.hid hoc
          clear hoc
          have K1 := Lib.hid k1
          have HL2 := Lib.hid (doPR_len c rows o2)
          have K7 := Lib.hid k7
          have K8 := Lib.hid k8
          have K9 := Lib.hid k9
          have K46 := Lib.hid (And.intro k3 (And.intro k4 k6))
          clear HF k1 k3 k4 k6 k7 k8 k9
          obtain ⟨W4, hW4⟩ : ∃ X, X = w3.alloc (.cells #[.int .i64 0, .int .u32 y, .slice none 0 0] 29) := ⟨_, rfl⟩
          rw [← hW4] at HC3 HO3 HO23 HB3 HLa
          have HWW := Lib.hid hW4
          clear hW4 bb hb3
          obtain ⟨M, hM⟩ : ∃ M, rows.length = M := ⟨_, rfl⟩
          have HM := Lib.hid hM
          rw [hM] at hl104 k2 ⊢
          clear hM
          have mixed : Tryd.prog.follows Departure.mixedOrders = true := by kernel_rfl
          go_wp2_with fail
          rw [← HWW.out]
          go_loopw [13] (fun iv wr => Below W4.heap.size W4 wr ∧ ∃ j : Nat, j ≤ M ∧ iv = .int .i64 j) (fun iv _ => M - (intOf iv).toNat)
          case atStart => exact ⟨Below.refl _ _, 0, Nat.zero_le _, rfl⟩
          case round =>
            obtain ⟨hbr, j, hj, rfl⟩ := hrel
            have i5 : (0 : Int) ≤ (j : Int) := by omega
            by_cases hlt : j < M
            · have j1 : j < rows.length := by rw [HM.out]; exact hlt
              have i6 : (j : Int) < (M : Int) := by omega
              have hkk := K1.out j j1
              obtain ⟨bk, off, rfl, h1, h2⟩ := HLa.out.row j1
              replace h1 := (hbr.cell (World.block_lt_of_cell? _ _ h1)).trans h1
              replace h2 := (hbr.cell (World.block_lt_of_cell? _ _ h2)).trans h2
              have hwq := K8.out _ (List.getElem_mem j1)
              obtain ⟨q1, e1⟩ : ∃ q, rows[j].1 = q := ⟨_, rfl⟩
              obtain ⟨q2, e2⟩ : ∃ q, rows[j].2 = q := ⟨_, rfl⟩
              rw [e1] at h1 hwq hkk
              rw [e2] at h2 hkk
              have HKK := Lib.hid hkk
              have HF1 := Lib.hid (fun W hl => HFi.out q1 W hl)
              obtain ⟨fz, hfz⟩ : ∃ f, fnd l q1 = f := ⟨_, rfl⟩
              rw [hfz] at HF1 HKK
              have hbk := World.block_lt_of_cell? _ _ h1
              clear hkk e1 e2 hfz
              go_wp2_with fail
              refine (HF1.out _ (HL.out.below (below_then HB3.out hbr))).mono ?_
              rintro e w5 ⟨rfl, hb5⟩
              replace h1 := (hb5.cell hbk).trans h1
              replace h2 := (hb5.cell (p := ⟨bk, _, none⟩) hbk).trans h2
              have hbr5 := below_then hbr hb5
              replace hbk : bk < w5.heap.size := World.block_lt_of_cell? _ _ h1
              have HO5 := Lib.hid (cell_below HO3.out hbr5)
              have z0 := cell_of HO5.out 0 rfl
              have z1 := cell_of HO5.out 1 rfl
              have z2 := cell_of HO5.out 2 rfl
              have z3 := cell_of HO5.out 3 rfl
              clear hb5 HF1
              go_wp2_with fail
              refine (HPT1.out _).mono ?_
              rintro e w6 ⟨rfl, hb6⟩
              replace h1 := (hb6.cell hbk).trans h1
              replace h2 := (hb6.cell (p := ⟨bk, _, none⟩) hbk).trans h2
              have hbr6 := below_then hbr5 hb6
              replace hbk : bk < w6.heap.size := World.block_lt_of_cell? _ _ h1
              clear hb6 hbr5 HO5 z0 z1 z2 z3 hbr
              go_wp2_with fail
              go_loopw [15, 16] (fun kv zv wx => Below w6.heap.size w6 wx ∧ ∃ n kk : Nat, ∃ z : Bool, kk < 18446744073709551616 ∧ kv = .int .u64 kk ∧ zv = .bool z ∧ Hid (Chain n kk ∧ ((z = true ∨ q1 ∈ ups n kk) ↔ q1 ∈ ups 3 p))) (fun kv _ _ => (intOf kv).toNat)
              case atStart => exact ⟨Below.refl _ _, 3, p, false, hpl, rfl, rfl, Lib.hid ⟨chain_three p, by simp⟩⟩
              case round =>
                obtain ⟨hbx, n, kk, z, hkk, rfl, rfl, HZ⟩ := hrel
                by_cases hk0 : kk = 0
                · subst hk0
                  have HZ2 := Lib.hid (show z = true ↔ q1 ∈ ups 3 p by
                    rw [← HZ.out.2]
                    have : ups n 0 = [] := by cases n <;> simp [ups]
                    rw [this]; simp)
                  have hb7 := below_then hbr6 hbx
                  replace h1 := (hbx.cell hbk).trans h1
                  replace h2 := (hbx.cell (p := ⟨bk, _, none⟩) hbk).trans h2
                  replace hbk : bk < wr.heap.size := World.block_lt_of_cell? _ _ h1
                  clear HZ hbx hbr6
                  have HO7 := Lib.hid (cell_below HO3.out hb7)
                  have hq7 := World.block_lt_of_cell? _ _ (cell_of HO7.out 0 rfl)
                  have z0 := cell_of HO7.out 0 rfl
                  have z1 := cell_of HO7.out 1 rfl
                  have z2 := cell_of HO7.out 2 rfl
                  have z3 := cell_of HO7.out 3 rfl
                  have HLX := Lib.hid (HL.out.below (below_then HB3.out hb7))
                  go_wp2_with fail
                  rcases HKK.out with ⟨rfl, hm⟩ | ⟨i, hi, rfl, hv⟩
                  · obtain rfl := HZ2.out.2 hm
                    have hge1 : decide ((-1 : Int) ≥ 0) = false := rfl
                    have hge2 : ((-1 : Int) ≥ 0) = False := by simp
                    have hge3 : ((0 : Int) ≤ -1) = False := by simp
                    have hge4 : ((-1 : Int) < 0) = True := by simp
                    clear HKK HZ2 HLX
                    have HBX := Lib.hid (fun d os => below_regrown wr d os)
                    have HRD := Lib.hid (And.intro i5 hlt)
                    refine wp_region_quiet_below (by kernel_rfl) (by kernel_rfl) ?_
                    repeat (go_big_quiet_step (fail))
                    refine wpQuiet_nil ?_
                    intro _ hw'
                    obtain ⟨⟨dq, osq⟩, hw''⟩ := hw'
                    subst hw''
                    go_wp2
                    go_roundw
                    case rel => exact ⟨below_then hb7 (HBX.out dq osq), j + 1, by omega, by go_num⟩
                    case measure => simp [intOf]; omega
                  · obtain ⟨bl, ol, rfl, y1, y2⟩ := HLX.out.row hi
                    obtain ⟨v, hvv⟩ : ∃ v, l[i].2 = v := ⟨_, rfl⟩
                    rw [hvv] at y2 hv
                    have hi1 : ¬ (i : Int) < 0 := by omega
                    have hi2 : (i : Int) ≥ 0 := by omega
                    have hi3 : (i : Int) < (l.length : Int) := by omega
                    have hbl := World.block_lt_of_cell? _ _ y2
                    clear HKK HZ2 HLX hvv y1
                    by_cases hvq : v = q2
                    · subst hvq
                      have hne : ((v : Int) != v) = false := bne_self_eq_false _
                      have HBX := Lib.hid (fun d os => below_regrown wr d os)
                      have g2 := cell_regrown h2
                      have g4 := cell_regrown y2
                      refine wp_region_quiet_below (by kernel_rfl) (by kernel_rfl) ?_
                      repeat (go_big_quiet_step (fail))
                      refine wpQuiet_nil ?_
                      intro _ hw'
                      obtain ⟨⟨dq, osq⟩, hw''⟩ := hw'
                      subst hw''
                      go_wp2
                      go_roundw
                      case rel => exact ⟨below_then hb7 (HBX.out dq osq), j + 1, by omega, by go_num⟩
                      case measure => simp [intOf]; omega
                    · obtain rfl : q1 = p := hv.resolve_left hvq
                      have hne : ((q2 : Int) != v) = true := bne_iff_ne.2 (by omega)
                      have hne2 : ((q1 : Int) != q1) = false := bne_self_eq_false _
                      have HBX := Lib.hid (fun d os => below_regrown wr d os)
                      have g1 := cell_regrown h1
                      have g2 := cell_regrown h2
                      have g4 := cell_regrown y2
                      have c0 := cell_regrown z0
                      have c1 := cell_regrown z1
                      have c2 := cell_regrown z2
                      have c3 := cell_regrown z3
                      refine wp_region_quiet_below (by kernel_rfl) (by kernel_rfl) ?_
                      repeat (go_big_quiet_step (fail))
                      go_big_quiet_step (exact Calls.regrown_of (HPT1.out _))
                      repeat (go_big_quiet_step (fail))
                      refine wpQuiet_nil ?_
                      intro _ hw'
                      obtain ⟨⟨dq, osq⟩, hw''⟩ := hw'
                      subst hw''
                      go_wp2
                      go_roundw
                      case rel => exact ⟨below_then hb7 (HBX.out dq osq), j + 1, by omega, by go_num⟩
                      case measure => simp [intOf]; omega
                · have hk3 : ((kk : Int) != 0) = true := bne_iff_ne.2 (by omega)
                  obtain ⟨m, rfl⟩ : ∃ m, n = m + 1 := by
                    cases n with
                    | zero => exact absurd HZ.out.1 hk0
                    | succ m => exact ⟨m, rfl⟩
                  have hch : Chain m (par kk) := HZ.out.1.resolve_left hk0
                  have hiff := HZ.out.2
                  rw [ups, if_neg hk0, List.mem_cons] at hiff
                  have hlt2 := par_lt hk0
                  have HPx := Lib.hid (HPar.out kk hkk)
                  have HCH := Lib.hid (And.intro hch hiff)
                  generalize par kk = pk at *
                  clear hch hiff HZ
                  replace h1 := (hbx.cell hbk).trans h1
                  have hbk2 := World.block_lt_of_cell? _ _ h1
                  cases z with
                  | true =>
                    go_wp2_with fail
                    refine (HPx.out _).mono ?_
                    rintro e w7 ⟨rfl, hb7⟩
                    go_wp2
                    go_roundw
                    case rel => exact ⟨below_then hbx hb7, m, pk, true, by omega, rfl, rfl, Lib.hid ⟨HCH.out.1, by rw [← HCH.out.2]; simp⟩⟩
                    case measure => simp [intOf]; omega
                  | false =>
                    go_wp2_with fail
                    refine (HPx.out _).mono ?_
                    rintro e w7 ⟨rfl, hb7⟩
                    go_wp2
                    go_roundw
                    case rel => exact ⟨below_then hbx hb7, m, pk, _, by omega, rfl, rfl, Lib.hid ⟨HCH.out.1, by
                      rw [← HCH.out.2]
                      by_cases hh : q1 = kk
                      · subst hh; simp
                      · have h2' : ¬ (q1 : Int) = (kk : Int) := by omega
                        simp [hh, h2']⟩⟩
                    case measure => simp [intOf]; omega
            · obtain rfl : j = M := by omega
              have HC5 := Lib.hid (cell_below HC3.out hbr)
              have HO5 := Lib.hid (cell_below HO3.out hbr)
              have HO25 := Lib.hid (cell_below HO23.out hbr)
              have HLa5 := Lib.hid (HLa.out.below hbr)
              have HB5 := Lib.hid (below_then HB3.out hbr)
              have z1 := cell_of HO5.out 1 rfl
              have z2 := cell_of HO5.out 2 rfl
              have b1 := below_one wr (.cells #[.int .u8 14, .int .u32 o.a, .int .u32 o.b, .int .u32 0] 35)
              have HOR := Lib.hid (heap_alloc_new wr (.cells #[.int .u8 14, .int .u32 o.a, .int .u32 o.b, .int .u32 0] 35))
              have f0 := cell_of (cell_below HC5.out b1) 0 rfl
              have f1 := cell_of (cell_below HC5.out b1) 1 rfl
              have f2 := cell_of (cell_below HC5.out b1) 2 rfl
              have f3 := cell_of (cell_below HC5.out b1) 3 rfl
              have f4 := cell_of (cell_below HC5.out b1) 4 rfl
              have f5 := cell_of (cell_below HC5.out b1) 5 rfl
              have f6 := cell_of (cell_below HC5.out b1) 6 rfl
              have f7 := cell_of (cell_below HC5.out b1) 7 rfl
              have f8 := cell_of (cell_below HC5.out b1) 8 rfl
              have f9 := cell_of (cell_below HC5.out b1) 9 rfl
              have f10 := cell_of (cell_below HC5.out b1) 10 rfl
              have f11 := cell_of (cell_below HC5.out b1) 11 rfl
              go_wp2_with fail
              clear f0 f1 f2 f3 f4 f5 f6 f7 f8 f9 f10 f11 z1 z2
              obtain ⟨g1, hg1⟩ : ∃ g, wr.heap.size = g := ⟨_, rfl⟩
              have HB6 := Lib.hid (below_then HB5.out b1)
              have HL6 := Lib.hid (HLa5.out.below b1)
              have hd := HDr.out Aa rows da HAa.out (by have := HM.out; omega) K8.out _ (HP.out.below HB6.out) HL6.out
              rw [K46.out.1, K46.out.2.1, HM.out] at hd
              refine hd.mono ?_
              rintro e v1 ⟨u1, rfl, hM1, hb1⟩
              have b2 := below_then (below_then b1 hb1) (below_one v1 (.cells #[.int .i64 0, .int .u32 (oc1 : Nat), .slice none 0 0] 29))
              have HOR7 := Lib.hid (cell_below HOR.out (below_then hb1 (below_one v1 (.cells #[.int .i64 0, .int .u32 (oc1 : Nat), .slice none 0 0] 29))))
              rw [hg1] at HOR7
              try rw [hg1]
              have HC7 := Lib.hid (cell_below HC5.out b2)
              have HO7 := Lib.hid (cell_below HO5.out b2)
              have HO27 := Lib.hid (cell_below HO25.out b2)
              have HL7 := Lib.hid (HLa5.out.below b2)
              have HB7 := Lib.hid (below_then HB5.out b2)
              have HR7 := Lib.hid (heap_alloc_new v1 (.cells #[.int .i64 0, .int .u32 (oc1 : Nat), .slice none 0 0] 29))
              clear hM1 hb1 b1 HB6 HL6 HOR hd b2
              have f0 := cell_of HC7.out 0 rfl
              have f1 := cell_of HC7.out 1 rfl
              have f2 := cell_of HC7.out 2 rfl
              have f3 := cell_of HC7.out 3 rfl
              have f4 := cell_of HC7.out 4 rfl
              have f5 := cell_of HC7.out 5 rfl
              have f6 := cell_of HC7.out 6 rfl
              have f7 := cell_of HC7.out 7 rfl
              have f8 := cell_of HC7.out 8 rfl
              have f9 := cell_of HC7.out 9 rfl
              have f10 := cell_of HC7.out 10 rfl
              have f11 := cell_of HC7.out 11 rfl
              have t0 := cell_of HO27.out 0 rfl
              have t1 := cell_of HO27.out 1 rfl
              have t2 := cell_of HO27.out 2 rfl
              have t3 := cell_of HO27.out 3 rfl
              go_wp2_with fail
              obtain ⟨W8, hW8⟩ : ∃ X, X = v1.alloc (.cells #[.int .i64 0, .int .u32 (oc1 : Nat), .slice none 0 0] 29) := ⟨_, rfl⟩
              obtain ⟨g2, hg2⟩ : ∃ X, v1.heap.size = X := ⟨_, rfl⟩
              rw [← hW8] at HOR7 HC7 HO7 HO27 HL7 HB7 HR7 ⊢
              rw [hg2] at HR7 ⊢
              clear f0 f1 f2 f3 f4 f5 f6 f7 f8 f9 f10 f11 t0 t1 t2 t3 hW8 hg2
              have hd := HDt.out Aa rows da HAa.out (by have := HM.out; omega) K8.out W8 (HP.out.below HB7.out) HL7.out
              have K9' := K9.out
              have K7' := K7.out
              have K6' := K46.out.2.2
              rw [K46.out.1, HM.out] at hd
              generalize doPR c rows o2 = s2 at *
              obtain ⟨rows2, x2, y2⟩ := s2
              simp only at hd K9' K7' K6'
              have HK9 := Lib.hid K9'
              have HK7 := Lib.hid K7'
              have HK6 := Lib.hid K6'
              clear K9' K7' K6' K9 K7 K46
              refine hd.mono ?_
              rintro e v2 ⟨u2, rfl, hM2, hb2⟩
              have hl2 : rows2.length ≤ 100000 := by have h1 : rows2.length ≤ rows.length + 4 := HL2.out; have := HM.out; omega
              obtain ⟨Ab, db, rfl, _, hAb, hLb⟩ := MadeX.form rowL_len hM2
              have b2 := below_then hb2 (below_one v2 (.cells #[.int .i64 x2, .int .u32 y2, .slice none 0 0] 29))
              have HOR9 := Lib.hid (cell_below HOR7.out b2)
              have HC9 := Lib.hid (cell_below HC7.out b2)
              have HO9 := Lib.hid (cell_below HO7.out b2)
              have HO29 := Lib.hid (cell_below HO27.out b2)
              have HR9 := Lib.hid (cell_below HR7.out b2)
              have HB9 := Lib.hid (below_then HB7.out b2)
              have HLb := Lib.hid (hLb.below (below_one v2 (.cells #[.int .i64 x2, .int .u32 y2, .slice none 0 0] 29)))
              have HAb := Lib.hid hAb
              clear hM2 hb2 b2 HOR7 HC7 HO7 HO27 HR7 HB7 HL7 hd hLb hAb
              have f0 := cell_of HC9.out 0 rfl
              have f1 := cell_of HC9.out 1 rfl
              have f2 := cell_of HC9.out 2 rfl
              have f3 := cell_of HC9.out 3 rfl
              have f4 := cell_of HC9.out 4 rfl
              have f5 := cell_of HC9.out 5 rfl
              have f6 := cell_of HC9.out 6 rfl
              have f7 := cell_of HC9.out 7 rfl
              have f8 := cell_of HC9.out 8 rfl
              have f9 := cell_of HC9.out 9 rfl
              have f10 := cell_of HC9.out 10 rfl
              have f11 := cell_of HC9.out 11 rfl
              have t0 := cell_of HOR9.out 0 rfl
              have t1 := cell_of HOR9.out 1 rfl
              have t2 := cell_of HOR9.out 2 rfl
              have t3 := cell_of HOR9.out 3 rfl
              go_wp2_with fail
              obtain ⟨W10, hW10⟩ : ∃ X, X = v2.alloc (.cells #[.int .i64 x2, .int .u32 y2, .slice none 0 0] 29) := ⟨_, rfl⟩
              rw [← hW10] at HOR9 HC9 HO9 HO29 HB9 HR9 HLb ⊢
              clear f0 f1 f2 f3 f4 f5 f6 f7 f8 f9 f10 f11 t0 t1 t2 t3 hW10
              have hd := HDr.out Ab rows2 db HAb.out hl2 HK9.out W10 (HP.out.below HB9.out) HLb.out
              rw [HK6.out] at hd
              have K7' := HK7.out
              generalize doPR c rows2 (rd o) = s3 at *
              obtain ⟨rows3, x3, y3⟩ := s3
              simp only at hd
              have HK7b := Lib.hid (show (o2.a = o.a ∧ o2.b = o.b) ∨ (¬ (o2.a = o.a ∧ o2.b = o.b) ∧ x3 = 0 ∧ y3 = (oc1 : Int)) by
                rcases K7' with h | ⟨h, z, hz⟩
                · exact .inl h
                · injection hz with _ hz
                  injection hz with h1 h2
                  exact .inr ⟨h, h1, h2⟩)
              clear K7' HK7
              refine hd.mono ?_
              rintro e v3 ⟨u3, rfl, hM3, hb3⟩
              have b3 := below_then hb3 (below_one v3 (.cells #[.int .i64 x3, .int .u32 y3, .slice none 0 0] 29))
              have HO11 := Lib.hid (cell_below HO9.out b3)
              have HO211 := Lib.hid (cell_below HO29.out b3)
              have HR11 := Lib.hid (cell_below HR9.out b3)
              have HB11 := Lib.hid (below_then HB9.out b3)
              have HT11 := Lib.hid (heap_alloc_new v3 (.cells #[.int .i64 x3, .int .u32 y3, .slice none 0 0] 29))
              have z1 := cell_of HO11.out 1 rfl
              have z2 := cell_of HO11.out 2 rfl
              have z3 := cell_of HO11.out 3 rfl
              have t1 := cell_of HO211.out 1 rfl
              have t2 := cell_of HO211.out 2 rfl
              have r0 := cell_of HR11.out 0 rfl
              have r1 := cell_of HR11.out 1 rfl
              have y0 := cell_of HT11.out 0 rfl
              have y1 := cell_of HT11.out 1 rfl
              have hwc : IntKind.u32.wrap ((o.c : Int) + 1) = (oc1 : Int) := by have := HOC.out; rw [IntKind.wrap_u32]; omega
              have hne : ((oc1 : Int) != oc1) = false := bne_self_eq_false _
              have hlen2 : ¬ (j : Int) < (l.length : Int) := by omega
              clear hM3 b3 hb3 hd
              rcases HK7b.out with ⟨e1, e2⟩ | ⟨e0, rfl, rfl⟩
              · have e3 : (o2.a : Int) = (o.a : Int) := by omega
                have e4 : (o2.b : Int) = (o.b : Int) := by omega
                go_wp2
                go_ret
                exact Ret.mk (by simp) HB11.out
              · rcases (by omega : ¬ (o2.a : Int) = (o.a : Int) ∨ ((o2.a : Int) = (o.a : Int) ∧ ¬ (o2.b : Int) = (o.b : Int))) with e3 | ⟨e3, e4⟩
                · go_wp2
                  go_ret
                  exact Ret.mk (by simp) HB11.out
                · go_wp2
                  go_ret
                  exact Ret.mk (by simp) HB11.out
        · have hx2 : (x != 0) = true := bne_iff_ne.2 hx
          subst he
          go_wp2
          go_ret
          exact Ret.mk rfl HB3.out
      · have he2 : (er != 0) = true := bne_iff_ne.2 he
        go_wp2
        go_ret
        exact Ret.mk rfl HB3.out
    · have hk2 : ¬ (o.k : Int) = 12 := by omega
      clear h hA hp hw64
      generalize l.length = N at *
      unfold cfv opv
      go_enter Tryd.func7, Tryd.ntmps7
      go_wp2_with fail
      refine (palive_any _ (HP.out.below (below_three _ _ _ _))).mono ?_
      rintro e w1 ⟨rfl, hb1⟩
      obtain ⟨hc1, hf1⟩ := bcell hb1
      go_wp2
      go_ret
      exact Ret.mk rfl (below_then (below_three _ _ _ _) hb1)

set_option maxRecDepth 100000 in
theorem lifted (os : Os) (started : os.Started) (H : Type) (enc : TypeId × Value → H) :
    ReturnsInHanded {} Tryd.checked os 7 .any (fun w args => (Rows.pathsReadSpec.pre enc Tryd.prog Tryd.f7 [] false w args ∧ laidMetH Tryd.prog laidL w) ∧ sizedMet enc Tryd.prog Tryd.f7 (OpenSpec.ofChange Rows.pathsReadSpec) false w args)
      (Rows.pathsReadSpec.post enc Tryd.prog Tryd.f7 false true false false) := by
  refine returnsInHanded_of_change_and (C := Tryd.checked) (X := fun w _ => laidMetH Tryd.prog laidL w) (fun _ _ _ hh h => h.of_heap hh) own started (by kernel_rfl) Tryd.func7
    (ChangeSpec.witness_shaped (enc := enc) (C := Tryd.checked) (os := os) (X := fun w _ => laidMetH Tryd.prog laidL w) false (World.doorLaid Tryd.prog 400 os) #[.agg #[.int .u8 0, .int .i64 0, .int .i64 0, .int .u8 0, .int .i64 0, .int .i64 0, .int .i64 0, .int .i64 0, .int .i64 0, .int .i64 0, .int .u64 0, .int .u64 0], .slice none 0 0, .agg #[.int .u8 0, .int .u32 0, .int .u32 0, .int .u32 0], .agg #[.int .u8 0, .int .u32 0, .int .u32 0, .int .u32 0]] 8 rfl (World.shaped_of_RefB (by kernel_rfl) (by kernel_rfl)) (by kernel_rfl) (by kernel_rfl) (by kernel_rfl) (door_met os _)) ?_
  intro W base args ds gs before hval0 hW _ _ hL _
  refine law_of laidOut (by kernel_rfl) (by kernel_rfl) Tryd.underlying4 rfl ?_ hW fun p hA => ?_
  · intro ds hd
    match ds, hd with
    | [_, _, _, _], _ => rfl
  have hval' : ∀ (j : Nat) t v, Tryd.f7.params[j]? = some t → args[j]? = some v → Value.okWide Tryd.prog W .any base t v := hval0
  rw [Tryd.params7] at hA hval'
  obtain ⟨v0, vs0, d0, ds0, p0, q0, hargs, rfl, rfl, h0, r0⟩ := trodAll_cons hA
  obtain ⟨v1, vs1, d1, ds1, p1, q1, rfl, rfl, rfl, h1, r1⟩ := trodAll_cons r0
  obtain ⟨v2, vs2, d2, ds2, p2, q2, rfl, rfl, rfl, h2, r2⟩ := trodAll_cons r1
  obtain ⟨v3, vs3, d3, ds3, p3, q3, rfl, rfl, rfl, h3, r3⟩ := trodAll_cons r2
  obtain ⟨rfl, rfl, rfl⟩ := trodAll_nil r3
  obtain rfl : args = #[v0, v1, v2, v3] := by cases args; simp_all
  obtain ⟨c, rfl⟩ := open_cfg (hval' 0 _ v0 rfl rfl) h0
  obtain ⟨A, d, l, hwB, rfl, hd, hAn, hl⟩ := open_tabB (hval' 1 _ v1 rfl rfl) h1
  obtain ⟨o, ho, rfl⟩ := open_op (hval' 2 _ v2 rfl rfl) h2
  obtain ⟨o2, ho2, rfl⟩ := open_op (hval' 3 _ v3 rfl rfl) h3
  exact walk c A d l o ho o2 ho2 hd hAn (fun x hx => (hwB x hx).1) W (of_laid hL) hl

theorem row : Rows.PathsReadSaid :=
  OpenClaim.holds_of_wide 7 Tryd.f7 rfl rfl rfl rfl rfl rfl rfl ⟨rfl, rfl, rfl, rfl, rfl⟩ rfl rfl rfl rfl rfl (by kernel_rfl) Tryd.func7 (by kernel_rfl)
    (of_decide_eq_true (by kernel_rfl)) (by unfold Func.isWrapper; first | (rw [if_pos (by decide +kernel)]; kernel_rfl) | (rw [if_neg (by decide +kernel)]; exact ⟨rfl, rfl⟩))
    (fun os started H enc _ => lifted os started H enc)

theorem card : Rows.PathsReadCardSaid :=
  Claim7.holds_tied_plain_at .later [] [.data] true Rows.pathsReadCard.stood.harness false
    row (fun _ h => by cases h) (by kernel_rfl) (fun _ h => by cases h) pathsRead_row_tie rfl ⟨rfl, rfl⟩ (by kernel_rfl) rfl
    (fun f fn hf hfn => by
      obtain rfl : f = 7 := Option.some.inj ((show Tryd.prog.funcNamed "bascule/basculelaw09.PathsRead" = some 7 by kernel_rfl).symm.trans hf) |>.symm
      obtain rfl : fn = Tryd.f7 := (Option.some.inj (Tryd.func7.symm.trans hfn)).symm
      exact ⟨by kernel_rfl, fun j t ht => by
        rw [Tryd.params7] at ht
        have hm : t ∈ [33, 25, 35] := by simpa using Array.mem_of_getElem? ht
        have hall : ([33, 25, 35].all fun u => !Tryd.prog.wantsStandIn u) = true := by kernel_rfl
        exact (show Tryd.prog.wantsStandIn t = false by simpa using List.all_eq_true.1 hall t hm)⟩)
    (by kernel_rfl)
#print axioms card

end Go.Proofs.YtljdkjjjnlcflaaDoor.pathsRead
