/- For any config, rows and three keys: a scan is just those rows that it names, in order; cut in two it is the same; where it answers otherwise, the rows may not be an index's or the last key is too great. Condition: the table of objects holds at the call's start what the program's text lays there (the tied card). -/
import Derived.Test.YtohllaolbebogaaDoorOrAns
import Derived.Test.YtohllaolbebogaaDoorOpenOp
import Derived.Test.YtohllaolbebogaaDoorOpenCfg
import Derived.Test.YtohllaolbebogaaDoorOpenRow
namespace Go.Proofs.YtohllaolbebogaaDoor.orderScans
open Go.ChangeShapes Go.WideShapes Go.ChangeAt Go.RowKit Pt Opn Tb

theorem isr_cells {w : World} {ad : Addr} {l : List R} (h : IsR w (some ad) l) : ∀ j u, (flatL rowL l)[j]? = some u → w.cell? (ad.add j) = some u := by
  intro j u hj
  have hj' : j < l.length * 2 := by rw [← flatR l]; exact (List.getElem?_eq_some_iff.1 hj).1
  have hi' : j / 2 < l.length := by omega
  have ej : j = j / 2 * 2 + j % 2 := by omega
  obtain ⟨bk, off, e1, h2⟩ := h (j / 2) _ (List.getElem?_eq_getElem hi')
  injection e1 with e1
  subst e1
  rw [ej, flatL_at rowL_len (List.getElem?_eq_getElem hi') (by omega)] at hj
  rw [show (⟨bk, off, none⟩ : Addr).add j = ⟨bk, off + j / 2 * 2 + j % 2, none⟩ by rw [Nat.add_assoc, ← ej, addrAdd]]
  exact h2 _ _ hj

/-- append(v, rows...), v rows of the call's own: as an equation of the run. -/
theorem run_joinX (w : World) (ty : TypeId) (B : Nat) (v : Value) (l m : List R) (hm : MadeX w B 37 2 rowL v l) (A : Option Addr) (n c : Nat) (hn : m.length = n) (hA : A = none → n = 0 ∧ c = 0) (hR : IsR w A m) (hb : l.length + m.length ≤ 1000000) (hB : B ≤ w.heap.size) :
    ∃ v' w', (Builtin.append_ #[22, 22] ty #[v, .slice A n c]).run Tryd.prog w = .ok v' w' ∧ MadeX w' B 37 2 rowL v' (l ++ m) ∧ w.grownBy w' v.ownBlock := by
  subst hn
  obtain ⟨i0, hi, hz0, hz1, hz2⟩ := info_parts row_info
  cases A with
  | none =>
    obtain ⟨h0, rfl⟩ := hA rfl
    obtain rfl : m = [] := List.eq_nil_of_length_eq_zero h0
    exact ⟨v, w, run_append_owned_none (P := Tryd.prog) (w := w) B 22 ty 37 i0 2 Tryd.underlying22 hi v l.length (flatL rowL l) hm, by rw [List.append_nil]; exact hm, World.grownBy.refl w _⟩
  | some ad =>
    obtain ⟨v', w', hr, h2, h3, _⟩ := run_append_own_at (P := Tryd.prog) w B 22 ty 37 i0 (.agg #[.int .u64 0, .int .u64 0]) 2 16 Tryd.underlying22 hi hz0 hz1 hz2 rfl (by decide) v l.length (flatL rowL l) hm ad m.length c (flatL rowL m) (flatR m) (isr_cells hR) (flatL_one m) (by unfold maxLen; omega) (by omega) hB
    refine ⟨v', w', hr, ?_, h3⟩
    unfold MadeX
    rw [flatL_append, List.length_append]
    exact h2

set_option maxRecDepth 100000 in
set_option maxHeartbeats 8000000 in
theorem walk (c : Cf) (A : Option Addr) (d : Nat) (l : List R) (fr ct tt : Nat) (hf : fr < 4294967296) (hc : ct < 4294967296) (ht : tt < 4294967296) (_ : l.length ≤ d ∧ d ≤ 9223372036854775807) (hA : A = none → l.length = 0 ∧ d = 0) (w : World) (hp : Obs w) (h : IsR w A l) :
    Calls Tryd.prog 8 #[cfv c, .slice A l.length d, .int .u32 fr, .int .u32 ct, .int .u32 tt] w (Ret (.bool true) w) := by
  have HL := Lib.hid h
  have HP := Lib.hid hp
  have HAN := Lib.hid hA
  by_cases hn : 100 < l.length
  · have hn2 : (100 : Int) < (l.length : Int) := by omega
    clear h hA hp HAN
    generalize l.length = N at *
    unfold cfv
    go_enter Tryd.func8, Tryd.ntmps8
    go_wp2_with fail
    refine (ialive_any _ (HP.out.below (below_one _ _))).mono ?_
    rintro e w1 ⟨rfl, hb1⟩
    go_wp2
    go_ret
    exact Ret.mk rfl (below_then (below_one _ _) hb1)
  · have hn2 : ¬ (100 : Int) < (l.length : Int) := by omega
    by_cases h1 : ct < fr
    · have h2 : (ct : Int) < (fr : Int) := by omega
      clear h hA hp HAN
      generalize l.length = N at *
      unfold cfv
      go_enter Tryd.func8, Tryd.ntmps8
      go_wp2_with fail
      refine (ialive_any _ (HP.out.below (below_one _ _))).mono ?_
      rintro e w1 ⟨rfl, hb1⟩
      go_wp2
      go_ret
      exact Ret.mk rfl (below_then (below_one _ _) hb1)
    · have h2 : ¬ (ct : Int) < (fr : Int) := by omega
      by_cases h3 : tt ≤ ct
      · have h4 : (tt : Int) ≤ (ct : Int) := by omega
        clear h hA hp HAN
        generalize l.length = N at *
        unfold cfv
        go_enter Tryd.func8, Tryd.ntmps8
        go_wp2_with fail
        refine (ialive_any _ (HP.out.below (below_one _ _))).mono ?_
        rintro e w1 ⟨rfl, hb1⟩
        go_wp2
        go_ret
        exact Ret.mk rfl (below_then (below_one _ _) hb1)
      · have h4 : ¬ (tt : Int) ≤ (ct : Int) := by omega
        have HDX := fun (o : O) (ho : Wf o) rows res x y er hs he N na nr hN hna hnr W hW hR => odo_open c A l d o ho hA (by omega) rows res x y er hs he N na nr hN hna hnr W hW hR
        obtain ⟨c1, hc1e⟩ : ∃ n, ct + 1 = n := ⟨_, rfl⟩
        have hwc : IntKind.u32.wrap ((ct : Int) + 1) = (c1 : Int) := by rw [IntKind.wrap_u32]; omega
        by_cases hgood : IsOr c l ∧ tt ≤ 2147483647
        · obtain ⟨hto, ha⟩ := hgood
          have hup := hto.2.2.2.1
          have hs1 := ans_scan hto (a := fr) (b := tt) (by omega) (by omega)
          have hs2 := ans_scan hto (a := fr) (b := ct) (by omega) (by omega)
          have hs3 := ans_scan hto (a := c1) (b := tt) (by omega) (by omega)
          have he := ndoE hto
          have htwo := scan_two hup (a := fr) (m := ct) (b := tt) (by omega) (by omega)
          rw [hc1e] at htwo
          have hl1 : (scan l fr tt).length ≤ l.length := List.length_filter_le _ _
          obtain ⟨S, hS⟩ : ∃ S, scan l fr tt = S := ⟨_, rfl⟩
          obtain ⟨S1, hS1⟩ : ∃ S, scan l fr ct = S := ⟨_, rfl⟩
          obtain ⟨S2, hS2⟩ : ∃ S, scan l c1 tt = S := ⟨_, rfl⟩
          rw [hS1, hS2, hS] at htwo
          rw [hS] at hs1 hl1
          rw [hS1] at hs2
          rw [hS2] at hs3
          obtain ⟨m2, hm2⟩ : ∃ n, S.length = n := ⟨_, rfl⟩
          obtain ⟨m3, hm3⟩ : ∃ n, S1.length = n := ⟨_, rfl⟩
          obtain ⟨m4, hm4⟩ : ∃ n, S2.length = n := ⟨_, rfl⟩
          obtain ⟨N, hN⟩ : ∃ n, l.length = n := ⟨_, rfl⟩
          have hsum : m3 + m4 = m2 := by rw [← hm2, ← hm3, ← hm4, ← htwo, List.length_append]
          have HD1 := Lib.hid (HDX ⟨8, fr, tt, 0⟩ (by unfold Wf; simp only; omega) l S 0 0 0 hs1 he N N m2 hN hN hm2)
          have HD2 := Lib.hid (HDX ⟨8, fr, ct, 0⟩ (by unfold Wf; simp only; omega) l S1 0 0 0 hs2 he N N m3 hN hN hm3)
          have HD3 := Lib.hid (HDX ⟨8, c1, tt, 0⟩ (by unfold Wf; simp only; omega) l S2 0 0 0 hs3 he N N m4 hN hN hm4)
          have HSR := Lib.hid (fun B C e f X hB hC => rSameRows_any B C S S e f (by omega) X hB hC)
          simp only [decide_true] at HSR
          rw [hm2] at HSR
          have hwf : IntKind.u64.wrap (fr : Int) = (fr : Int) := by rw [IntKind.wrap_u64]; omega
          have hwt : IntKind.u64.wrap (tt : Int) = (tt : Int) := by rw [IntKind.wrap_u64]; omega
          have HN := Lib.hid hN
          have HSS := Lib.hid (And.intro hS htwo)
          have HM := Lib.hid (And.intro hm2 (And.intro hm3 (And.intro hm4 hsum)))
          rw [hN] at hn2 hl1 ⊢
          rw [hm2] at hl1
          clear h hA hp hn HDX hto hup hs1 hs2 hs3 he htwo hS hS1 hS2 hm2 hm3 hm4 hN HAN h1 h3 hc1e ha hsum
          unfold cfv opv at *
          go_enter Tryd.func8, Tryd.ntmps8
          go_wp2_with fail
          refine (ialive_any _ (HP.out.below (below_one _ _))).mono ?_
          rintro e w1 ⟨rfl, hb1⟩
          obtain ⟨hc1, hf1⟩ := bcell hb1
          go_wp2_with fail
          have hbw2 := below_then (below_one _ _) hb1
          refine (HD1.out w1 (HP.out.below hbw2) (HL.out.below hbw2)).mono ?_
          rintro e w2 ⟨A2, d2, B2, e2, rfl, hA2, hL2, hB2, hd2, hR2, hb2⟩
          have HA2 := Lib.hid hA2
          have hs1 := hb1.size
          replace hb1 := below_then hb1 hb2
          have hs2 := hb1.size
          have hv2 : w.heap.size < w2.heap.size := by simp at hs2; omega
          clear hc1 hf1
          obtain ⟨hc1, hf1⟩ := bcell hb1
          go_wp2_with fail
          obtain ⟨W2, hW2⟩ : ∃ W, W = w2.alloc (.cells #[.int .i64 0, .int .u32 0, .slice B2 m2 e2] 27) := ⟨_, rfl⟩
          obtain ⟨g2, hg2⟩ : ∃ g, w2.heap.size = g := ⟨_, rfl⟩
          have hbW2 : Below w2.heap.size w2 W2 := by rw [hW2]; exact below_one _ _
          have HR2 := Lib.hid (show W2.heap[g2]? = some (.cells #[.int .i64 0, .int .u32 0, .slice B2 m2 e2] 27 (0, 0)) by rw [hW2, ← hg2]; exact heap_alloc_new w2 _)
          have hz2 : g2 < W2.heap.size := by rw [hW2, ← hg2]; simp
          have HI2 := Lib.hid (hR2.below hbW2)
          have HE2 := Lib.hid (And.intro hd2 hB2)
          try rw [hg2]
          rw [← hW2]
          replace hb1 := below_then hb1 hbW2
          have HLw2 := Lib.hid (HL.out.below (below_then (below_one _ _) hb1))
          clear hc1 hf1 hW2 hs1 hs2 hb2 hL2 hR2 hA2 hB2 hd2 hbw2 hbW2 hg2 hv2
          have hbw3 := below_then (below_one _ _) hb1
          refine (HD2.out W2 (HP.out.below hbw3) (HL.out.below hbw3)).mono ?_
          rintro e w3 ⟨A3, d3, B3, e3, rfl, hA3, hL3, hB3, hd3, hR3, hb2⟩
          have HI2' := Lib.hid (HI2.out.below hb2)
          have HR2' := Lib.hid ((hb2.block g2 hz2).trans HR2.out)
          have hz2' := Nat.lt_of_lt_of_le hz2 hb2.size
          clear hz2
          have HA3 := Lib.hid hA3
          have hs1 := hb1.size
          replace hb1 := below_then hb1 hb2
          have hs2 := hb1.size
          have hv3 : w.heap.size < w3.heap.size := by simp at hs2; omega
          obtain ⟨hc1, hf1⟩ := bcell hb1
          go_wp2_with fail
          obtain ⟨W3, hW3⟩ : ∃ W, W = w3.alloc (.cells #[.int .i64 0, .int .u32 0, .slice B3 m3 e3] 27) := ⟨_, rfl⟩
          obtain ⟨g3, hg3⟩ : ∃ g, w3.heap.size = g := ⟨_, rfl⟩
          have hbW3 : Below w3.heap.size w3 W3 := by rw [hW3]; exact below_one _ _
          have HR3 := Lib.hid (show W3.heap[g3]? = some (.cells #[.int .i64 0, .int .u32 0, .slice B3 m3 e3] 27 (0, 0)) by rw [hW3, ← hg3]; exact heap_alloc_new w3 _)
          have hz3 : g3 < W3.heap.size := by rw [hW3, ← hg3]; simp
          have HI3 := Lib.hid (hR3.below hbW3)
          have HE3 := Lib.hid (And.intro hd3 hB3)
          have HI2 := Lib.hid (HI2'.out.below hbW3)
          have HR2 := Lib.hid ((hbW3.block g2 hz2').trans HR2'.out)
          have hz2 : g2 < W3.heap.size := Nat.lt_of_lt_of_le hz2' hbW3.size
          clear hz2'
          try rw [hg3]
          rw [← hW3]
          replace hb1 := below_then hb1 hbW3
          have HLw3 := Lib.hid (HL.out.below (below_then (below_one _ _) hb1))
          clear hc1 hf1 hW3 hs1 hs2 hb2 hL3 hR3 hA3 hB3 hd3 hbw3 hbW3 hg3 hv3
          have hbw4 := below_then (below_one _ _) hb1
          refine (HD3.out W3 (HP.out.below hbw4) (HL.out.below hbw4)).mono ?_
          rintro e w4 ⟨A4, d4, B4, e4, rfl, hA4, hL4, hB4, hd4, hR4, hb2⟩
          have HI2' := Lib.hid (HI2.out.below hb2)
          have HI3' := Lib.hid (HI3.out.below hb2)
          have HR2' := Lib.hid ((hb2.block g2 hz2).trans HR2.out)
          have hz2' := Nat.lt_of_lt_of_le hz2 hb2.size
          clear hz2
          have HR3' := Lib.hid ((hb2.block g3 hz3).trans HR3.out)
          have hz3' := Nat.lt_of_lt_of_le hz3 hb2.size
          clear hz3
          have HA4 := Lib.hid hA4
          have hs1 := hb1.size
          replace hb1 := below_then hb1 hb2
          have hs2 := hb1.size
          have hv4 : w.heap.size < w4.heap.size := by simp at hs2; omega
          have hb3 := below_then hb1 (below_one w4 (.cells #[.int .i64 0, .int .u32 0, .slice B4 m4 e4] 27))
          obtain ⟨p20, _, p21, _, p22, _⟩ := res_cells HR2'.out
          obtain ⟨hc1, hf1⟩ := bcell hb1
          clear hb2 hs1 hs2 hbw4
          have HB4 := Lib.hid (And.intro hd4 hB4)
          have HI4' := Lib.hid hR4
          obtain ⟨W5, hW5⟩ : ∃ W, W = w4.alloc (.cells #[.int .i64 0, .int .u32 0, .slice B4 m4 e4] 27) := ⟨_, rfl⟩
          obtain ⟨g4, hg4⟩ : ∃ g, w4.heap.size = g := ⟨_, rfl⟩
          have b5 : Below w4.heap.size w4 W5 := by rw [hW5]; exact below_one _ _
          have HR4 := Lib.hid (show W5.heap[g4]? = some (.cells #[.int .i64 0, .int .u32 0, .slice B4 m4 e4] 27 (0, 0)) by rw [hW5, ← hg4]; exact heap_alloc_new w4 _)
          have hz4 : g4 < W5.heap.size := by rw [hW5, ← hg4]; simp
          have HR2 := Lib.hid ((b5.block g2 hz2').trans HR2'.out)
          have HR3 := Lib.hid ((b5.block g3 hz3').trans HR3'.out)
          have hz2 : g2 < W5.heap.size := Nat.lt_of_lt_of_le hz2' b5.size
          have hz3 : g3 < W5.heap.size := Nat.lt_of_lt_of_le hz3' b5.size
          have HI2 := Lib.hid (HI2'.out.below b5)
          have HI3 := Lib.hid (HI3'.out.below b5)
          have HI4 := Lib.hid (HI4'.out.below b5)
          have HB5 := Lib.hid (show Below w.heap.size w W5 by rw [hW5]; exact below_then (below_one _ _) hb3)
          have HLW := Lib.hid (HL.out.below HB5.out)
          have HW5 := Lib.hid hW5
          have HG4 := Lib.hid hg4
          clear hW5 hg4 b5 hd4 hB4 hR4 hb3 hL4 hA4
          go_wp2_with fail
          rw [← HW5.out]
          try rw [HG4.out]
          clear p20 p21 p22 hc1 hf1 hb1 hz2' hz3' hv4
          go_loopw [21, 22] (fun wv iv wr => Below W5.heap.size W5 wr ∧ ∃ j : Nat, j ≤ N ∧ iv = .int .i64 j ∧ Hid (MadeX wr W5.heap.size 37 2 rowL wv (scan (l.take j) fr tt))) (fun _ i _ => N - (intOf i).toNat)
          case atStart => exact ⟨Below.refl _ _, 0, Nat.zero_le _, rfl, Lib.hid (MadeX.nil _ _ _ _ _)⟩
          case round =>
            obtain ⟨hbr, j, hj, rfl, HV⟩ := hrel
            have i1 : (0 : Int) ≤ (j : Int) := by omega
            by_cases hlt : j < N
            · have j1 : j < l.length := by rw [HN.out]; exact hlt
              obtain ⟨bk, off, rfl, x1, x2⟩ := HLW.out.row j1
              replace x1 := (hbr.cell (World.block_lt_of_cell? _ _ x1)).trans x1
              replace x2 := (hbr.cell (World.block_lt_of_cell? _ _ x2)).trans x2
              have i2 : (j : Int) < (N : Int) := by omega
              obtain ⟨q1, e1⟩ : ∃ q, l[j].1 = q := ⟨_, rfl⟩
              obtain ⟨q2, e2⟩ : ∃ q, l[j].2 = q := ⟨_, rfl⟩
              rw [e1] at x1
              rw [e2] at x2
              have E := Lib.hid (Prod.ext e1 e2 : l[j] = (q1, q2))
              clear e1 e2
              have HT := Lib.hid (scan_take (a := fr) (b := tt) j1)
              have CL := Lib.hid (scan_len l fr tt j)
              by_cases d1 : fr ≤ q1 ∧ q1 ≤ tt
              · have d2 : (fr : Int) ≤ (q1 : Int) := by omega
                have d3 : (q1 : Int) ≤ (tt : Int) := by omega
                go_wp2_with (at_builtin
                             refine wpList_pushX (w0 := W5) rfl (.tmp 114) (.tmp 119) _ rfl Tryd.underlying22 row_info rfl (by decide) (by decide) (B := W5.heap.size) (l := scan (l.take j) fr tt) (q1, q2) rfl rfl (HV.out.alloc _) wr.heap.size 0 1 rfl (fun j u h => rowBoxed _ q1 q2 j u h) (row_one _) (by have := CL.out; rw [HN.out] at this; omega) (Nat.le_refl _) (hbr.alloc hbr.size _) ?_
                             intro va' W6 HV6 hbW6 Hg6 Ho6)
                go_roundw
                case rel => exact ⟨hbW6, j + 1, by omega, by go_num, Lib.hid (by rw [HT.out, E.out, if_pos d1]; exact HV6.out)⟩
                case measure => simp [intOf]; omega
              · have HW1 := Lib.hid (show MadeX wr W5.heap.size 37 2 rowL _ (scan (l.take (j + 1)) fr tt) by rw [HT.out, E.out, if_neg d1, List.append_nil]; exact HV.out)
                by_cases d2 : (fr : Int) ≤ (q1 : Int)
                · have d3 : ¬ (q1 : Int) ≤ (tt : Int) := by omega
                  go_wp2
                  go_roundw
                  case rel => exact ⟨hbr, j + 1, by omega, by go_num, HW1⟩
                  case measure => simp [intOf]; omega
                · go_wp2
                  go_roundw
                  case rel => exact ⟨hbr, j + 1, by omega, by go_num, HW1⟩
                  case measure => simp [intOf]; omega
            · obtain rfl : j = N := by omega
              rw [List.take_of_length_le (by rw [HN.out]; exact Nat.le_refl _), HSS.out.1] at HV
              obtain ⟨Aw, dw, ew, _, _, hLw⟩ := MadeX.form rowL_len HV.out
              rw [HM.out.1] at ew
              subst ew
              obtain ⟨hm2, hm3, hm4, hsum⟩ := HM.out
              have HLw := Lib.hid hLw
              have Q2 := (hbr.block g2 hz2).trans HR2.out
              have Q3 := (hbr.block g3 hz3).trans HR3.out
              have Q4 := (hbr.block g4 hz4).trans HR4.out
              have s2 : g2 < wr.heap.size := Nat.lt_of_lt_of_le hz2 hbr.size
              have s3 : g3 < wr.heap.size := Nat.lt_of_lt_of_le hz3 hbr.size
              have s4 : g4 < wr.heap.size := Nat.lt_of_lt_of_le hz4 hbr.size
              have HI2r := Lib.hid (HI2.out.below hbr)
              have HI3r := Lib.hid (HI3.out.below hbr)
              have HI4r := Lib.hid (HI4.out.below hbr)
              obtain ⟨X0, hX0⟩ : ∃ X, X = wr.drew.alloc (.cells #[] 37) := ⟨_, rfl⟩
              have hb0 : Below wr.heap.size wr X0 := by rw [hX0]; exact (below_drew wr).trans ((below_one wr.drew _).mono (Nat.le_refl _))
              have hm0 : MadeX X0 wr.heap.size 37 2 rowL (.slice (some ⟨wr.heap.size, 0, none⟩) 0 0) [] := by rw [hX0]; exact World.ownsRow_lit wr.drew #[] 0 (Nat.le_refl _) (by unfold maxLen; omega) rfl
              obtain ⟨v1, X1, hr1, hv1, hgv1⟩ := run_joinX X0 22 wr.heap.size _ [] S1 hm0 B3 m3 e3 hm3 HE3.out.2 (HI3r.out.below hb0) (by simp; omega) hb0.size
              have hb1 : Below wr.heap.size wr X1 := hb0.grown hgv1 hb0.size (fun k hk => Nat.le_of_eq (by simpa [Value.ownBlock] using hk))
              rw [List.nil_append] at hv1
              obtain ⟨A1, k1, ev1, _⟩ := MadeX.form rowL_len hv1
              rw [hm3] at ev1
              subst ev1
              obtain ⟨v2, X2, hr2, hv2, hgv2⟩ := run_joinX X1 22 wr.heap.size _ S1 S2 hv1 B4 m4 e4 hm4 HB4.out.2 (HI4r.out.below hb1) (by omega) hb1.size
              have hb2 : Below wr.heap.size wr X2 := hb1.grown hgv2 hb1.size (fun k hk => (MadeX.lt hv1 k hk).1)
              rw [HSS.out.2] at hv2
              obtain ⟨A2, k2, ev2, _, _, hLv⟩ := MadeX.form rowL_len hv2
              rw [hm2] at ev2
              subst ev2
              have HLv := Lib.hid hLv
              obtain ⟨_, _, _, _, t3, _⟩ := res_cells Q3
              obtain ⟨_, _, _, _, t4, _⟩ := res_cells Q4
              have a4 : X1.cell? ⟨g4, 2, none⟩ = some (.slice B4 m4 e4) := (hb1.cell s4).trans t4
              have a2 : X2.cell? ⟨g2, 2, none⟩ = some (.slice B2 m2 e2) := (hb2.cell s2).trans (res_cells Q2).2.2.2.2.1
              have HB2 := Lib.hid hb2
              have HBR := Lib.hid hbr
              have mixed : Tryd.prog.follows Departure.mixedOrders = true := by kernel_rfl
              subst hX0
              clear hLw hLv hb0 hb1 hb2 hm0 hv1 hv2 hgv1 hgv2 Q2 Q3 Q4 hm2 hm3 hm4 hsum HV
              go_wp2_with fail
              go_region_law_o (first
                | (refine step_appendX rfl (.tmp 121) (.tmp 123) 22 22 rfl _ _ (by simp [Act.eval]) (by simp [Act.eval]) hr1 ?_)
                | (refine step_appendX rfl (.tmp 124) (.tmp 126) 22 22 rfl _ _ (by simp [Act.eval]) (by simp [Act.eval]) hr2 ?_))
              all_goals
                go_wp2_with fail
                refine (HSR.out B2 Aw e2 dw X2 (HI2r.out.below HB2.out) (HLw.out.below HB2.out)).mono ?_
                rintro e w7 ⟨rfl, hb7⟩
                go_wp2_with fail
                refine (HSR.out A2 Aw k2 dw w7 (HLv.out.below hb7) (HLw.out.below (below_then HB2.out hb7))).mono ?_
                rintro e w8 ⟨rfl, hb8⟩
                go_wp2
                go_ret
                exact Ret.mk rfl (below_then HB5.out (below_then HBR.out (below_then HB2.out (below_then hb7 hb8))))
        · have hbad : ∃ er x, doOE c l = er ∧ (er ≠ 0 ∨ (x ≠ (0 : Int) ∧ ¬ tt ≤ 2147483647)) ∧ (doOR c l ⟨8, fr, tt, 0⟩).2.1 = x := by
            refine ⟨_, _, rfl, ?_, rfl⟩
            by_cases hto : IsOr c l
            · have ha : ¬ tt ≤ 2147483647 := fun h => hgood ⟨hto, h⟩
              rcases chk_pair hto 8 fr tt (by simp) with ⟨_, hb, _⟩ | ⟨_, h2⟩
              · exact absurd hb ha
              · exact .inr ⟨by rw [doOR_bad hto (by rw [h2]; decide), h2]; simp, ha⟩
            · rcases doOE_cases c l with ⟨_, h⟩ | ⟨h, _⟩
              · exact absurd h hto
              · exact .inl h
          obtain ⟨er, x2, he, hb, hx2⟩ := hbad
          obtain ⟨⟨rows1, x1, y1, res1⟩, hs1⟩ : ∃ s, doOR c l ⟨8, fr, tt, 0⟩ = s := ⟨_, rfl⟩
          obtain ⟨⟨rows2, x2', y2, res2⟩, hs2⟩ : ∃ s, doOR c l ⟨8, fr, ct, 0⟩ = s := ⟨_, rfl⟩
          obtain ⟨⟨rows3, x3, y3, res3⟩, hs3⟩ : ∃ s, doOR c l ⟨8, c1, tt, 0⟩ = s := ⟨_, rfl⟩
          rw [hs1] at hx2
          simp only at hx2
          subst hx2
          obtain ⟨n1, hn1⟩ : ∃ n, rows1.length = n := ⟨_, rfl⟩
          obtain ⟨n2, hn2'⟩ : ∃ n, rows2.length = n := ⟨_, rfl⟩
          obtain ⟨n3, hn3⟩ : ∃ n, rows3.length = n := ⟨_, rfl⟩
          obtain ⟨m1, hm1⟩ : ∃ n, res1.length = n := ⟨_, rfl⟩
          obtain ⟨m2, hm2⟩ : ∃ n, res2.length = n := ⟨_, rfl⟩
          obtain ⟨m3, hm3⟩ : ∃ n, res3.length = n := ⟨_, rfl⟩
          obtain ⟨N, hN⟩ : ∃ n, l.length = n := ⟨_, rfl⟩
          have HD1 := Lib.hid (HDX ⟨8, fr, tt, 0⟩ (by unfold Wf; simp only; omega) rows1 res1 x1 y1 er hs1 he N n1 m1 hN hn1 hm1)
          have HD2 := Lib.hid (HDX ⟨8, fr, ct, 0⟩ (by unfold Wf; simp only; omega) rows2 res2 x2' y2 er hs2 he N n2 m2 hN hn2' hm2)
          have HD3 := Lib.hid (HDX ⟨8, c1, tt, 0⟩ (by unfold Wf; simp only; omega) rows3 res3 x3 y3 er hs3 he N n3 m3 hN hn3 hm3)
          have HBAD := Lib.hid hb
          rw [hN] at hn2 ⊢
          clear h hA hp hn HDX hs1 hs2 hs3 hn1 hn2' hn3 hm1 hm2 hm3 hN HAN he hb h1 h3 hc1e
          unfold cfv opv at *
          go_enter Tryd.func8, Tryd.ntmps8
          go_wp2_with fail
          refine (ialive_any _ (HP.out.below (below_one _ _))).mono ?_
          rintro e w1 ⟨rfl, hb1⟩
          obtain ⟨hc1, hf1⟩ := bcell hb1
          go_wp2_with fail
          have hbw2 := below_then (below_one _ _) hb1
          refine (HD1.out w1 (HP.out.below hbw2) (HL.out.below hbw2)).mono ?_
          rintro e w2 ⟨A2, d2, B2, e2, rfl, hA2, hL2, hB2, hd2, hR2, hb2⟩
          have HA2 := Lib.hid hA2
          have hs1 := hb1.size
          replace hb1 := below_then hb1 hb2
          have hs2 := hb1.size
          have hv2 : w.heap.size < w2.heap.size := by simp at hs2; omega
          clear hc1 hf1
          obtain ⟨hc1, hf1⟩ := bcell hb1
          go_wp2_with fail
          obtain ⟨W2, hW2⟩ : ∃ W, W = w2.alloc (.cells #[.int .i64 x1, .int .u32 y1, .slice B2 m1 e2] 27) := ⟨_, rfl⟩
          obtain ⟨g2, hg2⟩ : ∃ g, w2.heap.size = g := ⟨_, rfl⟩
          have hbW2 : Below w2.heap.size w2 W2 := by rw [hW2]; exact below_one _ _
          have HR2 := Lib.hid (show W2.heap[g2]? = some (.cells #[.int .i64 x1, .int .u32 y1, .slice B2 m1 e2] 27 (0, 0)) by rw [hW2, ← hg2]; exact heap_alloc_new w2 _)
          have hz2 : g2 < W2.heap.size := by rw [hW2, ← hg2]; simp
          have HI2 := Lib.hid (hR2.below hbW2)
          have HE2 := Lib.hid (And.intro hd2 hB2)
          try rw [hg2]
          rw [← hW2]
          replace hb1 := below_then hb1 hbW2
          have HLw2 := Lib.hid (HL.out.below (below_then (below_one _ _) hb1))
          clear hc1 hf1 hW2 hs1 hs2 hb2 hL2 hR2 hA2 hB2 hd2 hbw2 hbW2 hg2 hv2
          have hbw3 := below_then (below_one _ _) hb1
          refine (HD2.out W2 (HP.out.below hbw3) (HL.out.below hbw3)).mono ?_
          rintro e w3 ⟨A3, d3, B3, e3, rfl, hA3, hL3, hB3, hd3, hR3, hb2⟩
          have HI2' := Lib.hid (HI2.out.below hb2)
          have HR2' := Lib.hid ((hb2.block g2 hz2).trans HR2.out)
          have hz2' := Nat.lt_of_lt_of_le hz2 hb2.size
          clear hz2
          have HA3 := Lib.hid hA3
          have hs1 := hb1.size
          replace hb1 := below_then hb1 hb2
          have hs2 := hb1.size
          have hv3 : w.heap.size < w3.heap.size := by simp at hs2; omega
          obtain ⟨hc1, hf1⟩ := bcell hb1
          go_wp2_with fail
          obtain ⟨W3, hW3⟩ : ∃ W, W = w3.alloc (.cells #[.int .i64 x2', .int .u32 y2, .slice B3 m2 e3] 27) := ⟨_, rfl⟩
          obtain ⟨g3, hg3⟩ : ∃ g, w3.heap.size = g := ⟨_, rfl⟩
          have hbW3 : Below w3.heap.size w3 W3 := by rw [hW3]; exact below_one _ _
          have HR3 := Lib.hid (show W3.heap[g3]? = some (.cells #[.int .i64 x2', .int .u32 y2, .slice B3 m2 e3] 27 (0, 0)) by rw [hW3, ← hg3]; exact heap_alloc_new w3 _)
          have hz3 : g3 < W3.heap.size := by rw [hW3, ← hg3]; simp
          have HI3 := Lib.hid (hR3.below hbW3)
          have HE3 := Lib.hid (And.intro hd3 hB3)
          have HI2 := Lib.hid (HI2'.out.below hbW3)
          have HR2 := Lib.hid ((hbW3.block g2 hz2').trans HR2'.out)
          have hz2 : g2 < W3.heap.size := Nat.lt_of_lt_of_le hz2' hbW3.size
          clear hz2'
          try rw [hg3]
          rw [← hW3]
          replace hb1 := below_then hb1 hbW3
          have HLw3 := Lib.hid (HL.out.below (below_then (below_one _ _) hb1))
          clear hc1 hf1 hW3 hs1 hs2 hb2 hL3 hR3 hA3 hB3 hd3 hbw3 hbW3 hg3 hv3
          have hbw4 := below_then (below_one _ _) hb1
          refine (HD3.out W3 (HP.out.below hbw4) (HL.out.below hbw4)).mono ?_
          rintro e w4 ⟨A4, d4, B4, e4, rfl, hA4, hL4, hB4, hd4, hR4, hb2⟩
          have HI2' := Lib.hid (HI2.out.below hb2)
          have HI3' := Lib.hid (HI3.out.below hb2)
          have HR2' := Lib.hid ((hb2.block g2 hz2).trans HR2.out)
          have hz2' := Nat.lt_of_lt_of_le hz2 hb2.size
          clear hz2
          have HR3' := Lib.hid ((hb2.block g3 hz3).trans HR3.out)
          have hz3' := Nat.lt_of_lt_of_le hz3 hb2.size
          clear hz3
          have HA4 := Lib.hid hA4
          have hs1 := hb1.size
          replace hb1 := below_then hb1 hb2
          have hs2 := hb1.size
          have hv4 : w.heap.size < w4.heap.size := by simp at hs2; omega
          have hb3 := below_then hb1 (below_one w4 (.cells #[.int .i64 x3, .int .u32 y3, .slice B4 m3 e4] 27))
          obtain ⟨p20, _, p21, _, p22, _⟩ := res_cells HR2'.out
          obtain ⟨hc1, hf1⟩ := bcell hb1
          clear hb2 hs1 hs2 hbw4
          by_cases he : er = 0
          · subst he
            have hx : x1 ≠ 0 ∧ ¬ tt ≤ 2147483647 := by rcases HBAD.out with h | h; exact absurd rfl h; exact h
            have hx2 : (x1 != 0) = true := bne_iff_ne.2 hx.1
            have hx3 : (2147483647 : Int) < (tt : Int) := by omega
            go_wp2
            go_ret
            exact Ret.mk (by simp) (below_then (below_one _ _) hb3)
          · have he2 : (er != 0) = true := bne_iff_ne.2 he
            go_wp2
            go_ret
            exact Ret.mk (by simp) (below_then (below_one _ _) hb3)

set_option maxRecDepth 100000 in
theorem lifted (os : Os) (started : os.Started) (H : Type) (enc : TypeId × Value → H) :
    ReturnsInHanded {} Tryd.checked os 8 .any (fun w args => (Rows.orderScansSpec.pre enc Tryd.prog Tryd.f8 [] false w args ∧ laidMetH Tryd.prog laidL w) ∧ sizedMet enc Tryd.prog Tryd.f8 (OpenSpec.ofChange Rows.orderScansSpec) false w args)
      (Rows.orderScansSpec.post enc Tryd.prog Tryd.f8 false true false false) := by
  refine returnsInHanded_of_change_and (C := Tryd.checked) (X := fun w _ => laidMetH Tryd.prog laidL w) (fun _ _ _ hh h => h.of_heap hh) own started (by kernel_rfl) Tryd.func8
    (ChangeSpec.witness_shaped (enc := enc) (C := Tryd.checked) (os := os) (X := fun w _ => laidMetH Tryd.prog laidL w) false (World.doorLaid Tryd.prog 400 os) #[.agg #[.int .u8 0, .int .i64 0, .int .i64 0, .int .u8 0, .int .i64 0, .int .i64 0, .int .i64 0, .int .i64 0, .int .i64 0, .int .i64 0, .int .u64 0, .int .u64 0], .slice none 0 0, .int .u32 0, .int .u32 0, .int .u32 0] 8 rfl (World.shaped_of_RefB (by kernel_rfl) (by kernel_rfl)) (by kernel_rfl) (by kernel_rfl) (by kernel_rfl) (door_met os _)) ?_
  intro W base args ds gs before hval0 hW _ _ hL _
  refine law_of laidOut (by kernel_rfl) (by kernel_rfl) Tryd.underlying4 rfl ?_ hW fun p hA => ?_
  · intro ds hd
    match ds, hd with
    | [_, _, _, _, _], _ => rfl
  have hval' : ∀ (j : Nat) t v, Tryd.f8.params[j]? = some t → args[j]? = some v → Value.okWide Tryd.prog W .any base t v := hval0
  rw [Tryd.params8] at hA hval'
  obtain ⟨v0, vs0, d0, ds0, p0, q0, hargs, rfl, rfl, h0, r0⟩ := trodAll_cons hA
  obtain ⟨v1, vs1, d1, ds1, p1, q1, rfl, rfl, rfl, h1, r1⟩ := trodAll_cons r0
  obtain ⟨v2, vs2, d2, ds2, p2, q2, rfl, rfl, rfl, h2, r2⟩ := trodAll_cons r1
  obtain ⟨v3, vs3, d3, ds3, p3, q3, rfl, rfl, rfl, h3, r3⟩ := trodAll_cons r2
  obtain ⟨v4, vs4, d4, ds4, p4, q4, rfl, rfl, rfl, h4, r4⟩ := trodAll_cons r3
  obtain ⟨rfl, rfl, rfl⟩ := trodAll_nil r4
  obtain rfl : args = #[v0, v1, v2, v3, v4] := by cases args; simp_all
  obtain ⟨c, rfl⟩ := open_cfg (hval' 0 _ v0 rfl rfl) h0
  obtain ⟨A, d, l, rfl, hd, hAn, hl⟩ := open_tab (hval' 1 _ v1 rfl rfl) h1
  obtain ⟨z2, rfl, _, _, w2⟩ := open_int (k := .u32) Tryd.underlying25 (hval' 2 _ v2 rfl rfl) h2
  obtain ⟨fr, rfl, hf⟩ := u32_nat w2
  obtain ⟨z3, rfl, _, _, w3⟩ := open_int (k := .u32) Tryd.underlying25 (hval' 3 _ v3 rfl rfl) h3
  obtain ⟨ct, rfl, hc⟩ := u32_nat w3
  obtain ⟨z4, rfl, _, _, w4⟩ := open_int (k := .u32) Tryd.underlying25 (hval' 4 _ v4 rfl rfl) h4
  obtain ⟨tt, rfl, ht⟩ := u32_nat w4
  exact walk c A d l fr ct tt hf hc ht hd hAn W (of_laid hL) hl

theorem row : Rows.OrderScansSaid :=
  OpenClaim.holds_of_wide 8 Tryd.f8 rfl rfl rfl rfl rfl rfl rfl ⟨rfl, rfl, rfl, rfl, rfl⟩ rfl rfl rfl rfl rfl (by kernel_rfl) Tryd.func8 (by kernel_rfl)
    (of_decide_eq_true (by kernel_rfl)) (by unfold Func.isWrapper; first | (rw [if_pos (by decide +kernel)]; kernel_rfl) | (rw [if_neg (by decide +kernel)]; exact ⟨rfl, rfl⟩))
    (fun os started H enc _ => lifted os started H enc)

theorem card : Rows.OrderScansCardSaid :=
  Claim7.holds_tied_plain_at .later [] [.data] true Rows.orderScansCard.stood.harness false
    row (fun _ h => by cases h) (by kernel_rfl) (fun _ h => by cases h) orderScans_row_tie rfl ⟨rfl, rfl⟩ (by kernel_rfl) rfl
    (fun f fn hf hfn => by
      obtain rfl : f = 8 := Option.some.inj ((show Tryd.prog.funcNamed "bascule/basculelaw07.OrderScans" = some 8 by kernel_rfl).symm.trans hf) |>.symm
      obtain rfl : fn = Tryd.f8 := (Option.some.inj (Tryd.func8.symm.trans hfn)).symm
      exact ⟨by kernel_rfl, fun j t ht => by
        rw [Tryd.params8] at ht
        have hm : t ∈ [32, 22, 25] := by simpa using Array.mem_of_getElem? ht
        have hall : ([32, 22, 25].all fun u => !Tryd.prog.wantsStandIn u) = true := by kernel_rfl
        exact (show Tryd.prog.wantsStandIn t = false by simpa using List.all_eq_true.1 hall t hm)⟩)
    (by kernel_rfl)
#print axioms card

end Go.Proofs.YtohllaolbebogaaDoor.orderScans
