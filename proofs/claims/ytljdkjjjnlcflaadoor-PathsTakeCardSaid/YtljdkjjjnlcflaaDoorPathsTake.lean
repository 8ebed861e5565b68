/- For any config, rows and path: taking out takes one node, none of whose kin stands below it, and is refused just where there is none, or one stands below it. Condition: the table of objects holds at the call's start what the program's text lays there (the tied card). -/
import Derived.Test.YtljdkjjjnlcflaaDoorPaLive
import Derived.Test.YtljdkjjjnlcflaaDoorLaw
import Derived.Test.YtljdkjjjnlcflaaDoorOpenOp
import Derived.Test.YtljdkjjjnlcflaaDoorOpenCfg
import Derived.Test.YtljdkjjjnlcflaaDoorOpenRow
import Derived.Deep.DeepCutAuto
import Derived.Deep.RegionHeld3
namespace Go.Proofs.YtljdkjjjnlcflaaDoor.pathsTake
open Go.ChangeShapes Go.WideShapes Go.ChangeAt Go.RowKit Pt Opn Tb

theorem facts (c : Cf) (l : List R) (a b : Nat) (he : doPE c l = 0) (hx : (doPR c l ⟨13, a, b, 0⟩).2.1 ≠ 10) :
    (fnd l (pth ⟨13, a, b, 0⟩) = -1 ∧ (doPR c l ⟨13, a, b, 0⟩).2.1 = 6) ∨ (∃ i : Nat, fnd l (pth ⟨13, a, b, 0⟩) = i ∧ usedB l (pth ⟨13, a, b, 0⟩) = true ∧ (doPR c l ⟨13, a, b, 0⟩).2.1 = 90) ∨
    (∃ i : Nat, ∃ h : i < l.length, fnd l (pth ⟨13, a, b, 0⟩) = i ∧ usedB l (pth ⟨13, a, b, 0⟩) = false ∧ doPR c l ⟨13, a, b, 0⟩ = (cut l (pth ⟨13, a, b, 0⟩), 0, ((l[i].2 : Nat) : Int)) ∧ l[i].2 ≤ 2147483648) := by
  rcases doPE_cases c l with ⟨_, ht⟩ | ⟨h, _⟩
  · rcases ans_unset ht (a := a) (b := b) with ⟨h1, _⟩ | ⟨_, h1⟩
    · rw [h1] at hx; exact absurd rfl hx
    · rcases fnd_get l (pth ⟨13, a, b, 0⟩) with ⟨hf, hg⟩ | ⟨i, hi, hf, _, hg⟩
      · rw [hg] at h1
        exact .inl ⟨hf, by rw [h1]⟩
      · rw [hg] at h1
        simp only at h1
        by_cases hub : usedB l (pth ⟨13, a, b, 0⟩) = true
        · rw [if_pos hub] at h1
          exact .inr (.inl ⟨i, hf, hub, by rw [h1]⟩)
        · rw [if_neg hub] at h1
          exact .inr (.inr ⟨i, hi, hf, Bool.eq_false_iff.2 hub, h1, (ht.2.2.2.2 _ (List.getElem_mem hi)).1.2⟩)
  · exact absurd he h

set_option maxRecDepth 100000 in
set_option maxHeartbeats 8000000 in
theorem walk (c : Cf) (A : Option Addr) (d : Nat) (l : List R) (a b : Nat) (ha : a < 4294967296) (hb : b < 4294967296) (_ : l.length ≤ d ∧ d ≤ 9223372036854775807) (hA : A = none → l.length = 0 ∧ d = 0) (hw64 : ∀ x ∈ l, x.1 < 18446744073709551616) (w : World) (hp : Obs w) (h : IsR w A l) :
    Calls Tryd.prog 8 #[cfv c, .slice A l.length d, .int .u32 a, .int .u32 b] w (Ret (.bool true) w) := by
  have HL := Lib.hid h
  have HP := Lib.hid hp
  by_cases hn : 100 < l.length
  · have hn2 : (100 : Int) < (l.length : Int) := by omega
    clear h hA hp hw64
    generalize l.length = N at *
    unfold cfv
    go_enter Tryd.func8, Tryd.ntmps8
    go_wp2_with fail
    refine (palive_any _ (HP.out.below (below_one _ _))).mono ?_
    rintro e w1 ⟨rfl, hb1⟩
    go_wp2
    go_ret
    exact Ret.mk rfl (below_then (below_one _ _) hb1)
  · have hn2 : ¬ (100 : Int) < (l.length : Int) := by omega
    have hwf : Wf ⟨13, a, b, 0⟩ := by unfold Wf; simp only; omega
    have HDo := Lib.hid (fun W hW hl => pdo_any c A l d ⟨13, a, b, 0⟩ hwf hA (by omega) hw64 W hW hl)
    have HPT := Lib.hid (pPath_any ⟨13, a, b, 0⟩ hwf)
    have HF := Lib.hid (facts c l a b)
    obtain ⟨K, hK⟩ : ∃ K, pth ⟨13, a, b, 0⟩ = K := ⟨_, rfl⟩
    rw [hK] at HPT HF
    have HFi := Lib.hid (fun W hl => rFind_any A l d (by omega) K W hl)
    have HWo := Lib.hid (fun W hl => rWithout_any A l d (by omega) K W hl)
    have HPar := Lib.hid (fun q (hq : q < 18446744073709551616) W => pParent_any q hq W)
    have HSM := Lib.hid (fun A B (m : List R) c' d' hm W hA hB => rSameRows_any A B m m c' d' hm W hA hB)
    simp only [decide_true] at HSM
    have hlen := doPR_len c l ⟨13, a, b, 0⟩
    have HW := Lib.hid hw64
    generalize doPE c l = er at *
    generalize doPR c l ⟨13, a, b, 0⟩ = s at *
    obtain ⟨rows, x, y⟩ := s
    simp only at hlen HF
    clear hwf hK hw64 h hp hA ha hb
    unfold Did4 resv at HDo
    simp only at HDo
    unfold cfv opv at *
    simp only at HDo HPT
    go_enter Tryd.func8, Tryd.ntmps8
    go_wp2_with fail
    refine (palive_any _ (HP.out.below (below_one _ _))).mono ?_
    rintro e w1 ⟨rfl, hb1⟩
    have HC := Lib.hid (show ∀ j x, (#[.int .u8 c.obj, .int .i64 c.inst, .int .i64 c.thr, .int .u8 c.kind, .int .i64 c.str, .int .i64 c.bits, .int .i64 c.cap, .int .i64 c.node, .int .i64 c.bat, .int .i64 c.chunk, .int .u64 c.lim, .int .u64 c.most] : Array Value)[j]? = some x → w1.cell? ⟨w.heap.size, j, none⟩ = some x from fun j x hx => (hb1.cell (by simp)).trans (by
      have hg := heap_alloc_new w (.cells #[.int .u8 c.obj, .int .i64 c.inst, .int .i64 c.thr, .int .u8 c.kind, .int .i64 c.str, .int .i64 c.bits, .int .i64 c.cap, .int .i64 c.node, .int .i64 c.bat, .int .i64 c.chunk, .int .u64 c.lim, .int .u64 c.most] 33)
      simp only [World.cell?, hg]
      exact hx))
    have HB1 := Lib.hid (below_then (below_one _ _) hb1)
    have hu1 : w.heap.size < w1.heap.size := by have := hb1.size; simp at this; omega
    clear hb1
    obtain ⟨q, hq⟩ : ∃ q, w.heap.size = q := ⟨_, rfl⟩
    rw [hq] at HC hu1 ⊢
    have HQ := Lib.hid hq
    have bb := below_one w1 (.cells #[.int .u8 13, .int .u32 a, .int .u32 b, .int .u32 0] 35)
    have f0 := (bb.cell (p := ⟨q, 0, none⟩) hu1).trans (HC.out 0 _ rfl)
    have f1 := (bb.cell (p := ⟨q, 1, none⟩) hu1).trans (HC.out 1 _ rfl)
    have f2 := (bb.cell (p := ⟨q, 2, none⟩) hu1).trans (HC.out 2 _ rfl)
    have f3 := (bb.cell (p := ⟨q, 3, none⟩) hu1).trans (HC.out 3 _ rfl)
    have f4 := (bb.cell (p := ⟨q, 4, none⟩) hu1).trans (HC.out 4 _ rfl)
    have f5 := (bb.cell (p := ⟨q, 5, none⟩) hu1).trans (HC.out 5 _ rfl)
    have f6 := (bb.cell (p := ⟨q, 6, none⟩) hu1).trans (HC.out 6 _ rfl)
    have f7 := (bb.cell (p := ⟨q, 7, none⟩) hu1).trans (HC.out 7 _ rfl)
    have f8 := (bb.cell (p := ⟨q, 8, none⟩) hu1).trans (HC.out 8 _ rfl)
    have f9 := (bb.cell (p := ⟨q, 9, none⟩) hu1).trans (HC.out 9 _ rfl)
    have f10 := (bb.cell (p := ⟨q, 10, none⟩) hu1).trans (HC.out 10 _ rfl)
    have f11 := (bb.cell (p := ⟨q, 11, none⟩) hu1).trans (HC.out 11 _ rfl)
    go_wp2_with fail
    obtain ⟨g, hg⟩ : ∃ g, w1.heap.size = g := ⟨_, rfl⟩
    have HO := Lib.hid (heap_alloc_new w1 (.cells #[.int .u8 13, .int .u32 a, .int .u32 b, .int .u32 0] 35))
    have HB2 := Lib.hid (below_then HB1.out bb)
    refine (HDo.out _ (HP.out.below HB2.out) (HL.out.below HB2.out)).mono ?_
    rintro e w3 ⟨u, rfl, hM3, hb3⟩
    have HM3 := Lib.hid (IsRV.of hM3)
    obtain ⟨Aa, da, rfl, _, _, hLa⟩ := MadeX.form rowL_len hM3
    have HLa := Lib.hid hLa
    have HO3 := Lib.hid ((hb3.block _ (Array.getElem?_eq_some_iff.1 HO.out).1).trans HO.out)
    rw [hg] at HO3 ⊢
    clear f0 f1 f2 f3 f4 f5 f6 f7 f8 f9 f10 f11 hM3 hLa HO HDo hg hu1 HC
    have br := below_one w3 (.cells #[.int .i64 x, .int .u32 y, .slice none 0 0] 29)
    have HT := Lib.hid (heap_alloc_new w3 (.cells #[.int .i64 x, .int .u32 y, .slice none 0 0] 29))
    have HO4 := Lib.hid ((br.block _ (Array.getElem?_eq_some_iff.1 HO3.out).1).trans HO3.out)
    have HB4 := Lib.hid (below_then (below_then HB2.out hb3) br)
    have HLa4 := Lib.hid (HLa.out.below br)
    obtain ⟨W4, hW4⟩ : ∃ X, X = w3.alloc (.cells #[.int .i64 x, .int .u32 y, .slice none 0 0] 29) := ⟨_, rfl⟩
    obtain ⟨gr, hgr⟩ : ∃ X, w3.heap.size = X := ⟨_, rfl⟩
    rw [← hW4] at HT HO4 HB4 HLa4
    rw [hgr] at HT
    have HWW := Lib.hid hW4
    have HGR := Lib.hid hgr
    by_cases he : er = 0
    · by_cases hx10 : x = 10
      · subst he hx10
        clear hW4 hgr
        go_wp2
        go_ret
        exact Ret.mk rfl (by rw [← HWW.out]; exact HB4.out)
      · have HFF := Lib.hid (HF.out he hx10)
        have hx10b : (x == 10) = false := beq_eq_false_iff_ne.2 hx10
        subst he
        have o0 := cell_of HO4.out 0 rfl
        have o1 := cell_of HO4.out 1 rfl
        have o2 := cell_of HO4.out 2 rfl
        have o3 := cell_of HO4.out 3 rfl
        clear hb3 br HF HO3 HLa HB2 HB1 bb hgr
        rw [hW4] at o0 o1 o2 o3
        clear hW4
        go_wp2_with fail
        rw [← HWW.out]
        try rw [HGR.out]
        clear o0 o1 o2 o3
        refine (HPT.out W4).mono ?_
        rintro e w5 ⟨rfl, hb5⟩
        go_wp2_with fail
        refine (HFi.out w5 (HL.out.below (below_then HB4.out hb5))).mono ?_
        rintro e w6 ⟨rfl, hb6⟩
        have HT6 := Lib.hid (((below_then hb5 hb6).block _ (Array.getElem?_eq_some_iff.1 HT.out).1).trans HT.out)
        have HB6 := Lib.hid (below_then HB4.out (below_then hb5 hb6))
        have HLa6 := Lib.hid (HLa4.out.below (below_then hb5 hb6))
        have HL6 := Lib.hid (HL.out.below HB6.out)
        clear hb5 hb6 HT HO4 HB4 HLa4 HPT HFi HL
        obtain ⟨N, hN⟩ : ∃ N, l.length = N := ⟨_, rfl⟩
        have HN := Lib.hid hN
        generalize fnd l K = fz at *
        rw [hN] at hn hn2 HWo ⊢
        clear hN hlen
        go_wp2_with fail
        go_loopw [16, 17] (fun bv iv wr => Below w6.heap.size w6 wr ∧ ∃ j : Nat, ∃ z : Bool, j ≤ N ∧ iv = .int .i64 j ∧ bv = .bool z ∧ Hid (usedB (l.take j) K = z)) (fun _ iv _ => N - (intOf iv).toNat)
        case atStart => exact ⟨Below.refl _ _, 0, false, Nat.zero_le _, rfl, rfl, Lib.hid (by simp [usedB])⟩
        case round =>
          obtain ⟨hbr, j, z, hj, rfl, rfl, HZ⟩ := hrel
          have i5 : (0 : Int) ≤ (j : Int) := by omega
          by_cases hlt : j < N
          · have j1 : j < l.length := by rw [HN.out]; exact hlt
            have i6 : (j : Int) < (N : Int) := by omega
            have hst := used_take (k := K) j1
            rw [HZ.out] at hst
            cases z with
            | true =>
              have HST := Lib.hid hst
              clear hst
              go_wp2
              go_roundw
              case rel => exact ⟨hbr, j + 1, true, by omega, by go_num, rfl, Lib.hid (by rw [HST.out]; rfl)⟩
              case measure => simp [intOf]; omega
            | false =>
              obtain ⟨bk, off, rfl, h1, h2⟩ := HL6.out.row j1
              replace h1 := (hbr.cell (World.block_lt_of_cell? _ _ h1)).trans h1
              have hwq := (HW.out _ (List.getElem_mem j1))
              obtain ⟨q1, e1⟩ : ∃ q, l[j].1 = q := ⟨_, rfl⟩
              rw [e1] at h1 hwq hst
              have HP1 := Lib.hid (HPar.out q1 hwq)
              generalize par q1 = p at *
              have HST := Lib.hid hst
              clear e1 h2 hwq hst
              go_wp2_with fail
              refine (HP1.out _).mono ?_
              rintro e w7 ⟨rfl, hb7⟩
              go_wp2
              go_roundw
              case rel => exact ⟨below_then hbr hb7, j + 1, _, by omega, by go_num, rfl, Lib.hid (by
                rw [HST.out]
                by_cases hh : p = K
                · subst hh; simp
                · have h2 : ¬ (p : Int) = (K : Int) := by omega
                  simp [hh, h2])⟩
              case measure => simp [intOf]; omega
          · obtain rfl : j = N := by omega
            have hz : usedB l K = z := by rw [← HZ.out, List.take_of_length_le (by rw [HN.out]; exact Nat.le_refl _)]
            have HT7 := Lib.hid ((hbr.block _ (Array.getElem?_eq_some_iff.1 HT6.out).1).trans HT6.out)
            have HB7 := Lib.hid (below_then HB6.out hbr)
            have HLa7 := Lib.hid (HLa6.out.below hbr)
            have HL7 := Lib.hid (HL6.out.below hbr)
            have hff := HFF.out
            rw [hz] at hff
            obtain ⟨r0, -, r1, -, -, -⟩ := res_cells HT7.out
            clear HT6 HB6 HLa6 HL6 HZ HFF hz hbr
            rcases hff with ⟨rfl, k2⟩ | ⟨i, rfl, rfl, k3⟩ | ⟨i, hi, rfl, rfl, k4, k5⟩
            · subst k2
              go_wp2
              go_ret
              exact Ret.mk rfl HB7.out
            · subst k3
              have i7 : ¬ (i : Int) < 0 := by omega
              go_wp2
              go_ret
              exact Ret.mk rfl HB7.out
            · injection k4 with k4 k6
              injection k6 with k6 k7
              subst k4 k6 k7
              obtain ⟨bk, off, rfl, h1, h2⟩ := HL7.out.row hi
              have hiN : i < j := by rw [← HN.out]; exact hi
              obtain ⟨v, hv⟩ : ∃ v, l[i].2 = v := ⟨_, rfl⟩
              rw [hv] at r1 h2 k5
              have hm : (cut l K).length ≤ 104 := by have := cut_length l K; have := HN.out; omega
              generalize cut l K = m at *
              have i7 : ¬ (i : Int) < 0 := by omega
              have i8 : (0 : Int) ≤ (i : Int) := by omega
              have i9 : (i : Int) < (j : Int) := by omega
              have hwv : IntKind.u64.wrap (v : Int) = (v : Int) := by rw [IntKind.wrap_u64]; omega
              have mixed : Tryd.prog.follows Departure.mixedOrders = true := by kernel_rfl
              have hbk : bk < wr.heap.size := World.block_lt_of_cell? _ _ h2
              have hgr : gr < wr.heap.size := World.block_lt_of_cell? _ _ r0
              obtain ⟨M, hM⟩ : ∃ M, m.length = M := ⟨_, rfl⟩
              have HM := Lib.hid hM
              rw [hM] at hm ⊢
              have HSX := Lib.hid (fun C D c' d' W hC hD => HSM.out C D m c' d' (by have := HM.out; omega) W hC hD)
              rw [hM] at HSX
              clear hv hM HSM HPar HW HM3 h1 k5 HWW HGR HN
              go_wp2_with fail
              go_cut [8] (fun s8 wx => s8 = .bool true ∧ Hid (Below wr.heap.size wr wx))
              case first =>
                go_region_held3 (fun X => wr.heap.size ≤ X.heap.size ∧ ∀ b o, b < wr.heap.size → X.cell? ⟨b, o, none⟩ = wr.cell? ⟨b, o, none⟩)
                  (first
                    | with_reducible exact keep0 wr
                    | with_reducible exact keep_below hb9 (keep_below hb8 (keep0 wr))
                    | with_reducible exact keep_below hb8 (keep0 wr)
                    | fail)
                  (first
                    | ((with_reducible refine (HWo.out _ (HL7.out.keep ?_)).mono ?_); (with_reducible exact keep0 wr); rintro e w8 ⟨ua, rfl, hMa, hb8⟩; obtain ⟨A8, d8, rfl, hd8, hA8, hL8⟩ := MadeX.form rowL_len hMa; rw [HM.out]; have H8 := Lib.hid hL8; clear hMa hL8)
                    | ((with_reducible refine (HSX.out _ _ _ _ _ (HLa7.out.below (below_then (below_drew wr) hb8)) H8.out).mono ?_); rintro e w9 ⟨rfl, hb9⟩))
                all_goals
                  go_wp2_with fail
                  go_meet
                  exact ⟨by simp, Lib.hid (below_then (below_then (below_drew wr) hb8) hb9)⟩
              case rest =>
                obtain ⟨rfl, HBX⟩ := hcut
                go_wp2
                go_ret
                exact Ret.mk rfl (below_then HB7.out HBX.out)
    · have he2 : (er != 0) = true := bne_iff_ne.2 he
      clear hW4 hgr
      go_wp2
      go_ret
      exact Ret.mk rfl (by rw [← HWW.out]; exact HB4.out)

set_option maxRecDepth 100000 in
theorem lifted (os : Os) (started : os.Started) (H : Type) (enc : TypeId × Value → H) :
    ReturnsInHanded {} Tryd.checked os 8 .any (fun w args => (Rows.pathsTakeSpec.pre enc Tryd.prog Tryd.f8 [] false w args ∧ laidMetH Tryd.prog laidL w) ∧ sizedMet enc Tryd.prog Tryd.f8 (OpenSpec.ofChange Rows.pathsTakeSpec) false w args)
      (Rows.pathsTakeSpec.post enc Tryd.prog Tryd.f8 false true false false) := by
  refine returnsInHanded_of_change_and (C := Tryd.checked) (X := fun w _ => laidMetH Tryd.prog laidL w) (fun _ _ _ hh h => h.of_heap hh) own started (by kernel_rfl) Tryd.func8
    (ChangeSpec.witness_shaped (enc := enc) (C := Tryd.checked) (os := os) (X := fun w _ => laidMetH Tryd.prog laidL w) false (World.doorLaid Tryd.prog 400 os) #[.agg #[.int .u8 0, .int .i64 0, .int .i64 0, .int .u8 0, .int .i64 0, .int .i64 0, .int .i64 0, .int .i64 0, .int .i64 0, .int .i64 0, .int .u64 0, .int .u64 0], .slice none 0 0, .int .u32 0, .int .u32 0] 8 rfl (World.shaped_of_RefB (by kernel_rfl) (by kernel_rfl)) (by kernel_rfl) (by kernel_rfl) (by kernel_rfl) (door_met os _)) ?_
  intro W base args ds gs before hval0 hW _ _ hL _
  refine law_of laidOut (by kernel_rfl) (by kernel_rfl) Tryd.underlying4 rfl ?_ hW fun p hA => ?_
  · intro ds hd
    match ds, hd with
    | [_, _, _, _], _ => rfl
  have hval' : ∀ (j : Nat) t v, Tryd.f8.params[j]? = some t → args[j]? = some v → Value.okWide Tryd.prog W .any base t v := hval0
  rw [Tryd.params8] at hA hval'
  obtain ⟨v0, vs0, d0, ds0, p0, q0, hargs, rfl, rfl, h0, r0⟩ := trodAll_cons hA
  obtain ⟨v1, vs1, d1, ds1, p1, q1, rfl, rfl, rfl, h1, r1⟩ := trodAll_cons r0
  obtain ⟨v2, vs2, d2, ds2, p2, q2, rfl, rfl, rfl, h2, r2⟩ := trodAll_cons r1
  obtain ⟨v3, vs3, d3, ds3, p3, q3, rfl, rfl, rfl, h3, r3⟩ := trodAll_cons r2
  obtain ⟨rfl, rfl, rfl⟩ := trodAll_nil r3
  obtain rfl : args = #[v0, v1, v2, v3] := by cases args; simp_all
  obtain ⟨c, rfl⟩ := open_cfg (hval' 0 _ v0 rfl rfl) h0
  obtain ⟨A, d, l, hwB, rfl, hd, hAn, hl⟩ := open_tabB (hval' 1 _ v1 rfl rfl) h1
  obtain ⟨z2, rfl, _, _, w2⟩ := open_int (k := .u32) Tryd.underlying27 (hval' 2 _ v2 rfl rfl) h2
  obtain ⟨who, rfl, hwho⟩ := u32_nat w2
  obtain ⟨z3, rfl, _, _, w3⟩ := open_int (k := .u32) Tryd.underlying27 (hval' 3 _ v3 rfl rfl) h3
  obtain ⟨what, rfl, hwhat⟩ := u32_nat w3
  exact walk c A d l who what hwho hwhat hd hAn (fun x hx => (hwB x hx).1) W (of_laid hL) hl

theorem row : Rows.PathsTakeSaid :=
  OpenClaim.holds_of_wide 8 Tryd.f8 rfl rfl rfl rfl rfl rfl rfl ⟨rfl, rfl, rfl, rfl, rfl⟩ rfl rfl rfl rfl rfl (by kernel_rfl) Tryd.func8 (by kernel_rfl)
    (of_decide_eq_true (by kernel_rfl)) (by unfold Func.isWrapper; first | (rw [if_pos (by decide +kernel)]; kernel_rfl) | (rw [if_neg (by decide +kernel)]; exact ⟨rfl, rfl⟩))
    (fun os started H enc _ => lifted os started H enc)

theorem card : Rows.PathsTakeCardSaid :=
  Claim7.holds_tied_plain_at .later [] [.data] true Rows.pathsTakeCard.stood.harness false
    row (fun _ h => by cases h) (by kernel_rfl) (fun _ h => by cases h) pathsTake_row_tie rfl ⟨rfl, rfl⟩ (by kernel_rfl) rfl
    (fun f fn hf hfn => by
      obtain rfl : f = 8 := Option.some.inj ((show Tryd.prog.funcNamed "bascule/basculelaw09.PathsTake" = some 8 by kernel_rfl).symm.trans hf) |>.symm
      obtain rfl : fn = Tryd.f8 := (Option.some.inj (Tryd.func8.symm.trans hfn)).symm
      exact ⟨by kernel_rfl, fun j t ht => by
        rw [Tryd.params8] at ht
        have hm : t ∈ [33, 25, 27] := by simpa using Array.mem_of_getElem? ht
        have hall : ([33, 25, 27].all fun u => !Tryd.prog.wantsStandIn u) = true := by kernel_rfl
        exact (show Tryd.prog.wantsStandIn t = false by simpa using List.all_eq_true.1 hall t hm)⟩)
    (by kernel_rfl)
#print axioms card

end Go.Proofs.YtljdkjjjnlcflaaDoor.pathsTake
