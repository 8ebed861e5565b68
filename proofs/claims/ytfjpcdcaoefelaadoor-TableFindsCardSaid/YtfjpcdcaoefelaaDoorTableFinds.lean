/- For any config, rows and key: a look-up answers the hop plus one of the longest prefix that the rows hold for the key, and zero with the error's number where they hold none; where it answers otherwise, the rows may not be a table's or the key has too many bits. Condition: the table of objects holds at the call's start what the program's text lays there (the tied card). -/
import Derived.Test.YtfjpcdcaoefelaaDoorTbLive
import Derived.Test.YtfjpcdcaoefelaaDoorTbFacts
import Derived.Test.YtfjpcdcaoefelaaDoorObLaid
import Derived.Test.YtfjpcdcaoefelaaDoorOpenOp
import Derived.Test.YtfjpcdcaoefelaaDoorOpenCfg
import Derived.Test.YtfjpcdcaoefelaaDoorOpenRow
namespace Go.Proofs.YtfjpcdcaoefelaaDoor.tableFinds
open Go.ChangeShapes Go.WideShapes Go.ChangeAt Go.RowKit Pt Opn Tb

set_option maxRecDepth 100000 in
set_option maxHeartbeats 8000000 in
theorem walk (c : Cf) (A : Option Addr) (d : Nat) (l : List R) (key : Nat) (hkey : key < 4294967296) (_ : l.length ≤ d ∧ d ≤ 9223372036854775807) (hA : A = none → l.length = 0 ∧ d = 0) (w : World) (hp : Obs w) (h : IsR w A l) :
    Calls Tryd.prog 8 #[cfv c, .slice A l.length d, .int .u32 key] w (Ret (.bool true) w) := by
  have HL := Lib.hid h
  have HP := Lib.hid hp
  by_cases hn : 100 < l.length
  · have hn2 : (100 : Int) < (l.length : Int) := by omega
    clear h hA hp
    generalize l.length = N at *
    unfold cfv
    go_enter Tryd.func8, Tryd.ntmps8
    go_wp2_with fail
    refine (alive_any _ (HP.out.below (below_one _ _))).mono ?_
    rintro e w1 ⟨rfl, hb1⟩
    go_wp2
    go_ret
    exact Ret.mk rfl (below_then (below_one _ _) hb1)
  · have hn2 : ¬ (100 : Int) < (l.length : Int) := by omega
    have hDo := fun W hW hl => do_any c A l d ⟨3, key, 0, 0⟩ (by unfold Wf; simp only; omega) hA (by omega) W hW hl
    have HF := Lib.hid (fun K W hl => rFind_any A l d (by omega) K W hl)
    rcases doE_cases c l with ⟨he, ht⟩ | ⟨he, ht⟩
    · obtain ⟨n, hcn, hn6⟩ : ∃ n : Nat, c.bits = n ∧ n ≤ 6 := by
        have hb := ht.1.1
        have ho := ht.2.1
        unfold ObjOk at hb
        exact ⟨c.bits.toNat, by omega, by omega⟩
      have hmax : ∀ x ∈ l, x.2 ≤ 2147483647 := fun x hx => (ht.2.2.2.2 x hx).2.2
      have hlk := look_ok (key := key) ht
      rw [he] at hDo
      clear he ht h hp hA hn
      rw [hcn, Int.toNat_natCast] at hlk
      rcases hlk with ⟨hk, hr⟩ | ⟨hk, hr⟩
      · rw [hr] at hDo
        clear hr
        have HH := Lib.hid hmax
        clear hmax
        obtain ⟨s, hs⟩ : ∃ s, seek l n key n = s := ⟨_, rfl⟩
        rw [hs] at hDo
        unfold cfv opv at *
        rw [hcn] at hDo ⊢
        obtain ⟨K, hK⟩ : ∃ K, 2 ^ n + key = K := ⟨_, rfl⟩
        have h64 : 2 ^ n ≤ 64 := Rk.pow_le n hn6
        have hK7 : K < 128 := by omega
        have hdep : Rk.dep (K : Int) = n := by
          have := (match_at (n := n) (key := key) (e := n) (k := K) (Nat.le_refl _) hk (by rw [Nat.sub_self, Nat.pow_zero, Nat.div_one]; exact hK.symm)).1
          unfold Rk.dep; simp [this]
        have hpos : 0 < 2 ^ n := Nat.pow_pos (by decide)
        have HN := Lib.hid (show ∀ W, Calls Tryd.prog 18 #[.int .i64 n, .int .i64 key] W (Ret2 (.int .i64 K) (.int .i64 0) W) from fun W => by
          have h := node_any (n : Int) (key : Int) W
          rw [Rk.okP_t (by omega) (by omega) (by omega) (by rw [Int.toNat_natCast]; omega)] at h
          rw [show Rk.val true (Rk.node (n : Int) (key : Int)) = (K : Int) by simp [Rk.val, Rk.node, ← hK]] at h
          exact h)
        have HO := Lib.hid (show ∀ (up : Nat) W, up ≤ n → Calls Tryd.prog 21 #[.int .i64 K, .int .i64 up] W (Ret2 (.int .i64 (pre n key up : Nat)) (.int .i64 0) W) from fun up W hup => by
          have h := over_any (K : Int) (up : Int) W
          rw [Rk.okO_t (decide_eq_true (by omega)) (by omega) (by rw [hdep]; omega)] at h
          rw [show Rk.val true (Rk.over (K : Int) (up : Int)) = ((pre n key up : Nat) : Int) by unfold Rk.val Rk.over; rw [if_pos rfl, Int.toNat_natCast, Int.toNat_natCast, ← hK, pre_eq hup]] at h
          exact h)
        have HPr := Lib.hid (show ∀ up, up ≤ n → pre n key up < 128 from fun up hup => by
          rw [← pre_eq hup, hK]; exact Nat.lt_of_le_of_lt (Nat.div_le_self _ _) hK7)
        have HS := Lib.hid hs
        have hxy : (s = none ∧ lookC s = 6 ∧ lookV s = 0) ∨ ∃ v, s = some v ∧ lookC s = 0 ∧ lookV s = ((v + 1) % 4294967296 : Nat) := by
          cases s with
          | none => exact .inl ⟨rfl, rfl, rfl⟩
          | some v => exact .inr ⟨v, rfl, rfl, rfl⟩
        have hw1 : IntKind.i64.wrap (key : Int) = (key : Int) := by rw [IntKind.wrap_i64]; omega
        clear hs hK h64 hdep hpos hcn hk
        generalize lookC s = x at *
        generalize lookV s = y at *
        have HDo := Lib.hid hDo
        clear hDo
        rcases hxy with ⟨hsn, rfl, rfl⟩ | ⟨v, hsn, rfl, hy⟩
        · have HSN := Lib.hid hsn
          clear hsn
          go_enter Tryd.func8, Tryd.ntmps8
          go_wp2_with fail
          refine (alive_any _ (HP.out.below (below_one _ _))).mono ?_
          rintro e w1 ⟨rfl, hb1⟩
          obtain ⟨hc1, hf1⟩ := bcell hb1
          go_wp2_with fail
          have hb0 := below_then (below_one _ _) hb1
          refine (HDo.out w1 (HP.out.below hb0) (HL.out.below hb0)).mono ?_
          rintro e w2 ⟨u, rfl, hM2, hb2⟩
          replace hb1 := below_then hb1 hb2
          have hs2 := hb1.size
          have hv2 : w.heap.size < w2.heap.size := by simp at hs2; omega
          clear hc1 hf1 hM2 hb0 hb2 hs2
          obtain ⟨hc1, hf1⟩ := bcell hb1
          simp only [resv]
          have HB := Lib.hid (below_then (below_then (below_one _ _) hb1) (below_one _ (.cells #[.int .i64 6, .int .u32 0, .slice none 0 0] 29)))
          go_wp2_with (go_at_call 18; refine (HN.out _).mono ?_; rintro e w3 ⟨rfl, hb3⟩)
          have hs3 := hb3.size
          have c5 : w3.cell? ⟨w.heap.size, 5, none⟩ = some (.int .i64 n) := (hb3.cell (p := ⟨w.heap.size, 5, none⟩) (by simp; omega)).trans (((below_one w2 _).cell (p := ⟨w.heap.size, 5, none⟩) hv2).trans ((hc1 _ _ (by simp)).trans (by simp [go_sem])))
          have r0 : w3.cell? ⟨w2.heap.size, 0, none⟩ = some (.int .i64 6) := (hb3.cell (p := ⟨w2.heap.size, 0, none⟩) (by simp)).trans (by simp [go_sem])
          have r1 : w3.cell? ⟨w2.heap.size, 1, none⟩ = some (.int .u32 0) := (hb3.cell (p := ⟨w2.heap.size, 1, none⟩) (by simp)).trans (by simp [go_sem])
          have hq3 : w.heap.size < w3.heap.size := World.block_lt_of_cell? _ _ c5
          have hg3 : w2.heap.size < w3.heap.size := World.block_lt_of_cell? _ _ r0
          have HB3 := Lib.hid (below_then HB.out hb3)
          have HL3 := Lib.hid (HL.out.below HB3.out)
          obtain ⟨q, hq⟩ : ∃ q, w.heap.size = q := ⟨_, rfl⟩
          obtain ⟨g, hg⟩ : ∃ g, w2.heap.size = g := ⟨_, rfl⟩
          obtain ⟨N, hN⟩ : ∃ N, l.length = N := ⟨_, rfl⟩
          have HQ := Lib.hid hq
          have HNN := Lib.hid hN
          rw [hN] at hn2 HF
          rw [hN, hq, hg]
          rw [hq] at c5 hq3
          rw [hg] at r0 r1 hg3
          clear hb3 hs3 hb1 hc1 hf1 HB hv2 hq hg hN HL HDo HP
          go_loopw [13] (fun iv wr => Below w3.heap.size w3 wr ∧ ∃ j : Nat, j ≤ n + 1 ∧ iv = .int .i64 j ∧ Hid (∀ i, i < j → Tb.get l (pre n key i) = none)) (fun i _ => n + 1 - (intOf i).toNat)
          case atStart => exact ⟨Below.refl _ _, 0, by omega, rfl, Lib.hid fun i hi => by omega⟩
          case round =>
            obtain ⟨hbr, j, hj, rfl, HJ⟩ := hrel
            have i1 : (0 : Int) ≤ (j : Int) := by omega
            have hsr := hbr.size
            replace c5 := (hbr.cell hq3).trans c5
            replace r0 := (hbr.cell hg3).trans r0
            replace r1 := (hbr.cell hg3).trans r1
            replace hq3 : q < wr.heap.size := by omega
            replace hg3 : g < wr.heap.size := by omega
            by_cases hlt : j < n + 1
            · have i2 : (j : Int) ≤ (n : Int) := by omega
              have HOj := Lib.hid (fun X => HO.out j X (by omega))
              have hP := HPr.out j (by omega)
              have HLr := Lib.hid (HL3.out.below hbr)
              obtain ⟨k, hk⟩ : ∃ k, pre n key j = k := ⟨_, rfl⟩
              rw [hk] at HOj hP
              have HK := Lib.hid hk
              have hFj := fun X hA => HF.out k X hA
              have hw2 : IntKind.u64.wrap (k : Int) = (k : Int) := by rw [IntKind.wrap_u64]; omega
              have hjw : IntKind.i64.wrap ((j : Int) + 1) = ((j + 1 : Nat) : Int) := by rw [IntKind.wrap_i64]; omega
              clear hk
              rcases fnd_get l k with ⟨hf, hget⟩ | ⟨i, hi, hf, hik, hget⟩
              · rw [hf] at hFj
                have HFj := Lib.hid hFj
                have HGT := Lib.hid hget
                clear hget hFj hf
                go_wp2_with (first
                  | (go_at_call 21; refine (HOj.out _).mono ?_; rintro e w4 ⟨rfl, hb4⟩)
                  | (go_at_call 19; refine (HFj.out _ (HLr.out.below hb4)).mono ?_; rintro e w5 ⟨rfl, hb5⟩))
                go_roundw
                case rel => exact ⟨below_then (below_then hbr hb4) hb5, j + 1, by omega, by go_num, Lib.hid fun i hi => by
                  by_cases e : i = j
                  · subst e; rw [HK.out]; exact HGT.out
                  · exact HJ.out i (by omega)⟩
                case measure => simp [intOf]; omega
              · have hsk := pre_some (by omega) (by rw [HK.out]; exact hget) HJ.out
                rw [HS.out, HSN.out] at hsk
                cases hsk
            · obtain rfl : j = n + 1 := by omega
              have hsk := pre_none HJ.out
              rw [HS.out, HSN.out] at hsk
              clear hsk HO HPr HF HS HSN HH HJ
              go_wp2
              go_ret
              exact Ret.mk rfl (below_then HB3.out hbr)
        · have HSN := Lib.hid hsn
          clear hsn
          have hy0 : 0 ≤ y ∧ y < 4294967296 := by rw [hy]; omega
          have HY := Lib.hid hy
          clear hy
          go_enter Tryd.func8, Tryd.ntmps8
          go_wp2_with fail
          refine (alive_any _ (HP.out.below (below_one _ _))).mono ?_
          rintro e w1 ⟨rfl, hb1⟩
          obtain ⟨hc1, hf1⟩ := bcell hb1
          go_wp2_with fail
          have hb0 := below_then (below_one _ _) hb1
          refine (HDo.out w1 (HP.out.below hb0) (HL.out.below hb0)).mono ?_
          rintro e w2 ⟨u, rfl, hM2, hb2⟩
          replace hb1 := below_then hb1 hb2
          have hs2 := hb1.size
          have hv2 : w.heap.size < w2.heap.size := by simp at hs2; omega
          clear hc1 hf1 hM2 hb0 hb2 hs2
          obtain ⟨hc1, hf1⟩ := bcell hb1
          simp only [resv]
          have HB := Lib.hid (below_then (below_then (below_one _ _) hb1) (below_one _ (.cells #[.int .i64 0, .int .u32 y, .slice none 0 0] 29)))
          go_wp2_with (go_at_call 18; refine (HN.out _).mono ?_; rintro e w3 ⟨rfl, hb3⟩)
          have hs3 := hb3.size
          have c5 : w3.cell? ⟨w.heap.size, 5, none⟩ = some (.int .i64 n) := (hb3.cell (p := ⟨w.heap.size, 5, none⟩) (by simp; omega)).trans (((below_one w2 _).cell (p := ⟨w.heap.size, 5, none⟩) hv2).trans ((hc1 _ _ (by simp)).trans (by simp [go_sem])))
          have r0 : w3.cell? ⟨w2.heap.size, 0, none⟩ = some (.int .i64 0) := (hb3.cell (p := ⟨w2.heap.size, 0, none⟩) (by simp)).trans (by simp [go_sem])
          have r1 : w3.cell? ⟨w2.heap.size, 1, none⟩ = some (.int .u32 y) := (hb3.cell (p := ⟨w2.heap.size, 1, none⟩) (by simp)).trans (by simp [go_sem])
          have hq3 : w.heap.size < w3.heap.size := World.block_lt_of_cell? _ _ c5
          have hg3 : w2.heap.size < w3.heap.size := World.block_lt_of_cell? _ _ r0
          have HB3 := Lib.hid (below_then HB.out hb3)
          have HL3 := Lib.hid (HL.out.below HB3.out)
          obtain ⟨q, hq⟩ : ∃ q, w.heap.size = q := ⟨_, rfl⟩
          obtain ⟨g, hg⟩ : ∃ g, w2.heap.size = g := ⟨_, rfl⟩
          obtain ⟨N, hN⟩ : ∃ N, l.length = N := ⟨_, rfl⟩
          have HQ := Lib.hid hq
          have HNN := Lib.hid hN
          rw [hN] at hn2 HF
          rw [hN, hq, hg]
          rw [hq] at c5 hq3
          rw [hg] at r0 r1 hg3
          clear hb3 hs3 hb1 hc1 hf1 HB hv2 hq hg hN HL HDo HP
          go_loopw [13] (fun iv wr => Below w3.heap.size w3 wr ∧ ∃ j : Nat, j ≤ n + 1 ∧ iv = .int .i64 j ∧ Hid (∀ i, i < j → Tb.get l (pre n key i) = none)) (fun i _ => n + 1 - (intOf i).toNat)
          case atStart => exact ⟨Below.refl _ _, 0, by omega, rfl, Lib.hid fun i hi => by omega⟩
          case round =>
            obtain ⟨hbr, j, hj, rfl, HJ⟩ := hrel
            have i1 : (0 : Int) ≤ (j : Int) := by omega
            have hsr := hbr.size
            replace c5 := (hbr.cell hq3).trans c5
            replace r0 := (hbr.cell hg3).trans r0
            replace r1 := (hbr.cell hg3).trans r1
            replace hq3 : q < wr.heap.size := by omega
            replace hg3 : g < wr.heap.size := by omega
            by_cases hlt : j < n + 1
            · have i2 : (j : Int) ≤ (n : Int) := by omega
              have HOj := Lib.hid (fun X => HO.out j X (by omega))
              have hP := HPr.out j (by omega)
              have HLr := Lib.hid (HL3.out.below hbr)
              obtain ⟨k, hk⟩ : ∃ k, pre n key j = k := ⟨_, rfl⟩
              rw [hk] at HOj hP
              have HK := Lib.hid hk
              have hFj := fun X hA => HF.out k X hA
              have hw2 : IntKind.u64.wrap (k : Int) = (k : Int) := by rw [IntKind.wrap_u64]; omega
              have hjw : IntKind.i64.wrap ((j : Int) + 1) = ((j + 1 : Nat) : Int) := by rw [IntKind.wrap_i64]; omega
              clear hk
              rcases fnd_get l k with ⟨hf, hget⟩ | ⟨i, hi, hf, hik, hget⟩
              · rw [hf] at hFj
                have HFj := Lib.hid hFj
                have HGT := Lib.hid hget
                clear hget hFj hf
                go_wp2_with (first
                  | (go_at_call 21; refine (HOj.out _).mono ?_; rintro e w4 ⟨rfl, hb4⟩)
                  | (go_at_call 19; refine (HFj.out _ (HLr.out.below hb4)).mono ?_; rintro e w5 ⟨rfl, hb5⟩))
                go_roundw
                case rel => exact ⟨below_then (below_then hbr hb4) hb5, j + 1, by omega, by go_num, Lib.hid fun i hi => by
                  by_cases e : i = j
                  · subst e; rw [HK.out]; exact HGT.out
                  · exact HJ.out i (by omega)⟩
                case measure => simp [intOf]; omega
              · have hsk := pre_some (by omega) (by rw [HK.out]; exact hget) HJ.out
                rw [HS.out, HSN.out] at hsk
                have hv : v = l[i].2 := by injection hsk
                have hu : l[i].2 ≤ 2147483647 := HH.out _ (List.getElem_mem hi)
                obtain ⟨bk, off, rfl, x0, x1⟩ := HLr.out.row hi
                have hiN : i < N := by rw [← HNN.out]; exact hi
                generalize l[i].2 = u at *
                subst hv
                have hy2 : y = (v : Int) + 1 := by rw [HY.out]; omega
                have hw3 : IntKind.u64.wrap ((v : Int) + 1) = (v : Int) + 1 := by rw [IntKind.wrap_u64]; omega
                subst hy2
                rw [hf] at hFj
                have HFj := Lib.hid hFj
                have hi1 : (0 : Int) ≤ (i : Int) := by omega
                have hi2 : (i : Int) < (N : Int) := by omega
                have hbk := World.block_lt_of_cell? _ _ x1
                clear hget hFj hf hsk x0 hi hik
                go_wp2_with (first
                  | (go_at_call 21; refine (HOj.out _).mono ?_; rintro e w4 ⟨rfl, hb4⟩)
                  | (go_at_call 19; refine (HFj.out _ (HLr.out.below hb4)).mono ?_; rintro e w5 ⟨rfl, hb5⟩; replace hb5 := below_then hb4 hb5; replace x1 := (hb5.cell hbk).trans x1; replace r0 := (hb5.cell hg3).trans r0; replace r1 := (hb5.cell hg3).trans r1))
                go_quiet (fail)
                go_wp2
                go_ret
                exact Ret.mk (by simp) ((below_then (below_then HB3.out hbr) hb5).trans ⟨rfl, rfl, rfl, Nat.le_refl _, fun _ _ => rfl⟩)
            · obtain rfl : j = n + 1 := by omega
              have hsk := pre_none HJ.out
              rw [HS.out, HSN.out] at hsk
              cases hsk
      · generalize doR c l ⟨3, key, 0, 0⟩ = s at *
        obtain ⟨rows, x, y⟩ := s
        simp only at hr
        subst hr
        have hk2 : ¬ (key : Int) < ((2 ^ n : Nat) : Int) := by omega
        have hkw : IntKind.u64.wrap (key : Int) = (key : Int) := by rw [IntKind.wrap_u64]; omega
        clear HF hmax hkey
        unfold cfv opv at *
        rw [hcn] at hDo ⊢
        have HDo := Lib.hid hDo
        clear hDo hcn hk
        have HX : ∃ m : Nat, m = 2 ^ n ∧ ¬ (key : Int) < (m : Int) := ⟨_, rfl, hk2⟩
        obtain ⟨m, hm, hk3⟩ := HX
        clear hk2
        rcases (by omega : n = 0 ∨ n = 1 ∨ n = 2 ∨ n = 3 ∨ n = 4 ∨ n = 5 ∨ n = 6) with rfl | rfl | rfl | rfl | rfl | rfl | rfl
        all_goals
          simp only [Nat.reducePow] at hm
          subst hm
          go_enter Tryd.func8, Tryd.ntmps8
          go_wp2_with fail
          refine (alive_any _ (HP.out.below (below_one _ _))).mono ?_
          rintro e w1 ⟨rfl, hb1⟩
          obtain ⟨hc1, hf1⟩ := bcell hb1
          go_wp2_with fail
          have hb0 := below_then (below_one _ _) hb1
          refine (HDo.out w1 (HP.out.below hb0) (HL.out.below hb0)).mono ?_
          rintro e w2 ⟨u, rfl, hM2, hb2⟩
          replace hb1 := below_then hb1 hb2
          have hs2 := hb1.size
          have hv2 : w.heap.size < w2.heap.size := by simp at hs2; omega
          clear hc1 hf1 hM2 hb0 hb2 hs2
          obtain ⟨hc1, hf1⟩ := bcell hb1
          simp only [resv]
          have HB := Lib.hid (below_then (below_then (below_one _ _) hb1) (below_one _ (.cells #[.int .i64 10, .int .u32 y, .slice none 0 0] 29)))
          go_wp2
          go_ret
          exact Ret.mk (by simp; try omega) HB.out
    · generalize doR c l ⟨3, key, 0, 0⟩ = s at *
      obtain ⟨rows, x, y⟩ := s
      generalize doE c l = er at *
      have HDo := Lib.hid hDo
      clear HF ht hDo h hp hA hn hkey
      unfold cfv opv at *
      go_enter Tryd.func8, Tryd.ntmps8
      go_wp2_with fail
      refine (alive_any _ (HP.out.below (below_one _ _))).mono ?_
      rintro e w1 ⟨rfl, hb1⟩
      obtain ⟨hc1, hf1⟩ := bcell hb1
      go_wp2_with fail
      have hb0 := below_then (below_one _ _) hb1
      refine (HDo.out w1 (HP.out.below hb0) (HL.out.below hb0)).mono ?_
      rintro e w2 ⟨u, rfl, hM2, hb2⟩
      replace hb1 := below_then hb1 hb2
      have hs2 := hb1.size
      have hv2 : w.heap.size < w2.heap.size := by simp at hs2; omega
      clear hc1 hf1 hM2 hb0 hb2 hs2
      obtain ⟨hc1, hf1⟩ := bcell hb1
      simp only [resv]
      have HB := Lib.hid (below_then (below_then (below_one _ _) hb1) (below_one _ (.cells #[.int .i64 x, .int .u32 y, .slice none 0 0] 29)))
      go_wp2
      go_ret
      exact Ret.mk rfl HB.out

set_option maxRecDepth 100000 in
theorem lifted (os : Os) (started : os.Started) (H : Type) (enc : TypeId × Value → H) :
    ReturnsInHanded {} Tryd.checked os 8 .any (fun w args => (Rows.tableFindsSpec.pre enc Tryd.prog Tryd.f8 [] false w args ∧ laidMetH Tryd.prog laidL w) ∧ sizedMet enc Tryd.prog Tryd.f8 (OpenSpec.ofChange Rows.tableFindsSpec) false w args)
      (Rows.tableFindsSpec.post enc Tryd.prog Tryd.f8 false true false false) := by
  refine returnsInHanded_of_change_and (C := Tryd.checked) (X := fun w _ => laidMetH Tryd.prog laidL w) (fun _ _ _ hh h => h.of_heap hh) own started (by kernel_rfl) Tryd.func8
    (ChangeSpec.witness_shaped (enc := enc) (C := Tryd.checked) (os := os) (X := fun w _ => laidMetH Tryd.prog laidL w) false (World.doorLaid Tryd.prog 400 os) #[.agg #[.int .u8 0, .int .i64 0, .int .i64 0, .int .u8 0, .int .i64 0, .int .i64 0, .int .i64 0, .int .i64 0, .int .i64 0, .int .i64 0, .int .u64 0, .int .u64 0], .slice none 0 0, .int .u32 0] 8 rfl (World.shaped_of_RefB (by kernel_rfl) (by kernel_rfl)) (by kernel_rfl) (by kernel_rfl) (by kernel_rfl) (door_met os _)) ?_
  intro W base args ds gs before hval0 hW _ _ hL _
  refine law_of laidOut (by kernel_rfl) (by kernel_rfl) Tryd.underlying4 rfl ?_ hW fun p hA => ?_
  · intro ds hd
    match ds, hd with
    | [_, _, _], _ => rfl
  have hval' : ∀ (j : Nat) t v, Tryd.f8.params[j]? = some t → args[j]? = some v → Value.okWide Tryd.prog W .any base t v := hval0
  rw [Tryd.params8] at hA hval'
  obtain ⟨v0, vs0, d0, ds0, p0, q0, hargs, rfl, rfl, h0, r0⟩ := trodAll_cons hA
  obtain ⟨v1, vs1, d1, ds1, p1, q1, rfl, rfl, rfl, h1, r1⟩ := trodAll_cons r0
  obtain ⟨v2, vs2, d2, ds2, p2, q2, rfl, rfl, rfl, h2, r2⟩ := trodAll_cons r1
  obtain ⟨rfl, rfl, rfl⟩ := trodAll_nil r2
  obtain rfl : args = #[v0, v1, v2] := by cases args; simp_all
  obtain ⟨c, rfl⟩ := open_cfg (hval' 0 _ v0 rfl rfl) h0
  obtain ⟨A, d, l, rfl, hd, hAn, hl⟩ := open_tab (hval' 1 _ v1 rfl rfl) h1
  obtain ⟨z2, rfl, _, _, w2⟩ := open_int (k := .u32) Tryd.underlying27 (hval' 2 _ v2 rfl rfl) h2
  obtain ⟨key, rfl, hk⟩ := u32_nat w2
  exact walk c A d l key hk hd hAn W (of_laid hL) hl

theorem row : Rows.TableFindsSaid :=
  OpenClaim.holds_of_wide 8 Tryd.f8 rfl rfl rfl rfl rfl rfl rfl ⟨rfl, rfl, rfl, rfl, rfl⟩ rfl rfl rfl rfl rfl (by kernel_rfl) Tryd.func8 (by kernel_rfl)
    (of_decide_eq_true (by kernel_rfl)) (by unfold Func.isWrapper; first | (rw [if_pos (by decide +kernel)]; kernel_rfl) | (rw [if_neg (by decide +kernel)]; exact ⟨rfl, rfl⟩))
    (fun os started H enc _ => lifted os started H enc)

theorem card : Rows.TableFindsCardSaid :=
  Claim7.holds_tied_plain_at .later [] [.data] true Rows.tableFindsCard.stood.harness false
    row (fun _ h => by cases h) (by kernel_rfl) (fun _ h => by cases h) tableFinds_row_tie rfl ⟨rfl, rfl⟩ (by kernel_rfl) rfl
    (fun f fn hf hfn => by
      obtain rfl : f = 8 := Option.some.inj ((show Tryd.prog.funcNamed "bascule/basculelaw06.TableFinds" = some 8 by kernel_rfl).symm.trans hf) |>.symm
      obtain rfl : fn = Tryd.f8 := (Option.some.inj (Tryd.func8.symm.trans hfn)).symm
      exact ⟨by kernel_rfl, fun j t ht => by
        rw [Tryd.params8] at ht
        have hm : t ∈ [33, 25, 27] := by simpa using Array.mem_of_getElem? ht
        have hall : ([33, 25, 27].all fun u => !Tryd.prog.wantsStandIn u) = true := by kernel_rfl
        exact (show Tryd.prog.wantsStandIn t = false by simpa using List.all_eq_true.1 hall t hm)⟩)
    (by kernel_rfl)
#print axioms card

end Go.Proofs.YtfjpcdcaoefelaaDoor.tableFinds
