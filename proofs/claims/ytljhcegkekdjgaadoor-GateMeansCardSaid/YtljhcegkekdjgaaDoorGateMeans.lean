/- For any config and up to forty operations, done alone one behind the other, from noughts on: a program of a set of access rules leaves, and answers, what the model says: the cells that hold a rule are its rows, in any order. -/
import Derived.Test.YtljhcegkekdjgaaDoorGtMl
import Derived.Test.YtljhcegkekdjgaaDoorGRuP
import Derived.Test.YtljhcegkekdjgaaDoorGTab
import Derived.Test.YtljhcegkekdjgaaDoorGOpen
import Derived.Deep.RegionHeld3
import Derived.Deep.DeepCutAuto
namespace Go.Proofs.YtljhcegkekdjgaaDoor.gateMeans
open Go.ChangeShapes Go.WideShapes Go.ChangeAt Go.RowKit Go.Lib Pt Opn Tb

/-- What a round finds: the rows, the cells, their slices. -/
def InvM (c : Cf) (w : World) (rows : List R) (cs : List Q4) (B : Option Addr) (n e : Nat) (A : Option Addr) (d : Nat) (wr : World) : Prop :=
  IsRu c rows ∧ RelG c rows cs ∧ rows.length = n ∧ (B = none → n = 0 ∧ e = 0) ∧ IsR wr B rows ∧ (A = none → cs.length = 0 ∧ d = 0) ∧ IsL wr A 4 q4L cs ∧ Below w.heap.size w wr

set_option maxRecDepth 100000 in
set_option maxHeartbeats 16000000 in
theorem walk (c : Cf) (A : Option Addr) (d : Nat) (l : List OW) (hAn : A = none → l.length = 0 ∧ d = 0) (w : World) (hO : Obs w) (h : IsL w A 4 opc l) :
    Calls Tryd.prog 7 #[cfv c, .slice A l.length d] w (Ret (.bool true) w) := by
  have HOb := Lib.hid hO
  obtain ⟨N, hN⟩ : ∃ N, l.length = N := ⟨_, rfl⟩
  rw [hN] at hAn ⊢
  have HI := Lib.hid (And.intro hN (And.intro hAn h))
  have HT := Lib.hid (fun W => uIs_any c none [] 0 (by simp) (fun _ h => by cases h) W (IsL.nil _ _ _ _))
  obtain ⟨b, hb⟩ : ∃ b, ruB c [] = b := ⟨_, rfl⟩
  rw [hb] at HT
  have HBB := Lib.hid hb
  clear hO hN hAn h hb
  unfold cfv at *
  simp only [List.length_nil] at HT
  go_enter Tryd.func7, Tryd.ntmps7
  go_wp2_with fail
  refine (galive_any _ (HOb.out.alloc' _)).mono ?_
  rintro e w1 ⟨rfl, hb1⟩
  have hr0 := (hb1.block w.heap.size (by simp)).trans (heap_alloc_new w _)
  have hB1 := below_then (below_one w _) hb1
  obtain ⟨c0, c1, c2, c3, c4, c5, c6, c7, c8, c9, c10, c11⟩ := cells12 hr0
  have hs0 := (Array.getElem?_eq_some_iff.1 hr0).1
  clear hb1
  by_cases hn : 40 < N
  · have n1 : (40 : Int) < (N : Int) := by omega
    go_wp2_with fail
    go_ret
    exact Ret.mk rfl hB1
  have n1 : ¬ (40 : Int) < (N : Int) := by omega
  go_wp2_with fail
  refine (HT.out _).mono ?_
  rintro e w2 ⟨rfl, hb2⟩
  replace hr0 := (hb2.block w.heap.size hs0).trans hr0
  have hB2 := below_then hB1 hb2
  clear c0 c1 c2 c3 c4 c5 c6 c7 c8 c9 c10 c11 hs0 hb2 hB1 HT
  obtain ⟨c0, c1, c2, c3, c4, c5, c6, c7, c8, c9, c10, c11⟩ := cells12 hr0
  have hs0 := (Array.getElem?_eq_some_iff.1 hr0).1
  cases hb : b with
  | false =>
    subst hb
    go_wp2_with fail
    go_ret
    exact Ret.mk rfl hB2
  | true =>
    subst hb
    have ht0 : IsRu c [] := of_decide_eq_true HBB.out
    have hcap : 1 ≤ c.cap ∧ c.cap ≤ 32 := by have := ht0.1.2.2; unfold RestOk at this; omega
    obtain ⟨Z, hZ⟩ : ∃ Z : Nat, c.cap = Z := ⟨c.cap.toNat, by omega⟩
    have hZ32 : 1 ≤ Z ∧ Z ≤ 32 := by omega
    have HMK := Lib.hid (fun W => (show (Instr.makeSlice 47 (.int .i64 c.cap) (.int .i64 c.cap)).run Tryd.prog W = .ok (.slice (some ⟨W.heap.size, 0, none⟩) Z Z) (W.alloc (.cells (madeCells #[.int .u64 0, .int .u64 0, .int .u64 0, .int .u64 0] (Z * 4)) 37)) by rw [hZ]; exact grun_make Z (by omega) W))
    have HZ := Lib.hid (And.intro hZ hZ32)
    have HT0 := Lib.hid ht0
    clear hZ ht0 hcap hZ32 HBB
    have HMK' := HMK.out w2
    go_wp2_with fail
    go_loopw [6, 7, 8] (fun s6 s7 s8 wr => ∃ (k : Nat) (rows : List R) (cs : List Q4) (B : Option Addr) (n e : Nat) (A6 : Option Addr) (d6 : Nat), k ≤ N ∧ s6 = .slice A6 Z d6 ∧ s7 = .slice B n e ∧ s8 = .int .i64 k ∧ Hid (InvM c w rows cs B n e A6 d6 wr ∧ cs.length = Z ∧ n ≤ k ∧ wr.heap[w.heap.size]? = some (.cells #[.int .u8 c.obj, .int .i64 c.inst, .int .i64 c.thr, .int .u8 c.kind, .int .i64 c.str, .int .i64 c.bits, .int .i64 c.cap, .int .i64 c.node, .int .i64 c.bat, .int .i64 c.chunk, .int .u64 c.lim, .int .u64 c.most] 30 (0, 0)))) (fun _ _ iv _ => N - (RowKit.intOf iv).toNat)
    case atStart =>
      refine ⟨0, [], List.replicate Z (0, 0, 0, 0), none, 0, 0, some ⟨w2.heap.size, 0, none⟩, Z, Nat.zero_le _, rfl, rfl, rfl, Lib.hid ⟨⟨HT0.out, ?_, rfl, fun _ => ⟨rfl, rfl⟩, IsL.nil _ _ _ _, (fun e => by cases e), gisl_zeros w2 _ rfl Z _, below_then hB2 (below_one _ _)⟩, List.length_replicate, Nat.le_refl _, ((below_one w2 _).block _ (Array.getElem?_eq_some_iff.1 hr0).1).trans hr0⟩⟩
      have := relG_none c (by have := HZ.out; omega)
      rw [show c.cap.toNat = Z by have := HZ.out; omega] at this
      exact this
    case round =>
      obtain ⟨k, rows, cs, B, n, e, A6, d6, hk, rfl, rfl, rfl, HR⟩ := hrel
      have i1 : (0 : Int) ≤ (k : Int) := by omega
      by_cases hlt : k < N
      · have i2 : (k : Int) < (N : Int) := by omega
        --ROUND
        obtain ⟨hinv, hcl, hnk, hr1⟩ := HR.out
        obtain ⟨m1, m2, m3, m4, m5, m6, m7, m8⟩ := hinv
        subst m3
        obtain ⟨hN, hAn, hA⟩ := HI.out
        have hkl : k < l.length := by omega
        obtain ⟨bo, oo, rfl, hox⟩ := (hA.below m8) k l[k] (List.getElem?_eq_getElem hkl)
        obtain ⟨⟨o, ho⟩, heo⟩ : ∃ x, x = l[k] := ⟨_, rfl⟩
        rw [← heo] at hox
        have o0 := hox 0 _ rfl
        have o1 := hox 1 _ rfl
        have o2 := hox 2 _ rfl
        have o3 := hox 3 _ rfl
        simp only [Nat.add_zero] at o0
        have hbo : bo < wr.heap.size := World.block_lt_of_cell? _ _ o0
        have hqr := (Array.getElem?_eq_some_iff.1 hr1).1
        obtain ⟨c0, c1, c2, c3, c4, c5, c6, c7, c8, c9, c10, c11⟩ := cells12 hr1
        have hE0 : doUE c rows = 0 := by unfold doUE; rw [if_neg (not_not_intro ⟨m1.1, m1.2.1⟩), if_neg (not_not_intro m1)]
        have HD := Lib.hid (fun X (kp : wr.heap.size ≤ X.heap.size ∧ ∀ b j, b < wr.heap.size → X.cell? ⟨b, j, none⟩ = wr.cell? ⟨b, j, none⟩) => udo_any c B rows e o ho m4 (by omega) (fun x hx => by have := (m1.2.2.2.2 x hx).1; omega) X ((HOb.out.below m8).keep kp) (m5.keep kp))
        rw [hE0] at HD
        obtain ⟨s, hs⟩ : ∃ s, doUR c rows o = s := ⟨_, rfl⟩
        rw [hs] at HD
        obtain ⟨rows', x, y⟩ := s
        unfold Did4 resv cfv opv at HD
        simp only at HD
        have HINV := Lib.hid (And.intro m1 (And.intro m2 (And.intro m4 (And.intro m5 (And.intro m6 (And.intro m7 (And.intro m8 (And.intro hcl (And.intro hnk (And.intro hr1 hs))))))))))
        have HOP := Lib.hid ho
        generalize hna : rows.length = na at *
        have HNA := Lib.hid hna
        clear hox heo hE0 m1 m2 m4 m5 m6 m7 m8 hcl hnk hr1 hs hN hAn hA hna HR
        go_wp2_with fail
        go_cut [9, 10, 11] (fun s9 s10 s11 wx => ∃ u g, s9 = u ∧ s10 = .pointer (some ⟨g, 0, none⟩) ∧ s11 = .int .i64 0 ∧ Hid (LfR wr wx u rows' g x y))
        case first =>
          go_region_held3 (fun X => wr.heap.size ≤ X.heap.size ∧ ∀ b o, b < wr.heap.size → X.cell? ⟨b, o, none⟩ = wr.cell? ⟨b, o, none⟩)
            (first
              | with_reducible exact keep0 wr
              | with_reducible exact keep1 wr _
              | with_reducible exact keep_below hb3 (keep1 wr _)
              | with_reducible exact keep_below hb3 (keep0 wr)
              | with_reducible exact keep_alloc (keep_below hb3 (keep0 wr)) _
              | with_reducible exact keep_set (keep_set (keep_set (keep_below hb3 (keep1 wr _)) _ 0 _ (Nat.le_refl _)) _ 1 _ (Nat.le_refl _)) _ 2 _ (Nat.le_refl _)
              | fail)
            (first | ((with_reducible refine (HD.out _ ?_).mono ?_); (first | with_reducible exact keep0 wr | with_reducible exact keep1 wr _); rintro e' w3 ⟨u, rfl, hM3, hb3⟩; have HM3 := Lib.hid (IsRV.of hM3); clear hM3; obtain ⟨hc3, hf3⟩ := bcell hb3))
          all_goals
            go_wp2_with fail
            go_meet
            first
              | with_reducible exact ⟨_, _, rfl, rfl, rfl, Lib.hid (lfr_last x y HM3.out hb3 _)⟩
              | with_reducible exact ⟨_, _, rfl, rfl, rfl, Lib.hid (lfr_first x y HM3.out hb3)⟩
        case rest =>
          obtain ⟨u7, g7, rfl, rfl, rfl, HL7⟩ := hcut
          obtain ⟨W8, hW8⟩ : ∃ X, X = wc := ⟨_, rfl⟩
          subst hW8
          obtain ⟨hv7, hbx, t0, t1, t2⟩ := HL7.out
          have hg7 := World.block_lt_of_cell? _ _ t0
          have hx8 := hbx.size
          clear c0 c1 c2 c3 c4 c5 c6 c7 c8 c9 c10 c11 HD
          replace o0 := (hbx.cell hbo).trans o0
          replace o1 := (hbx.cell hbo).trans o1
          replace o2 := (hbx.cell hbo).trans o2
          replace o3 := (hbx.cell hbo).trans o3
          have hbo8 : bo < W8.heap.size := by omega
          obtain ⟨m1, m2, m4, m5, m6, m7, m8, hcl, hnk, hr1, hs⟩ := HINV.out
          have hr8 := (hbx.block _ hqr).trans hr1
          have hqr8 : w.heap.size < W8.heap.size := by omega
          obtain ⟨c0, c1, c2, c3, c4, c5, c6, c7, c8, c9, c10, c11⟩ := cells12 hr8
          have hbx8 := below_then m8 hbx
          have HV7 := Lib.hid hv7
          have HBX := Lib.hid hbx
          have HB8 := Lib.hid hbx8
          have HR8 := Lib.hid hr8
          by_cases hxx : x = 50 ∨ x = 10
          · have HREL := Lib.hid (show InvM c w rows cs B na e A6 d6 W8 ∧ cs.length = Z ∧ na ≤ k + 1 ∧ W8.heap[w.heap.size]? = _ from ⟨⟨m1, m2, HNA.out, m4, m5.below hbx, m6, m7.below hbx, hbx8⟩, hcl, by omega, hr8⟩)
            have HK := Lib.hid (show k + 1 ≤ N by omega)
            clear m1 m2 m4 m5 m6 m7 m8 hcl hnk hr1 hs hbx hbx8 hr8 hv7
            rcases hxx with rfl | rfl
            · go_wp2_with fail
              go_roundw
              case rel => exact ⟨k + 1, rows, cs, B, na, e, A6, d6, HK.out, rfl, rfl, by go_num, HREL⟩
              case measure => simp [RowKit.intOf]; omega
            · go_wp2_with fail
              go_roundw
              case rel => exact ⟨k + 1, rows, cs, B, na, e, A6, d6, HK.out, rfl, rfl, by go_num, HREL⟩
              case measure => simp [RowKit.intOf]; omega
          · have hx1 : x ≠ 50 := fun g => hxx (.inl g)
            have hx2 : x ≠ 10 := fun g => hxx (.inr g)
            have hx3 : (x == 50) = false := by simpa using hx1
            have hx4 : (x == 10) = false := by simpa using hx2
            have hb0 := doUR_code m1 hs hx1 hx2
            obtain ⟨cs', ⟨pa, pb⟩, v, hgo, hv, hR'⟩ := meansG m1 m2 hb0
            rw [hs] at hgo hv hR'
            simp only at hgo hv hR'
            subst hv
            have hT' := doUR_tab o m1
            have hlen' := doUR_len c rows o
            rw [hs] at hT' hlen'
            simp only at hT' hlen'
            have hcl' : cs'.length = Z := by have h1 := m2.1; have h2 := hR'.1; omega
            have hZ0 : 0 < cs'.length := by have := HZ.out; omega
            have HDN := Lib.hid (fun X (kp : W8.heap.size ≤ X.heap.size ∧ ∀ b j, b < W8.heap.size → X.cell? ⟨b, j, none⟩ = W8.cell? ⟨b, j, none⟩) => doneG_any c A6 d6 cs o HOP.out (by have := HZ.out; omega) m6 (relG_wf m2) X ((HOb.out.below hbx8).keep kp) ((m7.below hbx).keep kp))
            rw [hgo, hcl] at HDN
            unfold DoneG cfv opv at HDN
            simp only at HDN
            rw [hcl'] at HDN
            have HN2 := Lib.hid (And.intro hT' (And.intro hR' (And.intro hlen' (And.intro hcl' (And.intro hZ0 (And.intro HNA.out hnk))))))
            clear m1 m2 m4 m5 m6 m7 m8 hcl hnk hr1 hs hbx hbx8 hr8 hv7 hxx hx1 hx2 hb0 hgo hR' hT' hlen' hcl' hZ0 HINV HNA
            go_wp2_with fail
            go_cut [12, 13, 14, 15] (fun s12 s13 s14 s15 wx => ∃ A d g q, s12 = .slice A Z d ∧ s13 = .pointer (some ⟨g, 0, none⟩) ∧ s14 = .pointer (some ⟨q, 0, none⟩) ∧ s15 = .bool true ∧ Hid ((A = none → cs'.length = 0 ∧ d = 0) ∧ LfC W8 wx A cs' g x v ∧ W8.heap.size ≤ q))
            case first =>
              go_region_held3 (fun X => W8.heap.size ≤ X.heap.size ∧ ∀ b o, b < W8.heap.size → X.cell? ⟨b, o, none⟩ = W8.cell? ⟨b, o, none⟩)
                (first
                  | ((repeat' (first
                      | with_reducible refine keep_drew ?_
                      | with_reducible refine keep_set ?_ _ _ _ ?_
                      | with_reducible refine keep_alloc ?_ _
                      | with_reducible refine keep_below hb3 ?_
                      | with_reducible exact keep_refl _
                      | (first | with_reducible exact Nat.le_refl _ | omega | (simp; omega) | (simp; done))));
                     done)
                  | fail)
                (first | ((with_reducible refine (HDN.out _ ?_).mono ?_); (repeat' (first | with_reducible refine keep_drew ?_ | with_reducible refine keep_alloc ?_ _ | with_reducible exact keep_refl _)); rintro e' w3 ⟨A3, d3, rfl, hA3, hI3, hb3⟩; have HI3 := Lib.hid hI3; have HA3 := Lib.hid hA3; clear hI3 hA3; obtain ⟨hc3, hf3⟩ := bcell hb3; have hs3 := hb3.size; (try simp at hs3); (try have qa1 : W8.heap.size < w3.heap.size := by omega); (try have qa2 : W8.heap.size + 1 < w3.heap.size := by omega)))
              all_goals
                clear hc3 hf3
                go_wp2_with fail
                go_meet
                refine ⟨A3, d3, _, _, rfl, rfl, rfl, rfl, Lib.hid ⟨fun g => by rw [HN2.out.2.2.2.1]; exact HA3.out g, lfc_of2 HI3.out HN2.out.2.2.2.2.1 ?_ ?_ ?_ ?_ ?_ ?_ ?_⟩⟩
                · repeat' (first
                    | with_reducible refine bw_below hb3 ?_
                    | with_reducible refine bw_alloc ?_
                    | with_reducible refine bw_drew ?_
                    | with_reducible exact Below.refl _ _)
                · repeat' (first
                    | with_reducible refine Only.drew ?_
                    | with_reducible refine Only.alloc ?_ _
                    | with_reducible refine only_set2' ?_ _ _
                    | with_reducible refine only_set2 ?_ _ _
                    | with_reducible exact Only.refl _ _)
                · first | omega | (simp; omega) | (simp; done)
                · first | omega | (simp; omega) | (simp; done)
                · first
                    | (right; first | omega | (simp; done))
                    | (left
                       repeat' (first
                         | with_reducible refine BkR.below hb3 ?_
                         | with_reducible refine BkR.drew ?_
                         | (with_reducible refine BkR.newR ?_; first | rfl | (simp; done))
                         | with_reducible refine BkR.alloc ?_))
                · first
                    | (right; first | omega | (simp; done))
                    | (left
                       repeat' (first
                         | with_reducible refine BkR.below hb3 ?_
                         | with_reducible refine BkR.drew ?_
                         | (with_reducible refine BkR.newT ?_; first | rfl | (simp; done))
                         | with_reducible refine BkR.alloc ?_))
                · repeat' (first
                    | with_reducible refine Cx.drew ?_
                    | with_reducible refine Cx.set ?_
                    | (with_reducible refine Cx.new ?_; first | rfl | (simp; done))
                    | with_reducible refine Cx.alloc ?_
                    | with_reducible refine Cx.other ?_ ?_
                    | with_reducible refine BkR.drew ?_
                    | with_reducible refine BkR.other ?_ ?_
                    | (with_reducible refine BkR.newR ?_; first | rfl | (simp; done))
                    | with_reducible refine BkR.below hb3 ?_
                    | with_reducible refine BkR.alloc ?_
                    | omega
                    | (simp; done)
                    | (simp; omega))
            case rest =>
              obtain ⟨A9, d9, g9, q9, rfl, rfl, rfl, rfl, HL9⟩ := hcut
              obtain ⟨W9, hW9⟩ : ∃ X, X = wc := ⟨_, rfl⟩
              subst hW9
              obtain ⟨hA9, ⟨hI9, hby, s0, s1, s2⟩, -⟩ := HL9.out
              obtain ⟨hT', hR', hlen', hcl', hZ0, hna, hnk⟩ := HN2.out
              replace t0 := (hby.cell hg7).trans t0
              replace t1 := ((bcell hby).1 _ _ hg7).trans t1
              replace t2 := ((bcell hby).1 _ _ hg7).trans t2
              have hr9 := (hby.block _ hqr8).trans HR8.out
              have hb9 := below_then HB8.out hby
              obtain ⟨A7, d7, rfl, hd7, hA7, hI7⟩ := HV7.out.below hby
              have hrl : rows'.length ≤ 1000 := by omega
              have HSE := Lib.hid (fun W => rSameRes_any x (v : Int) x (v : Int) none none [] [] 0 0 (by simp) W (IsL.nil _ _ _ _) (IsL.nil _ _ _ _))
              have HTL := Lib.hid (fun W hI => gtell_any cs' (by have := HZ.out; omega) hR'.2.1 (keys_once hT'.2.2.2.1 hR') A9 d9 W hI)
              rw [told_relG hT'.2.2.2.1 hR', hcl'] at HTL
              have HSW := Lib.hid (fun A d W hI hJ => rSameRows_any A A7 rows' rows' d d7 (by omega) W hI hJ)
              simp only [and_self, decide_true, List.length_nil] at HSE HSW
              unfold resv at HSE
              have HI9 := Lib.hid hI9
              have HI7 := Lib.hid hI7
              have HRL := Lib.hid (And.intro hT' (And.intro hR' (And.intro hA7 (And.intro hA9 (And.intro hb9 (And.intro hr9 (And.intro hcl' (show rows'.length ≤ k + 1 by omega))))))))
              have hg9 := World.block_lt_of_cell? _ _ s0
              have hg7 := Nat.lt_of_lt_of_le hg7 hby.size
              clear c0 c1 c2 c3 c4 c5 c6 c7 c8 c9 c10 c11 o0 o1 o2 o3 hI9 hI7 hT' hR' hA7 hA9 hb9 hr9 hcl' hlen' hZ0 hna hnk hd7 hby HDN HL9 HN2 hrl
              go_wp2_with fail
              refine (HTL.out _ HI9.out).mono ?_
              rintro e' w11 ⟨u12, rfl, hM12, hb11⟩
              obtain ⟨A12, d12, rfl, _, _, hI12⟩ := hM12
              have HI12 := Lib.hid hI12
              replace t0 := (hb11.cell hg7).trans t0
              replace t1 := ((bcell hb11).1 _ _ hg7).trans t1
              replace t2 := ((bcell hb11).1 _ _ hg7).trans t2
              replace s0 := (hb11.cell hg9).trans s0
              replace s1 := ((bcell hb11).1 _ _ hg9).trans s1
              replace s2 := ((bcell hb11).1 _ _ hg9).trans s2
              clear hI12
              go_wp2_with (first
                | (go_at_call 21; refine (HSE.out _).mono ?_; rintro e' w12 ⟨rfl, hb12⟩)
                | (go_at_call 22; refine (HSW.out _ _ _ (HI12.out.below hb12) ((HI7.out.below hb11).below hb12)).mono ?_; rintro e' w13 ⟨rfl, hb13⟩))
              obtain ⟨hT', hR', hA7, hA9, hb9, hr9, hcl', hk'⟩ := HRL.out
              refine ⟨⟨k + 1, rows', cs', A7, rows'.length, d7, A9, d9, by omega, rfl, rfl, by go_num, Lib.hid ⟨⟨hT', hR', rfl, hA7, ((HI7.out.below hb11).below hb12).below hb13, hA9, ((HI9.out.below hb11).below hb12).below hb13, below_then (below_then (below_then hb9 hb11) hb12) hb13⟩, hcl', hk', blk_below (blk_below (blk_below hr9 hb11) hb12) hb13⟩⟩, ?_⟩
              simp [RowKit.intOf]
              omega
      · obtain ⟨hinv, -, -, -⟩ := HR.out
        have m8 := Lib.hid hinv.2.2.2.2.2.2.2
        clear hinv HR
        go_wp2_with fail
        go_ret
        exact Ret.mk rfl m8.out

set_option maxRecDepth 100000 in
theorem lifted (os : Os) (started : os.Started) (H : Type) (enc : TypeId × Value → H) :
    ReturnsInHanded {} Tryd.checked os 7 .any (fun w args => (Rows.gateMeansSpec.pre enc Tryd.prog Tryd.f7 [] false w args ∧ laidMetH Tryd.prog laidL w) ∧ sizedMet enc Tryd.prog Tryd.f7 (OpenSpec.ofChange Rows.gateMeansSpec) false w args)
      (Rows.gateMeansSpec.post enc Tryd.prog Tryd.f7 false true false false) := by
  refine returnsInHanded_of_change_and (C := Tryd.checked) (X := fun w _ => laidMetH Tryd.prog laidL w) (fun _ _ _ hh h => h.of_heap hh) own started (by kernel_rfl) Tryd.func7
    (ChangeSpec.witness_shaped (enc := enc) (C := Tryd.checked) (os := os) (X := fun w _ => laidMetH Tryd.prog laidL w) false (World.doorLaid Tryd.prog 400 os) #[.agg #[.int .u8 0, .int .i64 0, .int .i64 0, .int .u8 0, .int .i64 0, .int .i64 0, .int .i64 0, .int .i64 0, .int .i64 0, .int .i64 0, .int .u64 0, .int .u64 0], .slice none 0 0] 8 rfl (World.shaped_of_RefB (by kernel_rfl) (by kernel_rfl)) (by kernel_rfl) (by kernel_rfl) (by kernel_rfl) (door_met os _)) ?_
  intro W base args ds gs before hval0 hW _ _ hL _
  refine law_of laidOut (by kernel_rfl) (by kernel_rfl) Tryd.underlying4 rfl ?_ hW fun p hA => ?_
  · intro ds hd
    match ds, hd with
    | [_, _], _ => rfl
  have hval' : ∀ (j : Nat) t v, Tryd.f7.params[j]? = some t → args[j]? = some v → Value.okWide Tryd.prog W .any base t v := hval0
  rw [Tryd.params7] at hA hval'
  obtain ⟨v0, vs0, d0, ds0, p0, q0, hargs, rfl, rfl, h0, r0⟩ := trodAll_cons hA
  obtain ⟨v1, vs1, d1, ds1, p1, q1, rfl, rfl, rfl, h1, r1⟩ := trodAll_cons r0
  obtain ⟨rfl, rfl, rfl⟩ := trodAll_nil r1
  obtain rfl : args = #[v0, v1] := by cases args; simp_all
  obtain ⟨c, rfl⟩ := open_cfg (hval' 0 _ v0 rfl rfl) h0
  obtain ⟨A, d, l, rfl, hAn, hl⟩ := open_ops (hval' 1 _ v1 rfl rfl) h1
  exact walk c A d l hAn W (of_laid hL) hl

theorem row : Rows.GateMeansSaid :=
  OpenClaim.holds_of_wide 7 Tryd.f7 rfl rfl rfl rfl rfl rfl rfl ⟨rfl, rfl, rfl, rfl, rfl⟩ rfl rfl rfl rfl rfl (by kernel_rfl) Tryd.func7 (by kernel_rfl)
    (of_decide_eq_true (by kernel_rfl)) (by unfold Func.isWrapper; first | (rw [if_pos (by decide +kernel)]; kernel_rfl) | (rw [if_neg (by decide +kernel)]; exact ⟨rfl, rfl⟩))
    (fun os started H enc _ => lifted os started H enc)

theorem card : Rows.GateMeansCardSaid :=
  Claim7.holds_tied_plain_at .later [] [.data] true Rows.gateMeansCard.stood.harness false
    row (fun _ h => by cases h) (by kernel_rfl) (fun _ h => by cases h) gateMeans_row_tie rfl ⟨rfl, rfl⟩ (by kernel_rfl) rfl
    (fun f fn hf hfn => by
      obtain rfl : f = 7 := Option.some.inj ((show Tryd.prog.funcNamed "bascule/basculelaw14.GateMeans" = some 7 by kernel_rfl).symm.trans hf) |>.symm
      obtain rfl : fn = Tryd.f7 := (Option.some.inj (Tryd.func7.symm.trans hfn)).symm
      exact ⟨by kernel_rfl, fun j t ht => by
        rw [Tryd.params7] at ht
        have hm : t ∈ [30, 54] := by simpa using Array.mem_of_getElem? ht
        have hall : ([30, 54].all fun u => !Tryd.prog.wantsStandIn u) = true := by kernel_rfl
        exact (show Tryd.prog.wantsStandIn t = false by simpa using List.all_eq_true.1 hall t hm)⟩)
    (by kernel_rfl)
#print axioms card

end Go.Proofs.YtljhcegkekdjgaaDoor.gateMeans
