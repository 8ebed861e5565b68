/- For any config, rows and operation: an announcement that is done is undone by its withdrawal: the route is found behind it with its hop, the other rows are as they were, the withdrawal answers the hop plus one and leaves the other rows alone, and the announcement's answer is zero just where the route wasn't there. Condition: the table of objects holds at the call's start what the program's text lays there (the tied card). -/
import Derived.Test.YtfjpcdcaoefelaaDoorTbLive
import Derived.Test.YtfjpcdcaoefelaaDoorTbFacts
import Derived.Test.YtfjpcdcaoefelaaDoorObLaid
import Derived.Test.YtfjpcdcaoefelaaDoorOpenOp
import Derived.Test.YtfjpcdcaoefelaaDoorOpenCfg
import Derived.Test.YtfjpcdcaoefelaaDoorOpenRow
import Derived.Deep.RegionHeld3
namespace Go.Proofs.YtfjpcdcaoefelaaDoor.tableUndoes
open Go.ChangeShapes Go.WideShapes Go.ChangeAt Go.RowKit Pt Opn Tb

theorem facts {c : Cf} {l : List R} {o : O} (hk : o.k = 1) (he : doE c l = 0) (hx : (doR c l o).2.1 = 0) :
    o.b ≤ 6 ∧ o.a < 2 ^ o.b ∧ o.c ≤ 2147483647 ∧ cut (doR c l o).1 (2 ^ o.b + o.a) = cut l (2 ^ o.b + o.a) ∧ ((doR c l o).2.2 = 0 ↔ fnd l (2 ^ o.b + o.a) < 0) ∧
    (∃ i, ∃ h : i < (doR c l o).1.length, fnd (doR c l o).1 (2 ^ o.b + o.a) = (i : Nat) ∧ ((doR c l o).1[i]'h).1 = 2 ^ o.b + o.a ∧ ((doR c l o).1[i]'h).2 = o.c) ∧
    doE c (doR c l o).1 = 0 ∧ doR c (doR c l o).1 ⟨2, o.a, o.b, 0⟩ = (cut l (2 ^ o.b + o.a), 0, ((o.c + 1 : Nat) : Int)) := by
  rcases doE_cases c l with ⟨_, ht⟩ | ⟨h, _⟩
  · obtain ⟨g1, g2, g3, g4, g5, _⟩ := ins_ok ht hk hx
    have hrem := rem_ok ht hk hx
    have hup := ht.2.2.2.1
    obtain ⟨n, hn, hn6⟩ : ∃ n : Nat, c.bits = n ∧ n ≤ 6 := by
      have := ht.1
      unfold Ok ObjOk IndOk RestOk at this
      have := ht.2.1
      exact ⟨c.bits.toNat, by omega, by omega⟩
    have htab := do_tab o ht
    rw [g5, g4]
    rw [g4] at htab
    refine ⟨by rw [hn] at g1; simp at g1; omega, g2, g3, cut_put _ _ hup, ?_, ?_, ?_, ?_⟩
    · rcases fnd_get l (2 ^ o.b + o.a) with ⟨h1, h2⟩ | ⟨i, hi, h1, _, h2⟩
      · rw [h1, h2]; simp
      · rw [h1, h2]; simp
    · rcases fnd_get (put l (2 ^ o.b + o.a) o.c) (2 ^ o.b + o.a) with ⟨_, h2⟩ | ⟨i, hi, h1, h3, h2⟩
      · rw [get_put _ _ hup] at h2; cases h2
      · rw [get_put _ _ hup] at h2; injection h2 with h2; exact ⟨i, hi, h1, h3, h2.symm⟩
    · rcases doE_cases c (put l (2 ^ o.b + o.a) o.c) with ⟨h, _⟩ | ⟨_, h⟩
      · exact h
      · exact absurd htab h
    · rw [hrem, Nat.mod_eq_of_lt (by omega)]
  · exact absurd he h

set_option maxRecDepth 100000 in
set_option maxHeartbeats 16000000 in
theorem walk (c : Cf) (A : Option Addr) (d : Nat) (l : List R) (o : O) (ho : Wf o) (_ : l.length ≤ d ∧ d ≤ 9223372036854775807) (hA : A = none → l.length = 0 ∧ d = 0) (w : World) (hp : Obs w) (h : IsR w A l) :
    Calls Tryd.prog 7 #[cfv c, .slice A l.length d, opv o] w (Ret (.bool true) w) := by
  have HL := Lib.hid h
  have HP := Lib.hid hp
  by_cases hn : 100 < l.length
  · have hn2 : (100 : Int) < (l.length : Int) := by omega
    clear h hA hp
    generalize l.length = N at *
    unfold cfv opv
    go_enter Tryd.func7, Tryd.ntmps7
    go_wp2_with fail
    refine (alive_any _ (HP.out.below (below_two _ _ _))).mono ?_
    rintro e w1 ⟨rfl, hb1⟩
    go_wp2
    go_ret
    exact Ret.mk rfl (below_then (below_two _ _ _) hb1)
  · have hn2 : ¬ (100 : Int) < (l.length : Int) := by omega
    by_cases hk : o.k = 1
    · have hk2 : (o.k : Int) = 1 := by omega
      have HDo := Lib.hid (fun W hW hl => do_any c A l d o ho hA (by omega) W hW hl)
      have HF := Lib.hid (fun he hx => facts (c := c) (l := l) (o := o) hk he hx)
      have HDr := Lib.hid (fun B k (m : List R) hB hm W hW hl => do_any c B m k ⟨2, o.a, o.b, 0⟩ (by unfold Wf at *; simp only; omega) hB hm W hW hl)
      have HFi := Lib.hid (fun B k (m : List R) hm K W hl => rFind_any B m k hm K W hl)
      have HWo := Lib.hid (fun B k (m : List R) hm K W hl => rWithout_any B m k hm K W hl)
      have HSR := Lib.hid (fun A B (m : List R) c' d' hm W hA hB => rSameRows_any A B m m c' d' hm W hA hB)
      simp only [decide_true] at HSR
      have hlen := do_len c l o
      generalize doE c l = er at *
      generalize hsv : doR c l o = s at *
      obtain ⟨rows, x, y⟩ := s
      simp only at hlen HF
      have hl101 : rows.length ≤ 101 := by omega
      have HO := Lib.hid ho
      clear h hp hA hn ho hlen hsv
      by_cases hex : er = 0 ∧ x = 0
      · obtain ⟨rfl, rfl⟩ := hex
        obtain ⟨g1, g2, g3, g4, g5, ⟨i, hi, g6, g7, g8⟩, g9, g10⟩ := HF.out rfl rfl
        have hDr := fun B k hB hm W hW hl => HDr.out B k rows hB hm W hW hl
        rw [g9, g10] at hDr
        obtain ⟨K, hK⟩ : ∃ K, 2 ^ o.b + o.a = K := ⟨_, rfl⟩
        have h64 : 2 ^ o.b ≤ 64 := Rk.pow_le o.b g1
        have hK7 : K < 128 := by omega
        have HNd := Lib.hid (show ∀ W, Calls Tryd.prog 18 #[.int .i64 o.b, .int .i64 o.a] W (Ret2 (.int .i64 K) (.int .i64 0) W) from fun W => by
          have h := node_any (o.b : Int) (o.a : Int) W
          rw [Rk.okP_t (by omega) (by omega) (by omega) (by rw [Int.toNat_natCast]; omega)] at h
          rw [show Rk.val true (Rk.node (o.b : Int) (o.a : Int)) = (K : Int) by simp [Rk.val, Rk.node, ← hK]] at h
          exact h)
        rw [hK] at g4 g5 g6 g7 hDr
        obtain ⟨N2, hN2⟩ : ∃ n, rows.length = n := ⟨_, rfl⟩
        have hDr2 := (show ∀ (B : Option Addr) (k : Nat) (hB : B = none → rows.length = 0 ∧ k = 0) (_ : rows.length ≤ 100000) (W : World) (_ : Obs W) (_ : IsR W B rows), Calls Tryd.prog 9 #[cfv c, .slice B rows.length k, .agg #[.int .u8 2, .int .u32 o.a, .int .u32 o.b, .int .u32 0]] W (Did4 (cut l K, 0, ((o.c + 1 : Nat) : Int)) 0 W) from hDr)
        have hFa := fun B k W hl => HFi.out B k rows (by omega) K W hl
        have HFl := Lib.hid (fun W hl => HFi.out A d l (by omega) K W hl)
        have hWa := fun B k W hl => HWo.out B k rows (by omega) K W hl
        have HWl := Lib.hid (fun W hl => HWo.out A d l (by omega) K W hl)
        rw [g6] at hFa
        rw [g4] at hWa
        simp only [hN2] at hFa hWa hDr2
        have HFa := Lib.hid hFa
        have HWa := Lib.hid hWa
        have HDr2 := Lib.hid hDr2
        clear hFa hWa hDr2
        have hm : (cut l K).length ≤ 101 := by have := cut_length l K; omega
        have hw1 : IntKind.i64.wrap (o.a : Int) = (o.a : Int) := by have := HO.out.2.1; rw [IntKind.wrap_i64]; omega
        have hw2 : IntKind.i64.wrap (o.b : Int) = (o.b : Int) := by rw [IntKind.wrap_i64]; omega
        have hw3 : IntKind.u64.wrap (K : Int) = (K : Int) := by rw [IntKind.wrap_u64]; omega
        have hw4 : IntKind.u64.wrap (o.c : Int) = (o.c : Int) := by rw [IntKind.wrap_u64]; omega
        have hw5 : IntKind.u32.wrap ((o.c : Int) + 1) = ((o.c + 1 : Nat) : Int) := by rw [IntKind.wrap_u32]; omega
        have hi1 : (0 : Int) ≤ (i : Int) := by omega
        have hi2 : (i : Int) < (N2 : Int) := by omega
        generalize cut l K = m at *
        generalize fnd l K = fz at *
        have HG5 := Lib.hid g5
        have HI := Lib.hid (And.intro hi g8)
        have HIi := hi
        clear HDr hDr g4 g5 g6 g9 g10 HF HFi HWo hK h64
        have hDo := HDo.out
        unfold cfv opv at *
        simp only [hk2] at hDo ⊢
        have HDo1 := Lib.hid hDo
        clear HDo hDo
        go_enter Tryd.func7, Tryd.ntmps7
        go_wp2_with fail
        refine (alive_any _ (HP.out.below (below_two _ _ _))).mono ?_
        rintro e w1 ⟨rfl, hb1⟩
        obtain ⟨hc1, hf1⟩ := bcell hb1
        go_wp2_with fail
        have hb0 := below_then (below_two _ _ _) hb1
        refine (HDo1.out w1 (HP.out.below hb0) (HL.out.below hb0)).mono ?_
        rintro e w2 ⟨u, rfl, hM2, hb2⟩
        obtain ⟨Aa, da, rfl, hda, hAa, hLa⟩ := MadeX.form rowL_len hM2
        obtain ⟨bk, off, rfl, x0, x1⟩ := hLa.row hi
        rw [g8] at x1
        have HLa := Lib.hid hLa
        rw [hN2] at hAa
        have HAa := Lib.hid hAa
        replace hb1 := below_then hb1 hb2
        have hs2 := hb1.size
        have hv2 : w.heap.size + 1 < w2.heap.size := by simp at hs2; omega
        have hu2 : w.heap.size < w2.heap.size := by omega
        have hbk2 := World.block_lt_of_cell? _ _ x1
        clear hc1 hf1 hM2 hLa hAa hb0 hb2 hs2 x0 g7 g8
        rw [hN2]
        obtain ⟨hc1, hf1⟩ := bcell hb1
        simp only [resv]
        go_wp2_with fail
        refine (HNd.out _).mono ?_
        rintro e w3 ⟨rfl, hb3⟩
        have r1 : w3.cell? ⟨w2.heap.size, 1, none⟩ = some (.int .u32 y) := (hb3.cell (by simp)).trans (by simp [go_sem])
        have hb23 := below_then (below_one w2 (.cells #[.int .i64 0, .int .u32 y, .slice none 0 0] 29)) hb3
        replace x1 := (hb23.cell hbk2).trans x1
        have hs3 := hb23.size
        replace hv2 : w.heap.size + 1 < w3.heap.size := by omega
        replace hu2 : w.heap.size < w3.heap.size := by omega
        replace hbk2 := World.block_lt_of_cell? _ _ x1
        have hg2 := World.block_lt_of_cell? _ _ r1
        have HLa3 := Lib.hid (HLa.out.below hb23)
        replace hb1 := below_then hb1 hb23
        clear hc1 hf1 hb23 hs3 hb3 HLa
        obtain ⟨g, hg⟩ : ∃ g, w2.heap.size = g := ⟨_, rfl⟩
        rw [hg] at r1 hg2 ⊢
        clear hg
        obtain ⟨hc1, hf1⟩ := bcell hb1
        go_wp2_with fail
        refine (HFa.out _ da _ HLa3.out).mono ?_
        rintro e w4 ⟨rfl, hb4⟩
        replace x1 := (hb4.cell hbk2).trans x1
        replace r1 := (hb4.cell hg2).trans r1
        have hs4 := hb4.size
        replace hv2 : w.heap.size + 1 < w4.heap.size := by omega
        replace hu2 : w.heap.size < w4.heap.size := by omega
        replace hbk2 : bk < w4.heap.size := by omega
        replace hg2 : g < w4.heap.size := by omega
        have HLa4 := Lib.hid (HLa3.out.below hb4)
        replace hb1 := below_then hb1 hb4
        clear hc1 hf1 hb4 hs4 HLa3
        obtain ⟨hc1, hf1⟩ := bcell hb1
        have HB := Lib.hid (below_then (below_two _ _ _) hb1)
        have HL4 := Lib.hid (HL.out.below HB.out)
        have o3 : w4.cell? ⟨w.heap.size + 1, 3, none⟩ = some (.int .u32 (o.c : Nat)) := (hc1 _ _ (by simp)).trans (by simp [go_sem])
        have mixed : Tryd.prog.follows Departure.mixedOrders = true := by kernel_rfl
        go_wp2_with fail
        go_cut [87] (fun s87 wx => s87 = .bool false ∧ Hid (Below w4.heap.size w4 wx))
        case first =>
          clear hc1 hf1 HB
          go_region_held3 (fun X => w4.heap.size ≤ X.heap.size ∧ ∀ b o, b < w4.heap.size → X.cell? ⟨b, o, none⟩ = w4.cell? ⟨b, o, none⟩)
            (first
              | with_reducible exact keep0 w4
              | with_reducible exact keep_below hb7 (keep_below hb6 (keep_below hb5 (keep0 w4)))
              | with_reducible exact keep_below hb7 (keep_below hb5 (keep_below hb6 (keep0 w4)))
              | with_reducible exact keep_below hb6 (keep_below hb5 (keep0 w4))
              | with_reducible exact keep_below hb5 (keep_below hb6 (keep0 w4))
              | with_reducible exact keep_below hb5 (keep0 w4)
              | with_reducible exact keep_below hb6 (keep0 w4)
              | fail)
            (first
              | ((with_reducible refine (HWa.out _ da _ (HLa4.out.keep ?_)).mono ?_); (first | with_reducible exact keep0 w4 | with_reducible exact keep_below hb6 (keep0 w4)); rintro e w5 ⟨ua, rfl, hMa, hb5⟩; obtain ⟨A5, d5, rfl, hd5, hA5, hL5⟩ := MadeX.form rowL_len hMa; have H5 := Lib.hid hL5; clear hMa hL5)
              | ((with_reducible refine (HWl.out _ (HL4.out.keep ?_)).mono ?_); (first | with_reducible exact keep0 w4 | with_reducible exact keep_below hb5 (keep0 w4)); rintro e w6 ⟨ul, rfl, hMl, hb6⟩; obtain ⟨A6, d6, rfl, hd6, hA6, hL6⟩ := MadeX.form rowL_len hMl; have H6 := Lib.hid hL6; clear hMl hL6)
              | ((first | (with_reducible refine (HSR.out _ _ m _ _ (by omega) _ (H5.out.below hb6) H6.out).mono ?_) | (with_reducible refine (HSR.out _ _ m _ _ (by omega) _ H5.out (H6.out.below hb5)).mono ?_)); rintro e w7 ⟨rfl, hb7⟩))
          all_goals
            go_wp2_with fail
            go_meet
            first
              | with_reducible exact ⟨rfl, Lib.hid (below_then (below_then (below_then (below_drew w4) hb5) hb6) hb7)⟩
              | with_reducible exact ⟨rfl, Lib.hid (below_then (below_then (below_then (below_drew w4) hb6) hb5) hb7)⟩
        case rest =>
          obtain ⟨rfl, HBX⟩ := hcut
          obtain ⟨W5, hW5⟩ : ∃ X, X = wc := ⟨_, rfl⟩
          subst hW5
          have hbx := HBX.out
          have hs5 := hbx.size
          replace hb1 := below_then hb1 hbx
          replace r1 := ((bcell hbx).1 _ _ hg2).trans r1
          have HLa5 := Lib.hid (HLa4.out.below hbx)
          have HB5 := below_then HB.out hbx
          replace hv2 : w.heap.size + 1 < W5.heap.size := by omega
          replace hu2 : w.heap.size < W5.heap.size := by omega
          replace hg2 : g < W5.heap.size := by omega
          clear hc1 hf1 o3 x1 hbk2 hbx hs5 HBX HLa4
          obtain ⟨hc1, hf1⟩ := bcell hb1
          go_wp2_with fail
          refine (HDr2.out _ da HAa.out (by omega) W5 (HP.out.below HB5) HLa5.out).mono ?_
          rintro e w6 ⟨u6, rfl, hM6, hb6⟩
          obtain ⟨A6, d6, rfl, hd6, hA6, hL6⟩ := MadeX.form rowL_len hM6
          have H6 := Lib.hid hL6
          have hs6 := hb6.size
          replace hb1 := below_then hb1 hb6
          replace r1 := ((bcell hb6).1 _ _ hg2).trans r1
          replace hv2 : w.heap.size + 1 < w6.heap.size := by omega
          replace hu2 : w.heap.size < w6.heap.size := by omega
          replace hg2 : g < w6.heap.size := by omega
          have HB6 := Lib.hid (below_then HB5 hb6)
          clear hc1 hf1 hM6 hL6 hb6 HLa5 hs6
          obtain ⟨hc1, hf1⟩ := bcell hb1
          simp only [resv]
          go_wp2_with fail
          obtain ⟨W7, hW7⟩ : ∃ X, X = w6.alloc (.cells #[.int .i64 0, .int .u32 ((o.c : Int) + 1), .slice none 0 0] 29) := ⟨_, rfl⟩
          have hb7 : Below w6.heap.size w6 W7 := by rw [hW7]; exact below_one _ _
          rw [← hW7]
          have HL7 := Lib.hid (HL.out.below (below_then HB6.out hb7))
          have H7 := Lib.hid (H6.out.below hb7)
          have HB7 := Lib.hid (below_then HB6.out hb7)
          replace r1 := ((bcell hb7).1 _ _ hg2).trans r1
          have hg7 := World.block_lt_of_cell? _ _ r1
          clear hc1 hf1 hb1 hW7 hb7 hv2 hu2 hg2
          go_cut [6] (fun s6 wx => s6 = .bool true ∧ Hid (Below W7.heap.size W7 wx))
          case first =>
            go_region_held3 (fun X => W7.heap.size ≤ X.heap.size ∧ ∀ b o, b < W7.heap.size → X.cell? ⟨b, o, none⟩ = W7.cell? ⟨b, o, none⟩)
              (first
                | with_reducible exact keep0 W7
                | with_reducible exact keep_below hb10 (keep_below hb9 (keep_below hb8 (keep0 W7)))
                | with_reducible exact keep_below hb9 (keep_below hb8 (keep0 W7))
                | with_reducible exact keep_below hb8 (keep0 W7)
                | fail)
              (first
                | ((with_reducible refine (HWl.out _ (HL7.out.keep ?_)).mono ?_); (with_reducible exact keep0 W7); rintro e w8 ⟨ul, rfl, hMl, hb8⟩; obtain ⟨A8, d8, rfl, hd8, hA8, hL8⟩ := MadeX.form rowL_len hMl; have H8 := Lib.hid hL8; clear hMl hL8)
                | ((with_reducible refine (HSR.out _ _ m _ _ (by omega) _ (H7.out.below (below_then (below_drew W7) hb8)) H8.out).mono ?_); rintro e w9 ⟨rfl, hb9⟩)
                | ((with_reducible refine (HFl.out _ (HL7.out.keep ?_)).mono ?_); (with_reducible exact keep_below hb9 (keep_below hb8 (keep0 W7))); rintro e w10 ⟨rfl, hb10⟩))
            all_goals
              go_wp2_with fail
              go_meet
              refine ⟨congrArg Value.bool ?_, Lib.hid (below_then (below_then (below_then (below_drew W7) hb8) hb9) hb10)⟩
              have hg5 := HG5.out
              by_cases hy : y = 0
              · have := hg5.1 hy
                simp [hy, this]
              · have : ¬ fz < 0 := fun z => hy (hg5.2 z)
                simp [hy, this]
          case rest =>
            obtain ⟨rfl, HBY⟩ := hcut
            go_wp2
            go_ret
            exact Ret.mk rfl (below_then HB7.out HBY.out)
      · clear HF HDr HFi HWo HSR
        have hDo := HDo.out
        unfold cfv opv at *
        simp only [hk2] at hDo ⊢
        have HDo1 := Lib.hid hDo
        clear HDo hDo
        go_enter Tryd.func7, Tryd.ntmps7
        go_wp2_with fail
        refine (alive_any _ (HP.out.below (below_two _ _ _))).mono ?_
        rintro e w1 ⟨rfl, hb1⟩
        obtain ⟨hc1, hf1⟩ := bcell hb1
        go_wp2_with fail
        have hb0 := below_then (below_two _ _ _) hb1
        refine (HDo1.out w1 (HP.out.below hb0) (HL.out.below hb0)).mono ?_
        rintro e w2 ⟨u, rfl, hM2, hb2⟩
        replace hb1 := below_then hb1 hb2
        clear hc1 hf1 hM2 hb0 hb2
        simp only [resv]
        have HB := Lib.hid (below_then (below_then (below_two _ _ _) hb1) (below_one _ (.cells #[.int .i64 x, .int .u32 y, .slice none 0 0] 29)))
        go_wp2
        all_goals first | (exfalso; omega) | skip
        all_goals (go_ret; exact Ret.mk rfl HB.out)
    · have hk2 : ¬ (o.k : Int) = 1 := by omega
      clear h hA hp
      generalize l.length = N at *
      unfold cfv opv
      go_enter Tryd.func7, Tryd.ntmps7
      go_wp2_with fail
      refine (alive_any _ (HP.out.below (below_two _ _ _))).mono ?_
      rintro e w1 ⟨rfl, hb1⟩
      obtain ⟨hc1, hf1⟩ := bcell hb1
      go_wp2
      go_ret
      exact Ret.mk rfl (below_then (below_two _ _ _) hb1)

set_option maxRecDepth 100000 in
theorem lifted (os : Os) (started : os.Started) (H : Type) (enc : TypeId × Value → H) :
    ReturnsInHanded {} Tryd.checked os 7 .any (fun w args => (Rows.tableUndoesSpec.pre enc Tryd.prog Tryd.f7 [] false w args ∧ laidMetH Tryd.prog laidL w) ∧ sizedMet enc Tryd.prog Tryd.f7 (OpenSpec.ofChange Rows.tableUndoesSpec) false w args)
      (Rows.tableUndoesSpec.post enc Tryd.prog Tryd.f7 false true false false) := by
  refine returnsInHanded_of_change_and (C := Tryd.checked) (X := fun w _ => laidMetH Tryd.prog laidL w) (fun _ _ _ hh h => h.of_heap hh) own started (by kernel_rfl) Tryd.func7
    (ChangeSpec.witness_shaped (enc := enc) (C := Tryd.checked) (os := os) (X := fun w _ => laidMetH Tryd.prog laidL w) false (World.doorLaid Tryd.prog 400 os) #[.agg #[.int .u8 0, .int .i64 0, .int .i64 0, .int .u8 0, .int .i64 0, .int .i64 0, .int .i64 0, .int .i64 0, .int .i64 0, .int .i64 0, .int .u64 0, .int .u64 0], .slice none 0 0, .agg #[.int .u8 0, .int .u32 0, .int .u32 0, .int .u32 0]] 8 rfl (World.shaped_of_RefB (by kernel_rfl) (by kernel_rfl)) (by kernel_rfl) (by kernel_rfl) (by kernel_rfl) (door_met os _)) ?_
  intro W base args ds gs before hval0 hW _ _ hL _
  refine law_of laidOut (by kernel_rfl) (by kernel_rfl) Tryd.underlying4 rfl ?_ hW fun p hA => ?_
  · intro ds hd
    match ds, hd with
    | [_, _, _], _ => rfl
  have hval' : ∀ (j : Nat) t v, Tryd.f7.params[j]? = some t → args[j]? = some v → Value.okWide Tryd.prog W .any base t v := hval0
  rw [Tryd.params7] at hA hval'
  obtain ⟨v0, vs0, d0, ds0, p0, q0, hargs, rfl, rfl, h0, r0⟩ := trodAll_cons hA
  obtain ⟨v1, vs1, d1, ds1, p1, q1, rfl, rfl, rfl, h1, r1⟩ := trodAll_cons r0
  obtain ⟨v2, vs2, d2, ds2, p2, q2, rfl, rfl, rfl, h2, r2⟩ := trodAll_cons r1
  obtain ⟨rfl, rfl, rfl⟩ := trodAll_nil r2
  obtain rfl : args = #[v0, v1, v2] := by cases args; simp_all
  obtain ⟨c, rfl⟩ := open_cfg (hval' 0 _ v0 rfl rfl) h0
  obtain ⟨A, d, l, rfl, hd, hAn, hl⟩ := open_tab (hval' 1 _ v1 rfl rfl) h1
  obtain ⟨o, ho, rfl⟩ := open_op (hval' 2 _ v2 rfl rfl) h2
  exact walk c A d l o ho hd hAn W (of_laid hL) hl

theorem row : Rows.TableUndoesSaid :=
  OpenClaim.holds_of_wide 7 Tryd.f7 rfl rfl rfl rfl rfl rfl rfl ⟨rfl, rfl, rfl, rfl, rfl⟩ rfl rfl rfl rfl rfl (by kernel_rfl) Tryd.func7 (by kernel_rfl)
    (of_decide_eq_true (by kernel_rfl)) (by unfold Func.isWrapper; first | (rw [if_pos (by decide +kernel)]; kernel_rfl) | (rw [if_neg (by decide +kernel)]; exact ⟨rfl, rfl⟩))
    (fun os started H enc _ => lifted os started H enc)

theorem card : Rows.TableUndoesCardSaid :=
  Claim7.holds_tied_plain_at .later [] [.data] true Rows.tableUndoesCard.stood.harness false
    row (fun _ h => by cases h) (by kernel_rfl) (fun _ h => by cases h) tableUndoes_row_tie rfl ⟨rfl, rfl⟩ (by kernel_rfl) rfl
    (fun f fn hf hfn => by
      obtain rfl : f = 7 := Option.some.inj ((show Tryd.prog.funcNamed "bascule/basculelaw06.TableUndoes" = some 7 by kernel_rfl).symm.trans hf) |>.symm
      obtain rfl : fn = Tryd.f7 := (Option.some.inj (Tryd.func7.symm.trans hfn)).symm
      exact ⟨by kernel_rfl, fun j t ht => by
        rw [Tryd.params7] at ht
        have hm : t ∈ [33, 25, 35] := by simpa using Array.mem_of_getElem? ht
        have hall : ([33, 25, 35].all fun u => !Tryd.prog.wantsStandIn u) = true := by kernel_rfl
        exact (show Tryd.prog.wantsStandIn t = false by simpa using List.all_eq_true.1 hall t hm)⟩)
    (by kernel_rfl)
#print axioms card

end Go.Proofs.YtfjpcdcaoefelaaDoor.tableUndoes
