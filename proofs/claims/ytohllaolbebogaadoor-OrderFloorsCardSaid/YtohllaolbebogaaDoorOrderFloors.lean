/- For any config, rows and key: a floor is the last row of the scan from 0 on, or none where that has none; and a key is got just if its floor is its own row. Condition: the table of objects holds at the call's start what the program's text lays there (the tied card). -/
import Derived.Test.YtohllaolbebogaaDoorOrAns
import Derived.Test.YtohllaolbebogaaDoorOpenOp
import Derived.Test.YtohllaolbebogaaDoorOpenCfg
import Derived.Test.YtohllaolbebogaaDoorOpenRow
namespace Go.Proofs.YtohllaolbebogaaDoor.orderFloors
open Go.ChangeShapes Go.WideShapes Go.ChangeAt Go.RowKit Pt Opn Tb

set_option maxRecDepth 100000 in
set_option maxHeartbeats 8000000 in
theorem walk (c : Cf) (A : Option Addr) (d : Nat) (l : List R) (key : Nat) (hk : key < 4294967296) (_ : l.length ≤ d ∧ d ≤ 9223372036854775807) (hA : A = none → l.length = 0 ∧ d = 0) (w : World) (hp : Obs w) (h : IsR w A l) :
    Calls Tryd.prog 9 #[cfv c, .slice A l.length d, .int .u32 key] w (Ret (.bool true) w) := by
  have HL := Lib.hid h
  have HP := Lib.hid hp
  have HAN := Lib.hid hA
  by_cases hn : 100 < l.length
  · have hn2 : (100 : Int) < (l.length : Int) := by omega
    clear h hA hp HAN
    generalize l.length = N at *
    unfold cfv
    go_enter Tryd.func9, Tryd.ntmps9
    go_wp2_with fail
    refine (ialive_any _ (HP.out.below (below_one _ _))).mono ?_
    rintro e w1 ⟨rfl, hb1⟩
    go_wp2
    go_ret
    exact Ret.mk rfl (below_then (below_one _ _) hb1)
  · have hn2 : ¬ (100 : Int) < (l.length : Int) := by omega
    have hlen := fun o => doOR_len c l o
    have HDX := fun (o : O) (ho : Wf o) rows res x y er hs he N na nr hN hna hnr W hW hR => odo_open c A l d o ho hA (by omega) rows res x y er hs he N na nr hN hna hnr W hW hR
    have hwk : IntKind.u64.wrap (key : Int) = (key : Int) := by rw [IntKind.wrap_u64]; omega
    by_cases hgood : IsOr c l ∧ key ≤ 2147483647
    · obtain ⟨ht, ha⟩ := hgood
      have hup := ht.2.2.2.1
      have hf := ans_floor ht ha
      have hs := ans_scan ht (Nat.zero_le 2147483647) ha
      have hg := ans_get ht ha
      have he := ndoE ht
      have hfs := flo_scan l key
      have hgs := get_scan hup key
      have hsl : (scan l 0 key).length ≤ l.length := List.length_filter_le _ _
      obtain ⟨S, hS⟩ : ∃ S, scan l 0 key = S := ⟨_, rfl⟩
      rw [hS] at hs hfs hgs hsl
      rcases List.eq_nil_or_concat S with rfl | ⟨ini, z, rfl⟩
      · simp only [List.getLast?_nil] at hfs hgs
        rw [hfs] at hf
        rw [if_pos rfl] at hf
        have hgn : getR l key = (6, 0) := by
          unfold getR
          cases hgk : Tb.get l key with
          | none => rfl
          | some v => rw [hgk] at hgs; obtain ⟨x, hx, _⟩ := hgs.1 rfl; cases hx
        rw [hgn] at hg
        obtain ⟨N, hN⟩ : ∃ n, l.length = n := ⟨_, rfl⟩
        have HD1 := Lib.hid (HDX ⟨7, key, 0, 0⟩ (by unfold Wf; simp only; omega) l [] 6 0 0 hf he N N 0 hN hN rfl)
        have HD2 := Lib.hid (HDX ⟨8, 0, key, 0⟩ (by unfold Wf; simp only; omega) l [] 0 0 0 hs he N N 0 hN hN rfl)
        have HD3 := Lib.hid (HDX ⟨6, key, 0, 0⟩ (by unfold Wf; simp only; omega) l [] 6 0 0 hg he N N 0 hN hN rfl)
        rw [hN] at hn2 ⊢
        clear h hA hp hn hlen HDX ht ha hup hf hs hg he hfs hgs hsl hS hgn hN HAN
        unfold cfv opv at *
        go_enter Tryd.func9, Tryd.ntmps9
        go_wp2_with fail
        refine (ialive_any _ (HP.out.below (below_one _ _))).mono ?_
        rintro e w1 ⟨rfl, hb1⟩
        obtain ⟨hc1, hf1⟩ := bcell hb1
        go_wp2_with fail
        have hbw2 := below_then (below_one _ _) hb1
        refine (HD1.out w1 (HP.out.below hbw2) (HL.out.below hbw2)).mono ?_
        rintro e w2 ⟨A2, d2, B2, e2, rfl, hA2, hL2, hB2, hd2, hR2, hb2⟩
        have HA2 := Lib.hid hA2
        have hs1 := hb1.size
        replace hb1 := below_then hb1 hb2
        have hs2 := hb1.size
        have hv2 : w.heap.size < w2.heap.size := by simp at hs2; omega
        clear hc1 hf1
        obtain ⟨hc1, hf1⟩ := bcell hb1
        go_wp2_with fail
        obtain ⟨W2, hW2⟩ : ∃ W, W = w2.alloc (.cells #[.int .i64 6, .int .u32 0, .slice B2 0 e2] 27) := ⟨_, rfl⟩
        obtain ⟨g2, hg2⟩ : ∃ g, w2.heap.size = g := ⟨_, rfl⟩
        have hbW2 : Below w2.heap.size w2 W2 := by rw [hW2]; exact below_one _ _
        have HR2 := Lib.hid (show W2.heap[g2]? = some (.cells #[.int .i64 6, .int .u32 0, .slice B2 0 e2] 27 (0, 0)) by rw [hW2, ← hg2]; exact heap_alloc_new w2 _)
        have hz2 : g2 < W2.heap.size := by rw [hW2, ← hg2]; simp
        have HI2 := Lib.hid (hR2.below hbW2)
        have HE2 := Lib.hid (And.intro hd2 hB2)
        try rw [hg2]
        rw [← hW2]
        replace hb1 := below_then hb1 hbW2
        have HLw2 := Lib.hid (HL.out.below (below_then (below_one _ _) hb1))
        clear hc1 hf1 hW2 hs1 hs2 hb2 hL2 hR2 hA2 hB2 hd2 hbw2 hbW2 hg2 hv2
        have hbw3 := below_then (below_one _ _) hb1
        refine (HD2.out W2 (HP.out.below hbw3) (HL.out.below hbw3)).mono ?_
        rintro e w3 ⟨A3, d3, B3, e3, rfl, hA3, hL3, hB3, hd3, hR3, hb2⟩
        have HI2' := Lib.hid (HI2.out.below hb2)
        have HR2' := Lib.hid ((hb2.block g2 hz2).trans HR2.out)
        have hz2' := Nat.lt_of_lt_of_le hz2 hb2.size
        clear hz2
        have HA3 := Lib.hid hA3
        have hs1 := hb1.size
        replace hb1 := below_then hb1 hb2
        have hs2 := hb1.size
        have hv3 : w.heap.size < w3.heap.size := by simp at hs2; omega
        obtain ⟨hc1, hf1⟩ := bcell hb1
        go_wp2_with fail
        obtain ⟨W3, hW3⟩ : ∃ W, W = w3.alloc (.cells #[.int .i64 0, .int .u32 0, .slice B3 0 e3] 27) := ⟨_, rfl⟩
        obtain ⟨g3, hg3⟩ : ∃ g, w3.heap.size = g := ⟨_, rfl⟩
        have hbW3 : Below w3.heap.size w3 W3 := by rw [hW3]; exact below_one _ _
        have HR3 := Lib.hid (show W3.heap[g3]? = some (.cells #[.int .i64 0, .int .u32 0, .slice B3 0 e3] 27 (0, 0)) by rw [hW3, ← hg3]; exact heap_alloc_new w3 _)
        have hz3 : g3 < W3.heap.size := by rw [hW3, ← hg3]; simp
        have HI3 := Lib.hid (hR3.below hbW3)
        have HE3 := Lib.hid (And.intro hd3 hB3)
        have HI2 := Lib.hid (HI2'.out.below hbW3)
        have HR2 := Lib.hid ((hbW3.block g2 hz2').trans HR2'.out)
        have hz2 : g2 < W3.heap.size := Nat.lt_of_lt_of_le hz2' hbW3.size
        clear hz2'
        try rw [hg3]
        rw [← hW3]
        replace hb1 := below_then hb1 hbW3
        have HLw3 := Lib.hid (HL.out.below (below_then (below_one _ _) hb1))
        clear hc1 hf1 hW3 hs1 hs2 hb2 hL3 hR3 hA3 hB3 hd3 hbw3 hbW3 hg3 hv3
        have hbw4 := below_then (below_one _ _) hb1
        refine (HD3.out W3 (HP.out.below hbw4) (HL.out.below hbw4)).mono ?_
        rintro e w4 ⟨A4, d4, B4, e4, rfl, hA4, hL4, hB4, hd4, hR4, hb2⟩
        have HI2' := Lib.hid (HI2.out.below hb2)
        have HI3' := Lib.hid (HI3.out.below hb2)
        have HR2' := Lib.hid ((hb2.block g2 hz2).trans HR2.out)
        have hz2' := Nat.lt_of_lt_of_le hz2 hb2.size
        clear hz2
        have HR3' := Lib.hid ((hb2.block g3 hz3).trans HR3.out)
        have hz3' := Nat.lt_of_lt_of_le hz3 hb2.size
        clear hz3
        have HA4 := Lib.hid hA4
        have hs1 := hb1.size
        replace hb1 := below_then hb1 hb2
        have hs2 := hb1.size
        have hv4 : w.heap.size < w4.heap.size := by simp at hs2; omega
        have hb3 := below_then hb1 (below_one w4 (.cells #[.int .i64 6, .int .u32 0, .slice B4 0 e4] 27))
        obtain ⟨p20, _, p21, _, p22, _⟩ := res_cells HR2'.out
        obtain ⟨p30, _, p31, _, p32, _⟩ := res_cells HR3'.out
        clear hb2 hs1 hs2 hbw4
        go_wp2
        go_ret
        exact Ret.mk rfl (below_then (below_one _ _) hb3)
      · have hlast : (ini ++ [z]).getLast? = some z := List.getLast?_concat
        simp only [List.concat_eq_append] at *
        rw [hlast] at hfs hgs
        simp only at hfs
        rw [hfs, if_neg (by simp)] at hf
        obtain ⟨x3, y3, hgv⟩ : ∃ x y, getR l key = (x, y) := ⟨_, _, rfl⟩
        rw [hgv] at hg
        have h3 : decide (x3 = 0) = decide (z.1 = key) := by
          rw [decide_eq_decide]
          have hx : x3 = 0 ↔ (Tb.get l key).isSome = true := by
            unfold getR at hgv
            cases hgk : Tb.get l key with
            | none => rw [hgk] at hgv; injection hgv with e1 _; rw [← e1]; simp
            | some v => rw [hgk] at hgv; injection hgv with e1 _; rw [← e1]; simp
          rw [hx, hgs]
          constructor
          · rintro ⟨x, hx1, hx2⟩; injection hx1 with hx1; rw [hx1]; exact hx2
          · intro hz; exact ⟨z, rfl, hz⟩
        obtain ⟨N, hN⟩ : ∃ n, l.length = n := ⟨_, rfl⟩
        obtain ⟨p, hp1⟩ : ∃ n, ini.length = n := ⟨_, rfl⟩
        obtain ⟨n, hnp⟩ : ∃ n, p + 1 = n := ⟨_, rfl⟩
        have hns : (ini ++ [z]).length = n := by simp [hp1, hnp]
        have HD1 := Lib.hid (HDX ⟨7, key, 0, 0⟩ (by unfold Wf; simp only; omega) l [z] 0 0 0 hf he N N 1 hN hN rfl)
        have HD2 := Lib.hid (HDX ⟨8, 0, key, 0⟩ (by unfold Wf; simp only; omega) l (ini ++ [z]) 0 0 0 hs he N N n hN hN hns)
        have HD3 := Lib.hid (HDX ⟨6, key, 0, 0⟩ (by unfold Wf; simp only; omega) l [] x3 y3 0 hg he N N 0 hN hN rfl)
        have HP1 := Lib.hid hp1
        have H3 := Lib.hid h3
        have hp100 : p ≤ 100 := by omega
        have HNP := Lib.hid hnp
        have n1 : ¬ (n : Int) = 0 := by omega
        have n2 : IntKind.i64.wrap ((n : Int) - 1) = (p : Int) := by rw [IntKind.wrap_i64]; omega
        have n3 : n - p = 1 := by omega
        have n4 : (0 : Int) ≤ (p : Int) := by omega
        have n5 : (p : Int) < (n : Int) := by omega
        have n6 : (p : Int) ≤ (n : Int) := by omega
        rw [hN] at hn2 ⊢
        clear h hA hp hn hlen HDX ht ha hup hf hs hg he hfs hgs hsl hS hgv h3 hN HAN hlast hns hp1 hnp
        unfold cfv opv at *
        go_enter Tryd.func9, Tryd.ntmps9
        go_wp2_with fail
        refine (ialive_any _ (HP.out.below (below_one _ _))).mono ?_
        rintro e w1 ⟨rfl, hb1⟩
        obtain ⟨hc1, hf1⟩ := bcell hb1
        go_wp2_with fail
        have hbw2 := below_then (below_one _ _) hb1
        refine (HD1.out w1 (HP.out.below hbw2) (HL.out.below hbw2)).mono ?_
        rintro e w2 ⟨A2, d2, B2, e2, rfl, hA2, hL2, hB2, hd2, hR2, hb2⟩
        have HA2 := Lib.hid hA2
        have hs1 := hb1.size
        replace hb1 := below_then hb1 hb2
        have hs2 := hb1.size
        have hv2 : w.heap.size < w2.heap.size := by simp at hs2; omega
        clear hc1 hf1
        obtain ⟨hc1, hf1⟩ := bcell hb1
        go_wp2_with fail
        obtain ⟨W2, hW2⟩ : ∃ W, W = w2.alloc (.cells #[.int .i64 0, .int .u32 0, .slice B2 1 e2] 27) := ⟨_, rfl⟩
        obtain ⟨g2, hg2⟩ : ∃ g, w2.heap.size = g := ⟨_, rfl⟩
        have hbW2 : Below w2.heap.size w2 W2 := by rw [hW2]; exact below_one _ _
        have HR2 := Lib.hid (show W2.heap[g2]? = some (.cells #[.int .i64 0, .int .u32 0, .slice B2 1 e2] 27 (0, 0)) by rw [hW2, ← hg2]; exact heap_alloc_new w2 _)
        have hz2 : g2 < W2.heap.size := by rw [hW2, ← hg2]; simp
        have HI2 := Lib.hid (hR2.below hbW2)
        have HE2 := Lib.hid (And.intro hd2 hB2)
        try rw [hg2]
        rw [← hW2]
        replace hb1 := below_then hb1 hbW2
        have HLw2 := Lib.hid (HL.out.below (below_then (below_one _ _) hb1))
        clear hc1 hf1 hW2 hs1 hs2 hb2 hL2 hR2 hA2 hB2 hd2 hbw2 hbW2 hg2 hv2
        have hbw3 := below_then (below_one _ _) hb1
        refine (HD2.out W2 (HP.out.below hbw3) (HL.out.below hbw3)).mono ?_
        rintro e w3 ⟨A3, d3, B3, e3, rfl, hA3, hL3, hB3, hd3, hR3, hb2⟩
        have HI2' := Lib.hid (HI2.out.below hb2)
        have HR2' := Lib.hid ((hb2.block g2 hz2).trans HR2.out)
        have hz2' := Nat.lt_of_lt_of_le hz2 hb2.size
        clear hz2
        have HA3 := Lib.hid hA3
        have hs1 := hb1.size
        replace hb1 := below_then hb1 hb2
        have hs2 := hb1.size
        have hv3 : w.heap.size < w3.heap.size := by simp at hs2; omega
        obtain ⟨hc1, hf1⟩ := bcell hb1
        go_wp2_with fail
        obtain ⟨W3, hW3⟩ : ∃ W, W = w3.alloc (.cells #[.int .i64 0, .int .u32 0, .slice B3 n e3] 27) := ⟨_, rfl⟩
        obtain ⟨g3, hg3⟩ : ∃ g, w3.heap.size = g := ⟨_, rfl⟩
        have hbW3 : Below w3.heap.size w3 W3 := by rw [hW3]; exact below_one _ _
        have HR3 := Lib.hid (show W3.heap[g3]? = some (.cells #[.int .i64 0, .int .u32 0, .slice B3 n e3] 27 (0, 0)) by rw [hW3, ← hg3]; exact heap_alloc_new w3 _)
        have hz3 : g3 < W3.heap.size := by rw [hW3, ← hg3]; simp
        have HI3 := Lib.hid (hR3.below hbW3)
        have HE3 := Lib.hid (And.intro hd3 hB3)
        have HI2 := Lib.hid (HI2'.out.below hbW3)
        have HR2 := Lib.hid ((hbW3.block g2 hz2').trans HR2'.out)
        have hz2 : g2 < W3.heap.size := Nat.lt_of_lt_of_le hz2' hbW3.size
        clear hz2'
        try rw [hg3]
        rw [← hW3]
        replace hb1 := below_then hb1 hbW3
        have HLw3 := Lib.hid (HL.out.below (below_then (below_one _ _) hb1))
        clear hc1 hf1 hW3 hs1 hs2 hb2 hL3 hR3 hA3 hB3 hd3 hbw3 hbW3 hg3 hv3
        have hbw4 := below_then (below_one _ _) hb1
        refine (HD3.out W3 (HP.out.below hbw4) (HL.out.below hbw4)).mono ?_
        rintro e w4 ⟨A4, d4, B4, e4, rfl, hA4, hL4, hB4, hd4, hR4, hb2⟩
        have HI2' := Lib.hid (HI2.out.below hb2)
        have HI3' := Lib.hid (HI3.out.below hb2)
        have HR2' := Lib.hid ((hb2.block g2 hz2).trans HR2.out)
        have hz2' := Nat.lt_of_lt_of_le hz2 hb2.size
        clear hz2
        have HR3' := Lib.hid ((hb2.block g3 hz3).trans HR3.out)
        have hz3' := Nat.lt_of_lt_of_le hz3 hb2.size
        clear hz3
        have HA4 := Lib.hid hA4
        have hs1 := hb1.size
        replace hb1 := below_then hb1 hb2
        have hs2 := hb1.size
        have hv4 : w.heap.size < w4.heap.size := by simp at hs2; omega
        have hb3 := below_then hb1 (below_one w4 (.cells #[.int .i64 x3, .int .u32 y3, .slice B4 0 e4] 27))
        obtain ⟨p20, _, p21, _, p22, _⟩ := res_cells HR2'.out
        obtain ⟨p30, _, p31, _, p32, _⟩ := res_cells HR3'.out
        clear hb2 hs1 hs2 hbw4
        have q0 := HI3'.out.row (i := p) (by simp; rw [HP1.out]; omega)
        obtain ⟨bk, off, rfl, x0, _⟩ := q0
        have hez : (ini ++ [z])[p]'(by simp; rw [HP1.out]; omega) = z := by
          have := HP1.out
          subst this
          simp
        rw [hez] at x0
        obtain ⟨z1, hz1⟩ : ∃ v, z.1 = v := ⟨_, rfl⟩
        rw [hz1] at x0 H3
        have hdr := isr_drop HI3'.out p
        rw [show (ini ++ [z]).drop p = [z] by rw [← HP1.out, List.drop_left]] at hdr
        simp only [Option.map_some, addrAdd] at hdr
        have HDR := Lib.hid hdr
        have HI2x := Lib.hid HI2'.out
        obtain ⟨W5, hW5⟩ : ∃ W, W = w4.alloc (.cells #[.int .i64 x3, .int .u32 y3, .slice B4 0 e4] 27) := ⟨_, rfl⟩
        obtain ⟨g4, hg4⟩ : ∃ g, w4.heap.size = g := ⟨_, rfl⟩
        have b5 : Below w4.heap.size w4 W5 := by rw [hW5]; exact below_one _ _
        obtain ⟨p40, _, _, _, _, _⟩ := res_cells (show W5.heap[g4]? = some (.cells #[.int .i64 x3, .int .u32 y3, .slice B4 0 e4] 27 (0, 0)) by rw [hW5, ← hg4]; exact heap_alloc_new w4 _)
        have P20 := (b5.cell (World.block_lt_of_cell? _ _ p20)).trans p20
        have P22 := ((bcell b5).1 _ _ (World.block_lt_of_cell? _ _ p20)).trans p22
        have P30 := (b5.cell (World.block_lt_of_cell? _ _ p30)).trans p30
        have P32 := ((bcell b5).1 _ _ (World.block_lt_of_cell? _ _ p30)).trans p32
        have X0 := (b5.cell (World.block_lt_of_cell? _ _ x0)).trans x0
        have HSX := Lib.hid (fun X (k : W5.heap.size ≤ X.heap.size ∧ ∀ b o, b < W5.heap.size → X.cell? ⟨b, o, none⟩ = W5.cell? ⟨b, o, none⟩) => rSameRows_any B2 (some ⟨bk, off + p * 2, none⟩) [z] [z] e2 (e3 - p) (by simp) X ((HI2x.out.below b5).keep k) ((HDR.out.below b5).keep k))
        simp only [decide_true, List.length_singleton] at HSX
        have m1 := World.block_lt_of_cell? _ _ P20
        have m2 := World.block_lt_of_cell? _ _ P30
        have m3 := World.block_lt_of_cell? _ _ p40
        have m4 := World.block_lt_of_cell? _ _ X0
        have n7 : ¬ e3 = p := by have := HE3.out.1; omega
        have n8 : (p : Int) ≤ (e3 : Int) := by have := HE3.out.1; omega
        have HB5 := Lib.hid (show Below w.heap.size w W5 by rw [hW5]; exact below_then (below_one _ _) hb3)
        have HW5 := Lib.hid hW5
        have HG4 := Lib.hid hg4
        clear hez hdr b5 x0 hW5 hg4
        go_wp2_with fail
        rw [← HW5.out]
        try rw [HG4.out]
        clear p20 p21 p22 p30 p31 p32
        have mixed : Tryd.prog.follows Departure.mixedOrders = true := by kernel_rfl
        go_region_held3 (fun X => W5.heap.size ≤ X.heap.size ∧ ∀ b o, b < W5.heap.size → X.cell? ⟨b, o, none⟩ = W5.cell? ⟨b, o, none⟩)
          (first
            | with_reducible exact keep0 W5
            | with_reducible exact keep_below hb5 (keep0 W5)
            | fail)
          (first | ((with_reducible refine (HSX.out _ ?_).mono ?_); (with_reducible exact keep0 W5); rintro e w6 ⟨rfl, hb5⟩; obtain ⟨hc5, hf5⟩ := bcell hb5))
        all_goals
          go_wp2_with fail
          go_ret
          refine Ret.mk (bool_eq ?_) (below_then HB5.out (below_then (below_drew W5) hb5))
          have e1 : (x3 == 0) = decide (x3 = 0) := by rw [Bool.eq_iff_iff]; simp
          have e2 : ((z1 : Int) == (key : Int)) = decide (z1 = key) := by rw [Bool.eq_iff_iff]; simp; omega
          simp only [e1, e2, H3.out]
          simp
    · have hbad : ∃ er x, doOE c l = er ∧ (er ≠ 0 ∨ x ≠ (0 : Int)) ∧ (doOR c l ⟨8, 0, key, 0⟩).2.1 = x := by
        refine ⟨_, _, rfl, ?_, rfl⟩
        by_cases ht : IsOr c l
        · have ha : ¬ key ≤ 2147483647 := fun h => hgood ⟨ht, h⟩
          rcases chk_pair ht 8 0 key (by simp) with ⟨_, hb, _⟩ | ⟨_, h2⟩
          · exact absurd hb ha
          · exact .inr (by rw [doOR_bad ht (by rw [h2]; decide), h2]; simp)
        · rcases doOE_cases c l with ⟨_, h⟩ | ⟨h, _⟩
          · exact absurd h ht
          · exact .inl h
      obtain ⟨er, x2, he, hb, hx2⟩ := hbad
      obtain ⟨⟨rows1, x1, y1, res1⟩, hs1⟩ : ∃ s, doOR c l ⟨7, key, 0, 0⟩ = s := ⟨_, rfl⟩
      obtain ⟨⟨rows2, x2', y2, res2⟩, hs2⟩ : ∃ s, doOR c l ⟨8, 0, key, 0⟩ = s := ⟨_, rfl⟩
      obtain ⟨⟨rows3, x3, y3, res3⟩, hs3⟩ : ∃ s, doOR c l ⟨6, key, 0, 0⟩ = s := ⟨_, rfl⟩
      rw [hs2] at hx2
      simp only at hx2
      subst hx2
      obtain ⟨n1, hn1⟩ : ∃ n, rows1.length = n := ⟨_, rfl⟩
      obtain ⟨n2, hn2'⟩ : ∃ n, rows2.length = n := ⟨_, rfl⟩
      obtain ⟨n3, hn3⟩ : ∃ n, rows3.length = n := ⟨_, rfl⟩
      obtain ⟨m1, hm1⟩ : ∃ n, res1.length = n := ⟨_, rfl⟩
      obtain ⟨m2, hm2⟩ : ∃ n, res2.length = n := ⟨_, rfl⟩
      obtain ⟨m3, hm3⟩ : ∃ n, res3.length = n := ⟨_, rfl⟩
      obtain ⟨N, hN⟩ : ∃ n, l.length = n := ⟨_, rfl⟩
      have HD1 := Lib.hid (HDX ⟨7, key, 0, 0⟩ (by unfold Wf; simp only; omega) rows1 res1 x1 y1 er hs1 he N n1 m1 hN hn1 hm1)
      have HD2 := Lib.hid (HDX ⟨8, 0, key, 0⟩ (by unfold Wf; simp only; omega) rows2 res2 x2' y2 er hs2 he N n2 m2 hN hn2' hm2)
      have HD3 := Lib.hid (HDX ⟨6, key, 0, 0⟩ (by unfold Wf; simp only; omega) rows3 res3 x3 y3 er hs3 he N n3 m3 hN hn3 hm3)
      have HBAD := Lib.hid hb
      rw [hN] at hn2 ⊢
      clear h hA hp hn hlen HDX hs1 hs2 hs3 hn1 hn2' hn3 hm1 hm2 hm3 hN HAN he hb
      unfold cfv opv at *
      go_enter Tryd.func9, Tryd.ntmps9
      go_wp2_with fail
      refine (ialive_any _ (HP.out.below (below_one _ _))).mono ?_
      rintro e w1 ⟨rfl, hb1⟩
      obtain ⟨hc1, hf1⟩ := bcell hb1
      go_wp2_with fail
      have hbw2 := below_then (below_one _ _) hb1
      refine (HD1.out w1 (HP.out.below hbw2) (HL.out.below hbw2)).mono ?_
      rintro e w2 ⟨A2, d2, B2, e2, rfl, hA2, hL2, hB2, hd2, hR2, hb2⟩
      have HA2 := Lib.hid hA2
      have hs1 := hb1.size
      replace hb1 := below_then hb1 hb2
      have hs2 := hb1.size
      have hv2 : w.heap.size < w2.heap.size := by simp at hs2; omega
      clear hc1 hf1
      obtain ⟨hc1, hf1⟩ := bcell hb1
      go_wp2_with fail
      obtain ⟨W2, hW2⟩ : ∃ W, W = w2.alloc (.cells #[.int .i64 x1, .int .u32 y1, .slice B2 m1 e2] 27) := ⟨_, rfl⟩
      obtain ⟨g2, hg2⟩ : ∃ g, w2.heap.size = g := ⟨_, rfl⟩
      have hbW2 : Below w2.heap.size w2 W2 := by rw [hW2]; exact below_one _ _
      have HR2 := Lib.hid (show W2.heap[g2]? = some (.cells #[.int .i64 x1, .int .u32 y1, .slice B2 m1 e2] 27 (0, 0)) by rw [hW2, ← hg2]; exact heap_alloc_new w2 _)
      have hz2 : g2 < W2.heap.size := by rw [hW2, ← hg2]; simp
      have HI2 := Lib.hid (hR2.below hbW2)
      have HE2 := Lib.hid (And.intro hd2 hB2)
      try rw [hg2]
      rw [← hW2]
      replace hb1 := below_then hb1 hbW2
      have HLw2 := Lib.hid (HL.out.below (below_then (below_one _ _) hb1))
      clear hc1 hf1 hW2 hs1 hs2 hb2 hL2 hR2 hA2 hB2 hd2 hbw2 hbW2 hg2 hv2
      have hbw3 := below_then (below_one _ _) hb1
      refine (HD2.out W2 (HP.out.below hbw3) (HL.out.below hbw3)).mono ?_
      rintro e w3 ⟨A3, d3, B3, e3, rfl, hA3, hL3, hB3, hd3, hR3, hb2⟩
      have HI2' := Lib.hid (HI2.out.below hb2)
      have HR2' := Lib.hid ((hb2.block g2 hz2).trans HR2.out)
      have hz2' := Nat.lt_of_lt_of_le hz2 hb2.size
      clear hz2
      have HA3 := Lib.hid hA3
      have hs1 := hb1.size
      replace hb1 := below_then hb1 hb2
      have hs2 := hb1.size
      have hv3 : w.heap.size < w3.heap.size := by simp at hs2; omega
      obtain ⟨hc1, hf1⟩ := bcell hb1
      go_wp2_with fail
      obtain ⟨W3, hW3⟩ : ∃ W, W = w3.alloc (.cells #[.int .i64 x2', .int .u32 y2, .slice B3 m2 e3] 27) := ⟨_, rfl⟩
      obtain ⟨g3, hg3⟩ : ∃ g, w3.heap.size = g := ⟨_, rfl⟩
      have hbW3 : Below w3.heap.size w3 W3 := by rw [hW3]; exact below_one _ _
      have HR3 := Lib.hid (show W3.heap[g3]? = some (.cells #[.int .i64 x2', .int .u32 y2, .slice B3 m2 e3] 27 (0, 0)) by rw [hW3, ← hg3]; exact heap_alloc_new w3 _)
      have hz3 : g3 < W3.heap.size := by rw [hW3, ← hg3]; simp
      have HI3 := Lib.hid (hR3.below hbW3)
      have HE3 := Lib.hid (And.intro hd3 hB3)
      have HI2 := Lib.hid (HI2'.out.below hbW3)
      have HR2 := Lib.hid ((hbW3.block g2 hz2').trans HR2'.out)
      have hz2 : g2 < W3.heap.size := Nat.lt_of_lt_of_le hz2' hbW3.size
      clear hz2'
      try rw [hg3]
      rw [← hW3]
      replace hb1 := below_then hb1 hbW3
      have HLw3 := Lib.hid (HL.out.below (below_then (below_one _ _) hb1))
      clear hc1 hf1 hW3 hs1 hs2 hb2 hL3 hR3 hA3 hB3 hd3 hbw3 hbW3 hg3 hv3
      have hbw4 := below_then (below_one _ _) hb1
      refine (HD3.out W3 (HP.out.below hbw4) (HL.out.below hbw4)).mono ?_
      rintro e w4 ⟨A4, d4, B4, e4, rfl, hA4, hL4, hB4, hd4, hR4, hb2⟩
      have HI2' := Lib.hid (HI2.out.below hb2)
      have HI3' := Lib.hid (HI3.out.below hb2)
      have HR2' := Lib.hid ((hb2.block g2 hz2).trans HR2.out)
      have hz2' := Nat.lt_of_lt_of_le hz2 hb2.size
      clear hz2
      have HR3' := Lib.hid ((hb2.block g3 hz3).trans HR3.out)
      have hz3' := Nat.lt_of_lt_of_le hz3 hb2.size
      clear hz3
      have HA4 := Lib.hid hA4
      have hs1 := hb1.size
      replace hb1 := below_then hb1 hb2
      have hs2 := hb1.size
      have hv4 : w.heap.size < w4.heap.size := by simp at hs2; omega
      have hb3 := below_then hb1 (below_one w4 (.cells #[.int .i64 x3, .int .u32 y3, .slice B4 m3 e4] 27))
      obtain ⟨p20, _, p21, _, p22, _⟩ := res_cells HR2'.out
      obtain ⟨p30, _, p31, _, p32, _⟩ := res_cells HR3'.out
      clear hb2 hs1 hs2 hbw4
      by_cases he : er = 0
      · subst he
        have hx : x2' ≠ 0 := by rcases HBAD.out with h | h; exact absurd rfl h; exact h
        have hx2 : (x2' != 0) = true := bne_iff_ne.2 hx
        go_wp2
        go_ret
        exact Ret.mk rfl (below_then (below_one _ _) hb3)
      · have he2 : (er != 0) = true := bne_iff_ne.2 he
        go_wp2
        go_ret
        exact Ret.mk (by simp) (below_then (below_one _ _) hb3)

set_option maxRecDepth 100000 in
theorem lifted (os : Os) (started : os.Started) (H : Type) (enc : TypeId × Value → H) :
    ReturnsInHanded {} Tryd.checked os 9 .any (fun w args => (Rows.orderFloorsSpec.pre enc Tryd.prog Tryd.f9 [] false w args ∧ laidMetH Tryd.prog laidL w) ∧ sizedMet enc Tryd.prog Tryd.f9 (OpenSpec.ofChange Rows.orderFloorsSpec) false w args)
      (Rows.orderFloorsSpec.post enc Tryd.prog Tryd.f9 false true false false) := by
  refine returnsInHanded_of_change_and (C := Tryd.checked) (X := fun w _ => laidMetH Tryd.prog laidL w) (fun _ _ _ hh h => h.of_heap hh) own started (by kernel_rfl) Tryd.func9
    (ChangeSpec.witness_shaped (enc := enc) (C := Tryd.checked) (os := os) (X := fun w _ => laidMetH Tryd.prog laidL w) false (World.doorLaid Tryd.prog 400 os) #[.agg #[.int .u8 0, .int .i64 0, .int .i64 0, .int .u8 0, .int .i64 0, .int .i64 0, .int .i64 0, .int .i64 0, .int .i64 0, .int .i64 0, .int .u64 0, .int .u64 0], .slice none 0 0, .int .u32 0] 8 rfl (World.shaped_of_RefB (by kernel_rfl) (by kernel_rfl)) (by kernel_rfl) (by kernel_rfl) (by kernel_rfl) (door_met os _)) ?_
  intro W base args ds gs before hval0 hW _ _ hL _
  refine law_of laidOut (by kernel_rfl) (by kernel_rfl) Tryd.underlying4 rfl ?_ hW fun p hA => ?_
  · intro ds hd
    match ds, hd with
    | [_, _, _], _ => rfl
  have hval' : ∀ (j : Nat) t v, Tryd.f9.params[j]? = some t → args[j]? = some v → Value.okWide Tryd.prog W .any base t v := hval0
  rw [Tryd.params9] at hA hval'
  obtain ⟨v0, vs0, d0, ds0, p0, q0, hargs, rfl, rfl, h0, r0⟩ := trodAll_cons hA
  obtain ⟨v1, vs1, d1, ds1, p1, q1, rfl, rfl, rfl, h1, r1⟩ := trodAll_cons r0
  obtain ⟨v2, vs2, d2, ds2, p2, q2, rfl, rfl, rfl, h2, r2⟩ := trodAll_cons r1
  obtain ⟨rfl, rfl, rfl⟩ := trodAll_nil r2
  obtain rfl : args = #[v0, v1, v2] := by cases args; simp_all
  obtain ⟨c, rfl⟩ := open_cfg (hval' 0 _ v0 rfl rfl) h0
  obtain ⟨A, d, l, rfl, hd, hAn, hl⟩ := open_tab (hval' 1 _ v1 rfl rfl) h1
  obtain ⟨z2, rfl, _, _, w2⟩ := open_int (k := .u32) Tryd.underlying25 (hval' 2 _ v2 rfl rfl) h2
  obtain ⟨key, rfl, hk⟩ := u32_nat w2
  exact walk c A d l key hk hd hAn W (of_laid hL) hl

theorem row : Rows.OrderFloorsSaid :=
  OpenClaim.holds_of_wide 9 Tryd.f9 rfl rfl rfl rfl rfl rfl rfl ⟨rfl, rfl, rfl, rfl, rfl⟩ rfl rfl rfl rfl rfl (by kernel_rfl) Tryd.func9 (by kernel_rfl)
    (of_decide_eq_true (by kernel_rfl)) (by unfold Func.isWrapper; first | (rw [if_pos (by decide +kernel)]; kernel_rfl) | (rw [if_neg (by decide +kernel)]; exact ⟨rfl, rfl⟩))
    (fun os started H enc _ => lifted os started H enc)

theorem card : Rows.OrderFloorsCardSaid :=
  Claim7.holds_tied_plain_at .later [] [.data] true Rows.orderFloorsCard.stood.harness false
    row (fun _ h => by cases h) (by kernel_rfl) (fun _ h => by cases h) orderFloors_row_tie rfl ⟨rfl, rfl⟩ (by kernel_rfl) rfl
    (fun f fn hf hfn => by
      obtain rfl : f = 9 := Option.some.inj ((show Tryd.prog.funcNamed "bascule/basculelaw07.OrderFloors" = some 9 by kernel_rfl).symm.trans hf) |>.symm
      obtain rfl : fn = Tryd.f9 := (Option.some.inj (Tryd.func9.symm.trans hfn)).symm
      exact ⟨by kernel_rfl, fun j t ht => by
        rw [Tryd.params9] at ht
        have hm : t ∈ [32, 22, 25] := by simpa using Array.mem_of_getElem? ht
        have hall : ([32, 22, 25].all fun u => !Tryd.prog.wantsStandIn u) = true := by kernel_rfl
        exact (show Tryd.prog.wantsStandIn t = false by simpa using List.all_eq_true.1 hall t hm)⟩)
    (by kernel_rfl)
#print axioms card

end Go.Proofs.YtohllaolbebogaaDoor.orderFloors
