/- For any config, rows and operation: whether the rows may be an index's, and what the operation does, are the document's own answers; what comes in stays, whatever is done to the answer, and the answer's own rows stay where the rows that are left are turned. Condition: the table of objects holds at the call's start what the program's text lays there (the tied card). -/
import Derived.Test.YtohllaolbebogaaDoorOrDoP
import Derived.Test.YtohllaolbebogaaDoorOpenOp
import Derived.Test.YtohllaolbebogaaDoorOpenCfg
import Derived.Test.YtohllaolbebogaaDoorOpenRow
namespace Go.Proofs.YtohllaolbebogaaDoor.orderDoes
open Go.ChangeShapes Go.WideShapes Go.ChangeAt Go.RowKit Pt Opn Tb

theorem apart_sym {u r : Value} (h : u.ownBlock = none ∨ u.ownBlock ≠ r.ownBlock) : r.ownBlock = none ∨ r.ownBlock ≠ u.ownBlock := by
  rcases h with h | h
  · rw [h]
    cases r.ownBlock with
    | none => exact .inl rfl
    | some b => exact .inr (by simp)
  · exact .inr fun e => h e.symm
theorem isr_grown {w w' : World} {A : Option Addr} {l : List R} {row : Option Nat} (h : IsR w A l) (hg : w.grownBy w' row) (hne : ∀ b, (Value.slice A 0 0).ownBlock = some b → some b ≠ row) : IsR w' A l := fun i x hx => by
  obtain ⟨b, off, rfl, h1⟩ := h i x hx
  refine ⟨b, off, rfl, fun j u hu => ?_⟩
  have h2 := h1 j u hu
  exact (World.cell?_of_block (w := w) (hg.block b (World.block_lt_of_cell? _ _ h2) (hne b rfl))).trans h2

set_option maxRecDepth 100000 in
set_option maxHeartbeats 8000000 in
theorem walk (c : Cf) (A : Option Addr) (d : Nat) (l : List R) (o : O) (ho : Wf o) (hd : l.length ≤ d ∧ d ≤ 9223372036854775807) (hA : A = none → l.length = 0 ∧ d = 0) (w : World) (hp : Obs w) (h : IsR w A l) :
    Calls Tryd.prog 4 #[cfv c, .slice A l.length d, opv o] w (Ret (.bool true) w) := by
  have HL := Lib.hid h
  have HAn := Lib.hid hA
  have HP := Lib.hid hp
  by_cases hn : 100 < l.length
  · have hn2 : (100 : Int) < (l.length : Int) := by omega
    clear h hA hp
    generalize l.length = N at *
    unfold cfv opv
    go_enter Tryd.func4, Tryd.ntmps4
    go_wp2
    go_ret
    exact Ret.mk rfl (below_two _ _ _)
  · have hn2 : ¬ (100 : Int) < (l.length : Int) := by omega
    have H1 := Lib.hid (fun A d W hA => orIs_any c A l d (by omega) W hA)
    have H2 := Lib.hid (fun A d hAn W hp hA => odo_any c A l d o ho hAn (by omega) W hp hA)
    have H3 := Lib.hid (fun W hl => rODo_any c A l d o ho hd hA (by omega) W hl)
    have H4 := Lib.hid (fun W hA => rOrIs_any c A l d (by omega) W hA)
    have H5 := Lib.hid (fun B c' W hA hB => rSameRows_any B A l l c' d (by omega) W hA hB)
    have H7 := Lib.hid (fun A B (m : List R) c' d' hm W hA hB => rSameRows_any A B m m c' d' hm W hA hB)
    have H6 := Lib.hid (fun e v A B (m : List R) c' d' hm W hA hB => rSameRes_any e v e v A B m m c' d' hm W hA hB)
    simp only [decide_true, and_self] at H5 H6 H7
    unfold resv at H6
    generalize doOR c l o = s at *
    generalize doOE c l = er at *
    obtain ⟨rows, x, y, res⟩ := s
    generalize orB c l = z at *
    have hl100 : l.length ≤ 100 := by omega
    clear h hA hp hn ho
    unfold cfv opv at *
    obtain ⟨W0, hW0⟩ : ∃ W0, W0 = (w.alloc (.cells #[.int .u8 c.obj, .int .i64 c.inst, .int .i64 c.thr, .int .u8 c.kind, .int .i64 c.str, .int .i64 c.bits, .int .i64 c.cap, .int .i64 c.node, .int .i64 c.bat, .int .i64 c.chunk, .int .u64 c.lim, .int .u64 c.most] 32)).alloc (.cells #[.int .u8 (o.k : Nat), .int .u32 (o.a : Nat), .int .u32 (o.b : Nat), .int .u32 (o.c : Nat)] 34) := ⟨_, rfl⟩
    have hB0 : Below w.heap.size w W0 := by rw [hW0]; exact below_two _ _ _
    have hz0 : W0.heap.size = w.heap.size + 1 + 1 := by rw [hW0]; simp
    have HL0 := Lib.hid (HL.out.below hB0)
    have HW0 := Lib.hid hW0
    have HOWN := Lib.hid (show (W0.alloc (.cells #[] 37)).ownsRow W0.heap.size 37 2 (.slice (some ⟨w.heap.size + 1 + 1, 0, none⟩) 0 0) 0 [] by rw [← hz0]; exact World.ownsRow_lit W0 #[] 0 (Nat.le_refl _) (by unfold maxLen; omega) rfl)
    clear hW0
    go_enter Tryd.func4, Tryd.ntmps4
    go_wp2_with (at_builtin; rw [← HW0.out]; refine wpList_joinX (w0 := W0) (m := l) (A := A) (c := d) rfl (.tmp 21) (.tmp 22) _ rfl Tryd.underlying22 row_info rfl (by decide) (B := W0.heap.size) (l := []) rowL_len rfl HOWN.out rfl HAn.out (HL0.out.below (below_one _ _)) row_one (by simp; omega) (by simp; omega) (Nat.le_refl _) (below_one _ _) ?_; intro v W Hv hbW Hg; have hb1 := hbW; rw [HW0.out] at hb1; obtain ⟨hc1, hf1⟩ := bcell hb1; have HMo := Lib.hid (show MadeX W W0.heap.size 37 2 rowL v l from Hv.out); clear Hg Hv; obtain ⟨A0, d0, rfl, hd0, hA0, hL0⟩ := MadeX.form rowL_len HMo.out; have HA0 := Lib.hid hA0; have HL1 := Lib.hid hL0; clear hA0 hL0)
    refine (H1.out _ _ _ HL1.out).mono ?_
    rintro e w2 ⟨rfl, hb2⟩
    have HL2 := Lib.hid (HL1.out.below hb2)
    have HMo2 := Lib.hid (MadeX.below HMo.out hb2)
    have HOB := Lib.hid (fun k hk => (MadeX.lt HMo2.out k hk).2)
    replace hb1 := below_then hb1 hb2
    clear hc1 hf1 hb2 hbW HL1 HMo
    obtain ⟨hc1, hf1⟩ := bcell hb1
    go_wp2_with fail
    have hb0 := below_then (below_two _ _ _) hb1
    refine (H2.out A0 d0 HA0.out w2 (HP.out.below hb0) HL2.out).mono ?_
    rintro e w3 ⟨u, r, rfl, hM3, hN3, hap, hb3⟩
    obtain ⟨Aa, da, rfl, hda, hAa, hLa⟩ := MadeX.form rowL_len hM3
    obtain ⟨Ar, dr, rfl, hdr, hAr, hLr⟩ := MadeX.form rowL_len hN3
    simp only at hM3 hN3 hap hda hdr hLa hLr ⊢
    obtain ⟨n, hnn⟩ : ∃ n, rows.length = n := ⟨_, rfl⟩
    obtain ⟨nr, hnr⟩ : ∃ n, res.length = n := ⟨_, rfl⟩
    rw [hnn] at hM3 hda hap ⊢
    rw [hnr] at hN3 hdr hap ⊢
    have HNN := Lib.hid hnn
    have HNR := Lib.hid hnr
    have HM3 := Lib.hid hM3
    have HN3 := Lib.hid hN3
    have HAP := Lib.hid hap
    have HLa := Lib.hid hLa
    have HLr := Lib.hid hLr
    have HMo3 := Lib.hid (MadeX.below HMo2.out hb3)
    have HL3 := Lib.hid (HL2.out.below hb3)
    have HUB := Lib.hid (fun k hk => MadeX.lt HM3.out k hk)
    have hs2 := hb1.size
    replace hb1 := below_then hb1 hb3
    have hs3 := hb3.size
    clear hc1 hf1 hb3 hM3 hN3 hap hLa hLr HMo2 HL2 hb0 hAa hAr hnn hnr
    have hv3 : w.heap.size + 1 < w3.heap.size := by simp at hs2; omega
    have hu3 : w.heap.size < w3.heap.size := by omega
    obtain ⟨hc1, hf1⟩ := bcell hb1
    go_wp2_with fail
    have hbw3 := below_then (below_two _ _ _) hb1
    obtain ⟨W3, hW3⟩ : ∃ W3, W3 = w3.alloc (.cells #[.int .i64 x, .int .u32 y, .slice Ar nr dr] 27) := ⟨_, rfl⟩
    obtain ⟨g3, hg3⟩ : ∃ g, w3.heap.size = g := ⟨_, rfl⟩
    have hbW3 : Below w3.heap.size w3 W3 := by rw [hW3]; exact below_one _ _
    have hz3 : W3.heap.size = g3 + 1 := by rw [hW3, ← hg3]; simp
    have HR3 := Lib.hid (show W3.heap[g3]? = some (.cells #[.int .i64 x, .int .u32 y, .slice Ar nr dr] 27 (0, 0)) by rw [hW3, ← hg3]; exact heap_alloc_new w3 _)
    have HM4 := Lib.hid (MadeX.below HM3.out hbW3)
    have HN4 := Lib.hid (MadeX.below HN3.out hbW3)
    have HMo4 := Lib.hid (MadeX.below HMo3.out hbW3)
    have HL4 := Lib.hid (HL3.out.below hbW3)
    have HLa4 := Lib.hid (HLa.out.below hbW3)
    have HLr4 := Lib.hid (HLr.out.below hbW3)
    rw [hg3] at HUB
    rw [← hW3, hg3]
    replace hb1 := below_then hb1 hbW3
    clear hc1 hf1 hW3 HM3 HN3 HMo3 HL3 HLa HLr
    have hbw4 := below_then hbw3 hbW3
    refine (H3.out W3 (HL.out.below hbw4)).mono ?_
    rintro e w4 ⟨u4, r4, rfl, hR4, hQ4, hnew, hb4⟩
    obtain ⟨Ab, db, rfl, hdb, hAb, hLb⟩ := hR4
    obtain ⟨Aq, dq, rfl, hdq, hAq, hLq⟩ := hQ4
    simp only at hdb hdq hLb hLq ⊢
    rw [HNN.out] at hdb ⊢
    rw [HNR.out] at hdq ⊢
    have HNEW := Lib.hid (show ∀ b, (Value.slice Aq 0 0).ownBlock = some b → g3 < b from fun b hb => by have := newv_len (c := 0) (d := 0) hnew b hb; omega)
    have HLb := Lib.hid hLb
    have HLq := Lib.hid hLq
    have HM5 := Lib.hid (MadeX.below HM4.out hb4)
    have HN5 := Lib.hid (MadeX.below HN4.out hb4)
    have HMo5 := Lib.hid (MadeX.below HMo4.out hb4)
    have HL5 := Lib.hid (HL4.out.below hb4)
    have HLa5 := Lib.hid (HLa4.out.below hb4)
    have HLr5 := Lib.hid (HLr4.out.below hb4)
    replace hb1 := below_then hb1 hb4
    have hs4 := hb4.size
    have hg4 : g3 < w4.heap.size := by omega
    have HQ4 := Lib.hid ((hb4.block _ (by omega)).trans HR3.out)
    have hbw5 := Lib.hid (below_then hbw4 hb4)
    clear hbw3 hbw4 hb4 hbW3 hLb hLq HM4 HN4 HMo4 HL4 HLa4 HLr4 HR3 hnew hAb hAq
    have hv4 : w.heap.size + 1 < w4.heap.size := by omega
    have hu4 : w.heap.size < w4.heap.size := by omega
    obtain ⟨hc1, hf1⟩ := bcell hb1
    go_wp2_with fail
    obtain ⟨W4, hW4⟩ : ∃ W4, W4 = w4.alloc (.cells #[.int .i64 x, .int .u32 y, .slice Aq nr dq] 27) := ⟨_, rfl⟩
    obtain ⟨g4, hg4'⟩ : ∃ g, w4.heap.size = g := ⟨_, rfl⟩
    have hbW4 : Below w4.heap.size w4 W4 := by rw [hW4]; exact below_one _ _
    have hz4 : W4.heap.size = g4 + 1 := by rw [hW4, ← hg4']; simp
    have HR4 := Lib.hid (show W4.heap[g4]? = some (.cells #[.int .i64 x, .int .u32 y, .slice Aq nr dq] 27 (0, 0)) by rw [hW4, ← hg4']; exact heap_alloc_new w4 _)
    rw [← hW4, hg4']
    have hbw6 := hbw5.out.trans (hbW4.mono hbw5.out.size)
    refine (H4.out W4 (HL.out.below hbw6)).mono ?_
    rintro e w5 ⟨rfl, hb5⟩
    have hb45 := below_then hbW4 hb5
    have HM6 := Lib.hid (MadeX.below HM5.out hb45)
    have HN6 := Lib.hid (MadeX.below HN5.out hb45)
    have HMo6 := Lib.hid (MadeX.below HMo5.out hb45)
    have HL6 := Lib.hid (HL5.out.below hb45)
    have HLa6 := Lib.hid (HLa5.out.below hb45)
    have HLr6 := Lib.hid (HLr5.out.below hb45)
    have HLb6 := Lib.hid (HLb.out.below hb45)
    have HLq6 := Lib.hid (HLq.out.below hb45)
    have hbw7 := Lib.hid (hbw5.out.trans (hb45.mono hbw5.out.size))
    have hs5 := hb5.size
    have hg3w : g3 < w5.heap.size := by omega
    have hg4w : g4 < w5.heap.size := by omega
    have HQ5 := Lib.hid ((hb45.block g3 (by omega)).trans HQ4.out)
    have HR5 := Lib.hid ((hb5.block g4 (by omega)).trans HR4.out)
    obtain ⟨q0, _, q1, _, q2, _⟩ := res_cells HQ5.out
    obtain ⟨p0, _, p1, _, p2, _⟩ := res_cells HR5.out
    clear hc1 hf1 hW4 hbW4 hbw6 hb5 HM5 HN5 HMo5 HL5 HLa5 HLr5 HLb HLq hbw5 HR4 HQ4 hb1 hb45
    rw [← HNN.out] at hda
    have H7' := Lib.hid (show ∀ W, IsR W Aa rows → IsR W Ab rows → Calls Tryd.prog 18 #[.slice Aa n da, .slice Ab n db] W (Ret (.bool true) W) from fun W h1 h2 => by have := H7.out Aa Ab rows da db (by omega) W h1 h2; rw [HNN.out] at this; exact this)
    have H6' := Lib.hid (show ∀ W, IsR W Ar res → IsR W Aq res → Calls Tryd.prog 19 #[.agg #[.int .i64 x, .int .u32 y, .slice Ar nr dr], .agg #[.int .i64 x, .int .u32 y, .slice Aq nr dq]] W (Ret (.bool true) W) from fun W h1 h2 => by have := H6.out x y Ar Aq res dr dq (by rw [HNR.out]; omega) W h1 h2; rw [HNR.out] at this; exact this)
    clear H6 H7 H1 H2 H3 H4
    go_wp2_with (first
      | (go_at_call 18; refine (H7'.out _ HLa6.out HLb6.out).mono ?_; rintro e w6 ⟨rfl, hb6⟩; obtain ⟨hc6, hf6⟩ := bcell hb6)
      | (go_at_call 19; refine (H6'.out _ (HLr6.out.below hb6) (HLq6.out.below hb6)).mono ?_; rintro e w7 ⟨rfl, hb7⟩))
    have hb67 := below_then hb6 hb7
    have HM8 := Lib.hid (MadeX.below HM6.out hb67)
    have HN8 := Lib.hid (MadeX.below HN6.out hb67)
    have HMo8 := Lib.hid (MadeX.below HMo6.out hb67)
    have HLq8 := Lib.hid (HLq6.out.below hb67)
    have hbw8 := Lib.hid (hbw7.out.trans (hb67.mono hbw7.out.size))
    have HWB := Lib.hid (show w.heap.size ≤ w2.heap.size by simp at hs2; omega)
    have HQ8 := Lib.hid ((hb67.block g3 (by omega)).trans HQ5.out)
    have HR8 := Lib.hid ((hb67.block g4 (by omega)).trans HR5.out)
    have HNG := Lib.hid (And.intro (made_ne HM8.out HQ8.out (by decide)) (made_ne HM8.out HR8.out (by decide)))
    have HNGr := Lib.hid (made_ne HN8.out HQ8.out (by decide))
    have hs67 := hb67.size
    have hg3x : g3 < w7.heap.size := by omega
    have hg4x : g4 < w7.heap.size := by omega
    clear HM6 HN6 HMo6 HL6 HLa6 HLr6 HLb6 HLq6 hbw7 hb6 hb7 hb67 hc6 hf6 p0 p1 p2 q0 q1 q2 hda H7' HQ5 HR5 hs67 hg3w hg4w hg4 hs5 hs4 hv4 hu4 hz4 hz3 hdb hs3 hv3 hu3 hs2
    go_loopw [16] (fun iv wr => ∃ k : Nat, ∃ m : List R, k ≤ n ∧ iv = .int .i64 k ∧ Hid (m.length = n ∧ MadeX wr w2.heap.size 37 2 rowL (.slice Aa n da) m ∧ w7.grownBy wr (Value.slice Aa n da).ownBlock)) (fun i _ => n - (intOf i).toNat)
    case atStart => exact ⟨0, rows, by omega, rfl, Lib.hid ⟨HNN.out, HM8.out, World.grownBy.refl _ _⟩⟩
    case round =>
      obtain ⟨k, m, hk, rfl, HK⟩ := hrel
      have i1 : (0 : Int) ≤ (k : Int) := by omega
      by_cases hlt : k < n
      · have i2 : (k : Int) < (n : Int) := by omega
        have hkm : k < m.length := by rw [HK.out.1]; exact hlt
        have em : m = m.take k ++ m[k] :: m.drop (k + 1) := by rw [List.getElem_cons_drop, List.take_append_drop]
        have hl1 : (m.take k).length = k := by rw [List.length_take]; omega
        obtain ⟨ga, rfl, hfz⟩ : ∃ ga, Aa = some ⟨ga, 0, none⟩ ∧ ∀ o, wr.frozen? ⟨ga, o, none⟩ = false := by
          rcases HK.out.2.1.2 with ⟨h, h0⟩ | ⟨g', cap', cur', h, _, h3, _⟩
          · rw [HK.out.1] at h0; omega
          · injection h with h; exact ⟨g', h, (alloc_shape h3).2⟩
        obtain ⟨A9, d9, e9, _, _, hL9⟩ := MadeX.form rowL_len HK.out.2.1
        rw [HK.out.1] at e9
        injection e9 with e91 _ e93
        subst e91 e93
        obtain ⟨bk, off, eA, x0, x1⟩ := hL9.row hkm
        injection eA with eA
        injection eA with e1 e2 _
        subst e1 e2
        rw [Nat.zero_add] at x0 x1
        have fz0 := hfz (k * 2)
        have fz1 := hfz (k * 2 + 1)
        have hM9 := HK.out.2.1
        rw [em] at hM9
        have ht := made_turned (y := (99, 98)) (by rw [← em]; exact HK.out.1) hM9
        rw [hl1] at ht
        have HT := Lib.hid ht
        have hg9 := HK.out.2.2
        have HG9 := Lib.hid (show w7.grownBy ((wr.setCell ⟨ga, k * 2, none⟩ (.int .u64 ((99 : Nat) : Int))).setCell ⟨ga, k * 2 + 1, none⟩ (.int .u64 ((98 : Nat) : Int))) (some ga) from
          grown_trans (w1 := wr) hg9 ⟨rfl, rfl, rfl, by simp [World.setCell], fun i hi hne => (Below.heap_setCell _ ⟨ga, _, none⟩ _ i (fun e => hne (by rw [e]))).trans (Below.heap_setCell _ ⟨ga, _, none⟩ _ i (fun e => hne (by rw [e])))⟩)
        have HLM := Lib.hid (show (m.take k ++ (99, 98) :: m.drop (k + 1)).length = n by rw [List.length_append, hl1, List.length_cons, List.length_drop, HK.out.1]; omega)
        clear em hl1 hL9 hM9 ht hg9 hfz
        go_wp2
        go_roundw
        case rel => exact ⟨k + 1, _, by omega, by go_num, Lib.hid ⟨HLM.out, HT.out, HG9.out⟩⟩
        case measure => simp [intOf]; omega
      · obtain rfl : k = n := by omega
        have hgr := HK.out.2.2
        have hown : (Value.slice A0 l.length d0).ownBlock = none ∨ (Value.slice A0 l.length d0).ownBlock ≠ (Value.slice Aa k da).ownBlock := by
          cases e : (Value.slice A0 l.length d0).ownBlock with
          | none => exact .inl rfl
          | some g =>
            refine .inr fun e2 => ?_
            have h1 := HOB.out g e
            have h2 := (MadeX.lt HK.out.2.1 g e2.symm).1
            omega
        have HMr := Lib.hid (MadeX.grown HMo8.out hgr hown)
        have HNr := Lib.hid (MadeX.grown HN8.out hgr (apart_sym HAP.out))
        have HLqr := Lib.hid (isr_grown HLq8.out hgr (fun b hb e => by have h1 := HNEW.out b hb; have h2 := (HUB.out b e.symm).2; omega))
        have HQr := Lib.hid ((hgr.block g3 hg3x (fun e => HNG.out.1 e.symm)).trans HQ8.out)
        have HRr := Lib.hid ((hgr.block g4 hg4x (fun e => HNG.out.2 e.symm)).trans HR8.out)
        have hbr := Lib.hid (hbw8.out.grown hgr hbw8.out.size (fun j hj => Nat.le_trans HWB.out (MadeX.lt HM8.out j hj).1))
        have hsr := hgr.size
        obtain ⟨q0, _, q1, _, q2, _⟩ := res_cells HQr.out
        obtain ⟨p0, _, p1, _, p2, _⟩ := res_cells HRr.out
        have hLr9 : IsR wr Ar res := by
          obtain ⟨A9, d9, e9, _, _, hL9⟩ := MadeX.form rowL_len HNr.out
          injection e9 with e91 _ e93
          rw [e91]; exact hL9
        have HLr9 := Lib.hid hLr9
        clear hgr hown hLr9
        go_wp2_with (go_at_call 19; refine (H6'.out _ HLr9.out HLqr.out).mono ?_; rintro e w8 ⟨rfl, hb8⟩)
        have HMo9 := Lib.hid (MadeX.below HMr.out hb8)
        have HN9 := Lib.hid (MadeX.below HNr.out hb8)
        have HQ9 := Lib.hid ((hb8.block g3 (by omega)).trans HQr.out)
        have hbw9 := Lib.hid (hbr.out.trans (hb8.mono hbr.out.size))
        have hs8 := hb8.size
        have hg3y : g3 < w8.heap.size := by omega
        clear q0 q1 q2 p0 p1 p2 hb8
        go_loopw [17] (fun iv wr => ∃ k : Nat, ∃ m : List R, k ≤ nr ∧ iv = .int .i64 k ∧ Hid (m.length = nr ∧ MadeX wr w2.heap.size 37 2 rowL (.slice Ar nr dr) m ∧ w8.grownBy wr (Value.slice Ar nr dr).ownBlock)) (fun i _ => nr - (intOf i).toNat)
        case atStart => exact ⟨0, res, by omega, rfl, Lib.hid ⟨HNR.out, HN9.out, World.grownBy.refl _ _⟩⟩
        case round =>
          obtain ⟨j, m, hj, rfl, HK2⟩ := hrel
          have HQx := Lib.hid ((HK2.out.2.2.block g3 hg3y (fun e => HNGr.out e.symm)).trans HQ9.out)
          obtain ⟨_, _, _, _, q2, _⟩ := res_cells HQx.out
          have i1 : (0 : Int) ≤ (j : Int) := by omega
          by_cases hlt : j < nr
          · have i2 : (j : Int) < (nr : Int) := by omega
            have hkm : j < m.length := by rw [HK2.out.1]; exact hlt
            have em : m = m.take j ++ m[j] :: m.drop (j + 1) := by rw [List.getElem_cons_drop, List.take_append_drop]
            have hl1 : (m.take j).length = j := by rw [List.length_take]; omega
            obtain ⟨ga, rfl, hfz⟩ : ∃ ga, Ar = some ⟨ga, 0, none⟩ ∧ ∀ o, wr.frozen? ⟨ga, o, none⟩ = false := by
              rcases HK2.out.2.1.2 with ⟨h, h0⟩ | ⟨g', cap', cur', h, _, h3, _⟩
              · rw [HK2.out.1] at h0; omega
              · injection h with h; exact ⟨g', h, (alloc_shape h3).2⟩
            obtain ⟨A9, d9, e9, _, _, hL9⟩ := MadeX.form rowL_len HK2.out.2.1
            rw [HK2.out.1] at e9
            injection e9 with e91 _ e93
            subst e91 e93
            obtain ⟨bk, off, eA, x0, x1⟩ := hL9.row hkm
            injection eA with eA
            injection eA with e1 e2 _
            subst e1 e2
            rw [Nat.zero_add] at x0 x1
            have fz0 := hfz (j * 2)
            have fz1 := hfz (j * 2 + 1)
            have hM9 := HK2.out.2.1
            rw [em] at hM9
            have ht := made_turned (y := (97, 96)) (by rw [← em]; exact HK2.out.1) hM9
            rw [hl1] at ht
            have HT := Lib.hid ht
            have hg9 := HK2.out.2.2
            have HG9 := Lib.hid (show w8.grownBy ((wr.setCell ⟨ga, j * 2, none⟩ (.int .u64 ((97 : Nat) : Int))).setCell ⟨ga, j * 2 + 1, none⟩ (.int .u64 ((96 : Nat) : Int))) (some ga) from
              grown_trans (w1 := wr) hg9 ⟨rfl, rfl, rfl, by simp [World.setCell], fun i hi hne => (Below.heap_setCell _ ⟨ga, _, none⟩ _ i (fun e => hne (by rw [e]))).trans (Below.heap_setCell _ ⟨ga, _, none⟩ _ i (fun e => hne (by rw [e])))⟩)
            have HLM := Lib.hid (show (m.take j ++ (97, 96) :: m.drop (j + 1)).length = nr by rw [List.length_append, hl1, List.length_cons, List.length_drop, HK2.out.1]; omega)
            clear em hl1 hL9 hM9 ht hg9 hfz
            go_wp2
            go_roundw
            case rel => exact ⟨j + 1, _, by omega, by go_num, Lib.hid ⟨HLM.out, HT.out, HG9.out⟩⟩
            case measure => simp [intOf]; omega
          · obtain rfl : j = nr := by omega
            have hgr := HK2.out.2.2
            have hown : (Value.slice A0 l.length d0).ownBlock = none ∨ (Value.slice A0 l.length d0).ownBlock ≠ (Value.slice Ar j dr).ownBlock := by
              cases e : (Value.slice A0 l.length d0).ownBlock with
              | none => exact .inl rfl
              | some g =>
                refine .inr fun e2 => ?_
                have h1 := HOB.out g e
                have h2 := (MadeX.lt HK2.out.2.1 g e2.symm).1
                omega
            have hMr := (MadeX.grown HMo9.out hgr hown)
            obtain ⟨A9, d9, e9, _, _, hL9⟩ := MadeX.form rowL_len hMr
            injection e9 with e91 _ e93
            subst e91 e93
            have HL9 := Lib.hid hL9
            have hbr2 : Below w.heap.size w wr := hbw9.out.grown hgr hbw9.out.size (fun i hi => Nat.le_trans HWB.out (MadeX.lt HN9.out i hi).1)
            clear hL9 hMr hown
            go_wp2_with (go_at_call 18; refine (H5.out _ _ _ HL9.out (HL.out.below hbr2)).mono ?_; rintro e w9 ⟨rfl, hb9⟩)
            go_ret
            exact Ret.mk rfl (hbr2.trans (hb9.mono hbr2.size))

set_option maxRecDepth 100000 in
theorem lifted (os : Os) (started : os.Started) (H : Type) (enc : TypeId × Value → H) :
    ReturnsInHanded {} Tryd.checked os 4 .any (fun w args => (Rows.orderDoesSpec.pre enc Tryd.prog Tryd.f4 [] false w args ∧ laidMetH Tryd.prog laidL w) ∧ sizedMet enc Tryd.prog Tryd.f4 (OpenSpec.ofChange Rows.orderDoesSpec) false w args)
      (Rows.orderDoesSpec.post enc Tryd.prog Tryd.f4 false true false false) := by
  refine returnsInHanded_of_change_and (C := Tryd.checked) (X := fun w _ => laidMetH Tryd.prog laidL w) (fun _ _ _ hh h => h.of_heap hh) own started (by kernel_rfl) Tryd.func4
    (ChangeSpec.witness_shaped (enc := enc) (C := Tryd.checked) (os := os) (X := fun w _ => laidMetH Tryd.prog laidL w) false (World.doorLaid Tryd.prog 400 os) #[.agg #[.int .u8 0, .int .i64 0, .int .i64 0, .int .u8 0, .int .i64 0, .int .i64 0, .int .i64 0, .int .i64 0, .int .i64 0, .int .i64 0, .int .u64 0, .int .u64 0], .slice none 0 0, .agg #[.int .u8 0, .int .u32 0, .int .u32 0, .int .u32 0]] 8 rfl (World.shaped_of_RefB (by kernel_rfl) (by kernel_rfl)) (by kernel_rfl) (by kernel_rfl) (by kernel_rfl) (door_met os _)) ?_
  intro W base args ds gs before hval0 hW _ _ hL _
  refine law_of laidOut (by kernel_rfl) (by kernel_rfl) Tryd.underlying4 rfl ?_ hW fun p hA => ?_
  · intro ds hd
    match ds, hd with
    | [_, _, _], _ => rfl
  have hval' : ∀ (j : Nat) t v, Tryd.f4.params[j]? = some t → args[j]? = some v → Value.okWide Tryd.prog W .any base t v := hval0
  rw [Tryd.params4] at hA hval'
  obtain ⟨v0, vs0, d0, ds0, p0, q0, hargs, rfl, rfl, h0, r0⟩ := trodAll_cons hA
  obtain ⟨v1, vs1, d1, ds1, p1, q1, rfl, rfl, rfl, h1, r1⟩ := trodAll_cons r0
  obtain ⟨v2, vs2, d2, ds2, p2, q2, rfl, rfl, rfl, h2, r2⟩ := trodAll_cons r1
  obtain ⟨rfl, rfl, rfl⟩ := trodAll_nil r2
  obtain rfl : args = #[v0, v1, v2] := by cases args; simp_all
  obtain ⟨c, rfl⟩ := open_cfg (hval' 0 _ v0 rfl rfl) h0
  obtain ⟨A, d, l, rfl, hd, hAn, hl⟩ := open_tab (hval' 1 _ v1 rfl rfl) h1
  obtain ⟨o, ho, rfl⟩ := open_op (hval' 2 _ v2 rfl rfl) h2
  exact walk c A d l o ho hd hAn W (of_laid hL) hl

theorem row : Rows.OrderDoesSaid :=
  OpenClaim.holds_of_wide 4 Tryd.f4 rfl rfl rfl rfl rfl rfl rfl ⟨rfl, rfl, rfl, rfl, rfl⟩ rfl rfl rfl rfl rfl (by kernel_rfl) Tryd.func4 (by kernel_rfl)
    (of_decide_eq_true (by kernel_rfl)) (by unfold Func.isWrapper; first | (rw [if_pos (by decide +kernel)]; kernel_rfl) | (rw [if_neg (by decide +kernel)]; exact ⟨rfl, rfl⟩))
    (fun os started H enc _ => lifted os started H enc)

theorem card : Rows.OrderDoesCardSaid :=
  Claim7.holds_tied_plain_at .later [] [.data] true Rows.orderDoesCard.stood.harness false
    row (fun _ h => by cases h) (by kernel_rfl) (fun _ h => by cases h) orderDoes_row_tie rfl ⟨rfl, rfl⟩ (by kernel_rfl) rfl
    (fun f fn hf hfn => by
      obtain rfl : f = 4 := Option.some.inj ((show Tryd.prog.funcNamed "bascule/basculelaw07.OrderDoes" = some 4 by kernel_rfl).symm.trans hf) |>.symm
      obtain rfl : fn = Tryd.f4 := (Option.some.inj (Tryd.func4.symm.trans hfn)).symm
      exact ⟨by kernel_rfl, fun j t ht => by
        rw [Tryd.params4] at ht
        have hm : t ∈ [32, 22, 34] := by simpa using Array.mem_of_getElem? ht
        have hall : ([32, 22, 34].all fun u => !Tryd.prog.wantsStandIn u) = true := by kernel_rfl
        exact (show Tryd.prog.wantsStandIn t = false by simpa using List.all_eq_true.1 hall t hm)⟩)
    (by kernel_rfl)
#print axioms card

end Go.Proofs.YtohllaolbebogaaDoor.orderDoes
