/- For any config, rows and operation: whether the rows may be a tree's, and what the operation does, are the document's own answers; what comes in stays, and what is answered is new memory. Condition: the table of objects holds at the call's start what the program's text lays there (the tied card). -/
import Derived.Test.YtljdkjjjnlcflaaDoorPaAns
import Derived.Test.YtljdkjjjnlcflaaDoorTbGen
import Derived.Test.YtljdkjjjnlcflaaDoorOpenOp
import Derived.Test.YtljdkjjjnlcflaaDoorOpenCfg
import Derived.Test.YtljdkjjjnlcflaaDoorOpenRow
namespace Go.Proofs.YtljdkjjjnlcflaaDoor.pathsDo
open Go.ChangeShapes Go.WideShapes Go.ChangeAt Go.RowKit Pt Opn Tb

set_option maxRecDepth 100000 in
set_option maxHeartbeats 4000000 in
theorem walk (c : Cf) (A : Option Addr) (d : Nat) (l : List R) (o : O) (ho : Wf o) (hd : l.length ≤ d ∧ d ≤ 9223372036854775807) (hA : A = none → l.length = 0 ∧ d = 0) (hw64 : ∀ x ∈ l, x.1 < 18446744073709551616) (w : World) (hp : Obs w) (h : IsR w A l) :
    Calls Tryd.prog 4 #[cfv c, .slice A l.length d, opv o] w (Ret (.bool true) w) := by
  have HL := Lib.hid h
  have HAn := Lib.hid hA
  have HP := Lib.hid hp
  by_cases hn : 100 < l.length
  · have hn2 : (100 : Int) < (l.length : Int) := by omega
    clear h hA hp
    generalize l.length = N at *
    unfold cfv opv
    go_enter Tryd.func4, Tryd.ntmps4
    go_wp2
    go_ret
    exact Ret.mk rfl (below_two _ _ _)
  · have hn2 : ¬ (100 : Int) < (l.length : Int) := by omega
    have H1 := Lib.hid (fun A d W hA => paIs_any c A l d (by omega) hw64 W hA)
    have H2 := Lib.hid (fun A d hAn W hp hA => pdo_any c A l d o ho hAn (by omega) hw64 W hp hA)
    have H3 := Lib.hid (fun W hl => pDo_any c A l d o ho hd hA (by omega) hw64 W hl)
    have H4 := Lib.hid (fun W hA => rPaIs_any c A l d (by omega) hw64 W hA)
    have H5 := Lib.hid (fun B c' W hA hB => rSameRows_any B A l l c' d (by omega) W hA hB)
    have H7 := Lib.hid (fun A B (m : List R) c' d' hm W hA hB => rSameRows_any A B m m c' d' hm W hA hB)
    have H6 := Lib.hid (fun e v W => rSameRes_any e v e v none none [] [] 0 0 (by decide) W (IsL.nil _ _ _ _) (IsL.nil _ _ _ _))
    simp only [decide_true, and_self] at H5 H6 H7
    unfold resv at H6
    generalize doPR c l o = s at *
    generalize doPE c l = er at *
    obtain ⟨rows, x, y⟩ := s
    generalize ptB c l = z at *
    have hl100 : l.length ≤ 100 := by omega
    clear h hA hp hn ho hw64
    unfold cfv opv at *
    obtain ⟨W0, hW0⟩ : ∃ W0, W0 = (w.alloc (.cells #[.int .u8 c.obj, .int .i64 c.inst, .int .i64 c.thr, .int .u8 c.kind, .int .i64 c.str, .int .i64 c.bits, .int .i64 c.cap, .int .i64 c.node, .int .i64 c.bat, .int .i64 c.chunk, .int .u64 c.lim, .int .u64 c.most] 33)).alloc (.cells #[.int .u8 (o.k : Nat), .int .u32 (o.a : Nat), .int .u32 (o.b : Nat), .int .u32 (o.c : Nat)] 35) := ⟨_, rfl⟩
    have hB0 : Below w.heap.size w W0 := by rw [hW0]; exact below_two _ _ _
    have hz0 : W0.heap.size = w.heap.size + 1 + 1 := by rw [hW0]; simp
    have HL0 := Lib.hid (HL.out.below hB0)
    have HW0 := Lib.hid hW0
    have HOWN := Lib.hid (show (W0.alloc (.cells #[] 24)).ownsRow W0.heap.size 24 2 (.slice (some ⟨w.heap.size + 1 + 1, 0, none⟩) 0 0) 0 [] by rw [← hz0]; exact World.ownsRow_lit W0 #[] 0 (Nat.le_refl _) (by unfold maxLen; omega) rfl)
    clear hW0
    go_enter Tryd.func4, Tryd.ntmps4
    go_wp2_with (at_builtin; rw [← HW0.out]; refine wpList_joinX (w0 := W0) (m := l) (A := A) (c := d) rfl (.tmp 20) (.tmp 21) _ rfl Tryd.underlying25 row_info rfl (by decide) (B := W0.heap.size) (l := []) rowL_len rfl HOWN.out rfl HAn.out (HL0.out.below (below_one _ _)) row_one (by simp; omega) (by simp; omega) (Nat.le_refl _) (below_one _ _) ?_; intro v W Hv hbW Hg; have hb1 := hbW; rw [HW0.out] at hb1; obtain ⟨hc1, hf1⟩ := bcell hb1; have HMo := Lib.hid (show MadeX W W0.heap.size 24 2 rowL v l from Hv.out); clear Hg Hv; obtain ⟨A0, d0, rfl, hd0, hA0, hL0⟩ := MadeX.form rowL_len HMo.out; have HA0 := Lib.hid hA0; have HL1 := Lib.hid hL0; clear hA0 hL0)
    refine (H1.out _ _ _ HL1.out).mono ?_
    rintro e w2 ⟨rfl, hb2⟩
    have HL2 := Lib.hid (HL1.out.below hb2)
    have HMo2 := Lib.hid (MadeX.below HMo.out hb2)
    have HOB := Lib.hid (fun k hk => (MadeX.lt HMo2.out k hk).2)
    replace hb1 := below_then hb1 hb2
    clear hc1 hf1 hb2 hbW HL1 HMo
    obtain ⟨hc1, hf1⟩ := bcell hb1
    go_wp2_with fail
    have hb0 := below_then (below_two _ _ _) hb1
    refine (H2.out A0 d0 HA0.out w2 (HP.out.below hb0) HL2.out).mono ?_
    rintro e w3 ⟨u, rfl, hM3, hb3⟩
    obtain ⟨Aa, da, rfl, hda, hAa, hLa⟩ := MadeX.form rowL_len hM3
    have HM3 := Lib.hid hM3
    have HLa := Lib.hid hLa
    have HMo3 := Lib.hid (MadeX.below HMo2.out hb3)
    have HL3 := Lib.hid (HL2.out.below hb3)
    have hs2 := hb1.size
    replace hb1 := below_then hb1 hb3
    have hs3 := hb3.size
    clear hc1 hf1 hb3 hM3 hLa HMo2 HL2 hb0
    have hv3 : w.heap.size + 1 < w3.heap.size := by simp at hs2; omega
    have hu3 : w.heap.size < w3.heap.size := by omega
    obtain ⟨hc1, hf1⟩ := bcell hb1
    simp only [resv]
    go_wp2_with fail
    have hbw3 := below_then (below_two _ _ _) hb1
    obtain ⟨W3, hW3⟩ : ∃ W3, W3 = w3.alloc (.cells #[.int .i64 x, .int .u32 y, .slice none 0 0] 29) := ⟨_, rfl⟩
    obtain ⟨g3, hg3⟩ : ∃ g, w3.heap.size = g := ⟨_, rfl⟩
    have hbW3 : Below w3.heap.size w3 W3 := by rw [hW3]; exact below_one _ _
    have hz3 : W3.heap.size = g3 + 1 := by rw [hW3, ← hg3]; simp
    have HR3 := Lib.hid (show W3.heap[g3]? = some (.cells #[.int .i64 x, .int .u32 y, .slice none 0 0] 29 (0, 0)) by rw [hW3, ← hg3]; exact heap_alloc_new w3 _)
    have HM4 := Lib.hid (MadeX.below HM3.out hbW3)
    have HMo4 := Lib.hid (MadeX.below HMo3.out hbW3)
    have HL4 := Lib.hid (HL3.out.below hbW3)
    have HLa4 := Lib.hid (HLa.out.below hbW3)
    rw [← hW3, hg3]
    replace hb1 := below_then hb1 hbW3
    clear hc1 hf1 hW3 HM3 HMo3 HL3 HLa
    have hbw4 := below_then hbw3 hbW3
    refine (H3.out W3 (HL.out.below hbw4)).mono ?_
    rintro e w4 ⟨u4, rfl, hR4, hb4⟩
    obtain ⟨Ab, db, rfl, hdb, hAb, hLb⟩ := hR4
    have HLb := Lib.hid hLb
    have HM5 := Lib.hid (MadeX.below HM4.out hb4)
    have HMo5 := Lib.hid (MadeX.below HMo4.out hb4)
    have HL5 := Lib.hid (HL4.out.below hb4)
    have HLa5 := Lib.hid (HLa4.out.below hb4)
    replace hb1 := below_then hb1 hb4
    have hs4 := hb4.size
    have hg4 : g3 < w4.heap.size := by omega
    obtain ⟨r0, _, r1, _, r2, _⟩ := res_cells ((hb4.block _ (by omega)).trans HR3.out)
    have hbw5 := Lib.hid (below_then hbw4 hb4)
    clear hbw3 hbw4 hb4 hbW3 hLb HM4 HMo4 HL4 HLa4 HR3
    have hv4 : w.heap.size + 1 < w4.heap.size := by omega
    have hu4 : w.heap.size < w4.heap.size := by omega
    obtain ⟨hc1, hf1⟩ := bcell hb1
    simp only [resv]
    go_wp2_with fail
    obtain ⟨W4, hW4⟩ : ∃ W4, W4 = w4.alloc (.cells #[.int .i64 x, .int .u32 y, .slice none 0 0] 29) := ⟨_, rfl⟩
    obtain ⟨g4, hg4'⟩ : ∃ g, w4.heap.size = g := ⟨_, rfl⟩
    have hbW4 : Below w4.heap.size w4 W4 := by rw [hW4]; exact below_one _ _
    have hz4 : W4.heap.size = g4 + 1 := by rw [hW4, ← hg4']; simp
    have HR4 := Lib.hid (show W4.heap[g4]? = some (.cells #[.int .i64 x, .int .u32 y, .slice none 0 0] 29 (0, 0)) by rw [hW4, ← hg4']; exact heap_alloc_new w4 _)
    rw [← hW4, hg4']
    have hbw6 := hbw5.out.trans (hbW4.mono hbw5.out.size)
    refine (H4.out W4 (HL.out.below hbw6)).mono ?_
    rintro e w5 ⟨rfl, hb5⟩
    have hb45 := below_then hbW4 hb5
    have HM6 := Lib.hid (MadeX.below HM5.out hb45)
    have HMo6 := Lib.hid (MadeX.below HMo5.out hb45)
    have HL6 := Lib.hid (HL5.out.below hb45)
    have HLa6 := Lib.hid (HLa5.out.below hb45)
    have HLb6 := Lib.hid (HLb.out.below hb45)
    have hbw7 := Lib.hid (hbw5.out.trans (hb45.mono hbw5.out.size))
    have q0 := (hb45.cell hg4).trans r0
    have q1 := ((bcell hb45).1 _ _ hg4).trans r1
    have q2 := ((bcell hb45).1 _ _ hg4).trans r2
    have hs5 := hb5.size
    have hg3w : g3 < w5.heap.size := by omega
    have hg4w : g4 < w5.heap.size := by omega
    obtain ⟨p0, _, p1, _, p2, _⟩ := res_cells ((hb5.block _ (by omega)).trans HR4.out)
    clear hc1 hf1 hW4 hbW4 hbw6 hb5 HM5 HMo5 HL5 HLa5 HLb hbw5 HR4 hb1 hb45 r0 r1 r2
    go_wp2_with (first
      | (go_at_call 12; refine (H7.out _ _ rows _ _ (by omega) _ HLa6.out HLb6.out).mono ?_; rintro e w6 ⟨rfl, hb6⟩; obtain ⟨hc6, hf6⟩ := bcell hb6)
      | (go_at_call 16; refine (H6.out _ _ _).mono ?_; rintro e w7 ⟨rfl, hb7⟩))
    have hb67 := below_then hb6 hb7
    have HM8 := Lib.hid (MadeX.below HM6.out hb67)
    have HMo8 := Lib.hid (MadeX.below HMo6.out hb67)
    have HL8 := Lib.hid (HL6.out.below hb67)
    have hbw8 := Lib.hid (hbw7.out.trans (hb67.mono hbw7.out.size))
    have HWB := Lib.hid (show w.heap.size ≤ w2.heap.size by simp at hs2; omega)
    clear HM6 HMo6 HL6 HLa6 HLb6 hbw7 hb6 hb7 hb67 hc6 hf6 p0 p1 p2 q0 q1 q2
    obtain ⟨n, hn⟩ : ∃ n, rows.length = n := ⟨_, rfl⟩
    rw [hn] at HM8 hda hdb ⊢
    have HNN := Lib.hid hn
    clear hn
    go_loopw [16] (fun iv wr => ∃ k : Nat, ∃ m : List R, k ≤ n ∧ iv = .int .i64 k ∧ Hid (m.length = n ∧ MadeX wr w2.heap.size 24 2 rowL (.slice Aa n da) m ∧ w7.grownBy wr (Value.slice Aa n da).ownBlock)) (fun i _ => n - (intOf i).toNat)
    case atStart => exact ⟨0, rows, by omega, rfl, Lib.hid ⟨HNN.out, HM8.out, World.grownBy.refl _ _⟩⟩
    case round =>
      obtain ⟨k, m, hk, rfl, HK⟩ := hrel
      have i1 : (0 : Int) ≤ (k : Int) := by omega
      by_cases hlt : k < n
      · have i2 : (k : Int) < (n : Int) := by omega
        have hkm : k < m.length := by rw [HK.out.1]; exact hlt
        have em : m = m.take k ++ m[k] :: m.drop (k + 1) := by rw [List.getElem_cons_drop, List.take_append_drop]
        have hl1 : (m.take k).length = k := by rw [List.length_take]; omega
        obtain ⟨ga, rfl, hfz⟩ : ∃ ga, Aa = some ⟨ga, 0, none⟩ ∧ ∀ o, wr.frozen? ⟨ga, o, none⟩ = false := by
          rcases HK.out.2.1.2 with ⟨h, h0⟩ | ⟨g', cap', cur', h, _, h3, _⟩
          · rw [HK.out.1] at h0; omega
          · injection h with h; exact ⟨g', h, (alloc_shape h3).2⟩
        obtain ⟨A9, d9, e9, _, _, hL9⟩ := MadeX.form rowL_len HK.out.2.1
        rw [HK.out.1] at e9
        injection e9 with e91 _ e93
        subst e91 e93
        obtain ⟨bk, off, eA, x0, x1⟩ := hL9.row hkm
        injection eA with eA
        injection eA with e1 e2 _
        subst e1 e2
        rw [Nat.zero_add] at x0 x1
        have fz0 := hfz (k * 2)
        have fz1 := hfz (k * 2 + 1)
        have hM9 := HK.out.2.1
        rw [em] at hM9
        have ht := made_turned (y := (99, 98)) (by rw [← em]; exact HK.out.1) hM9
        rw [hl1] at ht
        have HT := Lib.hid ht
        have hg9 := HK.out.2.2
        have HG9 := Lib.hid (show w7.grownBy ((wr.setCell ⟨ga, k * 2, none⟩ (.int .u64 ((99 : Nat) : Int))).setCell ⟨ga, k * 2 + 1, none⟩ (.int .u64 ((98 : Nat) : Int))) (some ga) from
          grown_trans (w1 := wr) hg9 ⟨rfl, rfl, rfl, by simp [World.setCell], fun i hi hne => (Below.heap_setCell _ ⟨ga, _, none⟩ _ i (fun e => hne (by rw [e]))).trans (Below.heap_setCell _ ⟨ga, _, none⟩ _ i (fun e => hne (by rw [e])))⟩)
        have HLM := Lib.hid (show (m.take k ++ (99, 98) :: m.drop (k + 1)).length = n by rw [List.length_append, hl1, List.length_cons, List.length_drop, HK.out.1]; omega)
        clear em hl1 hL9 hM9 ht hg9 hfz
        go_wp2
        go_roundw
        case rel => exact ⟨k + 1, _, by omega, by go_num, Lib.hid ⟨HLM.out, HT.out, HG9.out⟩⟩
        case measure => simp [intOf]; omega
      · obtain rfl : k = n := by omega
        have hgr := HK.out.2.2
        have hown : (Value.slice A0 l.length d0).ownBlock = none ∨ (Value.slice A0 l.length d0).ownBlock ≠ (Value.slice Aa k da).ownBlock := by
          cases e : (Value.slice A0 l.length d0).ownBlock with
          | none => exact .inl rfl
          | some g =>
            refine .inr fun e2 => ?_
            have h1 := HOB.out g e
            have h2 := (MadeX.lt HK.out.2.1 g e2.symm).1
            omega
        have hMr := (MadeX.grown HMo8.out hgr hown)
        obtain ⟨A9, d9, e9, _, _, hL9⟩ := MadeX.form rowL_len hMr
        injection e9 with e91 _ e93
        subst e91 e93
        have HL9 := Lib.hid hL9
        have hbr : Below w.heap.size w wr := hbw8.out.grown hgr hbw8.out.size (fun j hj => Nat.le_trans HWB.out (MadeX.lt HM8.out j hj).1)
        clear hL9 hMr hown
        go_wp2_with (go_at_call 12; refine (H5.out _ _ _ HL9.out (HL.out.below hbr)).mono ?_; rintro e w9 ⟨rfl, hb9⟩)
        go_ret
        exact Ret.mk rfl (hbr.trans (hb9.mono hbr.size))

set_option maxRecDepth 100000 in
theorem lifted (os : Os) (started : os.Started) (H : Type) (enc : TypeId × Value → H) :
    ReturnsInHanded {} Tryd.checked os 4 .any (fun w args => (Rows.pathsDoSpec.pre enc Tryd.prog Tryd.f4 [] false w args ∧ laidMetH Tryd.prog laidL w) ∧ sizedMet enc Tryd.prog Tryd.f4 (OpenSpec.ofChange Rows.pathsDoSpec) false w args)
      (Rows.pathsDoSpec.post enc Tryd.prog Tryd.f4 false true false false) := by
  refine returnsInHanded_of_change_and (C := Tryd.checked) (X := fun w _ => laidMetH Tryd.prog laidL w) (fun _ _ _ hh h => h.of_heap hh) own started (by kernel_rfl) Tryd.func4
    (ChangeSpec.witness_shaped (enc := enc) (C := Tryd.checked) (os := os) (X := fun w _ => laidMetH Tryd.prog laidL w) false (World.doorLaid Tryd.prog 400 os) #[.agg #[.int .u8 0, .int .i64 0, .int .i64 0, .int .u8 0, .int .i64 0, .int .i64 0, .int .i64 0, .int .i64 0, .int .i64 0, .int .i64 0, .int .u64 0, .int .u64 0], .slice none 0 0, .agg #[.int .u8 0, .int .u32 0, .int .u32 0, .int .u32 0]] 8 rfl (World.shaped_of_RefB (by kernel_rfl) (by kernel_rfl)) (by kernel_rfl) (by kernel_rfl) (by kernel_rfl) (door_met os _)) ?_
  intro W base args ds gs before hval0 hW _ _ hL _
  refine law_of laidOut (by kernel_rfl) (by kernel_rfl) Tryd.underlying4 rfl ?_ hW fun p hA => ?_
  · intro ds hd
    match ds, hd with
    | [_, _, _], _ => rfl
  have hval' : ∀ (j : Nat) t v, Tryd.f4.params[j]? = some t → args[j]? = some v → Value.okWide Tryd.prog W .any base t v := hval0
  rw [Tryd.params4] at hA hval'
  obtain ⟨v0, vs0, d0, ds0, p0, q0, hargs, rfl, rfl, h0, r0⟩ := trodAll_cons hA
  obtain ⟨v1, vs1, d1, ds1, p1, q1, rfl, rfl, rfl, h1, r1⟩ := trodAll_cons r0
  obtain ⟨v2, vs2, d2, ds2, p2, q2, rfl, rfl, rfl, h2, r2⟩ := trodAll_cons r1
  obtain ⟨rfl, rfl, rfl⟩ := trodAll_nil r2
  obtain rfl : args = #[v0, v1, v2] := by cases args; simp_all
  obtain ⟨c, rfl⟩ := open_cfg (hval' 0 _ v0 rfl rfl) h0
  obtain ⟨A, d, l, hwB, rfl, hd, hAn, hl⟩ := open_tabB (hval' 1 _ v1 rfl rfl) h1
  obtain ⟨o, ho, rfl⟩ := open_op (hval' 2 _ v2 rfl rfl) h2
  exact walk c A d l o ho hd hAn (fun x hx => (hwB x hx).1) W (of_laid hL) hl

theorem row : Rows.PathsDoSaid :=
  OpenClaim.holds_of_wide 4 Tryd.f4 rfl rfl rfl rfl rfl rfl rfl ⟨rfl, rfl, rfl, rfl, rfl⟩ rfl rfl rfl rfl rfl (by kernel_rfl) Tryd.func4 (by kernel_rfl)
    (of_decide_eq_true (by kernel_rfl)) (by unfold Func.isWrapper; first | (rw [if_pos (by decide +kernel)]; kernel_rfl) | (rw [if_neg (by decide +kernel)]; exact ⟨rfl, rfl⟩))
    (fun os started H enc _ => lifted os started H enc)

theorem card : Rows.PathsDoCardSaid :=
  Claim7.holds_tied_plain_at .later [] [.data] true Rows.pathsDoCard.stood.harness false
    row (fun _ h => by cases h) (by kernel_rfl) (fun _ h => by cases h) pathsDo_row_tie rfl ⟨rfl, rfl⟩ (by kernel_rfl) rfl
    (fun f fn hf hfn => by
      obtain rfl : f = 4 := Option.some.inj ((show Tryd.prog.funcNamed "bascule/basculelaw09.PathsDo" = some 4 by kernel_rfl).symm.trans hf) |>.symm
      obtain rfl : fn = Tryd.f4 := (Option.some.inj (Tryd.func4.symm.trans hfn)).symm
      exact ⟨by kernel_rfl, fun j t ht => by
        rw [Tryd.params4] at ht
        have hm : t ∈ [33, 25, 35] := by simpa using Array.mem_of_getElem? ht
        have hall : ([33, 25, 35].all fun u => !Tryd.prog.wantsStandIn u) = true := by kernel_rfl
        exact (show Tryd.prog.wantsStandIn t = false by simpa using List.all_eq_true.1 hall t hm)⟩)
    (by kernel_rfl)
#print axioms card

end Go.Proofs.YtljdkjjjnlcflaaDoor.pathsDo
