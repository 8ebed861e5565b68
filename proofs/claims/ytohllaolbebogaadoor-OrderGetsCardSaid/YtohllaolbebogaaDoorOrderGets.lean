/- For any config, rows, key and value: what is put is got, what is deleted is told and not got any more, and no other key's row is turned by either. Condition: the table of objects holds at the call's start what the program's text lays there (the tied card). -/
import Derived.Test.YtohllaolbebogaaDoorOrAns
import Derived.Test.YtohllaolbebogaaDoorOpenOp
import Derived.Test.YtohllaolbebogaaDoorOpenCfg
import Derived.Test.YtohllaolbebogaaDoorOpenRow
namespace Go.Proofs.YtohllaolbebogaaDoor.orderGets
open Go.ChangeShapes Go.WideShapes Go.ChangeAt Go.RowKit Pt Opn Tb

set_option maxRecDepth 100000 in
set_option maxHeartbeats 8000000 in
theorem walk (c : Cf) (A : Option Addr) (d : Nat) (l : List R) (key val : Nat) (hk : key < 4294967296) (hv : val < 4294967296) (_ : l.length ≤ d ∧ d ≤ 9223372036854775807) (hA : A = none → l.length = 0 ∧ d = 0) (w : World) (hp : Obs w) (h : IsR w A l) :
    Calls Tryd.prog 7 #[cfv c, .slice A l.length d, .int .u32 key, .int .u32 val] w (Ret (.bool true) w) := by
  have HL := Lib.hid h
  have HP := Lib.hid hp
  have HAN := Lib.hid hA
  by_cases hn : 100 < l.length
  · have hn2 : (100 : Int) < (l.length : Int) := by omega
    clear h hA hp HAN
    generalize l.length = N at *
    unfold cfv
    go_enter Tryd.func7, Tryd.ntmps7
    go_wp2_with fail
    refine (ialive_any _ (HP.out.below (below_one _ _))).mono ?_
    rintro e w1 ⟨rfl, hb1⟩
    go_wp2
    go_ret
    exact Ret.mk rfl (below_then (below_one _ _) hb1)
  · have hn2 : ¬ (100 : Int) < (l.length : Int) := by omega
    have hlen := doOR_len c l ⟨4, key, val, 0⟩
    rcases ans_put c l key val with hbad | ⟨ht, ht1, ha, hb, y, hput⟩
    · obtain ⟨⟨rows, x, y, res⟩, hs⟩ : ∃ s, doOR c l ⟨4, key, val, 0⟩ = s := ⟨_, rfl⟩
      obtain ⟨er, he⟩ : ∃ s, doOE c l = s := ⟨_, rfl⟩
      obtain ⟨na, hna⟩ : ∃ n, rows.length = n := ⟨_, rfl⟩
      obtain ⟨nr, hnr⟩ : ∃ n, res.length = n := ⟨_, rfl⟩
      obtain ⟨N, hN⟩ : ∃ n, l.length = n := ⟨_, rfl⟩
      have HD := Lib.hid (odo_open c A l d ⟨4, key, val, 0⟩ (by unfold Wf; simp only; omega) hA (by omega) rows res x y er hs he N na nr hN hna hnr)
      rw [hs, he] at hbad
      simp only at hbad
      have HBAD := Lib.hid hbad
      rw [hN] at hn2 ⊢
      clear h hA hp hn hlen hs he hna hnr hN hbad HAN
      unfold cfv opv at *
      go_enter Tryd.func7, Tryd.ntmps7
      go_wp2_with fail
      refine (ialive_any _ (HP.out.below (below_one _ _))).mono ?_
      rintro e w1 ⟨rfl, hb1⟩
      obtain ⟨hc1, hf1⟩ := bcell hb1
      go_wp2_with fail
      have hbw2 := below_then (below_one _ _) hb1
      refine (HD.out w1 (HP.out.below hbw2) (HL.out.below hbw2)).mono ?_
      rintro e w2 ⟨A2, d2, B2, e2, rfl, hA2, hL2, hB2, hd2, hR2, hb2⟩
      have HA2 := Lib.hid hA2
      have hs1 := hb1.size
      replace hb1 := below_then hb1 hb2
      have hs2 := hb1.size
      have hv2 : w.heap.size < w2.heap.size := by simp at hs2; omega
      have HB := Lib.hid hb1
      clear hb1 hb2 hs1 hs2 hc1 hf1 hbw2 hL2 hR2 hA2 hB2 hd2 HD
      obtain ⟨hc1, hf1⟩ := bcell HB.out
      by_cases he : er = 0
      · subst he
        have hx : x ≠ 0 := by rcases HBAD.out with h | h; exact absurd rfl h; exact h
        have hx2 : (x != 0) = true := bne_iff_ne.2 hx
        go_wp2
        go_ret
        exact Ret.mk rfl (below_then (below_then (below_one _ _) HB.out) (below_one _ _))
      · have he2 : (er != 0) = true := bne_iff_ne.2 he
        go_wp2
        go_ret
        exact Ret.mk rfl (below_then (below_then (below_one _ _) HB.out) (below_one _ _))
    · have hup := ht.2.2.2.1
      obtain ⟨v1, hv1⟩ : ∃ n : Nat, (val + 1) % 4294967296 = n := ⟨_, rfl⟩
      obtain ⟨rows1, hr1⟩ : ∃ r, put l key val = r := ⟨_, rfl⟩
      obtain ⟨rows2, hr2⟩ : ∃ r, cut l key = r := ⟨_, rfl⟩
      have hc12 : cut rows1 key = rows2 := by rw [← hr1, ← hr2, cut_put key val hup]
      rw [hr1] at hput ht1
      have ht2 : IsOr c rows2 := by rw [← hc12]; exact orcut_tab ht1 key
      have hg1 : doOR c rows1 ⟨6, key, 0, 0⟩ = (rows1, 0, (v1 : Int), []) := by rw [ans_get ht1 ha, ← hr1, getR_put hup, hv1]
      have hg2 : doOR c rows1 ⟨5, key, 0, 0⟩ = (rows2, 0, (v1 : Int), []) := by rw [ans_cut ht1 ha, hc12, ← hr1, get_put key val hup]; simp only; rw [hv1]
      have hg3 : doOR c rows2 ⟨6, key, 0, 0⟩ = (rows2, 6, 0, []) := by rw [ans_get ht2 ha, ← hr2, getR_cut]
      have hw1 : IntKind.u32.wrap ((val : Int) + 1) = (v1 : Int) := by rw [IntKind.wrap_u32]; omega
      have hwk : IntKind.u64.wrap (key : Int) = (key : Int) := by rw [IntKind.wrap_u64]; omega
      rw [hput] at hlen
      simp only at hlen
      obtain ⟨n1, hn1⟩ : ∃ n, rows1.length = n := ⟨_, rfl⟩
      obtain ⟨n2, hn2'⟩ : ∃ n, rows2.length = n := ⟨_, rfl⟩
      obtain ⟨N, hN⟩ : ∃ n, l.length = n := ⟨_, rfl⟩
      have hle2 : rows2.length ≤ rows1.length := by rw [← hc12]; exact cut_length _ _
      have HD1 := Lib.hid (odo_open c A l d ⟨4, key, val, 0⟩ (by unfold Wf; simp only; omega) hA (by omega) rows1 [] 0 y 0 hput (ndoE ht) N n1 0 hN hn1 rfl)
      have HD2 := Lib.hid (fun B e (hB : B = none → n1 = 0 ∧ e = 0) => odo_open c B rows1 e ⟨6, key, 0, 0⟩ (by unfold Wf; simp only; omega) (by rw [hn1]; exact hB) (by omega) rows1 [] 0 (v1 : Int) 0 hg1 (ndoE ht1) n1 n1 0 hn1 hn1 rfl)
      have HD3 := Lib.hid (fun B e (hB : B = none → n1 = 0 ∧ e = 0) => odo_open c B rows1 e ⟨5, key, 0, 0⟩ (by unfold Wf; simp only; omega) (by rw [hn1]; exact hB) (by omega) rows2 [] 0 (v1 : Int) 0 hg2 (ndoE ht1) n1 n2 0 hn1 hn2' rfl)
      have HD4 := Lib.hid (fun B e (hB : B = none → n2 = 0 ∧ e = 0) => odo_open c B rows2 e ⟨6, key, 0, 0⟩ (by unfold Wf; simp only; omega) (by rw [hn2']; exact hB) (by omega) rows2 [] 6 0 0 hg3 (ndoE ht2) n2 n2 0 hn2' hn2' rfl)
      have HW := Lib.hid (fun X hX => rWithout_any A l d (by omega) key X hX)
      have HW2 := Lib.hid (fun B e X hX => rWithout_any B rows1 e (by omega) key X hX)
      have HS := Lib.hid (fun B C e f X hB hC => rSameRows_any B C rows2 rows2 e f (by omega) X hB hC)
      rw [hr2, hN] at HW
      rw [hc12, hn1] at HW2
      simp only [decide_true] at HS
      rw [hn2'] at HS
      have HN2 := Lib.hid hn2'
      have HL1 := Lib.hid hle2
      rw [hN] at hn2 ⊢
      clear h hA hp hn hlen hput ht ht1 ht2 hup hv1 hr1 hr2 hc12 hg1 hg2 hg3 hn1 hn2' hN HAN hle2 ha hb
      unfold cfv opv at *
      go_enter Tryd.func7, Tryd.ntmps7
      go_wp2_with fail
      refine (ialive_any _ (HP.out.below (below_one _ _))).mono ?_
      rintro e w1 ⟨rfl, hb1⟩
      obtain ⟨hc1, hf1⟩ := bcell hb1
      go_wp2_with fail
      have hbw2 := below_then (below_one _ _) hb1
      refine (HD1.out w1 (HP.out.below hbw2) (HL.out.below hbw2)).mono ?_
      rintro e w2 ⟨A2, d2, B2, e2, rfl, hA2, hL2, hB2, hd2, hR2, hb2⟩
      have HA2 := Lib.hid hA2
      have hs1 := hb1.size
      replace hb1 := below_then hb1 hb2
      have hs2 := hb1.size
      have hv2 : w.heap.size < w2.heap.size := by simp at hs2; omega
      clear hc1 hf1
      obtain ⟨hc1, hf1⟩ := bcell hb1
      go_wp2_with fail
      obtain ⟨W2, hW2⟩ : ∃ W, W = w2.alloc (.cells #[.int .i64 0, .int .u32 y, .slice B2 0 e2] 27) := ⟨_, rfl⟩
      obtain ⟨g2, hg2⟩ : ∃ g, w2.heap.size = g := ⟨_, rfl⟩
      have hbW2 : Below w2.heap.size w2 W2 := by rw [hW2]; exact below_one _ _
      have HR2 := Lib.hid (show W2.heap[g2]? = some (.cells #[.int .i64 0, .int .u32 y, .slice B2 0 e2] 27 (0, 0)) by rw [hW2, ← hg2]; exact heap_alloc_new w2 _)
      have hz2 : g2 < W2.heap.size := by rw [hW2, ← hg2]; simp
      have HI2 := Lib.hid (hL2.below hbW2)
      try rw [hg2]
      rw [← hW2]
      replace hb1 := below_then hb1 hbW2
      clear hc1 hf1 hW2 hs1 hs2 hb2 hL2 hR2 hA2 hB2 hd2 hbw2 hbW2 hg2 hv2
      have hbw3 := below_then (below_one _ _) hb1
      refine (HD2.out A2 d2 HA2.out W2 (HP.out.below hbw3) HI2.out).mono ?_
      rintro e w3 ⟨A3, d3, B3, e3, rfl, hA3, hL3, hB3, hd3, hR3, hb2⟩
      have HI2' := Lib.hid (HI2.out.below hb2)
      have HA3 := Lib.hid hA3
      have hs1 := hb1.size
      replace hb1 := below_then hb1 hb2
      have hs2 := hb1.size
      have hv3 : w.heap.size < w3.heap.size := by simp at hs2; omega
      obtain ⟨hc1, hf1⟩ := bcell hb1
      go_wp2_with fail
      obtain ⟨W3, hW3⟩ : ∃ W, W = w3.alloc (.cells #[.int .i64 0, .int .u32 v1, .slice B3 0 e3] 27) := ⟨_, rfl⟩
      obtain ⟨g3, hg3⟩ : ∃ g, w3.heap.size = g := ⟨_, rfl⟩
      have hbW3 : Below w3.heap.size w3 W3 := by rw [hW3]; exact below_one _ _
      have HR3 := Lib.hid (show W3.heap[g3]? = some (.cells #[.int .i64 0, .int .u32 v1, .slice B3 0 e3] 27 (0, 0)) by rw [hW3, ← hg3]; exact heap_alloc_new w3 _)
      have hz3 : g3 < W3.heap.size := by rw [hW3, ← hg3]; simp
      have HI3 := Lib.hid (hL3.below hbW3)
      have HI2 := Lib.hid (HI2'.out.below hbW3)
      try rw [hg3]
      rw [← hW3]
      replace hb1 := below_then hb1 hbW3
      clear hc1 hf1 hW3 hs1 hs2 hb2 hL3 hR3 hA3 hB3 hd3 hbw3 hbW3 hg3 hv3
      have hbw4 := below_then (below_one _ _) hb1
      refine (HD3.out A2 d2 HA2.out W3 (HP.out.below hbw4) HI2.out).mono ?_
      rintro e w4 ⟨A4, d4, B4, e4, rfl, hA4, hL4, hB4, hd4, hR4, hb2⟩
      have HI2' := Lib.hid (HI2.out.below hb2)
      have HR3' := Lib.hid ((hb2.block g3 hz3).trans HR3.out)
      have hz3' := Nat.lt_of_lt_of_le hz3 hb2.size
      clear hz3
      have HA4 := Lib.hid hA4
      have hs1 := hb1.size
      replace hb1 := below_then hb1 hb2
      have hs2 := hb1.size
      have hv4 : w.heap.size < w4.heap.size := by simp at hs2; omega
      obtain ⟨hc1, hf1⟩ := bcell hb1
      go_wp2_with fail
      obtain ⟨W4, hW4⟩ : ∃ W, W = w4.alloc (.cells #[.int .i64 0, .int .u32 v1, .slice B4 0 e4] 27) := ⟨_, rfl⟩
      obtain ⟨g4, hg4⟩ : ∃ g, w4.heap.size = g := ⟨_, rfl⟩
      have hbW4 : Below w4.heap.size w4 W4 := by rw [hW4]; exact below_one _ _
      have HR4 := Lib.hid (show W4.heap[g4]? = some (.cells #[.int .i64 0, .int .u32 v1, .slice B4 0 e4] 27 (0, 0)) by rw [hW4, ← hg4]; exact heap_alloc_new w4 _)
      have hz4 : g4 < W4.heap.size := by rw [hW4, ← hg4]; simp
      have HI4 := Lib.hid (hL4.below hbW4)
      have HI2 := Lib.hid (HI2'.out.below hbW4)
      have HR3 := Lib.hid ((hbW4.block g3 hz3').trans HR3'.out)
      have hz3 : g3 < W4.heap.size := Nat.lt_of_lt_of_le hz3' hbW4.size
      clear hz3'
      try rw [hg4]
      rw [← hW4]
      replace hb1 := below_then hb1 hbW4
      clear hc1 hf1 hW4 hs1 hs2 hb2 hL4 hR4 hA4 hB4 hd4 hbw4 hbW4 hg4 hv4
      have hbw5 := below_then (below_one _ _) hb1
      refine (HD4.out A4 d4 HA4.out W4 (HP.out.below hbw5) HI4.out).mono ?_
      rintro e w5 ⟨A5, d5, B5, e5, rfl, hA5, hL5, hB5, hd5, hR5, hb2⟩
      have HI2' := Lib.hid (HI2.out.below hb2)
      have HI4' := Lib.hid (HI4.out.below hb2)
      have HR3' := Lib.hid ((hb2.block g3 hz3).trans HR3.out)
      have hz3' := Nat.lt_of_lt_of_le hz3 hb2.size
      clear hz3
      have HR4' := Lib.hid ((hb2.block g4 hz4).trans HR4.out)
      have hz4' := Nat.lt_of_lt_of_le hz4 hb2.size
      clear hz4
      have HA5 := Lib.hid hA5
      have hs1 := hb1.size
      replace hb1 := below_then hb1 hb2
      have hs2 := hb1.size
      have hv5 : w.heap.size < w5.heap.size := by simp at hs2; omega
      obtain ⟨hc1, hf1⟩ := bcell hb1
      go_wp2_with fail
      obtain ⟨W5, hW5⟩ : ∃ W, W = w5.alloc (.cells #[.int .i64 6, .int .u32 0, .slice B5 0 e5] 27) := ⟨_, rfl⟩
      obtain ⟨g5, hg5⟩ : ∃ g, w5.heap.size = g := ⟨_, rfl⟩
      have hbW5 : Below w5.heap.size w5 W5 := by rw [hW5]; exact below_one _ _
      have HR5 := Lib.hid (show W5.heap[g5]? = some (.cells #[.int .i64 6, .int .u32 0, .slice B5 0 e5] 27 (0, 0)) by rw [hW5, ← hg5]; exact heap_alloc_new w5 _)
      have hz5 : g5 < W5.heap.size := by rw [hW5, ← hg5]; simp
      have HI5 := Lib.hid (hL5.below hbW5)
      have HI2 := Lib.hid (HI2'.out.below hbW5)
      have HI4 := Lib.hid (HI4'.out.below hbW5)
      have HR3 := Lib.hid ((hbW5.block g3 hz3').trans HR3'.out)
      have hz3 : g3 < W5.heap.size := Nat.lt_of_lt_of_le hz3' hbW5.size
      clear hz3'
      have HR4 := Lib.hid ((hbW5.block g4 hz4').trans HR4'.out)
      have hz4 : g4 < W5.heap.size := Nat.lt_of_lt_of_le hz4' hbW5.size
      clear hz4'
      try rw [hg5]
      rw [← hW5]
      replace hb1 := below_then hb1 hbW5
      clear hc1 hf1 hW5 hs1 hs2 hb2 hL5 hR5 hA5 hB5 hd5 hbw5 hbW5 hg5 hv5
      have hbw6 := below_then (below_one _ _) hb1
      refine (HW.out W5 (HL.out.below hbw6)).mono ?_
      rintro e w6 ⟨u6, rfl, hM6, hb2⟩
      obtain ⟨A6, d6, rfl, _, _, hL6⟩ := MadeX.form rowL_len hM6
      rw [HN2.out]
      have HI2' := Lib.hid (HI2.out.below hb2)
      have HI4' := Lib.hid (HI4.out.below hb2)
      have HI6 := Lib.hid hL6
      have k3 := ((hb2.block g3 hz3).trans HR3.out)
      have k4 := ((hb2.block g4 hz4).trans HR4.out)
      have k5 := ((hb2.block g5 hz5).trans HR5.out)
      obtain ⟨_, _, r3, _, _, _⟩ := res_cells k3
      obtain ⟨_, _, r4, _, _, _⟩ := res_cells k4
      obtain ⟨r5, _, _, _, _, _⟩ := res_cells k5
      have HB6 := Lib.hid (below_then hbw6 hb2)
      clear k3 k4 k5 hM6 hL6 hb2 hb1 hbw6
      go_wp2_with fail
      refine (HS.out A4 A6 d4 d6 w6 HI4'.out HI6.out).mono ?_
      rintro e w7 ⟨rfl, hb7⟩
      go_wp2_with fail
      refine (HW2.out A2 d2 w7 (HI2'.out.below hb7)).mono ?_
      rintro e w8 ⟨u8, rfl, hM8, hb8⟩
      obtain ⟨A8, d8, rfl, _, _, hL8⟩ := MadeX.form rowL_len hM8
      rw [HN2.out]
      have HI8 := Lib.hid hL8
      clear hM8 hL8
      go_wp2_with fail
      refine (HS.out A8 A6 d8 d6 w8 HI8.out (HI6.out.below (below_then hb7 hb8))).mono ?_
      rintro e w9 ⟨rfl, hb9⟩
      go_wp2
      go_ret
      exact Ret.mk rfl (below_then HB6.out (below_then hb7 (below_then hb8 hb9)))

set_option maxRecDepth 100000 in
theorem lifted (os : Os) (started : os.Started) (H : Type) (enc : TypeId × Value → H) :
    ReturnsInHanded {} Tryd.checked os 7 .any (fun w args => (Rows.orderGetsSpec.pre enc Tryd.prog Tryd.f7 [] false w args ∧ laidMetH Tryd.prog laidL w) ∧ sizedMet enc Tryd.prog Tryd.f7 (OpenSpec.ofChange Rows.orderGetsSpec) false w args)
      (Rows.orderGetsSpec.post enc Tryd.prog Tryd.f7 false true false false) := by
  refine returnsInHanded_of_change_and (C := Tryd.checked) (X := fun w _ => laidMetH Tryd.prog laidL w) (fun _ _ _ hh h => h.of_heap hh) own started (by kernel_rfl) Tryd.func7
    (ChangeSpec.witness_shaped (enc := enc) (C := Tryd.checked) (os := os) (X := fun w _ => laidMetH Tryd.prog laidL w) false (World.doorLaid Tryd.prog 400 os) #[.agg #[.int .u8 0, .int .i64 0, .int .i64 0, .int .u8 0, .int .i64 0, .int .i64 0, .int .i64 0, .int .i64 0, .int .i64 0, .int .i64 0, .int .u64 0, .int .u64 0], .slice none 0 0, .int .u32 0, .int .u32 0] 8 rfl (World.shaped_of_RefB (by kernel_rfl) (by kernel_rfl)) (by kernel_rfl) (by kernel_rfl) (by kernel_rfl) (door_met os _)) ?_
  intro W base args ds gs before hval0 hW _ _ hL _
  refine law_of laidOut (by kernel_rfl) (by kernel_rfl) Tryd.underlying4 rfl ?_ hW fun p hA => ?_
  · intro ds hd
    match ds, hd with
    | [_, _, _, _], _ => rfl
  have hval' : ∀ (j : Nat) t v, Tryd.f7.params[j]? = some t → args[j]? = some v → Value.okWide Tryd.prog W .any base t v := hval0
  rw [Tryd.params7] at hA hval'
  obtain ⟨v0, vs0, d0, ds0, p0, q0, hargs, rfl, rfl, h0, r0⟩ := trodAll_cons hA
  obtain ⟨v1, vs1, d1, ds1, p1, q1, rfl, rfl, rfl, h1, r1⟩ := trodAll_cons r0
  obtain ⟨v2, vs2, d2, ds2, p2, q2, rfl, rfl, rfl, h2, r2⟩ := trodAll_cons r1
  obtain ⟨v3, vs3, d3, ds3, p3, q3, rfl, rfl, rfl, h3, r3⟩ := trodAll_cons r2
  obtain ⟨rfl, rfl, rfl⟩ := trodAll_nil r3
  obtain rfl : args = #[v0, v1, v2, v3] := by cases args; simp_all
  obtain ⟨c, rfl⟩ := open_cfg (hval' 0 _ v0 rfl rfl) h0
  obtain ⟨A, d, l, rfl, hd, hAn, hl⟩ := open_tab (hval' 1 _ v1 rfl rfl) h1
  obtain ⟨z2, rfl, _, _, w2⟩ := open_int (k := .u32) Tryd.underlying25 (hval' 2 _ v2 rfl rfl) h2
  obtain ⟨key, rfl, hk⟩ := u32_nat w2
  obtain ⟨z3, rfl, _, _, w3⟩ := open_int (k := .u32) Tryd.underlying25 (hval' 3 _ v3 rfl rfl) h3
  obtain ⟨val, rfl, hv⟩ := u32_nat w3
  exact walk c A d l key val hk hv hd hAn W (of_laid hL) hl

theorem row : Rows.OrderGetsSaid :=
  OpenClaim.holds_of_wide 7 Tryd.f7 rfl rfl rfl rfl rfl rfl rfl ⟨rfl, rfl, rfl, rfl, rfl⟩ rfl rfl rfl rfl rfl (by kernel_rfl) Tryd.func7 (by kernel_rfl)
    (of_decide_eq_true (by kernel_rfl)) (by unfold Func.isWrapper; first | (rw [if_pos (by decide +kernel)]; kernel_rfl) | (rw [if_neg (by decide +kernel)]; exact ⟨rfl, rfl⟩))
    (fun os started H enc _ => lifted os started H enc)

theorem card : Rows.OrderGetsCardSaid :=
  Claim7.holds_tied_plain_at .later [] [.data] true Rows.orderGetsCard.stood.harness false
    row (fun _ h => by cases h) (by kernel_rfl) (fun _ h => by cases h) orderGets_row_tie rfl ⟨rfl, rfl⟩ (by kernel_rfl) rfl
    (fun f fn hf hfn => by
      obtain rfl : f = 7 := Option.some.inj ((show Tryd.prog.funcNamed "bascule/basculelaw07.OrderGets" = some 7 by kernel_rfl).symm.trans hf) |>.symm
      obtain rfl : fn = Tryd.f7 := (Option.some.inj (Tryd.func7.symm.trans hfn)).symm
      exact ⟨by kernel_rfl, fun j t ht => by
        rw [Tryd.params7] at ht
        have hm : t ∈ [32, 22, 25] := by simpa using Array.mem_of_getElem? ht
        have hall : ([32, 22, 25].all fun u => !Tryd.prog.wantsStandIn u) = true := by kernel_rfl
        exact (show Tryd.prog.wantsStandIn t = false by simpa using List.all_eq_true.1 hall t hm)⟩)
    (by kernel_rfl)
#print axioms card

end Go.Proofs.YtohllaolbebogaaDoor.orderGets
