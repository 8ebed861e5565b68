/- For any config, rows, and numbers of somebody and something: where the rows may be rules, a check answers deny if a rule that speaks of them denies, else allow if one allows, else nothing. Condition: the table of objects holds at the call's start what the program's text lays there (the tied card). -/
import Derived.Test.YtfkkeokmkhjpfaaDoorRuLive
import Derived.Test.YtfkkeokmkhjpfaaDoorLaw
import Derived.Test.YtfkkeokmkhjpfaaDoorOpenOp
import Derived.Test.YtfkkeokmkhjpfaaDoorOpenCfg
import Derived.Test.YtfkkeokmkhjpfaaDoorOpenRow
import Derived.Deep.DeepCutAuto
namespace Go.Proofs.YtfkkeokmkhjpfaaDoor.rulesTell
open Go.ChangeShapes Go.WideShapes Go.ChangeAt Go.RowKit Pt Opn Tb

/-- Does one of the first j rules speak, and say v? -/
def anyV (l : List R) (a b v j : Nat) : Bool := (l.take j).any fun x => sp x.1 a b && decide (x.2 = v)
theorem anyV_zero (l : List R) (a b v : Nat) : anyV l a b v 0 = false := by unfold anyV; simp
theorem anyV_succ {l : List R} {a b v j : Nat} (hj : j < l.length) : anyV l a b v (j + 1) = (anyV l a b v j || (sp l[j].1 a b && decide (l[j].2 = v))) := by
  unfold anyV
  rw [List.take_succ_eq_append_getElem hj, List.any_append]
  simp
theorem anyV_all {l : List R} {a b v : Nat} : anyV l a b v l.length = true ↔ ∃ x ∈ l, sp x.1 a b = true ∧ x.2 = v := by
  unfold anyV
  rw [List.take_length, List.any_eq_true]
  simp only [Bool.and_eq_true, decide_eq_true_eq]
theorem tells {l : List R} (h : ∀ x ∈ l, RuOk x) (a b : Nat) : (anyV l a b 2 l.length = true ∧ says l a b = 2) ∨ (anyV l a b 2 l.length = false ∧ anyV l a b 1 l.length = true ∧ says l a b = 1) ∨ (anyV l a b 2 l.length = false ∧ anyV l a b 1 l.length = false ∧ says l a b = 0) := by
  obtain ⟨f1, f2, f3⟩ := says_facts h a b
  cases h2 : anyV l a b 2 l.length with
  | true => exact .inl ⟨rfl, f2.2 (anyV_all.1 h2)⟩
  | false =>
    have n2 : says l a b ≠ 2 := fun e => by
      have := anyV_all.2 (f2.1 e)
      rw [h2] at this; cases this
    cases h1 : anyV l a b 1 l.length with
    | true =>
      have n0 : says l a b ≠ 0 := fun e => by
        obtain ⟨x, hx, hs, _⟩ := anyV_all.1 h1
        rw [f3.1 e x hx] at hs; cases hs
      exact .inr (.inl ⟨rfl, rfl, by omega⟩)
    | false =>
      refine .inr (.inr ⟨rfl, rfl, f3.2 fun x hx => ?_⟩)
      cases hs : sp x.1 a b with
      | false => rfl
      | true =>
        rcases (h x hx).2 with hv | hv
        · have := anyV_all.2 ⟨x, hx, hs, hv⟩
          rw [h1] at this; cases this
        · have := anyV_all.2 ⟨x, hx, hs, hv⟩
          rw [h2] at this; cases this
theorem and_low (k : Nat) (hk : k < 4294967296) : bits .and .u64 (k : Int) 65535 = ((k % 65536 : Nat) : Int) := by
  rw [show (65535 : Int) = ((2 ^ 16 - 1 : Nat) : Int) by decide, u64_and_nat _ _ (by omega) (by decide), Nat.and_two_pow_sub_one_eq_mod]
theorem sp_dec (k a b : Nat) : sp k a b = ((decide (k / 65536 = 0) || decide (k / 65536 = a)) && (decide (k % 65536 = 0) || decide (k % 65536 = b))) := by
  unfold sp
  rw [Bool.eq_iff_iff]
  simp only [Bool.and_eq_true, Bool.or_eq_true, decide_eq_true_eq]

set_option maxRecDepth 100000 in
set_option maxHeartbeats 8000000 in
theorem walk (c : Cf) (A : Option Addr) (d : Nat) (l : List R) (who what : Nat) (hwho : who < 4294967296) (hwhat : what < 4294967296) (_ : l.length ≤ d ∧ d ≤ 9223372036854775807) (hA : A = none → l.length = 0 ∧ d = 0) (hw64 : ∀ x ∈ l, x.1 < 18446744073709551616) (w : World) (hp : Obs w) (h : IsR w A l) :
    Calls Tryd.prog 7 #[cfv c, .slice A l.length d, .int .u32 who, .int .u32 what] w (Ret (.bool true) w) := by
  have HL := Lib.hid h
  have HP := Lib.hid hp
  by_cases hn : 100 < l.length
  · have hn2 : (100 : Int) < (l.length : Int) := by omega
    clear h hA hp hw64
    generalize l.length = N at *
    unfold cfv
    go_enter Tryd.func7, Tryd.ntmps7
    go_wp2_with fail
    refine (ualive_any _ (HP.out.below (below_one _ _))).mono ?_
    rintro e w1 ⟨rfl, hb1⟩
    go_wp2
    go_ret
    exact Ret.mk rfl (below_then (below_one _ _) hb1)
  · have hn2 : ¬ (100 : Int) < (l.length : Int) := by omega
    have HIs := Lib.hid (fun W hl => uIs_any c A l d (by omega) hw64 W hl)
    have HSay := Lib.hid (fun W hW hl => usays_any c A l d who what hwho hwhat hA (by omega) hw64 W hW hl)
    by_cases hg : IsRu c l ∧ (1 ≤ who ∧ who ≤ 65535) ∧ 1 ≤ what ∧ what ≤ 65535
    · obtain ⟨hru, ⟨g1, g2⟩, g3, g4⟩ := hg
      rw [ruB_true hru] at HIs
      rw [show sayL c l who what = says l who what by unfold sayL; rw [if_pos ⟨hru, g1, g2, g3, g4⟩]] at HSay
      have HT := Lib.hid (tells hru.2.2.2.2 who what)
      have HOK := Lib.hid hru.2.2.2.2
      obtain ⟨v, hv⟩ : ∃ v, says l who what = v := ⟨_, rfl⟩
      rw [hv] at HSay HT
      obtain ⟨N, hN⟩ : ∃ N, l.length = N := ⟨_, rfl⟩
      have HN := Lib.hid hN
      rw [hN] at HIs HSay HT hn hn2 ⊢
      clear h hp hA hw64 hru hv hN
      have i1 : ¬ (who : Int) < 1 := by omega
      have i2 : ¬ (65535 : Int) < (who : Int) := by omega
      have i3 : ¬ (what : Int) < 1 := by omega
      have i4 : ¬ (65535 : Int) < (what : Int) := by omega
      unfold cfv at *
      go_enter Tryd.func7, Tryd.ntmps7
      go_wp2_with fail
      refine (ualive_any _ (HP.out.below (below_one _ _))).mono ?_
      rintro e w1 ⟨rfl, hb1⟩
      obtain ⟨hc1, hf1⟩ := bcell hb1
      have HB1 := Lib.hid (below_then (below_one _ _) hb1)
      go_wp2_with fail
      refine (HIs.out _ (HL.out.below HB1.out)).mono ?_
      rintro e w2 ⟨rfl, hb2⟩
      replace hb1 := below_then hb1 hb2
      clear hc1 hf1
      have HB2 := Lib.hid (below_then (below_one _ _) hb1)
      have HL2 := Lib.hid (HL.out.below HB2.out)
      have hu2 : w.heap.size < w2.heap.size := by have := hb1.size; simp at this; omega
      have HC := Lib.hid (show ∀ j x, (#[.int .u8 c.obj, .int .i64 c.inst, .int .i64 c.thr, .int .u8 c.kind, .int .i64 c.str, .int .i64 c.bits, .int .i64 c.cap, .int .i64 c.node, .int .i64 c.bat, .int .i64 c.chunk, .int .u64 c.lim, .int .u64 c.most] : Array Value)[j]? = some x → w2.cell? ⟨w.heap.size, j, none⟩ = some x from fun j x hx => (hb1.cell (by simp)).trans (by
        have hg := heap_alloc_new w (.cells #[.int .u8 c.obj, .int .i64 c.inst, .int .i64 c.thr, .int .u8 c.kind, .int .i64 c.str, .int .i64 c.bits, .int .i64 c.cap, .int .i64 c.node, .int .i64 c.bat, .int .i64 c.chunk, .int .u64 c.lim, .int .u64 c.most] 33)
        simp only [World.cell?, hg]
        exact hx))
      clear hb1 hb2 HB1
      go_wp2_with fail
      go_loopw [10, 11, 12] (fun dv av iv wr => Below w2.heap.size w2 wr ∧ ∃ j : Nat, ∃ x y : Bool, j ≤ N ∧ iv = .int .i64 j ∧ dv = .bool x ∧ av = .bool y ∧ Hid (anyV l who what 2 j = x ∧ anyV l who what 1 j = y)) (fun _ _ iv _ => N - (intOf iv).toNat)
      case atStart => exact ⟨Below.refl _ _, 0, false, false, Nat.zero_le _, rfl, rfl, rfl, Lib.hid ⟨anyV_zero _ _ _ _, anyV_zero _ _ _ _⟩⟩
      case round =>
        obtain ⟨hbr, j, x, y, hj, rfl, rfl, rfl, HXY⟩ := hrel
        have i5 : (0 : Int) ≤ (j : Int) := by omega
        by_cases hlt : j < N
        · have j1 : j < l.length := by rw [HN.out]; exact hlt
          have i6 : (j : Int) < (N : Int) := by omega
          obtain ⟨bk, off, rfl, h1, h2⟩ := HL2.out.row j1
          replace h1 := (hbr.cell (World.block_lt_of_cell? _ _ h1)).trans h1
          replace h2 := (hbr.cell (World.block_lt_of_cell? _ _ h2)).trans h2
          have hq := HOK.out _ (List.getElem_mem j1)
          unfold RuOk at hq
          have s2 := anyV_succ (a := who) (b := what) (v := 2) j1
          have s1 := anyV_succ (a := who) (b := what) (v := 1) j1
          rw [HXY.out.1] at s2
          rw [HXY.out.2] at s1
          have hsp := sp_dec l[j].1 who what
          obtain ⟨q1, e1⟩ : ∃ q, l[j].1 = q := ⟨_, rfl⟩
          obtain ⟨q2, e2⟩ : ∃ q, l[j].2 = q := ⟨_, rfl⟩
          rw [e1] at h1 hq s1 s2 hsp
          rw [e2] at h2 hq s1 s2
          have HQ := Lib.hid hq
          have S1 := Lib.hid s1
          have S2 := Lib.hid s2
          have hw1 : (q1 : Int) / 65536 = ((q1 / 65536 : Nat) : Int) := by omega
          have hw2 := and_low q1 hq.1
          have hw3 : IntKind.u64.wrap (who : Int) = (who : Int) := by rw [IntKind.wrap_u64]; omega
          have hw4 : IntKind.u64.wrap (what : Int) = (what : Int) := by rw [IntKind.wrap_u64]; omega
          obtain ⟨z, hz⟩ : ∃ z, sp q1 who what = z := ⟨_, rfl⟩
          rw [hz] at hsp S1 S2
          generalize q1 / 65536 = p1 at *
          generalize q1 % 65536 = p2 at *
          have HSP := Lib.hid hsp
          clear e1 e2 hq s1 s2 hsp hz
          have HZ := Lib.hid (show z = true ↔ ((p1 = 0 ∨ p1 = who) ∧ (p2 = 0 ∨ p2 = what)) by rw [HSP.out]; simp only [Bool.and_eq_true, Bool.or_eq_true, decide_eq_true_eq])
          have hcase : ((p1 : Int) = 0 ∨ (¬ (p1 : Int) = 0 ∧ (p1 : Int) = (who : Int)) ∨ (¬ (p1 : Int) = 0 ∧ ¬ (p1 : Int) = (who : Int))) := by omega
          have hcase2 : ((p2 : Int) = 0 ∨ (¬ (p2 : Int) = 0 ∧ (p2 : Int) = (what : Int)) ∨ (¬ (p2 : Int) = 0 ∧ ¬ (p2 : Int) = (what : Int))) := by omega
          have HQ2 := Lib.hid HQ.out.2
          clear HQ HSP
          rcases hcase with b1 | ⟨b1, b2⟩ | ⟨b1, b2⟩
          all_goals rcases hcase2 with b3 | ⟨b3, b4⟩ | ⟨b3, b4⟩
          all_goals
            first
              | (have hz := Lib.hid (HZ.out.2 (by omega))
                 rcases HQ2.out with e5 | e5
                 all_goals
                   subst e5
                   rw [hz.out] at S1 S2
                   go_wp2
                   all_goals
                     go_roundw
                     case rel => exact ⟨hbr, j + 1, _, _, by omega, by go_num, rfl, rfl, Lib.hid ⟨by rw [S2.out]; simp [*], by rw [S1.out]; simp [*]⟩⟩
                     case measure => simp [intOf]; omega)
              | (have hz := Lib.hid (Bool.eq_false_iff.2 fun e => absurd (HZ.out.1 e) (by omega))
                 rw [hz.out] at S1 S2
                 try (have b5 : ((p2 : Int) == (what : Int)) = false := beq_eq_false_iff_ne.2 b4)
                 try (have b6 : ((p2 : Int) == 0) = false := beq_eq_false_iff_ne.2 b3)
                 go_wp2
                 go_roundw
                 case rel => exact ⟨hbr, j + 1, _, _, by omega, by go_num, rfl, rfl, Lib.hid ⟨by rw [S2.out]; simp, by rw [S1.out]; simp⟩⟩
                 case measure => simp [intOf]; omega)
        · obtain rfl : j = N := by omega
          have HT2 := Lib.hid (show (x = true ∧ v = 2) ∨ (x = false ∧ y = true ∧ v = 1) ∨ (x = false ∧ y = false ∧ v = 0) by
            have := HT.out
            rw [HXY.out.1, HXY.out.2] at this
            exact this)
          have f0 := (hbr.cell hu2).trans (HC.out 0 _ rfl)
          have f1 := (hbr.cell hu2).trans (HC.out 1 _ rfl)
          have f2 := (hbr.cell hu2).trans (HC.out 2 _ rfl)
          have f3 := (hbr.cell hu2).trans (HC.out 3 _ rfl)
          have f4 := (hbr.cell hu2).trans (HC.out 4 _ rfl)
          have f5 := (hbr.cell hu2).trans (HC.out 5 _ rfl)
          have f6 := (hbr.cell hu2).trans (HC.out 6 _ rfl)
          have f7 := (hbr.cell hu2).trans (HC.out 7 _ rfl)
          have f8 := (hbr.cell hu2).trans (HC.out 8 _ rfl)
          have f9 := (hbr.cell hu2).trans (HC.out 9 _ rfl)
          have f10 := (hbr.cell hu2).trans (HC.out 10 _ rfl)
          have f11 := (hbr.cell hu2).trans (HC.out 11 _ rfl)
          have HB3 := Lib.hid (below_then HB2.out hbr)
          have HS3 := Lib.hid (HSay.out wr (HP.out.below HB3.out) (HL.out.below HB3.out))
          clear HT HC HB2 HL2 HSay HOK HIs HP HL HN HXY hbr hu2
          go_wp2_with fail
          refine HS3.out.mono ?_
          rintro e w5 ⟨rfl, hb5⟩
          rcases HT2.out with ⟨rfl, rfl⟩ | ⟨rfl, rfl, rfl⟩ | ⟨rfl, rfl, rfl⟩
          all_goals
            go_wp2
            go_ret
            exact Ret.mk rfl (below_then HB3.out hb5)
    · have HG := Lib.hid hg
      have HRB := Lib.hid (show ∀ z, ruB c l = z → (z = true ↔ IsRu c l) from fun z e => by rw [← e]; exact decide_eq_true_iff)
      generalize ruB c l = z at *
      clear h hp hA hw64 hg HSay
      generalize hN : l.length = N at *
      have HNN := Lib.hid hN
      clear hN
      unfold cfv at *
      go_enter Tryd.func7, Tryd.ntmps7
      go_wp2_with fail
      refine (ualive_any _ (HP.out.below (below_one _ _))).mono ?_
      rintro e w1 ⟨rfl, hb1⟩
      obtain ⟨hc1, hf1⟩ := bcell hb1
      have HB1 := Lib.hid (below_then (below_one _ _) hb1)
      go_wp2_with fail
      refine (HIs.out _ (HL.out.below HB1.out)).mono ?_
      rintro e w2 ⟨rfl, hb2⟩
      have HB2 := Lib.hid (below_then HB1.out hb2)
      clear hb1 hb2 hc1 hf1
      cases z with
      | false =>
        go_wp2
        go_ret
        exact Ret.mk rfl HB2.out
      | true =>
        have hr := (HRB.out true rfl).1 rfl
        have hq : ¬ ((1 ≤ who ∧ who ≤ 65535) ∧ 1 ≤ what ∧ what ≤ 65535) := fun k => HG.out ⟨hr, k⟩
        rcases (by omega : ((who : Int) < 1) ∨ (¬ (who : Int) < 1 ∧ (65535 : Int) < who) ∨ (¬ (who : Int) < 1 ∧ ¬ (65535 : Int) < who ∧ (what : Int) < 1) ∨ (¬ (who : Int) < 1 ∧ ¬ (65535 : Int) < who ∧ ¬ (what : Int) < 1 ∧ (65535 : Int) < what)) with k1 | ⟨k1, k2⟩ | ⟨k1, k2, k3⟩ | ⟨k1, k2, k3, k4⟩
        all_goals
          clear hr hq
          go_wp2
          go_ret
          exact Ret.mk rfl HB2.out

set_option maxRecDepth 100000 in
theorem lifted (os : Os) (started : os.Started) (H : Type) (enc : TypeId × Value → H) :
    ReturnsInHanded {} Tryd.checked os 7 .any (fun w args => (Rows.rulesTellSpec.pre enc Tryd.prog Tryd.f7 [] false w args ∧ laidMetH Tryd.prog laidL w) ∧ sizedMet enc Tryd.prog Tryd.f7 (OpenSpec.ofChange Rows.rulesTellSpec) false w args)
      (Rows.rulesTellSpec.post enc Tryd.prog Tryd.f7 false true false false) := by
  refine returnsInHanded_of_change_and (C := Tryd.checked) (X := fun w _ => laidMetH Tryd.prog laidL w) (fun _ _ _ hh h => h.of_heap hh) own started (by kernel_rfl) Tryd.func7
    (ChangeSpec.witness_shaped (enc := enc) (C := Tryd.checked) (os := os) (X := fun w _ => laidMetH Tryd.prog laidL w) false (World.doorLaid Tryd.prog 400 os) #[.agg #[.int .u8 0, .int .i64 0, .int .i64 0, .int .u8 0, .int .i64 0, .int .i64 0, .int .i64 0, .int .i64 0, .int .i64 0, .int .i64 0, .int .u64 0, .int .u64 0], .slice none 0 0, .int .u32 0, .int .u32 0] 8 rfl (World.shaped_of_RefB (by kernel_rfl) (by kernel_rfl)) (by kernel_rfl) (by kernel_rfl) (by kernel_rfl) (door_met os _)) ?_
  intro W base args ds gs before hval0 hW _ _ hL _
  refine law_of laidOut (by kernel_rfl) (by kernel_rfl) Tryd.underlying4 rfl ?_ hW fun p hA => ?_
  · intro ds hd
    match ds, hd with
    | [_, _, _, _], _ => rfl
  have hval' : ∀ (j : Nat) t v, Tryd.f7.params[j]? = some t → args[j]? = some v → Value.okWide Tryd.prog W .any base t v := hval0
  rw [Tryd.params7] at hA hval'
  obtain ⟨v0, vs0, d0, ds0, p0, q0, hargs, rfl, rfl, h0, r0⟩ := trodAll_cons hA
  obtain ⟨v1, vs1, d1, ds1, p1, q1, rfl, rfl, rfl, h1, r1⟩ := trodAll_cons r0
  obtain ⟨v2, vs2, d2, ds2, p2, q2, rfl, rfl, rfl, h2, r2⟩ := trodAll_cons r1
  obtain ⟨v3, vs3, d3, ds3, p3, q3, rfl, rfl, rfl, h3, r3⟩ := trodAll_cons r2
  obtain ⟨rfl, rfl, rfl⟩ := trodAll_nil r3
  obtain rfl : args = #[v0, v1, v2, v3] := by cases args; simp_all
  obtain ⟨c, rfl⟩ := open_cfg (hval' 0 _ v0 rfl rfl) h0
  obtain ⟨A, d, l, hwB, rfl, hd, hAn, hl⟩ := open_tabB (hval' 1 _ v1 rfl rfl) h1
  obtain ⟨z2, rfl, _, _, w2⟩ := open_int (k := .u32) Tryd.underlying27 (hval' 2 _ v2 rfl rfl) h2
  obtain ⟨who, rfl, hwho⟩ := u32_nat w2
  obtain ⟨z3, rfl, _, _, w3⟩ := open_int (k := .u32) Tryd.underlying27 (hval' 3 _ v3 rfl rfl) h3
  obtain ⟨what, rfl, hwhat⟩ := u32_nat w3
  exact walk c A d l who what hwho hwhat hd hAn (fun x hx => (hwB x hx).1) W (of_laid hL) hl

theorem row : Rows.RulesTellSaid :=
  OpenClaim.holds_of_wide 7 Tryd.f7 rfl rfl rfl rfl rfl rfl rfl ⟨rfl, rfl, rfl, rfl, rfl⟩ rfl rfl rfl rfl rfl (by kernel_rfl) Tryd.func7 (by kernel_rfl)
    (of_decide_eq_true (by kernel_rfl)) (by unfold Func.isWrapper; first | (rw [if_pos (by decide +kernel)]; kernel_rfl) | (rw [if_neg (by decide +kernel)]; exact ⟨rfl, rfl⟩))
    (fun os started H enc _ => lifted os started H enc)

theorem card : Rows.RulesTellCardSaid :=
  Claim7.holds_tied_plain_at .later [] [.data] true Rows.rulesTellCard.stood.harness false
    row (fun _ h => by cases h) (by kernel_rfl) (fun _ h => by cases h) rulesTell_row_tie rfl ⟨rfl, rfl⟩ (by kernel_rfl) rfl
    (fun f fn hf hfn => by
      obtain rfl : f = 7 := Option.some.inj ((show Tryd.prog.funcNamed "bascule/basculelaw08.RulesTell" = some 7 by kernel_rfl).symm.trans hf) |>.symm
      obtain rfl : fn = Tryd.f7 := (Option.some.inj (Tryd.func7.symm.trans hfn)).symm
      exact ⟨by kernel_rfl, fun j t ht => by
        rw [Tryd.params7] at ht
        have hm : t ∈ [33, 25, 27] := by simpa using Array.mem_of_getElem? ht
        have hall : ([33, 25, 27].all fun u => !Tryd.prog.wantsStandIn u) = true := by kernel_rfl
        exact (show Tryd.prog.wantsStandIn t = false by simpa using List.all_eq_true.1 hall t hm)⟩)
    (by kernel_rfl)
#print axioms card

end Go.Proofs.YtfkkeokmkhjpfaaDoor.rulesTell
