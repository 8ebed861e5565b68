/- For any config and up to sixty operations, played one after another from no rows: the program's rows and the document's own rows are the same after each, so is what each operation answers, and both say the same of the rows at the end. Condition: the table of objects holds at the call's start what the program's text lays there (the tied card). -/
import Derived.Test.YtljdkjjjnlcflaaDoorPaAns
import Derived.Test.YtljdkjjjnlcflaaDoorOpenOp
import Derived.Test.YtljdkjjjnlcflaaDoorOpenCfg
import Derived.Test.YtljdkjjjnlcflaaDoorOpenRow
import Derived.Deep.DeepCutAuto
import Derived.Deep.RegionHeld3
namespace Go.Proofs.YtljdkjjjnlcflaaDoor
open Go.RowKit Pt Opn Tb

/-- What stands behind the first region: the rows, and the result's block. -/
def Lf (W X : World) (u : Value) (rows : List R) (g : Nat) (x y : Int) : Prop := IsRV X u rows ∧ Below W.heap.size W X ∧ X.cell? ⟨g, 0, none⟩ = some (.int .i64 x) ∧ X.cell? ⟨g, 1, none⟩ = some (.int .u32 y) ∧ X.cell? ⟨g, 2, none⟩ = some (.slice none 0 0)
theorem leaf_first {W w4 : World} {u : Value} {rows : List R} (x y : Int) {t : TypeId} (hm : IsRV w4 u rows) (hb : Below (W.alloc (.cells #[.int .i64 0, .int .u32 0, .slice none 0 0] t)).drew.heap.size (W.alloc (.cells #[.int .i64 0, .int .u32 0, .slice none 0 0] t)).drew w4) :
    Lf W (((w4.setCell ⟨W.heap.size, 0, none⟩ (.int .i64 x)).setCell ⟨W.heap.size, 1, none⟩ (.int .u32 y)).setCell ⟨W.heap.size, 2, none⟩ (.slice none 0 0)) u rows W.heap.size x y := by
  have hT := three_d hb
  obtain ⟨A, c, rfl, h1, h2, h3⟩ := hm
  obtain ⟨r0, -, r1, -, r2, -⟩ := hT
  refine ⟨⟨A, c, rfl, h1, h2, isr_set3 h3 (three_d hb) _ _ _⟩, below_set3 (below_then (below_then (below_one W _) (below_drew _)) hb) (Nat.le_refl _) _ _ _, ?_, ?_, ?_⟩ <;> simp [go_sem, r0, r1, r2]
theorem leaf_last {W w4 : World} {u : Value} {rows : List R} (x y : Int) (hm : IsRV w4 u rows) (hb : Below W.drew.heap.size W.drew w4) (t : TypeId) :
    Lf W (w4.alloc (.cells #[.int .i64 x, .int .u32 y, .slice none 0 0] t)) u rows w4.heap.size x y := by
  refine ⟨hm.below (below_one _ _), below_then (below_then (below_drew _) hb) (below_one _ _), ?_, ?_, ?_⟩ <;> simp [go_sem]

theorem cell_new {w : World} {xs : Array Value} {t : TypeId} {j : Nat} {u : Value} (h : xs[j]? = some u) : (w.alloc (.cells xs t)).cell? ⟨w.heap.size, j, none⟩ = some u := by
  have hg := heap_alloc_new w (.cells xs t)
  simp only [World.cell?, hg]
  exact h

/-- The rows after k operations. -/
def st (c : Cf) (l : List OW) (k : Nat) : List R := (l.take k).foldl (fun r o => (doPR c r o.1).1) []
theorem st_succ (c : Cf) (l : List OW) (k : Nat) (hk : k < l.length) : st c l (k + 1) = (doPR c (st c l k) (l[k]).1).1 := by
  unfold st
  rw [List.take_succ_eq_append_getElem hk, List.foldl_append]
  rfl
theorem st_len (c : Cf) (l : List OW) : ∀ k, k ≤ l.length → (st c l k).length ≤ 4 * k
  | 0, _ => by simp [st]
  | k + 1, h => by
    rw [st_succ c l k (by omega)]
    have h1 := doPR_len c (st c l k) (l[k]).1
    have h2 := st_len c l k (by omega)
    omega
theorem st_small (c : Cf) (l : List OW) : ∀ k, k ≤ l.length → ∀ x ∈ st c l k, x.1 < 18446744073709551616 := by
  have h : ∀ k, k ≤ l.length → st c l k = [] ∨ IsPt c (st c l k) := fun k => by
    induction k with
    | zero => intro _; exact .inl rfl
    | succ k ih =>
      intro hk
      rw [st_succ c l k (by omega)]
      by_cases ht : IsPt c (st c l k)
      · exact .inr (doPR_tab _ (l[k]).2 ht)
      · exact .inl (by rw [doPR_none _ ht])
  intro k hk x hx
  rcases h k hk with e | e
  · rw [e] at hx; cases hx
  · have := (e.2.2.2.2 x hx).1.1; unfold IsPa at this; omega
end Go.Proofs.YtljdkjjjnlcflaaDoor

namespace Go.Proofs.YtljdkjjjnlcflaaDoor.pathsRun
open Go.ChangeShapes Go.WideShapes Go.ChangeAt Go.RowKit Pt Opn Tb

set_option maxRecDepth 100000 in
set_option maxHeartbeats 8000000 in
theorem walk (c : Cf) (A : Option Addr) (d : Nat) (l : List OW) (_ : A = none → l.length = 0 ∧ d = 0) (w : World) (hp : Obs w) (h : IsL w A 4 opc l) :
    Calls Tryd.prog 5 #[cfv c, .slice A l.length d] w (Ret (.bool true) w) := by
  have HO := Lib.hid h
  have HP := Lib.hid hp
  have HL := Lib.hid (st_len c l)
  have HS := Lib.hid (st_succ c l)
  have HSM := Lib.hid (st_small c l)
  have HX := Lib.hid (fun k (hk : k < l.length) => h k l[k] (List.getElem?_eq_getElem hk))
  clear h hp
  by_cases hn : 60 < l.length
  · have hn2 : (60 : Int) < (l.length : Int) := by omega
    clear HS HX HL HO
    generalize l.length = N at *
    unfold cfv
    go_enter Tryd.func5, Tryd.ntmps5
    go_wp2
    go_ret
    exact Ret.mk rfl (below_one _ _)
  · have hn2 : ¬ (60 : Int) < (l.length : Int) := by omega
    obtain ⟨N, hN⟩ : ∃ N, l.length = N := ⟨_, rfl⟩
    have HN := Lib.hid hN
    rw [hN] at hn hn2 ⊢
    clear hN
    have HDo := Lib.hid (fun k B d o ho hB (hk : k < N + 1) X hX hl => pdo_any c B (st c l k) d o ho hB (by have := HL.out k (by rw [HN.out]; omega); omega) (HSM.out k (by rw [HN.out]; omega)) X hX hl)
    have HRo := Lib.hid (fun k B d o ho hd hB (hk : k < N + 1) X hl => pDo_any c B (st c l k) d o ho hd hB (by have := HL.out k (by rw [HN.out]; omega); omega) (HSM.out k (by rw [HN.out]; omega)) X hl)
    have HI := Lib.hid (fun B d k (hk : k < N + 1) X hl => paIs_any c B (st c l k) d (by have := HL.out k (by rw [HN.out]; omega); omega) (HSM.out k (by rw [HN.out]; omega)) X hl)
    have HR := Lib.hid (fun B d k (hk : k < N + 1) X hl => rPaIs_any c B (st c l k) d (by have := HL.out k (by rw [HN.out]; omega); omega) (HSM.out k (by rw [HN.out]; omega)) X hl)
    have HSR := Lib.hid (fun A B (m : List R) c' d' hm W hA hB => rSameRows_any A B m m c' d' hm W hA hB)
    have HSE := Lib.hid (fun e v W => rSameRes_any e v e v none none [] [] 0 0 (by decide) W (IsL.nil _ _ _ _) (IsL.nil _ _ _ _))
    simp only [decide_true, and_self] at HSR HSE
    unfold resv at HSE
    unfold cfv opv at *
    go_enter Tryd.func5, Tryd.ntmps5
    go_wp2
    obtain ⟨W, hW⟩ : ∃ W, W = w.alloc (.cells #[.int .u8 c.obj, .int .i64 c.inst, .int .i64 c.thr, .int .u8 c.kind, .int .i64 c.str, .int .i64 c.bits, .int .i64 c.cap, .int .i64 c.node, .int .i64 c.bat, .int .i64 c.chunk, .int .u64 c.lim, .int .u64 c.most] 33) := ⟨_, rfl⟩
    have hb0 : Below w.heap.size w W := by rw [hW]; exact below_one _ _
    have HB0 := Lib.hid hb0
    have HPW := Lib.hid (HP.out.below hb0)
    have HXW := Lib.hid (HO.out.below hb0)
    have hq : w.heap.size < W.heap.size := by rw [hW]; simp
    have HQ := Lib.hid hq
    have HC := Lib.hid (show ∀ j u, (#[.int .u8 c.obj, .int .i64 c.inst, .int .i64 c.thr, .int .u8 c.kind, .int .i64 c.str, .int .i64 c.bits, .int .i64 c.cap, .int .i64 c.node, .int .i64 c.bat, .int .i64 c.chunk, .int .u64 c.lim, .int .u64 c.most] : Array Value)[j]? = some u → W.cell? ⟨w.heap.size, j, none⟩ = some u from fun j u hu => (by rw [hW]; exact cell_new hu))
    rw [← hW]
    clear hW hb0 HO
    obtain ⟨q, hqe⟩ : ∃ q, w.heap.size = q := ⟨_, rfl⟩
    have HQE := Lib.hid hqe
    rw [hqe] at HC hq ⊢
    clear hqe
    have mixed : Tryd.prog.follows Departure.mixedOrders = true := by kernel_rfl
    go_loopw [5, 6, 7] (fun av bv iv wr => Below W.heap.size W wr ∧ ∃ k : Nat, k ≤ N ∧ iv = .int .i64 k ∧ Hid (IsRV wr av (st c l k) ∧ IsRV wr bv (st c l k))) (fun _ _ i _ => N - (intOf i).toNat)
    case atStart => exact ⟨Below.refl _ _, 0, by omega, rfl, Lib.hid ⟨⟨none, 0, rfl, ⟨by simp [st], by omega⟩, fun _ => ⟨by simp [st], rfl⟩, IsL.nil _ _ _ _⟩, ⟨none, 0, rfl, ⟨by simp [st], by omega⟩, fun _ => ⟨by simp [st], rfl⟩, IsL.nil _ _ _ _⟩⟩⟩
    case round =>
      obtain ⟨hbr, k, hk, rfl, HK⟩ := hrel
      by_cases hlt : k < N
      · have i1 : (0 : Int) ≤ (k : Int) := by omega
        have i2 : (k : Int) < (N : Int) := by omega
        have hkl : k < l.length := by rw [HN.out]; exact hlt
        obtain ⟨Aa, da, rfl, hda, hAa, hLa⟩ := HK.out.1
        obtain ⟨Ab, db, rfl, hdb, hAb, hLb⟩ := HK.out.2
        obtain ⟨bo, oo, rfl, hox⟩ := (HXW.out.below hbr) k l[k] (List.getElem?_eq_getElem hkl)
        have hst := HS.out k hkl
        obtain ⟨⟨o, ho⟩, heo⟩ : ∃ x, x = l[k] := ⟨_, rfl⟩
        rw [← heo] at hox hst
        simp only at hst
        have o0 := hox 0 _ rfl
        have o1 := hox 1 _ rfl
        have o2 := hox 2 _ rfl
        have o3 := hox 3 _ rfl
        simp only [Nat.add_zero] at o0
        have hbo : bo < wr.heap.size := World.block_lt_of_cell? _ _ o0
        have f0 := (hbr.cell (p := ⟨q, 0, none⟩) hq).trans (HC.out 0 _ rfl)
        have f1 := (hbr.cell (p := ⟨q, 1, none⟩) hq).trans (HC.out 1 _ rfl)
        have f2 := (hbr.cell (p := ⟨q, 2, none⟩) hq).trans (HC.out 2 _ rfl)
        have f3 := (hbr.cell (p := ⟨q, 3, none⟩) hq).trans (HC.out 3 _ rfl)
        have f4 := (hbr.cell (p := ⟨q, 4, none⟩) hq).trans (HC.out 4 _ rfl)
        have f5 := (hbr.cell (p := ⟨q, 5, none⟩) hq).trans (HC.out 5 _ rfl)
        have f6 := (hbr.cell (p := ⟨q, 6, none⟩) hq).trans (HC.out 6 _ rfl)
        have f7 := (hbr.cell (p := ⟨q, 7, none⟩) hq).trans (HC.out 7 _ rfl)
        have f8 := (hbr.cell (p := ⟨q, 8, none⟩) hq).trans (HC.out 8 _ rfl)
        have f9 := (hbr.cell (p := ⟨q, 9, none⟩) hq).trans (HC.out 9 _ rfl)
        have f10 := (hbr.cell (p := ⟨q, 10, none⟩) hq).trans (HC.out 10 _ rfl)
        have f11 := (hbr.cell (p := ⟨q, 11, none⟩) hq).trans (HC.out 11 _ rfl)
        have hqr : q < wr.heap.size := World.block_lt_of_cell? _ _ f0
        have HD := Lib.hid (fun X (kp : wr.heap.size ≤ X.heap.size ∧ ∀ b j, b < wr.heap.size → X.cell? ⟨b, j, none⟩ = wr.cell? ⟨b, j, none⟩) => HDo.out k Aa da o ho hAa (by omega) X ((HPW.out.below hbr).keep kp) (hLa.keep kp))
        have HE0 := Lib.hid (fun X hl => HRo.out k Ab db o ho hdb hAb (by omega) X hl)
        have HLB := Lib.hid hLb
        have hlen : (doPR c (st c l k) o).1.length ≤ 1000 := by
          have h1 := HL.out (k + 1) (by omega)
          rw [hst] at h1
          omega
        generalize hsv : doPR c (st c l k) o = s at *
        generalize doPE c (st c l k) = er at *
        obtain ⟨rows, x, y⟩ := s
        simp only at hst hlen HD
        unfold Did4 resv at HD
        simp only at HD
        generalize (st c l k).length = na at *
        have HST := Lib.hid hst
        clear hst
        unfold Did3 resv at HE0
        simp only at HE0
        clear hox heo hLa hLb hAa hAb hda hdb hsv HK
        go_wp2
        go_cut [8, 9, 10] (fun s8 s9 s10 wx => ∃ u g, s8 = u ∧ s9 = .pointer (some ⟨g, 0, none⟩) ∧ s10 = .int .i64 er ∧ Hid (Lf wr wx u rows g x y))
        case first =>
          go_region_held3 (fun X => wr.heap.size ≤ X.heap.size ∧ ∀ b o, b < wr.heap.size → X.cell? ⟨b, o, none⟩ = wr.cell? ⟨b, o, none⟩)
            (first
              | with_reducible exact keep0 wr
              | with_reducible exact keep1 wr _
              | with_reducible exact keep_below hb3 (keep1 wr _)
              | with_reducible exact keep_below hb3 (keep0 wr)
              | with_reducible exact keep_alloc (keep_below hb3 (keep0 wr)) _
              | with_reducible exact keep_set (keep_set (keep_set (keep_below hb3 (keep1 wr _)) _ 0 _ (Nat.le_refl _)) _ 1 _ (Nat.le_refl _)) _ 2 _ (Nat.le_refl _)
              | fail)
            (first | ((with_reducible refine (HD.out _ ?_).mono ?_); (first | with_reducible exact keep0 wr | with_reducible exact keep1 wr _); rintro e w3 ⟨u, rfl, hM3, hb3⟩; have HM3 := Lib.hid (IsRV.of hM3); clear hM3; obtain ⟨hc3, hf3⟩ := bcell hb3))
          all_goals
            go_wp2_with fail
            go_meet
            first
              | with_reducible exact ⟨_, _, rfl, rfl, rfl, Lib.hid (leaf_last x y HM3.out hb3 _)⟩
              | with_reducible exact ⟨_, _, rfl, rfl, rfl, Lib.hid (leaf_first x y HM3.out hb3)⟩
        case rest =>
          obtain ⟨u7, g7, rfl, rfl, rfl, HL7⟩ := hcut
          obtain ⟨W8, hW8⟩ : ∃ X, X = wc := ⟨_, rfl⟩
          subst hW8
          have hbx := HL7.out.2.1
          have hx8 := hbx.size
          obtain ⟨r70, r71, r72⟩ := HL7.out.2.2
          have hg7 := World.block_lt_of_cell? _ _ r70
          replace f0 := (hbx.cell hqr).trans f0
          replace f1 := (hbx.cell hqr).trans f1
          replace f2 := (hbx.cell hqr).trans f2
          replace f3 := (hbx.cell hqr).trans f3
          replace f4 := (hbx.cell hqr).trans f4
          replace f5 := (hbx.cell hqr).trans f5
          replace f6 := (hbx.cell hqr).trans f6
          replace f7 := (hbx.cell hqr).trans f7
          replace f8 := (hbx.cell hqr).trans f8
          replace f9 := (hbx.cell hqr).trans f9
          replace f10 := (hbx.cell hqr).trans f10
          replace f11 := (hbx.cell hqr).trans f11
          replace o0 := (hbx.cell hbo).trans o0
          replace o1 := (hbx.cell hbo).trans o1
          replace o2 := (hbx.cell hbo).trans o2
          replace o3 := (hbx.cell hbo).trans o3
          have HE := Lib.hid (fun X (kp : W8.heap.size ≤ X.heap.size ∧ ∀ b j, b < W8.heap.size → X.cell? ⟨b, j, none⟩ = W8.cell? ⟨b, j, none⟩) => HE0.out X ((HLB.out.below hbx).keep kp))
          have hbo8 : bo < W8.heap.size := by omega
          have hqr8 : q < W8.heap.size := by omega
          have HV7 := Lib.hid HL7.out.1
          go_wp2_with fail
          go_cut [11, 12, 13] (fun s11 s12 s13 wx => ∃ u g, s11 = u ∧ s12 = .pointer (some ⟨g, 0, none⟩) ∧ s13 = .int .i64 er ∧ Hid (Lf W8 wx u rows g x y))
          case first =>
            go_region_held3 (fun X => W8.heap.size ≤ X.heap.size ∧ ∀ b o, b < W8.heap.size → X.cell? ⟨b, o, none⟩ = W8.cell? ⟨b, o, none⟩)
              (first
                | with_reducible exact keep0 W8
                | with_reducible exact keep1 W8 _
                | with_reducible exact keep_below hb3 (keep1 W8 _)
                | with_reducible exact keep_below hb3 (keep0 W8)
                | with_reducible exact keep_alloc (keep_below hb3 (keep0 W8)) _
                | with_reducible exact keep_set (keep_set (keep_set (keep_below hb3 (keep1 W8 _)) _ 0 _ (Nat.le_refl _)) _ 1 _ (Nat.le_refl _)) _ 2 _ (Nat.le_refl _)
                | fail)
              (first | ((with_reducible refine (HE.out _ ?_).mono ?_); (first | with_reducible exact keep0 W8 | with_reducible exact keep1 W8 _); rintro e w3 ⟨u, rfl, hM3, hb3⟩; have HM3 := Lib.hid (hM3); clear hM3; obtain ⟨hc3, hf3⟩ := bcell hb3))
            all_goals
              go_wp2_with fail
              go_meet
              first
                | with_reducible exact ⟨_, _, rfl, rfl, rfl, Lib.hid (leaf_last x y HM3.out hb3 _)⟩
                | with_reducible exact ⟨_, _, rfl, rfl, rfl, Lib.hid (leaf_first x y HM3.out hb3)⟩
          case rest =>
            obtain ⟨u8, g8, rfl, rfl, rfl, HL8⟩ := hcut
            obtain ⟨W9, hW9⟩ : ∃ X, X = wc := ⟨_, rfl⟩
            subst hW9
            have hby := HL8.out.2.1
            replace r70 := (hby.cell hg7).trans r70
            replace r71 := ((bcell hby).1 _ _ hg7).trans r71
            replace r72 := ((bcell hby).1 _ _ hg7).trans r72
            obtain ⟨r80, r81, r82⟩ := HL8.out.2.2
            have hg8 := World.block_lt_of_cell? _ _ r80
            have hx9 := hby.size
            have hg79 : g7 < W9.heap.size := by omega
            obtain ⟨A7, d7, rfl, hd7, hA7, hI7⟩ := HV7.out.below hby
            obtain ⟨A8, d8, rfl, hd8, hA8, hI8⟩ := HL8.out.1
            have HI7 := Lib.hid hI7
            have HI8 := Lib.hid hI8
            have HA7 := Lib.hid hA7
            have HA8 := Lib.hid hA8
            have HD7 := Lib.hid hd7
            have HD8 := Lib.hid hd8
            have hb9 := below_then (below_then hbr hbx) hby
            clear hI7 hI8 hA7 hA8 hd7 hd8 f0 f1 f2 f3 f4 f5 f6 f7 f8 f9 f10 f11 o0 o1 o2 o3 hbx hby
            go_wp2_with (first
              | (go_at_call 12; refine (HSR.out _ _ rows _ _ (by omega) _ HI7.out HI8.out).mono ?_; rintro e w10 ⟨rfl, hb10⟩; obtain ⟨hc10, hf10⟩ := bcell hb10)
              | (go_at_call 16; refine (HSE.out x y _).mono ?_; rintro e w11 ⟨rfl, hb11⟩))
            have hb1011 := below_then hb10 hb11
            go_roundw
            case rel => exact ⟨below_then hb9 hb1011, k + 1, by omega, by go_num, Lib.hid ⟨by rw [HST.out]; exact ⟨A7, d7, rfl, HD7.out, HA7.out, HI7.out.below hb1011⟩, by rw [HST.out]; exact ⟨A8, d8, rfl, HD8.out, HA8.out, HI8.out.below hb1011⟩⟩⟩
            case measure => simp [intOf]; omega
      · obtain rfl : k = N := by omega
        obtain ⟨Aa, da, rfl, hda, hAa, hLa⟩ := HK.out.1
        obtain ⟨Ab, db, rfl, hdb, hAb, hLb⟩ := HK.out.2
        have f0 := (hbr.cell (p := ⟨q, 0, none⟩) hq).trans (HC.out 0 _ rfl)
        have f1 := (hbr.cell (p := ⟨q, 1, none⟩) hq).trans (HC.out 1 _ rfl)
        have f2 := (hbr.cell (p := ⟨q, 2, none⟩) hq).trans (HC.out 2 _ rfl)
        have f3 := (hbr.cell (p := ⟨q, 3, none⟩) hq).trans (HC.out 3 _ rfl)
        have f4 := (hbr.cell (p := ⟨q, 4, none⟩) hq).trans (HC.out 4 _ rfl)
        have f5 := (hbr.cell (p := ⟨q, 5, none⟩) hq).trans (HC.out 5 _ rfl)
        have f6 := (hbr.cell (p := ⟨q, 6, none⟩) hq).trans (HC.out 6 _ rfl)
        have f7 := (hbr.cell (p := ⟨q, 7, none⟩) hq).trans (HC.out 7 _ rfl)
        have f8 := (hbr.cell (p := ⟨q, 8, none⟩) hq).trans (HC.out 8 _ rfl)
        have f9 := (hbr.cell (p := ⟨q, 9, none⟩) hq).trans (HC.out 9 _ rfl)
        have f10 := (hbr.cell (p := ⟨q, 10, none⟩) hq).trans (HC.out 10 _ rfl)
        have f11 := (hbr.cell (p := ⟨q, 11, none⟩) hq).trans (HC.out 11 _ rfl)
        have k0 := cell_regrown f0
        have k1 := cell_regrown f1
        have k2 := cell_regrown f2
        have k3 := cell_regrown f3
        have k4 := cell_regrown f4
        have k5 := cell_regrown f5
        have k6 := cell_regrown f6
        have k7 := cell_regrown f7
        have k8 := cell_regrown f8
        have k9 := cell_regrown f9
        have k10 := cell_regrown f10
        have k11 := cell_regrown f11
        have HI2 := Lib.hid (fun d os => HI.out Aa da k (by omega) (Go.Sort.grow (redrawn wr d) os) (hLa.below (below_regrown wr d os)))
        have HR2 := Lib.hid (fun d os => HR.out Ab db k (by omega) (Go.Sort.grow (redrawn wr d) os) (hLb.below (below_regrown wr d os)))
        have HBR := Lib.hid (below_then HB0.out hbr)
        generalize (st c l k).length = na at *
        generalize ptB c (st c l k) = z at *
        clear hLa hLb hAa hAb hda hdb HK HDo HRo HI HR
        go_wp2
        refine wp_region_quiet_below (by kernel_rfl) (by kernel_rfl) ?_
        repeat (go_big_quiet_step (fail))
        go_big_quiet_step (exact Calls.regrown_of (HI2.out _ _))
        repeat (go_big_quiet_step (fail))
        go_big_quiet_step (exact Calls.regrown_of (HR2.out _ _))
        repeat (go_big_quiet_step (fail))
        refine wpQuiet_nil ?_
        intro _ hw'
        obtain ⟨⟨dq, osq⟩, hw''⟩ := hw'
        subst hw''
        go_wp2
        go_ret
        exact Ret.mk (by simp) (below_then HBR.out (below_regrown wr dq osq))

set_option maxRecDepth 100000 in
theorem lifted (os : Os) (started : os.Started) (H : Type) (enc : TypeId × Value → H) :
    ReturnsInHanded {} Tryd.checked os 5 .any (fun w args => (Rows.pathsRunSpec.pre enc Tryd.prog Tryd.f5 [] false w args ∧ laidMetH Tryd.prog laidL w) ∧ sizedMet enc Tryd.prog Tryd.f5 (OpenSpec.ofChange Rows.pathsRunSpec) false w args)
      (Rows.pathsRunSpec.post enc Tryd.prog Tryd.f5 false true false false) := by
  refine returnsInHanded_of_change_and (C := Tryd.checked) (X := fun w _ => laidMetH Tryd.prog laidL w) (fun _ _ _ hh h => h.of_heap hh) own started (by kernel_rfl) Tryd.func5
    (ChangeSpec.witness_shaped (enc := enc) (C := Tryd.checked) (os := os) (X := fun w _ => laidMetH Tryd.prog laidL w) false (World.doorLaid Tryd.prog 400 os) #[.agg #[.int .u8 0, .int .i64 0, .int .i64 0, .int .u8 0, .int .i64 0, .int .i64 0, .int .i64 0, .int .i64 0, .int .i64 0, .int .i64 0, .int .u64 0, .int .u64 0], .slice none 0 0] 8 rfl (World.shaped_of_RefB (by kernel_rfl) (by kernel_rfl)) (by kernel_rfl) (by kernel_rfl) (by kernel_rfl) (door_met os _)) ?_
  intro W base args ds gs before hval0 hW _ _ hL _
  refine law_of laidOut (by kernel_rfl) (by kernel_rfl) Tryd.underlying4 rfl ?_ hW fun p hA => ?_
  · intro ds hd
    match ds, hd with
    | [_, _], _ => rfl
  have hval' : ∀ (j : Nat) t v, Tryd.f5.params[j]? = some t → args[j]? = some v → Value.okWide Tryd.prog W .any base t v := hval0
  rw [Tryd.params5] at hA hval'
  obtain ⟨v0, vs0, d0, ds0, p0, q0, hargs, rfl, rfl, h0, r0⟩ := trodAll_cons hA
  obtain ⟨v1, vs1, d1, ds1, p1, q1, rfl, rfl, rfl, h1, r1⟩ := trodAll_cons r0
  obtain ⟨rfl, rfl, rfl⟩ := trodAll_nil r1
  obtain rfl : args = #[v0, v1] := by cases args; simp_all
  obtain ⟨c, rfl⟩ := open_cfg (hval' 0 _ v0 rfl rfl) h0
  obtain ⟨A, d, l, rfl, hAn, hl⟩ := open_ops (hval' 1 _ v1 rfl rfl) h1
  exact walk c A d l hAn W (of_laid hL) hl

theorem row : Rows.PathsRunSaid :=
  OpenClaim.holds_of_wide 5 Tryd.f5 rfl rfl rfl rfl rfl rfl rfl ⟨rfl, rfl, rfl, rfl, rfl⟩ rfl rfl rfl rfl rfl (by kernel_rfl) Tryd.func5 (by kernel_rfl)
    (of_decide_eq_true (by kernel_rfl)) (by unfold Func.isWrapper; first | (rw [if_pos (by decide +kernel)]; kernel_rfl) | (rw [if_neg (by decide +kernel)]; exact ⟨rfl, rfl⟩))
    (fun os started H enc _ => lifted os started H enc)

theorem card : Rows.PathsRunCardSaid :=
  Claim7.holds_tied_plain_at .later [] [.data] true Rows.pathsRunCard.stood.harness false
    row (fun _ h => by cases h) (by kernel_rfl) (fun _ h => by cases h) pathsRun_row_tie rfl ⟨rfl, rfl⟩ (by kernel_rfl) rfl
    (fun f fn hf hfn => by
      obtain rfl : f = 5 := Option.some.inj ((show Tryd.prog.funcNamed "bascule/basculelaw09.PathsRun" = some 5 by kernel_rfl).symm.trans hf) |>.symm
      obtain rfl : fn = Tryd.f5 := (Option.some.inj (Tryd.func5.symm.trans hfn)).symm
      exact ⟨by kernel_rfl, fun j t ht => by
        rw [Tryd.params5] at ht
        have hm : t ∈ [33, 44] := by simpa using Array.mem_of_getElem? ht
        have hall : ([33, 44].all fun u => !Tryd.prog.wantsStandIn u) = true := by kernel_rfl
        exact (show Tryd.prog.wantsStandIn t = false by simpa using List.all_eq_true.1 hall t hm)⟩)
    (by kernel_rfl)
#print axioms card

end Go.Proofs.YtljdkjjjnlcflaaDoor.pathsRun
