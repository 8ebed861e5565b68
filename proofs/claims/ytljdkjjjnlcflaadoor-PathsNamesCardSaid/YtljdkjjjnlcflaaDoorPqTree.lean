/- The program's own tree: whether a config is of ObjConfig, what of a map has no row, whether rows may be a tree's. -/
import Derived.Test.YtljdkjjjnlcflaaDoorPmMap
import Derived.Test.YtljdkjjjnlcflaaDoorPqNames
import Derived.Test.YtljdkjjjnlcflaaDoorTbPos
import Derived.Test.YtljdkjjjnlcflaaDoorPtChk
namespace Go.Proofs.YtljdkjjjnlcflaaDoor
open Go.RowKit Go.Lib Tb Pt Opn

set_option maxRecDepth 100000 in
set_option maxHeartbeats 1000000 in
theorem qisOf_any (c : Cf) (w : World) : Calls Tryd.prog 21 #[cfv c] w (Ret (.bool (decide (Ok c ∧ c.obj = 4))) w) := by
  have HC := Lib.hid (check_any c)
  have e : decide (Ok c ∧ c.obj = 4) = (okB c && decide (c.obj = 4)) := by unfold okB; rw [Bool.eq_iff_iff]; simp
  rw [e]
  clear e
  generalize okB c = k at *
  unfold cfv at *
  go_enter Tryd.func21, Tryd.ntmps21
  go_wp2_with (go_at_call 37; refine (HC.out _).mono ?_; rintro e w1 ⟨rfl, hb1⟩; obtain ⟨hc1, hf1⟩ := bcell hb1)
  all_goals go_ret
  all_goals refine Ret.mk (bool_eq ?_) (below_b1 hb1)
  · rename_i h
    cases k with
    | true => rw [Bool.eq_iff_iff]; simp
    | false => exact absurd h (by decide)
  · rename_i h
    cases k with
    | true => exact absurd rfl h
    | false => rfl

/-- Rows lie in no map. -/
theorem isr_grown {W X : World} {b n : Nat} {m : List R} {A : Option Addr} {l : List R} (h : IsR W A l) (hm : IsMp W b n m) (hg : W.grownBy X (some b)) : IsR X A l := fun i x hx => by
  obtain ⟨bk, off, e, h1⟩ := h i x hx
  obtain ⟨D, ⟨es, cl, hb, _⟩, _⟩ := hm
  refine ⟨bk, off, e, fun j u hj => ?_⟩
  have hc := h1 j u hj
  have hne : bk ≠ b := fun e => by subst e; simp [World.cell?, hb] at hc
  exact (World.cell?_of_block (w := W) (hg.block bk (World.block_lt_of_cell? _ _ hc) (fun e => hne (by injection e)))).trans hc
theorem made_map_ne {W : World} {b n B : Nat} {m : List R} {v : Value} {l : List R} (h : MadeX W B 24 2 rowL v l) (hm : IsMp W b n m) : v.ownBlock = none ∨ v.ownBlock ≠ some b := by
  rcases h.2 with ⟨rfl, _⟩ | ⟨g, cap, cur, rfl, _, h3, _⟩
  · exact .inl rfl
  · refine .inr fun e => ?_
    obtain ⟨D, ⟨es, cl, hb, _⟩, _⟩ := hm
    have e' : g = b := by simpa [Value.ownBlock] using e
    subst e'
    rw [hb] at h3
    cases h3

set_option maxRecDepth 100000 in
set_option maxHeartbeats 4000000 in
theorem lacking_any (b n : Nat) (m : List R) (A : Option Addr) (l : List R) (d : Nat) (hl : l.length ≤ 1000000) (hw64 : ∀ x ∈ l, x.1 < 18446744073709551616) (w : World) (h : IsR w A l) (hm : IsMp w b n m) :
    Calls Tryd.prog 41 #[.map (some b), .slice A l.length d] w fun e w' => e = .returned (.map (some b)) ∧ IsMp w' b n (lack l m) ∧ w.grownBy w' (some b) := by
  have HA := Lib.hid h
  have HM := Lib.hid hm
  have HWW := Lib.hid hw64
  clear h hm hw64
  obtain ⟨N, hN⟩ : ∃ N, l.length = N := ⟨_, rfl⟩
  have HN := Lib.hid hN
  rw [hN] at hl ⊢
  clear hN
  obtain ⟨T, hT⟩ : ∃ T, lack l m = T := ⟨_, rfl⟩
  have HT := Lib.hid hT
  rw [hT]
  clear hT
  go_enter Tryd.func41, Tryd.ntmps41
  go_wp2
  go_loopw [9] (fun iv wr => ∃ j : Nat, j ≤ N ∧ iv = .int .i64 j ∧ Hid (IsMp wr b n (lack (l.take j) m) ∧ w.grownBy wr (some b))) (fun iv _ => N - (intOf iv).toNat)
  case atStart => exact ⟨0, Nat.zero_le _, rfl, Lib.hid ⟨by rw [List.take_zero, lack_nil]; exact HM.out, World.grownBy.refl w _⟩⟩
  case round =>
    obtain ⟨j, hj, rfl, HR⟩ := hrel
    have i1 : (0 : Int) ≤ (j : Int) := by omega
    by_cases hlt : j < N
    · have j1 : j < l.length := by rw [HN.out]; exact hlt
      have i2 : (j : Int) < (N : Int) := by omega
      obtain ⟨bk, off, rfl, h1, h2⟩ := (isr_grown HA.out HM.out HR.out.2).row j1
      have hk := HWW.out _ (List.getElem_mem j1)
      have HST := Lib.hid (show ∀ X k, (l[j]'j1).1 = k → IsMp X b n ((lack (l.take j) m).filter fun y => y.1 != k) → IsMp X b n (lack (l.take (j + 1)) m) from fun X k e g => by
        rw [List.take_succ_eq_append_getElem j1, lack_snoc, e]; exact g)
      obtain ⟨x, hx⟩ : ∃ x, (l[j]'j1).1 = x := ⟨_, rfl⟩
      obtain ⟨y, hy⟩ : ∃ y, (l[j]'j1).2 = y := ⟨_, rfl⟩
      rw [hx] at h1 hk
      rw [hy] at h2
      have HX := Lib.hid hx
      have HK := Lib.hid (key64 hk)
      clear hx hy hk
      obtain ⟨⟨D, hown, hrep⟩, hgr⟩ := HR.out
      have HOW := Lib.hid hown
      have HRP := Lib.hid hrep
      have HGR := Lib.hid hgr
      clear hown hrep hgr HR
      go_wp2_with (at_delete; refine wpList_delete_own _ rfl _ _ 68 22 rfl 22 lawK Tryd.underlying68 _ b n D rfl (HOW.out.alloc _) _ _ rfl HK.out ?_; intro w1 hown1 hturn1; have HO1 := Lib.hid hown1; have HT1 := Lib.hid hturn1; clear hown1 hturn1)
      go_roundw
      case rel => exact ⟨j + 1, by omega, by go_num, Lib.hid ⟨HST.out _ x HX.out ⟨_, HO1.out, rep_del HRP.out x⟩, HGR.out.andThen (row' := some b) ((World.grownBy_alloc _ _ (some b)).andThen (row' := some b) HT1.out.grown (fun _ h => .inr h)) (fun _ h => .inr h)⟩⟩
      case measure => simp [intOf]; omega
    · obtain rfl : j = N := by omega
      have i2 : ¬ (j : Int) < (j : Int) := by omega
      go_wp2
      go_ret
      refine ⟨rfl, ?_, HR.out.2⟩
      have g := HR.out.1
      rw [← HN.out, List.take_length, HT.out] at g
      exact g

theorem own_below {P : Program} {k : TypeId} {R' : Value → Option (DataW Unit × List MemPlace)} {W X : World} {b n : Nat} {D : DataW Unit} (h : W.ownsMap P k R' b n D) (hb : Below W.heap.size W X) : X.ownsMap P k R' b n D :=
  h.kept (row := none) ⟨hb.os, hb.tape, hb.output, hb.size, fun i hi _ => hb.block i hi⟩ (by simp)
/-- How far rows are good: the first j, and the last key. -/
def GoodP (l : List R) (j a : Nat) : Prop := Up (l.take j) ∧ (∀ x ∈ l.take j, PaOk x ∧ x.1 ≤ a) ∧ (a = 0 ∨ ∃ x ∈ l.take j, x.1 = a)
theorem goodP_zero (l : List R) : GoodP l 0 0 := ⟨List.Pairwise.nil, fun x hx => by simp at hx, .inl rfl⟩
theorem goodP_step {l : List R} {j a : Nat} (h : GoodP l j a) (hj : j < l.length) (h1 : a < l[j].1) (h2 : PaOk l[j]) : GoodP l (j + 1) l[j].1 := by
  obtain ⟨g1, g2, g3⟩ := h
  unfold GoodP
  rw [List.take_succ_eq_append_getElem hj]
  refine ⟨?_, fun x hx => ?_, .inr ⟨l[j], List.mem_append_right _ (List.mem_singleton.2 rfl), rfl⟩⟩
  · unfold Up
    rw [List.pairwise_append]
    exact ⟨g1, List.pairwise_singleton _ _, fun x hx y hy => by rw [List.mem_singleton.1 hy]; exact Nat.lt_of_le_of_lt (g2 x hx).2 h1⟩
  · rcases List.mem_append.1 hx with hx | hx
    · exact ⟨(g2 x hx).1, by have := (g2 x hx).2; omega⟩
    · rw [List.mem_singleton.1 hx]; exact ⟨h2, Nat.le_refl _⟩
theorem goodP_not {l : List R} {j a : Nat} (h : GoodP l j a) (hj : j < l.length) (h1 : ¬ (a < l[j].1 ∧ PaOk l[j])) : ¬ (Up l ∧ ∀ x ∈ l, PaOk x ∧ Kin l x.1) := fun ⟨hu, hr⟩ => by
  obtain ⟨g1, g2, g3⟩ := h
  have hp := (hr _ (List.getElem_mem hj)).1
  refine h1 ⟨?_, hp⟩
  rcases g3 with rfl | ⟨x, hx, rfl⟩
  · have := hp.1.1; omega
  · obtain ⟨m, hm, rfl⟩ := List.getElem_of_mem hx
    rw [List.length_take] at hm
    rw [List.getElem_take]
    exact up_lt hu (by omega) hj
theorem goodP_all {l : List R} {a : Nat} (h : GoodP l l.length a) : Up l ∧ ∀ x ∈ l, PaOk x := by
  obtain ⟨g1, g2, _⟩ := h
  rw [List.take_length] at g1 g2
  exact ⟨g1, fun x hx => (g2 x hx).1⟩

set_option maxRecDepth 100000 in
set_option maxHeartbeats 8000000 in
theorem pare_any (c : Cf) (A : Option Addr) (l : List R) (d : Nat) (hl : l.length ≤ 1000000) (hw64 : ∀ x ∈ l, x.1 < 18446744073709551616) (w : World) (h : IsR w A l) :
    Calls Tryd.prog 22 #[cfv c, .slice A l.length d] w (Ret (.bool (decide ((l.length : Int) ≤ c.cap ∧ Up l ∧ ∀ x ∈ l, PaOk x ∧ Kin l x.1))) w) := by
  have HA := Lib.hid h
  have HWW := Lib.hid hw64
  have HLA := Lib.hid (fun b n m W hA hm => lacking_any b n m A l d hl hw64 W hA hm)
  clear h hw64
  obtain ⟨N, hN⟩ : ∃ N, l.length = N := ⟨_, rfl⟩
  rw [hN] at hl HLA ⊢
  have HN := Lib.hid hN
  clear hN
  unfold cfv
  by_cases hcap : (N : Int) ≤ c.cap
  · obtain ⟨u, hu⟩ : ∃ u, decide ((N : Int) ≤ c.cap ∧ Up l ∧ ∀ x ∈ l, PaOk x ∧ Kin l x.1) = u := ⟨_, rfl⟩
    rw [hu]
    have HU := Lib.hid hu
    clear hu
    have hc2 : ¬ c.cap < (N : Int) := by omega
    have hmm := @run_makeMap Tryd.prog
    go_enter Tryd.func22, Tryd.ntmps22
    go_wp2
    obtain ⟨W, hW⟩ : ∃ W, W = w.alloc (.cells #[.int .u8 c.obj, .int .i64 c.inst, .int .i64 c.thr, .int .u8 c.kind, .int .i64 c.str, .int .i64 c.bits, .int .i64 c.cap, .int .i64 c.node, .int .i64 c.bat, .int .i64 c.chunk, .int .u64 c.lim, .int .u64 c.most] 33) := ⟨_, rfl⟩
    have hb2 : Below w.heap.size w W := by rw [hW]; exact below_one _ _
    rw [← hW]
    have HA2 := Lib.hid (HA.out.below hb2)
    have HWS := Lib.hid (show W.heap.size = w.heap.size + 1 by rw [hW]; simp)
    clear hW
    go_loopw [5, 18] (fun av iv wr => Below W.heap.size W wr ∧ ∃ a j : Nat, ∃ m : List R, j ≤ N ∧ av = .int .u64 a ∧ iv = .int .i64 j ∧ Hid (GoodP l j a ∧ ParsOf (l.take j) m ∧ IsMp wr (w.heap.size + 1) j m)) (fun _ iv _ => N - (intOf iv).toNat)
    case atStart => exact ⟨below_one _ _, 0, 0, [], Nat.zero_le _, rfl, rfl, Lib.hid ⟨goodP_zero l, by rw [List.take_zero]; exact pars_nil, by rw [← HWS.out]; exact isMp_made W⟩⟩
    case round =>
      obtain ⟨hbr, a, j, m, hj, rfl, rfl, HR⟩ := hrel
      have i1 : (0 : Int) ≤ (j : Int) := by omega
      by_cases hlt : j < N
      · have j1 : j < l.length := by rw [HN.out]; exact hlt
        have i2 : (j : Int) < (N : Int) := by omega
        obtain ⟨bk, off, rfl, h1, h2⟩ := HA2.out.row j1
        replace h1 := (hbr.cell (World.block_lt_of_cell? _ _ h1)).trans h1
        replace h2 := (hbr.cell (World.block_lt_of_cell? _ _ h2)).trans h2
        have hk := HWW.out _ (List.getElem_mem j1)
        have hs := goodP_step HR.out.1 j1
        have hf := goodP_not HR.out.1 j1
        have hz := @pars_zero (l.take j) m l[j] HR.out.2.1
        have ho := @pars_old (l.take j) m l[j] HR.out.2.1
        have hn := @pars_new (l.take j) m l[j] HR.out.2.1
        rw [← List.take_succ_eq_append_getElem j1] at hz ho hn
        obtain ⟨x, hx⟩ : ∃ x, (l[j]'j1).1 = x := ⟨_, rfl⟩
        obtain ⟨y, hy⟩ : ∃ y, (l[j]'j1).2 = y := ⟨_, rfl⟩
        have hxy : l[j] = (x, y) := Prod.ext hx hy
        rw [hxy] at hs hf hz ho hn hk
        rw [hx] at h1
        rw [hy] at h2
        simp only at hs hf hz ho hn hk
        unfold PaOk at hs hf
        simp only at hs hf
        have HPA := Lib.hid (qParent_any x hk)
        have HNM := Lib.hid (qNames_any x (x / 4294967296) (x / 65536 % 65536) (x % 65536) hk (by omega) rfl rfl)
        have HIP := Lib.hid (qIsPath_any x (x / 4294967296) (x / 65536 % 65536) (x % 65536) rfl rfl rfl)
        obtain ⟨z, hzz⟩ : ∃ z, decide (IsPa x) = z := ⟨_, rfl⟩
        rw [hzz] at HIP
        have HZ := Lib.hid hzz
        obtain ⟨p, hp⟩ : ∃ p, par x = p := ⟨_, rfl⟩
        have hpk : p < 18446744073709551616 := by rw [← hp]; exact Nat.lt_of_le_of_lt (par_le x) hk
        rw [hp] at HPA hz ho hn
        have HKY := Lib.hid (key64 hpk)
        have HPP := Lib.hid (And.intro hz (And.intro ho hn))
        have HGS := Lib.hid (And.intro hs hf)
        obtain ⟨na, hna⟩ : ∃ q, x / 4294967296 = q := ⟨_, rfl⟩
        obtain ⟨nb, hnb⟩ : ∃ q, x / 65536 % 65536 = q := ⟨_, rfl⟩
        obtain ⟨nc, hnc⟩ : ∃ q, x % 65536 = q := ⟨_, rfl⟩
        rw [hna, hnb, hnc] at HNM HIP
        clear hs hf hz ho hn hx hy hxy hzz hp hpk hna hnb hnc hk
        by_cases hg : a < x ∧ z = true ∧ y ≤ 2147483648
        · obtain ⟨g1, rfl, g3⟩ := hg
          have k1 : ¬ (x : Int) ≤ (a : Int) := by omega
          have k3 : ¬ (y : Int) > 2147483648 := by omega
          have HS := Lib.hid (HGS.out.1 g1 ⟨of_decide_eq_true HZ.out, g3⟩)
          clear HGS HZ g1 g3
          by_cases hp0 : p = 0
          · subst hp0
            go_wp2_with (first
              | (go_at_call 39; refine (HNM.out _).mono ?_; rintro e w2 ⟨rfl, hb2⟩; obtain ⟨hc2, hf2⟩ := bcell hb2)
              | (go_at_call 38; refine (HIP.out _).mono ?_; rintro e w3 ⟨rfl, hb3⟩; replace hb2 := below_then hb2 hb3; clear hc2 hf2 hb3; obtain ⟨hc2, hf2⟩ := bcell hb2)
              | (go_at_call 40; refine (HPA.out _).mono ?_; rintro e w4 ⟨rfl, hb4⟩; replace hb2 := below_then hb2 hb4; clear hc2 hf2 hb4; obtain ⟨hc2, hf2⟩ := bcell hb2))
            go_roundw
            case rel => exact ⟨below_then (below_then hbr (below_one _ _)) hb2, x, j + 1, m, by omega, rfl, by go_num, Lib.hid ⟨HS.out, HPP.out.1 (by simp), IsMp.below (IsMp.mono HR.out.2.2 (by omega)) (below_then (below_one _ _) hb2)⟩⟩
            case measure => simp [intOf]; omega
          · have hp2 : ((p : Int) != 0) = true := bne_iff_ne.2 (by omega)
            obtain ⟨hgood, hpars, ⟨D, hown, hrep⟩⟩ := HR.out
            have HOW := Lib.hid hown
            have HRP := Lib.hid (And.intro hpars hrep)
            clear hgood hpars hown hrep HR
            go_wp2_with (first
              | (go_at_call 39; refine (HNM.out _).mono ?_; rintro e w2 ⟨rfl, hb2⟩; obtain ⟨hc2, hf2⟩ := bcell hb2)
              | (go_at_call 38; refine (HIP.out _).mono ?_; rintro e w3 ⟨rfl, hb3⟩; replace hb2 := below_then hb2 hb3; clear hc2 hf2 hb3; obtain ⟨hc2, hf2⟩ := bcell hb2)
              | (go_at_call 40; refine (HPA.out _).mono ?_; rintro e w4 ⟨rfl, hb4⟩; replace hb2 := below_then hb2 hb4; clear hc2 hf2 hb4; obtain ⟨hc2, hf2⟩ := bcell hb2)
              | (at_mapUpdate; refine wpList_mapUpdate_own _ rfl _ _ _ 68 rfl 22 22 lawK Tryd.underlying68 _ (w.heap.size + 1) j D rfl (own_below HOW.out (below_then (below_one _ _) hb2)) (by unfold maxLen; omega) _ _ _ rfl rfl HKY.out _ [] (elem64 (k := 0) (by omega)) ?_; intro w5 hown5 hg5; have HO5 := Lib.hid hown5; have HG5 := Lib.hid hg5; clear hown5 hg5))
            have HBF := Lib.hid ((below_then (below_then hbr (below_one _ _)) hb2).grown HG5.out (below_then (below_then hbr (below_one _ _)) hb2).size (fun k hk => by injection hk with hk; rw [← hk, HWS.out]; exact Nat.le_refl _))
            obtain ⟨m', hm'⟩ : ∃ m', Hid (ParsOf (l.take (j + 1)) m' ∧ IsMp w5 (w.heap.size + 1) (j + 1) m') := by
              by_cases hh : hasM m p = true
              · obtain ⟨y', hy', e'⟩ := hasM_iff.1 hh
                have : y'.2 = 0 := HRP.out.1.nil _ hy'
                have hmem : (p, 0) ∈ m := by rw [← e', ← this]; exact hy'
                exact ⟨m, Lib.hid ⟨HPP.out.2.1 hh, _, HO5.out, rep_same HRP.out.2 hmem⟩⟩
              · exact ⟨m ++ [(p, 0)], Lib.hid ⟨HPP.out.2.2 hp0, _, HO5.out, rep_new HRP.out.2 0 (Bool.eq_false_iff.2 hh)⟩⟩
            go_roundw
            case rel => exact ⟨HBF.out, x, j + 1, m', by omega, rfl, by go_num, Lib.hid ⟨HS.out, hm'.out⟩⟩
            case measure => simp [intOf]; omega
        · have e : u = false := by
            rw [← HU.out]; exact decide_eq_false fun g => HGS.out.2 (fun g' => hg ⟨g'.1, by rw [← HZ.out]; exact decide_eq_true g'.2.1, g'.2.2⟩) g.2
          subst e
          clear HGS
          rcases (by cases z <;> simp at hg ⊢ <;> omega : x ≤ a ∨ (¬ x ≤ a ∧ z = false) ∨ (¬ x ≤ a ∧ z = true ∧ 2147483648 < y)) with k1 | ⟨k1, rfl⟩ | ⟨k1, rfl, k3⟩
          · have k1 : (x : Int) ≤ (a : Int) := by omega
            go_wp2
            go_ret
            exact Ret.mk rfl (hb2.trans ((below_then hbr (below_one _ _)).mono hb2.size))
          · have k1 : ¬ (x : Int) ≤ (a : Int) := by omega
            go_wp2_with (first
              | (go_at_call 39; refine (HNM.out _).mono ?_; rintro e w2 ⟨rfl, hbb⟩; obtain ⟨hc2, hf2⟩ := bcell hbb)
              | (go_at_call 38; refine (HIP.out _).mono ?_; rintro e w3 ⟨rfl, hb3⟩; replace hbb := below_then hbb hb3; clear hc2 hf2 hb3; obtain ⟨hc2, hf2⟩ := bcell hbb))
            go_ret
            exact Ret.mk rfl (hb2.trans ((below_then (below_then hbr (below_one _ _)) hbb).mono hb2.size))
          · have k1 : ¬ (x : Int) ≤ (a : Int) := by omega
            have k3 : (y : Int) > 2147483648 := by omega
            go_wp2_with (first
              | (go_at_call 39; refine (HNM.out _).mono ?_; rintro e w2 ⟨rfl, hbb⟩; obtain ⟨hc2, hf2⟩ := bcell hbb)
              | (go_at_call 38; refine (HIP.out _).mono ?_; rintro e w3 ⟨rfl, hb3⟩; replace hbb := below_then hbb hb3; clear hc2 hf2 hb3; obtain ⟨hc2, hf2⟩ := bcell hbb))
            go_ret
            exact Ret.mk rfl (hb2.trans ((below_then (below_then hbr (below_one _ _)) hbb).mono hb2.size))
      · obtain rfl : j = N := by omega
        have i2 : ¬ (j : Int) < (j : Int) := by omega
        have HLL := Lib.hid (HLA.out _ _ _ wr (HA2.out.below hbr) HR.out.2.2)
        have hgood := goodP_all (by rw [HN.out]; exact HR.out.1)
        have hkin := pars_kin (by have g := HR.out.2.1; rw [← HN.out, List.take_length] at g; exact g)
        have HE := Lib.hid (show u = decide ((lack l m).length = 0) by
          rw [← HU.out, Bool.eq_iff_iff, decide_eq_true_iff, decide_eq_true_iff, hkin]
          exact ⟨fun g x hx => (g.2.2 x hx).2, fun g => ⟨hcap, hgood.1, fun x hx => ⟨hgood.2 x hx, g x hx⟩⟩⟩)
        clear hgood hkin HR
        obtain ⟨M, hM⟩ : ∃ M, lack l m = M := ⟨_, rfl⟩
        rw [hM] at HLL HE
        clear hM
        go_wp2_with (go_at_call 41; refine HLL.out.mono ?_; rintro e w4 ⟨rfl, ⟨D, hown, hrep⟩, hg4⟩; have HO4 := Lib.hid hown; have HR4 := Lib.hid hrep; have HG4 := Lib.hid hg4; clear hown hrep hg4; go_wp2_with (at_len; refine wpList_len_own _ rfl _ 68 rfl 22 22 Tryd.underlying68 _ (w.heap.size + 1) j D rfl HO4.out ?_; rw [HR4.out.size]))
        go_ret
        refine Ret.mk (bool_eq ?_) (hb2.trans (Below.mono (hbr.grown HG4.out hbr.size (fun k hk => by injection hk with hk; rw [← hk, HWS.out]; exact Nat.le_refl _)) hb2.size))
        rw [HE.out, Bool.eq_iff_iff]
        simp
        try omega
  · rw [decide_eq_false (fun g => hcap g.1)]
    have hc2 : c.cap < (N : Int) := by omega
    go_enter Tryd.func22, Tryd.ntmps22
    go_wp2
    go_ret
    exact Ret.mk rfl (below_one _ _)
end Go.Proofs.YtljdkjjjnlcflaaDoor
