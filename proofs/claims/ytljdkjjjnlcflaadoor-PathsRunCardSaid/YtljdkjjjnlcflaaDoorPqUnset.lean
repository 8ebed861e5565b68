/- The program's own taking out of a node, and reading of one: whether a node stands below, what is taken out of rows of its caller's own, what is told. -/
import Derived.Test.YtljdkjjjnlcflaaDoorPqSeek
import Derived.Test.YtljdkjjjnlcflaaDoorPqNames
import Derived.Test.YtljdkjjjnlcflaaDoorPaFacts
import Derived.Test.YtljdkjjjnlcflaaDoorRowProg
import Derived.Test.YtljdkjjjnlcflaaDoorTbDel
import Derived.Lib.QuietBelow
import Derived.Deep.DeepCutAuto
import Derived.Deep.RegionHeld3
namespace Go.Proofs.YtljdkjjjnlcflaaDoor
open Go.RowKit Go.Lib Tb Pt Opn

set_option maxRecDepth 100000 in
set_option maxHeartbeats 4000000 in
theorem below1_any (x y k g : Nat) (hx : x < 18446744073709551616) (w : World) (hg : w.cell? ⟨g, 0, none⟩ = some (.int .u64 k)) :
    Calls Tryd.prog 68 #[.agg #[.int .u64 x, .int .u64 y], .pointer (some ⟨g, 0, none⟩)] w (Ret (.bool (decide (par x = k))) w) := by
  have HP := Lib.hid (fun W => qParent_any x hx W)
  obtain ⟨p, hp⟩ : ∃ p, par x = p := ⟨_, rfl⟩
  rw [hp] at HP ⊢
  clear hp hx
  have hgl := World.block_lt_of_cell? _ _ hg
  go_enter Tryd.func68, Tryd.ntmps68
  go_wp2
  obtain ⟨W, hW⟩ : ∃ W, W = w.alloc (.cells #[.int .u64 x, .int .u64 y] 24) := ⟨_, rfl⟩
  have hb := below_one w (.cells #[.int .u64 x, .int .u64 y] 24)
  rw [← hW] at hb ⊢
  have k0 := cell_regrown (show W.cell? ⟨w.heap.size, 0, none⟩ = some (.int .u64 x) by rw [hW]; simp [go_sem])
  have k1 := cell_regrown (show W.cell? ⟨g, 0, none⟩ = some (.int .u64 k) from (hb.cell hgl).trans hg)
  clear hW hg
  refine wp_region_quiet_below (by kernel_rfl) (by kernel_rfl) ?_
  repeat (go_big_quiet_step (exact Calls.regrown_of (HP.out _)))
  refine wpQuiet_nil ?_
  intro W3 hw'
  obtain ⟨⟨dq, osq⟩, hw''⟩ := hw'
  have hb3 := below_regrown W dq osq
  rw [← hw''] at hb3
  have hb4 := below_then hb hb3
  clear hw'' k0 k1
  go_wp2
  go_ret
  refine Ret.mk (bool_eq ?_) hb4
  rw [Bool.eq_iff_iff]
  simp
  try omega

/-- The first row whose parent is that one. -/
theorem used_step {l : List R} {j k : Nat} (hj : j < l.length) (h : ∀ m, (hm : m < l.length) → m < j → par l[m].1 ≠ k) (hn : par l[j].1 ≠ k) : ∀ m, (hm : m < l.length) → m < j + 1 → par l[m].1 ≠ k := fun m hm hlt => by
  rcases Nat.lt_or_eq_of_le (Nat.le_of_lt_succ hlt) with g | rfl
  · exact h m hm g
  · exact hn
theorem used_none {l : List R} {k : Nat} (h : ∀ m, (hm : m < l.length) → m < l.length → par l[m].1 ≠ k) : usedB l k = false := by
  rw [Bool.eq_false_iff]
  intro g
  obtain ⟨x, hx, e⟩ := used_yes.1 g
  obtain ⟨m, hm, rfl⟩ := List.getElem_of_mem hx
  exact h m hm hm e

set_option maxRecDepth 100000 in
set_option maxHeartbeats 4000000 in
theorem indexBelow_any (A : Option Addr) (l : List R) (d k g : Nat) (hl : l.length ≤ 1000000) (hw64 : ∀ x ∈ l, x.1 < 18446744073709551616) (w : World) (h : IsR w A l) (hg : w.cell? ⟨g, 0, none⟩ = some (.int .u64 k)) :
    Calls Tryd.prog 78 #[.slice A l.length d, .func (.func 68) #[] #[.pointer (some ⟨g, 0, none⟩)]] w fun e w' => ∃ i : Int, e = .returned (.int .i64 i) ∧ (0 ≤ i ↔ usedB l k = true) ∧ Below w.heap.size w w' := by
  have HA := Lib.hid h
  have HWW := Lib.hid hw64
  have HG := Lib.hid hg
  have hgl := World.block_lt_of_cell? _ _ hg
  clear h hw64 hg
  obtain ⟨N, hN⟩ : ∃ N, l.length = N := ⟨_, rfl⟩
  have HN := Lib.hid hN
  rw [hN] at hl ⊢
  clear hN
  go_enter Tryd.func78, Tryd.ntmps78
  go_wp2
  go_loopw [8] (fun iv wr => Below w.heap.size w wr ∧ ∃ j : Nat, j ≤ N ∧ iv = .int .i64 j ∧ Hid (∀ m, (hm : m < l.length) → m < j → par l[m].1 ≠ k)) (fun iv _ => N - (intOf iv).toNat)
  case atStart => exact ⟨Below.refl _ _, 0, Nat.zero_le _, rfl, Lib.hid fun m _ hm => by omega⟩
  case round =>
    obtain ⟨hbr, j, hj, rfl, HO⟩ := hrel
    have i1 : (0 : Int) ≤ (j : Int) := by omega
    by_cases hlt : j < N
    · have j1 : j < l.length := by rw [HN.out]; exact hlt
      have i2 : (j : Int) < (N : Int) := by omega
      obtain ⟨bk, off, rfl, h1, h2⟩ := HA.out.row j1
      replace h1 := (hbr.cell (World.block_lt_of_cell? _ _ h1)).trans h1
      replace h2 := (hbr.cell (World.block_lt_of_cell? _ _ h2)).trans h2
      have hk := HWW.out _ (List.getElem_mem j1)
      have HST := Lib.hid (used_step j1 HO.out)
      have HUY := Lib.hid (fun e : par (l[j]'j1).1 = k => used_yes.2 ⟨_, List.getElem_mem j1, e⟩)
      obtain ⟨x, hx⟩ : ∃ x, (l[j]'j1).1 = x := ⟨_, rfl⟩
      obtain ⟨y, hy⟩ : ∃ y, (l[j]'j1).2 = y := ⟨_, rfl⟩
      rw [hx] at h1 hk HST HUY
      rw [hy] at h2
      have HB1 := Lib.hid (fun W hc => below1_any x y k g hk W hc)
      have hgr := (hbr.cell hgl).trans HG.out
      clear hx hy hk HO
      by_cases hp : par x = k
      · rw [decide_eq_true hp] at HB1
        have HU := Lib.hid (HUY.out hp)
        clear HST HUY hp
        go_wp2_with (go_at_call 68; refine (HB1.out _ hgr).mono ?_; rintro e w2 ⟨rfl, hb2⟩)
        go_ret
        exact ⟨_, rfl, by simp [HU.out], below_then hbr hb2⟩
      · rw [decide_eq_false hp] at HB1
        have HT := Lib.hid (HST.out hp)
        clear HST HUY hp
        go_wp2_with (go_at_call 68; refine (HB1.out _ hgr).mono ?_; rintro e w2 ⟨rfl, hb2⟩)
        go_roundw
        case rel => exact ⟨below_then hbr hb2, j + 1, by omega, by go_num, HT⟩
        case measure => simp [intOf]; omega
    · obtain rfl : j = N := by omega
      have HU := Lib.hid (used_none (fun m hm _ => HO.out m hm (by rw [← HN.out]; exact hm)))
      go_wp2
      go_ret
      exact ⟨_, rfl, by simp [HU.out], hbr⟩

set_option maxRecDepth 100000 in
set_option maxHeartbeats 4000000 in
theorem hasBelow_any (A : Option Addr) (l : List R) (d k : Nat) (hl : l.length ≤ 1000000) (hw64 : ∀ x ∈ l, x.1 < 18446744073709551616) (w : World) (h : IsR w A l) :
    Calls Tryd.prog 49 #[.slice A l.length d, .int .u64 k] w (Ret (.bool (usedB l k)) w) := by
  have HI := Lib.hid (fun g W hA hc => indexBelow_any A l d k g hl hw64 W hA hc)
  have HA := Lib.hid h
  clear h hw64
  generalize l.length = N at *
  generalize usedB l k = u at *
  have HC := Lib.hid (show ∀ g W, IsR W A l → W.cell? ⟨g, 0, none⟩ = some (.int .u64 k) → Calls Tryd.prog 67 #[.slice A N d, .func (.func 68) #[] #[.pointer (some ⟨g, 0, none⟩)]] W (Ret (.bool u) W) from fun g W hA hc => by
    have HI2 := Lib.hid (HI.out g W hA hc)
    clear hc hA HI HA
    go_enter Tryd.func67, Tryd.ntmps67
    go_wp2_with (go_at_call 78; refine HI2.out.mono ?_; rintro e w2 ⟨i, rfl, hi, hb2⟩)
    go_ret
    refine Ret.mk (bool_eq ?_) hb2
    rw [Bool.eq_iff_iff, ← hi]
    all_goals simp)
  clear HI
  go_enter Tryd.func49, Tryd.ntmps49
  go_wp2_with (go_at_call 67; refine (HC.out _ _ (HA.out.below (below_one _ _)) (by simp [go_sem])).mono ?_; rintro e w2 ⟨rfl, hb2⟩)
  go_ret
  exact Ret.mk rfl (below_b1 hb2)

/-- What a taking out does. -/
def unsetS (l : List R) (k : Nat) : List R × Int × Int := match Tb.get l k with
  | some u => if usedB l k = true then (l, 90, 0) else (cut l k, 0, ((u : Nat) : Int))
  | none => (l, 6, 0)
/-- What a reading tells. -/
def readS (l : List R) (k : Nat) : Int × Int := match Tb.get l k with
  | some u => if u = 0 then (6, 0) else (0, ((u : Nat) : Int))
  | none => (6, 0)

set_option maxHeartbeats 4000000 in
set_option maxRecDepth 100000 in
theorem punset_any (o : O) (ho : Wf o) (w : World) (B : Nat) (v : Value) (l : List R) (hl : l.length ≤ 100000) (hu : Up l) (hw64 : ∀ x ∈ l, x.1 < 18446744073709551616) (hhop : ∀ x ∈ l, x.2 ≤ 2147483648) (hm : MadeX w B 24 2 rowL v l) :
    Calls Tryd.prog 26 #[v, opv o] w (Own4 (unsetS l (pth o)) B w v) := by
  have HM := Lib.hid hm
  obtain ⟨A, d, rfl, ⟨hd1, hd2⟩, hAn, hA⟩ := hm.form rowL_len
  have HSK := Lib.hid (fun W hA => pseek_any A l d (by omega) hu o ho W hA)
  have HHB := Lib.hid (fun k W hA => hasBelow_any A l d k (by omega) hw64 W hA)
  obtain ⟨K, hK⟩ : ∃ K, pth o = K := ⟨_, rfl⟩
  rw [hK] at HSK ⊢
  obtain ⟨s, hs⟩ : ∃ s, unsetS l K = s := ⟨_, rfl⟩
  rw [hs]
  have HS := Lib.hid hs
  have HC := Lib.hid (And.intro hu hhop)
  have HAA := Lib.hid hA
  obtain ⟨N, hN⟩ : ∃ N, l.length = N := ⟨_, rfl⟩
  have HNL := Lib.hid hN
  rw [hN] at hl hd1 HM HSK HHB ⊢
  have hov : ∀ b, (Value.slice A N d).ownBlock = some b → b < w.heap.size := fun b hb => (MadeX.lt HM.out b (by rw [hN] at *; exact hb)).2
  have HOV := Lib.hid hov
  clear hs hu hhop hAn hA hm hN hov hK hw64
  unfold opv at *
  obtain ⟨W, hW⟩ : ∃ W, W = (w.alloc (.cells #[.int .u8 (o.k : Nat), .int .u32 (o.a : Nat), .int .u32 (o.b : Nat), .int .u32 (o.c : Nat)] 35)).alloc (.cells #[.int .i64 0, .int .u32 0, .slice none 0 0] 29) := ⟨_, rfl⟩
  have HRES : W.heap[w.heap.size + 1]? = some (.cells #[.int .i64 0, .int .u32 0, .slice none 0 0] 29 (0, 0)) := by
    rw [hW]
    exact heap_alloc_new (w.alloc (.cells #[.int .u8 (o.k : Nat), .int .u32 (o.a : Nat), .int .u32 (o.b : Nat), .int .u32 (o.c : Nat)] 35)) _ |> fun h => by simpa using h
  have hbW : Below w.heap.size w W := by rw [hW]; exact below_two _ _ _
  have hww : W.heap.size = w.heap.size + 2 := by rw [hW]; simp
  have HW := Lib.hid hW
  have mixed : Tryd.prog.follows Departure.mixedOrders = true := by kernel_rfl
  go_enter Tryd.func26, Tryd.ntmps26
  go_wp2_with fail
  rw [← HW.out]
  obtain ⟨q, hq⟩ : ∃ q, w.heap.size = q := ⟨_, rfl⟩
  have HQ := Lib.hid hq
  rw [hq] at HRES hww ⊢
  have hAx := Lib.hid (HAA.out.below hbW)
  have hMx := Lib.hid (MadeX.below HM.out hbW)
  have HBW := Lib.hid hbW
  clear hW hq hbW HW
  refine (HSK.out W hAx.out).mono ?_
  rintro e w2 ⟨rfl, hb2⟩
  have hs2 : q + 2 ≤ w2.heap.size := by have := hb2.size; omega
  have HR2 := Lib.hid ((hb2.block _ (by omega)).trans HRES)
  have HB2 := Lib.hid (HBW.out.trans (hb2.mono HBW.out.size))
  have hM2 := Lib.hid (MadeX.below hMx.out hb2)
  have hA2 := Lib.hid (hAx.out.below hb2)
  clear hb2 HRES hww
  rcases hget : Tb.get l K with _ | u
  · have ES := Lib.hid (show s = (l, 6, 0) by rw [← HS.out]; unfold unsetS; rw [hget])
    simp only [Option.isSome]
    clear hget
    obtain ⟨r0, f0, r1, f1, r2, f2⟩ := res_cells HR2.out
    go_wp2
    have hq := HQ.out
    refine bodyPost_ret (v := .tuple #[.slice A N d, .agg #[.int .i64 6, .int .u32 0, .slice none 0 0]]) ?_ rfl ⟨.slice A N d, ?_, ?_, ?_⟩
    · simp [results, Tryd.results26, go_sem, r0, r1, r2]
    · rw [ES.out]; rfl
    · rw [ES.out]; exact made_stored3 hM2.out (made_ne hM2.out HR2.out (by decide)) _ _ _
    · exact grown_set (grown_set (grown_set (grown_below HB2.out _) (by omega) _ _) (by omega) _ _) (by omega) _ _
  · have HGT := Lib.hid hget
    clear hget
    simp only [Option.isSome]
    have HIT := Lib.hid (up_there HC.out.1 HGT.out)
    obtain ⟨hpl, hlp⟩ := there_at HIT.out.1
    have hp : pos l K = (lo l K).length := rfl
    rw [hp]
    have hhop : u ≤ 2147483648 := HC.out.2 (K, u) (by rw [← hlp]; exact List.getElem_mem hpl)
    obtain ⟨p, hpp⟩ : ∃ p, (lo l K).length = p := ⟨_, rfl⟩
    obtain ⟨bk, off, eA, x0, x1⟩ := hA2.out.row hpl
    rw [hlp] at x0 x1
    rw [hpp] at x0 x1 ⊢
    have hpN : p < N := by rw [← hpp, ← HNL.out]; exact hpl
    have HPP := Lib.hid hpp
    obtain ⟨gA, rfl, hgB⟩ : ∃ gA, A = some ⟨gA, 0, none⟩ ∧ gA < q := by
      rcases (show _ from hM2.out).2 with ⟨h, _⟩ | ⟨g', cap', cur', h, _, h3, _⟩
      · injection h with h; rw [eA] at h; cases h
      · injection h with h
        exact ⟨g', h, by rw [← HQ.out]; exact HOV.out g' (by rw [h]; rfl)⟩
    injection eA with eA
    injection eA with e1 e2 _
    subst e1 e2
    clear hp hpp hpl hlp
    have i1 : (0 : Int) ≤ (p : Int) := by omega
    have i2 : (p : Int) < (N : Int) := by omega
    rw [Nat.zero_add] at x0 x1
    have HH2 := Lib.hid (HHB.out K w2 hA2.out)
    go_wp2_with fail
    refine HH2.out.mono ?_
    rintro e w3 ⟨rfl, hb3⟩
    replace x0 := (hb3.cell (World.block_lt_of_cell? _ _ x0)).trans x0
    replace x1 := (hb3.cell (World.block_lt_of_cell? _ _ x1)).trans x1
    have HR3 := Lib.hid ((hb3.block _ (by omega)).trans HR2.out)
    have HB3 := Lib.hid (HB2.out.trans (hb3.mono HB2.out.size))
    have hM3 := Lib.hid (MadeX.below hM2.out hb3)
    have hs3 : q + 2 ≤ w3.heap.size := Nat.le_trans hs2 hb3.size
    clear hb3 HR2 HB2 hM2 hA2 HH2 HHB HSK hs2
    cases hub : usedB l K with
    | true =>
      have ES := Lib.hid (show s = (l, 90, 0) by rw [← HS.out]; unfold unsetS; rw [HGT.out]; simp only; rw [if_pos hub])
      clear hub
      obtain ⟨r0, f0, r1, f1, r2, f2⟩ := res_cells HR3.out
      go_wp2
      have hq := HQ.out
      refine bodyPost_ret (v := .tuple #[.slice (some ⟨gA, 0, none⟩) N d, .agg #[.int .i64 90, .int .u32 0, .slice none 0 0]]) ?_ rfl ⟨.slice (some ⟨gA, 0, none⟩) N d, ?_, ?_, ?_⟩
      · simp [results, Tryd.results26, go_sem, r0, r1, r2]
      · rw [ES.out]; rfl
      · rw [ES.out]; exact made_stored3 hM3.out (made_ne hM3.out HR3.out (by decide)) _ _ _
      · exact grown_set (grown_set (grown_set (grown_below HB3.out _) (by omega) _ _) (by omega) _ _) (by omega) _ _
    | false =>
      have ES := Lib.hid (show s = (cut l K, 0, ((u : Nat) : Int)) by rw [← HS.out]; unfold unsetS; rw [HGT.out]; simp only; rw [if_neg (by rw [hub]; simp)])
      clear hub
      have HD := Lib.hid (show ∀ X, MadeX X B 24 2 rowL (.slice (some ⟨gA, 0, none⟩) N d) l → Calls Tryd.prog 50 #[.slice (some ⟨gA, 0, none⟩) N d, .int .i64 p, .int .i64 ((p : Int) + 1)] X (RetI (cut l K) B X (.slice (some ⟨gA, 0, none⟩) N d)) from fun X hX => by
        have h := delete_any X B (.slice (some ⟨gA, 0, none⟩) N d) (lo l K) (hi l K) (K, u) (by rw [← HIT.out.1, HNL.out]; omega) (by rw [← HIT.out.1]; exact hX) ((p : Int) + 1) (by rw [HPP.out])
        rw [HPP.out, ← cut_eq K HC.out.1] at h
        exact h)
      have hw : IntKind.i64.wrap ((p : Int) + 1) = (p : Int) + 1 := by rw [IntKind.wrap_i64]; omega
      have huw : IntKind.u32.wrap (u : Int) = (u : Int) := by rw [IntKind.wrap_u32]; omega
      go_wp2_with fail
      refine (HD.out w3 hM3.out).mono ?_
      rintro e w5 ⟨v5, rfl, hM5, hg5⟩
      have HR5 := Lib.hid ((hg5.block (q + 1) (by omega) (own_ne (by omega))).trans HR3.out)
      obtain ⟨r0, f0, r1, f1, r2, f2⟩ := res_cells HR5.out
      have HG5 := Lib.hid (grown_trans (grown_below HB3.out _) hg5)
      have HM5 := Lib.hid hM5
      obtain ⟨A5, c5, rfl, _⟩ := MadeX.form rowL_len hM5
      obtain ⟨M, hM⟩ : ∃ M, (cut l K).length = M := ⟨_, rfl⟩
      rw [hM] at HM5 ⊢
      clear hg5 hM5 hM
      go_wp2
      have hq := HQ.out
      refine bodyPost_ret (v := .tuple #[.slice A5 M c5, .agg #[.int .i64 0, .int .u32 u, .slice none 0 0]]) ?_ rfl ⟨.slice A5 M c5, ?_, ?_, ?_⟩
      · simp [results, Tryd.results26, go_sem, r0, r1, r2]
      · rw [ES.out]; rfl
      · rw [ES.out]; exact made_stored3 HM5.out (made_ne HM5.out HR5.out (by decide)) _ _ _
      · exact grown_set (grown_set (grown_set HG5.out (by omega) _ _) (by omega) _ _) (by omega) _ _

set_option maxHeartbeats 4000000 in
set_option maxRecDepth 100000 in
theorem pread_any (o : O) (ho : Wf o) (A : Option Addr) (l : List R) (d : Nat) (hl : l.length ≤ 100000) (hu : Up l) (hhop : ∀ x ∈ l, x.2 ≤ 2147483648) (w : World) (hA : IsR w A l) :
    Calls Tryd.prog 27 #[.slice A l.length d, opv o] w (Ret (resv (readS l (pth o)).1 (readS l (pth o)).2 none 0 0) w) := by
  have HSK := Lib.hid (fun W hA => pseek_any A l d (by omega) hu o ho W hA)
  obtain ⟨K, hK⟩ : ∃ K, pth o = K := ⟨_, rfl⟩
  rw [hK] at HSK ⊢
  obtain ⟨s, hs⟩ : ∃ s, readS l K = s := ⟨_, rfl⟩
  rw [hs]
  have HS := Lib.hid hs
  have HC := Lib.hid (And.intro hu hhop)
  have HAA := Lib.hid hA
  obtain ⟨N, hN⟩ : ∃ N, l.length = N := ⟨_, rfl⟩
  have HNL := Lib.hid hN
  rw [hN] at hl HSK ⊢
  clear hs hu hhop hA hN hK
  unfold opv at *
  obtain ⟨W, hW⟩ : ∃ W, W = (w.alloc (.cells #[.int .u8 (o.k : Nat), .int .u32 (o.a : Nat), .int .u32 (o.b : Nat), .int .u32 (o.c : Nat)] 35)).alloc (.cells #[.int .i64 0, .int .u32 0, .slice none 0 0] 29) := ⟨_, rfl⟩
  have HRES : W.heap[w.heap.size + 1]? = some (.cells #[.int .i64 0, .int .u32 0, .slice none 0 0] 29 (0, 0)) := by
    rw [hW]
    exact heap_alloc_new (w.alloc (.cells #[.int .u8 (o.k : Nat), .int .u32 (o.a : Nat), .int .u32 (o.b : Nat), .int .u32 (o.c : Nat)] 35)) _ |> fun h => by simpa using h
  have hbW : Below w.heap.size w W := by rw [hW]; exact below_two _ _ _
  have hww : W.heap.size = w.heap.size + 2 := by rw [hW]; simp
  have HW := Lib.hid hW
  go_enter Tryd.func27, Tryd.ntmps27
  go_wp2_with fail
  rw [← HW.out]
  obtain ⟨q, hq⟩ : ∃ q, w.heap.size = q := ⟨_, rfl⟩
  have HQ := Lib.hid hq
  rw [hq] at HRES hww ⊢
  have hAx := Lib.hid (HAA.out.below hbW)
  have HBW := Lib.hid hbW
  clear hW hq hbW HW
  refine (HSK.out W hAx.out).mono ?_
  rintro e w2 ⟨rfl, hb2⟩
  have hs2 : q + 2 ≤ w2.heap.size := by have := hb2.size; omega
  have HR2 := Lib.hid ((hb2.block _ (by omega)).trans HRES)
  have HB2 := Lib.hid (HBW.out.trans (hb2.mono HBW.out.size))
  have hA2 := Lib.hid (hAx.out.below hb2)
  clear hb2 HRES hww HSK
  obtain ⟨r0, f0, r1, f1, r2, f2⟩ := res_cells HR2.out
  have HFB := Lib.hid (show ∀ a b c, Below w.heap.size w (((w2.setCell ⟨q + 1, 0, none⟩ a).setCell ⟨q + 1, 1, none⟩ b).setCell ⟨q + 1, 2, none⟩ c) from fun a b c => by
    have hq := HQ.out
    exact ((HB2.out.setCell (by simp; omega) _).setCell (by simp; omega) _).setCell (by simp; omega) _)
  rcases hget : Tb.get l K with _ | u
  · have ES := Lib.hid (show s = (6, 0) by rw [← HS.out]; unfold readS; rw [hget])
    simp only [Option.isSome]
    clear hget
    go_wp2
    refine bodyPost_ret (v := .agg #[.int .i64 6, .int .u32 0, .slice none 0 0]) ?_ rfl ⟨?_, ?_⟩
    · simp [results, Tryd.results27, go_sem, r0, r1, r2]
    · rw [ES.out]; rfl
    · exact HFB.out _ _ _
  · have HGT := Lib.hid hget
    simp only [Option.isSome]
    clear hget
    have HIT := Lib.hid (up_there HC.out.1 HGT.out)
    obtain ⟨hpl, hlp⟩ := there_at HIT.out.1
    have hp : pos l K = (lo l K).length := rfl
    rw [hp]
    have hhop : u ≤ 2147483648 := HC.out.2 (K, u) (by rw [← hlp]; exact List.getElem_mem hpl)
    obtain ⟨p, hpp⟩ : ∃ p, (lo l K).length = p := ⟨_, rfl⟩
    obtain ⟨bk, off, rfl, x0, x1⟩ := hA2.out.row hpl
    rw [hlp] at x0 x1
    rw [hpp] at x0 x1 ⊢
    have hpN : p < N := by rw [← hpp, ← HNL.out]; exact hpl
    clear hp hpp hpl hlp
    have i1 : (0 : Int) ≤ (p : Int) := by omega
    have i2 : (p : Int) < (N : Int) := by omega
    have huw : IntKind.u32.wrap (u : Int) = (u : Int) := by rw [IntKind.wrap_u32]; omega
    by_cases hu0 : u = 0
    · have ES := Lib.hid (show s = (6, 0) by rw [← HS.out]; unfold readS; rw [HGT.out]; simp only; rw [if_pos hu0])
      subst hu0
      go_wp2
      refine bodyPost_ret (v := .agg #[.int .i64 6, .int .u32 0, .slice none 0 0]) ?_ rfl ⟨?_, ?_⟩
      · simp [results, Tryd.results27, go_sem, r0, r1, r2]
      · rw [ES.out]; rfl
      · exact HFB.out _ _ _
    · have ES := Lib.hid (show s = (0, ((u : Nat) : Int)) by rw [← HS.out]; unfold readS; rw [HGT.out]; simp only; rw [if_neg hu0])
      have hu2 : ((u : Int) == 0) = false := by simpa using (by omega : ¬ (u : Int) = 0)
      go_wp2
      refine bodyPost_ret (v := .agg #[.int .i64 0, .int .u32 u, .slice none 0 0]) ?_ rfl ⟨?_, ?_⟩
      · simp [results, Tryd.results27, go_sem, r0, r1, r2]
      · rw [ES.out]; rfl
      · exact HFB.out _ _ _
end Go.Proofs.YtljdkjjjnlcflaaDoor
