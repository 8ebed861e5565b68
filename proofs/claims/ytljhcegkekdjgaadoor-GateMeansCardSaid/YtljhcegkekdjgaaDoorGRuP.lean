/- The search's comparison of a row with a key. slices.BinarySearchFunc over rows that rise, with the program's own comparison: the place of a key, and whether it is there; the program's seek. The program's own addition of a rule: it turns rows of its caller's own. The program's own drop of a rule: what it takes out of rows of its caller's own. The program's own rules that speak of somebody, as an iterator hands them over. The program's own verdict: what the rules say that speak of somebody. Whether a config is of ObjAccess, whether rows may be rules: the program's own answers. The program's own Do of rules: what is refused, what does not fit, an addition, a drop, a check. -/
import Derived.Test.YtljhcegkekdjgaaDoorGRow
import Derived.Test.YtljhcegkekdjgaaDoorGMath
import Derived.Test.YtljhcegkekdjgaaDoorGRu
import Derived.Deep.DeepCutAuto
import Derived.Deep.RegionHeld3
import Derived.RangeFuncNested
import Derived.RangeFuncBound
import Derived.RangeFuncCalls
import Derived.RangeFuncLeaves
import Derived.Shelf.Abstract
import Derived.Shelf.RegionOpen
import Derived.OwnWalkIn
import Derived.TacticsInMore
import Derived.LoopNIn
import Derived.LoopIn
import Derived.Test.YtljhcegkekdjgaaDoorGKit
import Derived.Test.YtljhcegkekdjgaaDoorGOp
import Derived.Test.YtljhcegkekdjgaaDoorGTab
namespace Go.Proofs.YtljhcegkekdjgaaDoor
open Go.RowKit Tb

set_option maxHeartbeats 1000000 in
theorem ulit_any (x y k : Nat) (w : World) : Calls Tryd.prog 76 #[.agg #[.int .u64 x, .int .u64 y], .int .u64 k] w (Ret (.int .i64 (cmpI x k)) w) := by
  go_enter Tryd.func76, Tryd.ntmps76
  go_wp2_with (go_at_call 77; refine (compare_any _ _ _).mono ?_; rintro e w' ⟨rfl, hb⟩)
  go_ret
  exact Ret.mk rfl (below_b1 (by assumption))
end Go.Proofs.YtljhcegkekdjgaaDoor

namespace Go.Proofs.YtljhcegkekdjgaaDoor
open Go.RowKit Tb Pt Opn

set_option maxHeartbeats 4000000 in
set_option maxRecDepth 100000 in
theorem ubin_any (A : Option Addr) (l : List R) (c : Nat) (hl : l.length ≤ 1000000) (hu : Up l) (k : Nat) (w : World) (h : IsR w A l) :
    Calls Tryd.prog 75 #[.slice A l.length c, .int .u64 k, .func (.func 76) #[] #[]] w (Ret2 (.int .i64 (pos l k)) (.bool (Tb.get l k).isSome) w) := by
  have HU := Lib.hid hu
  clear hu
  have HA := Lib.hid h
  clear h
  obtain ⟨N, hN⟩ : ∃ N, l.length = N := ⟨_, rfl⟩
  have HN := Lib.hid hN
  rw [hN] at hl ⊢
  clear hN
  obtain ⟨p, hp⟩ : ∃ p, pos l k = p := ⟨_, rfl⟩
  obtain ⟨s, hs⟩ : ∃ s, (Tb.get l k).isSome = s := ⟨_, rfl⟩
  have HP := Lib.hid (And.intro hp hs)
  rw [hp, hs]
  clear hp hs
  go_enter Tryd.func75, Tryd.ntmps75
  go_wp2
  go_loopw [9, 10] (fun iv jv wr => Below w.heap.size w wr ∧ ∃ i j : Nat, iv = .int .i64 i ∧ jv = .int .i64 j ∧ i ≤ j ∧ j ≤ N ∧ Hid (Half l k i j)) (fun iv jv _ => (intOf jv - intOf iv).toNat)
  case atStart => exact ⟨Below.refl _ _, 0, N, rfl, rfl, by omega, by omega, Lib.hid (by rw [← HN.out]; exact half_zero l k)⟩
  case round =>
    obtain ⟨hb, i, j, rfl, rfl, hij, hj, HH⟩ := hrel
    by_cases hlt : i < j
    · have j1 : (i + j) / 2 < l.length := by rw [HN.out]; omega
      have i1 : (i : Int) < (j : Int) := by omega
      obtain ⟨b, off, rfl, h1, h2⟩ := HA.out.row j1
      replace h1 := (hb.cell (World.block_lt_of_cell? _ _ h1)).trans h1
      replace h2 := (hb.cell (World.block_lt_of_cell? _ _ h2)).trans h2
      obtain ⟨h, hh⟩ : ∃ h, (i + j) / 2 = h := ⟨_, rfl⟩
      have ei : ((i : Int) + (j : Int)) / 2 = (h : Nat) := by omega
      have HJ := Lib.hid j1
      obtain ⟨x, hx⟩ : ∃ x, (l[(i + j) / 2]'j1).1 = x := ⟨_, rfl⟩
      obtain ⟨y, hy⟩ : ∃ y, (l[(i + j) / 2]'j1).2 = y := ⟨_, rfl⟩
      rw [hx] at h1
      rw [hy] at h2
      rw [hh] at h1 h2
      have HX := Lib.hid hx
      clear hx hy
      by_cases hk : x < k
      · have hc := cmp_lt.2 hk
        go_wp2_with (go_at_call 76; refine (ulit_any _ _ _ _).mono ?_; rintro e w2 ⟨rfl, hb2⟩)
        go_roundw
        case rel => exact ⟨below_then hb hb2, h + 1, j, by go_num, rfl, by omega, hj, Lib.hid (half_up HU.out HH.out (by omega) (hh ▸ j1) (by subst hh; rw [HX.out]; exact hk) (by omega))⟩
        case measure => simp [intOf]; omega
      · have hc : ¬ cmpI x k < 0 := fun h => hk (cmp_lt.1 h)
        go_wp2_with (go_at_call 76; refine (ulit_any _ _ _ _).mono ?_; rintro e w2 ⟨rfl, hb2⟩)
        go_roundw
        case rel => exact ⟨below_then hb hb2, i, h, rfl, rfl, by omega, by omega, Lib.hid (half_down HU.out HH.out (by omega) (by omega) (hh ▸ j1) (by subst hh; rw [HX.out]; exact hk))⟩
        case measure => simp [intOf]; omega
    · obtain rfl : i = j := by omega
      have hp := half_end HH.out
      rw [HP.out.1] at hp
      subst hp
      by_cases hlt2 : p < N
      · have j1 : p < l.length := by rw [HN.out]; exact hlt2
        have i1 : (p : Int) < (N : Int) := by omega
        have i2 : (0 : Int) ≤ (p : Int) := by omega
        obtain ⟨b, off, rfl, h1, h2⟩ := HA.out.row j1
        replace h1 := (hb.cell (World.block_lt_of_cell? _ _ h1)).trans h1
        replace h2 := (hb.cell (World.block_lt_of_cell? _ _ h2)).trans h2
        have HG := pos_get HU.out k
        rw [HP.out.1] at HG
        have es : s = decide (cmpI (l[p]'j1).1 k = 0) := by
          rw [← HP.out.2]
          rcases HG with ⟨e, h3⟩ | ⟨hm, h3, e⟩
          · rw [e]; exact (decide_eq_false (fun h => h3 j1 (cmp_eq.1 h))).symm
          · rw [e]; exact (decide_eq_true (cmp_eq.2 h3)).symm
        clear HG
        obtain ⟨x, hx⟩ : ∃ x, (l[p]'j1).1 = x := ⟨_, rfl⟩
        obtain ⟨y, hy⟩ : ∃ y, (l[p]'j1).2 = y := ⟨_, rfl⟩
        rw [hx] at h1 es
        rw [hy] at h2
        have ES := Lib.hid es
        clear es hx hy
        go_wp2_with (go_at_call 76; refine (ulit_any _ _ _ _).mono ?_; rintro e w2 ⟨rfl, hb2⟩)
        go_ret2
        exact Ret2.mk rfl (bool_eq (by rw [ES.out, Bool.eq_iff_iff]; simp)) (below_then hb hb2)
      · have i1 : ¬ (p : Int) < (N : Int) := by omega
        have es : s = false := by
          rw [← HP.out.2]
          rcases pos_get HU.out k with ⟨e, _⟩ | ⟨hm, _⟩
          · rw [e]; rfl
          · rw [HP.out.1, HN.out] at hm; exact absurd hm hlt2
        subst es
        go_wp2
        go_ret2
        exact Ret2.mk rfl rfl hb

/-- The key of a rule: who and what. -/
def keyU (o : O) : Nat := o.a * 65536 + o.b
set_option maxHeartbeats 1000000 in
theorem key_any (a b : Nat) (ha : a < 4294967296) (hb : b < 4294967296) (w : World) :
    Calls Tryd.prog 59 #[.int .u32 a, .int .u32 b] w fun e w' => e = .returned (.int .u64 (a * 65536 + b : Nat)) ∧ w' = w := by
  have e1 : IntKind.u64.wrap (a : Int) = (a : Int) := by rw [IntKind.wrap_u64]; omega
  have e2 : IntKind.u64.wrap (b : Int) = (b : Int) := by rw [IntKind.wrap_u64]; omega
  have e3 : IntKind.u64.wrap ((a : Int) * 65536) = (a : Int) * 65536 := by rw [IntKind.wrap_u64]; omega
  have e4 : IntKind.u64.wrap ((a : Int) * 65536 + (b : Int)) = ((a * 65536 + b : Nat) : Int) := by rw [IntKind.wrap_u64]; omega
  go_enter Tryd.func59, Tryd.ntmps59
  go_wp2
  go_ret
  exact ⟨by first | rfl | rw [e4] | (rw [show ((a * 65536 + b : Nat) : Int) = (a : Int) * 65536 + (b : Int) by omega]), rfl⟩

set_option maxHeartbeats 1000000 in
/-- The program's own search. -/
theorem useek_any (A : Option Addr) (l : List R) (c : Nat) (hl : l.length ≤ 1000000) (hu : Up l) (o : O) (ho : Wf o) (w : World) (h : IsR w A l) :
    Calls Tryd.prog 57 #[.slice A l.length c, opv o] w (Ret2 (.int .i64 (pos l (keyU o))) (.bool (Tb.get l (keyU o)).isSome) w) := by
  have HK := Lib.hid (fun W => key_any o.a o.b ho.2.1 ho.2.2.1 W)
  have HB := Lib.hid (fun k W hA => ubin_any A l c hl hu k W hA)
  have HA := Lib.hid h
  change Calls _ _ _ _ (Ret2 (.int .i64 (pos l (o.a * 65536 + o.b) : Nat)) (.bool (Tb.get l (o.a * 65536 + o.b)).isSome) w)
  generalize l.length = N at *
  generalize hk : o.a * 65536 + o.b = k at *
  clear h hu
  unfold opv
  go_enter Tryd.func57, Tryd.ntmps57
  go_wp2_with (first
    | (go_at_call 59; refine (HK.out _).mono ?_; rintro e w1 ⟨rfl, rfl⟩)
    | (go_at_call 75; refine (HB.out _ _ (HA.out.below (below_one _ _))).mono ?_; rintro e w2 ⟨rfl, hb2⟩))
  go_ret2
  exact Ret2.mk rfl rfl (below_b1 hb2)
end Go.Proofs.YtljhcegkekdjgaaDoor

namespace Go.Proofs.YtljhcegkekdjgaaDoor
open Go.RowKit Go.Lib Tb Pt Opn

/-- What an addition does. -/
def addU (cap : Nat) (l : List R) (k v : Nat) : List R × Int × Int := match Tb.get l k with
  | some u => (put l k v, 0, ((u : Nat) : Int))
  | none => if cap ≤ l.length then (l, 9, 0) else (put l k v, 0, 0)

set_option maxHeartbeats 4000000 in
set_option maxRecDepth 100000 in
theorem uadd_any (c : Cf) (cap : Nat) (hcc : c.cap = cap) (o : O) (ho : Wf o) (w : World) (B : Nat) (hB : B ≤ w.heap.size) (v : Value) (l : List R) (hl : l.length ≤ 100000) (hlc : l.length ≤ cap) (hu : Up l) (hhop : ∀ x ∈ l, x.2 ≤ 2147483647) (hm : MadeX w B 83 2 rowL v l) :
    Calls Tryd.prog 36 #[cfv c, v, opv o] w (Own4 (addU cap l (keyU o) o.c) B w v) := by
  have HKY := Lib.hid (fun W => key_any o.a o.b ho.2.1 ho.2.2.1 W)
  have HSE := Lib.hid (fun A l d hl hu W hA => useek_any A l d hl hu o ho W hA)
  obtain ⟨K, hK⟩ : ∃ K, keyU o = K := ⟨_, rfl⟩
  obtain ⟨V, hV⟩ : ∃ V, o.c = V := ⟨_, rfl⟩
  have hV32 : V < 4294967296 := by rw [← hV]; exact ho.2.2.2
  have hVw : IntKind.u64.wrap (V : Int) = (V : Int) := by rw [IntKind.wrap_u64]; omega
  have HM := Lib.hid hm
  obtain ⟨A, d, rfl, ⟨hd1, hd2⟩, hAn, hA⟩ := hm.form rowL_len
  rw [hK] at HSE ⊢
  have hK2 : o.a * 65536 + o.b = K := hK
  rw [hK2] at HKY
  unfold cfv opv at *
  rw [hV] at HSE ⊢
  rw [hcc]
  obtain ⟨s, hs⟩ : ∃ s, addU cap l K V = s := ⟨_, rfl⟩
  rw [hs]
  have HS := Lib.hid hs
  have HC := Lib.hid (And.intro hu hhop)
  have HAA := Lib.hid hA
  obtain ⟨N, hN⟩ : ∃ N, l.length = N := ⟨_, rfl⟩
  have HNL := Lib.hid hN
  have HSK := Lib.hid (fun W hA => HSE.out A l d (by omega) hu W hA)
  rw [hN] at hl hlc hd1 HM HSK ⊢
  have hov : ∀ b, (Value.slice A N d).ownBlock = some b → b < w.heap.size := fun b hb => (MadeX.lt HM.out b (by rw [hN] at *; exact hb)).2
  have HOV := Lib.hid hov
  clear hs hu hhop hAn hA hm hN hov hV hcc hK hK2 HSE
  go_enter Tryd.func36, Tryd.ntmps36
  go_wp2_with fail
  obtain ⟨W, hW⟩ : ∃ W, W = ((w.alloc (.cells #[.int .u8 c.obj, .int .i64 c.inst, .int .i64 c.thr, .int .u8 c.kind, .int .i64 c.str, .int .i64 c.bits, .int .i64 (cap : Nat), .int .i64 c.node, .int .i64 c.bat, .int .i64 c.chunk, .int .u64 c.lim, .int .u64 c.most] 30)).alloc (.cells #[.int .u8 (o.k : Nat), .int .u32 (o.a : Nat), .int .u32 (o.b : Nat), .int .u32 (V : Nat)] 46)).alloc (.cells #[.int .i64 0, .int .u32 0, .slice none 0 0] 58) := ⟨_, rfl⟩
  have hb2 : Below w.heap.size w W := by rw [hW]; exact below_three _ _ _ _
  rw [← hW]
  have hcap : W.cell? ⟨w.heap.size, 6, none⟩ = some (.int .i64 (cap : Nat)) := by rw [hW]; simp [go_sem]
  have a1 : W.cell? ⟨w.heap.size + 1, 1, none⟩ = some (.int .u32 (o.a : Nat)) := by rw [hW]; simp [go_sem]
  have a2 : W.cell? ⟨w.heap.size + 1, 2, none⟩ = some (.int .u32 (o.b : Nat)) := by rw [hW]; simp [go_sem]
  have a3 : W.cell? ⟨w.heap.size + 1, 3, none⟩ = some (.int .u32 (V : Nat)) := by rw [hW]; simp [go_sem]
  have HRES : W.heap[w.heap.size + 1 + 1]? = some (.cells #[.int .i64 0, .int .u32 0, .slice none 0 0] 58 (0, 0)) := by
    rw [hW]
    exact heap_alloc_new ((w.alloc (.cells #[.int .u8 c.obj, .int .i64 c.inst, .int .i64 c.thr, .int .u8 c.kind, .int .i64 c.str, .int .i64 c.bits, .int .i64 (cap : Nat), .int .i64 c.node, .int .i64 c.bat, .int .i64 c.chunk, .int .u64 c.lim, .int .u64 c.most] 30)).alloc (.cells #[.int .u8 (o.k : Nat), .int .u32 (o.a : Nat), .int .u32 (o.b : Nat), .int .u32 (V : Nat)] 46)) _ |> fun h => by simpa using h
  have hww : W.heap.size = w.heap.size + 3 := by rw [hW]; simp
  obtain ⟨q, hq⟩ : ∃ q, w.heap.size = q := ⟨_, rfl⟩
  have HB2 := Lib.hid hb2
  have HQ := Lib.hid hq
  rw [hq] at a1 a2 a3 hcap hww HRES ⊢
  have hAx := Lib.hid (HAA.out.below hb2)
  have hMx := Lib.hid (MadeX.below HM.out hb2)
  clear hW hb2 hq
  refine (HSK.out W hAx.out).mono ?_
  rintro e w2 ⟨rfl, hb2⟩
  have HR2 := Lib.hid ((hb2.block _ (by omega)).trans HRES)
  have HB3 := Lib.hid (HB2.out.trans (hb2.mono HB2.out.size))
  replace a1 := (hb2.cell (World.block_lt_of_cell? _ _ a1)).trans a1
  replace a2 := (hb2.cell (World.block_lt_of_cell? _ _ a2)).trans a2
  replace a3 := (hb2.cell (World.block_lt_of_cell? _ _ a3)).trans a3
  replace hcap := (hb2.cell (World.block_lt_of_cell? _ _ hcap)).trans hcap
  have hs2 : q + 3 ≤ w2.heap.size := by have := hb2.size; omega
  have hM2 := Lib.hid (MadeX.below hMx.out hb2)
  have hA2 := Lib.hid (hAx.out.below hb2)
  clear hb2 HSK hww hAx hMx HRES
  rcases hget : Tb.get l K with _ | u
  · have HGT := Lib.hid hget
    clear hget
    simp only [Option.isSome]
    obtain ⟨p, hp⟩ : ∃ p, pos l K = p := ⟨_, rfl⟩
    rw [hp]
    have HPP := Lib.hid (show (lo l K).length = p from hp)
    clear hp
    by_cases hfull : cap ≤ N
    · have hcn : (N : Int) = (cap : Int) := by omega
      obtain ⟨r0, f0, r1, f1, r2, f2⟩ := res_cells HR2.out
      go_wp2
      have es : s = (l, 9, 0) := by rw [← HS.out]; unfold addU; rw [HGT.out, if_pos (by rw [HNL.out]; exact hfull)]
      refine bodyPost_ret (v := .tuple #[.slice A N d, .agg #[.int .i64 9, .int .u32 0, .slice none 0 0]]) ?_ rfl ⟨.slice A N d, ?_, ?_, ?_⟩
      · simp [results, Tryd.results36, go_sem, r0, r1, r2]
      · rw [es]; rfl
      · rw [es]; exact made_stored3 hM2.out (made_ne hM2.out HR2.out (by decide)) _ _ _
      · have hq := HQ.out
        exact grown_set (grown_set (grown_set (grown_below HB3.out _) (by omega) _ _) (by omega) _ _) (by omega) _ _
    · have hcn : ¬ (N : Int) = (cap : Int) := by omega
      have HEL := Lib.hid (up_miss HC.out.1 HGT.out)
      go_wp2_with fail
      refine (HKY.out w2).mono ?_
      rintro e w1 ⟨rfl, hw1⟩
      cases hw1
      go_wp2_with (go_at_call 58
                   have hins := insert_any _ B (by have := HQ.out; simp; omega) _ (lo l K) (hi l K) (K, V) (by rw [← HEL.out, HNL.out]; omega) (by rw [← HEL.out]; exact hM2.out.alloc (.cells #[.int .u64 (K : Nat), .int .u64 (V : Nat)] 83)) w2.heap.size (fun e => by have := HOV.out _ e; have := HQ.out; omega) (heap_alloc_new _ _)
                   rw [HPP.out] at hins
                   refine hins.mono ?_
                   rintro e w4 ⟨u, rfl, hM4, hg4⟩
                   have HR4 := Lib.hid ((hg4.block (q + 1 + 1) (by simp; omega) (fun e => by have := HOV.out _ e.symm; have := HQ.out; omega)).trans ((heap_alloc_old w2 _ (by omega)).trans HR2.out))
                   obtain ⟨r0, f0, r1, f1, r2, f2⟩ := res_cells HR4.out
                   have HM4 := Lib.hid hM4
                   clear hM4)
      have es : s = (put l K V, 0, 0) := by rw [← HS.out]; unfold addU; rw [HGT.out, if_neg (by rw [HNL.out]; exact hfull)]
      have hb3 := (grown_trans (grown_below (HB3.out.trans ((below_one w2 _).mono HB3.out.size)) _) hg4)
      refine bodyPost_ret (v := .tuple #[u, .agg #[.int .i64 0, .int .u32 0, .slice none 0 0]]) ?_ rfl ⟨u, ?_, ?_, ?_⟩
      · simp [results, Tryd.results36, go_sem, r0, r1, r2]
      · rw [es]; rfl
      · rw [es]; exact made_stored3 HM4.out (made_ne HM4.out HR4.out (by decide)) _ _ _
      · have hq := HQ.out
        exact grown_set (grown_set (grown_set hb3 (by omega) _ _) (by omega) _ _) (by omega) _ _
  · have HGT := Lib.hid hget
    clear hget
    simp only [Option.isSome]
    have HIT := Lib.hid (up_there HC.out.1 HGT.out)
    obtain ⟨hpl, hlp⟩ := there_at HIT.out.1
    have hp : pos l K = (lo l K).length := rfl
    rw [hp]
    have hhop : u ≤ 2147483647 := HC.out.2 (K, u) (by rw [← hlp]; exact List.getElem_mem hpl)
    obtain ⟨p, hpp⟩ : ∃ p, (lo l K).length = p := ⟨_, rfl⟩
    obtain ⟨bk, off, eA, x0, x1⟩ := hA2.out.row hpl
    rw [hlp] at x0 x1
    rw [hpp] at x0 x1 ⊢
    have hpN : p < N := by rw [← hpp, ← HNL.out]; exact hpl
    have HPP := Lib.hid hpp
    obtain ⟨gA, rfl, hgA, hgB⟩ : ∃ gA, A = some ⟨gA, 0, none⟩ ∧ (∀ o, w2.frozen? ⟨gA, o, none⟩ = false) ∧ gA < q := by
      rcases (show _ from hM2.out).2 with ⟨h, _⟩ | ⟨g', cap', cur', h, _, h3, _⟩
      · injection h with h; rw [eA] at h; cases h
      · injection h with h
        exact ⟨g', h, (alloc_shape h3).2, by rw [← HQ.out]; exact HOV.out g' (by rw [h]; rfl)⟩
    injection eA with eA
    injection eA with e1 e2 _
    subst e1 e2
    clear hp hpp hpl hlp
    have i1 : (0 : Int) ≤ (p : Int) := by omega
    have i2 : (p : Int) < (N : Int) := by omega
    have huw : IntKind.u32.wrap (u : Int) = (u : Int) := by rw [IntKind.wrap_u32]; omega
    have es : s = (put l K V, 0, (u : Int)) := by rw [← HS.out]; unfold addU; rw [HGT.out]
    have ES := Lib.hid es
    clear es
    rw [Nat.zero_add] at x0 x1
    have fz1 := hgA (p * 2 + 1)
    have hgq : gA < w2.heap.size := by omega
    have hq2 : q + 1 + 1 < w2.heap.size := by omega
    have HR3 := Lib.hid ((Below.heap_setCell w2 ⟨gA, p * 2 + 1, none⟩ (.int .u64 (V : Nat)) (q + 1 + 1) (by simp; omega)).trans HR2.out)
    obtain ⟨r0, f0, r1, f1, r2, f2⟩ := res_cells HR3.out
    go_wp2
    have hb4 := grown_below HB3.out (some gA)
    have hm2 : MadeX w2 B 83 2 rowL (.slice (some ⟨gA, 0, none⟩) N d) (lo l K ++ (K, u) :: hi l K) := by rw [← HIT.out.1]; exact hM2.out
    have hmt := made_turned1 (v := V) (by rw [← HIT.out.1]; exact HNL.out) hm2
    rw [HPP.out] at hmt
    have hm3 := hmt
    refine bodyPost_ret (v := .tuple #[.slice (some ⟨gA, 0, none⟩) N d, .agg #[.int .i64 0, .int .u32 u, .slice none 0 0]]) ?_ rfl ⟨.slice (some ⟨gA, 0, none⟩) N d, ?_, ?_, ?_⟩
    · simp [results, Tryd.results36, go_sem, r0, r1, r2]
    · rw [ES.out]; rfl
    · rw [ES.out]; exact made_stored3 hm3 (made_ne hm3 HR3.out (by decide)) _ _ _
    · have hq := HQ.out
      refine grown_set (grown_set (grown_set ?_ (by omega) _ _) (by omega) _ _) (by omega) _ _
      have h5 : w2.grownBy (w2.setCell ⟨gA, p * 2 + 1, none⟩ (.int .u64 (V : Nat))) (some gA) := ⟨rfl, rfl, rfl, by simp [World.setCell], fun i hi hne => Below.heap_setCell _ ⟨gA, _, none⟩ _ i (fun e => hne (by rw [e]))⟩
      exact grown_trans hb4 h5
end Go.Proofs.YtljhcegkekdjgaaDoor

namespace Go.Proofs.YtljhcegkekdjgaaDoor
open Go.RowKit Go.Lib Tb Pt Opn

/-- What a drop does. -/
def dropU (l : List R) (k : Nat) : List R × Int × Int := match Tb.get l k with
  | some u => (cut l k, 0, ((u : Nat) : Int))
  | none => (l, 6, 0)

set_option maxHeartbeats 4000000 in
set_option maxRecDepth 100000 in
theorem udrop_any (o : O) (ho : Wf o) (w : World) (B : Nat) (v : Value) (l : List R) (hl : l.length ≤ 100000) (hu : Up l) (hhop : ∀ x ∈ l, x.2 ≤ 2147483647) (hm : MadeX w B 83 2 rowL v l) :
    Calls Tryd.prog 37 #[v, opv o] w (Own4 (dropU l (keyU o)) B w v) := by
  have HM := Lib.hid hm
  obtain ⟨A, d, rfl, ⟨hd1, hd2⟩, hAn, hA⟩ := hm.form rowL_len
  have HSK := Lib.hid (fun W hA => useek_any A l d (by omega) hu o ho W hA)
  obtain ⟨K, hK⟩ : ∃ K, keyU o = K := ⟨_, rfl⟩
  rw [hK] at HSK ⊢
  obtain ⟨s, hs⟩ : ∃ s, dropU l K = s := ⟨_, rfl⟩
  rw [hs]
  have HS := Lib.hid hs
  have HC := Lib.hid (And.intro hu hhop)
  have HAA := Lib.hid hA
  obtain ⟨N, hN⟩ : ∃ N, l.length = N := ⟨_, rfl⟩
  have HNL := Lib.hid hN
  rw [hN] at hl hd1 HM HSK ⊢
  have hov : ∀ b, (Value.slice A N d).ownBlock = some b → b < w.heap.size := fun b hb => (MadeX.lt HM.out b (by rw [hN] at *; exact hb)).2
  have HOV := Lib.hid hov
  clear hs hu hhop hAn hA hm hN hov hK
  unfold opv at *
  obtain ⟨W, hW⟩ : ∃ W, W = (w.alloc (.cells #[.int .u8 (o.k : Nat), .int .u32 (o.a : Nat), .int .u32 (o.b : Nat), .int .u32 (o.c : Nat)] 46)).alloc (.cells #[.int .i64 0, .int .u32 0, .slice none 0 0] 58) := ⟨_, rfl⟩
  have HRES : W.heap[w.heap.size + 1]? = some (.cells #[.int .i64 0, .int .u32 0, .slice none 0 0] 58 (0, 0)) := by
    rw [hW]
    exact heap_alloc_new (w.alloc (.cells #[.int .u8 (o.k : Nat), .int .u32 (o.a : Nat), .int .u32 (o.b : Nat), .int .u32 (o.c : Nat)] 46)) _ |> fun h => by simpa using h
  have hbW : Below w.heap.size w W := by rw [hW]; exact below_two _ _ _
  have hww : W.heap.size = w.heap.size + 2 := by rw [hW]; simp
  have HW := Lib.hid hW
  have mixed : Tryd.prog.follows Departure.mixedOrders = true := by kernel_rfl
  go_enter Tryd.func37, Tryd.ntmps37
  go_wp2_with fail
  rw [← HW.out]
  obtain ⟨q, hq⟩ : ∃ q, w.heap.size = q := ⟨_, rfl⟩
  have HQ := Lib.hid hq
  rw [hq] at HRES hww ⊢
  have hAx := Lib.hid (HAA.out.below hbW)
  have hMx := Lib.hid (MadeX.below HM.out hbW)
  have HBW := Lib.hid hbW
  clear hW hq hbW HW
  refine (HSK.out W hAx.out).mono ?_
  rintro e w2 ⟨rfl, hb2⟩
  have hs2 : q + 2 ≤ w2.heap.size := by have := hb2.size; omega
  have HR2 := Lib.hid ((hb2.block _ (by omega)).trans HRES)
  have HB2 := Lib.hid (HBW.out.trans (hb2.mono HBW.out.size))
  have hM2 := Lib.hid (MadeX.below hMx.out hb2)
  have hA2 := Lib.hid (hAx.out.below hb2)
  clear hb2 HRES hww
  rcases hget : Tb.get l K with _ | u
  · have ES := Lib.hid (show s = (l, 6, 0) by rw [← HS.out]; unfold dropU; rw [hget])
    simp only [Option.isSome]
    clear hget
    obtain ⟨r0, f0, r1, f1, r2, f2⟩ := res_cells HR2.out
    go_wp2
    have hq := HQ.out
    refine bodyPost_ret (v := .tuple #[.slice A N d, .agg #[.int .i64 6, .int .u32 0, .slice none 0 0]]) ?_ rfl ⟨.slice A N d, ?_, ?_, ?_⟩
    · simp [results, Tryd.results37, go_sem, r0, r1, r2]
    · rw [ES.out]; rfl
    · rw [ES.out]; exact made_stored3 hM2.out (made_ne hM2.out HR2.out (by decide)) _ _ _
    · exact grown_set (grown_set (grown_set (grown_below HB2.out _) (by omega) _ _) (by omega) _ _) (by omega) _ _
  · have HGT := Lib.hid hget
    have ES := Lib.hid (show s = (cut l K, 0, ((u : Nat) : Int)) by rw [← HS.out]; unfold dropU; rw [hget])
    clear hget
    simp only [Option.isSome]
    have HIT := Lib.hid (up_there HC.out.1 HGT.out)
    obtain ⟨hpl, hlp⟩ := there_at HIT.out.1
    have hp : pos l K = (lo l K).length := rfl
    rw [hp]
    have hhop : u ≤ 2147483647 := HC.out.2 (K, u) (by rw [← hlp]; exact List.getElem_mem hpl)
    obtain ⟨p, hpp⟩ : ∃ p, (lo l K).length = p := ⟨_, rfl⟩
    obtain ⟨bk, off, eA, x0, x1⟩ := hA2.out.row hpl
    rw [hlp] at x0 x1
    rw [hpp] at x0 x1 ⊢
    have hpN : p < N := by rw [← hpp, ← HNL.out]; exact hpl
    have HPP := Lib.hid hpp
    obtain ⟨gA, rfl, hgB⟩ : ∃ gA, A = some ⟨gA, 0, none⟩ ∧ gA < q := by
      rcases (show _ from hM2.out).2 with ⟨h, _⟩ | ⟨g', cap', cur', h, _, h3, _⟩
      · injection h with h; rw [eA] at h; cases h
      · injection h with h
        exact ⟨g', h, by rw [← HQ.out]; exact HOV.out g' (by rw [h]; rfl)⟩
    injection eA with eA
    injection eA with e1 e2 _
    subst e1 e2
    clear hp hpp hpl hlp
    have i1 : (0 : Int) ≤ (p : Int) := by omega
    have i2 : (p : Int) < (N : Int) := by omega
    rw [Nat.zero_add] at x0 x1
    have HD := Lib.hid (show ∀ X, MadeX X B 83 2 rowL (.slice (some ⟨gA, 0, none⟩) N d) l → Calls Tryd.prog 60 #[.slice (some ⟨gA, 0, none⟩) N d, .int .i64 p, .int .i64 ((p : Int) + 1)] X (RetI (cut l K) B X (.slice (some ⟨gA, 0, none⟩) N d)) from fun X hX => by
      have h := delete_any X B (.slice (some ⟨gA, 0, none⟩) N d) (lo l K) (hi l K) (K, u) (by rw [← HIT.out.1, HNL.out]; omega) (by rw [← HIT.out.1]; exact hX) ((p : Int) + 1) (by rw [HPP.out])
      rw [HPP.out, ← cut_eq K HC.out.1] at h
      exact h)
    have hw : IntKind.i64.wrap ((p : Int) + 1) = (p : Int) + 1 := by rw [IntKind.wrap_i64]; omega
    have huw : IntKind.u32.wrap (u : Int) = (u : Int) := by rw [IntKind.wrap_u32]; omega
    go_wp2_with fail
    refine (HD.out w2 hM2.out).mono ?_
    rintro e w5 ⟨v5, rfl, hM5, hg5⟩
    have HR5 := Lib.hid ((hg5.block (q + 1) (by omega) (own_ne (by omega))).trans HR2.out)
    obtain ⟨r0, f0, r1, f1, r2, f2⟩ := res_cells HR5.out
    have HG5 := Lib.hid (grown_trans (grown_below HB2.out _) hg5)
    have HM5 := Lib.hid hM5
    obtain ⟨A5, c5, rfl, _⟩ := MadeX.form rowL_len hM5
    obtain ⟨M, hM⟩ : ∃ M, (cut l K).length = M := ⟨_, rfl⟩
    rw [hM] at HM5 ⊢
    clear hg5 hM5 hM
    go_wp2
    have hq := HQ.out
    refine bodyPost_ret (v := .tuple #[.slice A5 M c5, .agg #[.int .i64 0, .int .u32 u, .slice none 0 0]]) ?_ rfl ⟨.slice A5 M c5, ?_, ?_, ?_⟩
    · simp [results, Tryd.results37, go_sem, r0, r1, r2]
    · rw [ES.out]; rfl
    · rw [ES.out]; exact made_stored3 HM5.out (made_ne HM5.out HR5.out (by decide)) _ _ _
    · exact grown_set (grown_set (grown_set HG5.out (by omega) _ _) (by omega) _ _) (by omega) _ _
end Go.Proofs.YtljhcegkekdjgaaDoor

namespace Go.Proofs.YtljhcegkekdjgaaDoor
open Go.RowKit Go.Shelf Tb Pt Opn
attribute [local go_sem] Oper.semAt_some

set_option maxHeartbeats 400000 in
theorem speaking_any (A : Option Addr) (N d a b : Nat) (w : World) :
    Calls Tryd.prog 61 #[.slice A N d, .int .u32 a, .int .u32 b] w fun e w' => e = .returned (.func (.func 80) #[] #[.pointer (some ⟨w.heap.size, 0, none⟩), .pointer (some ⟨w.heap.size + 1, 0, none⟩), .pointer (some ⟨w.heap.size + 1 + 1, 0, none⟩)]) ∧
      w' = ((w.alloc (.cells #[.slice A N d] 56)).alloc (.cells #[.int .u32 a] 24)).alloc (.cells #[.int .u32 b] 24) := by
  go_enter Tryd.func61, Tryd.ntmps61
  go_wp2
  go_ret
  exact ⟨rfl, rfl⟩

/-- Is a rule's who, or its what, that one, or all of them? -/
def meant (p a : Nat) : Bool := decide (p = 0 ∨ p = a)
set_option maxHeartbeats 1000000 in
theorem meant_any (p a : Nat) (ha : a < 4294967296) (w : World) : Calls Tryd.prog 81 #[.int .u64 p, .int .u32 a] w (Ret (.bool (meant p a)) w) := by
  have e1 : IntKind.u64.wrap (a : Int) = (a : Int) := by rw [IntKind.wrap_u64]; omega
  go_enter Tryd.func81, Tryd.ntmps81
  go_wp2
  all_goals
    go_ret
    refine Ret.mk (bool_eq ?_) (Below.refl _ _)
    unfold meant
    rw [Bool.eq_iff_iff]
    simp only [Bool.or_eq_true, beq_iff_eq, decide_eq_true_eq]
    (first | omega | grind)

theorem sp_meant (k a b : Nat) : sp k a b = (meant (k / 65536) a && meant (k % 65536) b) := by
  unfold sp meant
  rw [Bool.eq_iff_iff]
  simp only [Bool.and_eq_true, decide_eq_true_eq]

/-- The rules that speak of somebody. -/
def spk (l : List R) (a b : Nat) : List R := l.filter fun x => sp x.1 a b
theorem spk_take {l : List R} {a b j : Nat} (hj : j < l.length) : spk (l.take (j + 1)) a b = spk (l.take j) a b ++ (if sp l[j].1 a b = true then [l[j]] else []) := by
  unfold spk
  rw [List.take_succ_eq_append_getElem hj, List.filter_append]
  congr 1
  rw [List.filter_cons]
  rfl
theorem spk_le {l : List R} {a b j : Nat} : (spk (l.take j) a b).length ≤ (spk l a b).length := by
  unfold spk
  exact List.Sublist.length_le (List.Sublist.filter _ (List.take_sublist j l))
theorem spk_at {l : List R} {a b j : Nat} (hj : j < l.length) (hs : sp l[j].1 a b = true) : ∃ h : (spk (l.take j) a b).length < (spk l a b).length, (spk l a b)[(spk (l.take j) a b).length] = l[j] := by
  have e : spk l a b = spk (l.take j) a b ++ (l[j] :: spk (l.drop (j + 1)) a b) := by
    unfold spk
    conv => lhs; rw [← List.take_append_drop j l, List.filter_append, List.drop_eq_getElem_cons hj, List.filter_cons]
    rw [if_pos hs]
  refine ⟨by rw [e, List.length_append]; simp, ?_⟩
  simp only [e]
  rw [List.getElem_append_right (Nat.le_refl _)]
  simp

set_option maxHeartbeats 2000000 in
theorem speak_iter (n : Nat) (hn : 3 ≤ n) (A : Option Addr) (l : List R) (d : Nat) (hl : l.length ≤ 1000000) (hv : ∀ x ∈ l, RuOk x) (a b : Nat) (ha : a < 4294967296) (hb : b < 4294967296) (b0 b1 b2 : Nat) (cap : Nat → Prop) (w0 : World) (hc0 : cap b0) (hc1 : cap b1) (hc2 : cap b2) (hcA : ∀ ad, A = some ad → cap ad.block)
    (h0 : w0.cell? ⟨b0, 0, none⟩ = some (.slice A l.length d)) (h1 : w0.cell? ⟨b1, 0, none⟩ = some (.int .u32 a)) (h2 : w0.cell? ⟨b2, 0, none⟩ = some (.int .u32 b)) (h3 : IsR w0 A l) :
    IterS n Tryd.prog 80 #[.pointer (some ⟨b0, 0, none⟩), .pointer (some ⟨b1, 0, none⟩), .pointer (some ⟨b2, 0, none⟩)] cap w0 (spk l a b).length (fun _ i args _ => ∃ h : i < (spk l a b).length, args = #[.int .u32 ((spk l a b)[i].2 : Nat)]) := by
  intro lp J Jx C W hcap hC hJ hJx hY hJ0
  refine callsIn_of_wp Tryd.func80 rfl trivial ?_ rfl
  simp only [Tryd.ntmps80, List.size_toArray, List.length_cons, List.length_nil, Nat.reduceAdd, Nat.reduceSub, Array.replicate_succ, Array.replicate_zero, List.push_toArray, List.append_toArray, List.nil_append, List.cons_append]
  have hfw : ∀ f, Fence.wide.fn f := fun _ => trivial
  have hn1 : 1 ≤ n := by omega
  have HY := Lib.hid hY
  have HJ := Lib.hid hJ
  have HC := Lib.hid hC
  have g0 : W.cell? ⟨b0, 0, none⟩ = some (.slice A l.length d) := (World.cell?_of_block (hcap b0 hc0).2).trans h0
  have HK1 := Lib.hid (show ∀ X : World, (∀ q, cap q → q < X.heap.size ∧ X.heap[q]? = w0.heap[q]?) → X.cell? ⟨b1, 0, none⟩ = some (.int .u32 a) ∧ X.cell? ⟨b2, 0, none⟩ = some (.int .u32 b) from fun X hX =>
    ⟨(World.cell?_of_block (hX b1 hc1).2).trans h1, (World.cell?_of_block (hX b2 hc2).2).trans h2⟩)
  have HKA := Lib.hid (show ∀ X : World, (∀ q, cap q → q < X.heap.size ∧ X.heap[q]? = w0.heap[q]?) → IsR X A l from fun X hX i x hx => by
    obtain ⟨b, off, e, hz⟩ := h3 i x hx
    exact ⟨b, off, e, fun j u hj => (World.cell?_of_block (hX b (hcA _ e)).2).trans (hz j u hj)⟩)
  have Hcap := Lib.hid hcap
  have HJ0 := Lib.hid hJ0
  have HME := Lib.hid (fun p W => meant_any p a ha W)
  have HMF := Lib.hid (fun p W => meant_any p b hb W)
  have HV := Lib.hid hv
  obtain ⟨N, hN⟩ : ∃ N, l.length = N := ⟨_, rfl⟩
  obtain ⟨M, hM⟩ : ∃ M, (spk l a b).length = M := ⟨_, rfl⟩
  rw [hN] at hl g0
  rw [hM]
  have HNN := Lib.hid hN
  have HMM := Lib.hid hM
  clear hY hJ hC hcap hJx h0 h1 h2 h3 hJ0 hv hN hM
  gi_wp2
  gi_loopw [9] (fun i wr => ∃ j : Nat, j ≤ N ∧ i = .int .i64 j ∧ Hid (J (spk (l.take j) a b).length wr) ∧ Hid (∀ q, cap q → q < wr.heap.size ∧ wr.heap[q]? = w0.heap[q]?)) (fun i _ => N - (intOf i).toNat)
  case atStart => exact ⟨0, Nat.zero_le _, rfl, HJ0, Hcap⟩
  case round =>
    obtain ⟨j, hj, rfl, HJk, hck⟩ := hrel
    have k1 : (0 : Int) ≤ (j : Int) := by omega
    by_cases hlt : j < N
    · have k2 : (j : Int) < (N : Int) := by omega
      have hj1 : j < l.length := by rw [HNN.out]; exact hlt
      obtain ⟨bk, off, rfl, x0, x1⟩ := (HKA.out wr hck.out).row hj1
      obtain ⟨y0, y1⟩ := HK1.out wr hck.out
      have hbk1 := World.block_lt_of_cell? _ _ y0
      have hbk2 := World.block_lt_of_cell? _ _ y1
      have HLT := Lib.hid hlt
      have hok := HV.out _ (List.getElem_mem hj1)
      have HST := Lib.hid (spk_take (a := a) (b := b) hj1)
      have HAT := Lib.hid (spk_at (a := a) (b := b) hj1)
      obtain ⟨q1, e1⟩ : ∃ q, l[j].1 = q := ⟨_, rfl⟩
      obtain ⟨q2, e2⟩ : ∃ q, l[j].2 = q := ⟨_, rfl⟩
      have E := Lib.hid (Prod.ext e1 e2 : l[j] = (q1, q2))
      rw [e1] at x0
      rw [e2] at x1
      unfold RuOk at hok
      rw [e1, e2] at hok
      have hw1 : IntKind.u64.wrap ((q1 : Int) / 65536) = ((q1 / 65536 : Nat) : Int) := by rw [IntKind.wrap_u64]; omega
      have hw2 : (q1 : Int) % 65536 = ((q1 % 65536 : Nat) : Int) := by omega
      have hw3 : IntKind.u32.wrap (q2 : Int) = (q2 : Int) := by rw [IntKind.wrap_u32]; omega
      have hsp := sp_meant q1 a b
      have hme := HME.out (q1 / 65536)
      have hmf := HMF.out (q1 % 65536)
      generalize meant (q1 / 65536) a = z1 at *
      generalize meant (q1 % 65536) b = z2 at *
      have HM1 := Lib.hid hme
      have HM2 := Lib.hid hmf
      have HSP := Lib.hid hsp
      generalize q1 / 65536 = p1 at *
      generalize q1 % 65536 = p2 at *
      have HOK := Lib.hid hok
      clear e1 e2 hme hmf hsp hok
      have bw1 : Below wr.heap.size wr (wr.alloc (.cells #[.int .u64 q1, .int .u64 q2] 83)) := below_one _ _
      obtain ⟨r, hr⟩ : ∃ r, wr.heap.size = r := ⟨_, rfl⟩
      have HBR := Lib.hid hr
      have m0 : (wr.alloc (.cells #[.int .u64 q1, .int .u64 q2] 83)).cell? ⟨r, 0, none⟩ = some (.int .u64 q1) := by rw [← hr]; simp [go_sem]
      have m1 : (wr.alloc (.cells #[.int .u64 q1, .int .u64 q2] 83)).cell? ⟨r, 1, none⟩ = some (.int .u64 q2) := by rw [← hr]; simp [go_sem]
      have B1 := Lib.hid bw1
      have JK := Lib.hid (HJ.out _ _ _ HJk.out bw1)
      have cap1 : Hid (∀ q, cap q → q < (wr.alloc (.cells #[.int .u64 q1, .int .u64 q2] 83)).heap.size ∧ (wr.alloc (.cells #[.int .u64 q1, .int .u64 q2] 83)).heap[q]? = w0.heap[q]?) := Lib.hid fun q hq => by
        have := hck.out q hq
        exact ⟨Nat.lt_of_lt_of_le this.1 bw1.size, (bw1.block q this.1).trans this.2⟩
      replace y0 := (bw1.cell hbk1).trans y0
      replace y1 := (bw1.cell hbk2).trans y1
      gi_wp2_with fail
      try rw [hr]
      generalize (wr.alloc (.cells #[.int .u64 q1, .int .u64 q2] 83)) = W1 at *
      refine (callsIn_wide.2 (HM1.out W1)).mono ?_
      rintro e W2 ⟨rfl, hb2⟩
      replace y1 := (hb2.cell (World.block_lt_of_cell? _ _ y1)).trans y1
      replace m0 := (hb2.cell (World.block_lt_of_cell? _ _ m0)).trans m0
      replace m1 := (hb2.cell (World.block_lt_of_cell? _ _ m1)).trans m1
      have JK2 := Lib.hid (HJ.out _ _ _ JK.out hb2)
      have cap2 : Hid (∀ q, cap q → q < W2.heap.size ∧ W2.heap[q]? = w0.heap[q]?) := Lib.hid fun q hq => by
        have := cap1.out q hq
        exact ⟨Nat.lt_of_lt_of_le this.1 hb2.size, (hb2.block q this.1).trans this.2⟩
      clear hb2 cap1 JK bw1 B1 HJk hck x0 x1 y0 hbk1 hbk2 HBR hr
      cases z1 with
      | false =>
        have es : (spk (l.take (j + 1)) a b).length = (spk (l.take j) a b).length := by rw [HST.out, E.out, if_neg (by rw [HSP.out]; simp)]; simp
        have ES := Lib.hid es
        clear es
        gi_wp2
        go_roundw
        case rel => exact ⟨j + 1, HLT.out, by go_num, by rw [ES.out]; exact JK2, cap2⟩
        case measure => simp [intOf]; omega
      | true =>
        gi_wp2_with fail
        refine (callsIn_wide.2 (HM2.out W2)).mono ?_
        rintro e W3 ⟨rfl, hb3⟩
        replace m1 := (hb3.cell (World.block_lt_of_cell? _ _ m1)).trans m1
        have JK3 := Lib.hid (HJ.out _ _ _ JK2.out hb3)
        have cap3 : Hid (∀ q, cap q → q < W3.heap.size ∧ W3.heap[q]? = w0.heap[q]?) := Lib.hid fun q hq => by
          have := cap2.out q hq
          exact ⟨Nat.lt_of_lt_of_le this.1 hb3.size, (hb3.block q this.1).trans this.2⟩
        clear hb3 cap2 JK2
        cases z2 with
        | false =>
          have es : (spk (l.take (j + 1)) a b).length = (spk (l.take j) a b).length := by rw [HST.out, E.out, if_neg (by rw [HSP.out]; simp)]; simp
          have ES := Lib.hid es
          clear es
          gi_wp2
          go_roundw
          case rel => exact ⟨j + 1, HLT.out, by go_num, by rw [ES.out]; exact JK3, cap3⟩
          case measure => simp [intOf]; omega
        | true =>
          have es : (spk (l.take (j + 1)) a b).length = (spk (l.take j) a b).length + 1 := by rw [HST.out, E.out, if_pos (by rw [HSP.out]; rfl)]; simp
          have ES := Lib.hid es
          clear es
          obtain ⟨hlt2, hat⟩ := HAT.out (by rw [E.out, HSP.out]; rfl)
          have HLT2 := Lib.hid hlt2
          obtain ⟨fn, tmps, assign, body, hy, hR⟩ := HY.out _ #[.int .u32 q2] W3 hlt2 JK3.out ⟨hlt2, by rw [hat, E.out]⟩
          clear hat hlt2
          gi_wp2
          refine hR.mono ?_
          rintro e A3 (⟨rfl, hJ3, ho3⟩ | ⟨rfl, hJx3⟩)
          · have cap4 : Hid (∀ q, cap q → q < A3.heap.size ∧ A3.heap[q]? = w0.heap[q]?) := Lib.hid fun q hq => by
              have h := cap3.out q hq
              exact ⟨Nat.lt_of_lt_of_le h.1 ho3.size, (ho3.block q h.1 (fun hc => HC.out q hc hq)).trans h.2⟩
            gi_wp2
            go_roundw
            case rel => exact ⟨j + 1, HLT.out, by go_num, by rw [ES.out]; exact Lib.hid hJ3, cap4⟩
            case measure => simp [intOf]; omega
          · gi_wp2
            refine bodyPost_ret (results_none rfl _ _ _) rfl ?_
            exact ⟨⟨_, rfl⟩, .inr ⟨_, (by have := HLT2.out; have := HMM.out; omega), hJx3⟩⟩
    · obtain rfl : j = N := by omega
      have e : (spk (l.take j) a b).length = M := by rw [← HMM.out, List.take_of_length_le (by rw [HNN.out]; exact Nat.le_refl _)]
      gi_wp2
      go_end0
      exact ⟨⟨_, rfl⟩, .inl (by rw [← e]; exact HJk.out)⟩
end Go.Proofs.YtljhcegkekdjgaaDoor

namespace Go.Proofs.YtljhcegkekdjgaaDoor
open Go.RowKit Go.Shelf Tb Pt Opn
attribute [local go_sem] Oper.semAt_some

/-- How far nobody denies: the first i allow; what was heard so far. -/
def Heard (L : List R) (i v : Nat) : Prop := (∀ x ∈ L.take i, x.2 = 1) ∧ v = if i = 0 then 0 else 1
theorem heard_zero (L : List R) : Heard L 0 0 := ⟨fun x hx => by simp at hx, rfl⟩
theorem heard_step {L : List R} {i v : Nat} (h : Heard L i v) (hi : i < L.length) (hx : L[i].2 = 1) : Heard L (i + 1) 1 := by
  refine ⟨fun x hm => ?_, by simp⟩
  rw [List.take_succ_eq_append_getElem hi] at hm
  rcases List.mem_append.1 hm with hm | hm
  · exact h.1 x hm
  · rw [List.mem_singleton.1 hm]; exact hx
theorem heard_all {l : List R} {a b v : Nat} (hv : ∀ x ∈ l, RuOk x) (h : Heard (spk l a b) (spk l a b).length v) : says l a b = v := by
  obtain ⟨h1, h2⟩ := h
  rw [List.take_length] at h1
  obtain ⟨f1, f2, f3⟩ := says_facts hv a b
  have n2 : says l a b ≠ 2 := fun e => by
    obtain ⟨x, hx, hs, h2⟩ := f2.1 e
    have := h1 x (List.mem_filter.2 ⟨hx, hs⟩)
    omega
  by_cases e : (spk l a b).length = 0
  · rw [if_pos e] at h2
    rw [h2, f3]
    intro x hx
    have e2 := List.eq_nil_of_length_eq_zero e
    unfold spk at e2
    rw [List.filter_eq_nil_iff] at e2
    have := e2 x hx
    simpa using this
  · rw [if_neg e] at h2
    have : says l a b ≠ 0 := fun e0 => e (by
      unfold spk
      rw [List.length_eq_zero_iff, List.filter_eq_nil_iff]
      intro x hx
      rw [f3.1 e0 x hx]; simp)
    omega
theorem heard_no {l : List R} {a b i : Nat} (hv : ∀ x ∈ l, RuOk x) (hi : i < (spk l a b).length) (hx : (spk l a b)[i].2 = 2) : says l a b = 2 := by
  obtain ⟨f1, f2, f3⟩ := says_facts hv a b
  have hm := List.mem_filter.1 (List.getElem_mem hi : (spk l a b)[i] ∈ l.filter fun x => sp x.1 a b)
  exact f2.2 ⟨_, hm.1, hm.2, hx⟩

set_option maxRecDepth 100000 in
set_option maxHeartbeats 2000000 in
theorem verdict_any (A : Option Addr) (l : List R) (d : Nat) (hl : l.length ≤ 1000000) (hv : ∀ x ∈ l, RuOk x) (o : O) (ho : Wf o) (w : World) (h : IsR w A l) (hA : ∀ ad, A = some ad → ad.block < w.heap.size) :
    Calls Tryd.prog 38 #[.slice A l.length d, opv o] w (Ret (.int .u32 (says l o.a o.b : Nat)) w) := by
  have HF := Lib.hid (fun W => speaking_any A l.length d o.a o.b W)
  have HIT := Lib.hid (fun b0 b1 b2 cap w0 hc0 hc1 hc2 hcA h0 h1 h2 h3 => speak_iter 8 (by omega) A l d hl hv o.a o.b ho.2.1 ho.2.2.1 b0 b1 b2 cap w0 hc0 hc1 hc2 hcA h0 h1 h2 h3)
  have HALL := Lib.hid (fun v => heard_all (l := l) (a := o.a) (b := o.b) (v := v) hv)
  have HNO := Lib.hid (fun i => heard_no (l := l) (a := o.a) (b := o.b) (i := i) hv)
  have HVS := Lib.hid (show ∀ i (hi : i < (spk l o.a o.b).length), (spk l o.a o.b)[i].2 = 1 ∨ (spk l o.a o.b)[i].2 = 2 from fun i hi => (hv _ (List.mem_filter.1 (List.getElem_mem hi : (spk l o.a o.b)[i] ∈ l.filter fun x => sp x.1 o.a o.b)).1).2)
  have HAA := Lib.hid h
  obtain ⟨s, hs⟩ : ∃ s, says l o.a o.b = s := ⟨_, rfl⟩
  rw [hs] at HALL HNO ⊢
  clear hs hv h
  generalize spk l o.a o.b = L at *
  obtain ⟨N, hN⟩ : ∃ N, l.length = N := ⟨_, rfl⟩
  rw [hN] at HF HIT ⊢
  clear hN hl
  unfold opv
  refine (callsIn_wide (n := 9)).1 ?_
  refine callsIn_of_wp_marks Tryd.func38 rfl trivial ?_ rfl
  simp only [Tryd.ntmps38, List.size_toArray, List.length_cons, List.length_nil, Nat.reduceAdd, Nat.reduceSub, Array.replicate_succ, Array.replicate_zero, List.push_toArray, List.append_toArray, List.nil_append, List.cons_append]
  have hfw : ∀ f, Fence.wide.fn f := fun _ => trivial
  gi_wp2_with fail
  refine wpIn_scope_straight' ?_
  gi_wp2_with fail
  refine wpIn_label ?_
  obtain ⟨r, hr⟩ : ∃ r, w.heap.size = r := ⟨_, rfl⟩
  obtain ⟨W, hW⟩ : ∃ W, W = (w.alloc (.cells #[.int .u8 (o.k : Nat), .int .u32 (o.a : Nat), .int .u32 (o.b : Nat), .int .u32 (o.c : Nat)] 46)).alloc (.cells #[.int .u32 0] 24) := ⟨_, rfl⟩
  rw [← hW]
  have hz : W.heap.size = r + 2 := by rw [hW, ← hr]; simp
  have hbW : Below r w W := by rw [hW, ← hr]; exact below_two _ _ _
  have a1 : W.cell? ⟨r, 1, none⟩ = some (.int .u32 (o.a : Nat)) := by rw [hW, ← hr]; simp [go_sem]
  have a2 : W.cell? ⟨r, 2, none⟩ = some (.int .u32 (o.b : Nat)) := by rw [hW, ← hr]; simp [go_sem]
  have c1 : W.cell? ⟨r + 1, 0, none⟩ = some (.int .u32 0) := by rw [hW, ← hr]; simp [go_sem]
  have z1 : W.frozen? ⟨r + 1, 0, none⟩ = false := by rw [hW, ← hr]; simp [go_sem]
  have HR := Lib.hid hr
  have HAW := Lib.hid (HAA.out.below (by rw [hr]; exact hbW))
  have hrw : r ≤ w.heap.size := by omega
  rw [hr] at hA ⊢
  clear hW hr
  gi_wp2_with fail
  refine (callsIn_wide.2 (HF.out W)).mono ?_
  rintro e W2 ⟨rfl, hW2⟩
  rw [hz]
  have hb2 : Below (r + 2) W W2 := by rw [hW2, ← hz]; exact below_three _ _ _ _
  have hz2 : W2.heap.size = r + 5 := by rw [hW2]; simp [hz]
  have g0 : W2.cell? ⟨r + 2, 0, none⟩ = some (.slice A N d) := by rw [hW2, ← hz]; simp [go_sem]
  have g1 : W2.cell? ⟨r + 2 + 1, 0, none⟩ = some (.int .u32 (o.a : Nat)) := by rw [hW2, ← hz]; simp [go_sem]
  have g2 : W2.cell? ⟨r + 2 + 1 + 1, 0, none⟩ = some (.int .u32 (o.b : Nat)) := by rw [hW2, ← hz]; simp [go_sem]
  have hb02 : Below r w W2 := hbW.trans (hb2.mono (by omega))
  have c2 : W2.cell? ⟨r + 1, 0, none⟩ = some (.int .u32 0) := (hb2.cell (by show r + 1 < _; omega)).trans c1
  have z2 : W2.frozen? ⟨r + 1, 0, none⟩ = false := (hb2.frozen (by show r + 1 < _; omega)).trans z1
  have hit := HIT.out (r + 2) (r + 2 + 1) (r + 2 + 1 + 1) (fun k => k = r + 2 ∨ k = r + 3 ∨ k = r + 4 ∨ ∃ ad, A = some ad ∧ k = ad.block) W2 (.inl rfl) (.inr (.inl rfl)) (.inr (.inr (.inl rfl))) (fun ad e => .inr (.inr (.inr ⟨ad, e, rfl⟩))) g0 g1 g2 (HAW.out.below (by rw [hz]; exact hb2))
  clear hW2 g0 g1 g2 a1 a2 c1 z1 HIT HF hb2 hbW
  gi_wp2_with fail
  refine wpIn_rangeS (gf := 80) (lb := #[.pointer (some ⟨r + 2, 0, none⟩), .pointer (some ⟨r + 2 + 1, 0, none⟩), .pointer (some ⟨r + 2 + 1 + 1, 0, none⟩)]) rfl (enters_of Tryd.func80 (by kernel_rfl) rfl)
    hit ?hcap ?hps (fun k => k = r + 1) ?hC
    (fun i X => ∃ v : Nat, X.cell? ⟨r + 1, 0, none⟩ = some (.int .u32 v) ∧ X.frozen? ⟨r + 1, 0, none⟩ = false ∧ Hid (Heard L i v) ∧ Below r w X)
    (fun c _ X => c = .exit 0 ∧ Hid (s = 2) ∧ X.cell? ⟨r + 1, 0, none⟩ = some (.int .u32 2) ∧ Below r w X) ?hI ?hIx ?h0 ?round ?done ?stop
  case hcap =>
    rintro k (rfl | rfl | rfl | ⟨ad, e, rfl⟩)
    · exact ⟨by omega, rfl⟩
    · exact ⟨by omega, rfl⟩
    · exact ⟨by omega, rfl⟩
    · exact ⟨by have := hA ad e; omega, rfl⟩
  case hps => rintro B i args X ⟨_, rfl⟩; rfl
  case hC =>
    rintro k rfl
    refine ⟨?_, by omega, by omega⟩
    rintro (h | h | h | ⟨ad, e, h⟩)
    · omega
    · omega
    · omega
    · have := hA ad e; omega
  case hI =>
    rintro i X X' ⟨v, h2, h3, h4, h5⟩ ho
    exact ⟨v, ho.cell h2 (by show ¬ (_ ∧ _); simp only; omega), (ho.frozen (World.block_lt_of_cell? _ _ h2) (by show ¬ (_ ∧ _); simp only; omega)).trans h3, h4, Only.then_below (by omega) h5 ho (by omega)⟩
  case hIx =>
    rintro c i X X' ⟨h0, h1, h2, h5⟩ ho
    exact ⟨h0, h1, ho.cell h2 (by show ¬ (_ ∧ _); simp only; omega), Only.then_below (by omega) h5 ho (by omega)⟩
  case h0 => exact ⟨0, c2, z2, Lib.hid (heard_zero L), hb02⟩
  case round =>
    rintro lp i args X hi ⟨v, hv, hz1, HH, hbX⟩ ⟨hiL, rfl⟩ hlt
    have HST := Lib.hid (heard_step HH.out hiL)
    have HNI := Lib.hid (HNO.out i hiL)
    have hcase := HVS.out i hiL
    generalize L[i].2 = q at *
    have hX := World.block_lt_of_cell? _ _ hv
    clear c2 z2 hit HVS HALL HNO HAW HAA HH
    rcases hcase with rfl | rfl
    · gi_wp2
      refine ⟨Only.refl _ X, fun W₂ ho => ?_⟩
      have k2 : W₂.cell? ⟨r + 1, 0, none⟩ = some (.int .u32 v) := ho.cell hv (by simp only; omega)
      have k3 : W₂.frozen? ⟨r + 1, 0, none⟩ = false := (ho.frozen hX (by simp only; omega)).trans hz1
      have hb3 : Below r w W₂ := Only.then_below (by omega) hbX ho (by omega)
      clear ho
      gi_wp2
      refine ⟨(Only.refl (fun k => k = r + 1) W₂).setCell (p := ⟨r + 1, 0, none⟩) (.inl rfl) _, 1, ?_, ?_, Lib.hid (HST.out trivial), ?_⟩
      · exact World.cell?_setCell_same' _ _ _ (by rw [k2]; rfl)
      · simp [go_sem, k3]
      · exact hb3.setCell (by simp) _
    · gi_wp2
      refine ⟨Only.refl _ X, fun W₂ ho => ?_⟩
      have k2 : W₂.cell? ⟨r + 1, 0, none⟩ = some (.int .u32 v) := ho.cell hv (by simp only; omega)
      have k3 : W₂.frozen? ⟨r + 1, 0, none⟩ = false := (ho.frozen hX (by simp only; omega)).trans hz1
      have hb3 : Below r w W₂ := Only.then_below (by omega) hbX ho (by omega)
      clear ho
      gi_wp2
      refine ⟨(Only.refl (fun k => k = r + 1) W₂).setCell (p := ⟨r + 1, 0, none⟩) (.inl rfl) _, rfl, Lib.hid (HNI.out trivial), ?_, ?_⟩
      · exact World.cell?_setCell_same' _ _ _ (by rw [k2]; rfl)
      · exact hb3.setCell (by simp) _
  case done =>
    rintro X ⟨v, hv, hz1, HH, hbX⟩ hK
    have HK := Lib.hid hK
    have e := HALL.out v HH.out
    subst e
    clear hK c2 z2
    gi_wp2
    rw [Exit.noGoto_ret]
    refine marks_ret (v := .int .u32 s) HK.out ?_ (Ret.mk rfl ?_)
    · simp [results, Tryd.results38, go_sem]
    · rw [HR.out]; exact below_putObj hbX (by omega) _
  case stop =>
    rintro c i X hi ⟨rfl, hs, hv, hbX⟩ hK
    have HK := Lib.hid hK
    clear hK c2 z2
    gi_wp2
    rw [Exit.noGoto_ret]
    refine marks_ret (v := .int .u32 s) HK.out ?_ (Ret.mk rfl ?_)
    · rw [hs.out]; simp [results, Tryd.results38, go_sem]
    · rw [HR.out]; exact below_putObj hbX (by omega) _
end Go.Proofs.YtljhcegkekdjgaaDoor

namespace Go.Proofs.YtljhcegkekdjgaaDoor
open Go.RowKit Tb Pt Opn

set_option maxHeartbeats 1000000 in
theorem uisOf_any (c : Cf) (w : World) : Calls Tryd.prog 32 #[cfv c] w (Ret (.bool (decide (Ok c ∧ c.obj = 3))) w) := by
  have HC := Lib.hid (check_any c)
  have e : decide (Ok c ∧ c.obj = 3) = (okB c && decide (c.obj = 3)) := by unfold okB; rw [Bool.eq_iff_iff]; simp
  rw [e]
  clear e
  generalize okB c = k at *
  unfold cfv at *
  go_enter Tryd.func32, Tryd.ntmps32
  go_wp2_with (go_at_call 53; refine (HC.out _).mono ?_; rintro e w1 ⟨rfl, hb1⟩; obtain ⟨hc1, hf1⟩ := bcell hb1)
  all_goals go_ret
  all_goals refine Ret.mk (bool_eq ?_) (below_b1 hb1)
  · rename_i h
    cases k with
    | true => rw [Bool.eq_iff_iff]; simp
    | false => exact absurd h (by decide)
  · rename_i h
    cases k with
    | true => exact absurd rfl h
    | false => rfl

/-- How far rows are good: the first j, and the least key that may come next. -/
def GoodU (l : List R) (j a : Nat) : Prop := Up (l.take j) ∧ (∀ x ∈ l.take j, RuOk x ∧ x.1 < a) ∧ (a = 0 ∨ ∃ x ∈ l.take j, x.1 + 1 = a)
theorem goodU_zero (l : List R) : GoodU l 0 0 := ⟨List.Pairwise.nil, fun x hx => by simp at hx, .inl rfl⟩
theorem take_snocU {l : List R} {j : Nat} (hj : j < l.length) : l.take (j + 1) = l.take j ++ [l[j]] := by rw [List.take_succ_eq_append_getElem hj]
theorem goodU_step {l : List R} {j a : Nat} (h : GoodU l j a) (hj : j < l.length) (h1 : a ≤ l[j].1) (h2 : l[j].1 < 4294967296) (h3 : l[j].2 = 1 ∨ l[j].2 = 2) : GoodU l (j + 1) (l[j].1 + 1) := by
  obtain ⟨g1, g2, g3⟩ := h
  unfold GoodU
  rw [take_snocU hj]
  refine ⟨?_, fun x hx => ?_, .inr ⟨l[j], List.mem_append_right _ (List.mem_singleton.2 rfl), rfl⟩⟩
  · unfold Up
    rw [List.pairwise_append]
    exact ⟨g1, List.pairwise_singleton _ _, fun x hx y hy => by rw [List.mem_singleton.1 hy]; exact Nat.lt_of_lt_of_le (g2 x hx).2 h1⟩
  · rcases List.mem_append.1 hx with hx | hx
    · exact ⟨(g2 x hx).1, by have := (g2 x hx).2; omega⟩
    · rw [List.mem_singleton.1 hx]; exact ⟨⟨h2, h3⟩, Nat.lt_succ_self _⟩
theorem goodU_not {l : List R} {j a : Nat} (h : GoodU l j a) (hj : j < l.length) (h1 : ¬ (a ≤ l[j].1 ∧ l[j].1 < 4294967296 ∧ (l[j].2 = 1 ∨ l[j].2 = 2))) : ¬ (Up l ∧ ∀ x ∈ l, RuOk x) := fun ⟨hu, hr⟩ => by
  obtain ⟨g1, g2, g3⟩ := h
  obtain ⟨r1, r2⟩ := hr _ (List.getElem_mem hj)
  refine h1 ⟨?_, r1, r2⟩
  rcases g3 with rfl | ⟨x, hx, rfl⟩
  · omega
  · obtain ⟨m, hm, rfl⟩ := List.getElem_of_mem hx
    rw [List.length_take] at hm
    rw [List.getElem_take]
    exact up_lt hu (by omega) hj
theorem goodU_all {l : List R} {a : Nat} (h : GoodU l l.length a) : Up l ∧ ∀ x ∈ l, RuOk x := by
  obtain ⟨g1, g2, _⟩ := h
  rw [List.take_length] at g1 g2
  exact ⟨g1, fun x hx => (g2 x hx).1⟩

set_option maxHeartbeats 1000000 in
theorem said_any (v : Nat) (w : World) : Calls Tryd.prog 54 #[.int .u64 v] w (Ret (.bool (decide (v = 1 ∨ v = 2))) w) := by
  go_enter Tryd.func54, Tryd.ntmps54
  go_wp2
  all_goals
    go_ret
    refine Ret.mk (bool_eq ?_) (Below.refl _ _)
    rw [Bool.eq_iff_iff]
    simp only [Bool.or_eq_true, beq_iff_eq, decide_eq_true_eq]
    (first | omega | grind)

set_option maxHeartbeats 4000000 in
set_option maxRecDepth 100000 in
theorem uare_any (c : Cf) (A : Option Addr) (l : List R) (d : Nat) (hl : l.length ≤ 1000000) (w : World) (h : IsR w A l) :
    Calls Tryd.prog 33 #[cfv c, .slice A l.length d] w (Ret (.bool (decide ((l.length : Int) ≤ c.cap ∧ Up l ∧ ∀ x ∈ l, RuOk x))) w) := by
  have HA := Lib.hid h
  clear h
  obtain ⟨N, hN⟩ : ∃ N, l.length = N := ⟨_, rfl⟩
  rw [hN] at hl ⊢
  have HN := Lib.hid hN
  clear hN
  unfold cfv
  by_cases hcap : (N : Int) ≤ c.cap
  · obtain ⟨u, hu⟩ : ∃ u, decide ((N : Int) ≤ c.cap ∧ Up l ∧ ∀ x ∈ l, RuOk x) = u := ⟨_, rfl⟩
    rw [hu]
    have HU := Lib.hid hu
    clear hu
    have hc2 : ¬ c.cap < (N : Int) := by omega
    go_enter Tryd.func33, Tryd.ntmps33
    go_wp2
    obtain ⟨W, hW⟩ : ∃ W, W = w.alloc (.cells #[.int .u8 c.obj, .int .i64 c.inst, .int .i64 c.thr, .int .u8 c.kind, .int .i64 c.str, .int .i64 c.bits, .int .i64 c.cap, .int .i64 c.node, .int .i64 c.bat, .int .i64 c.chunk, .int .u64 c.lim, .int .u64 c.most] 30) := ⟨_, rfl⟩
    have hb2 : Below w.heap.size w W := by rw [hW]; exact below_one _ _
    rw [← hW]
    have HA := Lib.hid (HA.out.below hb2)
    clear hW
    go_loopw [5, 15] (fun av iv wr => Below W.heap.size W wr ∧ ∃ a j : Nat, j ≤ N ∧ a ≤ 4294967296 ∧ av = .int .u64 a ∧ iv = .int .i64 j ∧ Hid (GoodU l j a)) (fun _ i _ => N - (intOf i).toNat)
    case atStart => exact ⟨Below.refl _ _, 0, 0, Nat.zero_le _, by omega, rfl, rfl, Lib.hid (goodU_zero l)⟩
    case round =>
      obtain ⟨hbr, a, j, hj, ha, rfl, rfl, HG⟩ := hrel
      have i1 : (0 : Int) ≤ (j : Int) := by omega
      by_cases hlt : j < N
      · have j1 : j < l.length := by rw [HN.out]; exact hlt
        have i2 : (j : Int) < (N : Int) := by omega
        obtain ⟨bk, off, rfl, h1, h2⟩ := HA.out.row j1
        replace h1 := (hbr.cell (World.block_lt_of_cell? _ _ h1)).trans h1
        replace h2 := (hbr.cell (World.block_lt_of_cell? _ _ h2)).trans h2
        have hs := goodU_step HG.out j1
        have hf := goodU_not HG.out j1
        obtain ⟨x, hx⟩ : ∃ x, (l[j]'j1).1 = x := ⟨_, rfl⟩
        obtain ⟨y, hy⟩ : ∃ y, (l[j]'j1).2 = y := ⟨_, rfl⟩
        rw [hx] at h1 hs hf
        rw [hy] at h2 hs hf
        have HS := Lib.hid hs
        have HF := Lib.hid hf
        clear hs hf hx hy
        have HSD := Lib.hid (said_any y)
        obtain ⟨z, hz⟩ : ∃ z, decide (y = 1 ∨ y = 2) = z := ⟨_, rfl⟩
        rw [hz] at HSD
        have HZ := Lib.hid hz
        clear hz
        by_cases hg : a ≤ x ∧ x < 4294967296 ∧ z = true
        · obtain ⟨g1, g2, rfl⟩ := hg
          have k1 : ¬ (x : Int) < (a : Int) := by omega
          have k2 : ¬ (x : Int) ≥ 4294967296 := by omega
          have k4 : IntKind.u64.wrap ((x : Int) + 1) = ((x + 1 : Nat) : Int) := by rw [IntKind.wrap_u64]; omega
          go_wp2_with (go_at_call 54; refine (HSD.out _).mono ?_; rintro e w2 ⟨rfl, hb2⟩; obtain ⟨hc2, hf2⟩ := bcell hb2)
          go_roundw
          case rel => exact ⟨below_then (below_then hbr (below_one _ _)) hb2, x + 1, j + 1, by omega, by omega, by first | rfl | exact congrArg (Value.int .u64) k4 | exact congrArg (Value.int .u64) (by omega), by go_num, Lib.hid (HS.out g1 g2 (of_decide_eq_true HZ.out))⟩
          case measure => simp [intOf]; omega
        · have e : u = false := by
            rw [← HU.out]; exact decide_eq_false fun g => HF.out (fun g' => hg ⟨g'.1, g'.2.1, by rw [← HZ.out]; exact decide_eq_true g'.2.2⟩) g.2
          subst e
          rcases (by cases z <;> simp at hg ⊢ <;> omega : x < a ∨ (¬ x < a ∧ 4294967296 ≤ x) ∨ (¬ x < a ∧ ¬ 4294967296 ≤ x ∧ z = false)) with k1 | ⟨k1, k2⟩ | ⟨k1, k2, rfl⟩
          · have k1 : (x : Int) < (a : Int) := by omega
            go_wp2
            go_ret
            exact Ret.mk rfl (hb2.trans ((hbr.trans ((below_one _ _).mono hbr.size)).mono hb2.size))
          · have k1 : ¬ (x : Int) < (a : Int) := by omega
            have k2 : (x : Int) ≥ 4294967296 := by omega
            go_wp2
            go_ret
            exact Ret.mk rfl (hb2.trans ((hbr.trans ((below_one _ _).mono hbr.size)).mono hb2.size))
          · have k1 : ¬ (x : Int) < (a : Int) := by omega
            have k2 : ¬ (x : Int) ≥ 4294967296 := by omega
            go_wp2_with (go_at_call 54; refine (HSD.out _).mono ?_; rintro e w3 ⟨rfl, hb3⟩; obtain ⟨hc2, hf2⟩ := bcell hb3)
            go_ret
            exact Ret.mk rfl (hb2.trans ((below_then (below_then hbr (below_one _ _)) hb3).mono hb2.size))
      · obtain rfl : j = N := by omega
        have e : u = true := by
          rw [← HU.out]
          have := goodU_all (by rw [HN.out]; exact HG.out)
          exact decide_eq_true ⟨hcap, this⟩
        subst e
        go_wp2
        go_ret
        exact Ret.mk rfl (hb2.trans (hbr.mono hb2.size))
  · rw [decide_eq_false (fun g => hcap g.1)]
    have hc2 : c.cap < (N : Int) := by omega
    go_enter Tryd.func33, Tryd.ntmps33
    go_wp2
    go_ret
    exact Ret.mk rfl (below_one _ _)

set_option maxHeartbeats 1000000 in
theorem uIs_any (c : Cf) (A : Option Addr) (l : List R) (d : Nat) (hl : l.length ≤ 1000000) (_ : ∀ x ∈ l, x.1 < 18446744073709551616) (w : World) (h : IsR w A l) :
    Calls Tryd.prog 17 #[cfv c, .slice A l.length d] w (Ret (.bool (ruB c l)) w) := by
  have HI := Lib.hid (uisOf_any c)
  have HA := Lib.hid h
  by_cases hg : Ok c ∧ c.obj = 3
  · have HR := Lib.hid (fun W hA => uare_any c A l d hl W hA)
    have e : ruB c l = decide ((l.length : Int) ≤ c.cap ∧ Up l ∧ ∀ x ∈ l, RuOk x) := by
      unfold ruB; rw [Bool.eq_iff_iff, decide_eq_true_iff, decide_eq_true_iff]; unfold IsRu
      exact ⟨fun g => g.2.2, fun g => ⟨hg.1, hg.2, g⟩⟩
    rw [← e] at HR
    rw [decide_eq_true hg] at HI
    clear e hg h
    generalize ruB c l = u at *
    generalize l.length = N at *
    unfold cfv at *
    go_enter Tryd.func17, Tryd.ntmps17
    go_wp2_with (first
      | (go_at_call 32; refine (HI.out _).mono ?_; rintro e w1 ⟨rfl, hb1⟩; obtain ⟨hc1, hf1⟩ := bcell hb1)
      | (go_at_call 33; refine (HR.out _ (HA.out.below (below_b1 hb1))).mono ?_; rintro e w2 ⟨rfl, hb2⟩))
    go_ret
    exact Ret.mk rfl (below_then (below_b1 hb1) hb2)
  · have e : ruB c l = false := ruB_false fun k => hg ⟨k.1, k.2.1⟩
    rw [e]
    rw [decide_eq_false hg] at HI
    clear e hg
    generalize l.length = N at *
    unfold cfv at *
    go_enter Tryd.func17, Tryd.ntmps17
    go_wp2_with (go_at_call 32; refine (HI.out _).mono ?_; rintro e w1 ⟨rfl, hb1⟩)
    go_ret
    exact Ret.mk rfl (below_b1 hb1)
end Go.Proofs.YtljhcegkekdjgaaDoor

namespace Go.Proofs.YtljhcegkekdjgaaDoor
open Go.RowKit Go.Lib Tb Pt Opn

set_option maxRecDepth 100000 in
set_option maxHeartbeats 4000000 in
theorem udo_conf (c : Cf) (A : Option Addr) (N d : Nat) (o : O) (hno : ¬ (Ok c ∧ c.obj = 3)) (w : World) :
    Calls Tryd.prog 18 #[cfv c, .slice A N d, opv o] w (Did4 ([], 0, 0) 40 w) := by
  have HM := Lib.hid (uisOf_any c)
  rw [decide_eq_false hno] at HM
  clear hno
  unfold cfv opv at *
  go_enter Tryd.func18, Tryd.ntmps18
  go_wp2_with (go_at_call 32; refine (HM.out _).mono ?_; rintro e w1 ⟨rfl, hb1⟩; obtain ⟨hc1, hf1⟩ := bcell hb1)
  refine bodyPost_ret (v := .tuple #[.slice none 0 0, .agg #[.int .i64 0, .int .u32 0, .slice none 0 0], .int .i64 40]) ?_ rfl ⟨_, rfl, MadeX.nil _ _ _ _ _, ?_⟩
  · simp [results, Tryd.results18, go_sem, hc1]
  · exact (((below_then (below_three _ _ _ _) hb1).setCell (by simp; omega) _).setCell (by simp; omega) _).setCell (by simp; omega) _

set_option maxRecDepth 100000 in
set_option maxHeartbeats 4000000 in
theorem udo_arg (c : Cf) (A : Option Addr) (l : List R) (d : Nat) (o : O) (hl : l.length ≤ 1000000) (hg : Ok c ∧ c.obj = 3) (hno : ¬ IsRu c l) (w : World) (h : IsR w A l) :
    Calls Tryd.prog 18 #[cfv c, .slice A l.length d, opv o] w (Did4 ([], 0, 0) 2 w) := by
  have HM := Lib.hid (uisOf_any c)
  rw [decide_eq_true hg] at HM
  have HR := Lib.hid (fun W hA => uare_any c A l d hl W hA)
  have e : decide ((l.length : Int) ≤ c.cap ∧ Up l ∧ ∀ x ∈ l, RuOk x) = false := decide_eq_false fun g => hno ⟨hg.1, hg.2, g.1, g.2.1, g.2.2⟩
  rw [e] at HR
  have HA := Lib.hid h
  clear e hg hno h
  generalize l.length = N at *
  unfold cfv opv at *
  go_enter Tryd.func18, Tryd.ntmps18
  go_wp2_with (first
    | (go_at_call 32; refine (HM.out _).mono ?_; rintro e w1 ⟨rfl, hb1⟩; obtain ⟨hc1, hf1⟩ := bcell hb1)
    | (go_at_call 33; refine (HR.out _ (HA.out.below (below_then (below_three _ _ _ _) hb1))).mono ?_; rintro e w2 ⟨rfl, hb2⟩; replace hb1 := below_then hb1 hb2; clear hc1 hf1 hb2; obtain ⟨hc1, hf1⟩ := bcell hb1))
  refine bodyPost_ret (v := .tuple #[.slice none 0 0, .agg #[.int .i64 0, .int .u32 0, .slice none 0 0], .int .i64 2]) ?_ rfl ⟨_, rfl, MadeX.nil _ _ _ _ _, ?_⟩
  · simp [results, Tryd.results18, go_sem, hc1]
  · exact (((below_then (below_three _ _ _ _) hb1).setCell (by simp; omega) _).setCell (by simp; omega) _).setCell (by simp; omega) _

set_option maxRecDepth 100000 in
set_option maxHeartbeats 4000000 in
theorem udo_bad (c : Cf) (A : Option Addr) (l : List R) (d : Nat) (o : O) (ho : Wf o) (hAn : A = none → l.length = 0 ∧ d = 0) (hl : l.length ≤ 100000) (ht : IsRu c l) (hbad : chk c o ≠ 0) (w : World) (hp : Obs w) (h : IsR w A l) :
    Calls Tryd.prog 18 #[cfv c, .slice A l.length d, opv o] w (Did4 (l, chk c o, 0) 0 w) := by
  have HM := Lib.hid (uisOf_any c)
  have hg : Ok c ∧ c.obj = 3 := ⟨ht.1, ht.2.1⟩
  rw [decide_eq_true hg] at HM
  obtain ⟨cap, hcap⟩ : ∃ cap : Nat, c.cap = cap := by
    have hb := hg.1.2.2
    unfold RestOk at hb
    exact ⟨c.cap.toNat, by omega⟩
  have HR := Lib.hid (fun W hA => uare_any c A l d (by omega) W hA)
  have e : decide ((l.length : Int) ≤ c.cap ∧ Up l ∧ ∀ x ∈ l, RuOk x) = true := decide_eq_true ⟨ht.2.2.1, ht.2.2.2.1, ht.2.2.2.2⟩
  rw [e] at HR
  have HA := Lib.hid h
  have HCL := Lib.hid (fun W hA => clone_any A l d (by omega) hAn W hA)
  have HCK := Lib.hid (check_op c o ho)
  have HP := Lib.hid hp
  have hob := hg.2
  have hlc : l.length ≤ cap := by have := ht.2.2.1; omega
  have HV := Lib.hid (And.intro ht.2.2.2.1 (show ∀ x ∈ l, x.2 ≤ 2147483647 from fun x hx => by have := (ht.2.2.2.2 x hx).2; omega))
  have hbad2 : (chk c o != 0) = true := bne_iff_ne.2 hbad
  generalize chk c o = x at *
  clear e h ht hAn ho hp hg
  unfold cfv opv at *
  rw [hob] at HM HR HCK ⊢
  rw [hcap] at HM HR HCK ⊢
  clear hob hcap
  generalize hN : l.length = N at *
  have HNL := Lib.hid hN
  clear hN
  go_enter Tryd.func18, Tryd.ntmps18
  go_wp2_with (first
    | (go_at_call 32; refine (HM.out _).mono ?_; rintro e w1 ⟨rfl, hb1⟩; obtain ⟨hc1, hf1⟩ := bcell hb1)
    | (go_at_call 33; refine (HR.out _ (HA.out.below (below_then (below_three _ _ _ _) hb1))).mono ?_; rintro e w2 ⟨rfl, hb2⟩; replace hb1 := below_then hb1 hb2; clear hc1 hf1 hb2; obtain ⟨hc1, hf1⟩ := bcell hb1)
    | (go_at_call 34; refine (HCL.out _ (HA.out.below (below_then (below_three _ _ _ _) hb1))).mono ?_; rintro e w3 ⟨u3, rfl, hM3, hb3⟩; have hs1 := hb1.size; replace hb1 := below_then hb1 hb3; clear hc1 hf1 hb3; obtain ⟨hc1, hf1⟩ := bcell hb1; have HM3 := Lib.hid hM3; clear hM3)
    | (go_at_call 35; refine (HCK.out _ (HP.out.below (below_then (below_three _ _ _ _) hb1))).mono ?_; rintro e w4 ⟨rfl, hb4⟩; replace hb1 := below_then hb1 hb4; clear hc1 hf1; obtain ⟨hc1, hf1⟩ := bcell hb1))
  have HM4 := Lib.hid (HM3.out.below hb4)
  have hne : u3.ownBlock ≠ some (w.heap.size + 1 + 1) := fun e => by
    have := (MadeX.lt HM3.out _ e).1
    simp at hs1; omega
  refine bodyPost_ret (v := .tuple #[u3, .agg #[.int .i64 x, .int .u32 0, .slice none 0 0], .int .i64 0]) ?_ rfl ⟨_, rfl, ?_, ?_⟩
  · simp [results, Tryd.results18, go_sem, hc1]
  · exact made_stored3 (MadeX.down HM4.out (by simp at hs1; omega)) hne _ _ _
  · exact (((below_then (below_three _ _ _ _) hb1).setCell (by simp; omega) _).setCell (by simp; omega) _).setCell (by simp; omega) _

set_option maxRecDepth 100000 in
set_option maxHeartbeats 4000000 in
theorem udo_add (c : Cf) (A : Option Addr) (l : List R) (d : Nat) (o : O) (ho : Wf o) (hAn : A = none → l.length = 0 ∧ d = 0) (hl : l.length ≤ 100000) (ht : IsRu c l) (hk : o.k = 9) (hgood : chk c o = 0) (w : World) (hp : Obs w) (h : IsR w A l) :
    Calls Tryd.prog 18 #[cfv c, .slice A l.length d, opv o] w (Did4 (addU c.cap.toNat l (keyU o) o.c) 0 w) := by
  have HM := Lib.hid (uisOf_any c)
  have hg : Ok c ∧ c.obj = 3 := ⟨ht.1, ht.2.1⟩
  rw [decide_eq_true hg] at HM
  obtain ⟨cap, hcap⟩ : ∃ cap : Nat, c.cap = cap := by
    have hb := hg.1.2.2
    unfold RestOk at hb
    exact ⟨c.cap.toNat, by omega⟩
  have HR := Lib.hid (fun W hA => uare_any c A l d (by omega) W hA)
  have e : decide ((l.length : Int) ≤ c.cap ∧ Up l ∧ ∀ x ∈ l, RuOk x) = true := decide_eq_true ⟨ht.2.2.1, ht.2.2.2.1, ht.2.2.2.2⟩
  rw [e] at HR
  have HA := Lib.hid h
  have HCL := Lib.hid (fun W hA => clone_any A l d (by omega) hAn W hA)
  have HCK := Lib.hid (check_op c o ho)
  have HP := Lib.hid hp
  have hob := hg.2
  have hlc : l.length ≤ cap := by have := ht.2.2.1; omega
  have HV := Lib.hid (And.intro ht.2.2.2.1 (show ∀ x ∈ l, x.2 ≤ 2147483647 from fun x hx => by have := (ht.2.2.2.2 x hx).2; omega))
  rw [hgood] at HCK
  have HI := Lib.hid (fun W B (hB : B ≤ W.heap.size) v hm => uadd_any c cap hcap o ho W B hB v l (by omega) hlc HV.out.1 HV.out.2 hm)
  rw [show c.cap.toNat = cap by omega]
  obtain ⟨s, hs⟩ : ∃ s, addU cap l (keyU o) o.c = s := ⟨_, rfl⟩
  rw [hs] at HI ⊢
  clear hs
  obtain ⟨rows, x, y⟩ := s
  clear e h ht hAn ho hp hg hgood
  unfold cfv opv at *
  rw [hob] at HM HR HCK HI ⊢
  rw [hcap] at HM HR HCK HI ⊢
  rw [hk] at HCK HI ⊢
  clear hob hcap hk
  generalize hN : l.length = N at *
  have HNL := Lib.hid hN
  clear hN
  go_enter Tryd.func18, Tryd.ntmps18
  go_wp2_with (first
    | (go_at_call 32; refine (HM.out _).mono ?_; rintro e w1 ⟨rfl, hb1⟩; obtain ⟨hc1, hf1⟩ := bcell hb1)
    | (go_at_call 33; refine (HR.out _ (HA.out.below (below_then (below_three _ _ _ _) hb1))).mono ?_; rintro e w2 ⟨rfl, hb2⟩; replace hb1 := below_then hb1 hb2; clear hc1 hf1 hb2; obtain ⟨hc1, hf1⟩ := bcell hb1)
    | (go_at_call 34; refine (HCL.out _ (HA.out.below (below_then (below_three _ _ _ _) hb1))).mono ?_; rintro e w3 ⟨u3, rfl, hM3, hb3⟩; have hs1 := hb1.size; replace hb1 := below_then hb1 hb3; clear hc1 hf1 hb3; obtain ⟨hc1, hf1⟩ := bcell hb1; have HM3 := Lib.hid hM3; clear hM3)
    | (go_at_call 35; refine (HCK.out _ (HP.out.below (below_then (below_three _ _ _ _) hb1))).mono ?_; rintro e w4 ⟨rfl, hb4⟩; replace hb1 := below_then hb1 hb4; clear hc1 hf1; obtain ⟨hc1, hf1⟩ := bcell hb1))
  have HM4 := Lib.hid (HM3.out.below hb4)
  have hne : u3.ownBlock ≠ some (w.heap.size + 1 + 1) := fun e => by
    have := (MadeX.lt HM3.out _ e).1
    simp at hs1; omega
  have hq : w.heap.size + 1 + 1 < w4.heap.size := by have := hb1.size; simp at this; omega
  have hbw := below_then (below_three _ _ _ _) hb1
  refine (HI.out w4 w.heap.size hbw.size u3 (MadeX.down HM4.out (by simp at hs1; omega))).mono ?_
  rintro e w5 ⟨u, rfl, hM5, hg5⟩
  have hx : ∀ j, w5.cell? ⟨w.heap.size + 1 + 1, j, none⟩ = w4.cell? ⟨w.heap.size + 1 + 1, j, none⟩ := fun j => World.cell?_of_block (hg5.block _ hq (fun e => hne e.symm))
  have hy : ∀ j, w5.frozen? ⟨w.heap.size + 1 + 1, j, none⟩ = w4.frozen? ⟨w.heap.size + 1 + 1, j, none⟩ := fun j => World.frozen?_of_block (hg5.block _ hq (fun e => hne e.symm))
  have r0 : w5.cell? ⟨w.heap.size + 1 + 1, 0, none⟩ = some (.int .i64 0) := (hx 0).trans ((hc1 _ _ (by simp)).trans (by simp [go_sem]))
  have r1 : w5.cell? ⟨w.heap.size + 1 + 1, 1, none⟩ = some (.int .u32 0) := (hx 1).trans ((hc1 _ _ (by simp)).trans (by simp [go_sem]))
  have r2 : w5.cell? ⟨w.heap.size + 1 + 1, 2, none⟩ = some (.slice none 0 0) := (hx 2).trans ((hc1 _ _ (by simp)).trans (by simp [go_sem]))
  have f0 : w5.frozen? ⟨w.heap.size + 1 + 1, 0, none⟩ = false := (hy 0).trans ((hf1 _ _ (by simp)).trans (by simp [go_sem]))
  have f1 : w5.frozen? ⟨w.heap.size + 1 + 1, 1, none⟩ = false := (hy 1).trans ((hf1 _ _ (by simp)).trans (by simp [go_sem]))
  have f2 : w5.frozen? ⟨w.heap.size + 1 + 1, 2, none⟩ = false := (hy 2).trans ((hf1 _ _ (by simp)).trans (by simp [go_sem]))
  have h3 := HM3.out
  have hb5 := Lib.hid (hbw.grown hg5 hbw.size (fun k hk => by have := (MadeX.lt h3 k hk).1; simp at hs1; omega))
  have hre : w5.heap[w.heap.size + 1 + 1]? = some (.cells #[.int .i64 0, .int .u32 0, .slice none 0 0] 58 (0, 0)) := (hg5.block _ hq (fun e => hne e.symm)).trans ((hb1.block (w.heap.size + 1 + 1) (by simp)).trans (third_new _ _ _ _))
  have hnu := made_ne hM5 hre (by decide)
  have HNU := Lib.hid hnu
  have HM5 := Lib.hid hM5
  clear hx hy hc1 hf1 hre hbw hM5 hg5 h3 hnu
  have mixed : Tryd.prog.follows Departure.mixedOrders = true := by kernel_rfl
  unfold resv
  go_wp2
  obtain ⟨W6, hW6⟩ : ∃ W6, W6 = ((w5.setCell ⟨w.heap.size + 1 + 1, 0, none⟩ (.int .i64 x)).setCell ⟨w.heap.size + 1 + 1, 1, none⟩ (.int .u32 y)).setCell ⟨w.heap.size + 1 + 1, 2, none⟩ (.slice none 0 0) := ⟨_, rfl⟩
  rw [← hW6]
  have s0 : W6.cell? ⟨w.heap.size + 1 + 1, 0, none⟩ = some (.int .i64 x) := by rw [hW6]; simp [go_sem, r0]
  have s1 : W6.cell? ⟨w.heap.size + 1 + 1, 1, none⟩ = some (.int .u32 y) := by rw [hW6]; simp [go_sem, r1]
  have s2 : W6.cell? ⟨w.heap.size + 1 + 1, 2, none⟩ = some (.slice none 0 0) := by rw [hW6]; simp [go_sem, r2]
  have t0 : W6.frozen? ⟨w.heap.size + 1 + 1, 0, none⟩ = false := by rw [hW6]; simp [go_sem, f0]
  have t1 : W6.frozen? ⟨w.heap.size + 1 + 1, 1, none⟩ = false := by rw [hW6]; simp [go_sem, f1]
  have t2 : W6.frozen? ⟨w.heap.size + 1 + 1, 2, none⟩ = false := by rw [hW6]; simp [go_sem, f2]
  have HM6 := Lib.hid (show MadeX W6 w.heap.size 83 2 rowL u rows by rw [hW6]; exact made_stored3 HM5.out HNU.out _ _ _)
  have hb6 := Lib.hid (show Below w.heap.size w W6 by rw [hW6]; exact ((hb5.out.setCell (by simp; omega) _).setCell (by simp; omega) _).setCell (by simp; omega) _)
  clear hW6 r0 r1 r2 f0 f1 f2
  go_region
  go_wp2
  refine bodyPost_ret (v := .tuple #[u, .agg #[.int .i64 x, .int .u32 y, .slice none 0 0], .int .i64 0]) ?_ rfl ⟨_, rfl, ?_, ?_⟩
  · simp [results, Tryd.results18, go_sem, s0, s1, s2]
  · exact made_stored3 (MadeX.below HM6.out ⟨rfl, rfl, rfl, Nat.le_refl _, fun _ _ => rfl⟩) HNU.out _ _ _
  · exact ((hb6.out.drew.setCell (by simp; omega) _).setCell (by simp; omega) _).setCell (by simp; omega) _

set_option maxRecDepth 100000 in
set_option maxHeartbeats 4000000 in
theorem udo_drop (c : Cf) (A : Option Addr) (l : List R) (d : Nat) (o : O) (ho : Wf o) (hAn : A = none → l.length = 0 ∧ d = 0) (hl : l.length ≤ 100000) (ht : IsRu c l) (hk : o.k = 10) (hgood : chk c o = 0) (w : World) (hp : Obs w) (h : IsR w A l) :
    Calls Tryd.prog 18 #[cfv c, .slice A l.length d, opv o] w (Did4 (dropU l (keyU o)) 0 w) := by
  have HM := Lib.hid (uisOf_any c)
  have hg : Ok c ∧ c.obj = 3 := ⟨ht.1, ht.2.1⟩
  rw [decide_eq_true hg] at HM
  obtain ⟨cap, hcap⟩ : ∃ cap : Nat, c.cap = cap := by
    have hb := hg.1.2.2
    unfold RestOk at hb
    exact ⟨c.cap.toNat, by omega⟩
  have HR := Lib.hid (fun W hA => uare_any c A l d (by omega) W hA)
  have e : decide ((l.length : Int) ≤ c.cap ∧ Up l ∧ ∀ x ∈ l, RuOk x) = true := decide_eq_true ⟨ht.2.2.1, ht.2.2.2.1, ht.2.2.2.2⟩
  rw [e] at HR
  have HA := Lib.hid h
  have HCL := Lib.hid (fun W hA => clone_any A l d (by omega) hAn W hA)
  have HCK := Lib.hid (check_op c o ho)
  have HP := Lib.hid hp
  have hob := hg.2
  have hlc : l.length ≤ cap := by have := ht.2.2.1; omega
  have HV := Lib.hid (And.intro ht.2.2.2.1 (show ∀ x ∈ l, x.2 ≤ 2147483647 from fun x hx => by have := (ht.2.2.2.2 x hx).2; omega))
  rw [hgood] at HCK
  have HI := Lib.hid (fun W B (hB : B ≤ W.heap.size) v hm => udrop_any o ho W B v l (by omega) HV.out.1 HV.out.2 hm)
  obtain ⟨s, hs⟩ : ∃ s, dropU l (keyU o) = s := ⟨_, rfl⟩
  rw [hs] at HI ⊢
  clear hs
  obtain ⟨rows, x, y⟩ := s
  clear e h ht hAn ho hp hg hgood
  unfold cfv opv at *
  rw [hob] at HM HR HCK  ⊢
  rw [hcap] at HM HR HCK  ⊢
  rw [hk] at HCK HI ⊢
  clear hob hcap hk
  generalize hN : l.length = N at *
  have HNL := Lib.hid hN
  clear hN
  go_enter Tryd.func18, Tryd.ntmps18
  go_wp2_with (first
    | (go_at_call 32; refine (HM.out _).mono ?_; rintro e w1 ⟨rfl, hb1⟩; obtain ⟨hc1, hf1⟩ := bcell hb1)
    | (go_at_call 33; refine (HR.out _ (HA.out.below (below_then (below_three _ _ _ _) hb1))).mono ?_; rintro e w2 ⟨rfl, hb2⟩; replace hb1 := below_then hb1 hb2; clear hc1 hf1 hb2; obtain ⟨hc1, hf1⟩ := bcell hb1)
    | (go_at_call 34; refine (HCL.out _ (HA.out.below (below_then (below_three _ _ _ _) hb1))).mono ?_; rintro e w3 ⟨u3, rfl, hM3, hb3⟩; have hs1 := hb1.size; replace hb1 := below_then hb1 hb3; clear hc1 hf1 hb3; obtain ⟨hc1, hf1⟩ := bcell hb1; have HM3 := Lib.hid hM3; clear hM3)
    | (go_at_call 35; refine (HCK.out _ (HP.out.below (below_then (below_three _ _ _ _) hb1))).mono ?_; rintro e w4 ⟨rfl, hb4⟩; replace hb1 := below_then hb1 hb4; clear hc1 hf1; obtain ⟨hc1, hf1⟩ := bcell hb1))
  have HM4 := Lib.hid (HM3.out.below hb4)
  have hne : u3.ownBlock ≠ some (w.heap.size + 1 + 1) := fun e => by
    have := (MadeX.lt HM3.out _ e).1
    simp at hs1; omega
  have hq : w.heap.size + 1 + 1 < w4.heap.size := by have := hb1.size; simp at this; omega
  have hbw := below_then (below_three _ _ _ _) hb1
  refine (HI.out w4 w.heap.size hbw.size u3 (MadeX.down HM4.out (by simp at hs1; omega))).mono ?_
  rintro e w5 ⟨u, rfl, hM5, hg5⟩
  have hx : ∀ j, w5.cell? ⟨w.heap.size + 1 + 1, j, none⟩ = w4.cell? ⟨w.heap.size + 1 + 1, j, none⟩ := fun j => World.cell?_of_block (hg5.block _ hq (fun e => hne e.symm))
  have hy : ∀ j, w5.frozen? ⟨w.heap.size + 1 + 1, j, none⟩ = w4.frozen? ⟨w.heap.size + 1 + 1, j, none⟩ := fun j => World.frozen?_of_block (hg5.block _ hq (fun e => hne e.symm))
  have r0 : w5.cell? ⟨w.heap.size + 1 + 1, 0, none⟩ = some (.int .i64 0) := (hx 0).trans ((hc1 _ _ (by simp)).trans (by simp [go_sem]))
  have r1 : w5.cell? ⟨w.heap.size + 1 + 1, 1, none⟩ = some (.int .u32 0) := (hx 1).trans ((hc1 _ _ (by simp)).trans (by simp [go_sem]))
  have r2 : w5.cell? ⟨w.heap.size + 1 + 1, 2, none⟩ = some (.slice none 0 0) := (hx 2).trans ((hc1 _ _ (by simp)).trans (by simp [go_sem]))
  have f0 : w5.frozen? ⟨w.heap.size + 1 + 1, 0, none⟩ = false := (hy 0).trans ((hf1 _ _ (by simp)).trans (by simp [go_sem]))
  have f1 : w5.frozen? ⟨w.heap.size + 1 + 1, 1, none⟩ = false := (hy 1).trans ((hf1 _ _ (by simp)).trans (by simp [go_sem]))
  have f2 : w5.frozen? ⟨w.heap.size + 1 + 1, 2, none⟩ = false := (hy 2).trans ((hf1 _ _ (by simp)).trans (by simp [go_sem]))
  have h3 := HM3.out
  have hb5 := Lib.hid (hbw.grown hg5 hbw.size (fun k hk => by have := (MadeX.lt h3 k hk).1; simp at hs1; omega))
  have hre : w5.heap[w.heap.size + 1 + 1]? = some (.cells #[.int .i64 0, .int .u32 0, .slice none 0 0] 58 (0, 0)) := (hg5.block _ hq (fun e => hne e.symm)).trans ((hb1.block (w.heap.size + 1 + 1) (by simp)).trans (third_new _ _ _ _))
  have hnu := made_ne hM5 hre (by decide)
  have HNU := Lib.hid hnu
  have HM5 := Lib.hid hM5
  clear hx hy hc1 hf1 hre hbw hM5 hg5 h3 hnu
  have mixed : Tryd.prog.follows Departure.mixedOrders = true := by kernel_rfl
  unfold resv
  go_wp2
  obtain ⟨W6, hW6⟩ : ∃ W6, W6 = ((w5.setCell ⟨w.heap.size + 1 + 1, 0, none⟩ (.int .i64 x)).setCell ⟨w.heap.size + 1 + 1, 1, none⟩ (.int .u32 y)).setCell ⟨w.heap.size + 1 + 1, 2, none⟩ (.slice none 0 0) := ⟨_, rfl⟩
  rw [← hW6]
  have s0 : W6.cell? ⟨w.heap.size + 1 + 1, 0, none⟩ = some (.int .i64 x) := by rw [hW6]; simp [go_sem, r0]
  have s1 : W6.cell? ⟨w.heap.size + 1 + 1, 1, none⟩ = some (.int .u32 y) := by rw [hW6]; simp [go_sem, r1]
  have s2 : W6.cell? ⟨w.heap.size + 1 + 1, 2, none⟩ = some (.slice none 0 0) := by rw [hW6]; simp [go_sem, r2]
  have t0 : W6.frozen? ⟨w.heap.size + 1 + 1, 0, none⟩ = false := by rw [hW6]; simp [go_sem, f0]
  have t1 : W6.frozen? ⟨w.heap.size + 1 + 1, 1, none⟩ = false := by rw [hW6]; simp [go_sem, f1]
  have t2 : W6.frozen? ⟨w.heap.size + 1 + 1, 2, none⟩ = false := by rw [hW6]; simp [go_sem, f2]
  have HM6 := Lib.hid (show MadeX W6 w.heap.size 83 2 rowL u rows by rw [hW6]; exact made_stored3 HM5.out HNU.out _ _ _)
  have hb6 := Lib.hid (show Below w.heap.size w W6 by rw [hW6]; exact ((hb5.out.setCell (by simp; omega) _).setCell (by simp; omega) _).setCell (by simp; omega) _)
  clear hW6 r0 r1 r2 f0 f1 f2
  go_region
  go_wp2
  refine bodyPost_ret (v := .tuple #[u, .agg #[.int .i64 x, .int .u32 y, .slice none 0 0], .int .i64 0]) ?_ rfl ⟨_, rfl, ?_, ?_⟩
  · simp [results, Tryd.results18, go_sem, s0, s1, s2]
  · exact made_stored3 (MadeX.below HM6.out ⟨rfl, rfl, rfl, Nat.le_refl _, fun _ _ => rfl⟩) HNU.out _ _ _
  · exact ((hb6.out.drew.setCell (by simp; omega) _).setCell (by simp; omega) _).setCell (by simp; omega) _

set_option maxRecDepth 100000 in
set_option maxHeartbeats 4000000 in
theorem udo_check (c : Cf) (A : Option Addr) (l : List R) (d : Nat) (o : O) (ho : Wf o) (hAn : A = none → l.length = 0 ∧ d = 0) (hl : l.length ≤ 100000) (ht : IsRu c l) (hk : o.k = 11) (hgood : chk c o = 0) (w : World) (hp : Obs w) (h : IsR w A l) :
    Calls Tryd.prog 18 #[cfv c, .slice A l.length d, opv o] w (Did4 (l, 0, ((says l o.a o.b : Nat) : Int)) 0 w) := by
  have HM := Lib.hid (uisOf_any c)
  have hg : Ok c ∧ c.obj = 3 := ⟨ht.1, ht.2.1⟩
  rw [decide_eq_true hg] at HM
  obtain ⟨cap, hcap⟩ : ∃ cap : Nat, c.cap = cap := by
    have hb := hg.1.2.2
    unfold RestOk at hb
    exact ⟨c.cap.toNat, by omega⟩
  have HR := Lib.hid (fun W hA => uare_any c A l d (by omega) W hA)
  have e : decide ((l.length : Int) ≤ c.cap ∧ Up l ∧ ∀ x ∈ l, RuOk x) = true := decide_eq_true ⟨ht.2.2.1, ht.2.2.2.1, ht.2.2.2.2⟩
  rw [e] at HR
  have HA := Lib.hid h
  have HCL := Lib.hid (fun W hA => clone_any A l d (by omega) hAn W hA)
  have HCK := Lib.hid (check_op c o ho)
  have HP := Lib.hid hp
  have hob := hg.2
  have hlc : l.length ≤ cap := by have := ht.2.2.1; omega
  have HV := Lib.hid (And.intro ht.2.2.2.1 (show ∀ x ∈ l, x.2 ≤ 2147483647 from fun x hx => by have := (ht.2.2.2.2 x hx).2; omega))
  rw [hgood] at HCK
  have hru := ht.2.2.2.2
  have HI := Lib.hid (fun W A' d' hA hB => verdict_any A' l d' (by omega) hru o ho W hA hB)
  clear hru
  obtain ⟨y, hy⟩ : ∃ y, says l o.a o.b = y := ⟨_, rfl⟩
  rw [hy] at HI ⊢
  clear hy
  clear e h ht hAn ho hp hg hgood
  unfold cfv opv at *
  rw [hob] at HM HR HCK ⊢
  rw [hcap] at HM HR HCK ⊢
  rw [hk] at HCK HI ⊢
  clear hob hcap hk
  generalize hN : l.length = N at *
  have HNL := Lib.hid hN
  clear hN
  go_enter Tryd.func18, Tryd.ntmps18
  go_wp2_with (first
    | (go_at_call 32; refine (HM.out _).mono ?_; rintro e w1 ⟨rfl, hb1⟩; obtain ⟨hc1, hf1⟩ := bcell hb1)
    | (go_at_call 33; refine (HR.out _ (HA.out.below (below_then (below_three _ _ _ _) hb1))).mono ?_; rintro e w2 ⟨rfl, hb2⟩; replace hb1 := below_then hb1 hb2; clear hc1 hf1 hb2; obtain ⟨hc1, hf1⟩ := bcell hb1)
    | (go_at_call 34; refine (HCL.out _ (HA.out.below (below_then (below_three _ _ _ _) hb1))).mono ?_; rintro e w3 ⟨u3, rfl, hM3, hb3⟩; have hs1 := hb1.size; replace hb1 := below_then hb1 hb3; clear hc1 hf1 hb3; obtain ⟨hc1, hf1⟩ := bcell hb1; have HM3 := Lib.hid hM3; clear hM3)
    | (go_at_call 35; refine (HCK.out _ (HP.out.below (below_then (below_three _ _ _ _) hb1))).mono ?_; rintro e w4 ⟨rfl, hb4⟩; replace hb1 := below_then hb1 hb4; clear hc1 hf1; obtain ⟨hc1, hf1⟩ := bcell hb1))
  have HM4 := Lib.hid (HM3.out.below hb4)
  have hne : u3.ownBlock ≠ some (w.heap.size + 1 + 1) := fun e => by
    have := (MadeX.lt HM3.out _ e).1
    simp at hs1; omega
  have hq : w.heap.size + 1 + 1 < w4.heap.size := by have := hb1.size; simp at this; omega
  have hbw := below_then (below_three _ _ _ _) hb1
  obtain ⟨A', d', hu3, _, _, hA'⟩ := MadeX.form rowL_len HM4.out
  rw [HNL.out] at hu3
  have HA' := Lib.hid hA'
  have HU3 := Lib.hid hu3
  have hlt4 := fun k hk => (MadeX.lt HM4.out k hk).2
  rw [hu3] at hlt4
  rw [hu3]
  refine (HI.out w4 A' d' HA'.out (fun ad e => hlt4 ad.block (by rw [e]; rfl))).mono ?_
  rintro e w5 ⟨rfl, hbl⟩
  have hg5 : w4.grownBy w5 u3.ownBlock := grown_below hbl _
  have hM5 : MadeX w5 w.heap.size 83 2 rowL u3 l := MadeX.below (MadeX.down HM4.out (by simp at hs1; omega)) hbl
  rw [← HU3.out]
  clear hu3 hA' hlt4
  have hx : ∀ j, w5.cell? ⟨w.heap.size + 1 + 1, j, none⟩ = w4.cell? ⟨w.heap.size + 1 + 1, j, none⟩ := fun j => World.cell?_of_block (hg5.block _ hq (fun e => hne e.symm))
  have hy : ∀ j, w5.frozen? ⟨w.heap.size + 1 + 1, j, none⟩ = w4.frozen? ⟨w.heap.size + 1 + 1, j, none⟩ := fun j => World.frozen?_of_block (hg5.block _ hq (fun e => hne e.symm))
  have r0 : w5.cell? ⟨w.heap.size + 1 + 1, 0, none⟩ = some (.int .i64 0) := (hx 0).trans ((hc1 _ _ (by simp)).trans (by simp [go_sem]))
  have r1 : w5.cell? ⟨w.heap.size + 1 + 1, 1, none⟩ = some (.int .u32 0) := (hx 1).trans ((hc1 _ _ (by simp)).trans (by simp [go_sem]))
  have r2 : w5.cell? ⟨w.heap.size + 1 + 1, 2, none⟩ = some (.slice none 0 0) := (hx 2).trans ((hc1 _ _ (by simp)).trans (by simp [go_sem]))
  have f0 : w5.frozen? ⟨w.heap.size + 1 + 1, 0, none⟩ = false := (hy 0).trans ((hf1 _ _ (by simp)).trans (by simp [go_sem]))
  have f1 : w5.frozen? ⟨w.heap.size + 1 + 1, 1, none⟩ = false := (hy 1).trans ((hf1 _ _ (by simp)).trans (by simp [go_sem]))
  have f2 : w5.frozen? ⟨w.heap.size + 1 + 1, 2, none⟩ = false := (hy 2).trans ((hf1 _ _ (by simp)).trans (by simp [go_sem]))
  have h3 := HM3.out
  have hb5 := Lib.hid (hbw.grown hg5 hbw.size (fun k hk => by have := (MadeX.lt h3 k hk).1; simp at hs1; omega))
  have hre : w5.heap[w.heap.size + 1 + 1]? = some (.cells #[.int .i64 0, .int .u32 0, .slice none 0 0] 58 (0, 0)) := (hg5.block _ hq (fun e => hne e.symm)).trans ((hb1.block (w.heap.size + 1 + 1) (by simp)).trans (third_new _ _ _ _))
  have hnu := made_ne hM5 hre (by decide)
  have HNU := Lib.hid hnu
  have HM5 := Lib.hid hM5
  clear hx hy hc1 hf1 hre hbw hM5 hg5 h3 hnu
  have mixed : Tryd.prog.follows Departure.mixedOrders = true := by kernel_rfl
  go_wp2
  obtain ⟨W6, hW6⟩ : ∃ W6, W6 = ((w5.setCell ⟨w.heap.size + 1 + 1, 0, none⟩ (.int .i64 0)).setCell ⟨w.heap.size + 1 + 1, 1, none⟩ (.int .u32 y)).setCell ⟨w.heap.size + 1 + 1, 2, none⟩ (.slice none 0 0) := ⟨_, rfl⟩
  rw [← hW6]
  have s0 : W6.cell? ⟨w.heap.size + 1 + 1, 0, none⟩ = some (.int .i64 0) := by rw [hW6]; simp [go_sem, r0]
  have s1 : W6.cell? ⟨w.heap.size + 1 + 1, 1, none⟩ = some (.int .u32 y) := by rw [hW6]; simp [go_sem, r1]
  have s2 : W6.cell? ⟨w.heap.size + 1 + 1, 2, none⟩ = some (.slice none 0 0) := by rw [hW6]; simp [go_sem, r2]
  have t0 : W6.frozen? ⟨w.heap.size + 1 + 1, 0, none⟩ = false := by rw [hW6]; simp [go_sem, f0]
  have t1 : W6.frozen? ⟨w.heap.size + 1 + 1, 1, none⟩ = false := by rw [hW6]; simp [go_sem, f1]
  have t2 : W6.frozen? ⟨w.heap.size + 1 + 1, 2, none⟩ = false := by rw [hW6]; simp [go_sem, f2]
  have HM6 := Lib.hid (show MadeX W6 w.heap.size 83 2 rowL u3 l by rw [hW6]; exact made_stored3 HM5.out HNU.out _ _ _)
  have hb6 := Lib.hid (show Below w.heap.size w W6 by rw [hW6]; exact ((hb5.out.setCell (by simp; omega) _).setCell (by simp; omega) _).setCell (by simp; omega) _)
  clear hW6 r0 r1 r2 f0 f1 f2
  go_region
  go_wp2
  refine bodyPost_ret (v := .tuple #[u3, .agg #[.int .i64 0, .int .u32 y, .slice none 0 0], .int .i64 0]) ?_ rfl ⟨_, rfl, ?_, ?_⟩
  · simp [results, Tryd.results18, go_sem, s0, s1, s2]
  · exact made_stored3 (MadeX.below HM6.out ⟨rfl, rfl, rfl, Nat.le_refl _, fun _ _ => rfl⟩) HNU.out _ _ _
  · exact ((hb6.out.drew.setCell (by simp; omega) _).setCell (by simp; omega) _).setCell (by simp; omega) _

theorem udo_any (c : Cf) (A : Option Addr) (l : List R) (d : Nat) (o : O) (ho : Wf o) (hAn : A = none → l.length = 0 ∧ d = 0) (hl : l.length ≤ 100000) (_ : ∀ x ∈ l, x.1 < 18446744073709551616) (w : World) (hp : Obs w) (h : IsR w A l) :
    Calls Tryd.prog 18 #[cfv c, .slice A l.length d, opv o] w (Did4 (doUR c l o) (doUE c l) w) := by
  by_cases h1 : Ok c ∧ c.obj = 3
  · by_cases h2 : IsRu c l
    · have e2 : doUE c l = 0 := by unfold doUE; rw [if_neg (not_not_intro h1), if_neg (not_not_intro h2)]
      rw [e2]
      by_cases h3 : chk c o = 0
      · rw [doUR_done h2 h3]
        rcases fits_three h1.2 h3 with ⟨hk, _⟩ | ⟨hk, _⟩ | ⟨hk, _⟩
        · have e : doneU c.cap.toNat l o.k o.a o.b o.c = addU c.cap.toNat l (keyU o) o.c := by
            rw [hk, doneU_put]; unfold addU keyU; cases Tb.get l (o.a * 65536 + o.b) with
            | some u => rfl
            | none => rfl
          rw [e]; exact udo_add c A l d o ho hAn hl h2 hk h3 w hp h
        · have e : doneU c.cap.toNat l o.k o.a o.b o.c = dropU l (keyU o) := by
            rw [hk, doneU_cut]; unfold dropU keyU; cases Tb.get l (o.a * 65536 + o.b) <;> rfl
          rw [e]; exact udo_drop c A l d o ho hAn hl h2 hk h3 w hp h
        · rw [hk, doneU_look]; exact udo_check c A l d o ho hAn hl h2 hk h3 w hp h
      · rw [doUR_bad h2 h3]
        exact udo_bad c A l d o ho hAn hl h2 h3 w hp h
    · rw [doUR_none o h2]
      have e2 : doUE c l = 2 := by unfold doUE; rw [if_neg (not_not_intro h1), if_pos h2]
      rw [e2]
      exact udo_arg c A l d o (by omega) h1 h2 w h
  · rw [doUR_none o (fun g => h1 ⟨g.1, g.2.1⟩)]
    have e2 : doUE c l = 40 := by unfold doUE; rw [if_pos h1]
    rw [e2]
    exact udo_conf c A l.length d o h1 w
end Go.Proofs.YtljhcegkekdjgaaDoor
