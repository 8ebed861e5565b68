/- The program's insert. The program's remove. The program's look-up. -/
import Derived.Test.YtfjpcdcaoefelaaDoorTbProg
import Derived.Test.YtfjpcdcaoefelaaDoorTbOwn
import Derived.Test.YtfjpcdcaoefelaaDoorOpMath
import Derived.Deep.DeepCutAuto
import Derived.Deep.RegionHeld3
import Derived.Test.YtfjpcdcaoefelaaDoorTbMore
namespace Go.Proofs.YtfjpcdcaoefelaaDoor
open Go.RowKit Tb Pt Opn

set_option maxHeartbeats 1000000 in
theorem tabIs_any (c : Cf) (A : Option Addr) (l : List R) (d : Nat) (hl : l.length ≤ 1000000) (w : World) (h : IsR w A l) :
    Calls Tryd.prog 13 #[cfv c, .slice A l.length d] w (Ret (.bool (isB c l)) w) := by
  have HI := Lib.hid (isOf_any c)
  have HA := Lib.hid h
  by_cases hg : Ok c ∧ c.obj = 1
  · obtain ⟨n, hn, hn6⟩ : ∃ n : Nat, c.bits = n ∧ n ≤ 6 := by
      have hb := hg.1.1
      have ho := hg.2
      unfold ObjOk at hb
      exact ⟨c.bits.toNat, by omega, by omega⟩
    have hz : sz c = 2 ^ (n + 1) := by unfold sz; rw [if_pos hg.2, hn, Int.toNat_natCast]
    have HR := Lib.hid (fun W hA => are_any c n hn hn6 A l d hl W hA)
    have e : isB c l = decide ((l.length : Int) ≤ c.cap ∧ Up l ∧ ∀ x ∈ l, RowOk (2 ^ (n + 1)) x) := by
      unfold isB; rw [Bool.eq_iff_iff, decide_eq_true_iff, decide_eq_true_iff]; unfold IsTab; rw [hz]
      exact ⟨fun g => g.2.2, fun g => ⟨hg.1, hg.2, g⟩⟩
    rw [← e] at HR
    rw [decide_eq_true hg] at HI
    clear e hz hn hg h
    generalize isB c l = u at *
    generalize l.length = N at *
    unfold cfv at *
    go_enter Tryd.func13, Tryd.ntmps13
    go_wp2_with (first
      | (go_at_call 22; refine (HI.out _).mono ?_; rintro e w1 ⟨rfl, hb1⟩; obtain ⟨hc1, hf1⟩ := bcell hb1)
      | (go_at_call 23; refine (HR.out _ (HA.out.below (below_b1 hb1))).mono ?_; rintro e w2 ⟨rfl, hb2⟩))
    go_ret
    exact Ret.mk rfl (below_then (below_b1 hb1) hb2)
  · have e : isB c l = false := isB_false fun k => hg ⟨k.1, k.2.1⟩
    rw [e]
    rw [decide_eq_false hg] at HI
    clear e hg
    generalize l.length = N at *
    unfold cfv at *
    go_enter Tryd.func13, Tryd.ntmps13
    go_wp2_with (go_at_call 22; refine (HI.out _).mono ?_; rintro e w1 ⟨rfl, hb1⟩)
    go_ret
    exact Ret.mk rfl (below_b1 hb1)

/-- It returns v, and nothing else. -/
def Still (v : Value) (w : World) (e : Ending) (w' : World) : Prop := e = .returned v ∧ w' = w
/-- rank.Node makes nothing. -/
theorem node_still (l p : Nat) (h6 : l ≤ 6) (hp : p < 2 ^ l) (w : World) : Calls Tryd.prog 18 #[.int .i64 l, .int .i64 p] w (Still (.tuple #[.int .i64 (2 ^ l + p : Nat), .int .i64 0]) w) := by
  have h64 : 2 ^ l ≤ 64 := Rk.pow_le l h6
  have e1 : ((2 : Int) ^ l) = ((2 ^ l : Nat) : Int) := (Int.natCast_pow 2 l).symm
  have hw0 : IntKind.i64.wrap (2 ^ l) = ((2 ^ l : Nat) : Int) := by rw [e1, IntKind.wrap_i64]; omega
  have hw : IntKind.i64.wrap (((2 ^ l : Nat) : Int) + (p : Int)) = ((2 ^ l + p : Nat) : Int) := by rw [IntKind.wrap_i64]; omega
  have h1 : ¬ (l : Int) < 0 := by omega
  have h2 : ¬ (6 : Int) < (l : Int) := by omega
  have h3 : ¬ (p : Int) < 0 := by omega
  have h4 : ¬ ((2 ^ l : Nat) : Int) ≤ (p : Int) := by omega
  generalize 2 ^ l + p = z at *
  generalize (2 ^ l : Nat) = y at *
  go_enter Tryd.func18, Tryd.ntmps18
  go_wp2
  go_ret2
  exact ⟨rfl, rfl⟩
theorem nodeOf_still (b a : Nat) (hb : b ≤ 6) (ha : a < 2 ^ b) (w : World) : Calls Tryd.prog 40 #[.int .u32 b, .int .u32 a] w (Still (.int .u64 (2 ^ b + a : Nat)) w) := by
  have h64 : 2 ^ b ≤ 64 := Rk.pow_le b hb
  have HN := Lib.hid (fun W => node_still b a hb ha W)
  have hz2 : 2 ^ b + a < 128 := by omega
  have hz : IntKind.u64.wrap ((2 ^ b + a : Nat) : Int) = ((2 ^ b + a : Nat) : Int) := by rw [IntKind.wrap_u64]; omega
  have ha2 : a < 64 := by omega
  clear h64
  generalize 2 ^ b + a = z at *
  go_enter Tryd.func40, Tryd.ntmps40
  go_wp2_with (go_at_call 18; refine (HN.out _).mono ?_; rintro e w1 ⟨rfl, rfl⟩)
  go_ret
  exact ⟨congrArg Ending.returned (u64_eq (by first | rfl | omega)), rfl⟩
/-- The rows, the code, the word of a call that turns rows of its own. -/
def Own4 (s : List R × Int × Int) (B : Nat) (w : World) (v : Value) (e : Ending) (w' : World) : Prop := ∃ u, e = .returned (.tuple #[u, resv s.2.1 s.2.2 none 0 0]) ∧ MadeX w' B 24 2 rowL u s.1 ∧ w.grownBy w' v.ownBlock
/-- What an insertion does. -/
def insR (cap : Nat) (l : List R) (k v : Nat) : List R × Int × Int := match Tb.get l k with
  | some u => (put l k v, 0, (((u + 1) % 4294967296 : Nat) : Int))
  | none => if cap ≤ l.length then (l, 9, 0) else (put l k v, 0, 0)

set_option maxHeartbeats 4000000 in
set_option maxRecDepth 100000 in
theorem ins_any (c : Cf) (cap : Nat) (hcc : c.cap = cap) (o : O) (ho : Wf o) (hob : o.b ≤ 6) (hoa : o.a < 2 ^ o.b) (w : World) (B : Nat) (hB : B ≤ w.heap.size) (v : Value) (l : List R) (hl : l.length ≤ 100000) (hlc : l.length ≤ cap) (hu : Up l) (hhop : ∀ x ∈ l, x.2 ≤ 2147483647) (hm : MadeX w B 24 2 rowL v l) :
    Calls Tryd.prog 26 #[cfv c, v, opv o] w (Own4 (insR cap l (2 ^ o.b + o.a) o.c) B w v) := by
  have HN := Lib.hid (nodeOf_still o.b o.a hob hoa)
  have h64 : 2 ^ o.b ≤ 64 := Rk.pow_le o.b hob
  obtain ⟨K, hK⟩ : ∃ K, 2 ^ o.b + o.a = K := ⟨_, rfl⟩
  have hK7 : K < 128 := by omega
  rw [hK] at HN ⊢
  obtain ⟨V, hV⟩ : ∃ V, o.c = V := ⟨_, rfl⟩
  have hV32 : V < 4294967296 := by rw [← hV]; exact ho.2.2.2
  have hVw : IntKind.u64.wrap (V : Int) = (V : Int) := by rw [IntKind.wrap_u64]; omega
  have HM := Lib.hid hm
  obtain ⟨A, d, rfl, ⟨hd1, hd2⟩, hAn, hA⟩ := hm.form rowL_len
  unfold cfv opv
  rw [hV, hcc]
  obtain ⟨s, hs⟩ : ∃ s, insR cap l K V = s := ⟨_, rfl⟩
  rw [hs]
  have HS := Lib.hid hs
  have HC := Lib.hid (And.intro hu hhop)
  have HAn := Lib.hid hAn
  have HAA := Lib.hid hA
  obtain ⟨N, hN⟩ : ∃ N, l.length = N := ⟨_, rfl⟩
  have HNL := Lib.hid hN
  have HSK := Lib.hid (fun W hA => seek_any A l d (by omega) hu K W hA)
  rw [hN] at hl hlc hd1 HM HSK ⊢
  have hov : ∀ b, (Value.slice A N d).ownBlock = some b → b < w.heap.size := fun b hb => (MadeX.lt HM.out b (by rw [hN] at *; exact hb)).2
  have HOV := Lib.hid hov
  clear hs hu hhop hAn hA hm hN hov hV hcc hK h64
  go_enter Tryd.func26, Tryd.ntmps26
  go_wp2
  obtain ⟨W, hW⟩ : ∃ W, W = ((w.alloc (.cells #[.int .u8 c.obj, .int .i64 c.inst, .int .i64 c.thr, .int .u8 c.kind, .int .i64 c.str, .int .i64 c.bits, .int .i64 (cap : Nat), .int .i64 c.node, .int .i64 c.bat, .int .i64 c.chunk, .int .u64 c.lim, .int .u64 c.most] 33)).alloc (.cells #[.int .u8 (o.k : Nat), .int .u32 (o.a : Nat), .int .u32 (o.b : Nat), .int .u32 (V : Nat)] 35)).alloc (.cells #[.int .i64 0, .int .u32 0, .slice none 0 0] 29) := ⟨_, rfl⟩
  have hb2 : Below w.heap.size w W := by rw [hW]; exact below_three _ _ _ _
  rw [← hW]
  have hcap : W.cell? ⟨w.heap.size, 6, none⟩ = some (.int .i64 (cap : Nat)) := by rw [hW]; simp [go_sem]
  have a1 : W.cell? ⟨w.heap.size + 1, 1, none⟩ = some (.int .u32 (o.a : Nat)) := by rw [hW]; simp [go_sem]
  have a2 : W.cell? ⟨w.heap.size + 1, 2, none⟩ = some (.int .u32 (o.b : Nat)) := by rw [hW]; simp [go_sem]
  have a3 : W.cell? ⟨w.heap.size + 1, 3, none⟩ = some (.int .u32 (V : Nat)) := by rw [hW]; simp [go_sem]
  have HRES : W.heap[w.heap.size + 1 + 1]? = some (.cells #[.int .i64 0, .int .u32 0, .slice none 0 0] 29 (0, 0)) := by
    rw [hW]
    exact heap_alloc_new ((w.alloc (.cells #[.int .u8 c.obj, .int .i64 c.inst, .int .i64 c.thr, .int .u8 c.kind, .int .i64 c.str, .int .i64 c.bits, .int .i64 (cap : Nat), .int .i64 c.node, .int .i64 c.bat, .int .i64 c.chunk, .int .u64 c.lim, .int .u64 c.most] 33)).alloc (.cells #[.int .u8 (o.k : Nat), .int .u32 (o.a : Nat), .int .u32 (o.b : Nat), .int .u32 (V : Nat)] 35)) _ |> fun h => by simpa using h
  have hs1 : w.heap.size + 1 < W.heap.size := by rw [hW]; simp
  have mixed : Tryd.prog.follows Departure.mixedOrders = true := by kernel_rfl
  have hww : W.heap.size = w.heap.size + 3 := by rw [hW]; simp
  obtain ⟨q, hq⟩ : ∃ q, w.heap.size = q := ⟨_, rfl⟩
  have HB2 := Lib.hid hb2
  have HQ := Lib.hid hq
  rw [hq] at a1 a2 a3 hs1 hcap hww HRES ⊢
  clear hW hb2 hq
  go_cut [8] (fun s8 wx => ∃ g : Nat, s8 = .pointer (some ⟨g, 0, none⟩) ∧ Hid (W.heap.size ≤ g ∧ Below W.heap.size W wx ∧ wx.heap[g]? = some (.cells #[.int .u64 (K : Nat), .int .u64 (V : Nat)] 24 (0, 0))))
  case first =>
    go_region_held3 (fun X => W.heap.size ≤ X.heap.size ∧ ∀ b o, b < W.heap.size → X.cell? ⟨b, o, none⟩ = W.cell? ⟨b, o, none⟩)
      (first
        | with_reducible exact keep0 W
        | with_reducible exact keep1 W _
        | with_reducible exact keep_set (keep_set (keep1 W _) _ 0 _ (Nat.le_refl _)) _ 1 _ (Nat.le_refl _)
        | fail)
      (first | ((with_reducible refine (HN.out _).mono ?_); rintro e w3 ⟨rfl, rfl⟩))
    all_goals
      go_wp2_with fail
      go_meet
      exact ⟨_, rfl, Lib.hid ⟨by omega, (below_one _ _).trans ⟨rfl, rfl, rfl, Nat.le_refl _, fun _ _ => rfl⟩, by rw [← hww]; exact heap_alloc_new W _⟩⟩
  case rest =>
    obtain ⟨g, rfl, HG⟩ := hcut
    obtain ⟨hgW, hbx, hgx⟩ := HG.out
    have g0 : wc.cell? ⟨g, 0, none⟩ = some (.int .u64 (K : Nat)) := by simp [World.cell?, hgx]
    have g1 : wc.cell? ⟨g, 1, none⟩ = some (.int .u64 (V : Nat)) := by simp [World.cell?, hgx]
    have hsz := hbx.size
    replace hcap := (hbx.cell (World.block_lt_of_cell? _ _ hcap)).trans hcap
    replace HRES := (hbx.block _ (by omega)).trans HRES
    have hbW := HB2.out.trans (hbx.mono HB2.out.size)
    have hAx := Lib.hid (HAA.out.below hbW)
    have hMx := Lib.hid (MadeX.below HM.out hbW)
    have hgl : g < wc.heap.size := (Array.getElem?_eq_some_iff.1 hgx).1
    rcases hget : Tb.get l K with _ | u
    · have HGT := Lib.hid hget
      have HSK2 := Lib.hid (fun W hA => HSK.out W hA)
      rw [hget] at HSK2
      clear hget
      have hp : pos l K = (lo l K).length := rfl
      by_cases hfull : cap ≤ N
      · have hcn : (N : Int) = (cap : Int) := by omega
        go_wp2_with (go_at_call 41; refine (HSK2.out _ hAx.out).mono ?_; rintro e w2 ⟨rfl, hb2⟩; have z0 := (hb2.cell (World.block_lt_of_cell? _ _ hcap)).trans hcap; have HR2 := Lib.hid ((hb2.block _ (by omega)).trans HRES); obtain ⟨r0, f0, r1, f1, r2, f2⟩ := res_cells HR2.out)
        have es : s = (l, 9, 0) := by rw [← HS.out]; unfold insR; rw [HGT.out, if_pos (by rw [HNL.out]; exact hfull)]
        have hb3 := hbW.trans (hb2.mono hbW.size)
        refine bodyPost_ret (v := .tuple #[.slice A N d, .agg #[.int .i64 9, .int .u32 0, .slice none 0 0]]) ?_ rfl ⟨.slice A N d, ?_, ?_, ?_⟩
        · simp [results, Tryd.results26, go_sem, r0, r1, r2]
        · rw [es]; rfl
        · rw [es]; exact made_stored3 (MadeX.below hMx.out hb2) (made_ne (MadeX.below hMx.out hb2) HR2.out (by decide)) _ _ _
        · have hq := HQ.out
          exact grown_set (grown_set (grown_set (grown_below hb3 _) (by omega) _ _) (by omega) _ _) (by omega) _ _
      · have hcn : ¬ (N : Int) = (cap : Int) := by omega
        have HEL := Lib.hid (up_miss HC.out.1 HGT.out)
        go_wp2_with (first
          | (go_at_call 41; refine (HSK2.out _ hAx.out).mono ?_; rintro e w2 ⟨rfl, hb2⟩; have z0 := (hb2.cell (World.block_lt_of_cell? _ _ hcap)).trans hcap; have HR2 := Lib.hid ((hb2.block _ (by omega)).trans HRES); obtain ⟨k0, l0, k1, l1⟩ := two_cells ((hb2.block _ hgl).trans hgx))
          | (go_at_call 43
             refine (insert_any _ B (by have := HQ.out; have := hb2.size; simp; omega) _ (lo l K) (hi l K) (K, V) (by rw [← HEL.out, HNL.out]; omega) (by rw [← HEL.out]; exact (MadeX.below hMx.out hb2).alloc _) _ (fun e => by have := HOV.out _ e; have := HQ.out; have := hb2.size; omega) (heap_alloc_new _ _)).mono ?_
             rintro e w4 ⟨u, rfl, hM4, hg4⟩
             have HR4 := Lib.hid ((hg4.block (q + 1 + 1) (by simp; have := hb2.size; omega) (fun e => by have := HOV.out _ e.symm; have := HQ.out; omega)).trans ((heap_alloc_old w2 _ (by have := hb2.size; omega)).trans HR2.out))
             obtain ⟨r0, f0, r1, f1, r2, f2⟩ := res_cells HR4.out
             have HM4 := Lib.hid hM4
             clear hM4))
        have es : s = (put l K V, 0, 0) := by rw [← HS.out]; unfold insR; rw [HGT.out, if_neg (by rw [HNL.out]; exact hfull)]
        have hb3 := (grown_trans (grown_below ((hbW.trans (hb2.mono hbW.size)).trans ((below_one w2 _).mono (Nat.le_trans hbW.size hb2.size))) _) hg4)
        refine bodyPost_ret (v := .tuple #[u, .agg #[.int .i64 0, .int .u32 0, .slice none 0 0]]) ?_ rfl ⟨u, ?_, ?_, ?_⟩
        · simp [results, Tryd.results26, go_sem, r0, r1, r2]
        · rw [es]; rfl
        · rw [es]; exact made_stored3 HM4.out (made_ne HM4.out HR4.out (by decide)) _ _ _
        · have hq := HQ.out
          exact grown_set (grown_set (grown_set hb3 (by omega) _ _) (by omega) _ _) (by omega) _ _
    · have HGT := Lib.hid hget
      have HSK2 := Lib.hid (fun W hA => HSK.out W hA)
      rw [hget] at HSK2
      clear hget
      have HIT := Lib.hid (up_there HC.out.1 HGT.out)
      obtain ⟨hpl, hlp⟩ := there_at HIT.out.1
      have hp : pos l K = (lo l K).length := rfl
      rw [hp] at HSK2
      have hhop : u ≤ 2147483647 := HC.out.2 (K, u) (by rw [← hlp]; exact List.getElem_mem hpl)
      obtain ⟨p, hpp⟩ : ∃ p, (lo l K).length = p := ⟨_, rfl⟩
      obtain ⟨bk, off, eA, x0, x1⟩ := hAx.out.row hpl
      rw [hlp] at x0 x1
      rw [hpp] at HSK2 x0 x1
      have hpN : p < N := by rw [← hpp, ← HNL.out]; exact hpl
      have HPP := Lib.hid hpp
      obtain ⟨gA, rfl, hgA, hgB⟩ : ∃ gA, A = some ⟨gA, 0, none⟩ ∧ (∀ o, wc.frozen? ⟨gA, o, none⟩ = false) ∧ gA < q := by
        rcases (show _ from hMx.out).2 with ⟨h, _⟩ | ⟨g', cap', cur', h, _, h3, _⟩
        · injection h with h; rw [eA] at h; cases h
        · injection h with h
          exact ⟨g', h, (alloc_shape h3).2, by rw [← HQ.out]; exact HOV.out g' (by rw [h]; rfl)⟩
      injection eA with eA
      injection eA with e1 e2 _
      subst e1 e2
      clear hp hpp hpl hlp
      have i1 : (0 : Int) ≤ (p : Int) := by omega
      have i2 : (p : Int) < (N : Int) := by omega
      have HTE := Lib.hid (tell_any K u hhop)
      obtain ⟨y, hy⟩ : ∃ y, (u + 1) % 4294967296 = y := ⟨_, rfl⟩
      rw [hy] at HTE
      have es : s = (put l K V, 0, (y : Int)) := by rw [← HS.out, ← hy]; unfold insR; rw [HGT.out]
      have ES := Lib.hid es
      clear es hy
      rw [Nat.zero_add] at x0 x1
      have fz0 := hgA (p * 2)
      have fz1 := hgA (p * 2 + 1)
      unfold resv at HTE
      have hgq : gA < wc.heap.size := World.block_lt_of_cell? _ _ x0
      go_wp2_with (first
        | (go_at_call 41; go_loud (refine (HSK2.out _ hAx.out).mono ?_; rintro e w2 ⟨rfl, hb2⟩; have HR2 := Lib.hid ((hb2.block _ (by omega)).trans HRES); obtain ⟨k0, l0, k1, l1⟩ := two_cells ((hb2.block _ hgl).trans hgx); obtain ⟨hc2, hf2⟩ := bcell hb2; replace x0 := (hc2 _ _ hgq).trans x0; replace x1 := (hc2 _ _ hgq).trans x1; replace fz0 := (hf2 _ _ hgq).trans fz0; replace fz1 := (hf2 _ _ hgq).trans fz1; clear hc2 hf2; have hg2 := Nat.lt_of_lt_of_le hgl hb2.size; have hgA2 := Nat.lt_of_lt_of_le hgq hb2.size; have hq2 : q + 1 + 1 < w2.heap.size := by (have := hb2.size; omega)))
        | (go_at_call 42; refine (HTE.out _).mono ?_; rintro e w3 ⟨rfl, hb3⟩; have HR3 := Lib.hid ((hb3.block (q + 1 + 1) (by simp [World.setCell]; omega)).trans ((heap_alloc_old _ _ (by simpa [World.setCell] using hq2)).trans ((Below.heap_setCell _ ⟨gA, _, none⟩ _ _ (by simp; omega)).trans ((Below.heap_setCell _ ⟨gA, _, none⟩ _ _ (by simp; omega)).trans HR2.out)))); obtain ⟨r0, f0, r1, f1, r2, f2⟩ := res_cells HR3.out))
      have hb4 := grown_below (hbW.trans (hb2.mono hbW.size)) (some gA)
      have hm2 : MadeX w2 B 24 2 rowL (.slice (some ⟨gA, 0, none⟩) N d) (lo l K ++ (K, u) :: hi l K) := by rw [← HIT.out.1]; exact MadeX.below hMx.out hb2
      have hmt := made_turned (y := (K, V)) (by rw [← HIT.out.1]; exact HNL.out) hm2
      rw [HPP.out] at hmt
      have hm3 := MadeX.below (hmt.alloc _) hb3
      refine bodyPost_ret (v := .tuple #[.slice (some ⟨gA, 0, none⟩) N d, .agg #[.int .i64 0, .int .u32 y, .slice none 0 0]]) ?_ rfl ⟨.slice (some ⟨gA, 0, none⟩) N d, ?_, ?_, ?_⟩
      · simp [results, Tryd.results26, go_sem, r0, r1, r2]
      · rw [ES.out]; rfl
      · rw [ES.out]; exact made_stored3 hm3 (made_ne hm3 HR3.out (by decide)) _ _ _
      · have hq := HQ.out
        refine grown_set (grown_set (grown_set ?_ (by omega) _ _) (by omega) _ _) (by omega) _ _
        have h5 : w2.grownBy (((w2.setCell ⟨gA, p * 2, none⟩ (.int .u64 (K : Nat))).setCell ⟨gA, p * 2 + 1, none⟩ (.int .u64 (V : Nat))).alloc (.cells #[.int .u64 (K : Nat), .int .u64 (u : Nat)] 24)) (some gA) :=
          grown_trans (w1 := ((w2.setCell ⟨gA, p * 2, none⟩ (.int .u64 (K : Nat))).setCell ⟨gA, p * 2 + 1, none⟩ (.int .u64 (V : Nat)))) ⟨rfl, rfl, rfl, by simp [World.setCell], fun i hi hne => (Below.heap_setCell _ ⟨gA, _, none⟩ _ i (fun e => hne (by rw [e]))).trans (Below.heap_setCell _ ⟨gA, _, none⟩ _ i (fun e => hne (by rw [e])))⟩ (World.grownBy_alloc _ _ _)
        exact grown_trans (grown_trans hb4 h5) (grown_below hb3 _)
end Go.Proofs.YtfjpcdcaoefelaaDoor

namespace Go.Proofs.YtfjpcdcaoefelaaDoor
open Go.RowKit Tb Pt Opn

/-- What lay in W, but for the block g, lies so in X. -/
def KeepN (W X : World) (g : Nat) : Prop := W.heap.size ≤ X.heap.size ∧ ∀ b, b < W.heap.size → b ≠ g → X.heap[b]? = W.heap[b]?
theorem KeepN.refl (W : World) (g : Nat) : KeepN W W g := ⟨Nat.le_refl _, fun _ _ _ => rfl⟩
theorem KeepN.drew (W : World) (g : Nat) : KeepN W W.drew g := ⟨Nat.le_refl _, fun _ _ _ => rfl⟩
theorem KeepN.below {W X Y : World} {g : Nat} (h : KeepN W X g) (hb : Below X.heap.size X Y) : KeepN W Y g :=
  ⟨Nat.le_trans h.1 hb.size, fun b hB hne => (hb.block b (Nat.lt_of_lt_of_le hB h.1)).trans (h.2 b hB hne)⟩
theorem KeepN.grown {W X Y : World} {g : Nat} (h : KeepN W X g) (hb : X.grownBy Y (some g)) : KeepN W Y g :=
  ⟨Nat.le_trans h.1 hb.size, fun b hB hne => (hb.block b (Nat.lt_of_lt_of_le hB h.1) (fun e => hne (by injection e))).trans (h.2 b hB hne)⟩
theorem KeepN.cells {W X : World} {g : Nat} (h : KeepN W X g) : W.heap.size ≤ X.heap.size ∧ (∀ b j, b < W.heap.size → b ≠ g → X.cell? ⟨b, j, none⟩ = W.cell? ⟨b, j, none⟩) ∧ ∀ b j, b < W.heap.size → b ≠ g → X.frozen? ⟨b, j, none⟩ = W.frozen? ⟨b, j, none⟩ :=
  ⟨h.1, fun b _ hB hne => World.cell?_of_block (h.2 b hB hne), fun b _ hB hne => World.frozen?_of_block (h.2 b hB hne)⟩

/-- What a removal does. -/
def remR (l : List R) (k : Nat) : List R × Int × Int := match Tb.get l k with
  | some u => (cut l k, 0, (((u + 1) % 4294967296 : Nat) : Int))
  | none => (l, 6, 0)

set_option maxHeartbeats 4000000 in
set_option maxRecDepth 100000 in
theorem rem_any (o : O) (hob : o.b ≤ 6) (hoa : o.a < 2 ^ o.b) (w : World) (B : Nat) (_ : B ≤ w.heap.size) (v : Value) (l : List R) (hl : l.length ≤ 100000) (hu : Up l) (hhop : ∀ x ∈ l, x.2 ≤ 2147483647) (hm : MadeX w B 24 2 rowL v l) :
    Calls Tryd.prog 27 #[v, opv o] w (Own4 (remR l (2 ^ o.b + o.a)) B w v) := by
  have HN := Lib.hid (nodeOf_still o.b o.a hob hoa)
  have h64 : 2 ^ o.b ≤ 64 := Rk.pow_le o.b hob
  obtain ⟨K, hK⟩ : ∃ K, 2 ^ o.b + o.a = K := ⟨_, rfl⟩
  have hK7 : K < 128 := by omega
  rw [hK] at HN ⊢
  have HM := Lib.hid hm
  obtain ⟨A, d, rfl, ⟨hd1, hd2⟩, hAn, hA⟩ := hm.form rowL_len
  unfold opv
  obtain ⟨s, hs⟩ : ∃ s, remR l K = s := ⟨_, rfl⟩
  rw [hs]
  have HS := Lib.hid hs
  have HC := Lib.hid (And.intro hu hhop)
  have HAA := Lib.hid hA
  obtain ⟨N, hN⟩ : ∃ N, l.length = N := ⟨_, rfl⟩
  have HNL := Lib.hid hN
  have HSK := Lib.hid (fun W hA => seek_any A l d (by omega) hu K W hA)
  rw [hN] at hl hd1 HM HSK ⊢
  have hov : ∀ b, (Value.slice A N d).ownBlock = some b → b < w.heap.size := fun b hb => (MadeX.lt HM.out b (by rw [hN] at *; exact hb)).2
  have HOV := Lib.hid hov
  clear hs hu hhop hAn hA hm hN hov hK h64
  obtain ⟨W, hW⟩ : ∃ W, W = (w.alloc (.cells #[.int .u8 (o.k : Nat), .int .u32 (o.a : Nat), .int .u32 (o.b : Nat), .int .u32 (o.c : Nat)] 35)).alloc (.cells #[.int .i64 0, .int .u32 0, .slice none 0 0] 29) := ⟨_, rfl⟩
  have HRES : W.heap[w.heap.size + 1]? = some (.cells #[.int .i64 0, .int .u32 0, .slice none 0 0] 29 (0, 0)) := by
    rw [hW]
    exact heap_alloc_new (w.alloc (.cells #[.int .u8 (o.k : Nat), .int .u32 (o.a : Nat), .int .u32 (o.b : Nat), .int .u32 (o.c : Nat)] 35)) _ |> fun h => by simpa using h
  have hbW : Below w.heap.size w W := by rw [hW]; exact below_two _ _ _
  have hww : W.heap.size = w.heap.size + 2 := by rw [hW]; simp
  have hAx := Lib.hid (HAA.out.below hbW)
  have hMx := Lib.hid (MadeX.below HM.out hbW)
  have HW := Lib.hid hW
  obtain ⟨q, hq⟩ : ∃ q, w.heap.size = q := ⟨_, rfl⟩
  have HQ := Lib.hid hq
  rw [hq] at HRES hww
  clear hW hq
  rcases hget : Tb.get l K with _ | u
  · have ES := Lib.hid (show s = (l, 6, 0) by rw [← HS.out]; unfold remR; rw [hget])
    rw [hget] at HSK
    clear hget
    go_enter Tryd.func27, Tryd.ntmps27
    go_wp2_with (go_at_call 40; refine (HN.out _).mono ?_; rintro e w1 ⟨rfl, rfl⟩)
    rw [← HW.out]
    refine (HSK.out _ hAx.out).mono ?_
    rintro e w2 ⟨rfl, hb2⟩
    rw [HQ.out]
    have HR2 := Lib.hid ((hb2.block _ (by omega)).trans HRES)
    obtain ⟨r0, f0, r1, f1, r2, f2⟩ := res_cells HR2.out
    go_wp2
    have hb3 := hbW.trans (hb2.mono hbW.size)
    refine bodyPost_ret (v := .tuple #[.slice A N d, .agg #[.int .i64 6, .int .u32 0, .slice none 0 0]]) ?_ rfl ⟨.slice A N d, ?_, ?_, ?_⟩
    · simp [results, Tryd.results27, go_sem, r0, r1, r2]
    · rw [ES.out]; rfl
    · rw [ES.out]; exact made_stored3 (MadeX.below hMx.out hb2) (made_ne (MadeX.below hMx.out hb2) HR2.out (by decide)) _ _ _
    · have hq := HQ.out
      exact grown_set (grown_set (grown_set (grown_below hb3 _) (by omega) _ _) (by omega) _ _) (by omega) _ _
  · have HGT := Lib.hid hget
    rw [hget] at HSK
    clear hget
    have HIT := Lib.hid (up_there HC.out.1 HGT.out)
    obtain ⟨hpl, hlp⟩ := there_at HIT.out.1
    have hp : pos l K = (lo l K).length := rfl
    rw [hp] at HSK
    have hhop : u ≤ 2147483647 := HC.out.2 (K, u) (by rw [← hlp]; exact List.getElem_mem hpl)
    obtain ⟨p, hpp⟩ : ∃ p, (lo l K).length = p := ⟨_, rfl⟩
    obtain ⟨bk, off, eA, x0, x1⟩ := hAx.out.row hpl
    rw [hlp] at x0 x1
    rw [hpp] at HSK x0 x1
    have hpN : p < N := by rw [← hpp, ← HNL.out]; exact hpl
    have HPP := Lib.hid hpp
    obtain ⟨gA, rfl, hgB⟩ : ∃ gA, A = some ⟨gA, 0, none⟩ ∧ gA < q := by
      rcases (show _ from hMx.out).2 with ⟨h, _⟩ | ⟨g', cap', cur', h, _, h3, _⟩
      · injection h with h; rw [eA] at h; cases h
      · injection h with h
        exact ⟨g', h, by rw [← HQ.out]; exact HOV.out g' (by rw [h]; rfl)⟩
    injection eA with eA
    injection eA with e1 e2 _
    subst e1 e2
    clear hp hpp hpl hlp
    have i1 : (0 : Int) ≤ (p : Int) := by omega
    have i2 : (p : Int) < (N : Int) := by omega
    have HTE := Lib.hid (tell_any K u hhop)
    unfold resv at HTE
    obtain ⟨y, hy⟩ : ∃ y, (u + 1) % 4294967296 = y := ⟨_, rfl⟩
    rw [hy] at HTE
    have es : s = (cut l K, 0, (y : Int)) := by rw [← HS.out, ← hy]; unfold remR; rw [HGT.out]
    have ES := Lib.hid es
    clear es hy
    rw [Nat.zero_add] at x0 x1
    have hgq : gA < W.heap.size := by omega
    go_enter Tryd.func27, Tryd.ntmps27
    go_wp2_with (go_at_call 40; refine (HN.out _).mono ?_; rintro e w1 ⟨rfl, rfl⟩)
    rw [← HW.out]
    refine (HSK.out _ hAx.out).mono ?_
    rintro e w2 ⟨rfl, hb2⟩
    rw [HQ.out]
    replace x0 := (hb2.cell hgq).trans x0
    replace x1 := ((bcell hb2).1 _ _ hgq).trans x1
    have hb3 := Lib.hid (hbW.trans (hb2.mono hbW.size))
    have HR2 := Lib.hid ((hb2.block _ (by omega)).trans HRES)
    have hM2 := Lib.hid (MadeX.below hMx.out hb2)
    have hs2 := hb2.size
    go_wp2
    have HD := Lib.hid (show ∀ X, MadeX X B 24 2 rowL (.slice (some ⟨gA, 0, none⟩) N d) l → Calls Tryd.prog 44 #[.slice (some ⟨gA, 0, none⟩) N d, .int .i64 p, .int .i64 ((p : Int) + 1)] X (RetI (cut l K) B X (.slice (some ⟨gA, 0, none⟩) N d)) from fun X hX => by
      have h := delete_any X B (.slice (some ⟨gA, 0, none⟩) N d) (lo l K) (hi l K) (K, u) (by rw [← HIT.out.1, HNL.out]; omega) (by rw [← HIT.out.1]; exact hX) ((p : Int) + 1) (by rw [HPP.out])
      rw [HPP.out, ← cut_eq K HC.out.1] at h
      exact h)
    obtain ⟨W5, hW5⟩ : ∃ W5, W5 = w2.alloc (.cells #[.int .u64 (K : Nat), .int .u64 (u : Nat)] 24) := ⟨_, rfl⟩
    obtain ⟨g5, hg5⟩ : ∃ g, w2.heap.size = g := ⟨_, rfl⟩
    have HB5 := Lib.hid (show Below w2.heap.size w2 W5 by rw [hW5]; exact below_one _ _)
    have HR5 := Lib.hid (show W5.heap[q + 1]? = _ from (HB5.out.block _ (by omega)).trans HR2.out)
    have HX5 := Lib.hid (show W5.heap[g5]? = some (.cells #[.int .u64 (K : Nat), .int .u64 (u : Nat)] 24 (0, 0)) by rw [hW5, ← hg5]; exact heap_alloc_new w2 _)
    have hM5 := Lib.hid (show MadeX W5.drew B 24 2 rowL _ _ from MadeX.below (MadeX.below hM2.out HB5.out) ⟨rfl, rfl, rfl, Nat.le_refl _, fun _ _ => rfl⟩)
    rw [← hW5, hg5]
    have s5 : W5.heap.size = g5 + 1 := by rw [hW5, ← hg5]; simp
    have HB0 := Lib.hid (show w.grownBy W5.drew (some gA) from grown_below ((hb3.out.trans (HB5.out.mono (hb3.out.size))).drew) _)
    obtain ⟨k0, l0, k1, l1⟩ := two_cells HX5.out
    obtain ⟨r0, f0, r1, f1, r2, f2⟩ := res_cells HR5.out
    have n1 : q + 1 < W5.heap.size := by omega
    have n2 : g5 < W5.heap.size := by omega
    have n3 : ¬ q + 1 = gA := by omega
    have n4 : ¬ g5 = gA := by omega
    have hw : IntKind.i64.wrap ((p : Int) + 1) = (p : Int) + 1 := by rw [IntKind.wrap_i64]; omega
    have mixed : Tryd.prog.follows Departure.mixedOrders = true := by kernel_rfl
    clear hW5 x0 x1
    go_cut [4] (fun s4 wx => ∃ u4, s4 = u4 ∧ Hid (MadeX wx B 24 2 rowL u4 (cut l K) ∧ w.grownBy wx (some gA) ∧ wx.heap[q + 1]? = some (.cells #[.int .i64 0, .int .u32 y, .slice none 0 0] 29 (0, 0))))
    case first =>
      go_region_with (first
        | (go_at_call 44; refine (HD.out _ ?_).mono ?_; (first | with_reducible exact hM5.out | with_reducible exact MadeX.below hM5.out hb3); rintro e w4 ⟨v4, rfl, hM4, hg4⟩; (first | (have KN4 := Lib.hid (KeepN.grown (KeepN.drew W5 gA) hg4)) | (have KN4 := Lib.hid (KeepN.grown (KeepN.below (KeepN.drew W5 gA) hb3) hg4))); obtain ⟨r0', f0', r1', f1', r2', f2'⟩ := res_cells ((KN4.out.2 _ n1 n3).trans HR5.out); obtain ⟨k0', l0', k1', l1'⟩ := two_cells ((KN4.out.2 _ n2 n4).trans HX5.out); have HM4 := Lib.hid hM4; clear hM4)
        | (go_at_call 42; refine (HTE.out _).mono ?_; rintro e w3 ⟨rfl, hb3⟩; (first | (have KN3 := Lib.hid (KeepN.below (KeepN.drew W5 gA) hb3)) | (have KN3 := Lib.hid (KeepN.below (KeepN.grown (KeepN.drew W5 gA) hg4) hb3))); obtain ⟨r0'', f0'', r1'', f1'', r2'', f2''⟩ := res_cells ((KN3.out.2 _ n1 n3).trans HR5.out)))
      all_goals
        go_wp2_with fail
        go_meet
        have hm3 := MadeX.below HM4.out hb3
        have h3 := (KN3.out.2 _ n1 n3).trans HR5.out
        have hq := HQ.out
        refine ⟨_, rfl, Lib.hid ⟨made_stored3 hm3 (made_ne hm3 h3 (by decide)) _ _ _, ?_, res_set3 h3⟩⟩
        exact grown_set (grown_set (grown_set (grown_trans (grown_trans HB0.out hg4) (grown_below hb3 _)) (by omega) _ _) (by omega) _ _) (by omega) _ _
    case rest =>
      obtain ⟨u4, rfl, HU⟩ := hcut
      obtain ⟨hmc, hgc, hrc⟩ := HU.out
      obtain ⟨r0, f0, r1, f1, r2, f2⟩ := res_cells hrc
      have HMC := Lib.hid hmc
      clear hmc
      have HGC := Lib.hid hgc
      clear hgc
      go_wp2
      refine bodyPost_ret (v := .tuple #[u4, .agg #[.int .i64 0, .int .u32 y, .slice none 0 0]]) ?_ rfl ⟨u4, ?_, ?_, ?_⟩
      · simp [results, Tryd.results27, go_sem, r0, r1, r2]
      · rw [ES.out]; rfl
      · rw [ES.out]; exact HMC.out
      · exact HGC.out
end Go.Proofs.YtfjpcdcaoefelaaDoor

namespace Go.Proofs.YtfjpcdcaoefelaaDoor
open Go.RowKit Tb Pt Opn

/-- The prefix of a key that has so many bits less. -/
def pre (n a up : Nat) : Nat := 2 ^ (n - up) + a / 2 ^ up
theorem pre_eq {n a up : Nat} (h : up ≤ n) : (2 ^ n + a) / 2 ^ up = pre n a up := by
  unfold pre
  have e : 2 ^ n = 2 ^ (n - up) * 2 ^ up := by rw [← Nat.pow_add]; congr 1; omega
  rw [e, Nat.mul_comm, Nat.mul_add_div (Nat.pow_pos (by decide))]
theorem pre_some {l : List R} {n a up v : Nat} (h : up ≤ n) (hg : Tb.get l (pre n a up) = some v) (hn : ∀ j, j < up → Tb.get l (pre n a j) = none) : seek l n a n = some v := by
  refine seek_some (d := n - up) (by omega) ?_ fun e h1 h2 => ?_
  · rw [show n - (n - up) = up by omega]; exact hg
  · have := hn (n - e) (by omega)
    unfold pre at this
    rw [show n - (n - e) = e by omega] at this
    exact this
theorem pre_none {l : List R} {n a : Nat} (hn : ∀ j, j < n + 1 → Tb.get l (pre n a j) = none) : seek l n a n = none := seek_none fun e he => by
  have := hn (n - e) (by omega)
  unfold pre at this
  rw [show n - (n - e) = e by omega] at this
  exact this

set_option maxHeartbeats 4000000 in
set_option maxRecDepth 100000 in
theorem look_any (c : Cf) (n : Nat) (hb : c.bits = n) (hn : n ≤ 6) (A : Option Addr) (l : List R) (d : Nat) (o : O) (hoa : o.a < 2 ^ n) (hl : l.length ≤ 100000) (hu : Up l) (hv : ∀ x ∈ l, x.2 ≤ 2147483647) (w : World) (h : IsR w A l) :
    Calls Tryd.prog 28 #[cfv c, .slice A l.length d, opv o] w (Ret (resv (lookC (seek l n o.a n)) (lookV (seek l n o.a n)) none 0 0) w) := by
  have HN := Lib.hid (nodeOf_still n o.a hn hoa)
  have h64 : 2 ^ n ≤ 64 := Rk.pow_le n hn
  obtain ⟨K, hK⟩ : ∃ K, 2 ^ n + o.a = K := ⟨_, rfl⟩
  have hK7 : K < 128 := by omega
  have hdep : Rk.dep (K : Int) = n := by
    have := (match_at (n := n) (key := o.a) (e := n) (k := K) (Nat.le_refl _) hoa (by rw [Nat.sub_self, Nat.pow_zero, Nat.div_one]; exact hK.symm)).1
    unfold Rk.dep; simp [this]
  have hpos : 0 < 2 ^ n := Nat.pow_pos (by decide)
  have HO := Lib.hid (show ∀ (up : Nat) W, up ≤ n → Calls Tryd.prog 21 #[.int .i64 K, .int .i64 up] W (Ret2 (.int .i64 (pre n o.a up : Nat)) (.int .i64 0) W) from fun up W hup => by
    have h := over_any (K : Int) (up : Int) W
    rw [Rk.okO_t (decide_eq_true (by omega)) (by omega) (by rw [hdep]; omega)] at h
    rw [show Rk.val true (Rk.over (K : Int) (up : Int)) = ((pre n o.a up : Nat) : Int) by unfold Rk.val Rk.over; rw [if_pos rfl, Int.toNat_natCast, Int.toNat_natCast, ← hK, pre_eq hup]] at h
    exact h)
  have HP := Lib.hid (show ∀ up, up ≤ n → pre n o.a up < 128 from fun up hup => by
    rw [← pre_eq hup, hK]; exact Nat.lt_of_le_of_lt (Nat.div_le_self _ _) hK7)
  rw [hK] at HN
  obtain ⟨s, hs⟩ : ∃ s, seek l n o.a n = s := ⟨_, rfl⟩
  rw [hs]
  have HS := Lib.hid hs
  have HV := Lib.hid hv
  have HAA := Lib.hid h
  obtain ⟨N, hN⟩ : ∃ N, l.length = N := ⟨_, rfl⟩
  have HNL := Lib.hid hN
  have HU := Lib.hid hu
  have HSK := Lib.hid (fun k W hA => seek_any A l d (by omega) hu k W hA)
  rw [hN] at hl HSK ⊢
  clear hs hu hv h hN hK h64 hdep hpos
  unfold cfv opv resv
  rw [hb]
  obtain ⟨W, hW⟩ : ∃ W, W = ((w.alloc (.cells #[.int .u8 c.obj, .int .i64 c.inst, .int .i64 c.thr, .int .u8 c.kind, .int .i64 c.str, .int .i64 (n : Nat), .int .i64 c.cap, .int .i64 c.node, .int .i64 c.bat, .int .i64 c.chunk, .int .u64 c.lim, .int .u64 c.most] 33)).alloc (.cells #[.int .u8 (o.k : Nat), .int .u32 (o.a : Nat), .int .u32 (o.b : Nat), .int .u32 (o.c : Nat)] 35)).alloc (.cells #[.int .i64 0, .int .u32 0, .slice none 0 0] 29) := ⟨_, rfl⟩
  have hbW : Below w.heap.size w W := by rw [hW]; exact below_three _ _ _ _
  have hww : W.heap.size = w.heap.size + 3 := by rw [hW]; simp
  have HRES : W.heap[w.heap.size + 1 + 1]? = some (.cells #[.int .i64 0, .int .u32 0, .slice none 0 0] 29 (0, 0)) := by
    rw [hW]
    exact heap_alloc_new ((w.alloc (.cells #[.int .u8 c.obj, .int .i64 c.inst, .int .i64 c.thr, .int .u8 c.kind, .int .i64 c.str, .int .i64 (n : Nat), .int .i64 c.cap, .int .i64 c.node, .int .i64 c.bat, .int .i64 c.chunk, .int .u64 c.lim, .int .u64 c.most] 33)).alloc (.cells #[.int .u8 (o.k : Nat), .int .u32 (o.a : Nat), .int .u32 (o.b : Nat), .int .u32 (o.c : Nat)] 35)) _ |> fun h => by simpa using h
  have HAx := Lib.hid (HAA.out.below hbW)
  have HW := Lib.hid hW
  have hw1 : IntKind.i64.wrap ((n : Int) + 1) = ((n + 1 : Nat) : Int) := by rw [IntKind.wrap_i64]; omega
  have hw2 : IntKind.i64.wrap ((K : Nat) : Int) = (K : Int) := by rw [IntKind.wrap_i64]; omega
  clear hW
  go_enter Tryd.func28, Tryd.ntmps28
  go_wp2_with (go_at_call 40; refine (HN.out _).mono ?_; rintro e w1 ⟨rfl, rfl⟩)
  rw [← HW.out]
  go_loopw [23] (fun iv wr => Below W.heap.size W wr ∧ ∃ j : Nat, j ≤ n + 1 ∧ iv = .int .i64 j ∧ Hid (∀ i, i < j → Tb.get l (pre n o.a i) = none)) (fun i _ => n + 1 - (intOf i).toNat)
  case atStart => exact ⟨Below.refl _ _, 0, by omega, rfl, Lib.hid fun i hi => by omega⟩
  case round =>
    obtain ⟨hbr, j, hj, rfl, HJ⟩ := hrel
    have i1 : (0 : Int) ≤ (j : Int) := by omega
    have hsr := hbr.size
    have HR := Lib.hid ((hbr.block _ (by omega)).trans HRES)
    by_cases hlt : j < n + 1
    · have i2 : (j : Int) < ((n + 1 : Nat) : Int) := by omega
      have i2' : (j : Int) < (n : Int) + 1 := by omega
      have HOj := Lib.hid (fun X => HO.out j X (by omega))
      have hP := HP.out j (by omega)
      obtain ⟨k, hk⟩ : ∃ k, pre n o.a j = k := ⟨_, rfl⟩
      rw [hk] at HOj hP
      have HK := Lib.hid hk
      have HSj := Lib.hid (fun X hA => HSK.out k X hA)
      clear hk
      rcases hget : Tb.get l k with _ | u
      · rw [hget] at HSj
        have HGT := Lib.hid hget
        clear hget
        go_wp2_with (first
          | (go_at_call 21; refine (HOj.out _).mono ?_; rintro e w2 ⟨rfl, hb2⟩)
          | (go_at_call 41; refine (HSj.out _ (HAx.out.below (below_then hbr hb2))).mono ?_; rintro e w3 ⟨rfl, hb3⟩))
        go_roundw
        case rel => exact ⟨below_then (below_then hbr hb2) hb3, j + 1, by omega, by go_num, Lib.hid fun i hi => by
          by_cases e : i = j
          · subst e; rw [HK.out]; exact HGT.out
          · exact HJ.out i (by omega)⟩
        case measure => simp [intOf]; omega
      · have hsk := pre_some (by omega) (by rw [HK.out]; exact hget) HJ.out
        obtain ⟨hm, hm1, hm2⟩ : ∃ hm : pos l k < l.length, (l[pos l k]'hm).1 = k ∧ Tb.get l k = some (l[pos l k]'hm).2 := by
          rcases pos_get HU.out k with ⟨e, _⟩ | h
          · rw [hget] at e; cases e
          · exact h
        rw [hget] at hm2
        have hu2 : (l[pos l k]'hm).2 = u := by injection hm2 with h; exact h.symm
        have hhop : u ≤ 2147483647 := by rw [← hu2]; exact HV.out _ (List.getElem_mem hm)
        have HTE := Lib.hid (tell_any k u hhop)
        unfold resv at HTE
        obtain ⟨bk, off, rfl, x0, x1⟩ := HAx.out.row hm
        rw [hm1] at x0
        rw [hu2] at x1
        rw [hget] at HSj
        have hmN : pos l k < N := by rw [← HNL.out]; exact hm
        have e1 : lookC s = 0 := by rw [← HS.out, hsk]; rfl
        have e2 : lookV s = ((u + 1) % 4294967296 : Nat) := by rw [← HS.out, hsk]; rfl
        rw [e1, e2]
        clear hget hsk hm1 hm2 hu2 e1 e2 hm
        generalize pos l k = p at *
        generalize (u + 1) % 4294967296 = y at *
        have p1 : (0 : Int) ≤ (p : Int) := by omega
        have p2 : (p : Int) < (N : Int) := by omega
        have hx := World.block_lt_of_cell? _ _ x0
        go_wp2_with (first
          | (go_at_call 21; refine (HOj.out _).mono ?_; rintro e w2 ⟨rfl, hb2⟩)
          | (go_at_call 41; refine (HSj.out _ (HAx.out.below (below_then hbr hb2))).mono ?_; rintro e w3 ⟨rfl, hb3⟩; replace hb3 := below_then (below_then hbr hb2) hb3; replace x0 := (hb3.cell hx).trans x0; replace x1 := ((bcell hb3).1 _ _ hx).trans x1)
          | (go_at_call 42; refine (HTE.out _).mono ?_; rintro e w4 ⟨rfl, hb4⟩; have HR4 := Lib.hid (((below_then hb3 hb4).block (w.heap.size + 1 + 1) (by omega)).trans HRES); obtain ⟨r0, f0, r1, f1, r2, f2⟩ := res_cells HR4.out))
        refine bodyPost_ret (v := .agg #[.int .i64 0, .int .u32 y, .slice none 0 0]) ?_ rfl ⟨rfl, ?_⟩
        · simp [results, Tryd.results28, go_sem, r0, r1, r2]
        · have h4 := hbW.trans ((below_then hb3 hb4).mono hbW.size)
          exact ((h4.setCell (by show w.heap.size ≤ w.heap.size + 1 + 1; omega) _).setCell (by show w.heap.size ≤ w.heap.size + 1 + 1; omega) _).setCell (by show w.heap.size ≤ w.heap.size + 1 + 1; omega) _
    · obtain rfl : j = n + 1 := by omega
      have hsk := pre_none HJ.out
      have e1 : lookC s = 6 := by rw [← HS.out, hsk]; rfl
      have e2 : lookV s = 0 := by rw [← HS.out, hsk]; rfl
      have HE := Lib.hid (And.intro e1 e2)
      clear hsk e1 e2
      obtain ⟨r0, f0, r1, f1, r2, f2⟩ := res_cells HR.out
      go_wp2
      refine bodyPost_ret (v := .agg #[.int .i64 6, .int .u32 0, .slice none 0 0]) ?_ rfl ⟨by rw [HE.out.1, HE.out.2], ?_⟩
      · simp [results, Tryd.results28, go_sem, r0, r1, r2]
      · have h4 := hbW.trans (hbr.mono hbW.size)
        exact ((h4.setCell (by show w.heap.size ≤ w.heap.size + 1 + 1; omega) _).setCell (by show w.heap.size ≤ w.heap.size + 1 + 1; omega) _).setCell (by show w.heap.size ≤ w.heap.size + 1 + 1; omega) _
end Go.Proofs.YtfjpcdcaoefelaaDoor
