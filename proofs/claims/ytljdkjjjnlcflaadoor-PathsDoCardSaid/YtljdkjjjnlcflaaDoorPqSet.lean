/- The program's own setting of a path: it turns rows of its caller's own. -/
import Derived.Test.YtljdkjjjnlcflaaDoorPqPut
import Derived.Test.YtljdkjjjnlcflaaDoorPqSeek
import Derived.Deep.DeepCutAuto
import Derived.Deep.RegionHeld3
namespace Go.Proofs.YtljdkjjjnlcflaaDoor
open Go.RowKit Go.Lib Tb Pt Opn

/-- What a setting does. -/
def setS (cap : Nat) (l : List R) (k v : Nat) : List R × Int × Int := match Tb.get l k with
  | some u => (put l k (v + 1), 0, ((u : Nat) : Int))
  | none => if cap < (mk 3 l k).length then (l, 9, 0) else (setR l k v, 0, 0)

set_option maxHeartbeats 8000000 in
set_option maxRecDepth 100000 in
theorem pset_any (c : Cf) (cap : Nat) (hcc : c.cap = cap) (o : O) (ho : Wf o) (hK0 : pth o ≠ 0) (w : World) (B : Nat) (hB : B ≤ w.heap.size) (v : Value) (l : List R) (hl : l.length ≤ 100000) (hu : Up l) (hw64 : ∀ x ∈ l, x.1 < 18446744073709551616) (hhop : ∀ x ∈ l, x.2 ≤ 2147483648) (hm : MadeX w B 24 2 rowL v l) :
    Calls Tryd.prog 25 #[cfv c, v, opv o] w (Own4 (setS cap l (pth o) o.c) B w v) := by
  have hKlt : pth o < 18446744073709551616 := by unfold Wf at ho; unfold pth; omega
  have HNM := Lib.hid (fun W => qNamed_any o ho W)
  have HKY := Lib.hid (fun W => qKey_any (o.a % 65536) (o.a / 65536) o.b (pth o) rfl hKlt W)
  have HSE := Lib.hid (fun A l d hl hu W hA => pseek_any A l d hl hu o ho W hA)
  generalize o.a % 65536 = na at *
  generalize o.a / 65536 = nb at *
  obtain ⟨K, hK⟩ : ∃ K, pth o = K := ⟨_, rfl⟩
  obtain ⟨V, hV⟩ : ∃ V, o.c = V := ⟨_, rfl⟩
  have hV32 : V < 4294967296 := by rw [← hV]; exact ho.2.2.2
  have hVw : IntKind.u64.wrap (V : Int) = (V : Int) := by rw [IntKind.wrap_u64]; omega
  obtain ⟨Z, hZ⟩ : ∃ Z, V + 1 = Z := ⟨_, rfl⟩
  have hVz : IntKind.u64.wrap ((V : Int) + 1) = (Z : Int) := by rw [IntKind.wrap_u64]; omega
  have HZ := Lib.hid hZ
  have HM := Lib.hid hm
  obtain ⟨A, d, rfl, ⟨hd1, hd2⟩, hAn, hA⟩ := hm.form rowL_len
  rw [hK] at HSE HKY hK0 hKlt ⊢
  have HWA := Lib.hid (fun W => withAbove_any K Z hK0 hKlt (by omega) W)
  have HLA := Lib.hid (fun b n m W hA hm => lacking_any b n m A l d (by omega) hw64 W hA hm)
  have HK0 := Lib.hid (And.intro hK0 hKlt)
  unfold cfv opv at *
  rw [hV] at HSE HNM ⊢
  rw [hcc]
  obtain ⟨s, hs⟩ : ∃ s, setS cap l K V = s := ⟨_, rfl⟩
  rw [hs]
  have HS := Lib.hid hs
  have HC := Lib.hid (And.intro hu hhop)
  have HAA := Lib.hid hA
  obtain ⟨N, hN⟩ : ∃ N, l.length = N := ⟨_, rfl⟩
  have HNL := Lib.hid hN
  have HSK := Lib.hid (fun W hA => HSE.out A l d (by omega) hu W hA)
  rw [hN] at hl hd1 HM HSK HLA ⊢
  have hov : ∀ b, (Value.slice A N d).ownBlock = some b → b < w.heap.size := fun b hb => (MadeX.lt HM.out b (by rw [hN] at *; exact hb)).2
  have HOV := Lib.hid hov
  clear hs hu hhop hAn hA hm hN hov hV hcc hK HSE hw64 hK0 hKlt hZ
  go_enter Tryd.func25, Tryd.ntmps25
  go_wp2_with fail
  obtain ⟨W, hW⟩ : ∃ W, W = ((w.alloc (.cells #[.int .u8 c.obj, .int .i64 c.inst, .int .i64 c.thr, .int .u8 c.kind, .int .i64 c.str, .int .i64 c.bits, .int .i64 (cap : Nat), .int .i64 c.node, .int .i64 c.bat, .int .i64 c.chunk, .int .u64 c.lim, .int .u64 c.most] 33)).alloc (.cells #[.int .u8 (o.k : Nat), .int .u32 (o.a : Nat), .int .u32 (o.b : Nat), .int .u32 (V : Nat)] 35)).alloc (.cells #[.int .i64 0, .int .u32 0, .slice none 0 0] 29) := ⟨_, rfl⟩
  have hb2 : Below w.heap.size w W := by rw [hW]; exact below_three _ _ _ _
  rw [← hW]
  have hcap : W.cell? ⟨w.heap.size, 6, none⟩ = some (.int .i64 (cap : Nat)) := by rw [hW]; simp [go_sem]
  have a0 : W.cell? ⟨w.heap.size + 1, 0, none⟩ = some (.int .u8 (o.k : Nat)) := by rw [hW]; simp [go_sem]
  have a1 : W.cell? ⟨w.heap.size + 1, 1, none⟩ = some (.int .u32 (o.a : Nat)) := by rw [hW]; simp [go_sem]
  have a2 : W.cell? ⟨w.heap.size + 1, 2, none⟩ = some (.int .u32 (o.b : Nat)) := by rw [hW]; simp [go_sem]
  have a3 : W.cell? ⟨w.heap.size + 1, 3, none⟩ = some (.int .u32 (V : Nat)) := by rw [hW]; simp [go_sem]
  have HRES : W.heap[w.heap.size + 1 + 1]? = some (.cells #[.int .i64 0, .int .u32 0, .slice none 0 0] 29 (0, 0)) := by
    rw [hW]; exact third_new _ _ _ _
  have hww : W.heap.size = w.heap.size + 3 := by rw [hW]; simp
  obtain ⟨q, hq⟩ : ∃ q, w.heap.size = q := ⟨_, rfl⟩
  have HB2 := Lib.hid hb2
  have HQ := Lib.hid hq
  rw [hq] at a0 a1 a2 a3 hcap hww HRES ⊢
  have hAx := Lib.hid (HAA.out.below hb2)
  have hMx := Lib.hid (MadeX.below HM.out hb2)
  clear hW hb2 hq
  refine (HSK.out W hAx.out).mono ?_
  rintro e w2 ⟨rfl, hb2⟩
  have HR2 := Lib.hid ((hb2.block _ (by omega)).trans HRES)
  have HB3 := Lib.hid (HB2.out.trans (hb2.mono HB2.out.size))
  replace a0 := (hb2.cell (World.block_lt_of_cell? _ _ a0)).trans a0
  replace a1 := (hb2.cell (World.block_lt_of_cell? _ _ a1)).trans a1
  replace a2 := (hb2.cell (World.block_lt_of_cell? _ _ a2)).trans a2
  replace a3 := (hb2.cell (World.block_lt_of_cell? _ _ a3)).trans a3
  replace hcap := (hb2.cell (World.block_lt_of_cell? _ _ hcap)).trans hcap
  have hs2 : q + 3 ≤ w2.heap.size := by have := hb2.size; omega
  have hM2 := Lib.hid (MadeX.below hMx.out hb2)
  have hA2 := Lib.hid (hAx.out.below hb2)
  clear hb2 HSK hww hAx hMx HRES
  rcases hget : Tb.get l K with _ | u
  · have HGT := Lib.hid hget
    clear hget
    simp only [Option.isSome]
    obtain ⟨p, hp⟩ : ∃ p, pos l K = p := ⟨_, rfl⟩
    rw [hp]
    clear hp
    go_wp2_with fail
    refine (HNM.out w2).mono ?_
    rintro e w3 ⟨rfl, hb3⟩
    go_wp2_with fail
    refine (HKY.out w3).mono ?_
    rintro e w4 ⟨rfl, hb4⟩
    go_wp2_with fail
    refine (HWA.out w4).mono ?_
    rintro e w5 ⟨b, rfl, hbb, hM5, hb5⟩
    have hb35 := below_then (below_then hb3 hb4) hb5
    have hA5 := Lib.hid (hA2.out.below hb35)
    have HM5 := Lib.hid hM5
    have HL5 := Lib.hid (hM2.out.below hb35)
    clear hM5
    go_wp2_with fail
    refine (HLA.out b 3 _ w5 hA5.out HM5.out).mono ?_
    rintro e w6 ⟨rfl, hM6, hg6⟩
    have hbw2 : w2.heap.size ≤ b := by have := hb3.size; have := hb4.size; omega
    have hb6 := hb35.grown hg6 hb35.size (fun j hj => by injection hj with hj; rw [← hj]; exact hbw2)
    have HL6 := Lib.hid (HL5.out.grown hg6 (made_map_ne HL5.out HM5.out))
    have HR6 := Lib.hid ((hb6.block (q + 1 + 1) (by omega)).trans HR2.out)
    replace hcap := (hb6.cell (World.block_lt_of_cell? _ _ hcap)).trans hcap
    have HB6 := Lib.hid (HB3.out.trans (hb6.mono HB3.out.size))
    have hs6 : q + 3 ≤ w6.heap.size := Nat.le_trans hs2 hb6.size
    have HM6 := Lib.hid hM6
    clear hM6 hg6 hb6 hb35 hb3 hb4 hb5 a0 a1 a2 a3 HNM HKY HWA HLA HL5 HM5 hA5
    have hcount := set_count HC.out.1 HK0.out.1 V HGT.out
    have hperm := set_perm HC.out.1 HK0.out.1 V HGT.out
    have hpos := List.length_pos_of_mem (lack_pos (v := Z) HGT.out)
    rw [HZ.out] at hcount hperm
    have hmle : (lack l (chainM K Z)).length ≤ 3 := Nat.le_trans (List.length_filter_le _ _) (chain_len K Z)
    have HPT := Lib.hid (fun W (hB2 : B ≤ W.heap.size) hm hM => putIn_any W B hB2 (.slice A N d) l (setR l K V) (lack l (chainM K Z)) b 3 (by rw [HNL.out]; exact hl) (by omega) hpos (up_set HC.out.1 K V) hperm.symm hm hM)
    obtain ⟨D, hown, hrep⟩ := HM6.out
    have HOW := Lib.hid hown
    have HSZ := Lib.hid hrep.size
    rw [HNL.out] at hcount
    obtain ⟨M, hMM⟩ : ∃ M, (lack l (chainM K Z)).length = M := ⟨_, rfl⟩
    have HMM := Lib.hid hMM
    rw [hMM] at hcount hmle HSZ
    have hadd : IntKind.i64.wrap ((N : Int) + (M : Int)) = (N : Int) + (M : Int) := by rw [IntKind.wrap_i64]; omega
    have HCT := Lib.hid hcount
    clear hown hrep hMM hcount hperm hpos
    by_cases hfull : cap < N + M
    · have hcn : (N : Int) + (M : Int) > (cap : Int) := by omega
      obtain ⟨r0, f0, r1, f1, r2, f2⟩ := res_cells HR6.out
      have es : s = (l, 9, 0) := by rw [← HS.out]; unfold setS; rw [HGT.out]; simp only; rw [if_pos (by rw [← HCT.out]; exact hfull)]
      go_wp2_with (at_len; refine wpList_len_own _ rfl _ 68 rfl 22 22 Tryd.underlying68 _ b 3 D rfl HOW.out ?_; rw [HSZ.out])
      refine bodyPost_ret (v := .tuple #[.slice A N d, .agg #[.int .i64 9, .int .u32 0, .slice none 0 0]]) ?_ rfl ⟨.slice A N d, ?_, ?_, ?_⟩
      · simp [results, Tryd.results25, go_sem, r0, r1, r2]
      · rw [es]; rfl
      · rw [es]; exact made_stored3 HL6.out (made_ne HL6.out HR6.out (by decide)) _ _ _
      · have hq := HQ.out
        exact grown_set (grown_set (grown_set (grown_below HB6.out _) (by omega) _ _) (by omega) _ _) (by omega) _ _
    · have hcn : ¬ (N : Int) + (M : Int) > (cap : Int) := by omega
      have ES := Lib.hid (show s = (setR l K V, 0, 0) by rw [← HS.out]; unfold setS; rw [HGT.out]; simp only; rw [if_neg (by rw [← HCT.out]; exact hfull)])
      go_wp2_with (first
        | (at_len; refine wpList_len_own _ rfl _ 68 rfl 22 22 Tryd.underlying68 _ b 3 D rfl HOW.out ?_; rw [HSZ.out])
        | (go_at_call 48
           refine (HPT.out w6 (by have := HQ.out; omega) HL6.out HM6.out).mono ?_
           rintro e w7 ⟨u, rfl, hM7, hg7⟩
           have HR7 := Lib.hid ((hg7.block (q + 1 + 1) (by omega) (fun e => by have := HOV.out _ e.symm; have := HQ.out; omega)).trans HR6.out)
           obtain ⟨r0, f0, r1, f1, r2, f2⟩ := res_cells HR7.out
           have HM7 := Lib.hid hM7
           clear hM7))
      refine bodyPost_ret (v := .tuple #[u, .agg #[.int .i64 0, .int .u32 0, .slice none 0 0]]) ?_ rfl ⟨u, ?_, ?_, ?_⟩
      · simp [results, Tryd.results25, go_sem, r0, r1, r2]
      · rw [ES.out]; rfl
      · rw [ES.out]; exact made_stored3 HM7.out (made_ne HM7.out HR7.out (by decide)) _ _ _
      · have hq := HQ.out
        exact grown_set (grown_set (grown_set (grown_trans (grown_below HB6.out _) hg7) (by omega) _ _) (by omega) _ _) (by omega) _ _
  · have HGT := Lib.hid hget
    clear hget HNM HKY HWA HLA
    simp only [Option.isSome]
    have HIT := Lib.hid (up_there HC.out.1 HGT.out)
    obtain ⟨hpl, hlp⟩ := there_at HIT.out.1
    have hp : pos l K = (lo l K).length := rfl
    rw [hp]
    have hhop : u ≤ 2147483648 := HC.out.2 (K, u) (by rw [← hlp]; exact List.getElem_mem hpl)
    obtain ⟨p, hpp⟩ : ∃ p, (lo l K).length = p := ⟨_, rfl⟩
    obtain ⟨bk, off, eA, x0, x1⟩ := hA2.out.row hpl
    rw [hlp] at x0 x1
    rw [hpp] at x0 x1 ⊢
    have hpN : p < N := by rw [← hpp, ← HNL.out]; exact hpl
    have HPP := Lib.hid hpp
    obtain ⟨gA, rfl, hgA, hgB⟩ : ∃ gA, A = some ⟨gA, 0, none⟩ ∧ (∀ o, w2.frozen? ⟨gA, o, none⟩ = false) ∧ gA < q := by
      rcases (show _ from hM2.out).2 with ⟨h, _⟩ | ⟨g', cap', cur', h, _, h3, _⟩
      · injection h with h; rw [eA] at h; cases h
      · injection h with h
        exact ⟨g', h, (alloc_shape h3).2, by rw [← HQ.out]; exact HOV.out g' (by rw [h]; rfl)⟩
    injection eA with eA
    injection eA with e1 e2 _
    subst e1 e2
    clear hp hpp hpl hlp
    have i1 : (0 : Int) ≤ (p : Int) := by omega
    have i2 : (p : Int) < (N : Int) := by omega
    have huw : IntKind.u32.wrap (u : Int) = (u : Int) := by rw [IntKind.wrap_u32]; omega
    have es : s = (put l K Z, 0, (u : Int)) := by rw [← HS.out]; unfold setS; rw [HGT.out]; simp only; rw [HZ.out]
    have ES := Lib.hid es
    clear es
    rw [Nat.zero_add] at x0 x1
    have fz1 := hgA (p * 2 + 1)
    have hgq : gA < w2.heap.size := by omega
    have hq2 : q + 1 + 1 < w2.heap.size := by omega
    have HR3 := Lib.hid ((Below.heap_setCell w2 ⟨gA, p * 2 + 1, none⟩ (.int .u64 (Z : Nat)) (q + 1 + 1) (by simp; omega)).trans HR2.out)
    obtain ⟨r0, f0, r1, f1, r2, f2⟩ := res_cells HR3.out
    clear a0 a1 a2 a3 hcap
    go_wp2
    have hb4 := grown_below HB3.out (some gA)
    have hm2 : MadeX w2 B 24 2 rowL (.slice (some ⟨gA, 0, none⟩) N d) (lo l K ++ (K, u) :: hi l K) := by rw [← HIT.out.1]; exact hM2.out
    have hmt := made_turned1 (v := Z) (by rw [← HIT.out.1]; exact HNL.out) hm2
    rw [HPP.out] at hmt
    refine bodyPost_ret (v := .tuple #[.slice (some ⟨gA, 0, none⟩) N d, .agg #[.int .i64 0, .int .u32 u, .slice none 0 0]]) ?_ rfl ⟨.slice (some ⟨gA, 0, none⟩) N d, ?_, ?_, ?_⟩
    · simp [results, Tryd.results25, go_sem, r0, r1, r2]
    · rw [ES.out]; rfl
    · rw [ES.out]; exact made_stored3 hmt (made_ne hmt HR3.out (by decide)) _ _ _
    · have hq := HQ.out
      refine grown_set (grown_set (grown_set ?_ (by omega) _ _) (by omega) _ _) (by omega) _ _
      have h5 : w2.grownBy (w2.setCell ⟨gA, p * 2 + 1, none⟩ (.int .u64 (Z : Nat))) (some gA) := ⟨rfl, rfl, rfl, by simp [World.setCell], fun i hi hne => Below.heap_setCell _ ⟨gA, _, none⟩ _ i (fun e => hne (by rw [e]))⟩
      exact grown_trans hb4 h5
end Go.Proofs.YtljdkjjjnlcflaaDoor
