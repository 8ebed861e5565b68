/- The program's own addition of a rule: it turns rows of its caller's own. -/
import Derived.Test.YtfkkeokmkhjpfaaDoorRowProg
import Derived.Test.YtfkkeokmkhjpfaaDoorRuSeek
import Derived.Deep.DeepCutAuto
import Derived.Deep.RegionHeld3
namespace Go.Proofs.YtfkkeokmkhjpfaaDoor
open Go.RowKit Go.Lib Tb Pt Opn

/-- What an addition does. -/
def addU (cap : Nat) (l : List R) (k v : Nat) : List R × Int × Int := match Tb.get l k with
  | some u => (put l k v, 0, ((u : Nat) : Int))
  | none => if cap ≤ l.length then (l, 9, 0) else (put l k v, 0, 0)

set_option maxHeartbeats 4000000 in
set_option maxRecDepth 100000 in
theorem uadd_any (c : Cf) (cap : Nat) (hcc : c.cap = cap) (o : O) (ho : Wf o) (w : World) (B : Nat) (hB : B ≤ w.heap.size) (v : Value) (l : List R) (hl : l.length ≤ 100000) (hlc : l.length ≤ cap) (hu : Up l) (hhop : ∀ x ∈ l, x.2 ≤ 2147483647) (hm : MadeX w B 24 2 rowL v l) :
    Calls Tryd.prog 24 #[cfv c, v, opv o] w (Own4 (addU cap l (keyU o) o.c) B w v) := by
  have HKY := Lib.hid (fun W => key_any o.a o.b ho.2.1 ho.2.2.1 W)
  have HSE := Lib.hid (fun A l d hl hu W hA => useek_any A l d hl hu o ho W hA)
  obtain ⟨K, hK⟩ : ∃ K, keyU o = K := ⟨_, rfl⟩
  obtain ⟨V, hV⟩ : ∃ V, o.c = V := ⟨_, rfl⟩
  have hV32 : V < 4294967296 := by rw [← hV]; exact ho.2.2.2
  have hVw : IntKind.u64.wrap (V : Int) = (V : Int) := by rw [IntKind.wrap_u64]; omega
  have HM := Lib.hid hm
  obtain ⟨A, d, rfl, ⟨hd1, hd2⟩, hAn, hA⟩ := hm.form rowL_len
  rw [hK] at HSE ⊢
  have hK2 : o.a * 65536 + o.b = K := hK
  rw [hK2] at HKY
  unfold cfv opv at *
  rw [hV] at HSE ⊢
  rw [hcc]
  obtain ⟨s, hs⟩ : ∃ s, addU cap l K V = s := ⟨_, rfl⟩
  rw [hs]
  have HS := Lib.hid hs
  have HC := Lib.hid (And.intro hu hhop)
  have HAA := Lib.hid hA
  obtain ⟨N, hN⟩ : ∃ N, l.length = N := ⟨_, rfl⟩
  have HNL := Lib.hid hN
  have HSK := Lib.hid (fun W hA => HSE.out A l d (by omega) hu W hA)
  rw [hN] at hl hlc hd1 HM HSK ⊢
  have hov : ∀ b, (Value.slice A N d).ownBlock = some b → b < w.heap.size := fun b hb => (MadeX.lt HM.out b (by rw [hN] at *; exact hb)).2
  have HOV := Lib.hid hov
  clear hs hu hhop hAn hA hm hN hov hV hcc hK hK2 HSE
  go_enter Tryd.func24, Tryd.ntmps24
  go_wp2_with fail
  obtain ⟨W, hW⟩ : ∃ W, W = ((w.alloc (.cells #[.int .u8 c.obj, .int .i64 c.inst, .int .i64 c.thr, .int .u8 c.kind, .int .i64 c.str, .int .i64 c.bits, .int .i64 (cap : Nat), .int .i64 c.node, .int .i64 c.bat, .int .i64 c.chunk, .int .u64 c.lim, .int .u64 c.most] 33)).alloc (.cells #[.int .u8 (o.k : Nat), .int .u32 (o.a : Nat), .int .u32 (o.b : Nat), .int .u32 (V : Nat)] 35)).alloc (.cells #[.int .i64 0, .int .u32 0, .slice none 0 0] 29) := ⟨_, rfl⟩
  have hb2 : Below w.heap.size w W := by rw [hW]; exact below_three _ _ _ _
  rw [← hW]
  have hcap : W.cell? ⟨w.heap.size, 6, none⟩ = some (.int .i64 (cap : Nat)) := by rw [hW]; simp [go_sem]
  have a1 : W.cell? ⟨w.heap.size + 1, 1, none⟩ = some (.int .u32 (o.a : Nat)) := by rw [hW]; simp [go_sem]
  have a2 : W.cell? ⟨w.heap.size + 1, 2, none⟩ = some (.int .u32 (o.b : Nat)) := by rw [hW]; simp [go_sem]
  have a3 : W.cell? ⟨w.heap.size + 1, 3, none⟩ = some (.int .u32 (V : Nat)) := by rw [hW]; simp [go_sem]
  have HRES : W.heap[w.heap.size + 1 + 1]? = some (.cells #[.int .i64 0, .int .u32 0, .slice none 0 0] 29 (0, 0)) := by
    rw [hW]
    exact heap_alloc_new ((w.alloc (.cells #[.int .u8 c.obj, .int .i64 c.inst, .int .i64 c.thr, .int .u8 c.kind, .int .i64 c.str, .int .i64 c.bits, .int .i64 (cap : Nat), .int .i64 c.node, .int .i64 c.bat, .int .i64 c.chunk, .int .u64 c.lim, .int .u64 c.most] 33)).alloc (.cells #[.int .u8 (o.k : Nat), .int .u32 (o.a : Nat), .int .u32 (o.b : Nat), .int .u32 (V : Nat)] 35)) _ |> fun h => by simpa using h
  have hww : W.heap.size = w.heap.size + 3 := by rw [hW]; simp
  obtain ⟨q, hq⟩ : ∃ q, w.heap.size = q := ⟨_, rfl⟩
  have HB2 := Lib.hid hb2
  have HQ := Lib.hid hq
  rw [hq] at a1 a2 a3 hcap hww HRES ⊢
  have hAx := Lib.hid (HAA.out.below hb2)
  have hMx := Lib.hid (MadeX.below HM.out hb2)
  clear hW hb2 hq
  refine (HSK.out W hAx.out).mono ?_
  rintro e w2 ⟨rfl, hb2⟩
  have HR2 := Lib.hid ((hb2.block _ (by omega)).trans HRES)
  have HB3 := Lib.hid (HB2.out.trans (hb2.mono HB2.out.size))
  replace a1 := (hb2.cell (World.block_lt_of_cell? _ _ a1)).trans a1
  replace a2 := (hb2.cell (World.block_lt_of_cell? _ _ a2)).trans a2
  replace a3 := (hb2.cell (World.block_lt_of_cell? _ _ a3)).trans a3
  replace hcap := (hb2.cell (World.block_lt_of_cell? _ _ hcap)).trans hcap
  have hs2 : q + 3 ≤ w2.heap.size := by have := hb2.size; omega
  have hM2 := Lib.hid (MadeX.below hMx.out hb2)
  have hA2 := Lib.hid (hAx.out.below hb2)
  clear hb2 HSK hww hAx hMx HRES
  rcases hget : Tb.get l K with _ | u
  · have HGT := Lib.hid hget
    clear hget
    simp only [Option.isSome]
    obtain ⟨p, hp⟩ : ∃ p, pos l K = p := ⟨_, rfl⟩
    rw [hp]
    have HPP := Lib.hid (show (lo l K).length = p from hp)
    clear hp
    by_cases hfull : cap ≤ N
    · have hcn : (N : Int) = (cap : Int) := by omega
      obtain ⟨r0, f0, r1, f1, r2, f2⟩ := res_cells HR2.out
      go_wp2
      have es : s = (l, 9, 0) := by rw [← HS.out]; unfold addU; rw [HGT.out, if_pos (by rw [HNL.out]; exact hfull)]
      refine bodyPost_ret (v := .tuple #[.slice A N d, .agg #[.int .i64 9, .int .u32 0, .slice none 0 0]]) ?_ rfl ⟨.slice A N d, ?_, ?_, ?_⟩
      · simp [results, Tryd.results24, go_sem, r0, r1, r2]
      · rw [es]; rfl
      · rw [es]; exact made_stored3 hM2.out (made_ne hM2.out HR2.out (by decide)) _ _ _
      · have hq := HQ.out
        exact grown_set (grown_set (grown_set (grown_below HB3.out _) (by omega) _ _) (by omega) _ _) (by omega) _ _
    · have hcn : ¬ (N : Int) = (cap : Int) := by omega
      have HEL := Lib.hid (up_miss HC.out.1 HGT.out)
      go_wp2_with fail
      refine (HKY.out w2).mono ?_
      rintro e w1 ⟨rfl, hw1⟩
      cases hw1
      go_wp2_with (go_at_call 37
                   have hins := insert_any _ B (by have := HQ.out; simp; omega) _ (lo l K) (hi l K) (K, V) (by rw [← HEL.out, HNL.out]; omega) (by rw [← HEL.out]; exact hM2.out.alloc (.cells #[.int .u64 (K : Nat), .int .u64 (V : Nat)] 24)) w2.heap.size (fun e => by have := HOV.out _ e; have := HQ.out; omega) (heap_alloc_new _ _)
                   rw [HPP.out] at hins
                   refine hins.mono ?_
                   rintro e w4 ⟨u, rfl, hM4, hg4⟩
                   have HR4 := Lib.hid ((hg4.block (q + 1 + 1) (by simp; omega) (fun e => by have := HOV.out _ e.symm; have := HQ.out; omega)).trans ((heap_alloc_old w2 _ (by omega)).trans HR2.out))
                   obtain ⟨r0, f0, r1, f1, r2, f2⟩ := res_cells HR4.out
                   have HM4 := Lib.hid hM4
                   clear hM4)
      have es : s = (put l K V, 0, 0) := by rw [← HS.out]; unfold addU; rw [HGT.out, if_neg (by rw [HNL.out]; exact hfull)]
      have hb3 := (grown_trans (grown_below (HB3.out.trans ((below_one w2 _).mono HB3.out.size)) _) hg4)
      refine bodyPost_ret (v := .tuple #[u, .agg #[.int .i64 0, .int .u32 0, .slice none 0 0]]) ?_ rfl ⟨u, ?_, ?_, ?_⟩
      · simp [results, Tryd.results24, go_sem, r0, r1, r2]
      · rw [es]; rfl
      · rw [es]; exact made_stored3 HM4.out (made_ne HM4.out HR4.out (by decide)) _ _ _
      · have hq := HQ.out
        exact grown_set (grown_set (grown_set hb3 (by omega) _ _) (by omega) _ _) (by omega) _ _
  · have HGT := Lib.hid hget
    clear hget
    simp only [Option.isSome]
    have HIT := Lib.hid (up_there HC.out.1 HGT.out)
    obtain ⟨hpl, hlp⟩ := there_at HIT.out.1
    have hp : pos l K = (lo l K).length := rfl
    rw [hp]
    have hhop : u ≤ 2147483647 := HC.out.2 (K, u) (by rw [← hlp]; exact List.getElem_mem hpl)
    obtain ⟨p, hpp⟩ : ∃ p, (lo l K).length = p := ⟨_, rfl⟩
    obtain ⟨bk, off, eA, x0, x1⟩ := hA2.out.row hpl
    rw [hlp] at x0 x1
    rw [hpp] at x0 x1 ⊢
    have hpN : p < N := by rw [← hpp, ← HNL.out]; exact hpl
    have HPP := Lib.hid hpp
    obtain ⟨gA, rfl, hgA, hgB⟩ : ∃ gA, A = some ⟨gA, 0, none⟩ ∧ (∀ o, w2.frozen? ⟨gA, o, none⟩ = false) ∧ gA < q := by
      rcases (show _ from hM2.out).2 with ⟨h, _⟩ | ⟨g', cap', cur', h, _, h3, _⟩
      · injection h with h; rw [eA] at h; cases h
      · injection h with h
        exact ⟨g', h, (alloc_shape h3).2, by rw [← HQ.out]; exact HOV.out g' (by rw [h]; rfl)⟩
    injection eA with eA
    injection eA with e1 e2 _
    subst e1 e2
    clear hp hpp hpl hlp
    have i1 : (0 : Int) ≤ (p : Int) := by omega
    have i2 : (p : Int) < (N : Int) := by omega
    have huw : IntKind.u32.wrap (u : Int) = (u : Int) := by rw [IntKind.wrap_u32]; omega
    have es : s = (put l K V, 0, (u : Int)) := by rw [← HS.out]; unfold addU; rw [HGT.out]
    have ES := Lib.hid es
    clear es
    rw [Nat.zero_add] at x0 x1
    have fz1 := hgA (p * 2 + 1)
    have hgq : gA < w2.heap.size := by omega
    have hq2 : q + 1 + 1 < w2.heap.size := by omega
    have HR3 := Lib.hid ((Below.heap_setCell w2 ⟨gA, p * 2 + 1, none⟩ (.int .u64 (V : Nat)) (q + 1 + 1) (by simp; omega)).trans HR2.out)
    obtain ⟨r0, f0, r1, f1, r2, f2⟩ := res_cells HR3.out
    go_wp2
    have hb4 := grown_below HB3.out (some gA)
    have hm2 : MadeX w2 B 24 2 rowL (.slice (some ⟨gA, 0, none⟩) N d) (lo l K ++ (K, u) :: hi l K) := by rw [← HIT.out.1]; exact hM2.out
    have hmt := made_turned1 (v := V) (by rw [← HIT.out.1]; exact HNL.out) hm2
    rw [HPP.out] at hmt
    have hm3 := hmt
    refine bodyPost_ret (v := .tuple #[.slice (some ⟨gA, 0, none⟩) N d, .agg #[.int .i64 0, .int .u32 u, .slice none 0 0]]) ?_ rfl ⟨.slice (some ⟨gA, 0, none⟩) N d, ?_, ?_, ?_⟩
    · simp [results, Tryd.results24, go_sem, r0, r1, r2]
    · rw [ES.out]; rfl
    · rw [ES.out]; exact made_stored3 hm3 (made_ne hm3 HR3.out (by decide)) _ _ _
    · have hq := HQ.out
      refine grown_set (grown_set (grown_set ?_ (by omega) _ _) (by omega) _ _) (by omega) _ _
      have h5 : w2.grownBy (w2.setCell ⟨gA, p * 2 + 1, none⟩ (.int .u64 (V : Nat))) (some gA) := ⟨rfl, rfl, rfl, by simp [World.setCell], fun i hi hne => Below.heap_setCell _ ⟨gA, _, none⟩ _ i (fun e => hne (by rw [e]))⟩
      exact grown_trans hb4 h5
end Go.Proofs.YtfkkeokmkhjpfaaDoor
