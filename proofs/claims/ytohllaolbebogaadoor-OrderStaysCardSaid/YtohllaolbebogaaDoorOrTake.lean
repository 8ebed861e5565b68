/- The program's own delete: what it takes out of rows of its caller's own. -/
import Derived.Test.YtohllaolbebogaaDoorOrPut
namespace Go.Proofs.YtohllaolbebogaaDoor
open Go.RowKit Go.Lib Tb Pt Opn

theorem own_ne {g b n d : Nat} (h : b ≠ g) : some b ≠ (Value.slice (some ⟨g, 0, none⟩) n d).ownBlock := fun e => h (by simpa [Value.ownBlock] using e)

/-- What a delete does. -/
def takeR (l : List R) (k : Nat) : List R × Int × Int := match Tb.get l k with
  | some u => (cut l k, 0, (((u + 1) % 4294967296 : Nat) : Int))
  | none => (l, 6, 0)

set_option maxHeartbeats 4000000 in
set_option maxRecDepth 100000 in
theorem otake_any (o : O) (ho : Wf o) (w : World) (B : Nat) (v : Value) (l : List R) (hl : l.length ≤ 100000) (hu : Up l) (hhop : ∀ x ∈ l, x.2 ≤ 2147483647) (hm : MadeX w B 37 2 rowL v l) :
    Calls Tryd.prog 26 #[v, opv o] w (Own4 (takeR l o.a) B w v) := by
  have HM := Lib.hid hm
  obtain ⟨A, d, rfl, ⟨hd1, hd2⟩, hAn, hA⟩ := hm.form rowL_len
  have HGE := Lib.hid (fun W hA => oget_any A l d o ho (by omega) hu hhop W hA)
  obtain ⟨K, hK⟩ : ∃ K, o.a = K := ⟨_, rfl⟩
  have hK32 : K < 4294967296 := by rw [← hK]; exact ho.2.1
  unfold opv at HGE ⊢
  rw [hK] at HGE ⊢
  obtain ⟨s, hs⟩ : ∃ s, takeR l K = s := ⟨_, rfl⟩
  rw [hs]
  have HS := Lib.hid hs
  have HC := Lib.hid (And.intro hu hhop)
  have HAA := Lib.hid hA
  obtain ⟨N, hN⟩ : ∃ N, l.length = N := ⟨_, rfl⟩
  have HNL := Lib.hid hN
  have HSK := Lib.hid (fun W hA => oseek_any A l d (by omega) hu K hK32 W hA)
  rw [hN] at hl hd1 HM HSK HGE ⊢
  have hov : ∀ b, (Value.slice A N d).ownBlock = some b → b < w.heap.size := fun b hb => (MadeX.lt HM.out b (by rw [hN] at *; exact hb)).2
  have HOV := Lib.hid hov
  clear hs hu hhop hAn hA hm hN hov hK
  obtain ⟨W, hW⟩ : ∃ W, W = (w.alloc (.cells #[.int .u8 (o.k : Nat), .int .u32 (K : Nat), .int .u32 (o.b : Nat), .int .u32 (o.c : Nat)] 34)).alloc (.cells #[.int .i64 0, .int .u32 0, .slice none 0 0] 27) := ⟨_, rfl⟩
  have HRES : W.heap[w.heap.size + 1]? = some (.cells #[.int .i64 0, .int .u32 0, .slice none 0 0] 27 (0, 0)) := by
    rw [hW]
    exact heap_alloc_new (w.alloc (.cells #[.int .u8 (o.k : Nat), .int .u32 (K : Nat), .int .u32 (o.b : Nat), .int .u32 (o.c : Nat)] 34)) _ |> fun h => by simpa using h
  have hbW : Below w.heap.size w W := by rw [hW]; exact below_two _ _ _
  have hww : W.heap.size = w.heap.size + 2 := by rw [hW]; simp
  have a1 : W.cell? ⟨w.heap.size, 1, none⟩ = some (.int .u32 (K : Nat)) := by rw [hW]; simp [go_sem]
  have HW := Lib.hid hW
  have mixed : Tryd.prog.follows Departure.mixedOrders = true := by kernel_rfl
  go_enter Tryd.func26, Tryd.ntmps26
  go_wp2_with fail
  rw [← HW.out]
  obtain ⟨q, hq⟩ : ∃ q, w.heap.size = q := ⟨_, rfl⟩
  have HQ := Lib.hid hq
  rw [hq] at HRES hww a1 ⊢
  obtain ⟨x, hx⟩ : ∃ x, (getR l K).1 = x := ⟨_, rfl⟩
  obtain ⟨y, hy⟩ : ∃ y, (getR l K).2 = y := ⟨_, rfl⟩
  rw [hx, hy] at HGE
  have HXY := Lib.hid (And.intro hx hy)
  unfold resv at HGE
  have hAx := Lib.hid (HAA.out.below hbW)
  have hMx := Lib.hid (MadeX.below HM.out hbW)
  have HBW := Lib.hid hbW
  clear hW hq hx hy hbW
  refine (HGE.out W hAx.out).mono ?_
  rintro e w2 ⟨rfl, hb2⟩
  have hs2 : q + 2 ≤ w2.heap.size := by have := hb2.size; omega
  obtain ⟨W3, hW3⟩ : ∃ W3, W3 = w2.alloc (.cells #[.int .i64 x, .int .u32 y, .slice none 0 0] 27) := ⟨_, rfl⟩
  obtain ⟨g6, hg6⟩ : ∃ g, w2.heap.size = g := ⟨_, rfl⟩
  have hs3 : W3.heap.size = g6 + 1 := by rw [hW3, ← hg6]; simp
  have hb3 : Below w2.heap.size w2 W3 := by rw [hW3]; exact below_one _ _
  have HR3 := Lib.hid ((hb3.block (q + 1) (by omega)).trans ((hb2.block _ (by omega)).trans HRES))
  have HX3 := Lib.hid (show W3.heap[g6]? = some (.cells #[.int .i64 x, .int .u32 y, .slice none 0 0] 27 (0, 0)) by rw [hW3, ← hg6]; exact heap_alloc_new w2 _)
  have HB3 := Lib.hid (HBW.out.trans ((hb2.trans (hb3.mono hb2.size)).mono HBW.out.size))
  have hM3 := Lib.hid (MadeX.below (MadeX.below hMx.out hb2) hb3)
  have hA3 := Lib.hid ((hAx.out.below hb2).below hb3)
  have a3 : W3.cell? ⟨q, 1, none⟩ = some (.int .u32 (K : Nat)) := (hb3.cell (by show q < _; omega)).trans ((hb2.cell (World.block_lt_of_cell? _ _ a1)).trans a1)
  have n1 : q + 1 < g6 := by omega
  have a2 : w2.cell? ⟨q, 1, none⟩ = some (.int .u32 (K : Nat)) := (hb2.cell (World.block_lt_of_cell? _ _ a1)).trans a1
  have n2 : q < w2.heap.size := by omega
  have HG6 := Lib.hid hg6
  obtain ⟨x0, z0, x1, z1, x2, z2⟩ := res_cells HX3.out
  obtain ⟨r0, f0, r1, f1, r2, f2⟩ := res_cells HR3.out
  rcases hget : Tb.get l K with _ | u
  · have hx : x = 6 := by rw [← HXY.out.1]; unfold getR; rw [hget]
    have hy : y = 0 := by rw [← HXY.out.2]; unfold getR; rw [hget]
    have ES := Lib.hid (show s = (l, 6, 0) by rw [← HS.out]; unfold takeR; rw [hget])
    subst hx hy
    have HS3 := Lib.hid hs3
    clear hget hb2 hb3 a1 hww hs2 hs3
    go_wp2_with fail
    try rw [hg6]
    rw [← hW3]
    clear hW3 hg6
    go_region
    go_wp2
    have hq := HQ.out
    have hB := HB3.out.drew
    refine bodyPost_ret (v := .tuple #[.slice A N d, .agg #[.int .i64 6, .int .u32 0, .slice none 0 0]]) ?_ rfl ⟨.slice A N d, ?_, ?_, ?_⟩
    · simp [results, Tryd.results26, go_sem, r0, r1, r2]
    · rw [ES.out]; rfl
    · rw [ES.out]; exact made_stored3 (MadeX.below hM3.out (below_drew _)) (made_ne hM3.out HR3.out (by decide)) _ _ _
    · exact grown_set (grown_set (grown_set (grown_below hB _) (by omega) _ _) (by omega) _ _) (by omega) _ _
  · have hx : x = 0 := by rw [← HXY.out.1]; unfold getR; rw [hget]
    have hy : y = (((u + 1) % 4294967296 : Nat) : Int) := by rw [← HXY.out.2]; unfold getR; rw [hget]
    have ES := Lib.hid (show s = (cut l K, 0, (((u + 1) % 4294967296 : Nat) : Int)) by rw [← HS.out]; unfold takeR; rw [hget])
    have HGT := Lib.hid hget
    obtain ⟨t, ht⟩ : ∃ t : Nat, (u + 1) % 4294967296 = t := ⟨_, rfl⟩
    rw [ht] at hy ES
    subst hx hy
    have HIT := Lib.hid (up_there HC.out.1 HGT.out)
    obtain ⟨hpl, hlp⟩ := there_at HIT.out.1
    have hp : pos l K = (lo l K).length := rfl
    rw [hp] at HSK
    obtain ⟨p, hpp⟩ : ∃ p, (lo l K).length = p := ⟨_, rfl⟩
    rw [hpp] at HSK
    have hpN : p < N := by rw [← hpp, ← HNL.out]; exact hpl
    have HPP := Lib.hid hpp
    obtain ⟨bk, off, eA, y1, y2⟩ := hA3.out.row hpl
    obtain ⟨gA, rfl, hgB⟩ : ∃ gA, A = some ⟨gA, 0, none⟩ ∧ gA < q := by
      rcases (show _ from hM3.out).2 with ⟨h, _⟩ | ⟨g', cap', cur', h, _, h3, _⟩
      · injection h with h; rw [eA] at h; cases h
      · injection h with h
        exact ⟨g', h, by rw [← HQ.out]; exact HOV.out g' (by rw [h]; rfl)⟩
    have HD := Lib.hid (show ∀ X, MadeX X B 37 2 rowL (.slice (some ⟨gA, 0, none⟩) N d) l → Calls Tryd.prog 41 #[.slice (some ⟨gA, 0, none⟩) N d, .int .i64 p, .int .i64 ((p : Int) + 1)] X (RetI (cut l K) B X (.slice (some ⟨gA, 0, none⟩) N d)) from fun X hX => by
      have h := delete_any X B (.slice (some ⟨gA, 0, none⟩) N d) (lo l K) (hi l K) (K, u) (by rw [← HIT.out.1, HNL.out]; omega) (by rw [← HIT.out.1]; exact hX) ((p : Int) + 1) (by rw [HPP.out])
      rw [HPP.out, ← cut_eq K HC.out.1] at h
      exact h)
    have hw : IntKind.i64.wrap ((p : Int) + 1) = (p : Int) + 1 := by rw [IntKind.wrap_i64]; omega
    have HS3 := Lib.hid hs3
    clear hget hb2 hb3 a1 hww hs2 hs3 hp hpp y1 y2 hlp hpl eA ht
    rw [HGT.out] at HSK
    have HW3 := Lib.hid hW3
    clear hW3 hg6 a3 x0 x1 x2 z0 z1 z2 r0 r1 r2 f0 f1 f2
    go_wp2_with fail
    rw [← HW3.out]
    try rw [HG6.out]
    refine (HSK.out W3 hA3.out).mono ?_
    rintro e w4 ⟨rfl, hb4⟩
    have hM4 := Lib.hid (MadeX.below hM3.out hb4)
    have HB4 := Lib.hid (HB3.out.trans (hb4.mono HB3.out.size))
    have HX4 := Lib.hid ((hb4.block g6 (by have := HS3.out; omega)).trans HX3.out)
    have HR4 := Lib.hid ((hb4.block (q + 1) (by have := HS3.out; omega)).trans HR3.out)
    have hs4 : g6 < w4.heap.size := by have := HS3.out; have := hb4.size; omega
    simp only [Option.isSome]
    clear hb4 a2 n2
    go_wp2_with fail
    refine (HD.out w4 hM4.out).mono ?_
    rintro e w5 ⟨v5, rfl, hM5, hg5⟩
    have HX5 := Lib.hid ((hg5.block g6 hs4 (own_ne (by omega))).trans HX4.out)
    have HR5 := Lib.hid ((hg5.block (q + 1) (by omega) (own_ne (by omega))).trans HR4.out)
    obtain ⟨x0, z0, x1, z1, x2, z2⟩ := res_cells HX5.out
    obtain ⟨r0, f0, r1, f1, r2, f2⟩ := res_cells HR5.out
    have HG5 := Lib.hid (grown_trans (grown_below HB4.out _) hg5)
    have HM5 := Lib.hid hM5
    obtain ⟨A5, c5, rfl, _⟩ := MadeX.form rowL_len hM5
    obtain ⟨M, hM⟩ : ∃ M, (cut l K).length = M := ⟨_, rfl⟩
    rw [hM] at HM5 ⊢
    clear hg5 hM5 hM
    go_wp2_with fail
    go_region
    go_wp2
    have hq := HQ.out
    refine bodyPost_ret (v := .tuple #[.slice A5 M c5, .agg #[.int .i64 0, .int .u32 t, .slice none 0 0]]) ?_ rfl ⟨.slice A5 M c5, ?_, ?_, ?_⟩
    · simp [results, Tryd.results26, go_sem, r0, r1, r2]
    · rw [ES.out]; rfl
    · rw [ES.out]; exact made_stored3 (MadeX.below HM5.out (below_drew _)) (made_ne HM5.out HR5.out (by decide)) _ _ _
    · exact grown_set (grown_set (grown_set (grown_trans HG5.out (grown_below (below_drew _) _)) (by omega) _ _) (by omega) _ _) (by omega) _ _
end Go.Proofs.YtohllaolbebogaaDoor
