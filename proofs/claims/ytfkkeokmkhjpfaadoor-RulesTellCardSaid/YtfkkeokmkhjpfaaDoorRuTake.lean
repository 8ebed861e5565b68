/- The program's own drop of a rule: what it takes out of rows of its caller's own. -/
import Derived.Test.YtfkkeokmkhjpfaaDoorRuPut
namespace Go.Proofs.YtfkkeokmkhjpfaaDoor
open Go.RowKit Go.Lib Tb Pt Opn

/-- What a drop does. -/
def dropU (l : List R) (k : Nat) : List R × Int × Int := match Tb.get l k with
  | some u => (cut l k, 0, ((u : Nat) : Int))
  | none => (l, 6, 0)

set_option maxHeartbeats 4000000 in
set_option maxRecDepth 100000 in
theorem udrop_any (o : O) (ho : Wf o) (w : World) (B : Nat) (v : Value) (l : List R) (hl : l.length ≤ 100000) (hu : Up l) (hhop : ∀ x ∈ l, x.2 ≤ 2147483647) (hm : MadeX w B 24 2 rowL v l) :
    Calls Tryd.prog 25 #[v, opv o] w (Own4 (dropU l (keyU o)) B w v) := by
  have HM := Lib.hid hm
  obtain ⟨A, d, rfl, ⟨hd1, hd2⟩, hAn, hA⟩ := hm.form rowL_len
  have HSK := Lib.hid (fun W hA => useek_any A l d (by omega) hu o ho W hA)
  obtain ⟨K, hK⟩ : ∃ K, keyU o = K := ⟨_, rfl⟩
  rw [hK] at HSK ⊢
  obtain ⟨s, hs⟩ : ∃ s, dropU l K = s := ⟨_, rfl⟩
  rw [hs]
  have HS := Lib.hid hs
  have HC := Lib.hid (And.intro hu hhop)
  have HAA := Lib.hid hA
  obtain ⟨N, hN⟩ : ∃ N, l.length = N := ⟨_, rfl⟩
  have HNL := Lib.hid hN
  rw [hN] at hl hd1 HM HSK ⊢
  have hov : ∀ b, (Value.slice A N d).ownBlock = some b → b < w.heap.size := fun b hb => (MadeX.lt HM.out b (by rw [hN] at *; exact hb)).2
  have HOV := Lib.hid hov
  clear hs hu hhop hAn hA hm hN hov hK
  unfold opv at *
  obtain ⟨W, hW⟩ : ∃ W, W = (w.alloc (.cells #[.int .u8 (o.k : Nat), .int .u32 (o.a : Nat), .int .u32 (o.b : Nat), .int .u32 (o.c : Nat)] 35)).alloc (.cells #[.int .i64 0, .int .u32 0, .slice none 0 0] 29) := ⟨_, rfl⟩
  have HRES : W.heap[w.heap.size + 1]? = some (.cells #[.int .i64 0, .int .u32 0, .slice none 0 0] 29 (0, 0)) := by
    rw [hW]
    exact heap_alloc_new (w.alloc (.cells #[.int .u8 (o.k : Nat), .int .u32 (o.a : Nat), .int .u32 (o.b : Nat), .int .u32 (o.c : Nat)] 35)) _ |> fun h => by simpa using h
  have hbW : Below w.heap.size w W := by rw [hW]; exact below_two _ _ _
  have hww : W.heap.size = w.heap.size + 2 := by rw [hW]; simp
  have HW := Lib.hid hW
  have mixed : Tryd.prog.follows Departure.mixedOrders = true := by kernel_rfl
  go_enter Tryd.func25, Tryd.ntmps25
  go_wp2_with fail
  rw [← HW.out]
  obtain ⟨q, hq⟩ : ∃ q, w.heap.size = q := ⟨_, rfl⟩
  have HQ := Lib.hid hq
  rw [hq] at HRES hww ⊢
  have hAx := Lib.hid (HAA.out.below hbW)
  have hMx := Lib.hid (MadeX.below HM.out hbW)
  have HBW := Lib.hid hbW
  clear hW hq hbW HW
  refine (HSK.out W hAx.out).mono ?_
  rintro e w2 ⟨rfl, hb2⟩
  have hs2 : q + 2 ≤ w2.heap.size := by have := hb2.size; omega
  have HR2 := Lib.hid ((hb2.block _ (by omega)).trans HRES)
  have HB2 := Lib.hid (HBW.out.trans (hb2.mono HBW.out.size))
  have hM2 := Lib.hid (MadeX.below hMx.out hb2)
  have hA2 := Lib.hid (hAx.out.below hb2)
  clear hb2 HRES hww
  rcases hget : Tb.get l K with _ | u
  · have ES := Lib.hid (show s = (l, 6, 0) by rw [← HS.out]; unfold dropU; rw [hget])
    simp only [Option.isSome]
    clear hget
    obtain ⟨r0, f0, r1, f1, r2, f2⟩ := res_cells HR2.out
    go_wp2
    have hq := HQ.out
    refine bodyPost_ret (v := .tuple #[.slice A N d, .agg #[.int .i64 6, .int .u32 0, .slice none 0 0]]) ?_ rfl ⟨.slice A N d, ?_, ?_, ?_⟩
    · simp [results, Tryd.results25, go_sem, r0, r1, r2]
    · rw [ES.out]; rfl
    · rw [ES.out]; exact made_stored3 hM2.out (made_ne hM2.out HR2.out (by decide)) _ _ _
    · exact grown_set (grown_set (grown_set (grown_below HB2.out _) (by omega) _ _) (by omega) _ _) (by omega) _ _
  · have HGT := Lib.hid hget
    have ES := Lib.hid (show s = (cut l K, 0, ((u : Nat) : Int)) by rw [← HS.out]; unfold dropU; rw [hget])
    clear hget
    simp only [Option.isSome]
    have HIT := Lib.hid (up_there HC.out.1 HGT.out)
    obtain ⟨hpl, hlp⟩ := there_at HIT.out.1
    have hp : pos l K = (lo l K).length := rfl
    rw [hp]
    have hhop : u ≤ 2147483647 := HC.out.2 (K, u) (by rw [← hlp]; exact List.getElem_mem hpl)
    obtain ⟨p, hpp⟩ : ∃ p, (lo l K).length = p := ⟨_, rfl⟩
    obtain ⟨bk, off, eA, x0, x1⟩ := hA2.out.row hpl
    rw [hlp] at x0 x1
    rw [hpp] at x0 x1 ⊢
    have hpN : p < N := by rw [← hpp, ← HNL.out]; exact hpl
    have HPP := Lib.hid hpp
    obtain ⟨gA, rfl, hgB⟩ : ∃ gA, A = some ⟨gA, 0, none⟩ ∧ gA < q := by
      rcases (show _ from hM2.out).2 with ⟨h, _⟩ | ⟨g', cap', cur', h, _, h3, _⟩
      · injection h with h; rw [eA] at h; cases h
      · injection h with h
        exact ⟨g', h, by rw [← HQ.out]; exact HOV.out g' (by rw [h]; rfl)⟩
    injection eA with eA
    injection eA with e1 e2 _
    subst e1 e2
    clear hp hpp hpl hlp
    have i1 : (0 : Int) ≤ (p : Int) := by omega
    have i2 : (p : Int) < (N : Int) := by omega
    rw [Nat.zero_add] at x0 x1
    have HD := Lib.hid (show ∀ X, MadeX X B 24 2 rowL (.slice (some ⟨gA, 0, none⟩) N d) l → Calls Tryd.prog 39 #[.slice (some ⟨gA, 0, none⟩) N d, .int .i64 p, .int .i64 ((p : Int) + 1)] X (RetI (cut l K) B X (.slice (some ⟨gA, 0, none⟩) N d)) from fun X hX => by
      have h := delete_any X B (.slice (some ⟨gA, 0, none⟩) N d) (lo l K) (hi l K) (K, u) (by rw [← HIT.out.1, HNL.out]; omega) (by rw [← HIT.out.1]; exact hX) ((p : Int) + 1) (by rw [HPP.out])
      rw [HPP.out, ← cut_eq K HC.out.1] at h
      exact h)
    have hw : IntKind.i64.wrap ((p : Int) + 1) = (p : Int) + 1 := by rw [IntKind.wrap_i64]; omega
    have huw : IntKind.u32.wrap (u : Int) = (u : Int) := by rw [IntKind.wrap_u32]; omega
    go_wp2_with fail
    refine (HD.out w2 hM2.out).mono ?_
    rintro e w5 ⟨v5, rfl, hM5, hg5⟩
    have HR5 := Lib.hid ((hg5.block (q + 1) (by omega) (own_ne (by omega))).trans HR2.out)
    obtain ⟨r0, f0, r1, f1, r2, f2⟩ := res_cells HR5.out
    have HG5 := Lib.hid (grown_trans (grown_below HB2.out _) hg5)
    have HM5 := Lib.hid hM5
    obtain ⟨A5, c5, rfl, _⟩ := MadeX.form rowL_len hM5
    obtain ⟨M, hM⟩ : ∃ M, (cut l K).length = M := ⟨_, rfl⟩
    rw [hM] at HM5 ⊢
    clear hg5 hM5 hM
    go_wp2
    have hq := HQ.out
    refine bodyPost_ret (v := .tuple #[.slice A5 M c5, .agg #[.int .i64 0, .int .u32 u, .slice none 0 0]]) ?_ rfl ⟨.slice A5 M c5, ?_, ?_, ?_⟩
    · simp [results, Tryd.results25, go_sem, r0, r1, r2]
    · rw [ES.out]; rfl
    · rw [ES.out]; exact made_stored3 HM5.out (made_ne HM5.out HR5.out (by decide)) _ _ _
    · exact grown_set (grown_set (grown_set HG5.out (by omega) _ _) (by omega) _ _) (by omega) _ _
end Go.Proofs.YtfkkeokmkhjpfaaDoor
