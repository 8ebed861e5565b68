/- The program of an index, the program's own call: the frame behind. -/
import Derived.Test.YtmkehailohgebaaDoorTpUa
import Derived.Test.YtmkehailohgebaaDoorTpUb
namespace Go.Proofs.YtmkehailohgebaaDoor
open Go.RowKit Go.Lib Pt Opn

set_option maxRecDepth 100000 in
set_option maxHeartbeats 32000000 in
theorem pAfterX_ok {c : Cf} {C N K : Nat} (s : SzX c C N K) (ho : c.obj = 2) (f : Ds) (Y : Ac) (hE : nextX c f = (Y, 0)) (hm : XMay c f) (hw : DWf f) (tt A B Cc : Nat) (w : World) (hO : Obs w) (hPP : Pow w) :
    Calls Tryd.prog 11 #[cfv c, frv f, cvT tt A B Cc] w (Ret4 (frv (behindX c f A B).1) (rwv (toldX (behindX c f A B))) (.bool (behindX c f A B).2) (.int .i64 0) w) := by
  have HN := Lib.hid (fun W ho hp => pNextX_any c f hw W ho hp)
  rw [hE] at HN
  have HO := Lib.hid hO
  have HPO := Lib.hid hPP
  have HSH := Lib.hid (fun W hp => pShapeX_any s W hp)
  have HTU := Lib.hid (fun A0 cp g hg W hP hs => pTurn_any s A0 cp g f hm.2.1 (fit_of s ho hw hm) tt A B Cc hg W hP hs)
  have hpw := World.block_lt_of_cell? _ _ (hPP 0 (by decide))
  clear hE hw hO hPP hm ho s
  obtain ⟨⟨X, bo⟩, hX⟩ : ∃ X, behindX c f A B = X := ⟨_, rfl⟩
  rw [hX] at HTU ⊢
  obtain ⟨⟨rk, rv⟩, hR⟩ : ∃ R, toldX (X, bo) = R := ⟨_, rfl⟩
  rw [hR] at HTU ⊢
  clear hX hR
  unfold RetS at HSH
  generalize topX c + 1 = T at *
  have HST := Lib.hid (fun L g (W : World) => (Iff.rfl : StX c L g f 0 0 false W ↔ W.heap[g]? = some (stO c.cap c.node c.chunk L f.kind f.a f.b f.pc f.i f.j f.n f.p f.h f.x f.y (0 : Nat) (0 : Nat) false)))
  unfold shX at HSH
  unfold cfv frv rwv cvT acv at *
  simp only at *
  go_enter Tryd.func11, Tryd.ntmps11
  go_upto_region 1 with fail
  refine enter5 fun W hb g0 g1 g2 g3 g4 => ?_
  have HO1 := Lib.hid (HO.out.below hb)
  have HP1 := Lib.hid (HPO.out.below hb)
  obtain ⟨r0, r1, r2, r3, r4, r5, r6, r7, r8, r9, r10, r11⟩ := cl12 g0
  obtain ⟨k0, y0, k1, y1, k2, y2, k3, y3, k4, y4, k5, y5, k6, y6, k7, y7, k8, y8, k9, y9, k10, y10⟩ := cells11 g1
  obtain ⟨c0, c1, c2, c3⟩ := cells4p g2
  obtain ⟨u0, v0, u1, v1, u2, v2, u3, v3, u4, v4, u5, v5, u6, v6, u7, v7, u8, v8, u9, v9, u10, v10⟩ := cells11 g3
  obtain ⟨p0, o0, p1, o1⟩ := cells2 g4
  have q0 := (Array.getElem?_eq_some_iff.1 g0).1
  have q1 := (Array.getElem?_eq_some_iff.1 g1).1
  have q2 := (Array.getElem?_eq_some_iff.1 g2).1
  have q3 := (Array.getElem?_eq_some_iff.1 g3).1
  have q4 := (Array.getElem?_eq_some_iff.1 g4).1
  go_upto_region 4 with (go_at_call 9; refine (HN.out _ HO1.out HP1.out).mono ?_; rintro e w1 ⟨rfl, hb1⟩; have HP2 := Lib.hid (HP1.out.below hb1); replace hb := below_then hb hb1; replace g0 := blk_below g0 hb1; replace g1 := blk_below g1 hb1; replace g2 := blk_below g2 hb1; replace g3 := blk_below g3 hb1; replace g4 := blk_below g4 hb1; clear hb1; clear r0 r1 r2 r3 r4 r5 r6 r7 r8 r9 r10 r11 k0 y0 k1 y1 k2 y2 k3 y3 k4 y4 k5 y5 k6 y6 k7 y7 k8 y8 k9 y9 k10 y10 u0 v0 u1 v1 u2 v2 u3 v3 u4 v4 u5 v5 u6 v6 u7 v7 u8 v8 u9 v9 u10 v10 c0 c1 c2 c3 p0 o0 p1 o1 q0 q1 q2 q3 q4; obtain ⟨r0, r1, r2, r3, r4, r5, r6, r7, r8, r9, r10, r11⟩ := cl12 g0; obtain ⟨k0, y0, k1, y1, k2, y2, k3, y3, k4, y4, k5, y5, k6, y6, k7, y7, k8, y8, k9, y9, k10, y10⟩ := cells11 g1; obtain ⟨c0, c1, c2, c3⟩ := cells4p g2; obtain ⟨u0, v0, u1, v1, u2, v2, u3, v3, u4, v4, u5, v5, u6, v6, u7, v7, u8, v8, u9, v9, u10, v10⟩ := cells11 g3; obtain ⟨p0, o0, p1, o1⟩ := cells2 g4; have q0 := (Array.getElem?_eq_some_iff.1 g0).1; have q1 := (Array.getElem?_eq_some_iff.1 g1).1; have q2 := (Array.getElem?_eq_some_iff.1 g2).1; have q3 := (Array.getElem?_eq_some_iff.1 g3).1; have q4 := (Array.getElem?_eq_some_iff.1 g4).1)
  refine enter1 fun W8 hb8 g8 q8 => ?_
  have HP8 := Lib.hid (HP2.out.below hb8)
  clear g8 q8
  replace hb := below_then hb hb8
  replace g0 := blk_below g0 hb8
  replace g1 := blk_below g1 hb8
  replace g2 := blk_below g2 hb8
  replace g3 := blk_below g3 hb8
  replace g4 := blk_below g4 hb8
  clear hb8
  clear r0 r1 r2 r3 r4 r5 r6 r7 r8 r9 r10 r11 k0 y0 k1 y1 k2 y2 k3 y3 k4 y4 k5 y5 k6 y6 k7 y7 k8 y8 k9 y9 k10 y10 u0 v0 u1 v1 u2 v2 u3 v3 u4 v4 u5 v5 u6 v6 u7 v7 u8 v8 u9 v9 u10 v10 c0 c1 c2 c3 p0 o0 p1 o1 q0 q1 q2 q3 q4
  obtain ⟨r0, r1, r2, r3, r4, r5, r6, r7, r8, r9, r10, r11⟩ := cl12 g0
  obtain ⟨k0, y0, k1, y1, k2, y2, k3, y3, k4, y4, k5, y5, k6, y6, k7, y7, k8, y8, k9, y9, k10, y10⟩ := cells11 g1
  obtain ⟨c0, c1, c2, c3⟩ := cells4p g2
  obtain ⟨u0, v0, u1, v1, u2, v2, u3, v3, u4, v4, u5, v5, u6, v6, u7, v7, u8, v8, u9, v9, u10, v10⟩ := cells11 g3
  obtain ⟨p0, o0, p1, o1⟩ := cells2 g4
  have q0 := (Array.getElem?_eq_some_iff.1 g0).1
  have q1 := (Array.getElem?_eq_some_iff.1 g1).1
  have q2 := (Array.getElem?_eq_some_iff.1 g2).1
  have q3 := (Array.getElem?_eq_some_iff.1 g3).1
  have q4 := (Array.getElem?_eq_some_iff.1 g4).1
  have hpw8 : 1 < W8.heap.size := by omega
  have HBW := Lib.hid hb
  have HG2 := Lib.hid g2
  have HG3 := Lib.hid g3
  have HG4 := Lib.hid g4
  clear hb g0 g1 g2 g3 g4 HN HO1 HP1 HP2 HPO HO c0 c1 c2 c3 p0 o0 p1 o1 q2 q3 q4 u0 v0 u1 v1 u2 v2 u3 v3 u4 v4 u5 v5 u6 v6 u7 v7 u8 v8 u9 v9 u10 v10
  go_cut [12] (fun s12 wx => ∃ g sb cp : Nat, s12 = .pointer (some ⟨g, 0, none⟩) ∧ Hid (wx.heap[g]? = some (stO c.cap c.node c.chunk (.slice (some ⟨sb, 0, none⟩) (T : Nat) cp) f.kind f.a f.b f.pc f.i f.j f.n f.p f.h f.x f.y (0 : Nat) (0 : Nat) false) ∧ W8.heap.size ≤ g ∧ Below W8.heap.size W8 wx))
  case first =>
    refine wp_region_held_drew (S := fun X => W8.heap.size ≤ X.heap.size ∧ ∀ b o, b < W8.heap.size → X.cell? ⟨b, o, none⟩ = W8.cell? ⟨b, o, none⟩) (by kernel_rfl) (keep_drew (keep_refl _)) (fun hHeld => ?_)
    refine wpAnyH_take (i := 0) (v := ?v0) rfl (by kernel_rfl) (by kernel_rfl) (by kernel_rfl) (fun _ _ _ h => h) (Or.inl ⟨by rfl, ?h0⟩) hHeld ?s0
    case h0 =>
      intro X hX
      go_simp
      rfl
    simp only [Act.put, List.getElem_toArray, List.getElem_cons_zero, List.setIfInBounds_toArray, List.set_cons_zero, List.set_cons_succ]
    refine wpAnyH_take (i := 2) (v := ?v1) rfl (by kernel_rfl) (by kernel_rfl) (by kernel_rfl) (fun _ _ _ h => h) (Or.inl ⟨by rfl, ?h1⟩) hHeld ?s1
    case h1 =>
      intro X hX
      go_simp
      rfl
    simp only [Act.put, List.getElem_toArray, List.getElem_cons_zero, List.getElem_cons_succ, List.setIfInBounds_toArray, List.set_cons_zero, List.set_cons_succ]
    refine wpAnyH_ready (rs := [1, 4]) (by kernel_rfl) (by simp) ?_
    refine AllReadyH.cons rfl (fun K hK => ?_) (AllReadyH.cons rfl (fun K hK => ?_) AllReadyH.nil)
    · go_simp
      refine (HSH.out _ HP8.out.drewn).mono ?_
      rintro e w5 ⟨sb, cp, rfl, hx5, hy5, _, hl5, hb5⟩
      clear hl5
      have HB5 := Lib.hid (below_then (below_drew' (Below.refl W8.heap.size W8)) hb5)
      refine hK.out _ _ (keep_below hb5 (keep_drew (keep_refl _))) (fun hHeld => ?_)
      clear hK K hb5
      try simp only [Act.put, List.getElem_toArray, List.getElem_cons_zero, List.getElem_cons_succ, List.setIfInBounds_toArray, List.set_cons_zero, List.set_cons_succ]
      refine wpAnyH_take (i := 3) (v := ?v3) rfl (by kernel_rfl) (by kernel_rfl) (by kernel_rfl) (fun _ _ _ h => h) (Or.inl ⟨by rfl, ?h3⟩) hHeld ?s3
      case h3 =>
        intro X hX
        go_simp
        rfl
      try simp only [Act.put, List.getElem_toArray, List.getElem_cons_zero, List.getElem_cons_succ, List.setIfInBounds_toArray, List.set_cons_zero, List.set_cons_succ]
      refine wpAnyH_ready (rs := [4]) (by kernel_rfl) (by simp) ?_
      refine AllReadyH.cons rfl (fun K hK => ?_) AllReadyH.nil
      go_simp
      have HNW := Lib.hid (And.intro (heap_alloc_new w5 (.cells #[.int .i64 0, .int .i64 0, .int .i64 0, .slice none 0 0, .int .u8 0, .int .u32 0, .int .u32 0, .int .u8 0, .int .u8 0, .int .u8 0, .int .u8 0, .int .u8 0, .int .u8 0, .int .u32 0, .int .u32 0, .int .u64 0, .int .u64 0, .bool false] 83)) (And.intro HB5.out.size (And.intro (keep_alloc (keep_below HB5.out (keep_refl _)) (.cells #[.int .i64 0, .int .i64 0, .int .i64 0, .slice none 0 0, .int .u8 0, .int .u32 0, .int .u32 0, .int .u8 0, .int .u8 0, .int .u8 0, .int .u8 0, .int .u8 0, .int .u8 0, .int .u32 0, .int .u32 0, .int .u64 0, .int .u64 0, .bool false] 83)) (below_then HB5.out (below_one w5 (.cells #[.int .i64 0, .int .i64 0, .int .i64 0, .slice none 0 0, .int .u8 0, .int .u32 0, .int .u32 0, .int .u8 0, .int .u8 0, .int .u8 0, .int .u8 0, .int .u8 0, .int .u8 0, .int .u32 0, .int .u32 0, .int .u64 0, .int .u64 0, .bool false] 83))))))
      refine hK.out _ _ HNW.out.2.2.1 (fun hHeld => ?_)
      clear hK K
      try simp only [Act.put, List.getElem_toArray, List.getElem_cons_zero, List.getElem_cons_succ, List.setIfInBounds_toArray, List.set_cons_zero, List.set_cons_succ]
      refine wpAnyH_ready (rs := [5]) (by kernel_rfl) (by simp) ?_
      refine AllReadyH.cons rfl (fun K hK => ?_) AllReadyH.nil
      rw [if_pos (by rfl)]
      refine wp_store_mid _ _ _ rfl _ _ (List.toArray _) rfl rfl (there_row HNW.out.1 _ rfl) (by kernel_rfl) (by kernel_rfl) ?_
      try simp only [Act.put, List.getElem_toArray, List.getElem_cons_zero, List.getElem_cons_succ]
      refine hK.out _ _ (keep_cells _ HNW.out.2.1 _ _ _ HNW.out.2.2.1) (fun hHeld => ?_)
      refine wpAnyH_done (by kernel_rfl) ?_ _
      clear hK K hHeld
      go_wp2_with fail
      go_meet
      refine ⟨_, sb, cp, rfl, Lib.hid ⟨?_, HNW.out.2.1, setCells_below _ HNW.out.2.1 _ _ _ HNW.out.2.2.2⟩⟩
      exact stored18 HNW.out.1
    · go_simp
      have HN0 := Lib.hid (And.intro (heap_alloc_new W8.drew (.cells #[.int .i64 0, .int .i64 0, .int .i64 0, .slice none 0 0, .int .u8 0, .int .u32 0, .int .u32 0, .int .u8 0, .int .u8 0, .int .u8 0, .int .u8 0, .int .u8 0, .int .u8 0, .int .u32 0, .int .u32 0, .int .u64 0, .int .u64 0, .bool false] 83)) (below_one W8.drew (.cells #[.int .i64 0, .int .i64 0, .int .i64 0, .slice none 0 0, .int .u8 0, .int .u32 0, .int .u32 0, .int .u8 0, .int .u8 0, .int .u8 0, .int .u8 0, .int .u8 0, .int .u8 0, .int .u32 0, .int .u32 0, .int .u64 0, .int .u64 0, .bool false] 83)))
      refine hK.out _ _ (keep_alloc (keep_drew (keep_refl _)) _) (fun hHeld => ?_)
      clear hK K
      try simp only [Act.put, List.getElem_toArray, List.getElem_cons_zero, List.getElem_cons_succ, List.setIfInBounds_toArray, List.set_cons_zero, List.set_cons_succ]
      refine wpAnyH_ready (rs := [1]) (by kernel_rfl) (by simp) ?_
      refine AllReadyH.cons rfl (fun K hK => ?_) AllReadyH.nil
      go_simp
      refine (HSH.out _ (HP8.out.drewn.alloc _)).mono ?_
      rintro e w5 ⟨sb, cp, rfl, hx5, hy5, _, hl5, hb5⟩
      clear hl5
      have HNW := Lib.hid (And.intro (blk_below HN0.out.1 hb5) (And.intro (Nat.le_refl W8.heap.size) (And.intro (keep_below hb5 (keep_alloc (keep_drew (keep_refl W8)) _)) (below_then (below_then (below_drew' (Below.refl W8.heap.size W8)) HN0.out.2) hb5))))
      refine hK.out _ _ HNW.out.2.2.1 (fun hHeld => ?_)
      clear hK K hb5
      try simp only [Act.put, List.getElem_toArray, List.getElem_cons_zero, List.getElem_cons_succ, List.setIfInBounds_toArray, List.set_cons_zero, List.set_cons_succ]
      refine wpAnyH_take (i := 3) (v := ?v4) rfl (by kernel_rfl) (by kernel_rfl) (by kernel_rfl) (fun _ _ _ h => h) (Or.inl ⟨by rfl, ?h4⟩) hHeld ?s4
      case h4 =>
        intro X hX
        go_simp
        rfl
      try simp only [Act.put, List.getElem_toArray, List.getElem_cons_zero, List.getElem_cons_succ, List.setIfInBounds_toArray, List.set_cons_zero, List.set_cons_succ]
      refine wpAnyH_ready (rs := [5]) (by kernel_rfl) (by simp) ?_
      refine AllReadyH.cons rfl (fun K hK => ?_) AllReadyH.nil
      rw [if_pos (by rfl)]
      refine wp_store_mid _ _ _ rfl _ _ (List.toArray _) rfl rfl (there_row HNW.out.1 _ rfl) (by kernel_rfl) (by kernel_rfl) ?_
      try simp only [Act.put, List.getElem_toArray, List.getElem_cons_zero, List.getElem_cons_succ]
      refine hK.out _ _ (keep_cells _ HNW.out.2.1 _ _ _ HNW.out.2.2.1) (fun hHeld => ?_)
      refine wpAnyH_done (by kernel_rfl) ?_ _
      clear hK K hHeld
      go_wp2_with fail
      go_meet
      refine ⟨_, sb, cp, rfl, Lib.hid ⟨?_, HNW.out.2.1, setCells_below _ HNW.out.2.1 _ _ _ HNW.out.2.2.2⟩⟩
      exact stored18 HNW.out.1
  case rest =>
    obtain ⟨g, sb, cp, rfl, HM⟩ := hcut
    obtain ⟨W9, hW9⟩ : ∃ Z, Z = wc := ⟨_, rfl⟩
    subst hW9
    obtain ⟨hst, hg8, hb9⟩ := HM.out
    have G2 := blk_below HG2.out hb9
    have G3 := blk_below HG3.out hb9
    have G4 := blk_below HG4.out hb9
    have HP9 := Lib.hid (HP8.out.below hb9)
    have HB9 := Lib.hid (below_then HBW.out hb9)
    have HT9 := Lib.hid (HTU.out (some ⟨sb, 0, none⟩) cp g (by omega) W9 HP9.out hst)
    have z8 : w.heap.size + 1 + 1 + 1 + 1 < W8.heap.size := (Array.getElem?_eq_some_iff.1 HG4.out).1
    have q2 := (Array.getElem?_eq_some_iff.1 G2).1
    have HGG := Lib.hid (And.intro G3 G4)
    obtain ⟨c0, c1, c2, c3⟩ := cells4p G2
    clear G2 G3 G4 HM hst hb9 HG2 HG3 HG4 HBW HTU HP8 HSH r0 r1 r2 r3 r4 r5 r6 r7 r8 r9 r10 r11 k0 y0 k1 y1 k2 y2 k3 y3 k4 y4 k5 y5 k6 y6 k7 y7 k8 y8 k9 y9 k10 y10 q0 q1
    go_wp2_with fail
    refine HT9.out.mono ?_
    rintro e w10 ⟨rfl, hs10, ho10⟩
    unfold StX stO at hs10
    have g3 := only_blk ho10 HGG.out.1 (by omega)
    have g4 := only_blk ho10 HGG.out.2 (by omega)
    have hb := Only.then_below (n := w.heap.size) (Nat.le_refl _) HB9.out ho10 (fun k hk => by subst hk; omega)
    have qg := (Array.getElem?_eq_some_iff.1 hs10).1
    obtain ⟨s0, s1, s2, s3, s4, s5, s6, s7, s8, s9, s10, s11, s12, s13, s14, s15, s16, s17⟩ := cl18 hs10
    clear c0 c1 c2 c3 q2 HGG HT9 HB9 ho10 hs10
    go_upto_region 6 with fail
    obtain ⟨u0, v0, u1, v1, u2, v2, u3, v3, u4, v4, u5, v5, u6, v6, u7, v7, u8, v8, u9, v9, u10, v10⟩ := cells11 g3
    obtain ⟨p0, o0, p1, o1⟩ := cells2 g4
    have q3 := (Array.getElem?_eq_some_iff.1 g3).1
    have q4 := (Array.getElem?_eq_some_iff.1 g4).1
    have n3 : g ≠ w.heap.size + 1 + 1 + 1 := by omega
    have n4 : g ≠ w.heap.size + 1 + 1 + 1 + 1 := by omega
    have HG34 := Lib.hid (And.intro g3 g4)
    have HBB := Lib.hid hb
    clear g3 g4 hb
    go_region_held3 (fun Z => w10.heap.size ≤ Z.heap.size ∧ ∀ b o, b < w10.heap.size → b ≠ w.heap.size + 1 + 1 + 1 → b ≠ w.heap.size + 1 + 1 + 1 + 1 → Z.cell? ⟨b, o, none⟩ = w10.cell? ⟨b, o, none⟩)
      (first
        | ((repeat' (first
            | with_reducible refine kx_drew ?_
            | with_reducible refine kx_setp ?_ _ _
            | with_reducible refine kx_setq ?_ _ _
            | with_reducible exact kx0 _ _ _
            | with_reducible exact kx_refl _ _ _));
           done)
        | fail)
      (fail)
    all_goals
      obtain ⟨g3, g4⟩ := HG34.out
      have hb := HBB.out
      go_wp2_with fail
      have HB := Lib.hid hb
      refine ret_in fun W' hW' => ?_
      have G3 : W'.heap[w.heap.size + 1 + 1 + 1]? = some (.cells #[.int .u8 (X.kind : Nat), .int .u32 (X.a : Nat), .int .u32 (X.b : Nat), .int .u8 (X.pc : Nat), .int .u8 (X.i : Nat), .int .u8 (X.j : Nat), .int .u8 (X.n : Nat), .int .u8 (X.p : Nat), .int .u8 (X.h : Nat), .int .u32 (X.x : Nat), .int .u32 (X.y : Nat)] 32 (0, 0)) := by
        rw [hW']
        repeat' (first
          | with_reducible refine Bk11.set ?_
          | with_reducible refine Bk2.set ?_
          | with_reducible refine bk_other11 ?_ ?_
          | with_reducible refine bk_other2 ?_ ?_
          | with_reducible refine Bk11.other11 ?_ ?_
          | with_reducible refine Bk11.other2 ?_ ?_
          | with_reducible refine Bk2.other11 ?_ ?_
          | with_reducible refine bk_drew ?_
          | with_reducible refine Bk11.drew ?_
          | with_reducible refine Bk2.drew ?_
          | with_reducible refine blk_alloc ?_
          | with_reducible refine Bk11.alloc ?_
          | with_reducible refine Bk2.alloc ?_
          | with_reducible refine Bk11.below hb6 ?_
          | with_reducible refine Bk2.below hb6 ?_
          | with_reducible exact bk11_of g3
          | with_reducible exact bk2_of g4
          | omega)
      have G4 : W'.heap[w.heap.size + 1 + 1 + 1 + 1]? = some (.cells #[.int .u64 (rk : Nat), .int .u64 (rv : Nat)] 35 (0, 0)) := by
        rw [hW']
        repeat' (first
          | with_reducible refine Bk11.set ?_
          | with_reducible refine Bk2.set ?_
          | with_reducible refine bk_other11 ?_ ?_
          | with_reducible refine bk_other2 ?_ ?_
          | with_reducible refine Bk11.other11 ?_ ?_
          | with_reducible refine Bk11.other2 ?_ ?_
          | with_reducible refine Bk2.other11 ?_ ?_
          | with_reducible refine bk_drew ?_
          | with_reducible refine Bk11.drew ?_
          | with_reducible refine Bk2.drew ?_
          | with_reducible refine blk_alloc ?_
          | with_reducible refine Bk11.alloc ?_
          | with_reducible refine Bk2.alloc ?_
          | with_reducible refine Bk11.below hb6 ?_
          | with_reducible refine Bk2.below hb6 ?_
          | with_reducible exact bk11_of g3
          | with_reducible exact bk2_of g4
          | omega)
      have HW : Below w.heap.size w W' := by
        rw [hW']
        repeat' (first
          | with_reducible refine bw_set11 ?_ ?_
          | with_reducible refine bw_set2 ?_ ?_
          | with_reducible refine bw_drew ?_
          | with_reducible refine bw_alloc ?_
          | with_reducible refine bw_below hb6 ?_
          | with_reducible exact HB.out
          | omega)
      clear hW' u0 v0 u1 v1 u2 v2 u3 v3 u4 v4 u5 v5 u6 v6 u7 v7 u8 v8 u9 v9 u10 v10 p0 o0 p1 o1 q3 q4
      obtain ⟨u0, v0, u1, v1, u2, v2, u3, v3, u4, v4, u5, v5, u6, v6, u7, v7, u8, v8, u9, v9, u10, v10⟩ := cells11 G3
      obtain ⟨p0, o0, p1, o1⟩ := cells2 G4
      refine bodyPost_ret ?_ rfl ⟨rfl, HW⟩
      simp [results, Tryd.results11, go_sem, u0, u1, u2, u3, u4, u5, u6, u7, u8, u9, u10, p0, p1]

theorem pAfterX_any (c : Cf) (f : Ds) (hw : DWf f) (tt A B Cc : Nat) (w : World) (hO : Obs w) (hPP : Pow w) :
    Calls Tryd.prog 11 #[cfv c, frv f, cvT tt A B Cc] w (Ret4 (frv (afterX c f A B).1) (rwv (afterX c f A B).2.1) (.bool (afterX c f A B).2.2.1) (.int .i64 (afterX c f A B).2.2.2) w) := by
  by_cases hok : Ok c ∧ c.obj = 2
  · by_cases hm : XMay c f
    · have hn : nextX c f = (stepX c f, 0) := by unfold nextX; rw [if_neg (not_not_intro hok), if_neg (not_not_intro hm)]
      have ha : afterX c f A B = ((behindX c f A B).1, toldX (behindX c f A B), (behindX c f A B).2, 0) := by unfold afterX; rw [if_neg (not_not_intro hok), if_neg (not_not_intro hm)]
      obtain ⟨C, N, K, s⟩ := szX hok.1 hok.2
      rw [ha]
      exact pAfterX_ok s hok.2 f _ hn hm hw tt A B Cc w hO hPP
    · have hn : nextX c f = (Ac.none, 2) := by unfold nextX; rw [if_neg (not_not_intro hok), if_pos hm]
      have ha : afterX c f A B = (frZero, (0, 0), false, 2) := by unfold afterX; rw [if_neg (not_not_intro hok), if_pos hm]
      rw [ha]
      exact pAfterX_bad c f 2 _ hn (by decide) hw tt A B Cc w hO hPP
  · have hn : nextX c f = (Ac.none, 40) := by unfold nextX; rw [if_pos hok]
    have ha : afterX c f A B = (frZero, (0, 0), false, 40) := by unfold afterX; rw [if_pos hok]
    rw [ha]
    exact pAfterX_bad c f 40 _ hn (by decide) hw tt A B Cc w hO hPP
end Go.Proofs.YtmkehailohgebaaDoor
