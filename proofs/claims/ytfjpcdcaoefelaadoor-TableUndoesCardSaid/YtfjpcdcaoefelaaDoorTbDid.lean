/- The document's own answer on what an operation does that fits: a hop that is turned (the rest is under way). The document's own answer on what an operation does that fits: what is taken out, put in anew, refused. The document's own answer on what an operation does that fits: what is taken out, put in anew, refused. The document's own answer on what a look-up does that fits. The document's own answer on what an operation does that fits, in one. -/
import Derived.Test.YtfjpcdcaoefelaaDoorTbMore
import Derived.Test.YtfjpcdcaoefelaaDoorOpMath
import Derived.Deep.RegionHeld3
import Derived.Deep.RegionWith
import Derived.Deep.DeepCutAuto
namespace Go.Proofs.YtfjpcdcaoefelaaDoor
open Go.RowKit Tb Pt Opn

theorem IsL.keep {X : Type} {W w' : World} {A : Option Addr} {s : Nat} {L : X → List Value} {l : List X} (h : IsL W A s L l) (k : W.heap.size ≤ w'.heap.size ∧ ∀ b o, b < W.heap.size → w'.cell? ⟨b, o, none⟩ = W.cell? ⟨b, o, none⟩) : IsL w' A s L l := fun i x hx => by
  obtain ⟨b, off, e, h1⟩ := h i x hx
  exact ⟨b, off, e, fun j u hu => (k.2 _ _ (World.block_lt_of_cell? _ _ (h1 j u hu))).trans (h1 j u hu)⟩

theorem fkeep0 (W : World) : W.heap.size ≤ W.drew.heap.size ∧ ∀ b j, b < W.heap.size → W.drew.frozen? ⟨b, j, none⟩ = W.frozen? ⟨b, j, none⟩ := ⟨Nat.le_refl _, fun _ _ _ => rfl⟩
theorem fkeep_below {W X w3 : World} (hb : Below X.heap.size X w3) (h : W.heap.size ≤ X.heap.size ∧ ∀ b j, b < W.heap.size → X.frozen? ⟨b, j, none⟩ = W.frozen? ⟨b, j, none⟩) : W.heap.size ≤ w3.heap.size ∧ ∀ b j, b < W.heap.size → w3.frozen? ⟨b, j, none⟩ = W.frozen? ⟨b, j, none⟩ :=
  ⟨Nat.le_trans h.1 hb.size, fun b j hj => (hb.frozen (p := ⟨b, j, none⟩) (Nat.lt_of_lt_of_le hj h.1)).trans (h.2 b j hj)⟩

theorem IsRV.turned {w5 w4 : World} {B t : Nat} {u : Value} {l : List R} (h : MadeX w5 B 24 2 rowL u l) (hb : Below w5.heap.size w5 w4) (ht : t < B) (a b c : Value) : IsRV (((w4.setCell ⟨t, 0, none⟩ a).setCell ⟨t, 1, none⟩ b).setCell ⟨t, 2, none⟩ c) u l := by
  obtain ⟨A, d, rfl, h1, h2, h3, h4⟩ := owns_form h
  have h5 := MadeX.form rowL_len h
  obtain ⟨A', d', e, _, _, h6⟩ := h5
  injection e with e1 _ e3
  subst e1 e3
  refine ⟨A, d, rfl, ⟨h1, h2⟩, h3, fun i x hx => ?_⟩
  have hi : i < l.length := (List.getElem?_eq_some_iff.1 hx).1
  obtain ⟨g, rfl, hg, _⟩ := h4 (by omega)
  obtain ⟨b', off, e1, h7⟩ := h6 i x hx
  injection e1 with e1
  injection e1 with e1 e2 _
  subst e1 e2
  refine ⟨g, 0, rfl, fun j v hv => ?_⟩
  have h8 := h7 j v hv
  have h9 := (hb.cell (World.block_lt_of_cell? _ _ h8)).trans h8
  have ne : g ≠ t := by omega
  have k : ∀ (X : World) (o : Nat) (y : Value), (X.setCell ⟨t, o, none⟩ y).cell? ⟨g, 0 + i * 2 + j, none⟩ = X.cell? ⟨g, 0 + i * 2 + j, none⟩ := fun X o y => World.cell?_of_block (w := X) (Below.heap_setCell X ⟨t, o, none⟩ y g (by simpa using ne))
  rw [k, k, k]
  exact h9

set_option maxRecDepth 20000 in
set_option maxHeartbeats 4000000 in
theorem rDone_turn (c : Cf) (A : Option Addr) (l : List R) (d a b v i : Nat) (hl : l.length ≤ 1000000) (hu : Up l) (ha : a < 4294967296) (hb : b ≤ 6) (hv : v < 4294967296) (hi : i < l.length) (hfi : fnd l (2 ^ b + a) = (i : Nat)) (hval : l[i].2 ≤ 2147483647) (w : World) (h : IsR w A l) :
    Calls Tryd.prog 32 #[cfv c, .slice A l.length d, opv ⟨1, a, b, v⟩] w (fun e w' => ∃ u, e = .returned (.tuple #[u, resv 0 ((l[i].2 + 1) % 4294967296 : Nat) none 0 0]) ∧ IsRV w' u (put l (2 ^ b + a) v) ∧ Below w.heap.size w w') := by
  have H1 := Lib.hid (rPow_any b (by omega))
  have h64 : 2 ^ b ≤ 2 ^ 6 := Nat.pow_le_pow_right (by decide) hb
  have H2 := Lib.hid (fun W hA => rFind_any A l d (by omega) (2 ^ b + a) W hA)
  rw [hfi] at H2
  have H3 := Lib.hid (fun W hA => rWith_up A l d hl hu (2 ^ b + a) v W hA)
  have H4 := Lib.hid (rWord_any l[i].2 (by omega))
  have HA := Lib.hid h
  obtain ⟨p, hp⟩ : ∃ p, 2 ^ b = p := ⟨_, rfl⟩
  obtain ⟨k, hk⟩ : ∃ k, p + a = k := ⟨_, rfl⟩
  have hk' : (p : Int) + (a : Int) = (k : Int) := by omega
  rw [hp, hk] at H2 H3
  rw [hp] at H1 h64
  have HP := Lib.hid (And.intro hp hk)
  unfold cfv opv
  simp only
  obtain ⟨N, hN⟩ : ∃ N, l.length = N := ⟨_, rfl⟩
  rw [hN] at hl H2 H3 ⊢
  have HN := Lib.hid hN
  clear hp hk hN h hfi
  go_enter Tryd.func32, Tryd.ntmps32
  go_wp2_with fail
  obtain ⟨W0, hW⟩ : ∃ W0, W0 = ((w.alloc (.cells #[.int .u8 c.obj, .int .i64 c.inst, .int .i64 c.thr, .int .u8 c.kind, .int .i64 c.str, .int .i64 c.bits, .int .i64 c.cap, .int .i64 c.node, .int .i64 c.bat, .int .i64 c.chunk, .int .u64 c.lim, .int .u64 c.most] 33)).alloc (.cells #[.int .u8 1, .int .u32 a, .int .u32 b, .int .u32 v] 35)).alloc (.cells #[.int .i64 0, .int .u32 0, .slice none 0 0] 29) := ⟨_, rfl⟩
  have hb0 : Below w.heap.size w W0 := by rw [hW]; exact below_three _ _ _ _
  rw [← hW]
  have o0 : W0.cell? ⟨w.heap.size + 1, 0, none⟩ = some (.int .u8 1) := by rw [hW]; simp [go_sem]
  have o1 : W0.cell? ⟨w.heap.size + 1, 1, none⟩ = some (.int .u32 a) := by rw [hW]; simp [go_sem]
  have o2 : W0.cell? ⟨w.heap.size + 1, 2, none⟩ = some (.int .u32 b) := by rw [hW]; simp [go_sem]
  have o3 : W0.cell? ⟨w.heap.size + 1, 3, none⟩ = some (.int .u32 v) := by rw [hW]; simp [go_sem]
  have z0 : W0.cell? ⟨w.heap.size + 1 + 1, 0, none⟩ = some (.int .i64 0) := by rw [hW]; simp [go_sem]
  have f0 : W0.frozen? ⟨w.heap.size + 1 + 1, 0, none⟩ = false := by rw [hW]; simp [go_sem]
  have z1 : W0.cell? ⟨w.heap.size + 1 + 1, 1, none⟩ = some (.int .u32 0) := by rw [hW]; simp [go_sem]
  have f1 : W0.frozen? ⟨w.heap.size + 1 + 1, 1, none⟩ = false := by rw [hW]; simp [go_sem]
  have z2 : W0.cell? ⟨w.heap.size + 1 + 1, 2, none⟩ = some (.slice none 0 0) := by rw [hW]; simp [go_sem]
  have f2 : W0.frozen? ⟨w.heap.size + 1 + 1, 2, none⟩ = false := by rw [hW]; simp [go_sem]
  have hs : w.heap.size + 1 + 1 < W0.heap.size := by rw [hW]; simp
  have hs1 : w.heap.size + 1 < W0.heap.size := by omega
  clear hW
  have k1 := cell_regrown o1
  have k2 := cell_regrown o2
  refine wp_region_quiet_below (by kernel_rfl) (by kernel_rfl) ?_
  repeat (go_big_quiet_step (fail))
  go_big_quiet_step (exact Calls.regrown_of (H1.out _))
  repeat (go_big_quiet_step (fail))
  refine wpQuiet_nil ?_
  intro W1 hw'
  obtain ⟨⟨dq, osq⟩, hw''⟩ := hw'
  have hb1 := below_regrown W0 dq osq
  rw [← hw''] at hb1
  clear hw'' k1 k2
  have HA1 := Lib.hid (HA.out.below (hb0.trans (hb1.mono hb0.size)))
  go_wp2_with fail
  refine (H2.out _ HA1.out).mono ?_
  rintro e w2 ⟨rfl, hb2⟩
  replace hb1 := below_then hb1 hb2
  have HA2 := Lib.hid (HA1.out.below hb2)
  have o0' := (hb1.cell hs1).trans o0
  have o3' := (hb1.cell hs1).trans o3
  replace z0 := (hb1.cell hs).trans z0
  replace f0 := (hb1.frozen hs).trans f0
  replace z1 := (hb1.cell hs).trans z1
  replace f1 := (hb1.frozen hs).trans f1
  replace z2 := (hb1.cell hs).trans z2
  replace f2 := (hb1.frozen hs).trans f2
  have i1 : (0 : Int) ≤ (i : Int) := by omega
  have i2 : (i : Int) < (N : Int) := by have := HN.out; omega
  obtain ⟨bk, off, rfl, _, h2⟩ := HA2.out.row hi
  have H4i := Lib.hid H4.out
  obtain ⟨q, hq⟩ : ∃ q, l[i].2 = q := ⟨_, rfl⟩
  rw [hq] at h2 H4i
  obtain ⟨y, hy⟩ : ∃ y, (q + 1) % 4294967296 = y := ⟨_, rfl⟩
  rw [hy] at H4i
  have HY := Lib.hid (And.intro hq hy)
  clear hq hy hval H4
  go_wp2_with fail
  have hs2 : w.heap.size + 1 + 1 < w2.heap.size := Nat.lt_of_lt_of_le hs hb1.size
  have hs3 : w.heap.size + 1 < w2.heap.size := by omega
  have hbk : bk < w2.heap.size := World.block_lt_of_cell? _ _ h2
  have HVW := Lib.hid (show IntKind.u64.wrap (v : Int) = v by rw [IntKind.wrap_u64]; omega)
  have HB2 := Lib.hid (show Below w.heap.size w w2.drew from (hb0.trans (hb1.mono hb0.size)).trans ⟨rfl, rfl, rfl, Nat.le_refl _, fun _ _ => rfl⟩)
  go_cut [6] (fun s6 wx => ∃ u, s6 = u ∧ Hid (IsRV wx u (put l k v) ∧ Below w.heap.size w wx ∧ wx.cell? ⟨w.heap.size + 1 + 1, 0, none⟩ = some (.int .i64 0) ∧ wx.cell? ⟨w.heap.size + 1 + 1, 1, none⟩ = some (.int .u32 y) ∧ wx.cell? ⟨w.heap.size + 1 + 1, 2, none⟩ = some (.slice none 0 0)))
  case first =>
    go_region_with (first
        | (go_at_call 51; (with_reducible refine (H4i.out _).mono ?_); rintro e w4 ⟨rfl, hb4⟩; first | (obtain ⟨hz4, hc4⟩ := keep_below hb4 (keep0 w2); obtain ⟨_, hf4⟩ := fkeep_below hb4 (fkeep0 w2)) | (obtain ⟨hz4, hc4⟩ := keep_below hb4 (keep_below hb5 (keep0 w2)); obtain ⟨_, hf4⟩ := fkeep_below hb4 (fkeep_below hb5 (fkeep0 w2))))
        | (go_at_call 50; rw [HVW.out]; refine (H3.out _ (HA2.out.keep ?_)).mono ?_; (first | with_reducible exact keep0 w2 | with_reducible exact keep_below hb4 (keep0 w2)); rintro e w5 ⟨u, rfl, hM5, hb5⟩; (first | (obtain ⟨hz5, hc5⟩ := keep_below hb5 (keep0 w2); obtain ⟨_, hf5⟩ := fkeep_below hb5 (fkeep0 w2)) | (obtain ⟨hz5, hc5⟩ := keep_below hb5 (keep_below hb4 (keep0 w2)); obtain ⟨_, hf5⟩ := fkeep_below hb5 (fkeep_below hb4 (fkeep0 w2)))); have HM5 := Lib.hid hM5; clear hM5))
    all_goals
      go_wp2_with fail
      go_meet
      refine ⟨_, rfl, Lib.hid ⟨IsRV.turned HM5.out hb4 hs2 _ _ _, ?_, ?_, ?_, ?_⟩⟩
      · exact (((((HB2.out.trans (hb5.mono HB2.out.size)).trans (hb4.mono (Nat.le_trans HB2.out.size hb5.size))).setCell (by simp; omega) _).setCell (by simp; omega) _).setCell (by simp; omega) _)
      · simp [go_sem, hc4, hs2, z0]
      · simp [go_sem, hc4, hs2, z1]
      · simp [go_sem, hc4, hs2, z2]
  case rest =>
    obtain ⟨u, rfl, HR⟩ := hcut
    obtain ⟨r1, r2, r3, r4, r5⟩ := HR.out
    have HR1 := Lib.hid (And.intro r1 r2)
    have HPP := Lib.hid (HP.out)
    clear r1 r2
    go_wp2
    refine bodyPost_ret (v := .tuple #[u6, .agg #[.int .i64 0, .int .u32 y, .slice none 0 0]]) ?_ rfl ⟨u6, ?_, ?_, HR1.out.2⟩
    · simp [results, Tryd.results32, go_sem, r3, r4, r5]
    · rw [HY.out.1, HY.out.2]; rfl
    · rw [HPP.out.1, HPP.out.2]; exact HR1.out.1
end Go.Proofs.YtfjpcdcaoefelaaDoor

namespace Go.Proofs.YtfjpcdcaoefelaaDoor
open Go.RowKit Tb Pt Opn

theorem IsRV.old {w wx : World} {A : Option Addr} {l : List R} {N d : Nat} (hd : l.length ≤ d ∧ d ≤ 9223372036854775807) (hA : A = none → l.length = 0 ∧ d = 0) (hN : l.length = N) (h : IsR w A l) (hb : Below w.heap.size w wx) : IsRV wx (.slice A N d) l :=
  ⟨A, d, by rw [hN], hd, hA, h.below hb⟩

set_option maxRecDepth 20000 in
set_option maxHeartbeats 4000000 in
theorem rDone_new (c : Cf) (A : Option Addr) (l : List R) (d a b v : Nat) (_ : l.length ≤ d ∧ d ≤ 9223372036854775807) (_ : A = none → l.length = 0 ∧ d = 0) (hl : l.length ≤ 1000000) (hu : Up l) (ha : a < 4294967296) (hb : b ≤ 6) (hv : v < 4294967296) (hcap : (l.length : Int) < c.cap) (hfi : fnd l (2 ^ b + a) = -1) (w : World) (h : IsR w A l) :
    Calls Tryd.prog 32 #[cfv c, .slice A l.length d, opv ⟨1, a, b, v⟩] w (fun e w' => ∃ u, e = .returned (.tuple #[u, resv 0 0 none 0 0]) ∧ IsRV w' u (put l (2 ^ b + a) v) ∧ Below w.heap.size w w') := by
  have H1 := Lib.hid (rPow_any b (by omega))
  have h64 : 2 ^ b ≤ 2 ^ 6 := Nat.pow_le_pow_right (by decide) hb
  have H2 := Lib.hid (fun W hA => rFind_any A l d (by omega) (2 ^ b + a) W hA)
  rw [hfi] at H2
  have H3 := Lib.hid (fun W hA => rWith_up A l d hl hu (2 ^ b + a) v W hA)
  have HA := Lib.hid h
  obtain ⟨p, hp⟩ : ∃ p, 2 ^ b = p := ⟨_, rfl⟩
  obtain ⟨k, hk⟩ : ∃ k, p + a = k := ⟨_, rfl⟩
  have hk' : (p : Int) + (a : Int) = (k : Int) := by omega
  rw [hp, hk] at H2 H3
  rw [hp] at H1 h64
  have HP := Lib.hid (And.intro hp hk)
  unfold cfv opv
  simp only
  obtain ⟨N, hN⟩ : ∃ N, l.length = N := ⟨_, rfl⟩
  rw [hN] at hl H2 H3 hcap ⊢
  have HN := Lib.hid hN
  clear hp hk hN h hfi
  go_enter Tryd.func32, Tryd.ntmps32
  go_wp2_with fail
  obtain ⟨W0, hW⟩ : ∃ W0, W0 = ((w.alloc (.cells #[.int .u8 c.obj, .int .i64 c.inst, .int .i64 c.thr, .int .u8 c.kind, .int .i64 c.str, .int .i64 c.bits, .int .i64 c.cap, .int .i64 c.node, .int .i64 c.bat, .int .i64 c.chunk, .int .u64 c.lim, .int .u64 c.most] 33)).alloc (.cells #[.int .u8 1, .int .u32 a, .int .u32 b, .int .u32 v] 35)).alloc (.cells #[.int .i64 0, .int .u32 0, .slice none 0 0] 29) := ⟨_, rfl⟩
  have hb0 : Below w.heap.size w W0 := by rw [hW]; exact below_three _ _ _ _
  rw [← hW]
  have o0 : W0.cell? ⟨w.heap.size + 1, 0, none⟩ = some (.int .u8 1) := by rw [hW]; simp [go_sem]
  have o1 : W0.cell? ⟨w.heap.size + 1, 1, none⟩ = some (.int .u32 a) := by rw [hW]; simp [go_sem]
  have o2 : W0.cell? ⟨w.heap.size + 1, 2, none⟩ = some (.int .u32 b) := by rw [hW]; simp [go_sem]
  have o3 : W0.cell? ⟨w.heap.size + 1, 3, none⟩ = some (.int .u32 v) := by rw [hW]; simp [go_sem]
  have g6 : W0.cell? ⟨w.heap.size, 6, none⟩ = some (.int .i64 c.cap) := by rw [hW]; simp [go_sem]
  have z0 : W0.cell? ⟨w.heap.size + 1 + 1, 0, none⟩ = some (.int .i64 0) := by rw [hW]; simp [go_sem]
  have f0 : W0.frozen? ⟨w.heap.size + 1 + 1, 0, none⟩ = false := by rw [hW]; simp [go_sem]
  have z1 : W0.cell? ⟨w.heap.size + 1 + 1, 1, none⟩ = some (.int .u32 0) := by rw [hW]; simp [go_sem]
  have f1 : W0.frozen? ⟨w.heap.size + 1 + 1, 1, none⟩ = false := by rw [hW]; simp [go_sem]
  have z2 : W0.cell? ⟨w.heap.size + 1 + 1, 2, none⟩ = some (.slice none 0 0) := by rw [hW]; simp [go_sem]
  have f2 : W0.frozen? ⟨w.heap.size + 1 + 1, 2, none⟩ = false := by rw [hW]; simp [go_sem]
  have hs : w.heap.size + 1 + 1 < W0.heap.size := by rw [hW]; simp
  have hs1 : w.heap.size + 1 < W0.heap.size := by omega
  clear hW
  have k1 := cell_regrown o1
  have k2 := cell_regrown o2
  refine wp_region_quiet_below (by kernel_rfl) (by kernel_rfl) ?_
  repeat (go_big_quiet_step (fail))
  go_big_quiet_step (exact Calls.regrown_of (H1.out _))
  repeat (go_big_quiet_step (fail))
  refine wpQuiet_nil ?_
  intro W1 hw'
  obtain ⟨⟨dq, osq⟩, hw''⟩ := hw'
  have hb1 := below_regrown W0 dq osq
  rw [← hw''] at hb1
  clear hw'' k1 k2
  have HA1 := Lib.hid (HA.out.below (hb0.trans (hb1.mono hb0.size)))
  go_wp2_with fail
  refine (H2.out _ HA1.out).mono ?_
  rintro e w2 ⟨rfl, hb2⟩
  replace hb1 := below_then hb1 hb2
  have HA2 := Lib.hid (HA1.out.below hb2)
  have hcap' : ¬ c.cap ≤ (N : Int) := by omega
  have o0' := (hb1.cell hs1).trans o0
  have g6' := (hb1.cell (Nat.lt_of_succ_lt hs1)).trans g6
  have o3' := (hb1.cell hs1).trans o3
  replace z0 := (hb1.cell hs).trans z0
  replace f0 := (hb1.frozen hs).trans f0
  replace z1 := (hb1.cell hs).trans z1
  replace f1 := (hb1.frozen hs).trans f1
  replace z2 := (hb1.cell hs).trans z2
  replace f2 := (hb1.frozen hs).trans f2
  go_wp2_with fail
  refine (H3.out _ HA2.out).mono ?_
  rintro e w5 ⟨u, rfl, hM5, hb5⟩
  have hs2 : w.heap.size + 1 + 1 < w2.heap.size := Nat.lt_of_lt_of_le hs hb1.size
  replace z0 := (hb5.cell hs2).trans z0
  replace f0 := (hb5.frozen hs2).trans f0
  replace z1 := (hb5.cell hs2).trans z1
  replace f1 := (hb5.frozen hs2).trans f1
  replace z2 := (hb5.cell hs2).trans z2
  replace f2 := (hb5.frozen hs2).trans f2
  have HM5 := Lib.hid hM5
  have HPP := Lib.hid (HP.out)
  clear hM5
  go_wp2
  refine bodyPost_ret (v := .tuple #[u, .agg #[.int .i64 0, .int .u32 0, .slice none 0 0]]) ?_ rfl ⟨_, rfl, ?_, ?_⟩
  · simp [results, Tryd.results32, go_sem, z0, z1, z2]
  · rw [HPP.out.1, HPP.out.2]
    exact IsRV.turned HM5.out (Below.refl _ _) hs2 _ _ _
  · exact (((((hb0.trans (hb1.mono hb0.size)).trans (hb5.mono (Nat.le_trans hb0.size hb1.size))).setCell (by simp; omega) _).setCell (by simp; omega) _).setCell (by simp; omega) _)

set_option maxRecDepth 20000 in
set_option maxHeartbeats 4000000 in
theorem rDone_full (c : Cf) (A : Option Addr) (l : List R) (d a b v : Nat) (hd : l.length ≤ d ∧ d ≤ 9223372036854775807) (hAn : A = none → l.length = 0 ∧ d = 0) (hl : l.length ≤ 1000000) (hu : Up l) (ha : a < 4294967296) (hb : b ≤ 6) (_ : v < 4294967296) (hcap : ¬ (l.length : Int) < c.cap) (hfi : fnd l (2 ^ b + a) = -1) (w : World) (h : IsR w A l) :
    Calls Tryd.prog 32 #[cfv c, .slice A l.length d, opv ⟨1, a, b, v⟩] w (fun e w' => ∃ u, e = .returned (.tuple #[u, resv 9 0 none 0 0]) ∧ IsRV w' u (l) ∧ Below w.heap.size w w') := by
  have H1 := Lib.hid (rPow_any b (by omega))
  have h64 : 2 ^ b ≤ 2 ^ 6 := Nat.pow_le_pow_right (by decide) hb
  have H2 := Lib.hid (fun W hA => rFind_any A l d (by omega) (2 ^ b + a) W hA)
  rw [hfi] at H2
  have H3 := Lib.hid (fun W hA => rWith_up A l d hl hu (2 ^ b + a) v W hA)
  have HA := Lib.hid h
  obtain ⟨p, hp⟩ : ∃ p, 2 ^ b = p := ⟨_, rfl⟩
  obtain ⟨k, hk⟩ : ∃ k, p + a = k := ⟨_, rfl⟩
  have hk' : (p : Int) + (a : Int) = (k : Int) := by omega
  rw [hp, hk] at H2 H3
  rw [hp] at H1 h64
  have HP := Lib.hid (And.intro hp hk)
  unfold cfv opv
  simp only
  obtain ⟨N, hN⟩ : ∃ N, l.length = N := ⟨_, rfl⟩
  rw [hN] at hl H2 H3 hcap hd hAn ⊢
  have HN := Lib.hid hN
  clear hp hk hN h hfi
  go_enter Tryd.func32, Tryd.ntmps32
  go_wp2_with fail
  obtain ⟨W0, hW⟩ : ∃ W0, W0 = ((w.alloc (.cells #[.int .u8 c.obj, .int .i64 c.inst, .int .i64 c.thr, .int .u8 c.kind, .int .i64 c.str, .int .i64 c.bits, .int .i64 c.cap, .int .i64 c.node, .int .i64 c.bat, .int .i64 c.chunk, .int .u64 c.lim, .int .u64 c.most] 33)).alloc (.cells #[.int .u8 1, .int .u32 a, .int .u32 b, .int .u32 v] 35)).alloc (.cells #[.int .i64 0, .int .u32 0, .slice none 0 0] 29) := ⟨_, rfl⟩
  have hb0 : Below w.heap.size w W0 := by rw [hW]; exact below_three _ _ _ _
  rw [← hW]
  have o0 : W0.cell? ⟨w.heap.size + 1, 0, none⟩ = some (.int .u8 1) := by rw [hW]; simp [go_sem]
  have o1 : W0.cell? ⟨w.heap.size + 1, 1, none⟩ = some (.int .u32 a) := by rw [hW]; simp [go_sem]
  have o2 : W0.cell? ⟨w.heap.size + 1, 2, none⟩ = some (.int .u32 b) := by rw [hW]; simp [go_sem]
  have o3 : W0.cell? ⟨w.heap.size + 1, 3, none⟩ = some (.int .u32 v) := by rw [hW]; simp [go_sem]
  have g6 : W0.cell? ⟨w.heap.size, 6, none⟩ = some (.int .i64 c.cap) := by rw [hW]; simp [go_sem]
  have z0 : W0.cell? ⟨w.heap.size + 1 + 1, 0, none⟩ = some (.int .i64 0) := by rw [hW]; simp [go_sem]
  have f0 : W0.frozen? ⟨w.heap.size + 1 + 1, 0, none⟩ = false := by rw [hW]; simp [go_sem]
  have z1 : W0.cell? ⟨w.heap.size + 1 + 1, 1, none⟩ = some (.int .u32 0) := by rw [hW]; simp [go_sem]
  have f1 : W0.frozen? ⟨w.heap.size + 1 + 1, 1, none⟩ = false := by rw [hW]; simp [go_sem]
  have z2 : W0.cell? ⟨w.heap.size + 1 + 1, 2, none⟩ = some (.slice none 0 0) := by rw [hW]; simp [go_sem]
  have f2 : W0.frozen? ⟨w.heap.size + 1 + 1, 2, none⟩ = false := by rw [hW]; simp [go_sem]
  have hs : w.heap.size + 1 + 1 < W0.heap.size := by rw [hW]; simp
  have hs1 : w.heap.size + 1 < W0.heap.size := by omega
  clear hW
  have k1 := cell_regrown o1
  have k2 := cell_regrown o2
  refine wp_region_quiet_below (by kernel_rfl) (by kernel_rfl) ?_
  repeat (go_big_quiet_step (fail))
  go_big_quiet_step (exact Calls.regrown_of (H1.out _))
  repeat (go_big_quiet_step (fail))
  refine wpQuiet_nil ?_
  intro W1 hw'
  obtain ⟨⟨dq, osq⟩, hw''⟩ := hw'
  have hb1 := below_regrown W0 dq osq
  rw [← hw''] at hb1
  clear hw'' k1 k2
  have HA1 := Lib.hid (HA.out.below (hb0.trans (hb1.mono hb0.size)))
  go_wp2_with fail
  refine (H2.out _ HA1.out).mono ?_
  rintro e w2 ⟨rfl, hb2⟩
  replace hb1 := below_then hb1 hb2
  have HA2 := Lib.hid (HA1.out.below hb2)
  have hcap' : c.cap ≤ (N : Int) := by omega
  have o0' := (hb1.cell hs1).trans o0
  have g6' := (hb1.cell (Nat.lt_of_succ_lt hs1)).trans g6
  have o3' := (hb1.cell hs1).trans o3
  replace z0 := (hb1.cell hs).trans z0
  replace f0 := (hb1.frozen hs).trans f0
  replace z1 := (hb1.cell hs).trans z1
  replace f1 := (hb1.frozen hs).trans f1
  replace z2 := (hb1.cell hs).trans z2
  replace f2 := (hb1.frozen hs).trans f2
  have hs2 : w.heap.size + 1 + 1 < w2.heap.size := Nat.lt_of_lt_of_le hs hb1.size
  have HD := Lib.hid (And.intro hd hAn)
  have HHA := Lib.hid (HA.out)
  clear hd hAn
  go_wp2
  refine bodyPost_ret (v := .tuple #[.slice A N d, .agg #[.int .i64 9, .int .u32 0, .slice none 0 0]]) ?_ rfl ⟨_, rfl, ?_, ?_⟩
  · simp [results, Tryd.results32, go_sem, z0, z1, z2]
  · exact IsRV.old (by rw [HN.out]; exact HD.out.1) (by rw [HN.out]; exact HD.out.2) HN.out HHA.out (((((hb0.trans (hb1.mono hb0.size))).setCell (by simp; omega) _).setCell (by simp; omega) _).setCell (by simp; omega) _)
  · exact ((((hb0.trans (hb1.mono hb0.size)).setCell (by simp; omega) _).setCell (by simp; omega) _).setCell (by simp; omega) _)

set_option maxRecDepth 20000 in
set_option maxHeartbeats 4000000 in
theorem rDone_none (c : Cf) (A : Option Addr) (l : List R) (d a b v : Nat) (hd : l.length ≤ d ∧ d ≤ 9223372036854775807) (hAn : A = none → l.length = 0 ∧ d = 0) (hl : l.length ≤ 1000000) (hu : Up l) (ha : a < 4294967296) (hb : b ≤ 6) (_ : v < 4294967296) (hfi : fnd l (2 ^ b + a) = -1) (w : World) (h : IsR w A l) :
    Calls Tryd.prog 32 #[cfv c, .slice A l.length d, opv ⟨2, a, b, v⟩] w (fun e w' => ∃ u, e = .returned (.tuple #[u, resv 6 0 none 0 0]) ∧ IsRV w' u (l) ∧ Below w.heap.size w w') := by
  have H1 := Lib.hid (rPow_any b (by omega))
  have h64 : 2 ^ b ≤ 2 ^ 6 := Nat.pow_le_pow_right (by decide) hb
  have H2 := Lib.hid (fun W hA => rFind_any A l d (by omega) (2 ^ b + a) W hA)
  rw [hfi] at H2
  have H3 := Lib.hid (fun W hA => rWith_up A l d hl hu (2 ^ b + a) v W hA)
  have HA := Lib.hid h
  obtain ⟨p, hp⟩ : ∃ p, 2 ^ b = p := ⟨_, rfl⟩
  obtain ⟨k, hk⟩ : ∃ k, p + a = k := ⟨_, rfl⟩
  have hk' : (p : Int) + (a : Int) = (k : Int) := by omega
  rw [hp, hk] at H2 H3
  rw [hp] at H1 h64
  have HP := Lib.hid (And.intro hp hk)
  unfold cfv opv
  simp only
  obtain ⟨N, hN⟩ : ∃ N, l.length = N := ⟨_, rfl⟩
  rw [hN] at hl H2 H3 hd hAn ⊢
  have HN := Lib.hid hN
  clear hp hk hN h hfi
  go_enter Tryd.func32, Tryd.ntmps32
  go_wp2_with fail
  obtain ⟨W0, hW⟩ : ∃ W0, W0 = ((w.alloc (.cells #[.int .u8 c.obj, .int .i64 c.inst, .int .i64 c.thr, .int .u8 c.kind, .int .i64 c.str, .int .i64 c.bits, .int .i64 c.cap, .int .i64 c.node, .int .i64 c.bat, .int .i64 c.chunk, .int .u64 c.lim, .int .u64 c.most] 33)).alloc (.cells #[.int .u8 2, .int .u32 a, .int .u32 b, .int .u32 v] 35)).alloc (.cells #[.int .i64 0, .int .u32 0, .slice none 0 0] 29) := ⟨_, rfl⟩
  have hb0 : Below w.heap.size w W0 := by rw [hW]; exact below_three _ _ _ _
  rw [← hW]
  have o0 : W0.cell? ⟨w.heap.size + 1, 0, none⟩ = some (.int .u8 2) := by rw [hW]; simp [go_sem]
  have o1 : W0.cell? ⟨w.heap.size + 1, 1, none⟩ = some (.int .u32 a) := by rw [hW]; simp [go_sem]
  have o2 : W0.cell? ⟨w.heap.size + 1, 2, none⟩ = some (.int .u32 b) := by rw [hW]; simp [go_sem]
  have o3 : W0.cell? ⟨w.heap.size + 1, 3, none⟩ = some (.int .u32 v) := by rw [hW]; simp [go_sem]
  have g6 : W0.cell? ⟨w.heap.size, 6, none⟩ = some (.int .i64 c.cap) := by rw [hW]; simp [go_sem]
  have z0 : W0.cell? ⟨w.heap.size + 1 + 1, 0, none⟩ = some (.int .i64 0) := by rw [hW]; simp [go_sem]
  have f0 : W0.frozen? ⟨w.heap.size + 1 + 1, 0, none⟩ = false := by rw [hW]; simp [go_sem]
  have z1 : W0.cell? ⟨w.heap.size + 1 + 1, 1, none⟩ = some (.int .u32 0) := by rw [hW]; simp [go_sem]
  have f1 : W0.frozen? ⟨w.heap.size + 1 + 1, 1, none⟩ = false := by rw [hW]; simp [go_sem]
  have z2 : W0.cell? ⟨w.heap.size + 1 + 1, 2, none⟩ = some (.slice none 0 0) := by rw [hW]; simp [go_sem]
  have f2 : W0.frozen? ⟨w.heap.size + 1 + 1, 2, none⟩ = false := by rw [hW]; simp [go_sem]
  have hs : w.heap.size + 1 + 1 < W0.heap.size := by rw [hW]; simp
  have hs1 : w.heap.size + 1 < W0.heap.size := by omega
  clear hW
  have k1 := cell_regrown o1
  have k2 := cell_regrown o2
  refine wp_region_quiet_below (by kernel_rfl) (by kernel_rfl) ?_
  repeat (go_big_quiet_step (fail))
  go_big_quiet_step (exact Calls.regrown_of (H1.out _))
  repeat (go_big_quiet_step (fail))
  refine wpQuiet_nil ?_
  intro W1 hw'
  obtain ⟨⟨dq, osq⟩, hw''⟩ := hw'
  have hb1 := below_regrown W0 dq osq
  rw [← hw''] at hb1
  clear hw'' k1 k2
  have HA1 := Lib.hid (HA.out.below (hb0.trans (hb1.mono hb0.size)))
  go_wp2_with fail
  refine (H2.out _ HA1.out).mono ?_
  rintro e w2 ⟨rfl, hb2⟩
  replace hb1 := below_then hb1 hb2
  have HA2 := Lib.hid (HA1.out.below hb2)
  have o0' := (hb1.cell hs1).trans o0
  have g6' := (hb1.cell (Nat.lt_of_succ_lt hs1)).trans g6
  have o3' := (hb1.cell hs1).trans o3
  replace z0 := (hb1.cell hs).trans z0
  replace f0 := (hb1.frozen hs).trans f0
  replace z1 := (hb1.cell hs).trans z1
  replace f1 := (hb1.frozen hs).trans f1
  replace z2 := (hb1.cell hs).trans z2
  replace f2 := (hb1.frozen hs).trans f2
  have hs2 : w.heap.size + 1 + 1 < w2.heap.size := Nat.lt_of_lt_of_le hs hb1.size
  have HD := Lib.hid (And.intro hd hAn)
  have HHA := Lib.hid (HA.out)
  clear hd hAn
  go_wp2
  refine bodyPost_ret (v := .tuple #[.slice A N d, .agg #[.int .i64 6, .int .u32 0, .slice none 0 0]]) ?_ rfl ⟨_, rfl, ?_, ?_⟩
  · simp [results, Tryd.results32, go_sem, z0, z1, z2]
  · exact IsRV.old (by rw [HN.out]; exact HD.out.1) (by rw [HN.out]; exact HD.out.2) HN.out HHA.out (((((hb0.trans (hb1.mono hb0.size))).setCell (by simp; omega) _).setCell (by simp; omega) _).setCell (by simp; omega) _)
  · exact ((((hb0.trans (hb1.mono hb0.size)).setCell (by simp; omega) _).setCell (by simp; omega) _).setCell (by simp; omega) _)

end Go.Proofs.YtfjpcdcaoefelaaDoor

namespace Go.Proofs.YtfjpcdcaoefelaaDoor
open Go.RowKit Tb Pt Opn

set_option maxRecDepth 20000 in
set_option maxHeartbeats 4000000 in
theorem rDone_cut (c : Cf) (A : Option Addr) (l : List R) (d a b v i : Nat) (hl : l.length ≤ 1000000) (ha : a < 4294967296) (hb : b ≤ 6) (hi : i < l.length) (hfi : fnd l (2 ^ b + a) = (i : Nat)) (hval : l[i].2 ≤ 2147483647) (w : World) (h : IsR w A l) :
    Calls Tryd.prog 32 #[cfv c, .slice A l.length d, opv ⟨2, a, b, v⟩] w (fun e w' => ∃ u, e = .returned (.tuple #[u, resv 0 ((l[i].2 + 1) % 4294967296 : Nat) none 0 0]) ∧ IsRV w' u (cut l (2 ^ b + a)) ∧ Below w.heap.size w w') := by
  have H1 := Lib.hid (rPow_any b (by omega))
  have h64 : 2 ^ b ≤ 2 ^ 6 := Nat.pow_le_pow_right (by decide) hb
  have H2 := Lib.hid (fun W hA => rFind_any A l d (by omega) (2 ^ b + a) W hA)
  rw [hfi] at H2
  have H3 := Lib.hid (fun W hA => rWithout_any A l d hl (2 ^ b + a) W hA)
  have H4 := Lib.hid (rWord_any l[i].2 (by omega))
  have HA := Lib.hid h
  obtain ⟨p, hp⟩ : ∃ p, 2 ^ b = p := ⟨_, rfl⟩
  obtain ⟨k, hk⟩ : ∃ k, p + a = k := ⟨_, rfl⟩
  have hk' : (p : Int) + (a : Int) = (k : Int) := by omega
  rw [hp, hk] at H2 H3
  rw [hp] at H1 h64
  have HP := Lib.hid (And.intro hp hk)
  unfold cfv opv
  simp only
  obtain ⟨N, hN⟩ : ∃ N, l.length = N := ⟨_, rfl⟩
  rw [hN] at hl H2 H3 ⊢
  have HN := Lib.hid hN
  clear hp hk hN h hfi
  go_enter Tryd.func32, Tryd.ntmps32
  go_wp2_with fail
  obtain ⟨W0, hW⟩ : ∃ W0, W0 = ((w.alloc (.cells #[.int .u8 c.obj, .int .i64 c.inst, .int .i64 c.thr, .int .u8 c.kind, .int .i64 c.str, .int .i64 c.bits, .int .i64 c.cap, .int .i64 c.node, .int .i64 c.bat, .int .i64 c.chunk, .int .u64 c.lim, .int .u64 c.most] 33)).alloc (.cells #[.int .u8 2, .int .u32 a, .int .u32 b, .int .u32 v] 35)).alloc (.cells #[.int .i64 0, .int .u32 0, .slice none 0 0] 29) := ⟨_, rfl⟩
  have hb0 : Below w.heap.size w W0 := by rw [hW]; exact below_three _ _ _ _
  rw [← hW]
  have o0 : W0.cell? ⟨w.heap.size + 1, 0, none⟩ = some (.int .u8 2) := by rw [hW]; simp [go_sem]
  have o1 : W0.cell? ⟨w.heap.size + 1, 1, none⟩ = some (.int .u32 a) := by rw [hW]; simp [go_sem]
  have o2 : W0.cell? ⟨w.heap.size + 1, 2, none⟩ = some (.int .u32 b) := by rw [hW]; simp [go_sem]
  have o3 : W0.cell? ⟨w.heap.size + 1, 3, none⟩ = some (.int .u32 v) := by rw [hW]; simp [go_sem]
  have z0 : W0.cell? ⟨w.heap.size + 1 + 1, 0, none⟩ = some (.int .i64 0) := by rw [hW]; simp [go_sem]
  have f0 : W0.frozen? ⟨w.heap.size + 1 + 1, 0, none⟩ = false := by rw [hW]; simp [go_sem]
  have z1 : W0.cell? ⟨w.heap.size + 1 + 1, 1, none⟩ = some (.int .u32 0) := by rw [hW]; simp [go_sem]
  have f1 : W0.frozen? ⟨w.heap.size + 1 + 1, 1, none⟩ = false := by rw [hW]; simp [go_sem]
  have z2 : W0.cell? ⟨w.heap.size + 1 + 1, 2, none⟩ = some (.slice none 0 0) := by rw [hW]; simp [go_sem]
  have f2 : W0.frozen? ⟨w.heap.size + 1 + 1, 2, none⟩ = false := by rw [hW]; simp [go_sem]
  have hs : w.heap.size + 1 + 1 < W0.heap.size := by rw [hW]; simp
  have hs1 : w.heap.size + 1 < W0.heap.size := by omega
  clear hW
  have k1 := cell_regrown o1
  have k2 := cell_regrown o2
  refine wp_region_quiet_below (by kernel_rfl) (by kernel_rfl) ?_
  repeat (go_big_quiet_step (fail))
  go_big_quiet_step (exact Calls.regrown_of (H1.out _))
  repeat (go_big_quiet_step (fail))
  refine wpQuiet_nil ?_
  intro W1 hw'
  obtain ⟨⟨dq, osq⟩, hw''⟩ := hw'
  have hb1 := below_regrown W0 dq osq
  rw [← hw''] at hb1
  clear hw'' k1 k2
  have HA1 := Lib.hid (HA.out.below (hb0.trans (hb1.mono hb0.size)))
  go_wp2_with fail
  refine (H2.out _ HA1.out).mono ?_
  rintro e w2 ⟨rfl, hb2⟩
  replace hb1 := below_then hb1 hb2
  have HA2 := Lib.hid (HA1.out.below hb2)
  have o0' := (hb1.cell hs1).trans o0
  have o3' := (hb1.cell hs1).trans o3
  replace z0 := (hb1.cell hs).trans z0
  replace f0 := (hb1.frozen hs).trans f0
  replace z1 := (hb1.cell hs).trans z1
  replace f1 := (hb1.frozen hs).trans f1
  replace z2 := (hb1.cell hs).trans z2
  replace f2 := (hb1.frozen hs).trans f2
  have i1 : (0 : Int) ≤ (i : Int) := by omega
  have i2 : (i : Int) < (N : Int) := by have := HN.out; omega
  obtain ⟨bk, off, rfl, _, h2⟩ := HA2.out.row hi
  have H4i := Lib.hid H4.out
  obtain ⟨q, hq⟩ : ∃ q, l[i].2 = q := ⟨_, rfl⟩
  rw [hq] at h2 H4i
  obtain ⟨y, hy⟩ : ∃ y, (q + 1) % 4294967296 = y := ⟨_, rfl⟩
  rw [hy] at H4i
  have HY := Lib.hid (And.intro hq hy)
  clear hq hy hval H4
  go_wp2_with fail
  have hs2 : w.heap.size + 1 + 1 < w2.heap.size := Nat.lt_of_lt_of_le hs hb1.size
  have hs3 : w.heap.size + 1 < w2.heap.size := by omega
  have hbk : bk < w2.heap.size := World.block_lt_of_cell? _ _ h2
  have HB2 := Lib.hid (show Below w.heap.size w w2.drew from (hb0.trans (hb1.mono hb0.size)).trans ⟨rfl, rfl, rfl, Nat.le_refl _, fun _ _ => rfl⟩)
  go_cut [6] (fun s6 wx => ∃ u, s6 = u ∧ Hid (IsRV wx u (cut l k) ∧ Below w.heap.size w wx ∧ wx.cell? ⟨w.heap.size + 1 + 1, 0, none⟩ = some (.int .i64 0) ∧ wx.cell? ⟨w.heap.size + 1 + 1, 1, none⟩ = some (.int .u32 y) ∧ wx.cell? ⟨w.heap.size + 1 + 1, 2, none⟩ = some (.slice none 0 0)))
  case first =>
    go_region_with (first
        | (go_at_call 51; (with_reducible refine (H4i.out _).mono ?_); rintro e w4 ⟨rfl, hb4⟩; first | (obtain ⟨hz4, hc4⟩ := keep_below hb4 (keep0 w2); obtain ⟨_, hf4⟩ := fkeep_below hb4 (fkeep0 w2)) | (obtain ⟨hz4, hc4⟩ := keep_below hb4 (keep_below hb5 (keep0 w2)); obtain ⟨_, hf4⟩ := fkeep_below hb4 (fkeep_below hb5 (fkeep0 w2))))
        | (go_at_call 20; refine (H3.out _ (HA2.out.keep ?_)).mono ?_; (first | with_reducible exact keep0 w2 | with_reducible exact keep_below hb4 (keep0 w2)); rintro e w5 ⟨u, rfl, hM5, hb5⟩; (first | (obtain ⟨hz5, hc5⟩ := keep_below hb5 (keep0 w2); obtain ⟨_, hf5⟩ := fkeep_below hb5 (fkeep0 w2)) | (obtain ⟨hz5, hc5⟩ := keep_below hb5 (keep_below hb4 (keep0 w2)); obtain ⟨_, hf5⟩ := fkeep_below hb5 (fkeep_below hb4 (fkeep0 w2)))); have HM5 := Lib.hid hM5; clear hM5))
    all_goals
      go_wp2_with fail
      go_meet
      refine ⟨_, rfl, Lib.hid ⟨IsRV.turned HM5.out hb4 hs2 _ _ _, ?_, ?_, ?_, ?_⟩⟩
      · exact (((((HB2.out.trans (hb5.mono HB2.out.size)).trans (hb4.mono (Nat.le_trans HB2.out.size hb5.size))).setCell (by simp; omega) _).setCell (by simp; omega) _).setCell (by simp; omega) _)
      · simp [go_sem, hc4, hs2, z0]
      · simp [go_sem, hc4, hs2, z1]
      · simp [go_sem, hc4, hs2, z2]
  case rest =>
    obtain ⟨u, rfl, HR⟩ := hcut
    obtain ⟨r1, r2, r3, r4, r5⟩ := HR.out
    have HR1 := Lib.hid (And.intro r1 r2)
    have HPP := Lib.hid (HP.out)
    clear r1 r2
    go_wp2
    refine bodyPost_ret (v := .tuple #[u6, .agg #[.int .i64 0, .int .u32 y, .slice none 0 0]]) ?_ rfl ⟨u6, ?_, ?_, HR1.out.2⟩
    · simp [results, Tryd.results32, go_sem, r3, r4, r5]
    · rw [HY.out.1, HY.out.2]; rfl
    · rw [HPP.out.1, HPP.out.2]; exact HR1.out.1
end Go.Proofs.YtfjpcdcaoefelaaDoor

namespace Go.Proofs.YtfjpcdcaoefelaaDoor
open Go.RowKit Tb Pt Opn

set_option maxRecDepth 20000 in
set_option maxHeartbeats 4000000 in
theorem rDone_look (c : Cf) (A : Option Addr) (l : List R) (d n a b v : Nat) (hcb : c.bits = n) (hn : n ≤ 6) (hd : l.length ≤ d ∧ d ≤ 9223372036854775807) (hAn : A = none → l.length = 0 ∧ d = 0) (hl : l.length ≤ 1000000) (hu : Up l) (hk : ∀ x ∈ l, 1 ≤ x.1 ∧ x.1 < 2 ^ (n + 1)) (hv : ∀ x ∈ l, x.2 ≤ 2147483647) (ha : a < 2 ^ n) (w : World) (h : IsR w A l) :
    Calls Tryd.prog 32 #[cfv c, .slice A l.length d, opv ⟨3, a, b, v⟩] w (fun e w' => ∃ u, e = .returned (.tuple #[u, resv (lookC (seek l n a n)) (lookV (seek l n a n)) none 0 0]) ∧ IsRV w' u l ∧ Below w.heap.size w w') := by
  have h64 : 2 ^ n ≤ 2 ^ 6 := Nat.pow_le_pow_right (by decide) hn
  have ha2 : a < 64 := by omega
  have H1 := Lib.hid (fun W hA => rLook_any c A l d n a hcb hn hl hu hk hv ha W hA)
  have HA := Lib.hid h
  have HD := Lib.hid (And.intro hd hAn)
  generalize lookC (seek l n a n) = y0 at *
  generalize lookV (seek l n a n) = y1 at *
  unfold resv at *
  unfold cfv opv at *
  obtain ⟨N, hN⟩ : ∃ N, l.length = N := ⟨_, rfl⟩
  rw [hN] at H1 hl ⊢
  have HN := Lib.hid hN
  clear hN h hd hAn hu hk hv ha h64 hcb
  simp only
  go_enter Tryd.func32, Tryd.ntmps32
  go_wp2_with fail
  refine (H1.out _ (HA.out.below (below_three _ _ _ _))).mono ?_
  rintro e w1 ⟨rfl, hb1⟩
  obtain ⟨hc1, hf1⟩ := bcell hb1
  have hb0 := below_then (below_three _ _ _ _) hb1
  have z0 : w1.cell? ⟨w.heap.size + 1 + 1, 0, none⟩ = some (.int .i64 0) := (hc1 _ _ (by simp)).trans (by simp [go_sem])
  have f0 : w1.frozen? ⟨w.heap.size + 1 + 1, 0, none⟩ = false := (hf1 _ _ (by simp)).trans (by simp [go_sem])
  have z1 : w1.cell? ⟨w.heap.size + 1 + 1, 1, none⟩ = some (.int .u32 0) := (hc1 _ _ (by simp)).trans (by simp [go_sem])
  have f1 : w1.frozen? ⟨w.heap.size + 1 + 1, 1, none⟩ = false := (hf1 _ _ (by simp)).trans (by simp [go_sem])
  have z2 : w1.cell? ⟨w.heap.size + 1 + 1, 2, none⟩ = some (.slice none 0 0) := (hc1 _ _ (by simp)).trans (by simp [go_sem])
  have f2 : w1.frozen? ⟨w.heap.size + 1 + 1, 2, none⟩ = false := (hf1 _ _ (by simp)).trans (by simp [go_sem])
  clear hc1 hf1
  go_wp2
  refine bodyPost_ret (v := .tuple #[.slice A N d, .agg #[.int .i64 y0, .int .u32 y1, .slice none 0 0]]) ?_ rfl ⟨_, rfl, ?_, ?_⟩
  · simp [results, Tryd.results32, go_sem, z0, z1, z2]
  · exact IsRV.old HD.out.1 HD.out.2 HN.out HA.out (((hb0.setCell (by simp; omega) _).setCell (by simp; omega) _).setCell (by simp; omega) _)
  · exact ((hb0.setCell (by simp; omega) _).setCell (by simp; omega) _).setCell (by simp; omega) _
end Go.Proofs.YtfjpcdcaoefelaaDoor

namespace Go.Proofs.YtfjpcdcaoefelaaDoor
open Go.RowKit Tb Pt Opn

/-- What a call leaves that answers rows and a result. -/
def Did (s : List R × Int × Int) (w : World) (e : Ending) (w' : World) : Prop := ∃ u, e = .returned (.tuple #[u, resv s.2.1 s.2.2 none 0 0]) ∧ IsRV w' u s.1 ∧ Below w.heap.size w w'

set_option maxHeartbeats 1000000 in
theorem rDone_any (c : Cf) (A : Option Addr) (l : List R) (d : Nat) (o : O) (hd : l.length ≤ d ∧ d ≤ 9223372036854775807) (hAn : A = none → l.length = 0 ∧ d = 0) (ht : IsTab c l) (ho : Wf o) (hf : Fits c.bits.toNat o) (hk : 1 ≤ o.k ∧ o.k ≤ 3) (w : World) (h : IsR w A l) :
    Calls Tryd.prog 32 #[cfv c, .slice A l.length d, opv o] w (Did (doneR c.bits.toNat c.cap.toNat l o.k o.a o.b o.c) w) := by
  obtain ⟨k, a, b, v⟩ := o
  obtain ⟨hok, hob, hcap, hu, hrow⟩ := ht
  have hcaps : 1 ≤ c.cap ∧ c.cap ≤ 32 := by have := hok.2.2; unfold RestOk at this; omega
  have hbits : 1 ≤ c.bits ∧ c.bits ≤ 6 := by have := hok.1; unfold ObjOk at this; omega
  have hsz : sz c = 2 ^ (c.bits.toNat + 1) := by unfold sz; rw [if_pos hob]
  have hl : l.length ≤ 1000000 := by omega
  obtain ⟨n, hn⟩ : ∃ n : Nat, c.bits = n := ⟨c.bits.toNat, by omega⟩
  have hnn : c.bits.toNat = n := by omega
  rw [hsz, hnn] at hrow
  rw [hnn] at hf ⊢
  have ha : a < 4294967296 := ho.2.1
  have hv : v < 4294967296 := ho.2.2.2
  simp only at hk ⊢
  unfold Fits at hf
  simp only at hf
  have hk3 : k = 3 ∨ k = 1 ∨ k = 2 := by omega
  rcases hk3 with rfl | rfl | rfl
  · have h3 : a < 2 ^ n := by omega
    have e : doneR n c.cap.toNat l 3 a b v = (l, lookC (seek l n a n), lookV (seek l n a n)) := rfl
    rw [e]
    exact rDone_look c A l d n a b v hn (by omega) hd hAn hl hu (fun x hx => ⟨(hrow x hx).1, (hrow x hx).2.1⟩) (fun x hx => (hrow x hx).2.2) h3 w h
  · have hb : b ≤ 6 := by
      have : Prefix n a b := by grind
      have := this.1; omega
    rcases fnd_get l (2 ^ b + a) with ⟨h1, h2⟩ | ⟨i, hi, h1, h2, h3⟩
    · by_cases hc : (l.length : Int) < c.cap
      · have e : doneR n c.cap.toNat l 1 a b v = (put l (2 ^ b + a) v, 0, 0) := by
          unfold doneR; rw [if_neg (by decide), if_pos rfl, h2]; simp only; rw [if_neg (by omega)]
        rw [e]
        exact rDone_new c A l d a b v hd hAn hl hu ha hb hv hc h1 w h
      · have e : doneR n c.cap.toNat l 1 a b v = (l, 9, 0) := by
          unfold doneR; rw [if_neg (by decide), if_pos rfl, h2]; simp only; rw [if_pos (by omega)]
        rw [e]
        exact rDone_full c A l d a b v hd hAn hl hu ha hb hv hc h1 w h
    · have e : doneR n c.cap.toNat l 1 a b v = (put l (2 ^ b + a) v, 0, (((l[i].2 + 1) % 4294967296 : Nat) : Int)) := by
        unfold doneR; rw [if_neg (by decide), if_pos rfl, h3]
      rw [e]
      exact rDone_turn c A l d a b v i hl hu ha hb hv hi h1 (hrow _ (List.getElem_mem hi)).2.2 w h
  · have hb : b ≤ 6 := by
      have : Prefix n a b := by grind
      have := this.1; omega
    rcases fnd_get l (2 ^ b + a) with ⟨h1, h2⟩ | ⟨i, hi, h1, h2, h3⟩
    · have e : doneR n c.cap.toNat l 2 a b v = (l, 6, 0) := by
        unfold doneR; rw [if_neg (by decide), if_neg (by decide), h2]
      rw [e]
      exact rDone_none c A l d a b v hd hAn hl hu ha hb hv h1 w h
    · have e : doneR n c.cap.toNat l 2 a b v = (cut l (2 ^ b + a), 0, (((l[i].2 + 1) % 4294967296 : Nat) : Int)) := by
        unfold doneR; rw [if_neg (by decide), if_neg (by decide), h3]
      rw [e]
      exact rDone_cut c A l d a b v i hl ha hb hi h1 (hrow _ (List.getElem_mem hi)).2.2 w h
end Go.Proofs.YtfjpcdcaoefelaaDoor
