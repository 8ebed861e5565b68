/- The document's own answers on rules: what an operation does that fits. -/
import Derived.Test.YtfkkeokmkhjpfaaDoorRuSays
import Derived.Deep.RegionWith
import Derived.Deep.DeepCutAuto
namespace Go.Proofs.YtfkkeokmkhjpfaaDoor
open Go.RowKit Tb Pt Opn

/-- What an operation does that fits: the rows, the code, the answer's number. -/
def doneU (cap : Nat) (l : List R) (k a b c : Nat) : List R × Int × Int :=
  if k = 11 then (l, 0, (says l a b : Nat))
  else if k = 9 then (match Tb.get l (a * 65536 + b) with
    | some v => (put l (a * 65536 + b) c, 0, (v : Nat))
    | none => if cap ≤ l.length then (l, 9, 0) else (put l (a * 65536 + b) c, 0, 0))
  else (match Tb.get l (a * 65536 + b) with
    | some v => (cut l (a * 65536 + b), 0, (v : Nat))
    | none => (l, 6, 0))
/-- Rows, and an answer without rows. -/
def DidU (s : List R × Int × Int) (w : World) (e : Ending) (w' : World) : Prop := ∃ u, e = .returned (.tuple #[u, resv s.2.1 s.2.2 none 0 0]) ∧ IsRV w' u s.1 ∧ Below w.heap.size w w'

set_option maxRecDepth 20000 in
set_option maxHeartbeats 4000000 in
theorem rUDone_turn (c : Cf) (A : Option Addr) (l : List R) (d a b v K : Nat) (hK : a * 65536 + b = K) (hl : l.length ≤ 1000000) (ha : a ≤ 65535) (hb : b ≤ 65535) (hvv : v < 4294967296) (hu : Up l) (i : Nat) (hi : i < l.length) (hfi : fnd l K = (i : Nat)) (hval : l[i].2 ≤ 2147483647) (w : World) (h : IsR w A l) :
    Calls Tryd.prog 30 #[cfv c, .slice A l.length d, opv ⟨9, a, b, v⟩] w (DidU (put l K v, 0, ((l[i].2 : Nat) : Int)) w) := by
  have H2 := Lib.hid (fun W hA => rFind_any A l d (by omega) K W hA)
  rw [hfi] at H2
  have hu' := hu
  have H3 := Lib.hid (fun W hA => rWith_up A l d hl hu' K v W hA)
  have HCD := Lib.hid (Nat.le_refl l.length)
  have i2' : (i : Int) < (l.length : Int) := by omega
  have HVW := Lib.hid (show IntKind.u64.wrap (v : Int) = v by rw [IntKind.wrap_u64]; omega)
  have HA := Lib.hid h
  unfold cfv opv
  simp only
  obtain ⟨N, hN⟩ : ∃ N, l.length = N := ⟨_, rfl⟩
  rw [hN] at hl H2 H3 HCD i2' ⊢
  have HN := Lib.hid hN
  have hwa : IntKind.u64.wrap (a : Int) = (a : Int) := by rw [IntKind.wrap_u64]; omega
  have hwb : IntKind.u64.wrap (b : Int) = (b : Int) := by rw [IntKind.wrap_u64]; omega
  have hwm : IntKind.u64.wrap ((a : Int) * 65536) = (a : Int) * 65536 := by rw [IntKind.wrap_u64]; omega
  have hwk : IntKind.u64.wrap ((a : Int) * 65536 + (b : Int)) = (K : Int) := by rw [IntKind.wrap_u64]; omega
  clear hN h hfi hK
  go_enter Tryd.func30, Tryd.ntmps30
  go_wp2_with fail
  obtain ⟨W0, hW⟩ : ∃ W0, W0 = ((w.alloc (.cells #[.int .u8 c.obj, .int .i64 c.inst, .int .i64 c.thr, .int .u8 c.kind, .int .i64 c.str, .int .i64 c.bits, .int .i64 c.cap, .int .i64 c.node, .int .i64 c.bat, .int .i64 c.chunk, .int .u64 c.lim, .int .u64 c.most] 33)).alloc (.cells #[.int .u8 9, .int .u32 a, .int .u32 b, .int .u32 v] 35)).alloc (.cells #[.int .i64 0, .int .u32 0, .slice none 0 0] 29) := ⟨_, rfl⟩
  have hb0 : Below w.heap.size w W0 := by rw [hW]; exact below_three _ _ _ _
  rw [← hW]
  have o0 : W0.cell? ⟨w.heap.size + 1, 0, none⟩ = some (.int .u8 9) := by rw [hW]; simp [go_sem]
  have o2 : W0.cell? ⟨w.heap.size + 1, 3, none⟩ = some (.int .u32 v) := by rw [hW]; simp [go_sem]
  have g6 : W0.cell? ⟨w.heap.size, 6, none⟩ = some (.int .i64 c.cap) := by rw [hW]; simp [go_sem]
  have z0 : W0.cell? ⟨w.heap.size + 1 + 1, 0, none⟩ = some (.int .i64 0) := by rw [hW]; simp [go_sem]
  have f0 : W0.frozen? ⟨w.heap.size + 1 + 1, 0, none⟩ = false := by rw [hW]; simp [go_sem]
  have z1 : W0.cell? ⟨w.heap.size + 1 + 1, 1, none⟩ = some (.int .u32 0) := by rw [hW]; simp [go_sem]
  have f1 : W0.frozen? ⟨w.heap.size + 1 + 1, 1, none⟩ = false := by rw [hW]; simp [go_sem]
  have z2 : W0.cell? ⟨w.heap.size + 1 + 1, 2, none⟩ = some (.slice none 0 0) := by rw [hW]; simp [go_sem]
  have f2 : W0.frozen? ⟨w.heap.size + 1 + 1, 2, none⟩ = false := by rw [hW]; simp [go_sem]
  have hs : w.heap.size + 1 + 1 < W0.heap.size := by rw [hW]; simp
  have hs1 : w.heap.size + 1 < W0.heap.size := by omega
  clear hW
  have HA1 := Lib.hid (HA.out.below hb0)
  refine (H2.out _ HA1.out).mono ?_
  rintro e w2 ⟨rfl, hb1⟩
  have HA2 := Lib.hid (HA1.out.below hb1)
  have o0' := (hb1.cell hs1).trans o0
  have o2' := (hb1.cell hs1).trans o2
  have g6' := (hb1.cell (Nat.lt_of_succ_lt hs1)).trans g6
  replace z0 := (hb1.cell hs).trans z0
  replace f0 := (hb1.frozen hs).trans f0
  replace z1 := (hb1.cell hs).trans z1
  replace f1 := (hb1.frozen hs).trans f1
  replace z2 := (hb1.cell hs).trans z2
  replace f2 := (hb1.frozen hs).trans f2
  have hs2 : w.heap.size + 1 + 1 < w2.heap.size := Nat.lt_of_lt_of_le hs hb1.size
  have hs3 : w.heap.size + 1 < w2.heap.size := by omega
  have HB2 := Lib.hid (below_then hb0 hb1)
  clear hb1 hb0 o0 o2 g6
  have i1 : (0 : Int) ≤ (i : Int) := by omega
  obtain ⟨bk, off, rfl, _, h2⟩ := HA2.out.row hi
  obtain ⟨y, hy⟩ : ∃ q, l[i].2 = q := ⟨_, rfl⟩
  rw [hy] at h2 hval
  have HY := Lib.hid hy
  have hwy : IntKind.u32.wrap (y : Int) = (y : Int) := by rw [IntKind.wrap_u32]; omega
  clear hy hval
  go_wp2_with fail
  have hbk : bk < w2.heap.size := World.block_lt_of_cell? _ _ h2
  go_cut [6] (fun s6 wx => ∃ u, s6 = u ∧ Hid (IsRV wx u (put l K v) ∧ Below w.heap.size w wx ∧ wx.cell? ⟨w.heap.size + 1 + 1, 0, none⟩ = some (.int .i64 0) ∧ wx.cell? ⟨w.heap.size + 1 + 1, 1, none⟩ = some (.int .u32 y) ∧ wx.cell? ⟨w.heap.size + 1 + 1, 2, none⟩ = some (.slice none 0 0)))
  case first =>
    go_region_with (first
        | (go_at_call 45; rw [HVW.out]; refine (H3.out _ (HA2.out.keep ?_)).mono ?_; (with_reducible exact keep0 w2); rintro e w5 ⟨u, rfl, hM5, hb5⟩; obtain ⟨hz5, hc5⟩ := keep_below hb5 (keep0 w2); obtain ⟨_, hf5⟩ := fkeep_below hb5 (fkeep0 w2); have HM5 := Lib.hid hM5; clear hM5)
        | fail)
    all_goals
      go_wp2_with fail
      go_meet
      refine ⟨_, rfl, Lib.hid ⟨IsRV.turned HM5.out (Below.refl _ _) hs2 _ _ _, ?_, ?_, ?_, ?_⟩⟩
      · exact below_set3 (below_then (below_then HB2.out (below_drew w2)) hb5) (by omega) _ _ _
      · simp [go_sem, hc5, hs2, z0]
      · simp [go_sem, hc5, hs2, z1]
      · simp [go_sem, hc5, hs2, z2]
  case rest =>
    obtain ⟨u, rfl, HR⟩ := hcut
    obtain ⟨r1, r2, r3, r4, r5⟩ := HR.out
    have HR1 := Lib.hid (And.intro r1 r2)
    clear r1 r2
    go_wp2
    refine bodyPost_ret (v := .tuple #[u6, .agg #[.int .i64 0, .int .u32 y, .slice none 0 0]]) ?_ rfl ⟨u6, ?_, HR1.out.1, HR1.out.2⟩
    · simp [results, Tryd.results30, go_sem, r3, r4, r5]
    · rw [HY.out]; rfl

set_option maxRecDepth 20000 in
set_option maxHeartbeats 4000000 in
theorem rUDone_cut (c : Cf) (A : Option Addr) (l : List R) (d a b v K : Nat) (hK : a * 65536 + b = K) (hl : l.length ≤ 1000000) (ha : a ≤ 65535) (hb : b ≤ 65535) (hvv : v < 4294967296) (i : Nat) (hi : i < l.length) (hfi : fnd l K = (i : Nat)) (hval : l[i].2 ≤ 2147483647) (w : World) (h : IsR w A l) :
    Calls Tryd.prog 30 #[cfv c, .slice A l.length d, opv ⟨10, a, b, v⟩] w (DidU (cut l K, 0, ((l[i].2 : Nat) : Int)) w) := by
  have H2 := Lib.hid (fun W hA => rFind_any A l d (by omega) K W hA)
  rw [hfi] at H2
  have H3 := Lib.hid (fun W hA => rWithout_any A l d hl K W hA)
  have HCD := Lib.hid (Nat.le_refl l.length)
  have i2' : (i : Int) < (l.length : Int) := by omega
  have HVW := Lib.hid (show IntKind.u64.wrap (v : Int) = v by rw [IntKind.wrap_u64]; omega)
  have HA := Lib.hid h
  unfold cfv opv
  simp only
  obtain ⟨N, hN⟩ : ∃ N, l.length = N := ⟨_, rfl⟩
  rw [hN] at hl H2 H3 HCD i2' ⊢
  have HN := Lib.hid hN
  have hwa : IntKind.u64.wrap (a : Int) = (a : Int) := by rw [IntKind.wrap_u64]; omega
  have hwb : IntKind.u64.wrap (b : Int) = (b : Int) := by rw [IntKind.wrap_u64]; omega
  have hwm : IntKind.u64.wrap ((a : Int) * 65536) = (a : Int) * 65536 := by rw [IntKind.wrap_u64]; omega
  have hwk : IntKind.u64.wrap ((a : Int) * 65536 + (b : Int)) = (K : Int) := by rw [IntKind.wrap_u64]; omega
  clear hN h hfi hK
  go_enter Tryd.func30, Tryd.ntmps30
  go_wp2_with fail
  obtain ⟨W0, hW⟩ : ∃ W0, W0 = ((w.alloc (.cells #[.int .u8 c.obj, .int .i64 c.inst, .int .i64 c.thr, .int .u8 c.kind, .int .i64 c.str, .int .i64 c.bits, .int .i64 c.cap, .int .i64 c.node, .int .i64 c.bat, .int .i64 c.chunk, .int .u64 c.lim, .int .u64 c.most] 33)).alloc (.cells #[.int .u8 10, .int .u32 a, .int .u32 b, .int .u32 v] 35)).alloc (.cells #[.int .i64 0, .int .u32 0, .slice none 0 0] 29) := ⟨_, rfl⟩
  have hb0 : Below w.heap.size w W0 := by rw [hW]; exact below_three _ _ _ _
  rw [← hW]
  have o0 : W0.cell? ⟨w.heap.size + 1, 0, none⟩ = some (.int .u8 10) := by rw [hW]; simp [go_sem]
  have o2 : W0.cell? ⟨w.heap.size + 1, 3, none⟩ = some (.int .u32 v) := by rw [hW]; simp [go_sem]
  have g6 : W0.cell? ⟨w.heap.size, 6, none⟩ = some (.int .i64 c.cap) := by rw [hW]; simp [go_sem]
  have z0 : W0.cell? ⟨w.heap.size + 1 + 1, 0, none⟩ = some (.int .i64 0) := by rw [hW]; simp [go_sem]
  have f0 : W0.frozen? ⟨w.heap.size + 1 + 1, 0, none⟩ = false := by rw [hW]; simp [go_sem]
  have z1 : W0.cell? ⟨w.heap.size + 1 + 1, 1, none⟩ = some (.int .u32 0) := by rw [hW]; simp [go_sem]
  have f1 : W0.frozen? ⟨w.heap.size + 1 + 1, 1, none⟩ = false := by rw [hW]; simp [go_sem]
  have z2 : W0.cell? ⟨w.heap.size + 1 + 1, 2, none⟩ = some (.slice none 0 0) := by rw [hW]; simp [go_sem]
  have f2 : W0.frozen? ⟨w.heap.size + 1 + 1, 2, none⟩ = false := by rw [hW]; simp [go_sem]
  have hs : w.heap.size + 1 + 1 < W0.heap.size := by rw [hW]; simp
  have hs1 : w.heap.size + 1 < W0.heap.size := by omega
  clear hW
  have HA1 := Lib.hid (HA.out.below hb0)
  refine (H2.out _ HA1.out).mono ?_
  rintro e w2 ⟨rfl, hb1⟩
  have HA2 := Lib.hid (HA1.out.below hb1)
  have o0' := (hb1.cell hs1).trans o0
  have o2' := (hb1.cell hs1).trans o2
  have g6' := (hb1.cell (Nat.lt_of_succ_lt hs1)).trans g6
  replace z0 := (hb1.cell hs).trans z0
  replace f0 := (hb1.frozen hs).trans f0
  replace z1 := (hb1.cell hs).trans z1
  replace f1 := (hb1.frozen hs).trans f1
  replace z2 := (hb1.cell hs).trans z2
  replace f2 := (hb1.frozen hs).trans f2
  have hs2 : w.heap.size + 1 + 1 < w2.heap.size := Nat.lt_of_lt_of_le hs hb1.size
  have hs3 : w.heap.size + 1 < w2.heap.size := by omega
  have HB2 := Lib.hid (below_then hb0 hb1)
  clear hb1 hb0 o0 o2 g6
  have i1 : (0 : Int) ≤ (i : Int) := by omega
  obtain ⟨bk, off, rfl, _, h2⟩ := HA2.out.row hi
  obtain ⟨y, hy⟩ : ∃ q, l[i].2 = q := ⟨_, rfl⟩
  rw [hy] at h2 hval
  have HY := Lib.hid hy
  have hwy : IntKind.u32.wrap (y : Int) = (y : Int) := by rw [IntKind.wrap_u32]; omega
  clear hy hval
  go_wp2_with fail
  have hbk : bk < w2.heap.size := World.block_lt_of_cell? _ _ h2
  go_cut [6] (fun s6 wx => ∃ u, s6 = u ∧ Hid (IsRV wx u (cut l K) ∧ Below w.heap.size w wx ∧ wx.cell? ⟨w.heap.size + 1 + 1, 0, none⟩ = some (.int .i64 0) ∧ wx.cell? ⟨w.heap.size + 1 + 1, 1, none⟩ = some (.int .u32 y) ∧ wx.cell? ⟨w.heap.size + 1 + 1, 2, none⟩ = some (.slice none 0 0)))
  case first =>
    go_region_with (first
        | (go_at_call 17; refine (H3.out _ (HA2.out.keep ?_)).mono ?_; (with_reducible exact keep0 w2); rintro e w5 ⟨u, rfl, hM5, hb5⟩; obtain ⟨hz5, hc5⟩ := keep_below hb5 (keep0 w2); obtain ⟨_, hf5⟩ := fkeep_below hb5 (fkeep0 w2); have HM5 := Lib.hid hM5; clear hM5)
        | fail)
    all_goals
      go_wp2_with fail
      go_meet
      refine ⟨_, rfl, Lib.hid ⟨IsRV.turned HM5.out (Below.refl _ _) hs2 _ _ _, ?_, ?_, ?_, ?_⟩⟩
      · exact below_set3 (below_then (below_then HB2.out (below_drew w2)) hb5) (by omega) _ _ _
      · simp [go_sem, hc5, hs2, z0]
      · simp [go_sem, hc5, hs2, z1]
      · simp [go_sem, hc5, hs2, z2]
  case rest =>
    obtain ⟨u, rfl, HR⟩ := hcut
    obtain ⟨r1, r2, r3, r4, r5⟩ := HR.out
    have HR1 := Lib.hid (And.intro r1 r2)
    clear r1 r2
    go_wp2
    refine bodyPost_ret (v := .tuple #[u6, .agg #[.int .i64 0, .int .u32 y, .slice none 0 0]]) ?_ rfl ⟨u6, ?_, HR1.out.1, HR1.out.2⟩
    · simp [results, Tryd.results30, go_sem, r3, r4, r5]
    · rw [HY.out]; rfl

set_option maxRecDepth 20000 in
set_option maxHeartbeats 4000000 in
theorem rUDone_new (c : Cf) (A : Option Addr) (l : List R) (d a b v K : Nat) (hK : a * 65536 + b = K) (hl : l.length ≤ 1000000) (ha : a ≤ 65535) (hb : b ≤ 65535) (hvv : v < 4294967296) (hu : Up l) (hcap : (l.length : Int) < c.cap) (hfi : fnd l K = -1) (w : World) (h : IsR w A l) :
    Calls Tryd.prog 30 #[cfv c, .slice A l.length d, opv ⟨9, a, b, v⟩] w (DidU (put l K v, 0, 0) w) := by
  have H2 := Lib.hid (fun W hA => rFind_any A l d (by omega) K W hA)
  rw [hfi] at H2
  have H3 := Lib.hid (fun W hA => rWith_up A l d hl hu K v W hA)
  have HCD := Lib.hid (Nat.le_refl l.length)
  have hwv : IntKind.u64.wrap (v : Int) = (v : Int) := by rw [IntKind.wrap_u64]; omega
  have HA := Lib.hid h
  unfold cfv opv
  simp only
  obtain ⟨N, hN⟩ : ∃ N, l.length = N := ⟨_, rfl⟩
  rw [hN] at hl H2 H3 HCD hcap ⊢
  have HN := Lib.hid hN
  have hwa : IntKind.u64.wrap (a : Int) = (a : Int) := by rw [IntKind.wrap_u64]; omega
  have hwb : IntKind.u64.wrap (b : Int) = (b : Int) := by rw [IntKind.wrap_u64]; omega
  have hwm : IntKind.u64.wrap ((a : Int) * 65536) = (a : Int) * 65536 := by rw [IntKind.wrap_u64]; omega
  have hwk : IntKind.u64.wrap ((a : Int) * 65536 + (b : Int)) = (K : Int) := by rw [IntKind.wrap_u64]; omega
  clear hN h hfi hK
  go_enter Tryd.func30, Tryd.ntmps30
  go_wp2_with fail
  obtain ⟨W0, hW⟩ : ∃ W0, W0 = ((w.alloc (.cells #[.int .u8 c.obj, .int .i64 c.inst, .int .i64 c.thr, .int .u8 c.kind, .int .i64 c.str, .int .i64 c.bits, .int .i64 c.cap, .int .i64 c.node, .int .i64 c.bat, .int .i64 c.chunk, .int .u64 c.lim, .int .u64 c.most] 33)).alloc (.cells #[.int .u8 9, .int .u32 a, .int .u32 b, .int .u32 v] 35)).alloc (.cells #[.int .i64 0, .int .u32 0, .slice none 0 0] 29) := ⟨_, rfl⟩
  have hb0 : Below w.heap.size w W0 := by rw [hW]; exact below_three _ _ _ _
  rw [← hW]
  have o0 : W0.cell? ⟨w.heap.size + 1, 0, none⟩ = some (.int .u8 9) := by rw [hW]; simp [go_sem]
  have o2 : W0.cell? ⟨w.heap.size + 1, 3, none⟩ = some (.int .u32 v) := by rw [hW]; simp [go_sem]
  have g6 : W0.cell? ⟨w.heap.size, 6, none⟩ = some (.int .i64 c.cap) := by rw [hW]; simp [go_sem]
  have z0 : W0.cell? ⟨w.heap.size + 1 + 1, 0, none⟩ = some (.int .i64 0) := by rw [hW]; simp [go_sem]
  have f0 : W0.frozen? ⟨w.heap.size + 1 + 1, 0, none⟩ = false := by rw [hW]; simp [go_sem]
  have z1 : W0.cell? ⟨w.heap.size + 1 + 1, 1, none⟩ = some (.int .u32 0) := by rw [hW]; simp [go_sem]
  have f1 : W0.frozen? ⟨w.heap.size + 1 + 1, 1, none⟩ = false := by rw [hW]; simp [go_sem]
  have z2 : W0.cell? ⟨w.heap.size + 1 + 1, 2, none⟩ = some (.slice none 0 0) := by rw [hW]; simp [go_sem]
  have f2 : W0.frozen? ⟨w.heap.size + 1 + 1, 2, none⟩ = false := by rw [hW]; simp [go_sem]
  have hs : w.heap.size + 1 + 1 < W0.heap.size := by rw [hW]; simp
  have hs1 : w.heap.size + 1 < W0.heap.size := by omega
  clear hW
  have HA1 := Lib.hid (HA.out.below hb0)
  refine (H2.out _ HA1.out).mono ?_
  rintro e w2 ⟨rfl, hb1⟩
  have HA2 := Lib.hid (HA1.out.below hb1)
  have o0' := (hb1.cell hs1).trans o0
  have o2' := (hb1.cell hs1).trans o2
  have g6' := (hb1.cell (Nat.lt_of_succ_lt hs1)).trans g6
  replace z0 := (hb1.cell hs).trans z0
  replace f0 := (hb1.frozen hs).trans f0
  replace z1 := (hb1.cell hs).trans z1
  replace f1 := (hb1.frozen hs).trans f1
  replace z2 := (hb1.cell hs).trans z2
  replace f2 := (hb1.frozen hs).trans f2
  have hs2 : w.heap.size + 1 + 1 < w2.heap.size := Nat.lt_of_lt_of_le hs hb1.size
  have hs3 : w.heap.size + 1 < w2.heap.size := by omega
  have HB2 := Lib.hid (below_then hb0 hb1)
  clear hb1 hb0 o0 o2 g6
  have hcap' : ¬ c.cap ≤ (N : Int) := by omega
  go_wp2_with fail
  refine (H3.out _ HA2.out).mono ?_
  rintro e w5 ⟨u, rfl, hM5, hb5⟩
  replace z0 := (hb5.cell hs2).trans z0
  replace f0 := (hb5.frozen hs2).trans f0
  replace z1 := (hb5.cell hs2).trans z1
  replace f1 := (hb5.frozen hs2).trans f1
  replace z2 := (hb5.cell hs2).trans z2
  replace f2 := (hb5.frozen hs2).trans f2
  have HM5 := Lib.hid hM5
  clear hM5
  go_wp2
  refine bodyPost_ret (v := .tuple #[u, .agg #[.int .i64 0, .int .u32 0, .slice none 0 0]]) ?_ rfl ⟨_, rfl, IsRV.turned HM5.out (Below.refl _ _) hs2 _ _ _, ?_⟩
  · simp [results, Tryd.results30, go_sem, z0, z1, z2]
  · exact below_set3 (below_then HB2.out hb5) (by omega) _ _ _

set_option maxRecDepth 20000 in
set_option maxHeartbeats 4000000 in
theorem rUDone_full (c : Cf) (A : Option Addr) (l : List R) (d a b v K : Nat) (hK : a * 65536 + b = K) (hl : l.length ≤ 1000000) (ha : a ≤ 65535) (hb : b ≤ 65535) (_ : v < 4294967296) (hd : l.length ≤ d ∧ d ≤ 9223372036854775807) (hAn : A = none → l.length = 0 ∧ d = 0) (hcap : ¬ (l.length : Int) < c.cap) (hfi : fnd l K = -1) (w : World) (h : IsR w A l) :
    Calls Tryd.prog 30 #[cfv c, .slice A l.length d, opv ⟨9, a, b, v⟩] w (DidU (l, 9, 0) w) := by
  have H2 := Lib.hid (fun W hA => rFind_any A l d (by omega) K W hA)
  rw [hfi] at H2
  have H3 := Lib.hid (And.intro hd hAn)
  have HCD := Lib.hid (Nat.le_refl l.length)
  clear hd hAn
  have HA := Lib.hid h
  unfold cfv opv
  simp only
  obtain ⟨N, hN⟩ : ∃ N, l.length = N := ⟨_, rfl⟩
  rw [hN] at hl H2 H3 HCD hcap ⊢
  have HN := Lib.hid hN
  have hwa : IntKind.u64.wrap (a : Int) = (a : Int) := by rw [IntKind.wrap_u64]; omega
  have hwb : IntKind.u64.wrap (b : Int) = (b : Int) := by rw [IntKind.wrap_u64]; omega
  have hwm : IntKind.u64.wrap ((a : Int) * 65536) = (a : Int) * 65536 := by rw [IntKind.wrap_u64]; omega
  have hwk : IntKind.u64.wrap ((a : Int) * 65536 + (b : Int)) = (K : Int) := by rw [IntKind.wrap_u64]; omega
  clear hN h hfi hK
  go_enter Tryd.func30, Tryd.ntmps30
  go_wp2_with fail
  obtain ⟨W0, hW⟩ : ∃ W0, W0 = ((w.alloc (.cells #[.int .u8 c.obj, .int .i64 c.inst, .int .i64 c.thr, .int .u8 c.kind, .int .i64 c.str, .int .i64 c.bits, .int .i64 c.cap, .int .i64 c.node, .int .i64 c.bat, .int .i64 c.chunk, .int .u64 c.lim, .int .u64 c.most] 33)).alloc (.cells #[.int .u8 9, .int .u32 a, .int .u32 b, .int .u32 v] 35)).alloc (.cells #[.int .i64 0, .int .u32 0, .slice none 0 0] 29) := ⟨_, rfl⟩
  have hb0 : Below w.heap.size w W0 := by rw [hW]; exact below_three _ _ _ _
  rw [← hW]
  have o0 : W0.cell? ⟨w.heap.size + 1, 0, none⟩ = some (.int .u8 9) := by rw [hW]; simp [go_sem]
  have o2 : W0.cell? ⟨w.heap.size + 1, 3, none⟩ = some (.int .u32 v) := by rw [hW]; simp [go_sem]
  have g6 : W0.cell? ⟨w.heap.size, 6, none⟩ = some (.int .i64 c.cap) := by rw [hW]; simp [go_sem]
  have z0 : W0.cell? ⟨w.heap.size + 1 + 1, 0, none⟩ = some (.int .i64 0) := by rw [hW]; simp [go_sem]
  have f0 : W0.frozen? ⟨w.heap.size + 1 + 1, 0, none⟩ = false := by rw [hW]; simp [go_sem]
  have z1 : W0.cell? ⟨w.heap.size + 1 + 1, 1, none⟩ = some (.int .u32 0) := by rw [hW]; simp [go_sem]
  have f1 : W0.frozen? ⟨w.heap.size + 1 + 1, 1, none⟩ = false := by rw [hW]; simp [go_sem]
  have z2 : W0.cell? ⟨w.heap.size + 1 + 1, 2, none⟩ = some (.slice none 0 0) := by rw [hW]; simp [go_sem]
  have f2 : W0.frozen? ⟨w.heap.size + 1 + 1, 2, none⟩ = false := by rw [hW]; simp [go_sem]
  have hs : w.heap.size + 1 + 1 < W0.heap.size := by rw [hW]; simp
  have hs1 : w.heap.size + 1 < W0.heap.size := by omega
  clear hW
  have HA1 := Lib.hid (HA.out.below hb0)
  refine (H2.out _ HA1.out).mono ?_
  rintro e w2 ⟨rfl, hb1⟩
  have HA2 := Lib.hid (HA1.out.below hb1)
  have o0' := (hb1.cell hs1).trans o0
  have o2' := (hb1.cell hs1).trans o2
  have g6' := (hb1.cell (Nat.lt_of_succ_lt hs1)).trans g6
  replace z0 := (hb1.cell hs).trans z0
  replace f0 := (hb1.frozen hs).trans f0
  replace z1 := (hb1.cell hs).trans z1
  replace f1 := (hb1.frozen hs).trans f1
  replace z2 := (hb1.cell hs).trans z2
  replace f2 := (hb1.frozen hs).trans f2
  have hs2 : w.heap.size + 1 + 1 < w2.heap.size := Nat.lt_of_lt_of_le hs hb1.size
  have hs3 : w.heap.size + 1 < w2.heap.size := by omega
  have HB2 := Lib.hid (below_then hb0 hb1)
  clear hb1 hb0 o0 o2 g6
  have hcap' : c.cap ≤ (N : Int) := by omega
  go_wp2
  refine bodyPost_ret (v := .tuple #[.slice A N d, .agg #[.int .i64 9, .int .u32 0, .slice none 0 0]]) ?_ rfl ⟨_, rfl, IsRV.old (by rw [HN.out]; exact H3.out.1) (by rw [HN.out]; exact H3.out.2) HN.out HA.out ?_, ?_⟩
  · simp [results, Tryd.results30, go_sem, z0, z1, z2]
  · exact below_set3 HB2.out (by omega) _ _ _
  · exact below_set3 HB2.out (by omega) _ _ _

set_option maxRecDepth 20000 in
set_option maxHeartbeats 4000000 in
theorem rUDone_none (c : Cf) (A : Option Addr) (l : List R) (d a b v K : Nat) (hK : a * 65536 + b = K) (hl : l.length ≤ 1000000) (ha : a ≤ 65535) (hb : b ≤ 65535) (_ : v < 4294967296) (hd : l.length ≤ d ∧ d ≤ 9223372036854775807) (hAn : A = none → l.length = 0 ∧ d = 0) (hfi : fnd l K = -1) (w : World) (h : IsR w A l) :
    Calls Tryd.prog 30 #[cfv c, .slice A l.length d, opv ⟨10, a, b, v⟩] w (DidU (l, 6, 0) w) := by
  have H2 := Lib.hid (fun W hA => rFind_any A l d (by omega) K W hA)
  rw [hfi] at H2
  have H3 := Lib.hid (And.intro hd hAn)
  have HCD := Lib.hid (Nat.le_refl l.length)
  clear hd hAn
  have HA := Lib.hid h
  unfold cfv opv
  simp only
  obtain ⟨N, hN⟩ : ∃ N, l.length = N := ⟨_, rfl⟩
  rw [hN] at hl H2 H3 HCD ⊢
  have HN := Lib.hid hN
  have hwa : IntKind.u64.wrap (a : Int) = (a : Int) := by rw [IntKind.wrap_u64]; omega
  have hwb : IntKind.u64.wrap (b : Int) = (b : Int) := by rw [IntKind.wrap_u64]; omega
  have hwm : IntKind.u64.wrap ((a : Int) * 65536) = (a : Int) * 65536 := by rw [IntKind.wrap_u64]; omega
  have hwk : IntKind.u64.wrap ((a : Int) * 65536 + (b : Int)) = (K : Int) := by rw [IntKind.wrap_u64]; omega
  clear hN h hfi hK
  go_enter Tryd.func30, Tryd.ntmps30
  go_wp2_with fail
  obtain ⟨W0, hW⟩ : ∃ W0, W0 = ((w.alloc (.cells #[.int .u8 c.obj, .int .i64 c.inst, .int .i64 c.thr, .int .u8 c.kind, .int .i64 c.str, .int .i64 c.bits, .int .i64 c.cap, .int .i64 c.node, .int .i64 c.bat, .int .i64 c.chunk, .int .u64 c.lim, .int .u64 c.most] 33)).alloc (.cells #[.int .u8 10, .int .u32 a, .int .u32 b, .int .u32 v] 35)).alloc (.cells #[.int .i64 0, .int .u32 0, .slice none 0 0] 29) := ⟨_, rfl⟩
  have hb0 : Below w.heap.size w W0 := by rw [hW]; exact below_three _ _ _ _
  rw [← hW]
  have o0 : W0.cell? ⟨w.heap.size + 1, 0, none⟩ = some (.int .u8 10) := by rw [hW]; simp [go_sem]
  have o2 : W0.cell? ⟨w.heap.size + 1, 3, none⟩ = some (.int .u32 v) := by rw [hW]; simp [go_sem]
  have g6 : W0.cell? ⟨w.heap.size, 6, none⟩ = some (.int .i64 c.cap) := by rw [hW]; simp [go_sem]
  have z0 : W0.cell? ⟨w.heap.size + 1 + 1, 0, none⟩ = some (.int .i64 0) := by rw [hW]; simp [go_sem]
  have f0 : W0.frozen? ⟨w.heap.size + 1 + 1, 0, none⟩ = false := by rw [hW]; simp [go_sem]
  have z1 : W0.cell? ⟨w.heap.size + 1 + 1, 1, none⟩ = some (.int .u32 0) := by rw [hW]; simp [go_sem]
  have f1 : W0.frozen? ⟨w.heap.size + 1 + 1, 1, none⟩ = false := by rw [hW]; simp [go_sem]
  have z2 : W0.cell? ⟨w.heap.size + 1 + 1, 2, none⟩ = some (.slice none 0 0) := by rw [hW]; simp [go_sem]
  have f2 : W0.frozen? ⟨w.heap.size + 1 + 1, 2, none⟩ = false := by rw [hW]; simp [go_sem]
  have hs : w.heap.size + 1 + 1 < W0.heap.size := by rw [hW]; simp
  have hs1 : w.heap.size + 1 < W0.heap.size := by omega
  clear hW
  have HA1 := Lib.hid (HA.out.below hb0)
  refine (H2.out _ HA1.out).mono ?_
  rintro e w2 ⟨rfl, hb1⟩
  have HA2 := Lib.hid (HA1.out.below hb1)
  have o0' := (hb1.cell hs1).trans o0
  have o2' := (hb1.cell hs1).trans o2
  have g6' := (hb1.cell (Nat.lt_of_succ_lt hs1)).trans g6
  replace z0 := (hb1.cell hs).trans z0
  replace f0 := (hb1.frozen hs).trans f0
  replace z1 := (hb1.cell hs).trans z1
  replace f1 := (hb1.frozen hs).trans f1
  replace z2 := (hb1.cell hs).trans z2
  replace f2 := (hb1.frozen hs).trans f2
  have hs2 : w.heap.size + 1 + 1 < w2.heap.size := Nat.lt_of_lt_of_le hs hb1.size
  have hs3 : w.heap.size + 1 < w2.heap.size := by omega
  have HB2 := Lib.hid (below_then hb0 hb1)
  clear hb1 hb0 o0 o2 g6
  go_wp2
  refine bodyPost_ret (v := .tuple #[.slice A N d, .agg #[.int .i64 6, .int .u32 0, .slice none 0 0]]) ?_ rfl ⟨_, rfl, IsRV.old (by rw [HN.out]; exact H3.out.1) (by rw [HN.out]; exact H3.out.2) HN.out HA.out ?_, ?_⟩
  · simp [results, Tryd.results30, go_sem, z0, z1, z2]
  · exact below_set3 HB2.out (by omega) _ _ _
  · exact below_set3 HB2.out (by omega) _ _ _

set_option maxRecDepth 20000 in
set_option maxHeartbeats 4000000 in
theorem rUDone_look (c : Cf) (A : Option Addr) (l : List R) (d a b v : Nat) (hd : l.length ≤ d ∧ d ≤ 9223372036854775807) (hAn : A = none → l.length = 0 ∧ d = 0) (hl : l.length ≤ 1000000) (hv : ∀ x ∈ l, RuOk x) (ha : a < 4294967296) (hb : b < 4294967296) (w : World) (h : IsR w A l) :
    Calls Tryd.prog 30 #[cfv c, .slice A l.length d, opv ⟨11, a, b, v⟩] w (DidU (l, 0, (says l a b : Nat)) w) := by
  have HA := Lib.hid h
  have HD := Lib.hid (And.intro hd hAn)
  have HG := Lib.hid (says_any A l d a b hl hv ha hb)
  unfold cfv opv
  simp only
  generalize says l a b = y at *
  obtain ⟨N, hN⟩ : ∃ N, l.length = N := ⟨_, rfl⟩
  rw [hN] at hl HG HD ⊢
  have HN := Lib.hid hN
  clear hN h hd hAn hv hl ha hb
  go_enter Tryd.func30, Tryd.ntmps30
  go_wp2_with fail
  obtain ⟨W0, hW⟩ : ∃ W0, W0 = ((w.alloc (.cells #[.int .u8 c.obj, .int .i64 c.inst, .int .i64 c.thr, .int .u8 c.kind, .int .i64 c.str, .int .i64 c.bits, .int .i64 c.cap, .int .i64 c.node, .int .i64 c.bat, .int .i64 c.chunk, .int .u64 c.lim, .int .u64 c.most] 33)).alloc (.cells #[.int .u8 11, .int .u32 a, .int .u32 b, .int .u32 v] 35)).alloc (.cells #[.int .i64 0, .int .u32 0, .slice none 0 0] 29) := ⟨_, rfl⟩
  have hb0 : Below w.heap.size w W0 := by rw [hW]; exact below_three _ _ _ _
  have HRES : W0.heap[w.heap.size + 1 + 1]? = some (.cells #[.int .i64 0, .int .u32 0, .slice none 0 0] 29 (0, 0)) := by
    rw [hW]
    exact heap_alloc_new ((w.alloc (.cells #[.int .u8 c.obj, .int .i64 c.inst, .int .i64 c.thr, .int .u8 c.kind, .int .i64 c.str, .int .i64 c.bits, .int .i64 c.cap, .int .i64 c.node, .int .i64 c.bat, .int .i64 c.chunk, .int .u64 c.lim, .int .u64 c.most] 33)).alloc (.cells #[.int .u8 11, .int .u32 a, .int .u32 b, .int .u32 v] 35)) _ |> fun h => by simpa using h
  have hs : W0.heap.size = w.heap.size + 3 := by rw [hW]; simp
  rw [← hW]
  clear hW
  refine (HG.out _ (HA.out.below hb0)).mono ?_
  rintro e w1 ⟨rfl, hb1⟩
  have hsz := hb1.size
  obtain ⟨r0, f0, r1, f1, r2, f2⟩ := res_cells ((hb1.block _ (by omega)).trans HRES)
  have HO := Lib.hid (fun wx hb => IsRV.old (wx := wx) (by rw [HN.out]; exact HD.out.1) (by rw [HN.out]; exact HD.out.2) HN.out HA.out hb)
  have HBW := Lib.hid (below_then hb0 hb1)
  clear HRES hb1 hb0 hs HG hsz
  go_wp2
  refine bodyPost_ret (v := .tuple #[.slice A N d, .agg #[.int .i64 0, .int .u32 y, .slice none 0 0]]) ?_ rfl ⟨_, rfl, HO.out _ ?_, ?_⟩
  · simp [results, Tryd.results30, go_sem, r0, r1, r2]
  · exact below_set3 HBW.out (by omega) _ _ _
  · exact below_set3 HBW.out (by omega) _ _ _

theorem rUDone_any (c : Cf) (cap : Nat) (hcc : c.cap = cap) (A : Option Addr) (l : List R) (d : Nat) (o : O) (ho : Wf o) (hk : 9 ≤ o.k ∧ o.k ≤ 11) (hab : o.a ≤ 65535 ∧ o.b ≤ 65535) (hd : l.length ≤ d ∧ d ≤ 9223372036854775807) (hAn : A = none → l.length = 0 ∧ d = 0) (hl : l.length ≤ 1000000) (hu : Up l) (hv : ∀ x ∈ l, RuOk x) (w : World) (h : IsR w A l) :
    Calls Tryd.prog 30 #[cfv c, .slice A l.length d, opv o] w (DidU (doneU cap l o.k o.a o.b o.c) w) := by
  obtain ⟨k, a, b, v⟩ := o
  obtain ⟨_, _, _, hv4⟩ := ho
  obtain ⟨ha, hb⟩ := hab
  simp only at hk ha hb hv4 ⊢
  have hsm : ∀ x ∈ l, x.2 ≤ 2147483647 := fun x hx => by have := (hv x hx).2; omega
  rcases (by omega : k = 9 ∨ k = 10 ∨ k = 11) with rfl | rfl | rfl
  · unfold doneU
    rw [if_neg (by decide), if_pos rfl]
    rcases fnd_get l (a * 65536 + b) with ⟨hf, hg⟩ | ⟨i, hi, hf, _, hg⟩
    · rw [hg]
      by_cases hc : cap ≤ l.length
      · simp only [if_pos hc]
        exact rUDone_full c A l d a b v _ rfl hl ha hb hv4 hd hAn (by omega) hf w h
      · simp only [if_neg hc]
        exact rUDone_new c A l d a b v _ rfl hl ha hb hv4 hu (by omega) hf w h
    · rw [hg]
      exact rUDone_turn c A l d a b v _ rfl hl ha hb hv4 hu i hi hf (hsm _ (List.getElem_mem hi)) w h
  · unfold doneU
    rw [if_neg (by decide), if_neg (by decide)]
    rcases fnd_get l (a * 65536 + b) with ⟨hf, hg⟩ | ⟨i, hi, hf, _, hg⟩
    · rw [hg]
      exact rUDone_none c A l d a b v _ rfl hl ha hb hv4 hd hAn hf w h
    · rw [hg]
      exact rUDone_cut c A l d a b v _ rfl hl ha hb hv4 i hi hf (hsm _ (List.getElem_mem hi)) w h
  · unfold doneU
    rw [if_pos rfl]
    exact rUDone_look c A l d a b v hd hAn hl hv (by omega) (by omega) w h
end Go.Proofs.YtfkkeokmkhjpfaaDoor
