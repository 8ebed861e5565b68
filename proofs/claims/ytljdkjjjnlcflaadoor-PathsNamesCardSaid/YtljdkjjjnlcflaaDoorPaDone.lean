/- The document's own model of a tree of settings: what an operation does that fits. -/
import Derived.Test.YtljdkjjjnlcflaaDoorPaMade
import Derived.Deep.RegionWith
import Derived.Deep.DeepCutAuto
namespace Go.Proofs.YtljdkjjjnlcflaaDoor
open Go.RowKit Tb Pt Opn

/-- Rows, and an answer without rows. -/
def DidP (s : List R × Int × Int) (w : World) (e : Ending) (w' : World) : Prop := ∃ u, e = .returned (.tuple #[u, resv s.2.1 s.2.2 none 0 0]) ∧ IsRV w' u s.1 ∧ Below w.heap.size w w'

set_option maxRecDepth 20000 in
set_option maxHeartbeats 4000000 in
theorem pDone_none13 (c : Cf) (A : Option Addr) (l : List R) (d a b v K : Nat) (ho : Wf ⟨13, a, b, v⟩) (hK : pth ⟨13, a, b, v⟩ = K) (_ : K < 18446744073709551616) (hl : l.length ≤ 900000) (hd : l.length ≤ d ∧ d ≤ 9223372036854775807) (hAn : A = none → l.length = 0 ∧ d = 0) (hfi : fnd l K = -1) (w : World) (h : IsR w A l) :
    Calls Tryd.prog 31 #[cfv c, .slice A l.length d, opv ⟨13, a, b, v⟩] w (DidP (l, 6, 0) w) := by
  have H2 := Lib.hid (fun W hA => rFind_any A l d (by omega) K W hA)
  have HPT := Lib.hid (pPath_any ⟨13, a, b, v⟩ ho)
  rw [hK] at HPT
  rw [hfi] at H2
  have HD := Lib.hid (And.intro hd hAn)
  have HA := Lib.hid h
  unfold cfv opv at *
  simp only at *
  obtain ⟨N, hN⟩ : ∃ N, l.length = N := ⟨_, rfl⟩
  have HN := Lib.hid hN
  rw [hN] at hl H2 HD ⊢
  clear hN h hfi hK hd hAn ho
  go_enter Tryd.func31, Tryd.ntmps31
  go_wp2_with fail
  obtain ⟨W0, hW⟩ : ∃ W0, W0 = ((w.alloc (.cells #[.int .u8 c.obj, .int .i64 c.inst, .int .i64 c.thr, .int .u8 c.kind, .int .i64 c.str, .int .i64 c.bits, .int .i64 c.cap, .int .i64 c.node, .int .i64 c.bat, .int .i64 c.chunk, .int .u64 c.lim, .int .u64 c.most] 33)).alloc (.cells #[.int .u8 13, .int .u32 a, .int .u32 b, .int .u32 v] 35)).alloc (.cells #[.int .i64 0, .int .u32 0, .slice none 0 0] 29) := ⟨_, rfl⟩
  have hb0 : Below w.heap.size w W0 := by rw [hW]; exact below_three _ _ _ _
  rw [← hW]
  have o0 : W0.cell? ⟨w.heap.size + 1, 0, none⟩ = some (.int .u8 13) := by rw [hW]; simp [go_sem]
  have o3 : W0.cell? ⟨w.heap.size + 1, 3, none⟩ = some (.int .u32 v) := by rw [hW]; simp [go_sem]
  have g6 : W0.cell? ⟨w.heap.size, 6, none⟩ = some (.int .i64 c.cap) := by rw [hW]; simp [go_sem]
  have HRES : W0.heap[w.heap.size + 1 + 1]? = some (.cells #[.int .i64 0, .int .u32 0, .slice none 0 0] 29 (0, 0)) := by
    rw [hW]
    exact heap_alloc_new ((w.alloc (.cells #[.int .u8 c.obj, .int .i64 c.inst, .int .i64 c.thr, .int .u8 c.kind, .int .i64 c.str, .int .i64 c.bits, .int .i64 c.cap, .int .i64 c.node, .int .i64 c.bat, .int .i64 c.chunk, .int .u64 c.lim, .int .u64 c.most] 33)).alloc (.cells #[.int .u8 13, .int .u32 a, .int .u32 b, .int .u32 v] 35)) _ |> fun h => by simpa using h
  have hs0 : w.heap.size + 3 = W0.heap.size := by rw [hW]; simp
  clear hW
  refine (HPT.out _).mono ?_
  rintro e w1 ⟨rfl, hb1⟩
  go_wp2_with fail
  refine (H2.out _ (HA.out.below (below_then hb0 hb1))).mono ?_
  rintro e w2 ⟨rfl, hb2⟩
  have hb12 := below_then hb1 hb2
  replace o0 := (hb12.cell (by show w.heap.size + 1 < _; omega)).trans o0
  replace o3 := (hb12.cell (by show w.heap.size + 1 < _; omega)).trans o3
  replace g6 := (hb12.cell (by show w.heap.size < _; omega)).trans g6
  have HR2 := Lib.hid ((hb12.block _ (by omega)).trans HRES)
  have hs2 : w.heap.size + 1 + 1 < w2.heap.size := by have := hb12.size; omega
  have HB2 := Lib.hid (below_then hb0 hb12)
  have HA2 := Lib.hid (HA.out.below HB2.out)
  clear hb1 hb2 hb12 hb0 HRES hs0
  obtain ⟨z0, f0, z1, f1, z2, f2⟩ := res_cells HR2.out
  go_wp2
  refine bodyPost_ret (v := .tuple #[.slice A N d, .agg #[.int .i64 6, .int .u32 0, .slice none 0 0]]) ?_ rfl ⟨_, rfl, IsRV.old (by rw [HN.out]; exact HD.out.1) (by rw [HN.out]; exact HD.out.2) HN.out HA.out ?_, ?_⟩
  · simp [results, Tryd.results31, go_sem, z0, z1, z2]
  · exact below_set3 HB2.out (by omega) _ _ _
  · exact below_set3 HB2.out (by omega) _ _ _

set_option maxRecDepth 20000 in
set_option maxHeartbeats 4000000 in
theorem pDone_none14 (c : Cf) (A : Option Addr) (l : List R) (d a b v K : Nat) (ho : Wf ⟨14, a, b, v⟩) (hK : pth ⟨14, a, b, v⟩ = K) (_ : K < 18446744073709551616) (hl : l.length ≤ 900000) (hd : l.length ≤ d ∧ d ≤ 9223372036854775807) (hAn : A = none → l.length = 0 ∧ d = 0) (hfi : fnd l K = -1) (w : World) (h : IsR w A l) :
    Calls Tryd.prog 31 #[cfv c, .slice A l.length d, opv ⟨14, a, b, v⟩] w (DidP (l, 6, 0) w) := by
  have H2 := Lib.hid (fun W hA => rFind_any A l d (by omega) K W hA)
  have HPT := Lib.hid (pPath_any ⟨14, a, b, v⟩ ho)
  rw [hK] at HPT
  rw [hfi] at H2
  have HD := Lib.hid (And.intro hd hAn)
  have HA := Lib.hid h
  unfold cfv opv at *
  simp only at *
  obtain ⟨N, hN⟩ : ∃ N, l.length = N := ⟨_, rfl⟩
  have HN := Lib.hid hN
  rw [hN] at hl H2 HD ⊢
  clear hN h hfi hK hd hAn ho
  go_enter Tryd.func31, Tryd.ntmps31
  go_wp2_with fail
  obtain ⟨W0, hW⟩ : ∃ W0, W0 = ((w.alloc (.cells #[.int .u8 c.obj, .int .i64 c.inst, .int .i64 c.thr, .int .u8 c.kind, .int .i64 c.str, .int .i64 c.bits, .int .i64 c.cap, .int .i64 c.node, .int .i64 c.bat, .int .i64 c.chunk, .int .u64 c.lim, .int .u64 c.most] 33)).alloc (.cells #[.int .u8 14, .int .u32 a, .int .u32 b, .int .u32 v] 35)).alloc (.cells #[.int .i64 0, .int .u32 0, .slice none 0 0] 29) := ⟨_, rfl⟩
  have hb0 : Below w.heap.size w W0 := by rw [hW]; exact below_three _ _ _ _
  rw [← hW]
  have o0 : W0.cell? ⟨w.heap.size + 1, 0, none⟩ = some (.int .u8 14) := by rw [hW]; simp [go_sem]
  have o3 : W0.cell? ⟨w.heap.size + 1, 3, none⟩ = some (.int .u32 v) := by rw [hW]; simp [go_sem]
  have g6 : W0.cell? ⟨w.heap.size, 6, none⟩ = some (.int .i64 c.cap) := by rw [hW]; simp [go_sem]
  have HRES : W0.heap[w.heap.size + 1 + 1]? = some (.cells #[.int .i64 0, .int .u32 0, .slice none 0 0] 29 (0, 0)) := by
    rw [hW]
    exact heap_alloc_new ((w.alloc (.cells #[.int .u8 c.obj, .int .i64 c.inst, .int .i64 c.thr, .int .u8 c.kind, .int .i64 c.str, .int .i64 c.bits, .int .i64 c.cap, .int .i64 c.node, .int .i64 c.bat, .int .i64 c.chunk, .int .u64 c.lim, .int .u64 c.most] 33)).alloc (.cells #[.int .u8 14, .int .u32 a, .int .u32 b, .int .u32 v] 35)) _ |> fun h => by simpa using h
  have hs0 : w.heap.size + 3 = W0.heap.size := by rw [hW]; simp
  clear hW
  refine (HPT.out _).mono ?_
  rintro e w1 ⟨rfl, hb1⟩
  go_wp2_with fail
  refine (H2.out _ (HA.out.below (below_then hb0 hb1))).mono ?_
  rintro e w2 ⟨rfl, hb2⟩
  have hb12 := below_then hb1 hb2
  replace o0 := (hb12.cell (by show w.heap.size + 1 < _; omega)).trans o0
  replace o3 := (hb12.cell (by show w.heap.size + 1 < _; omega)).trans o3
  replace g6 := (hb12.cell (by show w.heap.size < _; omega)).trans g6
  have HR2 := Lib.hid ((hb12.block _ (by omega)).trans HRES)
  have hs2 : w.heap.size + 1 + 1 < w2.heap.size := by have := hb12.size; omega
  have HB2 := Lib.hid (below_then hb0 hb12)
  have HA2 := Lib.hid (HA.out.below HB2.out)
  clear hb1 hb2 hb12 hb0 HRES hs0
  obtain ⟨z0, f0, z1, f1, z2, f2⟩ := res_cells HR2.out
  go_wp2
  refine bodyPost_ret (v := .tuple #[.slice A N d, .agg #[.int .i64 6, .int .u32 0, .slice none 0 0]]) ?_ rfl ⟨_, rfl, IsRV.old (by rw [HN.out]; exact HD.out.1) (by rw [HN.out]; exact HD.out.2) HN.out HA.out ?_, ?_⟩
  · simp [results, Tryd.results31, go_sem, z0, z1, z2]
  · exact below_set3 HB2.out (by omega) _ _ _
  · exact below_set3 HB2.out (by omega) _ _ _

set_option maxRecDepth 20000 in
set_option maxHeartbeats 4000000 in
theorem pDone_void (c : Cf) (A : Option Addr) (l : List R) (d a b v K : Nat) (ho : Wf ⟨14, a, b, v⟩) (hK : pth ⟨14, a, b, v⟩ = K) (_ : K < 18446744073709551616) (hl : l.length ≤ 900000) (hd : l.length ≤ d ∧ d ≤ 9223372036854775807) (hAn : A = none → l.length = 0 ∧ d = 0) (i : Nat) (hi : i < l.length) (hfi : fnd l K = (i : Nat)) (hv0 : l[i].2 = 0) (w : World) (h : IsR w A l) :
    Calls Tryd.prog 31 #[cfv c, .slice A l.length d, opv ⟨14, a, b, v⟩] w (DidP (l, 6, 0) w) := by
  have H2 := Lib.hid (fun W hA => rFind_any A l d (by omega) K W hA)
  have HPT := Lib.hid (pPath_any ⟨14, a, b, v⟩ ho)
  rw [hK] at HPT
  rw [hfi] at H2
  have i2' : (i : Int) < (l.length : Int) := by omega
  have HD := Lib.hid (And.intro hd hAn)
  have HA := Lib.hid h
  unfold cfv opv at *
  simp only at *
  obtain ⟨N, hN⟩ : ∃ N, l.length = N := ⟨_, rfl⟩
  have HN := Lib.hid hN
  rw [hN] at hl H2 HD i2' ⊢
  clear hN h hfi hK hd hAn ho
  go_enter Tryd.func31, Tryd.ntmps31
  go_wp2_with fail
  obtain ⟨W0, hW⟩ : ∃ W0, W0 = ((w.alloc (.cells #[.int .u8 c.obj, .int .i64 c.inst, .int .i64 c.thr, .int .u8 c.kind, .int .i64 c.str, .int .i64 c.bits, .int .i64 c.cap, .int .i64 c.node, .int .i64 c.bat, .int .i64 c.chunk, .int .u64 c.lim, .int .u64 c.most] 33)).alloc (.cells #[.int .u8 14, .int .u32 a, .int .u32 b, .int .u32 v] 35)).alloc (.cells #[.int .i64 0, .int .u32 0, .slice none 0 0] 29) := ⟨_, rfl⟩
  have hb0 : Below w.heap.size w W0 := by rw [hW]; exact below_three _ _ _ _
  rw [← hW]
  have o0 : W0.cell? ⟨w.heap.size + 1, 0, none⟩ = some (.int .u8 14) := by rw [hW]; simp [go_sem]
  have o3 : W0.cell? ⟨w.heap.size + 1, 3, none⟩ = some (.int .u32 v) := by rw [hW]; simp [go_sem]
  have g6 : W0.cell? ⟨w.heap.size, 6, none⟩ = some (.int .i64 c.cap) := by rw [hW]; simp [go_sem]
  have HRES : W0.heap[w.heap.size + 1 + 1]? = some (.cells #[.int .i64 0, .int .u32 0, .slice none 0 0] 29 (0, 0)) := by
    rw [hW]
    exact heap_alloc_new ((w.alloc (.cells #[.int .u8 c.obj, .int .i64 c.inst, .int .i64 c.thr, .int .u8 c.kind, .int .i64 c.str, .int .i64 c.bits, .int .i64 c.cap, .int .i64 c.node, .int .i64 c.bat, .int .i64 c.chunk, .int .u64 c.lim, .int .u64 c.most] 33)).alloc (.cells #[.int .u8 14, .int .u32 a, .int .u32 b, .int .u32 v] 35)) _ |> fun h => by simpa using h
  have hs0 : w.heap.size + 3 = W0.heap.size := by rw [hW]; simp
  clear hW
  refine (HPT.out _).mono ?_
  rintro e w1 ⟨rfl, hb1⟩
  go_wp2_with fail
  refine (H2.out _ (HA.out.below (below_then hb0 hb1))).mono ?_
  rintro e w2 ⟨rfl, hb2⟩
  have hb12 := below_then hb1 hb2
  replace o0 := (hb12.cell (by show w.heap.size + 1 < _; omega)).trans o0
  replace o3 := (hb12.cell (by show w.heap.size + 1 < _; omega)).trans o3
  replace g6 := (hb12.cell (by show w.heap.size < _; omega)).trans g6
  have HR2 := Lib.hid ((hb12.block _ (by omega)).trans HRES)
  have hs2 : w.heap.size + 1 + 1 < w2.heap.size := by have := hb12.size; omega
  have HB2 := Lib.hid (below_then hb0 hb12)
  have HA2 := Lib.hid (HA.out.below HB2.out)
  clear hb1 hb2 hb12 hb0 HRES hs0
  obtain ⟨z0, f0, z1, f1, z2, f2⟩ := res_cells HR2.out
  have i1 : (0 : Int) ≤ (i : Int) := by omega
  have i3 : ¬ (i : Int) < 0 := by omega
  obtain ⟨bk, off, rfl, _, h2⟩ := HA2.out.row hi
  obtain ⟨y, hy⟩ : ∃ q, l[i].2 = q := ⟨_, rfl⟩
  rw [hy] at h2 hv0
  have HY := Lib.hid hy
  subst hv0
  clear hy
  go_wp2
  refine bodyPost_ret (v := .tuple #[.slice (some ⟨bk, off, none⟩) N d, .agg #[.int .i64 6, .int .u32 0, .slice none 0 0]]) ?_ rfl ⟨_, rfl, IsRV.old (by rw [HN.out]; exact HD.out.1) (by rw [HN.out]; exact HD.out.2) HN.out HA.out ?_, ?_⟩
  · simp [results, Tryd.results31, go_sem, z0, z1, z2]
  · exact below_set3 HB2.out (by omega) _ _ _
  · exact below_set3 HB2.out (by omega) _ _ _

set_option maxRecDepth 20000 in
set_option maxHeartbeats 4000000 in
theorem pDone_read (c : Cf) (A : Option Addr) (l : List R) (d a b v K : Nat) (ho : Wf ⟨14, a, b, v⟩) (hK : pth ⟨14, a, b, v⟩ = K) (_ : K < 18446744073709551616) (hl : l.length ≤ 900000) (hd : l.length ≤ d ∧ d ≤ 9223372036854775807) (hAn : A = none → l.length = 0 ∧ d = 0) (i : Nat) (hi : i < l.length) (hfi : fnd l K = (i : Nat)) (hv0 : l[i].2 ≠ 0) (hvw : l[i].2 ≤ 2147483648) (w : World) (h : IsR w A l) :
    Calls Tryd.prog 31 #[cfv c, .slice A l.length d, opv ⟨14, a, b, v⟩] w (DidP (l, 0, ((l[i].2 : Nat) : Int)) w) := by
  have H2 := Lib.hid (fun W hA => rFind_any A l d (by omega) K W hA)
  have HPT := Lib.hid (pPath_any ⟨14, a, b, v⟩ ho)
  rw [hK] at HPT
  rw [hfi] at H2
  have i2' : (i : Int) < (l.length : Int) := by omega
  have HD := Lib.hid (And.intro hd hAn)
  have HA := Lib.hid h
  unfold cfv opv at *
  simp only at *
  obtain ⟨N, hN⟩ : ∃ N, l.length = N := ⟨_, rfl⟩
  have HN := Lib.hid hN
  rw [hN] at hl H2 HD i2' ⊢
  clear hN h hfi hK hd hAn ho
  go_enter Tryd.func31, Tryd.ntmps31
  go_wp2_with fail
  obtain ⟨W0, hW⟩ : ∃ W0, W0 = ((w.alloc (.cells #[.int .u8 c.obj, .int .i64 c.inst, .int .i64 c.thr, .int .u8 c.kind, .int .i64 c.str, .int .i64 c.bits, .int .i64 c.cap, .int .i64 c.node, .int .i64 c.bat, .int .i64 c.chunk, .int .u64 c.lim, .int .u64 c.most] 33)).alloc (.cells #[.int .u8 14, .int .u32 a, .int .u32 b, .int .u32 v] 35)).alloc (.cells #[.int .i64 0, .int .u32 0, .slice none 0 0] 29) := ⟨_, rfl⟩
  have hb0 : Below w.heap.size w W0 := by rw [hW]; exact below_three _ _ _ _
  rw [← hW]
  have o0 : W0.cell? ⟨w.heap.size + 1, 0, none⟩ = some (.int .u8 14) := by rw [hW]; simp [go_sem]
  have o3 : W0.cell? ⟨w.heap.size + 1, 3, none⟩ = some (.int .u32 v) := by rw [hW]; simp [go_sem]
  have g6 : W0.cell? ⟨w.heap.size, 6, none⟩ = some (.int .i64 c.cap) := by rw [hW]; simp [go_sem]
  have HRES : W0.heap[w.heap.size + 1 + 1]? = some (.cells #[.int .i64 0, .int .u32 0, .slice none 0 0] 29 (0, 0)) := by
    rw [hW]
    exact heap_alloc_new ((w.alloc (.cells #[.int .u8 c.obj, .int .i64 c.inst, .int .i64 c.thr, .int .u8 c.kind, .int .i64 c.str, .int .i64 c.bits, .int .i64 c.cap, .int .i64 c.node, .int .i64 c.bat, .int .i64 c.chunk, .int .u64 c.lim, .int .u64 c.most] 33)).alloc (.cells #[.int .u8 14, .int .u32 a, .int .u32 b, .int .u32 v] 35)) _ |> fun h => by simpa using h
  have hs0 : w.heap.size + 3 = W0.heap.size := by rw [hW]; simp
  clear hW
  refine (HPT.out _).mono ?_
  rintro e w1 ⟨rfl, hb1⟩
  go_wp2_with fail
  refine (H2.out _ (HA.out.below (below_then hb0 hb1))).mono ?_
  rintro e w2 ⟨rfl, hb2⟩
  have hb12 := below_then hb1 hb2
  replace o0 := (hb12.cell (by show w.heap.size + 1 < _; omega)).trans o0
  replace o3 := (hb12.cell (by show w.heap.size + 1 < _; omega)).trans o3
  replace g6 := (hb12.cell (by show w.heap.size < _; omega)).trans g6
  have HR2 := Lib.hid ((hb12.block _ (by omega)).trans HRES)
  have hs2 : w.heap.size + 1 + 1 < w2.heap.size := by have := hb12.size; omega
  have HB2 := Lib.hid (below_then hb0 hb12)
  have HA2 := Lib.hid (HA.out.below HB2.out)
  clear hb1 hb2 hb12 hb0 HRES hs0
  obtain ⟨z0, f0, z1, f1, z2, f2⟩ := res_cells HR2.out
  have i1 : (0 : Int) ≤ (i : Int) := by omega
  have i3 : ¬ (i : Int) < 0 := by omega
  obtain ⟨bk, off, rfl, _, h2⟩ := HA2.out.row hi
  obtain ⟨y, hy⟩ : ∃ q, l[i].2 = q := ⟨_, rfl⟩
  rw [hy] at h2 hv0 hvw
  have HY := Lib.hid hy
  have y1 : ¬ (y : Int) = 0 := by omega
  have hwy : IntKind.u32.wrap (y : Int) = (y : Int) := by rw [IntKind.wrap_u32]; omega
  have mixed : Tryd.prog.follows Departure.mixedOrders = true := by kernel_rfl
  clear hy hv0
  have y2 : ((y : Int) == 0) = false := beq_eq_false_iff_ne.2 y1
  go_wp2_with fail
  go_region
  go_wp2
  refine bodyPost_ret (v := .tuple #[.slice (some ⟨bk, off, none⟩) N d, .agg #[.int .i64 0, .int .u32 y, .slice none 0 0]]) ?_ rfl ⟨_, by rw [HY.out]; rfl, IsRV.old (by rw [HN.out]; exact HD.out.1) (by rw [HN.out]; exact HD.out.2) HN.out HA.out ?_, ?_⟩
  · simp [results, Tryd.results31, go_sem, z0, z1, z2]
  · exact below_set3 HB2.out.drew (by omega) _ _ _
  · exact below_set3 HB2.out.drew (by omega) _ _ _

set_option maxRecDepth 20000 in
set_option maxHeartbeats 4000000 in
theorem pDone_used (c : Cf) (A : Option Addr) (l : List R) (d a b v K : Nat) (ho : Wf ⟨13, a, b, v⟩) (hK : pth ⟨13, a, b, v⟩ = K) (_ : K < 18446744073709551616) (hl : l.length ≤ 900000) (hd : l.length ≤ d ∧ d ≤ 9223372036854775807) (hAn : A = none → l.length = 0 ∧ d = 0) (i : Nat) (hi : i < l.length) (hfi : fnd l K = (i : Nat)) (hw64 : ∀ x ∈ l, x.1 < 18446744073709551616) (hub : usedB l K = true) (w : World) (h : IsR w A l) :
    Calls Tryd.prog 31 #[cfv c, .slice A l.length d, opv ⟨13, a, b, v⟩] w (DidP (l, 90, 0) w) := by
  have H2 := Lib.hid (fun W hA => rFind_any A l d (by omega) K W hA)
  have HPT := Lib.hid (pPath_any ⟨13, a, b, v⟩ ho)
  rw [hK] at HPT
  rw [hfi] at H2
  have i2' : (i : Int) < (l.length : Int) := by omega
  have H4 := Lib.hid (fun W hA => pUsed_any A l d (by omega) hw64 K W hA)
  rw [hub] at H4
  have HD := Lib.hid (And.intro hd hAn)
  have HA := Lib.hid h
  unfold cfv opv at *
  simp only at *
  obtain ⟨N, hN⟩ : ∃ N, l.length = N := ⟨_, rfl⟩
  have HN := Lib.hid hN
  rw [hN] at hl H2 HD H4 i2' ⊢
  clear hN h hfi hK hd hAn ho hw64 hub
  go_enter Tryd.func31, Tryd.ntmps31
  go_wp2_with fail
  obtain ⟨W0, hW⟩ : ∃ W0, W0 = ((w.alloc (.cells #[.int .u8 c.obj, .int .i64 c.inst, .int .i64 c.thr, .int .u8 c.kind, .int .i64 c.str, .int .i64 c.bits, .int .i64 c.cap, .int .i64 c.node, .int .i64 c.bat, .int .i64 c.chunk, .int .u64 c.lim, .int .u64 c.most] 33)).alloc (.cells #[.int .u8 13, .int .u32 a, .int .u32 b, .int .u32 v] 35)).alloc (.cells #[.int .i64 0, .int .u32 0, .slice none 0 0] 29) := ⟨_, rfl⟩
  have hb0 : Below w.heap.size w W0 := by rw [hW]; exact below_three _ _ _ _
  rw [← hW]
  have o0 : W0.cell? ⟨w.heap.size + 1, 0, none⟩ = some (.int .u8 13) := by rw [hW]; simp [go_sem]
  have o3 : W0.cell? ⟨w.heap.size + 1, 3, none⟩ = some (.int .u32 v) := by rw [hW]; simp [go_sem]
  have g6 : W0.cell? ⟨w.heap.size, 6, none⟩ = some (.int .i64 c.cap) := by rw [hW]; simp [go_sem]
  have HRES : W0.heap[w.heap.size + 1 + 1]? = some (.cells #[.int .i64 0, .int .u32 0, .slice none 0 0] 29 (0, 0)) := by
    rw [hW]
    exact heap_alloc_new ((w.alloc (.cells #[.int .u8 c.obj, .int .i64 c.inst, .int .i64 c.thr, .int .u8 c.kind, .int .i64 c.str, .int .i64 c.bits, .int .i64 c.cap, .int .i64 c.node, .int .i64 c.bat, .int .i64 c.chunk, .int .u64 c.lim, .int .u64 c.most] 33)).alloc (.cells #[.int .u8 13, .int .u32 a, .int .u32 b, .int .u32 v] 35)) _ |> fun h => by simpa using h
  have hs0 : w.heap.size + 3 = W0.heap.size := by rw [hW]; simp
  clear hW
  refine (HPT.out _).mono ?_
  rintro e w1 ⟨rfl, hb1⟩
  go_wp2_with fail
  refine (H2.out _ (HA.out.below (below_then hb0 hb1))).mono ?_
  rintro e w2 ⟨rfl, hb2⟩
  have hb12 := below_then hb1 hb2
  replace o0 := (hb12.cell (by show w.heap.size + 1 < _; omega)).trans o0
  replace o3 := (hb12.cell (by show w.heap.size + 1 < _; omega)).trans o3
  replace g6 := (hb12.cell (by show w.heap.size < _; omega)).trans g6
  have HR2 := Lib.hid ((hb12.block _ (by omega)).trans HRES)
  have hs2 : w.heap.size + 1 + 1 < w2.heap.size := by have := hb12.size; omega
  have HB2 := Lib.hid (below_then hb0 hb12)
  have HA2 := Lib.hid (HA.out.below HB2.out)
  clear hb1 hb2 hb12 hb0 HRES hs0
  obtain ⟨z0, f0, z1, f1, z2, f2⟩ := res_cells HR2.out
  have i3 : ¬ (i : Int) < 0 := by omega
  go_wp2_with fail
  refine (H4.out _ HA2.out).mono ?_
  rintro e w3 ⟨rfl, hb3⟩
  have HB3 := Lib.hid (below_then HB2.out hb3)
  obtain ⟨y0, k0, y1, k1, y2, k2⟩ := res_cells ((hb3.block _ hs2).trans HR2.out)
  have hs3 := hb3.size
  clear z0 f0 z1 f1 z2 f2 o0 o3 g6
  go_wp2
  refine bodyPost_ret (v := .tuple #[.slice A N d, .agg #[.int .i64 90, .int .u32 0, .slice none 0 0]]) ?_ rfl ⟨_, rfl, IsRV.old (by rw [HN.out]; exact HD.out.1) (by rw [HN.out]; exact HD.out.2) HN.out HA.out ?_, ?_⟩
  · simp [results, Tryd.results31, go_sem, y0, y1, y2]
  · exact below_set3 HB3.out (by omega) _ _ _
  · exact below_set3 HB3.out (by omega) _ _ _

set_option maxRecDepth 20000 in
set_option maxHeartbeats 4000000 in
theorem pDone_cut (c : Cf) (A : Option Addr) (l : List R) (d a b v K : Nat) (ho : Wf ⟨13, a, b, v⟩) (hK : pth ⟨13, a, b, v⟩ = K) (_ : K < 18446744073709551616) (hl : l.length ≤ 900000) (hd : l.length ≤ d ∧ d ≤ 9223372036854775807) (hAn : A = none → l.length = 0 ∧ d = 0) (i : Nat) (hi : i < l.length) (hfi : fnd l K = (i : Nat)) (hw64 : ∀ x ∈ l, x.1 < 18446744073709551616) (hub : usedB l K = false) (hvw : l[i].2 ≤ 2147483648) (w : World) (h : IsR w A l) :
    Calls Tryd.prog 31 #[cfv c, .slice A l.length d, opv ⟨13, a, b, v⟩] w (DidP (cut l K, 0, ((l[i].2 : Nat) : Int)) w) := by
  have H2 := Lib.hid (fun W hA => rFind_any A l d (by omega) K W hA)
  have HPT := Lib.hid (pPath_any ⟨13, a, b, v⟩ ho)
  rw [hK] at HPT
  rw [hfi] at H2
  have i2' : (i : Int) < (l.length : Int) := by omega
  have H4 := Lib.hid (fun W hA => pUsed_any A l d (by omega) hw64 K W hA)
  rw [hub] at H4
  have H3 := Lib.hid (fun W hA => rWithout_any A l d (by omega) K W hA)
  have HD := Lib.hid (And.intro hd hAn)
  have HA := Lib.hid h
  unfold cfv opv at *
  simp only at *
  obtain ⟨N, hN⟩ : ∃ N, l.length = N := ⟨_, rfl⟩
  have HN := Lib.hid hN
  rw [hN] at hl H2 HD H4 H3 i2' ⊢
  clear hN h hfi hK hd hAn ho hw64 hub
  go_enter Tryd.func31, Tryd.ntmps31
  go_wp2_with fail
  obtain ⟨W0, hW⟩ : ∃ W0, W0 = ((w.alloc (.cells #[.int .u8 c.obj, .int .i64 c.inst, .int .i64 c.thr, .int .u8 c.kind, .int .i64 c.str, .int .i64 c.bits, .int .i64 c.cap, .int .i64 c.node, .int .i64 c.bat, .int .i64 c.chunk, .int .u64 c.lim, .int .u64 c.most] 33)).alloc (.cells #[.int .u8 13, .int .u32 a, .int .u32 b, .int .u32 v] 35)).alloc (.cells #[.int .i64 0, .int .u32 0, .slice none 0 0] 29) := ⟨_, rfl⟩
  have hb0 : Below w.heap.size w W0 := by rw [hW]; exact below_three _ _ _ _
  rw [← hW]
  have o0 : W0.cell? ⟨w.heap.size + 1, 0, none⟩ = some (.int .u8 13) := by rw [hW]; simp [go_sem]
  have o3 : W0.cell? ⟨w.heap.size + 1, 3, none⟩ = some (.int .u32 v) := by rw [hW]; simp [go_sem]
  have g6 : W0.cell? ⟨w.heap.size, 6, none⟩ = some (.int .i64 c.cap) := by rw [hW]; simp [go_sem]
  have HRES : W0.heap[w.heap.size + 1 + 1]? = some (.cells #[.int .i64 0, .int .u32 0, .slice none 0 0] 29 (0, 0)) := by
    rw [hW]
    exact heap_alloc_new ((w.alloc (.cells #[.int .u8 c.obj, .int .i64 c.inst, .int .i64 c.thr, .int .u8 c.kind, .int .i64 c.str, .int .i64 c.bits, .int .i64 c.cap, .int .i64 c.node, .int .i64 c.bat, .int .i64 c.chunk, .int .u64 c.lim, .int .u64 c.most] 33)).alloc (.cells #[.int .u8 13, .int .u32 a, .int .u32 b, .int .u32 v] 35)) _ |> fun h => by simpa using h
  have hs0 : w.heap.size + 3 = W0.heap.size := by rw [hW]; simp
  clear hW
  refine (HPT.out _).mono ?_
  rintro e w1 ⟨rfl, hb1⟩
  go_wp2_with fail
  refine (H2.out _ (HA.out.below (below_then hb0 hb1))).mono ?_
  rintro e w2 ⟨rfl, hb2⟩
  have hb12 := below_then hb1 hb2
  replace o0 := (hb12.cell (by show w.heap.size + 1 < _; omega)).trans o0
  replace o3 := (hb12.cell (by show w.heap.size + 1 < _; omega)).trans o3
  replace g6 := (hb12.cell (by show w.heap.size < _; omega)).trans g6
  have HR2 := Lib.hid ((hb12.block _ (by omega)).trans HRES)
  have hs2 : w.heap.size + 1 + 1 < w2.heap.size := by have := hb12.size; omega
  have HB2 := Lib.hid (below_then hb0 hb12)
  have HA2 := Lib.hid (HA.out.below HB2.out)
  clear hb1 hb2 hb12 hb0 HRES hs0
  obtain ⟨z0, f0, z1, f1, z2, f2⟩ := res_cells HR2.out
  have i3 : ¬ (i : Int) < 0 := by omega
  have i1 : (0 : Int) ≤ (i : Int) := by omega
  go_wp2_with fail
  refine (H4.out _ HA2.out).mono ?_
  rintro e w3 ⟨rfl, hb3⟩
  have HB3 := Lib.hid (below_then HB2.out hb3)
  have HA3 := Lib.hid (HA2.out.below hb3)
  have HR3 := Lib.hid ((hb3.block _ hs2).trans HR2.out)
  replace hs2 : w.heap.size + 1 + 1 < w3.heap.size := by have := hb3.size; omega
  clear z0 f0 z1 f1 z2 f2 o0 o3 g6 hb3 HR2 HB2 HA2
  obtain ⟨z0, f0, z1, f1, z2, f2⟩ := res_cells HR3.out
  obtain ⟨bk, off, rfl, _, h2⟩ := HA3.out.row hi
  obtain ⟨y, hy⟩ : ∃ q, l[i].2 = q := ⟨_, rfl⟩
  rw [hy] at h2 hvw
  have HY := Lib.hid hy
  have hwy : IntKind.u32.wrap (y : Int) = (y : Int) := by rw [IntKind.wrap_u32]; omega
  clear hy hvw H4
  go_wp2_with fail
  have hbk : bk < w3.heap.size := World.block_lt_of_cell? _ _ h2
  go_cut [6] (fun s6 wx => ∃ u, s6 = u ∧ Hid (IsRV wx u (cut l K) ∧ Below w.heap.size w wx ∧ wx.cell? ⟨w.heap.size + 1 + 1, 0, none⟩ = some (.int .i64 0) ∧ wx.cell? ⟨w.heap.size + 1 + 1, 1, none⟩ = some (.int .u32 y) ∧ wx.cell? ⟨w.heap.size + 1 + 1, 2, none⟩ = some (.slice none 0 0)))
  case first =>
    go_region_with (first
        | (go_at_call 20; refine (H3.out _ (HA3.out.keep ?_)).mono ?_; (with_reducible exact keep0 w3); rintro e w5 ⟨u, rfl, hM5, hb5⟩; obtain ⟨hz5, hc5⟩ := keep_below hb5 (keep0 w3); obtain ⟨_, hf5⟩ := fkeep_below hb5 (fkeep0 w3); have HM5 := Lib.hid hM5; clear hM5)
        | fail)
    all_goals
      go_wp2_with fail
      go_meet
      refine ⟨_, rfl, Lib.hid ⟨IsRV.turned HM5.out (Below.refl _ _) hs2 _ _ _, ?_, ?_, ?_, ?_⟩⟩
      · exact below_set3 (below_then (below_then HB3.out (below_drew w3)) hb5) (by omega) _ _ _
      · simp [go_sem, hc5, hs2, z0]
      · simp [go_sem, hc5, hs2, z1]
      · simp [go_sem, hc5, hs2, z2]
  case rest =>
    obtain ⟨u, rfl, HR⟩ := hcut
    obtain ⟨r1, r2, r3, r4, r5⟩ := HR.out
    have HR1 := Lib.hid (And.intro r1 r2)
    clear r1 r2
    go_wp2
    refine bodyPost_ret (v := .tuple #[u6, .agg #[.int .i64 0, .int .u32 y, .slice none 0 0]]) ?_ rfl ⟨u6, by rw [HY.out]; rfl, HR1.out.1, HR1.out.2⟩
    simp [results, Tryd.results31, go_sem, r3, r4, r5]

set_option maxRecDepth 20000 in
set_option maxHeartbeats 4000000 in
theorem pDone_full (c : Cf) (A : Option Addr) (l : List R) (d a b v K : Nat) (ho : Wf ⟨12, a, b, v⟩) (hK : pth ⟨12, a, b, v⟩ = K) (hK64 : K < 18446744073709551616) (hl : l.length ≤ 900000) (hd : l.length ≤ d ∧ d ≤ 9223372036854775807) (hAn : A = none → l.length = 0 ∧ d = 0) (hu : Up l) (hfull : c.cap < ((mk 3 l K).length : Int)) (w : World) (h : IsR w A l) :
    Calls Tryd.prog 31 #[cfv c, .slice A l.length d, opv ⟨12, a, b, v⟩] w (DidP (l, 9, 0) w) := by
  have H2 := Lib.hid (fun W hA => rFind_any A l d (by omega) K W hA)
  have HPT := Lib.hid (pPath_any ⟨12, a, b, v⟩ ho)
  rw [hK] at HPT
  obtain ⟨fi, hfi⟩ : ∃ f, fnd l K = f := ⟨_, rfl⟩
  rw [hfi] at H2
  have H3 := Lib.hid (fun W hA => pMade_any A l d hd hAn hl hu K hK64 W hA)
  have hlm := (len_mk 3 l K hu).1
  have hum := up_mk 3 l K hu
  generalize mk 3 l K = x at *
  have HD := Lib.hid (And.intro hd hAn)
  have HA := Lib.hid h
  unfold cfv opv at *
  simp only at *
  obtain ⟨N, hN⟩ : ∃ N, l.length = N := ⟨_, rfl⟩
  have HN := Lib.hid hN
  rw [hN] at hl H2 HD H3 ⊢
  clear hN h hfi hK hd hAn ho hu
  go_enter Tryd.func31, Tryd.ntmps31
  go_wp2_with fail
  obtain ⟨W0, hW⟩ : ∃ W0, W0 = ((w.alloc (.cells #[.int .u8 c.obj, .int .i64 c.inst, .int .i64 c.thr, .int .u8 c.kind, .int .i64 c.str, .int .i64 c.bits, .int .i64 c.cap, .int .i64 c.node, .int .i64 c.bat, .int .i64 c.chunk, .int .u64 c.lim, .int .u64 c.most] 33)).alloc (.cells #[.int .u8 12, .int .u32 a, .int .u32 b, .int .u32 v] 35)).alloc (.cells #[.int .i64 0, .int .u32 0, .slice none 0 0] 29) := ⟨_, rfl⟩
  have hb0 : Below w.heap.size w W0 := by rw [hW]; exact below_three _ _ _ _
  rw [← hW]
  have o0 : W0.cell? ⟨w.heap.size + 1, 0, none⟩ = some (.int .u8 12) := by rw [hW]; simp [go_sem]
  have o3 : W0.cell? ⟨w.heap.size + 1, 3, none⟩ = some (.int .u32 v) := by rw [hW]; simp [go_sem]
  have g6 : W0.cell? ⟨w.heap.size, 6, none⟩ = some (.int .i64 c.cap) := by rw [hW]; simp [go_sem]
  have HRES : W0.heap[w.heap.size + 1 + 1]? = some (.cells #[.int .i64 0, .int .u32 0, .slice none 0 0] 29 (0, 0)) := by
    rw [hW]
    exact heap_alloc_new ((w.alloc (.cells #[.int .u8 c.obj, .int .i64 c.inst, .int .i64 c.thr, .int .u8 c.kind, .int .i64 c.str, .int .i64 c.bits, .int .i64 c.cap, .int .i64 c.node, .int .i64 c.bat, .int .i64 c.chunk, .int .u64 c.lim, .int .u64 c.most] 33)).alloc (.cells #[.int .u8 12, .int .u32 a, .int .u32 b, .int .u32 v] 35)) _ |> fun h => by simpa using h
  have hs0 : w.heap.size + 3 = W0.heap.size := by rw [hW]; simp
  clear hW
  refine (HPT.out _).mono ?_
  rintro e w1 ⟨rfl, hb1⟩
  go_wp2_with fail
  refine (H2.out _ (HA.out.below (below_then hb0 hb1))).mono ?_
  rintro e w2 ⟨rfl, hb2⟩
  have hb12 := below_then hb1 hb2
  replace o0 := (hb12.cell (by show w.heap.size + 1 < _; omega)).trans o0
  replace o3 := (hb12.cell (by show w.heap.size + 1 < _; omega)).trans o3
  replace g6 := (hb12.cell (by show w.heap.size < _; omega)).trans g6
  have HR2 := Lib.hid ((hb12.block _ (by omega)).trans HRES)
  have hs2 : w.heap.size + 1 + 1 < w2.heap.size := by have := hb12.size; omega
  have HB2 := Lib.hid (below_then hb0 hb12)
  have HA2 := Lib.hid (HA.out.below HB2.out)
  clear hb1 hb2 hb12 hb0 HRES hs0
  obtain ⟨z0, f0, z1, f1, z2, f2⟩ := res_cells HR2.out
  go_wp2_with fail
  refine (H3.out _ HA2.out).mono ?_
  rintro e w3 ⟨v3, rfl, hM3, hb3⟩
  obtain ⟨A3, d3, rfl, hd3, hA3, hI3⟩ := hM3
  have HB3 := Lib.hid (below_then HB2.out hb3)
  have HR3 := Lib.hid ((hb3.block _ hs2).trans HR2.out)
  replace o3 := (hb3.cell (by show w.heap.size + 1 < _; omega)).trans o3
  replace g6 := (hb3.cell (by show w.heap.size < _; omega)).trans g6
  replace hs2 : w.heap.size + 1 + 1 < w3.heap.size := by have := hb3.size; omega
  clear z0 f0 z1 f1 z2 f2 o0 hb3 HR2 HB2 HA2
  obtain ⟨z0, f0, z1, f1, z2, f2⟩ := res_cells HR3.out
  have hc2 : (x.length : Int) > c.cap := by omega
  go_wp2
  refine bodyPost_ret (v := .tuple #[.slice A N d, .agg #[.int .i64 9, .int .u32 0, .slice none 0 0]]) ?_ rfl ⟨_, rfl, IsRV.old (by rw [HN.out]; exact HD.out.1) (by rw [HN.out]; exact HD.out.2) HN.out HA.out ?_, ?_⟩
  · simp [results, Tryd.results31, go_sem, z0, z1, z2]
  · exact below_set3 HB3.out (by omega) _ _ _
  · exact below_set3 HB3.out (by omega) _ _ _

set_option maxRecDepth 20000 in
set_option maxHeartbeats 4000000 in
theorem pDone_set (c : Cf) (A : Option Addr) (l : List R) (d a b v K : Nat) (ho : Wf ⟨12, a, b, v⟩) (hK : pth ⟨12, a, b, v⟩ = K) (hK64 : K < 18446744073709551616) (hl : l.length ≤ 900000) (hd : l.length ≤ d ∧ d ≤ 9223372036854775807) (hAn : A = none → l.length = 0 ∧ d = 0) (hu : Up l) (hcap : ¬ c.cap < ((mk 3 l K).length : Int)) (i : Nat) (hi : i < (mk 3 l K).length) (hfx : fnd (mk 3 l K) K = (i : Nat)) (hvw : ((mk 3 l K)[i]).2 ≤ 2147483648) (w : World) (h : IsR w A l) :
    Calls Tryd.prog 31 #[cfv c, .slice A l.length d, opv ⟨12, a, b, v⟩] w (DidP (put (mk 3 l K) K (v + 1), 0, ((((mk 3 l K)[i]).2 : Nat) : Int)) w) := by
  have H2 := Lib.hid (fun W hA => rFind_any A l d (by omega) K W hA)
  have HPT := Lib.hid (pPath_any ⟨12, a, b, v⟩ ho)
  rw [hK] at HPT
  obtain ⟨fi, hfi⟩ : ∃ f, fnd l K = f := ⟨_, rfl⟩
  rw [hfi] at H2
  have H3 := Lib.hid (fun W hA => pMade_any A l d hd hAn hl hu K hK64 W hA)
  have hlm := (len_mk 3 l K hu).1
  have hum := up_mk 3 l K hu
  generalize mk 3 l K = x at *
  have HD := Lib.hid (And.intro hd hAn)
  have HA := Lib.hid h
  unfold cfv opv at *
  simp only at *
  obtain ⟨N, hN⟩ : ∃ N, l.length = N := ⟨_, rfl⟩
  have HN := Lib.hid hN
  rw [hN] at hl H2 HD H3 ⊢
  have hvv : v < 4294967296 := ho.2.2.2
  have HFX := Lib.hid (fun B e W hA => rFind_any B x e (by omega) K W hA)
  rw [hfx] at HFX
  have HWX := Lib.hid (fun B e W hA => rWith_up B x e (by omega) hum K (v + 1) W hA)
  clear hN h hfi hfx hK hd hAn ho hu hum
  go_enter Tryd.func31, Tryd.ntmps31
  go_wp2_with fail
  obtain ⟨W0, hW⟩ : ∃ W0, W0 = ((w.alloc (.cells #[.int .u8 c.obj, .int .i64 c.inst, .int .i64 c.thr, .int .u8 c.kind, .int .i64 c.str, .int .i64 c.bits, .int .i64 c.cap, .int .i64 c.node, .int .i64 c.bat, .int .i64 c.chunk, .int .u64 c.lim, .int .u64 c.most] 33)).alloc (.cells #[.int .u8 12, .int .u32 a, .int .u32 b, .int .u32 v] 35)).alloc (.cells #[.int .i64 0, .int .u32 0, .slice none 0 0] 29) := ⟨_, rfl⟩
  have hb0 : Below w.heap.size w W0 := by rw [hW]; exact below_three _ _ _ _
  rw [← hW]
  have o0 : W0.cell? ⟨w.heap.size + 1, 0, none⟩ = some (.int .u8 12) := by rw [hW]; simp [go_sem]
  have o3 : W0.cell? ⟨w.heap.size + 1, 3, none⟩ = some (.int .u32 v) := by rw [hW]; simp [go_sem]
  have g6 : W0.cell? ⟨w.heap.size, 6, none⟩ = some (.int .i64 c.cap) := by rw [hW]; simp [go_sem]
  have HRES : W0.heap[w.heap.size + 1 + 1]? = some (.cells #[.int .i64 0, .int .u32 0, .slice none 0 0] 29 (0, 0)) := by
    rw [hW]
    exact heap_alloc_new ((w.alloc (.cells #[.int .u8 c.obj, .int .i64 c.inst, .int .i64 c.thr, .int .u8 c.kind, .int .i64 c.str, .int .i64 c.bits, .int .i64 c.cap, .int .i64 c.node, .int .i64 c.bat, .int .i64 c.chunk, .int .u64 c.lim, .int .u64 c.most] 33)).alloc (.cells #[.int .u8 12, .int .u32 a, .int .u32 b, .int .u32 v] 35)) _ |> fun h => by simpa using h
  have hs0 : w.heap.size + 3 = W0.heap.size := by rw [hW]; simp
  clear hW
  refine (HPT.out _).mono ?_
  rintro e w1 ⟨rfl, hb1⟩
  go_wp2_with fail
  refine (H2.out _ (HA.out.below (below_then hb0 hb1))).mono ?_
  rintro e w2 ⟨rfl, hb2⟩
  have hb12 := below_then hb1 hb2
  replace o0 := (hb12.cell (by show w.heap.size + 1 < _; omega)).trans o0
  replace o3 := (hb12.cell (by show w.heap.size + 1 < _; omega)).trans o3
  replace g6 := (hb12.cell (by show w.heap.size < _; omega)).trans g6
  have HR2 := Lib.hid ((hb12.block _ (by omega)).trans HRES)
  have hs2 : w.heap.size + 1 + 1 < w2.heap.size := by have := hb12.size; omega
  have HB2 := Lib.hid (below_then hb0 hb12)
  have HA2 := Lib.hid (HA.out.below HB2.out)
  clear hb1 hb2 hb12 hb0 HRES hs0
  obtain ⟨z0, f0, z1, f1, z2, f2⟩ := res_cells HR2.out
  go_wp2_with fail
  refine (H3.out _ HA2.out).mono ?_
  rintro e w3 ⟨v3, rfl, hM3, hb3⟩
  obtain ⟨A3, d3, rfl, hd3, hA3, hI3⟩ := hM3
  have HB3 := Lib.hid (below_then HB2.out hb3)
  have HR3 := Lib.hid ((hb3.block _ hs2).trans HR2.out)
  replace o3 := (hb3.cell (by show w.heap.size + 1 < _; omega)).trans o3
  replace g6 := (hb3.cell (by show w.heap.size < _; omega)).trans g6
  replace hs2 : w.heap.size + 1 + 1 < w3.heap.size := by have := hb3.size; omega
  clear z0 f0 z1 f1 z2 f2 o0 hb3 HR2 HB2 HA2
  obtain ⟨z0, f0, z1, f1, z2, f2⟩ := res_cells HR3.out
  obtain ⟨y, hy⟩ : ∃ q, x[i].2 = q := ⟨_, rfl⟩
  rw [hy] at hvw
  have HY := Lib.hid hy
  have HI3 := Lib.hid hI3
  obtain ⟨M, hM⟩ : ∃ M, x.length = M := ⟨_, rfl⟩
  have HM := Lib.hid hM
  have hix := hi
  rw [hM] at hi hcap HFX HWX ⊢
  have hc2 : ¬ (M : Int) > c.cap := by omega
  have i1 : (0 : Int) ≤ (i : Int) := by omega
  have i2 : (i : Int) < (M : Int) := by omega
  have hwy : IntKind.u32.wrap (y : Int) = (y : Int) := by rw [IntKind.wrap_u32]; omega
  have hwv : IntKind.u64.wrap (v : Int) = (v : Int) := by rw [IntKind.wrap_u64]; omega
  have hwv2 : IntKind.u64.wrap ((v : Int) + 1) = ((v + 1 : Nat) : Int) := by rw [IntKind.wrap_u64]; omega
  clear hM hI3 hd3 hA3
  go_wp2_with fail
  refine (HFX.out _ _ _ HI3.out).mono ?_
  rintro e w4 ⟨rfl, hb4⟩
  have HI4 := Lib.hid (HI3.out.below hb4)
  obtain ⟨bk, off, rfl, _, h2⟩ := HI4.out.row hix
  rw [hy] at h2
  replace o3 := (hb4.cell (by show w.heap.size + 1 < _; omega)).trans o3
  have HB4 := Lib.hid (below_then HB3.out hb4)
  have HR4 := Lib.hid ((hb4.block _ hs2).trans HR3.out)
  replace hs2 : w.heap.size + 1 + 1 < w4.heap.size := by have := hb4.size; omega
  clear z0 f0 z1 f1 z2 f2 g6 hb4 hy
  go_wp2_with fail
  try rw [show ((v : Int) + 1) = ((v + 1 : Nat) : Int) by omega]
  refine (HWX.out _ _ _ HI4.out).mono ?_
  rintro e w5 ⟨v5, rfl, hM5, hb5⟩
  have HM5 := Lib.hid hM5
  have HR5 := Lib.hid ((hb5.block _ hs2).trans HR4.out)
  obtain ⟨z0, f0, z1, f1, z2, f2⟩ := res_cells HR5.out
  have HB5 := Lib.hid (below_then HB4.out hb5)
  clear hM5 o3
  go_wp2
  refine bodyPost_ret (v := .tuple #[v5, .agg #[.int .i64 0, .int .u32 y, .slice none 0 0]]) ?_ rfl ⟨v5, by rw [HY.out]; rfl, IsRV.turned HM5.out (Below.refl _ _) hs2 _ _ _, ?_⟩
  · simp [results, Tryd.results31, go_sem, z0, z1, z2]
  · exact below_set3 HB5.out (by omega) _ _ _
end Go.Proofs.YtljdkjjjnlcflaaDoor
