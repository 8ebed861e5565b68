/- The document's own answers on an index: what an operation that fits does. -/
import Derived.Test.YtohllaolbebogaaDoorOrReads
import Derived.Deep.RegionWith
import Derived.Deep.DeepCutAuto
namespace Go.Proofs.YtohllaolbebogaaDoor
open Go.RowKit Tb Pt Opn

/-- What an operation does that fits: the rows, the code, the word, the answer's rows. -/
def doneO (cap : Nat) (l : List R) (k a b : Nat) : List R × Int × Int × List R :=
  if 6 ≤ k then (l, readR l k a b)
  else if k = 4 then (match Tb.get l a with
    | some v => (put l a b, 0, (((v + 1) % 4294967296 : Nat) : Int), [])
    | none => if cap ≤ l.length then (l, 9, 0, []) else (put l a b, 0, 0, []))
  else (match Tb.get l a with
    | some v => (cut l a, 0, (((v + 1) % 4294967296 : Nat) : Int), [])
    | none => (l, 6, 0, []))
/-- Rows that lie in no block below n. -/
def NewV (n : Nat) (r : Value) : Prop := ∀ b, r.ownBlock = some b → n ≤ b
theorem newv_nil (n : Nat) : NewV n (.slice none 0 0) := fun b h => by cases h
theorem newv_of {w : World} {B n : Nat} {v : Value} {l : List R} (h : MadeX w B 37 2 rowL v l) (hn : n ≤ B) : NewV n v := fun b hb => Nat.le_trans hn (MadeX.lt h b hb).1
theorem newv_len {n : Nat} {A : Option Addr} {a b c d : Nat} (h : NewV n (.slice A a b)) : NewV n (.slice A c d) := fun g hg => h g (by cases A <;> exact hg)
/-- Two answers: rows, and an answer with rows. -/
def Did5 (s : List R × Int × Int × List R) (w : World) (e : Ending) (w' : World) : Prop := ∃ u r, e = .returned (.tuple #[u, .agg #[.int .i64 s.2.1, .int .u32 s.2.2.1, r]]) ∧ IsRV w' u s.1 ∧ IsRV w' r s.2.2.2 ∧ NewV w.heap.size r ∧ Below w.heap.size w w'
theorem isrv_nil (w : World) : IsRV w (.slice none 0 0) [] := ⟨none, 0, rfl, ⟨Nat.le_refl _, by omega⟩, fun _ => ⟨rfl, rfl⟩, IsL.nil _ _ _ _⟩


set_option maxRecDepth 20000 in
set_option maxHeartbeats 4000000 in
theorem rODone_get (c : Cf) (A : Option Addr) (l : List R) (d a b v : Nat) (hd : l.length ≤ d ∧ d ≤ 9223372036854775807) (hAn : A = none → l.length = 0 ∧ d = 0) (hl : l.length ≤ 1000000) (hv : ∀ x ∈ l, OrOk x) (ha : a < 4294967296) (hb : b < 4294967296) (w : World) (h : IsR w A l) :
    Calls Tryd.prog 33 #[cfv c, .slice A l.length d, opv ⟨6, a, b, v⟩] w (Did5 (l, readR l 6 a b) w) := by
  have HA := Lib.hid h
  have HD := Lib.hid (And.intro hd hAn)
  have HG := Lib.hid (rReads_get A l d a b v hl hv ha hb)
  unfold cfv opv
  simp only
  generalize readR l 6 a b = s at *
  obtain ⟨N, hN⟩ : ∃ N, l.length = N := ⟨_, rfl⟩
  rw [hN] at hl HG HD ⊢
  have HN := Lib.hid hN
  clear hN h hd hAn hv hl ha hb
  go_enter Tryd.func33, Tryd.ntmps33
  go_wp2_with fail
  obtain ⟨W0, hW⟩ : ∃ W0, W0 = ((w.alloc (.cells #[.int .u8 c.obj, .int .i64 c.inst, .int .i64 c.thr, .int .u8 c.kind, .int .i64 c.str, .int .i64 c.bits, .int .i64 c.cap, .int .i64 c.node, .int .i64 c.bat, .int .i64 c.chunk, .int .u64 c.lim, .int .u64 c.most] 32)).alloc (.cells #[.int .u8 6, .int .u32 a, .int .u32 b, .int .u32 v] 34)).alloc (.cells #[.int .i64 0, .int .u32 0, .slice none 0 0] 27) := ⟨_, rfl⟩
  have hb0 : Below w.heap.size w W0 := by rw [hW]; exact below_three _ _ _ _
  have HRES : W0.heap[w.heap.size + 1 + 1]? = some (.cells #[.int .i64 0, .int .u32 0, .slice none 0 0] 27 (0, 0)) := by
    rw [hW]
    exact heap_alloc_new ((w.alloc (.cells #[.int .u8 c.obj, .int .i64 c.inst, .int .i64 c.thr, .int .u8 c.kind, .int .i64 c.str, .int .i64 c.bits, .int .i64 c.cap, .int .i64 c.node, .int .i64 c.bat, .int .i64 c.chunk, .int .u64 c.lim, .int .u64 c.most] 32)).alloc (.cells #[.int .u8 6, .int .u32 a, .int .u32 b, .int .u32 v] 34)) _ |> fun h => by simpa using h
  have hs : W0.heap.size = w.heap.size + 3 := by rw [hW]; simp
  rw [← hW]
  clear hW
  refine (HG.out _ (HA.out.below hb0)).mono ?_
  rintro e w1 ⟨u, rfl, hM, hb1⟩
  have hsz := hb1.size
  obtain ⟨r0, f0, r1, f1, r2, f2⟩ := res_cells ((hb1.block _ (by omega)).trans HRES)
  have hbw := below_then hb0 hb1
  have HM := Lib.hid (IsRV.turned (t := w.heap.size + 1 + 1) hM (Below.refl _ _) (by omega))
  have HNV := Lib.hid (newv_of hM (show w.heap.size ≤ W0.heap.size by omega))
  have HO := Lib.hid (fun wx hb => IsRV.old (wx := wx) (by rw [HN.out]; exact HD.out.1) (by rw [HN.out]; exact HD.out.2) HN.out HA.out hb)
  have HBW := Lib.hid hbw
  obtain ⟨AR, cr, rfl, _, _, _⟩ := MadeX.form rowL_len hM
  obtain ⟨x, y, ρ⟩ := s
  clear hM HRES hb1 hbw hb0 hs HG hsz
  simp only at HM ⊢
  obtain ⟨M, hM⟩ : ∃ M, ρ.length = M := ⟨_, rfl⟩
  rw [hM] at HM ⊢
  clear hM
  go_wp2
  refine bodyPost_ret (v := .tuple #[.slice A N d, .agg #[.int .i64 x, .int .u32 y, .slice AR M cr]]) ?_ rfl ⟨_, _, rfl, HO.out _ ?_, HM.out _ _ _, newv_len HNV.out, ?_⟩
  · simp [results, Tryd.results33, go_sem, r0, r1, r2]
  · exact below_set3 HBW.out (by omega) _ _ _
  · exact below_set3 HBW.out (by omega) _ _ _

set_option maxRecDepth 20000 in
set_option maxHeartbeats 4000000 in
theorem rODone_floor (c : Cf) (A : Option Addr) (l : List R) (d a b v : Nat) (hd : l.length ≤ d ∧ d ≤ 9223372036854775807) (hAn : A = none → l.length = 0 ∧ d = 0) (hl : l.length ≤ 1000000) (hv : ∀ x ∈ l, OrOk x) (ha : a < 4294967296) (hb : b < 4294967296) (w : World) (h : IsR w A l) :
    Calls Tryd.prog 33 #[cfv c, .slice A l.length d, opv ⟨7, a, b, v⟩] w (Did5 (l, readR l 7 a b) w) := by
  have HA := Lib.hid h
  have HD := Lib.hid (And.intro hd hAn)
  have HG := Lib.hid (rReads_floor A l d a b v hl hv ha hb)
  unfold cfv opv
  simp only
  generalize readR l 7 a b = s at *
  obtain ⟨N, hN⟩ : ∃ N, l.length = N := ⟨_, rfl⟩
  rw [hN] at hl HG HD ⊢
  have HN := Lib.hid hN
  clear hN h hd hAn hv hl ha hb
  go_enter Tryd.func33, Tryd.ntmps33
  go_wp2_with fail
  obtain ⟨W0, hW⟩ : ∃ W0, W0 = ((w.alloc (.cells #[.int .u8 c.obj, .int .i64 c.inst, .int .i64 c.thr, .int .u8 c.kind, .int .i64 c.str, .int .i64 c.bits, .int .i64 c.cap, .int .i64 c.node, .int .i64 c.bat, .int .i64 c.chunk, .int .u64 c.lim, .int .u64 c.most] 32)).alloc (.cells #[.int .u8 7, .int .u32 a, .int .u32 b, .int .u32 v] 34)).alloc (.cells #[.int .i64 0, .int .u32 0, .slice none 0 0] 27) := ⟨_, rfl⟩
  have hb0 : Below w.heap.size w W0 := by rw [hW]; exact below_three _ _ _ _
  have HRES : W0.heap[w.heap.size + 1 + 1]? = some (.cells #[.int .i64 0, .int .u32 0, .slice none 0 0] 27 (0, 0)) := by
    rw [hW]
    exact heap_alloc_new ((w.alloc (.cells #[.int .u8 c.obj, .int .i64 c.inst, .int .i64 c.thr, .int .u8 c.kind, .int .i64 c.str, .int .i64 c.bits, .int .i64 c.cap, .int .i64 c.node, .int .i64 c.bat, .int .i64 c.chunk, .int .u64 c.lim, .int .u64 c.most] 32)).alloc (.cells #[.int .u8 7, .int .u32 a, .int .u32 b, .int .u32 v] 34)) _ |> fun h => by simpa using h
  have hs : W0.heap.size = w.heap.size + 3 := by rw [hW]; simp
  rw [← hW]
  clear hW
  refine (HG.out _ (HA.out.below hb0)).mono ?_
  rintro e w1 ⟨u, rfl, hM, hb1⟩
  have hsz := hb1.size
  obtain ⟨r0, f0, r1, f1, r2, f2⟩ := res_cells ((hb1.block _ (by omega)).trans HRES)
  have hbw := below_then hb0 hb1
  have HM := Lib.hid (IsRV.turned (t := w.heap.size + 1 + 1) hM (Below.refl _ _) (by omega))
  have HNV := Lib.hid (newv_of hM (show w.heap.size ≤ W0.heap.size by omega))
  have HO := Lib.hid (fun wx hb => IsRV.old (wx := wx) (by rw [HN.out]; exact HD.out.1) (by rw [HN.out]; exact HD.out.2) HN.out HA.out hb)
  have HBW := Lib.hid hbw
  obtain ⟨AR, cr, rfl, _, _, _⟩ := MadeX.form rowL_len hM
  obtain ⟨x, y, ρ⟩ := s
  clear hM HRES hb1 hbw hb0 hs HG hsz
  simp only at HM ⊢
  obtain ⟨M, hM⟩ : ∃ M, ρ.length = M := ⟨_, rfl⟩
  rw [hM] at HM ⊢
  clear hM
  go_wp2
  refine bodyPost_ret (v := .tuple #[.slice A N d, .agg #[.int .i64 x, .int .u32 y, .slice AR M cr]]) ?_ rfl ⟨_, _, rfl, HO.out _ ?_, HM.out _ _ _, newv_len HNV.out, ?_⟩
  · simp [results, Tryd.results33, go_sem, r0, r1, r2]
  · exact below_set3 HBW.out (by omega) _ _ _
  · exact below_set3 HBW.out (by omega) _ _ _

set_option maxRecDepth 20000 in
set_option maxHeartbeats 4000000 in
theorem rODone_scan (c : Cf) (A : Option Addr) (l : List R) (d a b v : Nat) (hd : l.length ≤ d ∧ d ≤ 9223372036854775807) (hAn : A = none → l.length = 0 ∧ d = 0) (hl : l.length ≤ 1000000) (hv : ∀ x ∈ l, OrOk x) (ha : a < 4294967296) (hb : b < 4294967296) (w : World) (h : IsR w A l) :
    Calls Tryd.prog 33 #[cfv c, .slice A l.length d, opv ⟨8, a, b, v⟩] w (Did5 (l, readR l 8 a b) w) := by
  have HA := Lib.hid h
  have HD := Lib.hid (And.intro hd hAn)
  have HG := Lib.hid (rReads_scan A l d a b v hl hv ha hb)
  unfold cfv opv
  simp only
  generalize readR l 8 a b = s at *
  obtain ⟨N, hN⟩ : ∃ N, l.length = N := ⟨_, rfl⟩
  rw [hN] at hl HG HD ⊢
  have HN := Lib.hid hN
  clear hN h hd hAn hv hl ha hb
  go_enter Tryd.func33, Tryd.ntmps33
  go_wp2_with fail
  obtain ⟨W0, hW⟩ : ∃ W0, W0 = ((w.alloc (.cells #[.int .u8 c.obj, .int .i64 c.inst, .int .i64 c.thr, .int .u8 c.kind, .int .i64 c.str, .int .i64 c.bits, .int .i64 c.cap, .int .i64 c.node, .int .i64 c.bat, .int .i64 c.chunk, .int .u64 c.lim, .int .u64 c.most] 32)).alloc (.cells #[.int .u8 8, .int .u32 a, .int .u32 b, .int .u32 v] 34)).alloc (.cells #[.int .i64 0, .int .u32 0, .slice none 0 0] 27) := ⟨_, rfl⟩
  have hb0 : Below w.heap.size w W0 := by rw [hW]; exact below_three _ _ _ _
  have HRES : W0.heap[w.heap.size + 1 + 1]? = some (.cells #[.int .i64 0, .int .u32 0, .slice none 0 0] 27 (0, 0)) := by
    rw [hW]
    exact heap_alloc_new ((w.alloc (.cells #[.int .u8 c.obj, .int .i64 c.inst, .int .i64 c.thr, .int .u8 c.kind, .int .i64 c.str, .int .i64 c.bits, .int .i64 c.cap, .int .i64 c.node, .int .i64 c.bat, .int .i64 c.chunk, .int .u64 c.lim, .int .u64 c.most] 32)).alloc (.cells #[.int .u8 8, .int .u32 a, .int .u32 b, .int .u32 v] 34)) _ |> fun h => by simpa using h
  have hs : W0.heap.size = w.heap.size + 3 := by rw [hW]; simp
  rw [← hW]
  clear hW
  refine (HG.out _ (HA.out.below hb0)).mono ?_
  rintro e w1 ⟨u, rfl, hM, hb1⟩
  have hsz := hb1.size
  obtain ⟨r0, f0, r1, f1, r2, f2⟩ := res_cells ((hb1.block _ (by omega)).trans HRES)
  have hbw := below_then hb0 hb1
  have HM := Lib.hid (IsRV.turned (t := w.heap.size + 1 + 1) hM (Below.refl _ _) (by omega))
  have HNV := Lib.hid (newv_of hM (show w.heap.size ≤ W0.heap.size by omega))
  have HO := Lib.hid (fun wx hb => IsRV.old (wx := wx) (by rw [HN.out]; exact HD.out.1) (by rw [HN.out]; exact HD.out.2) HN.out HA.out hb)
  have HBW := Lib.hid hbw
  obtain ⟨AR, cr, rfl, _, _, _⟩ := MadeX.form rowL_len hM
  obtain ⟨x, y, ρ⟩ := s
  clear hM HRES hb1 hbw hb0 hs HG hsz
  simp only at HM ⊢
  obtain ⟨M, hM⟩ : ∃ M, ρ.length = M := ⟨_, rfl⟩
  rw [hM] at HM ⊢
  clear hM
  go_wp2
  refine bodyPost_ret (v := .tuple #[.slice A N d, .agg #[.int .i64 x, .int .u32 y, .slice AR M cr]]) ?_ rfl ⟨_, _, rfl, HO.out _ ?_, HM.out _ _ _, newv_len HNV.out, ?_⟩
  · simp [results, Tryd.results33, go_sem, r0, r1, r2]
  · exact below_set3 HBW.out (by omega) _ _ _
  · exact below_set3 HBW.out (by omega) _ _ _

set_option maxRecDepth 20000 in
set_option maxHeartbeats 4000000 in
theorem rODone_turn (c : Cf) (A : Option Addr) (l : List R) (d a b v : Nat) (hl : l.length ≤ 1000000) (ha : a < 4294967296) (hb : b < 4294967296) (hu : Up l) (i : Nat) (hi : i < l.length) (hfi : fnd l a = (i : Nat)) (hval : l[i].2 ≤ 2147483647) (w : World) (h : IsR w A l) :
    Calls Tryd.prog 33 #[cfv c, .slice A l.length d, opv ⟨4, a, b, v⟩] w (Did5 (put l a b, 0, (((l[i].2 + 1) % 4294967296 : Nat) : Int), []) w) := by
  have H2 := Lib.hid (fun W hA => rFind_any A l d (by omega) a W hA)
  rw [hfi] at H2
  have hu' := hu
  have H3 := Lib.hid (fun W hA => rWith_up A l d hl hu' a b W hA)
  have H4 := Lib.hid (rWord_any l[i].2 (by omega))
  have HCD := Lib.hid (Nat.le_refl l.length)
  have i2' : (i : Int) < (l.length : Int) := by omega
  have HVW := Lib.hid (show IntKind.u64.wrap (b : Int) = b by rw [IntKind.wrap_u64]; omega)
  have HA := Lib.hid h
  unfold cfv opv
  simp only
  obtain ⟨N, hN⟩ : ∃ N, l.length = N := ⟨_, rfl⟩
  rw [hN] at hl H2 H3 HCD i2' ⊢
  have HN := Lib.hid hN
  have hwa : IntKind.u64.wrap (a : Int) = (a : Int) := by rw [IntKind.wrap_u64]; omega
  clear hN h hfi
  go_enter Tryd.func33, Tryd.ntmps33
  go_wp2_with fail
  obtain ⟨W0, hW⟩ : ∃ W0, W0 = ((w.alloc (.cells #[.int .u8 c.obj, .int .i64 c.inst, .int .i64 c.thr, .int .u8 c.kind, .int .i64 c.str, .int .i64 c.bits, .int .i64 c.cap, .int .i64 c.node, .int .i64 c.bat, .int .i64 c.chunk, .int .u64 c.lim, .int .u64 c.most] 32)).alloc (.cells #[.int .u8 4, .int .u32 a, .int .u32 b, .int .u32 v] 34)).alloc (.cells #[.int .i64 0, .int .u32 0, .slice none 0 0] 27) := ⟨_, rfl⟩
  have hb0 : Below w.heap.size w W0 := by rw [hW]; exact below_three _ _ _ _
  rw [← hW]
  have o0 : W0.cell? ⟨w.heap.size + 1, 0, none⟩ = some (.int .u8 4) := by rw [hW]; simp [go_sem]
  have o2 : W0.cell? ⟨w.heap.size + 1, 2, none⟩ = some (.int .u32 b) := by rw [hW]; simp [go_sem]
  have g6 : W0.cell? ⟨w.heap.size, 6, none⟩ = some (.int .i64 c.cap) := by rw [hW]; simp [go_sem]
  have z0 : W0.cell? ⟨w.heap.size + 1 + 1, 0, none⟩ = some (.int .i64 0) := by rw [hW]; simp [go_sem]
  have f0 : W0.frozen? ⟨w.heap.size + 1 + 1, 0, none⟩ = false := by rw [hW]; simp [go_sem]
  have z1 : W0.cell? ⟨w.heap.size + 1 + 1, 1, none⟩ = some (.int .u32 0) := by rw [hW]; simp [go_sem]
  have f1 : W0.frozen? ⟨w.heap.size + 1 + 1, 1, none⟩ = false := by rw [hW]; simp [go_sem]
  have z2 : W0.cell? ⟨w.heap.size + 1 + 1, 2, none⟩ = some (.slice none 0 0) := by rw [hW]; simp [go_sem]
  have f2 : W0.frozen? ⟨w.heap.size + 1 + 1, 2, none⟩ = false := by rw [hW]; simp [go_sem]
  have hs : w.heap.size + 1 + 1 < W0.heap.size := by rw [hW]; simp
  have hs1 : w.heap.size + 1 < W0.heap.size := by omega
  clear hW
  have HA1 := Lib.hid (HA.out.below hb0)
  refine (H2.out _ HA1.out).mono ?_
  rintro e w2 ⟨rfl, hb1⟩
  have HA2 := Lib.hid (HA1.out.below hb1)
  have o0' := (hb1.cell hs1).trans o0
  have o2' := (hb1.cell hs1).trans o2
  have g6' := (hb1.cell (Nat.lt_of_succ_lt hs1)).trans g6
  replace z0 := (hb1.cell hs).trans z0
  replace f0 := (hb1.frozen hs).trans f0
  replace z1 := (hb1.cell hs).trans z1
  replace f1 := (hb1.frozen hs).trans f1
  replace z2 := (hb1.cell hs).trans z2
  replace f2 := (hb1.frozen hs).trans f2
  have hs2 : w.heap.size + 1 + 1 < w2.heap.size := Nat.lt_of_lt_of_le hs hb1.size
  have hs3 : w.heap.size + 1 < w2.heap.size := by omega
  have HB2 := Lib.hid (below_then hb0 hb1)
  clear hb1 hb0 o0 o2 g6
  have i1 : (0 : Int) ≤ (i : Int) := by omega
  obtain ⟨bk, off, rfl, _, h2⟩ := HA2.out.row hi
  have H4i := Lib.hid H4.out
  obtain ⟨q, hq⟩ : ∃ q, l[i].2 = q := ⟨_, rfl⟩
  rw [hq] at h2 H4i
  obtain ⟨y, hy⟩ : ∃ y, (q + 1) % 4294967296 = y := ⟨_, rfl⟩
  rw [hy] at H4i
  have HY := Lib.hid (And.intro hq hy)
  clear hq hy hval H4
  go_wp2_with fail
  have hbk : bk < w2.heap.size := World.block_lt_of_cell? _ _ h2
  go_cut [6] (fun s6 wx => ∃ u, s6 = u ∧ Hid (IsRV wx u (put l a b) ∧ Below w.heap.size w wx ∧ wx.cell? ⟨w.heap.size + 1 + 1, 0, none⟩ = some (.int .i64 0) ∧ wx.cell? ⟨w.heap.size + 1 + 1, 1, none⟩ = some (.int .u32 y) ∧ wx.cell? ⟨w.heap.size + 1 + 1, 2, none⟩ = some (.slice none 0 0)))
  case first =>
    go_region_with (first
        | (go_at_call 51; (with_reducible refine (H4i.out _).mono ?_); rintro e w4 ⟨rfl, hb4⟩; first | (obtain ⟨hz4, hc4⟩ := keep_below hb4 (keep0 w2); obtain ⟨_, hf4⟩ := fkeep_below hb4 (fkeep0 w2)) | (obtain ⟨hz4, hc4⟩ := keep_below hb4 (keep_below hb5 (keep0 w2)); obtain ⟨_, hf4⟩ := fkeep_below hb4 (fkeep_below hb5 (fkeep0 w2))))
        | (go_at_call 50; rw [HVW.out]; refine (H3.out _ (HA2.out.keep ?_)).mono ?_; (first | with_reducible exact keep0 w2 | with_reducible exact keep_below hb4 (keep0 w2)); rintro e w5 ⟨u, rfl, hM5, hb5⟩; (first | (obtain ⟨hz5, hc5⟩ := keep_below hb5 (keep0 w2); obtain ⟨_, hf5⟩ := fkeep_below hb5 (fkeep0 w2)) | (obtain ⟨hz5, hc5⟩ := keep_below hb5 (keep_below hb4 (keep0 w2)); obtain ⟨_, hf5⟩ := fkeep_below hb5 (fkeep_below hb4 (fkeep0 w2)))); have HM5 := Lib.hid hM5; clear hM5))
    all_goals
      go_wp2_with fail
      go_meet
      refine ⟨_, rfl, Lib.hid ⟨IsRV.turned HM5.out hb4 hs2 _ _ _, ?_, ?_, ?_, ?_⟩⟩
      · exact below_set3 (below_then (below_then (below_then HB2.out (below_drew w2)) hb5) hb4) (by omega) _ _ _
      · simp [go_sem, hc4, hs2, z0]
      · simp [go_sem, hc4, hs2, z1]
      · simp [go_sem, hc4, hs2, z2]
  case rest =>
    obtain ⟨u, rfl, HR⟩ := hcut
    obtain ⟨r1, r2, r3, r4, r5⟩ := HR.out
    have HR1 := Lib.hid (And.intro r1 r2)
    clear r1 r2
    go_wp2
    refine bodyPost_ret (v := .tuple #[u6, .agg #[.int .i64 0, .int .u32 y, .slice none 0 0]]) ?_ rfl ⟨u6, _, ?_, HR1.out.1, isrv_nil _, newv_nil _, HR1.out.2⟩
    · simp [results, Tryd.results33, go_sem, r3, r4, r5]
    · rw [HY.out.1, HY.out.2]

set_option maxRecDepth 20000 in
set_option maxHeartbeats 4000000 in
theorem rODone_cut (c : Cf) (A : Option Addr) (l : List R) (d a b v : Nat) (hl : l.length ≤ 1000000) (ha : a < 4294967296) (hb : b < 4294967296) (i : Nat) (hi : i < l.length) (hfi : fnd l a = (i : Nat)) (hval : l[i].2 ≤ 2147483647) (w : World) (h : IsR w A l) :
    Calls Tryd.prog 33 #[cfv c, .slice A l.length d, opv ⟨5, a, b, v⟩] w (Did5 (cut l a, 0, (((l[i].2 + 1) % 4294967296 : Nat) : Int), []) w) := by
  have H2 := Lib.hid (fun W hA => rFind_any A l d (by omega) a W hA)
  rw [hfi] at H2
  have H3 := Lib.hid (fun W hA => rWithout_any A l d hl a W hA)
  have H4 := Lib.hid (rWord_any l[i].2 (by omega))
  have HCD := Lib.hid (Nat.le_refl l.length)
  have i2' : (i : Int) < (l.length : Int) := by omega
  have HVW := Lib.hid (show IntKind.u64.wrap (b : Int) = b by rw [IntKind.wrap_u64]; omega)
  have HA := Lib.hid h
  unfold cfv opv
  simp only
  obtain ⟨N, hN⟩ : ∃ N, l.length = N := ⟨_, rfl⟩
  rw [hN] at hl H2 H3 HCD i2' ⊢
  have HN := Lib.hid hN
  have hwa : IntKind.u64.wrap (a : Int) = (a : Int) := by rw [IntKind.wrap_u64]; omega
  clear hN h hfi
  go_enter Tryd.func33, Tryd.ntmps33
  go_wp2_with fail
  obtain ⟨W0, hW⟩ : ∃ W0, W0 = ((w.alloc (.cells #[.int .u8 c.obj, .int .i64 c.inst, .int .i64 c.thr, .int .u8 c.kind, .int .i64 c.str, .int .i64 c.bits, .int .i64 c.cap, .int .i64 c.node, .int .i64 c.bat, .int .i64 c.chunk, .int .u64 c.lim, .int .u64 c.most] 32)).alloc (.cells #[.int .u8 5, .int .u32 a, .int .u32 b, .int .u32 v] 34)).alloc (.cells #[.int .i64 0, .int .u32 0, .slice none 0 0] 27) := ⟨_, rfl⟩
  have hb0 : Below w.heap.size w W0 := by rw [hW]; exact below_three _ _ _ _
  rw [← hW]
  have o0 : W0.cell? ⟨w.heap.size + 1, 0, none⟩ = some (.int .u8 5) := by rw [hW]; simp [go_sem]
  have o2 : W0.cell? ⟨w.heap.size + 1, 2, none⟩ = some (.int .u32 b) := by rw [hW]; simp [go_sem]
  have g6 : W0.cell? ⟨w.heap.size, 6, none⟩ = some (.int .i64 c.cap) := by rw [hW]; simp [go_sem]
  have z0 : W0.cell? ⟨w.heap.size + 1 + 1, 0, none⟩ = some (.int .i64 0) := by rw [hW]; simp [go_sem]
  have f0 : W0.frozen? ⟨w.heap.size + 1 + 1, 0, none⟩ = false := by rw [hW]; simp [go_sem]
  have z1 : W0.cell? ⟨w.heap.size + 1 + 1, 1, none⟩ = some (.int .u32 0) := by rw [hW]; simp [go_sem]
  have f1 : W0.frozen? ⟨w.heap.size + 1 + 1, 1, none⟩ = false := by rw [hW]; simp [go_sem]
  have z2 : W0.cell? ⟨w.heap.size + 1 + 1, 2, none⟩ = some (.slice none 0 0) := by rw [hW]; simp [go_sem]
  have f2 : W0.frozen? ⟨w.heap.size + 1 + 1, 2, none⟩ = false := by rw [hW]; simp [go_sem]
  have hs : w.heap.size + 1 + 1 < W0.heap.size := by rw [hW]; simp
  have hs1 : w.heap.size + 1 < W0.heap.size := by omega
  clear hW
  have HA1 := Lib.hid (HA.out.below hb0)
  refine (H2.out _ HA1.out).mono ?_
  rintro e w2 ⟨rfl, hb1⟩
  have HA2 := Lib.hid (HA1.out.below hb1)
  have o0' := (hb1.cell hs1).trans o0
  have o2' := (hb1.cell hs1).trans o2
  have g6' := (hb1.cell (Nat.lt_of_succ_lt hs1)).trans g6
  replace z0 := (hb1.cell hs).trans z0
  replace f0 := (hb1.frozen hs).trans f0
  replace z1 := (hb1.cell hs).trans z1
  replace f1 := (hb1.frozen hs).trans f1
  replace z2 := (hb1.cell hs).trans z2
  replace f2 := (hb1.frozen hs).trans f2
  have hs2 : w.heap.size + 1 + 1 < w2.heap.size := Nat.lt_of_lt_of_le hs hb1.size
  have hs3 : w.heap.size + 1 < w2.heap.size := by omega
  have HB2 := Lib.hid (below_then hb0 hb1)
  clear hb1 hb0 o0 o2 g6
  have i1 : (0 : Int) ≤ (i : Int) := by omega
  obtain ⟨bk, off, rfl, _, h2⟩ := HA2.out.row hi
  have H4i := Lib.hid H4.out
  obtain ⟨q, hq⟩ : ∃ q, l[i].2 = q := ⟨_, rfl⟩
  rw [hq] at h2 H4i
  obtain ⟨y, hy⟩ : ∃ y, (q + 1) % 4294967296 = y := ⟨_, rfl⟩
  rw [hy] at H4i
  have HY := Lib.hid (And.intro hq hy)
  clear hq hy hval H4
  go_wp2_with fail
  have hbk : bk < w2.heap.size := World.block_lt_of_cell? _ _ h2
  go_cut [6] (fun s6 wx => ∃ u, s6 = u ∧ Hid (IsRV wx u (cut l a) ∧ Below w.heap.size w wx ∧ wx.cell? ⟨w.heap.size + 1 + 1, 0, none⟩ = some (.int .i64 0) ∧ wx.cell? ⟨w.heap.size + 1 + 1, 1, none⟩ = some (.int .u32 y) ∧ wx.cell? ⟨w.heap.size + 1 + 1, 2, none⟩ = some (.slice none 0 0)))
  case first =>
    go_region_with (first
        | (go_at_call 51; (with_reducible refine (H4i.out _).mono ?_); rintro e w4 ⟨rfl, hb4⟩; first | (obtain ⟨hz4, hc4⟩ := keep_below hb4 (keep0 w2); obtain ⟨_, hf4⟩ := fkeep_below hb4 (fkeep0 w2)) | (obtain ⟨hz4, hc4⟩ := keep_below hb4 (keep_below hb5 (keep0 w2)); obtain ⟨_, hf4⟩ := fkeep_below hb4 (fkeep_below hb5 (fkeep0 w2))))
        | (go_at_call 20; refine (H3.out _ (HA2.out.keep ?_)).mono ?_; (first | with_reducible exact keep0 w2 | with_reducible exact keep_below hb4 (keep0 w2)); rintro e w5 ⟨u, rfl, hM5, hb5⟩; (first | (obtain ⟨hz5, hc5⟩ := keep_below hb5 (keep0 w2); obtain ⟨_, hf5⟩ := fkeep_below hb5 (fkeep0 w2)) | (obtain ⟨hz5, hc5⟩ := keep_below hb5 (keep_below hb4 (keep0 w2)); obtain ⟨_, hf5⟩ := fkeep_below hb5 (fkeep_below hb4 (fkeep0 w2)))); have HM5 := Lib.hid hM5; clear hM5))
    all_goals
      go_wp2_with fail
      go_meet
      refine ⟨_, rfl, Lib.hid ⟨IsRV.turned HM5.out hb4 hs2 _ _ _, ?_, ?_, ?_, ?_⟩⟩
      · exact below_set3 (below_then (below_then (below_then HB2.out (below_drew w2)) hb5) hb4) (by omega) _ _ _
      · simp [go_sem, hc4, hs2, z0]
      · simp [go_sem, hc4, hs2, z1]
      · simp [go_sem, hc4, hs2, z2]
  case rest =>
    obtain ⟨u, rfl, HR⟩ := hcut
    obtain ⟨r1, r2, r3, r4, r5⟩ := HR.out
    have HR1 := Lib.hid (And.intro r1 r2)
    clear r1 r2
    go_wp2
    refine bodyPost_ret (v := .tuple #[u6, .agg #[.int .i64 0, .int .u32 y, .slice none 0 0]]) ?_ rfl ⟨u6, _, ?_, HR1.out.1, isrv_nil _, newv_nil _, HR1.out.2⟩
    · simp [results, Tryd.results33, go_sem, r3, r4, r5]
    · rw [HY.out.1, HY.out.2]

set_option maxRecDepth 20000 in
set_option maxHeartbeats 4000000 in
theorem rODone_new (c : Cf) (A : Option Addr) (l : List R) (d a b v : Nat) (hl : l.length ≤ 1000000) (ha : a < 4294967296) (hb : b < 4294967296) (hu : Up l) (hcap : (l.length : Int) < c.cap) (hfi : fnd l a = -1) (w : World) (h : IsR w A l) :
    Calls Tryd.prog 33 #[cfv c, .slice A l.length d, opv ⟨4, a, b, v⟩] w (Did5 (put l a b, 0, 0, []) w) := by
  have H2 := Lib.hid (fun W hA => rFind_any A l d (by omega) a W hA)
  rw [hfi] at H2
  have H3 := Lib.hid (fun W hA => rWith_up A l d hl hu a b W hA)
  have HCD := Lib.hid (Nat.le_refl l.length)
  have hwb : IntKind.u64.wrap (b : Int) = (b : Int) := by rw [IntKind.wrap_u64]; omega
  have HA := Lib.hid h
  unfold cfv opv
  simp only
  obtain ⟨N, hN⟩ : ∃ N, l.length = N := ⟨_, rfl⟩
  rw [hN] at hl H2 H3 HCD hcap ⊢
  have HN := Lib.hid hN
  have hwa : IntKind.u64.wrap (a : Int) = (a : Int) := by rw [IntKind.wrap_u64]; omega
  clear hN h hfi
  go_enter Tryd.func33, Tryd.ntmps33
  go_wp2_with fail
  obtain ⟨W0, hW⟩ : ∃ W0, W0 = ((w.alloc (.cells #[.int .u8 c.obj, .int .i64 c.inst, .int .i64 c.thr, .int .u8 c.kind, .int .i64 c.str, .int .i64 c.bits, .int .i64 c.cap, .int .i64 c.node, .int .i64 c.bat, .int .i64 c.chunk, .int .u64 c.lim, .int .u64 c.most] 32)).alloc (.cells #[.int .u8 4, .int .u32 a, .int .u32 b, .int .u32 v] 34)).alloc (.cells #[.int .i64 0, .int .u32 0, .slice none 0 0] 27) := ⟨_, rfl⟩
  have hb0 : Below w.heap.size w W0 := by rw [hW]; exact below_three _ _ _ _
  rw [← hW]
  have o0 : W0.cell? ⟨w.heap.size + 1, 0, none⟩ = some (.int .u8 4) := by rw [hW]; simp [go_sem]
  have o2 : W0.cell? ⟨w.heap.size + 1, 2, none⟩ = some (.int .u32 b) := by rw [hW]; simp [go_sem]
  have g6 : W0.cell? ⟨w.heap.size, 6, none⟩ = some (.int .i64 c.cap) := by rw [hW]; simp [go_sem]
  have z0 : W0.cell? ⟨w.heap.size + 1 + 1, 0, none⟩ = some (.int .i64 0) := by rw [hW]; simp [go_sem]
  have f0 : W0.frozen? ⟨w.heap.size + 1 + 1, 0, none⟩ = false := by rw [hW]; simp [go_sem]
  have z1 : W0.cell? ⟨w.heap.size + 1 + 1, 1, none⟩ = some (.int .u32 0) := by rw [hW]; simp [go_sem]
  have f1 : W0.frozen? ⟨w.heap.size + 1 + 1, 1, none⟩ = false := by rw [hW]; simp [go_sem]
  have z2 : W0.cell? ⟨w.heap.size + 1 + 1, 2, none⟩ = some (.slice none 0 0) := by rw [hW]; simp [go_sem]
  have f2 : W0.frozen? ⟨w.heap.size + 1 + 1, 2, none⟩ = false := by rw [hW]; simp [go_sem]
  have hs : w.heap.size + 1 + 1 < W0.heap.size := by rw [hW]; simp
  have hs1 : w.heap.size + 1 < W0.heap.size := by omega
  clear hW
  have HA1 := Lib.hid (HA.out.below hb0)
  refine (H2.out _ HA1.out).mono ?_
  rintro e w2 ⟨rfl, hb1⟩
  have HA2 := Lib.hid (HA1.out.below hb1)
  have o0' := (hb1.cell hs1).trans o0
  have o2' := (hb1.cell hs1).trans o2
  have g6' := (hb1.cell (Nat.lt_of_succ_lt hs1)).trans g6
  replace z0 := (hb1.cell hs).trans z0
  replace f0 := (hb1.frozen hs).trans f0
  replace z1 := (hb1.cell hs).trans z1
  replace f1 := (hb1.frozen hs).trans f1
  replace z2 := (hb1.cell hs).trans z2
  replace f2 := (hb1.frozen hs).trans f2
  have hs2 : w.heap.size + 1 + 1 < w2.heap.size := Nat.lt_of_lt_of_le hs hb1.size
  have hs3 : w.heap.size + 1 < w2.heap.size := by omega
  have HB2 := Lib.hid (below_then hb0 hb1)
  clear hb1 hb0 o0 o2 g6
  have hcap' : ¬ c.cap ≤ (N : Int) := by omega
  go_wp2_with fail
  refine (H3.out _ HA2.out).mono ?_
  rintro e w5 ⟨u, rfl, hM5, hb5⟩
  replace z0 := (hb5.cell hs2).trans z0
  replace f0 := (hb5.frozen hs2).trans f0
  replace z1 := (hb5.cell hs2).trans z1
  replace f1 := (hb5.frozen hs2).trans f1
  replace z2 := (hb5.cell hs2).trans z2
  replace f2 := (hb5.frozen hs2).trans f2
  have HM5 := Lib.hid hM5
  clear hM5
  go_wp2
  refine bodyPost_ret (v := .tuple #[u, .agg #[.int .i64 0, .int .u32 0, .slice none 0 0]]) ?_ rfl ⟨_, _, rfl, IsRV.turned HM5.out (Below.refl _ _) hs2 _ _ _, isrv_nil _, newv_nil _, ?_⟩
  · simp [results, Tryd.results33, go_sem, z0, z1, z2]
  · exact below_set3 (below_then HB2.out hb5) (by omega) _ _ _

set_option maxRecDepth 20000 in
set_option maxHeartbeats 4000000 in
theorem rODone_full (c : Cf) (A : Option Addr) (l : List R) (d a b v : Nat) (hl : l.length ≤ 1000000) (ha : a < 4294967296) (_ : b < 4294967296) (hd : l.length ≤ d ∧ d ≤ 9223372036854775807) (hAn : A = none → l.length = 0 ∧ d = 0) (hcap : ¬ (l.length : Int) < c.cap) (hfi : fnd l a = -1) (w : World) (h : IsR w A l) :
    Calls Tryd.prog 33 #[cfv c, .slice A l.length d, opv ⟨4, a, b, v⟩] w (Did5 (l, 9, 0, []) w) := by
  have H2 := Lib.hid (fun W hA => rFind_any A l d (by omega) a W hA)
  rw [hfi] at H2
  have H3 := Lib.hid (And.intro hd hAn)
  have HCD := Lib.hid (Nat.le_refl l.length)
  clear hd hAn
  have HA := Lib.hid h
  unfold cfv opv
  simp only
  obtain ⟨N, hN⟩ : ∃ N, l.length = N := ⟨_, rfl⟩
  rw [hN] at hl H2 H3 HCD hcap ⊢
  have HN := Lib.hid hN
  have hwa : IntKind.u64.wrap (a : Int) = (a : Int) := by rw [IntKind.wrap_u64]; omega
  clear hN h hfi
  go_enter Tryd.func33, Tryd.ntmps33
  go_wp2_with fail
  obtain ⟨W0, hW⟩ : ∃ W0, W0 = ((w.alloc (.cells #[.int .u8 c.obj, .int .i64 c.inst, .int .i64 c.thr, .int .u8 c.kind, .int .i64 c.str, .int .i64 c.bits, .int .i64 c.cap, .int .i64 c.node, .int .i64 c.bat, .int .i64 c.chunk, .int .u64 c.lim, .int .u64 c.most] 32)).alloc (.cells #[.int .u8 4, .int .u32 a, .int .u32 b, .int .u32 v] 34)).alloc (.cells #[.int .i64 0, .int .u32 0, .slice none 0 0] 27) := ⟨_, rfl⟩
  have hb0 : Below w.heap.size w W0 := by rw [hW]; exact below_three _ _ _ _
  rw [← hW]
  have o0 : W0.cell? ⟨w.heap.size + 1, 0, none⟩ = some (.int .u8 4) := by rw [hW]; simp [go_sem]
  have o2 : W0.cell? ⟨w.heap.size + 1, 2, none⟩ = some (.int .u32 b) := by rw [hW]; simp [go_sem]
  have g6 : W0.cell? ⟨w.heap.size, 6, none⟩ = some (.int .i64 c.cap) := by rw [hW]; simp [go_sem]
  have z0 : W0.cell? ⟨w.heap.size + 1 + 1, 0, none⟩ = some (.int .i64 0) := by rw [hW]; simp [go_sem]
  have f0 : W0.frozen? ⟨w.heap.size + 1 + 1, 0, none⟩ = false := by rw [hW]; simp [go_sem]
  have z1 : W0.cell? ⟨w.heap.size + 1 + 1, 1, none⟩ = some (.int .u32 0) := by rw [hW]; simp [go_sem]
  have f1 : W0.frozen? ⟨w.heap.size + 1 + 1, 1, none⟩ = false := by rw [hW]; simp [go_sem]
  have z2 : W0.cell? ⟨w.heap.size + 1 + 1, 2, none⟩ = some (.slice none 0 0) := by rw [hW]; simp [go_sem]
  have f2 : W0.frozen? ⟨w.heap.size + 1 + 1, 2, none⟩ = false := by rw [hW]; simp [go_sem]
  have hs : w.heap.size + 1 + 1 < W0.heap.size := by rw [hW]; simp
  have hs1 : w.heap.size + 1 < W0.heap.size := by omega
  clear hW
  have HA1 := Lib.hid (HA.out.below hb0)
  refine (H2.out _ HA1.out).mono ?_
  rintro e w2 ⟨rfl, hb1⟩
  have HA2 := Lib.hid (HA1.out.below hb1)
  have o0' := (hb1.cell hs1).trans o0
  have o2' := (hb1.cell hs1).trans o2
  have g6' := (hb1.cell (Nat.lt_of_succ_lt hs1)).trans g6
  replace z0 := (hb1.cell hs).trans z0
  replace f0 := (hb1.frozen hs).trans f0
  replace z1 := (hb1.cell hs).trans z1
  replace f1 := (hb1.frozen hs).trans f1
  replace z2 := (hb1.cell hs).trans z2
  replace f2 := (hb1.frozen hs).trans f2
  have hs2 : w.heap.size + 1 + 1 < w2.heap.size := Nat.lt_of_lt_of_le hs hb1.size
  have hs3 : w.heap.size + 1 < w2.heap.size := by omega
  have HB2 := Lib.hid (below_then hb0 hb1)
  clear hb1 hb0 o0 o2 g6
  have hcap' : c.cap ≤ (N : Int) := by omega
  go_wp2
  refine bodyPost_ret (v := .tuple #[.slice A N d, .agg #[.int .i64 9, .int .u32 0, .slice none 0 0]]) ?_ rfl ⟨_, _, rfl, IsRV.old (by rw [HN.out]; exact H3.out.1) (by rw [HN.out]; exact H3.out.2) HN.out HA.out ?_, isrv_nil _, newv_nil _, ?_⟩
  · simp [results, Tryd.results33, go_sem, z0, z1, z2]
  · exact below_set3 HB2.out (by omega) _ _ _
  · exact below_set3 HB2.out (by omega) _ _ _

set_option maxRecDepth 20000 in
set_option maxHeartbeats 4000000 in
theorem rODone_none (c : Cf) (A : Option Addr) (l : List R) (d a b v : Nat) (hl : l.length ≤ 1000000) (ha : a < 4294967296) (_ : b < 4294967296) (hd : l.length ≤ d ∧ d ≤ 9223372036854775807) (hAn : A = none → l.length = 0 ∧ d = 0) (hfi : fnd l a = -1) (w : World) (h : IsR w A l) :
    Calls Tryd.prog 33 #[cfv c, .slice A l.length d, opv ⟨5, a, b, v⟩] w (Did5 (l, 6, 0, []) w) := by
  have H2 := Lib.hid (fun W hA => rFind_any A l d (by omega) a W hA)
  rw [hfi] at H2
  have H3 := Lib.hid (And.intro hd hAn)
  have HCD := Lib.hid (Nat.le_refl l.length)
  clear hd hAn
  have HA := Lib.hid h
  unfold cfv opv
  simp only
  obtain ⟨N, hN⟩ : ∃ N, l.length = N := ⟨_, rfl⟩
  rw [hN] at hl H2 H3 HCD ⊢
  have HN := Lib.hid hN
  have hwa : IntKind.u64.wrap (a : Int) = (a : Int) := by rw [IntKind.wrap_u64]; omega
  clear hN h hfi
  go_enter Tryd.func33, Tryd.ntmps33
  go_wp2_with fail
  obtain ⟨W0, hW⟩ : ∃ W0, W0 = ((w.alloc (.cells #[.int .u8 c.obj, .int .i64 c.inst, .int .i64 c.thr, .int .u8 c.kind, .int .i64 c.str, .int .i64 c.bits, .int .i64 c.cap, .int .i64 c.node, .int .i64 c.bat, .int .i64 c.chunk, .int .u64 c.lim, .int .u64 c.most] 32)).alloc (.cells #[.int .u8 5, .int .u32 a, .int .u32 b, .int .u32 v] 34)).alloc (.cells #[.int .i64 0, .int .u32 0, .slice none 0 0] 27) := ⟨_, rfl⟩
  have hb0 : Below w.heap.size w W0 := by rw [hW]; exact below_three _ _ _ _
  rw [← hW]
  have o0 : W0.cell? ⟨w.heap.size + 1, 0, none⟩ = some (.int .u8 5) := by rw [hW]; simp [go_sem]
  have o2 : W0.cell? ⟨w.heap.size + 1, 2, none⟩ = some (.int .u32 b) := by rw [hW]; simp [go_sem]
  have g6 : W0.cell? ⟨w.heap.size, 6, none⟩ = some (.int .i64 c.cap) := by rw [hW]; simp [go_sem]
  have z0 : W0.cell? ⟨w.heap.size + 1 + 1, 0, none⟩ = some (.int .i64 0) := by rw [hW]; simp [go_sem]
  have f0 : W0.frozen? ⟨w.heap.size + 1 + 1, 0, none⟩ = false := by rw [hW]; simp [go_sem]
  have z1 : W0.cell? ⟨w.heap.size + 1 + 1, 1, none⟩ = some (.int .u32 0) := by rw [hW]; simp [go_sem]
  have f1 : W0.frozen? ⟨w.heap.size + 1 + 1, 1, none⟩ = false := by rw [hW]; simp [go_sem]
  have z2 : W0.cell? ⟨w.heap.size + 1 + 1, 2, none⟩ = some (.slice none 0 0) := by rw [hW]; simp [go_sem]
  have f2 : W0.frozen? ⟨w.heap.size + 1 + 1, 2, none⟩ = false := by rw [hW]; simp [go_sem]
  have hs : w.heap.size + 1 + 1 < W0.heap.size := by rw [hW]; simp
  have hs1 : w.heap.size + 1 < W0.heap.size := by omega
  clear hW
  have HA1 := Lib.hid (HA.out.below hb0)
  refine (H2.out _ HA1.out).mono ?_
  rintro e w2 ⟨rfl, hb1⟩
  have HA2 := Lib.hid (HA1.out.below hb1)
  have o0' := (hb1.cell hs1).trans o0
  have o2' := (hb1.cell hs1).trans o2
  have g6' := (hb1.cell (Nat.lt_of_succ_lt hs1)).trans g6
  replace z0 := (hb1.cell hs).trans z0
  replace f0 := (hb1.frozen hs).trans f0
  replace z1 := (hb1.cell hs).trans z1
  replace f1 := (hb1.frozen hs).trans f1
  replace z2 := (hb1.cell hs).trans z2
  replace f2 := (hb1.frozen hs).trans f2
  have hs2 : w.heap.size + 1 + 1 < w2.heap.size := Nat.lt_of_lt_of_le hs hb1.size
  have hs3 : w.heap.size + 1 < w2.heap.size := by omega
  have HB2 := Lib.hid (below_then hb0 hb1)
  clear hb1 hb0 o0 o2 g6
  go_wp2
  refine bodyPost_ret (v := .tuple #[.slice A N d, .agg #[.int .i64 6, .int .u32 0, .slice none 0 0]]) ?_ rfl ⟨_, _, rfl, IsRV.old (by rw [HN.out]; exact H3.out.1) (by rw [HN.out]; exact H3.out.2) HN.out HA.out ?_, isrv_nil _, newv_nil _, ?_⟩
  · simp [results, Tryd.results33, go_sem, z0, z1, z2]
  · exact below_set3 HB2.out (by omega) _ _ _
  · exact below_set3 HB2.out (by omega) _ _ _

theorem rODone_any (c : Cf) (cap : Nat) (hcc : c.cap = cap) (A : Option Addr) (l : List R) (d : Nat) (o : O) (ho : Wf o) (hk : 4 ≤ o.k ∧ o.k ≤ 8) (hd : l.length ≤ d ∧ d ≤ 9223372036854775807) (hAn : A = none → l.length = 0 ∧ d = 0) (hl : l.length ≤ 1000000) (hu : Up l) (hv : ∀ x ∈ l, OrOk x) (w : World) (h : IsR w A l) :
    Calls Tryd.prog 33 #[cfv c, .slice A l.length d, opv o] w (Did5 (doneO cap l o.k o.a o.b) w) := by
  obtain ⟨k, a, b, v⟩ := o
  obtain ⟨_, ha, hb, _⟩ := ho
  simp only at hk ha hb ⊢
  rcases (by omega : k = 4 ∨ k = 5 ∨ k = 6 ∨ k = 7 ∨ k = 8) with rfl | rfl | rfl | rfl | rfl
  · unfold doneO
    rw [if_neg (by decide), if_pos rfl]
    rcases fnd_get l a with ⟨hf, hg⟩ | ⟨i, hi, hf, _, hg⟩
    · rw [hg]
      by_cases hc : cap ≤ l.length
      · simp only [if_pos hc]
        exact rODone_full c A l d a b v hl ha hb hd hAn (by omega) hf w h
      · simp only [if_neg hc]
        exact rODone_new c A l d a b v hl ha hb hu (by omega) hf w h
    · rw [hg]
      exact rODone_turn c A l d a b v hl ha hb hu i hi hf (hv _ (List.getElem_mem hi)).2 w h
  · unfold doneO
    rw [if_neg (by decide), if_neg (by decide)]
    rcases fnd_get l a with ⟨hf, hg⟩ | ⟨i, hi, hf, _, hg⟩
    · rw [hg]
      exact rODone_none c A l d a b v hl ha hb hd hAn hf w h
    · rw [hg]
      exact rODone_cut c A l d a b v hl ha hb i hi hf (hv _ (List.getElem_mem hi)).2 w h
  · exact rODone_get c A l d a b v hd hAn hl hv ha hb w h
  · exact rODone_floor c A l d a b v hd hAn hl hv ha hb w h
  · exact rODone_scan c A l d a b v hd hAn hl hv ha hb w h
end Go.Proofs.YtohllaolbebogaaDoor
