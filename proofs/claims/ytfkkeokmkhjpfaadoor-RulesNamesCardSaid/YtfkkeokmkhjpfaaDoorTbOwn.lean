/- slices.Insert of one row, into rows of the call's own. slices.Delete of one row, of rows of the call's own. -/
import Derived.Test.YtfkkeokmkhjpfaaDoorTbGen
namespace Go.Proofs.YtfkkeokmkhjpfaaDoor
open Go.RowKit Go.Lib Tb
set_option maxHeartbeats 1000000 in
set_option maxRecDepth 100000 in
/-- At the end. -/
theorem insert_end (w : World) (B : Nat) (hB : B ≤ w.heap.size) (v : Value) (l : List R) (y : R) (hl : l.length ≤ 1000000) (hm : MadeX w B 24 2 rowL v l) (g0 : Nat) (hx : ∀ j u, (rowL y)[j]? = some u → w.cell? ⟨g0, 0 + j, none⟩ = some u) :
    Calls Tryd.prog 37 #[v, .int .i64 l.length, .slice (some ⟨g0, 0, none⟩) 1 1] w (RetI (l ++ [y]) B w v) := by
  have HX := Lib.hid hx
  have HM := Lib.hid hm
  clear hx
  rcases made_cells hm with ⟨rfl, rfl⟩ | ⟨g, cap, rest, rfl, _, _, hc, hcm, _⟩
  · clear hm
    obtain ⟨z, hz⟩ : ∃ z : Nat, z = 0 := ⟨_, rfl⟩
    rw [show (([] : List R).length : Nat) = z from hz.symm]
    go_enter Tryd.func37, Tryd.ntmps37
    go_wp2_with (at_builtin; refine wpList_pushX (w0 := w) rfl (.tmp 23) (.tmp 24) _ rfl Tryd.underlying25 row_info rfl (by decide) (by decide) y rfl rfl HM.out g0 0 1 rfl HX.out (row_one _) (by simp) hB ((Below.refl _ _).mono hB) ?_; intro v' w' h1 h2 h3 h4)
    go_ret
    exact ⟨v', rfl, h1.out, h3.out⟩
  · clear hm
    obtain ⟨N, hN⟩ : ∃ N, l.length = N := ⟨_, rfl⟩
    have HN := Lib.hid hN
    rw [hN] at hl hc HM ⊢
    unfold maxLen at hcm
    clear hN
    go_enter Tryd.func37, Tryd.ntmps37
    go_wp2_with (at_builtin; refine wpList_pushX (w0 := w) rfl (.tmp 23) (.tmp 24) _ rfl Tryd.underlying25 row_info rfl (by decide) (by decide) y rfl rfl HM.out g0 0 1 rfl HX.out (row_one _) (by rw [HN.out]; omega) hB ((Below.refl _ _).mono hB) ?_; intro v' w' h1 h2 h3 h4)
    all_goals (go_ret; exact ⟨v', rfl, h1.out, h3.out⟩)
set_option maxHeartbeats 4000000 in
set_option maxRecDepth 100000 in
/-- Ahead of a row, where there is room: in place. -/
theorem insert_shift (w : World) (B g cap : Nat) (l1 l2 : List R) (x y : R) (rest : List Value) (hBg : B ≤ g) (hl : (l1 ++ x :: l2).length ≤ 1000000) (hroom : (l1 ++ x :: l2).length < cap) (hcm : cap ≤ maxLen) (hg : w.heap[g]? = some (.cells (flatL rowL (l1 ++ x :: l2) ++ rest).toArray 24 (0, 0)))
    (hr : rest.length = (cap - (l1 ++ x :: l2).length) * 2) (g0 : Nat) (hne : g0 ≠ g) (hx : w.heap[g0]? = some (.cells (rowL y).toArray 24 (0, 0))) :
    Calls Tryd.prog 37 #[.slice (some ⟨g, 0, none⟩) (l1 ++ x :: l2).length cap, .int .i64 l1.length, .slice (some ⟨g0, 0, none⟩) 1 1] w (RetI (l1 ++ y :: x :: l2) B w (.slice (some ⟨g, 0, none⟩) (l1 ++ x :: l2).length cap)) := by
  obtain ⟨i, hi⟩ : ∃ i, l1.length = i := ⟨_, rfl⟩
  obtain ⟨n, hn⟩ : ∃ n, (l1 ++ x :: l2).length = n := ⟨_, rfl⟩
  have hin : i < n := by rw [← hi, ← hn, List.length_append, List.length_cons]; omega
  have hl2 : l2.length = n - i - 1 := by rw [← hi, ← hn, List.length_append, List.length_cons]; omega
  rw [hn] at hl hroom hr ⊢
  rw [hi]
  -- what the row holds, cut in pieces
  obtain ⟨S, D, hS, rfl⟩ : ∃ S D, S.length = 2 ∧ rest = S ++ D := ⟨rest.take 2, rest.drop 2, by rw [List.length_take, hr]; omega, (List.take_append_drop 2 rest).symm⟩
  obtain ⟨F1, hF1⟩ : ∃ F, flatL rowL l1 = F := ⟨_, rfl⟩
  obtain ⟨F2, hF2⟩ : ∃ F, flatL rowL l2 = F := ⟨_, rfl⟩
  have z1 : F1.length = i * 2 := by rw [← hF1, flatR, hi]
  have z2 : F2.length = (n - i - 1) * 2 := by rw [← hF2, flatR, hl2]
  have eF : flatL rowL (l1 ++ x :: l2) = F1 ++ (rowL x ++ F2) := by rw [flatL_append, hF1, show flatL rowL (x :: l2) = rowL x ++ flatL rowL l2 by simp [flatL], hF2]
  have zx : (rowL x).length = 2 := rfl
  have zy : (rowL y).length = 2 := rfl
  rw [eF] at hg
  have hg1 : w.drew.heap[g]? = some (.cells ((F1 ++ rowL x) ++ (F2 ++ S) ++ D).toArray 24 (0, 0)) := by
    rw [show w.drew.heap = w.heap from rfl, hg]; simp
  have hsz : (Tryd.prog.info? 24).map (·.size) = some 2 := by kernel_rfl
  have hz : ∀ w, (Go.sizeOf 24).run Tryd.prog w = .ok 2 w := fun w => by kernel_rfl
  obtain ⟨sa, fa⟩ := alloc_shape hx
  obtain ⟨sb, _⟩ := alloc_shape hg
  have hov : ∀ lb cb, (callFunc 54 #[.slice (some ⟨g0, 0, none⟩) 1 1, .slice (some ⟨g, (i + 1) * 2, none⟩) lb cb]).run Tryd.prog w = .ok (.value (.bool false)) w := fun lb cb => by
    rw [run_callFunc_extern Tryd.func54 (by kernel_rfl) (by kernel_rfl) (by kernel_rfl) (e := Extern.SlicesOverlaps.overlaps #[25, 25] #[4]) (by kernel_rfl),
      Lib.run_overlaps_apart w 25 4 24 Tryd.underlying25 2 hz ⟨g0, 0, none⟩ ⟨g, (i + 1) * 2, none⟩ 1 1 lb cb hne _ _ _ _ sa sb (by simp [z1, zx]) (fa _) (fa _)]
    rfl
  have hsrc1 : ∀ j v, (rowL x ++ F2)[j]? = some v → w.drew.cell? ((⟨g, i * 2, none⟩ : Addr).add j) = some v := fun j v hj => by
    rw [addrAdd, show w.drew.cell? = w.cell? from rfl, cell_row hg, mid_at (A := F1) z1.symm hj]
  have hcp1 : ∀ ty dc sc, (Builtin.copy_ #[25, 25] ty #[.slice (some ⟨g, (i + 1) * 2, none⟩) (n - i) dc, .slice (some ⟨g, i * 2, none⟩) (n + 1 - i) sc]).run Tryd.prog w.drew = .ok (goInt (Nat.min (n + 1 - i) (n - i))) (w.drew.setRow g ((F1 ++ rowL x) ++ (rowL x ++ F2) ++ D).toArray) := fun ty dc sc =>
    run_copyX w.drew _ _ ty 24 g _ _ dc _ _ sc 24 (F1 ++ rowL x) (F2 ++ S) (rowL x ++ F2) D 2 Tryd.underlying25 hsz hg1 (by rw [List.length_append, z1, zx]; omega) (by rw [List.length_append, List.length_append, zx, hS]; omega) (by rw [List.length_append, zx, z2]; simp only [Nat.min_def]; split <;> omega) hsrc1
      (fun u hu => by rcases List.mem_append.1 hu with h | h; exact row_one x u h; rw [← hF2] at h; exact flatL_one l2 u h)
  obtain ⟨W1, hW1⟩ : ∃ W1, W1 = w.drew.setRow g ((F1 ++ rowL x) ++ (rowL x ++ F2) ++ D).toArray := ⟨_, rfl⟩
  have hg2 : W1.heap[g]? = some (.cells (F1 ++ rowL x ++ (rowL x ++ F2 ++ D)).toArray 24 (0, 0)) := by
    rw [hW1, setRow_heap w.drew g _ _ _ _ hg1]; simp
  have hcp2 : ∀ (W : World), W.heap = W1.heap → ∀ ty dc, (Builtin.copy_ #[25, 25] ty #[.slice (some ⟨g, i * 2, none⟩) (n + 1 - i) dc, .slice (some ⟨g0, 0, none⟩) 1 1]).run Tryd.prog W = .ok (goInt (Nat.min 1 (n + 1 - i))) (W.setRow g (F1 ++ rowL y ++ (rowL x ++ F2 ++ D)).toArray) := fun W hW ty dc =>
    run_copyX W _ _ ty 24 g _ _ dc _ _ 1 24 F1 (rowL x) (rowL y) _ 2 Tryd.underlying25 hsz (by rw [hW]; exact hg2) (by rw [z1]) rfl (by rw [zy, show Nat.min 1 (n + 1 - i) = 1 from Nat.min_eq_left (by omega)])
      (fun j v hj => by
        rw [addrAdd, Nat.zero_add]
        have h0 : W.heap[g0]? = some (.cells (rowL y).toArray 24 (0, 0)) := by rw [hW, hW1, setRow_other _ _ _ _ hne]; exact hx
        rw [cell_row h0]; exact hj) (row_one y)
  rw [← hW1] at hcp1
  have X1 := Lib.hid hW1
  have X2 := Lib.hid hg2
  have XF := Lib.hid (And.intro hF1 (And.intro hF2 (And.intro z1 z2)))
  have XS := Lib.hid (And.intro hr hS)
  have XL := Lib.hid (And.intro hi (And.intro hn eF))
  clear hW1 hg2 hF1 hF2 z1 z2 hr hS hi hn hg hg1 hsrc1 sa fa sb hx zx zy hl2 eF
  unfold maxLen at hcm
  have hw1 : IntKind.i64.wrap ((i : Int) + 1) = ((i + 1 : Nat) : Int) := by rw [IntKind.wrap_i64]; omega
  have hw2 : IntKind.i64.wrap ((n : Int) + 1) = ((n + 1 : Nat) : Int) := by rw [IntKind.wrap_i64]; omega
  have hz2 : ¬ ((i : Int) = (n : Int)) := by omega
  have mixed : Tryd.prog.follows Departure.mixedOrders = true := by kernel_rfl
  have hb1 : (0 : Int) ≤ (i : Int) + 1 := by omega
  have hb0 : IntKind.i64.wrap ((i : Int) + 1) = (i : Int) + 1 := by rw [IntKind.wrap_i64]; omega
  have htn : ((i : Int) + 1).toNat = i + 1 := by omega
  have hb2 : ¬ (cap = i + 1) := by omega
  have hb3 : (i : Int) ≤ (n : Int) + 1 := by omega
  have hb4 : ¬ (cap = i) := by omega
  have hb5 : (i : Int) + 1 ≤ (n : Int) + 1 := by omega
  clear hw1
  go_enter Tryd.func37, Tryd.ntmps37
  go_wp2_with (simp only [hov])
  go_region_law_o (refine step_copyX rfl _ _ 25 25 rfl _ _ (by simp [Act.eval, Act.put]) (by simp [Act.eval, Act.put]) (hcp1 _ _ _) ?_)
  go_wp2_with (at_builtin; refine wpList_copyX _ rfl _ _ 25 25 rfl _ _ rfl rfl (hcp2 _ rfl _ _) ?_)
  go_ret
  have el : (l1 ++ y :: x :: l2).length = n + 1 := by rw [← XL.out.2.1]; simp only [List.length_append, List.length_cons]; omega
  have ef : flatL rowL (l1 ++ y :: x :: l2) = F1 ++ (rowL y ++ (rowL x ++ F2)) := by rw [flatL_append, XF.out.1, show flatL rowL (y :: x :: l2) = rowL y ++ (rowL x ++ flatL rowL l2) by simp [flatL], XF.out.2.1]
  refine ⟨_, rfl, ?_, ?_⟩
  · have := made_of (w := W1.setRow g (F1 ++ (rowL y ++ (rowL x ++ (F2 ++ D)))).toArray) (l := l1 ++ y :: x :: l2) (rest := D) (cap := cap) hBg (by rw [setRow_heap W1 g _ _ _ _ X2.out, ef]; simp) (by omega) (by unfold maxLen; omega) (by have h1 := XS.out.1; have h2 := XS.out.2; rw [List.length_append] at h1; rw [el]; omega)
    rw [el] at this
    exact this
  · refine grown_row ?_ _
    rw [X1.out]
    exact grown_row (grown_drew (World.grownBy.refl _ _)) _
set_option maxHeartbeats 4000000 in
set_option maxRecDepth 100000 in
/-- Ahead of a row, where there is no room: new memory. -/
theorem insert_grow (w : World) (B g : Nat) (hB : B ≤ w.heap.size) (l1 l2 : List R) (x y : R) (rest : List Value) (hl : (l1 ++ x :: l2).length ≤ 1000000) (hg : w.heap[g]? = some (.cells (flatL rowL (l1 ++ x :: l2) ++ rest).toArray 24 (0, 0)))
    (g0 : Nat) (hx : w.heap[g0]? = some (.cells (rowL y).toArray 24 (0, 0))) :
    Calls Tryd.prog 37 #[.slice (some ⟨g, 0, none⟩) (l1 ++ x :: l2).length (l1 ++ x :: l2).length, .int .i64 l1.length, .slice (some ⟨g0, 0, none⟩) 1 1] w (RetI (l1 ++ y :: x :: l2) B w (.slice (some ⟨g, 0, none⟩) (l1 ++ x :: l2).length (l1 ++ x :: l2).length)) := by
  obtain ⟨i, hi⟩ : ∃ i, l1.length = i := ⟨_, rfl⟩
  obtain ⟨n, hn⟩ : ∃ n, (l1 ++ x :: l2).length = n := ⟨_, rfl⟩
  have hin : i < n := by rw [← hi, ← hn, List.length_append, List.length_cons]; omega
  have hl2 : l2.length = n - i - 1 := by rw [← hi, ← hn, List.length_append, List.length_cons]; omega
  rw [hn] at hl ⊢
  rw [hi]
  obtain ⟨F1, hF1⟩ : ∃ F, flatL rowL l1 = F := ⟨_, rfl⟩
  obtain ⟨F2, hF2⟩ : ∃ F, flatL rowL (x :: l2) = F := ⟨_, rfl⟩
  have z1 : F1.length = i * 2 := by rw [← hF1, flatR, hi]
  have z2 : F2.length = (n - i) * 2 := by rw [← hF2, flatR, List.length_cons, hl2]; omega
  have eF : flatL rowL (l1 ++ x :: l2) = F1 ++ F2 := by rw [flatL_append, hF1, hF2]
  have zy : (rowL y).length = 2 := rfl
  rw [eF] at hg
  have hsz : (Tryd.prog.info? 24).map (·.size) = some 2 := by kernel_rfl
  obtain ⟨i0, hi0, hz0, hzs, hzb⟩ := info_parts row_info
  have h63 : Tryd.prog.underlying 3 = some (.int .i64) := by kernel_rfl
  -- the new block
  have hgl : g < w.heap.size := (Array.getElem?_eq_some_iff.1 hg).1
  have hold : (Builtin.firstCells i0.size i (.slice (some ⟨g, 0, none⟩) i n)).run Tryd.prog w.drew = .ok F1.toArray w.drew := by
    rw [hzs]
    exact run_firstCells_some w.drew 2 i ⟨g, 0, none⟩ i n F1 z1 (fun j v hj => by
      rw [addrAdd, show w.drew.cell? = w.cell? from rfl, cell_row hg]
      rw [Nat.zero_add, List.append_assoc, List.getElem?_append_left (List.getElem?_eq_some_iff.1 hj).1]
      exact hj)
  obtain ⟨k, hk⟩ : ∃ k, n + 1 - i = k := ⟨_, rfl⟩
  have eik : i + k = n + 1 := by omega
  obtain ⟨K, hK⟩ : ∃ K, grownCap w (n + 1) n 24 = K := ⟨_, rfl⟩
  have hK1 : n + 1 ≤ K := by rw [← hK]; exact grownCap_ge _ _ _ _
  have hK2 : K ≤ maxLen := by rw [← hK]; exact grownCap_le_maxLen _ _ _ _ (by unfold maxLen; omega)
  obtain ⟨Z1, hZ1⟩ : ∃ Z, (Builtin.zeroCells (Value.agg #[.int .u64 0, .int .u64 0]).cells k).toList = Z := ⟨_, rfl⟩
  obtain ⟨Z2, hZ2⟩ : ∃ Z, (Builtin.zeroCells (Value.agg #[.int .u64 0, .int .u64 0]).cells (K - (n + 1))).toList = Z := ⟨_, rfl⟩
  have lz1 : Z1.length = k * 2 := by rw [← hZ1, Array.length_toList, zeros_two]
  have lz2 : Z2.length = (K - (n + 1)) * 2 := by rw [← hZ2, Array.length_toList, zeros_two]
  obtain ⟨Y, Z3, hY, rfl⟩ : ∃ S D, S.length = 2 ∧ Z1 = S ++ D := ⟨Z1.take 2, Z1.drop 2, by rw [List.length_take, lz1]; omega, (List.take_append_drop 2 Z1).symm⟩
  obtain ⟨W0, hW0⟩ : ∃ W, W = w.drew.alloc (.cells (F1 ++ (Y ++ Z3) ++ Z2).toArray 24) := ⟨_, rfl⟩
  have hrun : ∀ ty, (Builtin.append_ #[25, 3] ty #[.slice (some ⟨g, 0, none⟩) i n, .int .i64 (k : Nat)]).run Tryd.prog w = .ok (.slice (some ⟨w.heap.size, 0, none⟩) (n + 1) K) W0 := fun ty => by
    have h := run_append_grow_zeros w 25 3 ty 24 i0 _ .i64 .i64 Tryd.underlying25 h63 hi0 hz0 (some ⟨g, 0, none⟩) i n F1 hold k (by omega) (by omega) (by omega) (by omega) (by rw [hzb]; omega) (by rw [hzb, eik]; exact growslice_fits (by omega) (by omega))
    rw [eik, hK, ← Array.toArray_toList (xs := Builtin.zeroCells _ k), hZ1, ← Array.toArray_toList (xs := Builtin.zeroCells _ (K - (n + 1))), hZ2, List.append_toArray, List.append_toArray, ← hW0] at h
    exact h
  have hb0 : W0.heap[w.heap.size]? = some (.cells (F1 ++ Y ++ (Z3 ++ Z2)).toArray 24 (0, 0)) := by
    rw [hW0, show w.heap.size = w.drew.heap.size from rfl, heap_alloc_new]; simp
  have hne : g0 ≠ w.heap.size := by have := (Array.getElem?_eq_some_iff.1 hx).1; omega
  have hcp1 : ∀ (W : World), W.heap = W0.heap → ∀ ty dc, (Builtin.copy_ #[25, 25] ty #[.slice (some ⟨w.heap.size, i * 2, none⟩) k dc, .slice (some ⟨g0, 0, none⟩) 1 1]).run Tryd.prog W = .ok (goInt (Nat.min 1 k)) (W.setRow w.heap.size (F1 ++ rowL y ++ (Z3 ++ Z2)).toArray) := fun W hW ty dc =>
    run_copyX W _ _ ty 24 _ _ _ dc _ _ 1 24 F1 Y (rowL y) _ 2 Tryd.underlying25 hsz (by rw [hW]; exact hb0) (by rw [z1]) (by rw [hY, zy]) (by rw [zy, show Nat.min 1 k = 1 from Nat.min_eq_left (by omega)])
      (fun j v hj => by
        rw [addrAdd, Nat.zero_add]
        have h0 : W.heap[g0]? = some (.cells (rowL y).toArray 24 (0, 0)) := by rw [hW, hW0]; exact (heap_alloc_old w.drew _ (Array.getElem?_eq_some_iff.1 hx).1).trans hx
        rw [cell_row h0]; exact hj) (row_one y)
  obtain ⟨W1, hW1⟩ : ∃ W, W = W0.setRow w.heap.size (F1 ++ rowL y ++ (Z3 ++ Z2)).toArray := ⟨_, rfl⟩
  have hb1 : W1.heap[w.heap.size]? = some (.cells ((F1 ++ rowL y) ++ Z3 ++ Z2).toArray 24 (0, 0)) := by
    rw [hW1, setRow_heap W0 _ _ _ _ _ hb0]; simp
  have hg1 : W1.heap[g]? = some (.cells (F1 ++ F2 ++ rest).toArray 24 (0, 0)) := by
    rw [hW1, setRow_other _ _ _ _ (by omega), hW0]; exact (heap_alloc_old w.drew _ hgl).trans hg
  have hcp2 : ∀ (W : World), W.heap = W1.heap → ∀ ty dc sc, (Builtin.copy_ #[25, 25] ty #[.slice (some ⟨w.heap.size, (i + 1) * 2, none⟩) (n - i) dc, .slice (some ⟨g, i * 2, none⟩) (n - i) sc]).run Tryd.prog W = .ok (goInt (Nat.min (n - i) (n - i))) (W.setRow w.heap.size ((F1 ++ rowL y) ++ F2 ++ Z2).toArray) := fun W hW ty dc sc =>
    run_copyX W _ _ ty 24 _ _ _ dc _ _ sc 24 (F1 ++ rowL y) Z3 F2 Z2 2 Tryd.underlying25 hsz (by rw [hW]; exact hb1) (by rw [List.length_append, z1, zy]; omega) (by rw [List.length_append, hY] at lz1; omega) (by rw [z2, show Nat.min (n - i) (n - i) = n - i from Nat.min_self _])
      (fun j v hj => by
        have h0 : W.heap[g]? = some (.cells (F1 ++ F2 ++ rest).toArray 24 (0, 0)) := by rw [hW]; exact hg1
        rw [addrAdd, cell_row h0, mid_at z1.symm hj]) (by rw [← hF2]; exact flatL_one _)
  have hcp3 := hcp2 W1.drew rfl
  have hcp0 := hcp1 W0 rfl
  rw [← hW1] at hcp0
  clear hcp1 hcp2
  have X0 := Lib.hid hW0
  have X1 := Lib.hid hW1
  have X2 := Lib.hid hb1
  have XF := Lib.hid (And.intro hF1 (And.intro hF2 (And.intro lz2 zy)))
  have XL := Lib.hid (And.intro hi (And.intro hn eF))
  clear hW0 hW1 hb0 hb1 hg1 hF1 hF2 z1 z2 lz1 lz2 hZ1 hZ2 hY hi hn hg hx zy hl2 eF hold hi0 hz0 hzs hzb hsz h63 hK hne
  unfold maxLen at hK2
  have hw2 : IntKind.i64.wrap ((n : Int) + 1) = (n : Int) + 1 := by rw [IntKind.wrap_i64]; omega
  have hw3 : IntKind.i64.wrap ((n : Int) + 1 - (i : Int)) = (k : Nat) := by rw [IntKind.wrap_i64]; omega
  have hb0' : IntKind.i64.wrap ((i : Int) + 1) = (i : Int) + 1 := by rw [IntKind.wrap_i64]; omega
  have hz2 : ¬ ((i : Int) = (n : Int)) := by omega
  have mixed : Tryd.prog.follows Departure.mixedOrders = true := by kernel_rfl
  have hb1 : (0 : Int) ≤ (i : Int) + 1 := by omega
  have htn : ((i : Int) + 1).toNat = i + 1 := by omega
  have hb3 : (i : Int) ≤ (n : Int) + 1 := by omega
  have hb4 : ¬ (n = i) := by omega
  have hb5 : (i : Int) + 1 ≤ (n : Int) + 1 := by omega
  have hb6 : ¬ (K = i + 1) := by omega
  have hb7 : ¬ (K = i) := by omega
  have hb8 : i ≤ n := by omega
  go_enter Tryd.func37, Tryd.ntmps37
  go_wp2_with (first
    | (at_builtin; refine wpList_appendX _ rfl _ _ 25 3 rfl _ _ rfl rfl (hrun _) ?_)
    | (at_builtin; refine wpList_copyX _ rfl _ _ 25 25 rfl _ _ rfl rfl (hcp0 _ _) ?_))
  go_region_law_o (refine step_copyX rfl _ _ 25 25 rfl _ _ (by simp [Act.eval, Act.put]) (by simp [Act.eval, Act.put]) (hcp3 _ _ _) ?_)
  go_wp2
  go_ret
  have el : (l1 ++ y :: x :: l2).length = n + 1 := by rw [← XL.out.2.1]; simp only [List.length_append, List.length_cons]; omega
  have ef : flatL rowL (l1 ++ y :: x :: l2) = F1 ++ rowL y ++ F2 := by rw [flatL_append, XF.out.1, show flatL rowL (y :: x :: l2) = rowL y ++ flatL rowL (x :: l2) by simp [flatL], XF.out.2.1, List.append_assoc]
  refine ⟨_, rfl, ?_, ?_⟩
  · have := made_of (w := W1.drew.setRow w.heap.size (F1 ++ rowL y ++ F2 ++ Z2).toArray) (l := l1 ++ y :: x :: l2) (rest := Z2) (cap := K) hB (by rw [setRow_heap W1.drew _ _ _ _ _ X2.out, ef]) (by omega) (by unfold maxLen; omega) (by rw [el]; exact XF.out.2.2.1)
    rw [el] at this
    simpa using this
  · have h0 : w.grownBy W0 (some g) := by rw [X0.out]; exact grown_drew (World.grownBy_alloc _ _ _)
    have h1 : w.grownBy W1 (some g) := by rw [X1.out]; exact grown_new h0 (Nat.le_refl _) _
    have h2 : w.grownBy W1.drew (some g) := ⟨h1.os, h1.tape, h1.output, h1.size, h1.block⟩
    exact grown_new h2 (Nat.le_refl _) _
/-- One row put in, wherever. -/
theorem insert_any (w : World) (B : Nat) (hB : B ≤ w.heap.size) (v : Value) (l1 l2 : List R) (y : R) (hl : (l1 ++ l2).length ≤ 1000000) (hm : MadeX w B 24 2 rowL v (l1 ++ l2)) (g0 : Nat) (hne : v.ownBlock ≠ some g0) (hx : w.heap[g0]? = some (.cells (rowL y).toArray 24 (0, 0))) :
    Calls Tryd.prog 37 #[v, .int .i64 l1.length, .slice (some ⟨g0, 0, none⟩) 1 1] w (RetI (l1 ++ y :: l2) B w v) := by
  cases l2 with
  | nil =>
    rw [List.append_nil] at hl hm
    exact insert_end w B hB v l1 y hl hm g0 fun j u h => by rw [Nat.zero_add, cell_row hx]; exact h
  | cons x l2 =>
    rcases made_cells hm with ⟨_, h⟩ | ⟨g, cap, rest, rfl, hBg, hg, hc, hcm, hr⟩
    · simp at h
    · by_cases hroom : (l1 ++ x :: l2).length < cap
      · exact insert_shift w B g cap l1 l2 x y rest hBg hl hroom hcm hg hr g0 (fun e => hne (by rw [e]; rfl)) hx
      · obtain rfl : cap = (l1 ++ x :: l2).length := by omega
        exact insert_grow w B g hB l1 l2 x y rest hl hg g0 hx
set_option maxHeartbeats 4000000 in
set_option maxRecDepth 100000 in
theorem delete_any (w : World) (B : Nat) (v : Value) (l1 l2 : List R) (x : R) (hl : (l1 ++ x :: l2).length ≤ 1000000) (hm : MadeX w B 24 2 rowL v (l1 ++ x :: l2)) (z : Int) (hz : z = (l1.length : Int) + 1) :
    Calls Tryd.prog 39 #[v, .int .i64 l1.length, .int .i64 z] w (RetI (l1 ++ l2) B w v) := by
  rcases made_cells hm with ⟨_, h⟩ | ⟨g, cap, rest, rfl, hBg, hg, hc, hcm, hr⟩
  · simp at h
  clear hm
  obtain ⟨i, hi⟩ : ∃ i, l1.length = i := ⟨_, rfl⟩
  obtain ⟨n, hn⟩ : ∃ n, (l1 ++ x :: l2).length = n := ⟨_, rfl⟩
  have hin : i < n := by rw [← hi, ← hn, List.length_append, List.length_cons]; omega
  have hl2 : l2.length = n - i - 1 := by rw [← hi, ← hn, List.length_append, List.length_cons]; omega
  rw [hn] at hl hc hr ⊢
  rw [hi] at hz ⊢
  obtain ⟨F1, hF1⟩ : ∃ F, flatL rowL l1 = F := ⟨_, rfl⟩
  obtain ⟨F2, hF2⟩ : ∃ F, flatL rowL l2 = F := ⟨_, rfl⟩
  have z1 : F1.length = i * 2 := by rw [← hF1, flatR, hi]
  have z2 : F2.length = (n - i - 1) * 2 := by rw [← hF2, flatR, hl2]
  have zx : (rowL x).length = 2 := rfl
  have eF : flatL rowL (l1 ++ x :: l2) = F1 ++ (rowL x ++ F2) := by rw [flatL_append, hF1, show flatL rowL (x :: l2) = rowL x ++ flatL rowL l2 by simp [flatL], hF2]
  rw [eF] at hg
  -- what is turned to the left, and what is left over
  obtain ⟨Q, T, hQ, hT, hQT⟩ : ∃ Q T, Q.length = F2.length ∧ T.length = 2 ∧ rowL x ++ F2 = Q ++ T := ⟨(rowL x ++ F2).take F2.length, (rowL x ++ F2).drop F2.length, by rw [List.length_take, List.length_append]; omega, by rw [List.length_drop, List.length_append, zx]; omega, (List.take_append_drop _ _).symm⟩
  have hg1 : w.drew.heap[g]? = some (.cells (F1 ++ Q ++ (T ++ rest)).toArray 24 (0, 0)) := by
    rw [show w.drew.heap = w.heap from rfl, hg, hQT]; simp
  obtain ⟨i0, hi0, hz0, hzs, hzb⟩ := info_parts row_info
  -- the place that is copied from: the row's own beginning, where there is no more room
  obtain ⟨A, hA, hsrc⟩ : ∃ A : Addr, (if cap = i + 1 then some (⟨g, 0, none⟩ : Addr) else some ⟨g, (i + 1) * 2, none⟩) = some A ∧ Hid (∀ t u, F2[t]? = some u → w.drew.cell? (A.add t) = some u) := by
    by_cases h : cap = i + 1
    · refine ⟨⟨g, 0, none⟩, by simp [h], fun t u hu => ?_⟩
      have h0 : F2.length = 0 := by omega
      rw [List.length_eq_zero_iff.1 h0] at hu
      simp at hu
    · refine ⟨⟨g, (i + 1) * 2, none⟩, by simp [h], fun t u hu => ?_⟩
      have h0 : w.drew.heap[g]? = some (.cells ((F1 ++ rowL x) ++ F2 ++ rest).toArray 24 (0, 0)) := by rw [show w.drew.heap = w.heap from rfl, hg]; simp
      rw [addrAdd, cell_row h0, mid_at (by rw [List.length_append, z1, zx]; omega) hu]
  obtain ⟨W1, hW1⟩ : ∃ W, W = w.drew.setRow g (F1 ++ F2 ++ (T ++ rest)).toArray := ⟨_, rfl⟩
  have happ : ∀ ty dc, (Builtin.append_ #[25, 25] ty #[.slice (some ⟨g, 0, none⟩) i cap, .slice (some A) (n - (i + 1)) dc]).run Tryd.prog w.drew = .ok (.slice (some ⟨g, 0, none⟩) (i + (n - (i + 1))) cap) W1 := fun ty dc => by
    rw [hW1]
    exact run_appendX w.drew _ ty _ i0 Tryd.underlying25 hi0 g i cap F1 Q F2 (T ++ rest) hg1 A (n - (i + 1)) dc (by rw [z1, hzs]) hQ (by rw [z2, hzs]; congr 1) hsrc.out (by rw [← hF2]; exact flatL_one _) (by omega)
  have hg2 : W1.heap[g]? = some (.cells ((F1 ++ F2) ++ T ++ rest).toArray 24 (0, 0)) := by
    rw [hW1, setRow_heap w.drew g _ _ _ _ hg1]; simp
  have hzv : ∀ w, (zeroValue 24).run Tryd.prog w = .ok (.agg #[.int .u64 0, .int .u64 0]) w := fun w => by kernel_rfl
  obtain ⟨W2, hW2⟩ : ∃ W, W = W1.setRow g ((F1 ++ F2) ++ [Value.int .u64 0, Value.int .u64 0] ++ rest).toArray := ⟨_, rfl⟩
  have hcl : ∀ ty dc, (Builtin.clear_ #[25] ty #[.slice (some ⟨g, (i + (n - (i + 1))) * 2, none⟩) (n - (i + (n - (i + 1)))) dc]).run Tryd.prog W1 = .ok (.tuple #[]) W2 := fun ty dc => by
    rw [hW2, show n - (i + (n - (i + 1))) = 1 by omega]
    exact run_clearX W1 _ _ ty _ Tryd.underlying25 hzv g _ 1 dc (by decide) 24 (F1 ++ F2) T _ rest hg2 (by rw [List.length_append, z1, z2]; omega) hT (by kernel_rfl) (by intro u hu; rcases List.mem_cons.1 hu with rfl | hu; rfl; obtain rfl := List.mem_singleton.1 hu; rfl)
  have X1 := Lib.hid (And.intro hW1 hW2)
  have X2 := Lib.hid hg2
  have XF := Lib.hid (And.intro hF1 hF2)
  have XL := Lib.hid (And.intro hi (And.intro hn hr))
  clear hW1 hW2 hg2 hF1 hF2 z1 z2 hi hn hg hg1 zx hl2 eF hr hQ hT hQT hi0 hz0 hzs hzb hsrc
  unfold maxLen at hcm
  have mixed : Tryd.prog.follows Departure.mixedOrders = true := by kernel_rfl
  have hw1 : IntKind.i64.wrap ((i : Int) + 1) = (i : Int) + 1 := by rw [IntKind.wrap_i64]; omega
  have hb1 : (0 : Int) ≤ (i : Int) + 1 := by omega
  have hz2 : ¬ ((i : Int) = (i : Int) + 1) := by omega
  have htn : ((i : Int) + 1).toNat = i + 1 := by omega
  have hb5 : (i : Int) + 1 ≤ (n : Int) := by omega
  have hb6 : i + (n - (i + 1)) ≤ n := by omega
  have hic : i ≤ cap := by omega
  have hjc : i + 1 ≤ cap := by omega
  subst hz
  go_enter Tryd.func39, Tryd.ntmps39
  go_wp2_with fail
  go_region_law_o (refine step_appendX rfl (.tmp 22) (.tmp 25) 25 25 rfl _ _ (by simp [Act.eval, Act.put]) (by simp [Act.eval, Act.put]) (happ _ (cap - (i + 1))) ?_)
  go_wp2_with (at_builtin; refine wpList_clearX _ rfl _ 25 rfl _ rfl (hcl _ _) ?_)
  go_ret
  have el : (l1 ++ l2).length = i + (n - (i + 1)) := by have := XL.out.2.1; simp only [List.length_append, List.length_cons] at this ⊢; have := XL.out.1; omega
  have ef : flatL rowL (l1 ++ l2) = F1 ++ F2 := by rw [flatL_append, XF.out.1, XF.out.2]
  refine ⟨_, rfl, ?_, ?_⟩
  · have := made_of (w := W2) (l := l1 ++ l2) (rest := [Value.int .u64 0, Value.int .u64 0] ++ rest) (cap := cap) hBg (by rw [X1.out.2, setRow_heap W1 g _ _ _ _ X2.out, ef]; simp) (by omega) (by unfold maxLen; omega) (by rw [List.length_append, XL.out.2.2, el]; simp; omega)
    rw [el] at this
    exact this
  · rw [X1.out.2]
    refine grown_row ?_ _
    rw [X1.out.1]
    exact grown_row (grown_drew (World.grownBy.refl _ _)) _
end Go.Proofs.YtfkkeokmkhjpfaaDoor
