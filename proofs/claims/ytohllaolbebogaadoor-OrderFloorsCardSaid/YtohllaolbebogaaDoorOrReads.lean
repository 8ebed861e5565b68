/- The document's own answers on an index: what an operation that only reads answers: a value, a floor, a scan. -/
import Derived.Test.YtohllaolbebogaaDoorOrRef
namespace Go.Proofs.YtohllaolbebogaaDoor
open Go.RowKit Tb Pt Opn

theorem get_hit {l : List R} {a j : Nat} (hj : j < l.length) (h : l[j].1 = a) (hn : ∀ m, (hm : m < l.length) → m < j → l[m].1 ≠ a) : Tb.get l a = some l[j].2 := by
  have h1 := fnd_hit hj hn h
  rcases fnd_get l a with ⟨h2, _⟩ | ⟨i, hi, h2, _, h3⟩
  · omega
  · have : i = j := by omega
    subst this
    exact h3
theorem get_miss {l : List R} {a : Nat} (hn : ∀ m, (hm : m < l.length) → l[m].1 ≠ a) : Tb.get l a = none := by
  rcases fnd_get l a with ⟨_, h⟩ | ⟨i, hi, _, h2, _⟩
  · exact h
  · exact absurd h2 (hn i hi)
/-- The last row whose key is a at most. -/
def flo (l : List R) (a : Nat) : List R := match (l.filter fun x => decide (x.1 ≤ a)).getLast? with | some x => [x] | none => []
/-- The rows whose keys are from a to b. -/
def scan (l : List R) (a b : Nat) : List R := l.filter fun x => decide (a ≤ x.1) && decide (x.1 ≤ b)
theorem flo_take {l : List R} {a j : Nat} (hj : j < l.length) : flo (l.take (j + 1)) a = if l[j].1 ≤ a then [l[j]] else flo (l.take j) a := by
  unfold flo
  rw [List.take_succ_eq_append_getElem hj, List.filter_append]
  by_cases h : l[j].1 ≤ a
  · rw [if_pos h, List.filter_cons_of_pos (by simpa using h)]; simp
  · rw [if_neg h, List.filter_cons_of_neg (by simpa using h)]; simp
theorem flo_len (l : List R) (a : Nat) : (flo l a).length ≤ 1 := by
  unfold flo
  split <;> simp
theorem scan_take {l : List R} {a b j : Nat} (hj : j < l.length) : scan (l.take (j + 1)) a b = scan (l.take j) a b ++ (if a ≤ l[j].1 ∧ l[j].1 ≤ b then [l[j]] else []) := by
  unfold scan
  rw [List.take_succ_eq_append_getElem hj, List.filter_append]
  by_cases h : a ≤ l[j].1 ∧ l[j].1 ≤ b
  · rw [if_pos h, List.filter_cons_of_pos (by simpa using h)]; simp
  · rw [if_neg h, List.filter_cons_of_neg (by simpa using h)]; simp
theorem scan_len (l : List R) (a b j : Nat) : (scan (l.take j) a b).length ≤ l.length := by
  unfold scan
  exact Nat.le_trans (List.length_filter_le _ _) (List.length_take_le' _ _)
/-- What an operation that only reads answers: the code, the word, the rows. -/
def readR (l : List R) (k a b : Nat) : Int × Int × List R :=
  if k = 6 then (match Tb.get l a with | some v => (0, ((v + 1) % 4294967296 : Nat), []) | none => (6, 0, []))
  else if k = 7 then (if flo l a = [] then 6 else 0, 0, flo l a)
  else (0, 0, scan l a b)
/-- An answer with rows of its own. -/
def ResR (s : Int × Int × List R) (w : World) (e : Ending) (w' : World) : Prop := ∃ u, e = .returned (.agg #[.int .i64 s.1, .int .u32 s.2.1, u]) ∧ MadeX w' w.heap.size 37 2 rowL u s.2.2 ∧ Below w.heap.size w w'
theorem MadeX.down' {w : World} {B B' : Nat} {v : Value} {l : List R} (h : MadeX w B 37 2 rowL v l) (hB : B' ≤ B) : MadeX w B' 37 2 rowL v l := by
  refine ⟨h.1, ?_⟩
  rcases h.2 with h | ⟨g, cap, cur, h1, h2, h3⟩
  · exact .inl h
  · exact .inr ⟨g, cap, cur, h1, Nat.le_trans hB h2, h3⟩

set_option maxRecDepth 20000 in
set_option maxHeartbeats 4000000 in
theorem rReads_get (A : Option Addr) (l : List R) (d a b v : Nat) (hl : l.length ≤ 1000000) (hv : ∀ x ∈ l, OrOk x) (ha : a < 4294967296) (hb : b < 4294967296) (w : World) (h : IsR w A l) :
    Calls Tryd.prog 48 #[.slice A l.length d, .agg #[.int .u8 6, .int .u32 a, .int .u32 b, .int .u32 v]] w (ResR (readR l 6 a b) w) := by
  have HA := Lib.hid h
  have HVV := Lib.hid hv
  obtain ⟨N, hN⟩ : ∃ N, l.length = N := ⟨_, rfl⟩
  rw [hN] at hl ⊢
  have HN := Lib.hid hN
  obtain ⟨s, hs⟩ : ∃ s, readR l 6 a b = s := ⟨_, rfl⟩
  rw [hs]
  have HS := Lib.hid hs
  have hwa : IntKind.u64.wrap (a : Int) = (a : Int) := by rw [IntKind.wrap_u64]; omega
  have hwb : IntKind.u64.wrap (b : Int) = (b : Int) := by rw [IntKind.wrap_u64]; omega
  clear hN h hs hv
  go_enter Tryd.func48, Tryd.ntmps48
  go_wp2
  obtain ⟨W, hW⟩ : ∃ W, W = (w.alloc (.cells #[.int .u8 6, .int .u32 a, .int .u32 b, .int .u32 v] 34)).alloc (.cells #[.int .i64 0, .int .u32 0, .slice none 0 0] 27) := ⟨_, rfl⟩
  have hbW : Below w.heap.size w W := by rw [hW]; exact below_two _ _ _
  have k0 : W.cell? ⟨w.heap.size, 0, none⟩ = some (.int .u8 6) := by rw [hW]; simp [go_sem]
  have k1 : W.cell? ⟨w.heap.size, 1, none⟩ = some (.int .u32 a) := by rw [hW]; simp [go_sem]
  have k2 : W.cell? ⟨w.heap.size, 2, none⟩ = some (.int .u32 b) := by rw [hW]; simp [go_sem]
  have hww : W.heap.size = w.heap.size + 2 := by rw [hW]; simp
  have HRES : W.heap[w.heap.size + 1]? = some (.cells #[.int .i64 0, .int .u32 0, .slice none 0 0] 27 (0, 0)) := by
    rw [hW]
    exact heap_alloc_new (w.alloc (.cells #[.int .u8 6, .int .u32 a, .int .u32 b, .int .u32 v] 34)) _ |> fun h => by simpa using h
  have HAW := Lib.hid (HA.out.below hbW)
  have HBW := Lib.hid hbW
  rw [← hW]
  clear hW hbW
  obtain ⟨B, hB⟩ : ∃ B, W.heap.size = B := ⟨_, rfl⟩
  have HB := Lib.hid hB
  clear hB
  go_loopw [5, 6] (fun ov iv wr => Below W.heap.size W wr ∧ ∃ j : Nat, j ≤ N ∧ iv = .int .i64 j ∧ ov = .slice none 0 0 ∧ Hid (∀ m, (hm : m < l.length) → m < j → l[m].1 ≠ a)) (fun _ i _ => N - (intOf i).toNat)
  case atStart => exact ⟨Below.refl _ _, 0, Nat.zero_le _, rfl, rfl, Lib.hid fun m _ hm => by omega⟩
  case round =>
    obtain ⟨hbr, j, hj, rfl, HV⟩ := hrel
    obtain ⟨rfl, HO⟩ := HV
    have i1 : (0 : Int) ≤ (j : Int) := by omega
    have hqs : w.heap.size < wr.heap.size := by have := hbr.size; omega
    have hqs2 : w.heap.size + 1 < wr.heap.size := by have := hbr.size; omega
    have HR := Lib.hid ((hbr.block _ (by omega)).trans HRES)
    replace k0 := (hbr.cell (World.block_lt_of_cell? _ _ k0)).trans k0
    replace k1 := (hbr.cell (World.block_lt_of_cell? _ _ k1)).trans k1
    replace k2 := (hbr.cell (World.block_lt_of_cell? _ _ k2)).trans k2
    by_cases hlt : j < N
    · have j1 : j < l.length := by rw [HN.out]; exact hlt
      obtain ⟨bk, off, rfl, h1, h2⟩ := HAW.out.row j1
      replace h1 := (hbr.cell (World.block_lt_of_cell? _ _ h1)).trans h1
      replace h2 := (hbr.cell (World.block_lt_of_cell? _ _ h2)).trans h2
      have i2 : (j : Int) < (N : Int) := by omega
      have hq := HVV.out _ (List.getElem_mem j1)
      unfold OrOk at hq
      obtain ⟨q1, e1⟩ : ∃ q, l[j].1 = q := ⟨_, rfl⟩
      obtain ⟨q2, e2⟩ : ∃ q, l[j].2 = q := ⟨_, rfl⟩
      rw [e1] at h1 hq
      rw [e2] at h2 hq
      have E := Lib.hid (Prod.ext e1 e2 : l[j] = (q1, q2))
      have E1 := Lib.hid e1
      have E2 := Lib.hid e2
      clear e1 e2
      by_cases d1 : q1 = a
      · subst d1
        have hg := get_hit j1 E1.out HO.out
        have e1 : s = (0, (((q2 + 1) % 4294967296 : Nat) : Int), []) := by rw [← HS.out]; unfold readR; rw [if_pos rfl, hg, E2.out]
        have HWo := Lib.hid (rWord_any q2 (by omega))
        obtain ⟨y, hy⟩ : ∃ y, (q2 + 1) % 4294967296 = y := ⟨_, rfl⟩
        rw [hy] at HWo e1
        clear hy hg
        subst e1
        go_wp2_with (go_at_call 51; refine (HWo.out _).mono ?_; rintro e w3 ⟨rfl, hb3⟩; have HR3 := Lib.hid ((hb3.block _ (by omega)).trans HR.out); obtain ⟨r0, f0, r1, f1, r2, f2⟩ := res_cells HR3.out)
        refine bodyPost_ret (v := .agg #[.int .i64 0, .int .u32 y, .slice none 0 0]) ?_ rfl ⟨_, rfl, MadeX.nil _ _ _ _ _, ?_⟩
        · simp [results, Tryd.results48, go_sem, r0, r1, r2]
        · exact below_set3 ((below_then HBW.out hbr).trans (hb3.mono (by omega))) (Nat.le_succ _) _ _ _
      · have d2 : ¬ (q1 : Int) = (a : Int) := by omega
        go_wp2
        go_roundw
        case rel => exact ⟨hbr, j + 1, by omega, by go_num, rfl, Lib.hid fun m hm1 hm2 => by
          by_cases e : m = j
          · subst e; rw [E1.out]; exact d1
          · exact HO.out m hm1 (by omega)⟩
        case measure => simp [intOf]; omega
    · obtain rfl : j = N := by omega
      have hg := get_miss (l := l) (a := a) fun m hm => HO.out m hm (by rw [← HN.out]; exact hm)
      have e1 : s = (6, 0, []) := by rw [← HS.out]; unfold readR; rw [if_pos rfl, hg]
      clear hg
      subst e1
      obtain ⟨r0, f0, r1, f1, r2, f2⟩ := res_cells HR.out
      go_wp2
      refine bodyPost_ret (v := .agg #[.int .i64 6, .int .u32 0, .slice none 0 0]) ?_ rfl ⟨_, rfl, MadeX.nil _ _ _ _ _, ?_⟩
      · simp [results, Tryd.results48, go_sem, r0, r1, r2]
      · exact below_set3 (below_then HBW.out hbr) (Nat.le_succ _) _ _ _

set_option maxRecDepth 20000 in
set_option maxHeartbeats 4000000 in
theorem rReads_floor (A : Option Addr) (l : List R) (d a b v : Nat) (hl : l.length ≤ 1000000) (hv : ∀ x ∈ l, OrOk x) (ha : a < 4294967296) (hb : b < 4294967296) (w : World) (h : IsR w A l) :
    Calls Tryd.prog 48 #[.slice A l.length d, .agg #[.int .u8 7, .int .u32 a, .int .u32 b, .int .u32 v]] w (ResR (readR l 7 a b) w) := by
  have HA := Lib.hid h
  have HVV := Lib.hid hv
  obtain ⟨N, hN⟩ : ∃ N, l.length = N := ⟨_, rfl⟩
  rw [hN] at hl ⊢
  have HN := Lib.hid hN
  obtain ⟨s, hs⟩ : ∃ s, readR l 7 a b = s := ⟨_, rfl⟩
  rw [hs]
  have HS := Lib.hid hs
  have hwa : IntKind.u64.wrap (a : Int) = (a : Int) := by rw [IntKind.wrap_u64]; omega
  have hwb : IntKind.u64.wrap (b : Int) = (b : Int) := by rw [IntKind.wrap_u64]; omega
  clear hN h hs hv
  go_enter Tryd.func48, Tryd.ntmps48
  go_wp2
  obtain ⟨W, hW⟩ : ∃ W, W = (w.alloc (.cells #[.int .u8 7, .int .u32 a, .int .u32 b, .int .u32 v] 34)).alloc (.cells #[.int .i64 0, .int .u32 0, .slice none 0 0] 27) := ⟨_, rfl⟩
  have hbW : Below w.heap.size w W := by rw [hW]; exact below_two _ _ _
  have k0 : W.cell? ⟨w.heap.size, 0, none⟩ = some (.int .u8 7) := by rw [hW]; simp [go_sem]
  have k1 : W.cell? ⟨w.heap.size, 1, none⟩ = some (.int .u32 a) := by rw [hW]; simp [go_sem]
  have k2 : W.cell? ⟨w.heap.size, 2, none⟩ = some (.int .u32 b) := by rw [hW]; simp [go_sem]
  have hww : W.heap.size = w.heap.size + 2 := by rw [hW]; simp
  have HRES : W.heap[w.heap.size + 1]? = some (.cells #[.int .i64 0, .int .u32 0, .slice none 0 0] 27 (0, 0)) := by
    rw [hW]
    exact heap_alloc_new (w.alloc (.cells #[.int .u8 7, .int .u32 a, .int .u32 b, .int .u32 v] 34)) _ |> fun h => by simpa using h
  have HAW := Lib.hid (HA.out.below hbW)
  have HBW := Lib.hid hbW
  rw [← hW]
  clear hW hbW
  obtain ⟨B, hB⟩ : ∃ B, W.heap.size = B := ⟨_, rfl⟩
  have HB := Lib.hid hB
  clear hB
  go_loopw [5, 6] (fun ov iv wr => Below W.heap.size W wr ∧ ∃ j : Nat, j ≤ N ∧ iv = .int .i64 j ∧ Hid (MadeX wr W.heap.size 37 2 rowL ov (flo (l.take j) a))) (fun _ i _ => N - (intOf i).toNat)
  case atStart => exact ⟨Below.refl _ _, 0, Nat.zero_le _, rfl, Lib.hid (MadeX.nil _ _ _ _ _)⟩
  case round =>
    obtain ⟨hbr, j, hj, rfl, HV⟩ := hrel
    have i1 : (0 : Int) ≤ (j : Int) := by omega
    have hqs : w.heap.size < wr.heap.size := by have := hbr.size; omega
    have hqs2 : w.heap.size + 1 < wr.heap.size := by have := hbr.size; omega
    have HR := Lib.hid ((hbr.block _ (by omega)).trans HRES)
    replace k0 := (hbr.cell (World.block_lt_of_cell? _ _ k0)).trans k0
    replace k1 := (hbr.cell (World.block_lt_of_cell? _ _ k1)).trans k1
    replace k2 := (hbr.cell (World.block_lt_of_cell? _ _ k2)).trans k2
    by_cases hlt : j < N
    · have j1 : j < l.length := by rw [HN.out]; exact hlt
      obtain ⟨bk, off, rfl, h1, h2⟩ := HAW.out.row j1
      replace h1 := (hbr.cell (World.block_lt_of_cell? _ _ h1)).trans h1
      replace h2 := (hbr.cell (World.block_lt_of_cell? _ _ h2)).trans h2
      have i2 : (j : Int) < (N : Int) := by omega
      have hq := HVV.out _ (List.getElem_mem j1)
      unfold OrOk at hq
      obtain ⟨q1, e1⟩ : ∃ q, l[j].1 = q := ⟨_, rfl⟩
      obtain ⟨q2, e2⟩ : ∃ q, l[j].2 = q := ⟨_, rfl⟩
      rw [e1] at h1 hq
      rw [e2] at h2 hq
      have E := Lib.hid (Prod.ext e1 e2 : l[j] = (q1, q2))
      have E1 := Lib.hid e1
      have E2 := Lib.hid e2
      clear e1 e2
      have HT := Lib.hid (flo_take (a := a) j1)
      by_cases d1 : q1 ≤ a
      · have d2 : (q1 : Int) ≤ (a : Int) := by omega
        have HW1 := Lib.hid (show MadeX (wr.alloc (.cells #[.int .u64 q1, .int .u64 q2] 37)) W.heap.size 37 2 rowL (.slice (some ⟨wr.heap.size, 0, none⟩) 1 1) [(q1, q2)] from MadeX.down' (World.ownsRow_lit wr #[.int .u64 q1, .int .u64 q2] 1 (Nat.le_refl _) (by unfold maxLen; omega) rfl) hbr.size)
        go_wp2
        go_roundw
        case rel => exact ⟨below_then hbr (below_one _ _), j + 1, by omega, by go_num, Lib.hid (by rw [HT.out, E.out, if_pos d1]; exact HW1.out)⟩
        case measure => simp [intOf]; omega
      · have d2 : ¬ (q1 : Int) ≤ (a : Int) := by omega
        go_wp2
        go_roundw
        case rel => exact ⟨hbr, j + 1, by omega, by go_num, Lib.hid (by rw [HT.out, E.out, if_neg d1]; exact HV.out)⟩
        case measure => simp [intOf]; omega
    · obtain rfl : j = N := by omega
      rw [List.take_of_length_le (by rw [HN.out]; exact Nat.le_refl _)] at HV
      obtain ⟨AA, cc, rfl, hc, hcn, hLL⟩ := MadeX.form rowL_len HV.out
      have HMM := Lib.hid (fun x y z => MadeX.down' (made_stored3 HV.out (g := w.heap.size + 1) (fun e => by have := (MadeX.lt HV.out _ e).1; omega) x y z) (show w.heap.size ≤ W.heap.size by omega))
      obtain ⟨r0, f0, r1, f1, r2, f2⟩ := res_cells HR.out
      have hfl := flo_len l a
      have es : s = (if flo l a = [] then 6 else 0, 0, flo l a) := by rw [← HS.out]; unfold readR; rw [if_neg (by decide), if_pos rfl]
      by_cases hn : flo l a = []
      · have h0 : (flo l a).length = 0 := by rw [hn]; rfl
        rw [if_pos hn, hn] at es
        subst es
        rw [h0]
        clear HV hLL hn HMM
        go_wp2
        refine bodyPost_ret (v := .agg #[.int .i64 6, .int .u32 0, .slice none 0 0]) ?_ rfl ⟨_, rfl, MadeX.nil _ _ _ _ _, ?_⟩
        · simp [results, Tryd.results48, go_sem, r0, r1, r2]
        · exact below_set3 (below_then HBW.out hbr) (Nat.le_succ _) _ _ _
      · have h1 : (flo l a).length = 1 := by have := List.length_pos_iff.2 hn; omega
        rw [if_neg hn] at es
        subst es
        rw [h1] at HMM ⊢
        clear HV hLL hn
        go_wp2
        refine bodyPost_ret (v := .agg #[.int .i64 0, .int .u32 0, .slice AA 1 cc]) ?_ rfl ⟨_, rfl, HMM.out _ _ _, ?_⟩
        · simp [results, Tryd.results48, go_sem, r0, r1, r2]
        · exact below_set3 (below_then HBW.out hbr) (Nat.le_succ _) _ _ _

set_option maxRecDepth 20000 in
set_option maxHeartbeats 4000000 in
theorem rReads_scan (A : Option Addr) (l : List R) (d a b v : Nat) (hl : l.length ≤ 1000000) (hv : ∀ x ∈ l, OrOk x) (ha : a < 4294967296) (hb : b < 4294967296) (w : World) (h : IsR w A l) :
    Calls Tryd.prog 48 #[.slice A l.length d, .agg #[.int .u8 8, .int .u32 a, .int .u32 b, .int .u32 v]] w (ResR (readR l 8 a b) w) := by
  have HA := Lib.hid h
  have HVV := Lib.hid hv
  obtain ⟨N, hN⟩ : ∃ N, l.length = N := ⟨_, rfl⟩
  rw [hN] at hl ⊢
  have HN := Lib.hid hN
  obtain ⟨s, hs⟩ : ∃ s, readR l 8 a b = s := ⟨_, rfl⟩
  rw [hs]
  have HS := Lib.hid hs
  have hwa : IntKind.u64.wrap (a : Int) = (a : Int) := by rw [IntKind.wrap_u64]; omega
  have hwb : IntKind.u64.wrap (b : Int) = (b : Int) := by rw [IntKind.wrap_u64]; omega
  clear hN h hs hv
  go_enter Tryd.func48, Tryd.ntmps48
  go_wp2
  obtain ⟨W, hW⟩ : ∃ W, W = (w.alloc (.cells #[.int .u8 8, .int .u32 a, .int .u32 b, .int .u32 v] 34)).alloc (.cells #[.int .i64 0, .int .u32 0, .slice none 0 0] 27) := ⟨_, rfl⟩
  have hbW : Below w.heap.size w W := by rw [hW]; exact below_two _ _ _
  have k0 : W.cell? ⟨w.heap.size, 0, none⟩ = some (.int .u8 8) := by rw [hW]; simp [go_sem]
  have k1 : W.cell? ⟨w.heap.size, 1, none⟩ = some (.int .u32 a) := by rw [hW]; simp [go_sem]
  have k2 : W.cell? ⟨w.heap.size, 2, none⟩ = some (.int .u32 b) := by rw [hW]; simp [go_sem]
  have hww : W.heap.size = w.heap.size + 2 := by rw [hW]; simp
  have HRES : W.heap[w.heap.size + 1]? = some (.cells #[.int .i64 0, .int .u32 0, .slice none 0 0] 27 (0, 0)) := by
    rw [hW]
    exact heap_alloc_new (w.alloc (.cells #[.int .u8 8, .int .u32 a, .int .u32 b, .int .u32 v] 34)) _ |> fun h => by simpa using h
  have HAW := Lib.hid (HA.out.below hbW)
  have HBW := Lib.hid hbW
  rw [← hW]
  clear hW hbW
  obtain ⟨B, hB⟩ : ∃ B, W.heap.size = B := ⟨_, rfl⟩
  have HB := Lib.hid hB
  clear hB
  go_loopw [5, 6] (fun ov iv wr => Below W.heap.size W wr ∧ ∃ j : Nat, j ≤ N ∧ iv = .int .i64 j ∧ Hid (MadeX wr W.heap.size 37 2 rowL ov (scan (l.take j) a b))) (fun _ i _ => N - (intOf i).toNat)
  case atStart => exact ⟨Below.refl _ _, 0, Nat.zero_le _, rfl, Lib.hid (MadeX.nil _ _ _ _ _)⟩
  case round =>
    obtain ⟨hbr, j, hj, rfl, HV⟩ := hrel
    have i1 : (0 : Int) ≤ (j : Int) := by omega
    have hqs : w.heap.size < wr.heap.size := by have := hbr.size; omega
    have hqs2 : w.heap.size + 1 < wr.heap.size := by have := hbr.size; omega
    have HR := Lib.hid ((hbr.block _ (by omega)).trans HRES)
    replace k0 := (hbr.cell (World.block_lt_of_cell? _ _ k0)).trans k0
    replace k1 := (hbr.cell (World.block_lt_of_cell? _ _ k1)).trans k1
    replace k2 := (hbr.cell (World.block_lt_of_cell? _ _ k2)).trans k2
    by_cases hlt : j < N
    · have j1 : j < l.length := by rw [HN.out]; exact hlt
      obtain ⟨bk, off, rfl, h1, h2⟩ := HAW.out.row j1
      replace h1 := (hbr.cell (World.block_lt_of_cell? _ _ h1)).trans h1
      replace h2 := (hbr.cell (World.block_lt_of_cell? _ _ h2)).trans h2
      have i2 : (j : Int) < (N : Int) := by omega
      have hq := HVV.out _ (List.getElem_mem j1)
      unfold OrOk at hq
      obtain ⟨q1, e1⟩ : ∃ q, l[j].1 = q := ⟨_, rfl⟩
      obtain ⟨q2, e2⟩ : ∃ q, l[j].2 = q := ⟨_, rfl⟩
      rw [e1] at h1 hq
      rw [e2] at h2 hq
      have E := Lib.hid (Prod.ext e1 e2 : l[j] = (q1, q2))
      have E1 := Lib.hid e1
      have E2 := Lib.hid e2
      clear e1 e2
      have HT := Lib.hid (scan_take (a := a) (b := b) j1)
      have CL := Lib.hid (scan_len l a b j)
      by_cases d1 : a ≤ q1 ∧ q1 ≤ b
      · have d2 : (a : Int) ≤ (q1 : Int) := by omega
        have d3 : (q1 : Int) ≤ (b : Int) := by omega
        go_wp2_with (at_builtin
                     refine wpList_pushX (w0 := W) rfl (.tmp 68) (.tmp 73) _ rfl Tryd.underlying22 row_info rfl (by decide) (by decide) (B := W.heap.size) (l := scan (l.take j) a b) (q1, q2) rfl rfl (HV.out.alloc _) wr.heap.size 0 1 rfl (fun j u h => rowBoxed _ q1 q2 j u h) (row_one _) (by have := CL.out; rw [HN.out] at this; omega) (Nat.le_refl _) (hbr.alloc hbr.size _) ?_
                     intro va' W4 HV4 hbW4 Hg4 Ho4)
        go_roundw
        case rel => exact ⟨hbW4, j + 1, by omega, by go_num, Lib.hid (by rw [HT.out, E.out, if_pos d1]; exact HV4.out)⟩
        case measure => simp [intOf]; omega
      · have HW1 := Lib.hid (show MadeX wr W.heap.size 37 2 rowL _ (scan (l.take (j + 1)) a b) by rw [HT.out, E.out, if_neg d1, List.append_nil]; exact HV.out)
        by_cases d2 : (a : Int) ≤ (q1 : Int)
        · have d3 : ¬ (q1 : Int) ≤ (b : Int) := by omega
          go_wp2
          go_roundw
          case rel => exact ⟨hbr, j + 1, by omega, by go_num, HW1⟩
          case measure => simp [intOf]; omega
        · go_wp2
          go_roundw
          case rel => exact ⟨hbr, j + 1, by omega, by go_num, HW1⟩
          case measure => simp [intOf]; omega
    · obtain rfl : j = N := by omega
      rw [List.take_of_length_le (by rw [HN.out]; exact Nat.le_refl _)] at HV
      obtain ⟨AA, cc, rfl, hc, hcn, hLL⟩ := MadeX.form rowL_len HV.out
      have HMM := Lib.hid (fun x y z => MadeX.down' (made_stored3 HV.out (g := w.heap.size + 1) (fun e => by have := (MadeX.lt HV.out _ e).1; omega) x y z) (show w.heap.size ≤ W.heap.size by omega))
      obtain ⟨r0, f0, r1, f1, r2, f2⟩ := res_cells HR.out
      have es : s = (0, 0, scan l a b) := by rw [← HS.out]; unfold readR; rw [if_neg (by decide), if_neg (by decide)]
      subst es
      obtain ⟨M, hM⟩ : ∃ M, (scan l a b).length = M := ⟨_, rfl⟩
      rw [hM] at HMM ⊢
      clear HV hLL hM
      go_wp2
      refine bodyPost_ret (v := .agg #[.int .i64 0, .int .u32 0, .slice AA M cc]) ?_ rfl ⟨_, rfl, HMM.out _ _ _, ?_⟩
      · simp [results, Tryd.results48, go_sem, r0, r1, r2]
      · exact below_set3 (below_then HBW.out hbr) (Nat.le_succ _) _ _ _
end Go.Proofs.YtohllaolbebogaaDoor
