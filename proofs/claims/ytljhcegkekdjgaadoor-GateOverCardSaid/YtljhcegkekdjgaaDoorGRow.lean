/- The document's own answers on a node's depth, and on the node above one. The document's own answers on lists of rows: the same, a key's place, those that rise, a copy. The document's own answers on lists of rows that are made: a copy, with a row, without one. Where a key stands among rows that rise, and a search's halves. cmp.Compare at numbers without a sign. cmp.Compare at numbers without a sign, and the search's comparison of a row with a node. slices.BinarySearchFunc over rows that rise, with the program's own comparison: the place of a node, and whether it is there; the program's seek. Rows, for every layer that keeps them: the document's own answers (two answers that are the same, a word, a row put in), what a value is in a world, what stays. A word: a value, and one. copy, clear and append on a call's own rows, of whatever element size: by what lies ahead of, in, and behind what is turned; rows of the call's own, in whose block rows are turned, beside memory that is made. What every layer with rows needs of its own program: what a call leaves that turns rows of its own, a row turned in its place. slices.Delete of one row, of rows of the call's own. slices.Insert of one row, into rows of the call's own. A copy of rows in new memory: slices.Clone. A function that holds a label, without a goto, walked inside the wide fence. -/
import Derived.Test.YtljhcegkekdjgaaDoorProg
import Derived.Test.YtljhcegkekdjgaaDoorGMath
import Derived.Test.YtljhcegkekdjgaaDoorGKit
import Derived.Deep.LoopGhost
import Derived.Laws.CopyRow
import Derived.Lib.AppendZerosOnto
import Derived.Lib.Overlaps
import Derived.Deep.RegionLaw
import Derived.Shelf.RegionOpenPlain
import Derived.ControlIn
import Derived.Scope
import Derived.AtR
namespace Go.Proofs.YtljhcegkekdjgaaDoor
open Go.RowKit
end Go.Proofs.YtljhcegkekdjgaaDoor

namespace Go.Proofs.YtljhcegkekdjgaaDoor
open Go.RowKit Tb

def rowL (x : R) : List Value := [.int .u64 (x.1 : Nat), .int .u64 (x.2 : Nat)]
theorem rowL_len (x : R) : (rowL x).length = 2 := rfl
/-- Rows lie at A. -/
abbrev IsR (w : World) (A : Option Addr) (l : List R) : Prop := IsL w A 2 rowL l
theorem IsL.row {w : World} {A : Option Addr} {l : List R} (h : IsR w A l) {i : Nat} (hi : i < l.length) : ∃ b off, A = some ⟨b, off, none⟩ ∧ w.cell? ⟨b, off + i * 2, none⟩ = some (.int .u64 (l[i].1 : Nat)) ∧ w.cell? ⟨b, off + i * 2 + 1, none⟩ = some (.int .u64 (l[i].2 : Nat)) := by
  obtain ⟨b, off, e, h1⟩ := h i _ (List.getElem?_eq_getElem hi)
  exact ⟨b, off, e, h1 0 _ rfl, h1 1 _ rfl⟩

/-- Where the row of a key stands. -/
def fnd (l : List R) (k : Nat) : Int := match l.findIdx? (fun x => x.1 == k) with | some i => (i : Int) | none => -1

theorem fnd_hit {l : List R} {k i : Nat} (hi : i < l.length) (h : ∀ j, (hj : j < l.length) → j < i → (l[j]).1 ≠ k) (e : (l[i]).1 = k) : fnd l k = i := by
  have : l.findIdx? (fun x => x.1 == k) = some i := by
    rw [List.findIdx?_eq_some_iff_getElem]
    exact ⟨hi, by simpa using e, fun j hj => by have := h j (by omega) hj; simpa using this⟩
  unfold fnd
  rw [this]
theorem fnd_miss {l : List R} {k : Nat} (h : ∀ j, (hj : j < l.length) → (l[j]).1 ≠ k) : fnd l k = -1 := by
  have : l.findIdx? (fun x => x.1 == k) = none := by
    rw [List.findIdx?_eq_none_iff]
    intro x hx
    obtain ⟨j, hj, rfl⟩ := List.getElem_of_mem hx
    simpa using h j hj
  unfold fnd
  rw [this]

set_option maxHeartbeats 1000000 in
theorem rFind_any (A : Option Addr) (l : List R) (c : Nat) (hl : l.length ≤ 9223372036854775807) (k : Nat) (w : World) (h : IsR w A l) :
    Calls Tryd.prog 39 #[.slice A l.length c, .int .u64 k] w (Ret (.int .i64 (fnd l k)) w) := by
  have HA := Lib.hid h
  clear h
  obtain ⟨N, hN⟩ : ∃ N, l.length = N := ⟨_, rfl⟩
  rw [hN] at hl ⊢
  have HN := Lib.hid hN
  clear hN
  obtain ⟨z, hz⟩ : ∃ z, fnd l k = z := ⟨_, rfl⟩
  rw [hz]
  have HZ := Lib.hid hz
  clear hz
  go_enter Tryd.func39, Tryd.ntmps39
  go_wp2
  go_loopw [5] (fun i wr => w = wr ∧ ∃ j : Nat, j ≤ N ∧ i = .int .i64 j ∧ Hid (∀ m, (hm : m < l.length) → m < j → (l[m]).1 ≠ k)) (fun i _ => N - (intOf i).toNat)
  case atStart => exact ⟨rfl, 0, Nat.zero_le _, rfl, Lib.hid fun m _ hm => by omega⟩
  case round =>
    obtain ⟨rfl, j, hj, rfl, HM⟩ := hrel
    by_cases hlt : j < N
    · obtain ⟨b, off, rfl, h1, _⟩ := HA.out.row (i := j) (by rw [HN.out]; exact hlt)
      have i1 : (0 : Int) ≤ (j : Int) := by omega
      have i2 : (j : Int) < (N : Int) := by omega
      obtain ⟨q, hq⟩ : ∃ q, (l[j]'(by rw [HN.out]; exact hlt)).1 = q := ⟨_, rfl⟩
      rw [hq] at h1
      have HQ := Lib.hid hq
      clear hq
      by_cases he : q = k
      · subst he
        go_wp2
        go_ret
        exact Ret.mk (i64_eq (by rw [← HZ.out]; exact (fnd_hit (by rw [HN.out]; exact hlt) HM.out HQ.out).symm)) (Below.refl _ _)
      · have he' : ¬ (q : Int) = (k : Int) := by omega
        go_wp2
        go_roundw
        case rel => exact ⟨by trivial, j + 1, by omega, by go_num, Lib.hid fun m hm1 hm2 => by
          by_cases e : m = j
          · subst e; rw [HQ.out]; exact he
          · exact HM.out m hm1 (by omega)⟩
        case measure => simp [intOf]; omega
    · obtain rfl : j = N := by omega
      go_wp2
      go_ret
      exact Ret.mk (i64_eq (by rw [← HZ.out]; exact (fnd_miss fun m hm => HM.out m hm (by rw [← HN.out]; exact hm)).symm)) (Below.refl _ _)

set_option maxHeartbeats 1000000 in
theorem rSameRows_any (A B : Option Addr) (l m : List R) (c d : Nat) (hl : l.length ≤ 9223372036854775807) (w : World) (h : IsR w A l) (g : IsR w B m) :
    Calls Tryd.prog 22 #[.slice A l.length c, .slice B m.length d] w (Ret (.bool (decide (l = m))) w) := by
  by_cases hlen : l.length = m.length
  · have HA := Lib.hid h
    have HB := Lib.hid g
    obtain ⟨N, hN⟩ : ∃ N, l.length = N := ⟨_, rfl⟩
    rw [← hlen]
    rw [hN] at hl hlen ⊢
    have HN := Lib.hid hN
    have HM := Lib.hid hlen.symm
    clear h g hN hlen
    obtain ⟨z, hz⟩ : ∃ z, decide (l = m) = z := ⟨_, rfl⟩
    rw [hz]
    have HZ := Lib.hid hz
    clear hz
    go_enter Tryd.func22, Tryd.ntmps22
    go_wp2
    go_loopw [5] (fun i wr => Below w.heap.size w wr ∧ ∃ j : Nat, j ≤ N ∧ i = .int .i64 j ∧ Hid (∀ k, (h1 : k < l.length) → (h2 : k < m.length) → k < j → l[k] = m[k])) (fun i _ => N - (intOf i).toNat)
    case atStart => exact ⟨Below.refl _ _, 0, Nat.zero_le _, rfl, Lib.hid fun k _ _ hk => by omega⟩
    case round =>
      obtain ⟨hbr, j, hj, rfl, HS⟩ := hrel
      by_cases hlt : j < N
      · have j1 : j < l.length := by rw [HN.out]; exact hlt
        have j2 : j < m.length := by rw [HM.out]; exact hlt
        obtain ⟨b, off, rfl, h1, h2⟩ := HA.out.row j1
        obtain ⟨b', off', rfl, h3, h4⟩ := HB.out.row j2
        replace h1 := (hbr.cell (World.block_lt_of_cell? _ _ h1)).trans h1
        replace h2 := (hbr.cell (World.block_lt_of_cell? _ _ h2)).trans h2
        replace h3 := (hbr.cell (World.block_lt_of_cell? _ _ h3)).trans h3
        replace h4 := (hbr.cell (World.block_lt_of_cell? _ _ h4)).trans h4
        have i1 : (0 : Int) ≤ (j : Int) := by omega
        have i2 : (j : Int) < (N : Int) := by omega
        obtain ⟨q1, e1⟩ : ∃ q, l[j].1 = q := ⟨_, rfl⟩
        obtain ⟨q2, e2⟩ : ∃ q, l[j].2 = q := ⟨_, rfl⟩
        obtain ⟨q3, e3⟩ : ∃ q, m[j].1 = q := ⟨_, rfl⟩
        obtain ⟨q4, e4⟩ : ∃ q, m[j].2 = q := ⟨_, rfl⟩
        rw [e1] at h1
        rw [e2] at h2
        rw [e3] at h3
        rw [e4] at h4
        have E := Lib.hid (And.intro (And.intro e1 e2) (And.intro e3 e4))
        clear e1 e2 e3 e4
        by_cases d1 : q1 = q3
        · subst d1
          by_cases d2 : q2 = q4
          · subst d2
            go_wp2
            go_quiet (fail)
            go_wp2
            go_roundw
            case rel => exact ⟨hbr.trans ⟨rfl, rfl, rfl, Nat.le_refl _, fun _ _ => rfl⟩, j + 1, by omega, by go_num, Lib.hid fun k k1 k2 k3 => by
              by_cases e : k = j
              · subst e
                exact Prod.ext (E.out.1.1.trans E.out.2.1.symm) (E.out.1.2.trans E.out.2.2.symm)
              · exact HS.out k k1 k2 (by omega)⟩
            case measure => simp [intOf]; omega
          · have d3 : ¬ (q2 : Int) = (q4 : Int) := by omega
            have d4 : ((q2 : Int) != (q4 : Int)) = true := by simpa using d3
            go_wp2
            go_quiet (fail)
            go_wp2
            go_ret
            exact Ret.mk (bool_eq (by rw [← HZ.out, eq_comm, decide_eq_false_iff_not]; intro h; subst h; exact d2 (E.out.1.2.symm.trans E.out.2.2))) (hbr.trans ⟨rfl, rfl, rfl, Nat.le_refl _, fun _ _ => rfl⟩)
        · have d3 : ¬ (q1 : Int) = (q3 : Int) := by omega
          have d4 : ((q1 : Int) != (q3 : Int)) = true := by simpa using d3
          go_wp2
          go_quiet (fail)
          go_wp2
          go_ret
          exact Ret.mk (bool_eq (by rw [← HZ.out, eq_comm, decide_eq_false_iff_not]; intro h; subst h; exact d1 (E.out.1.1.symm.trans E.out.2.1))) (hbr.trans ⟨rfl, rfl, rfl, Nat.le_refl _, fun _ _ => rfl⟩)
      · obtain rfl : j = N := by omega
        go_wp2
        go_ret
        exact Ret.mk (bool_eq (by rw [← HZ.out, eq_comm, decide_eq_true_iff]; exact List.ext_getElem (HN.out.trans HM.out.symm) fun k k1 k2 => HS.out k k1 k2 (by rw [← HN.out]; exact k1))) hbr
  · have hz : decide (l = m) = false := decide_eq_false fun e => hlen (by rw [e])
    rw [hz]
    have d1 : ¬ (l.length : Int) = (m.length : Int) := by omega
    have d2 : ((l.length : Int) != (m.length : Int)) = true := by simpa using d1
    generalize l.length = N at *
    generalize m.length = M at *
    clear h g hz
    go_enter Tryd.func22, Tryd.ntmps22
    go_wp2
    go_ret
    exact Ret.mk rfl (Below.refl _ _)
end Go.Proofs.YtljhcegkekdjgaaDoor

namespace Go.Proofs.YtljhcegkekdjgaaDoor
open Go.RowKit Tb

theorem row_info : (Tryd.prog.info? 83).map (fun i => (i.zero, i.size, i.bytes)) = some (some (.agg #[.int .u64 0, .int .u64 0]), 2, 16) := by kernel_rfl
theorem row_one : ∀ x : R, ∀ u ∈ rowL x, u.oneCell' = true := fun x u hu => by
  simp [rowL] at hu
  rcases hu with rfl | rfl <;> rfl
/-- What a call answers that makes rows. -/
def RetR (l : List R) (w : World) (e : Ending) (w' : World) : Prop := ∃ v, e = .returned v ∧ MadeX w' w.heap.size 83 2 rowL v l ∧ Below w.heap.size w w'

theorem cut_take {l : List R} {k j : Nat} (hj : j < l.length) : cut (l.take (j + 1)) k = cut (l.take j) k ++ (if l[j].1 ≠ k then [l[j]] else []) := by
  unfold cut
  rw [List.take_add_one, List.getElem?_eq_getElem hj, List.filter_append]
  by_cases e : l[j].1 = k <;> simp [e]
theorem cut_len (l : List R) (k j : Nat) : (cut (l.take j) k).length ≤ l.length := by
  unfold cut
  refine Nat.le_trans (List.length_filter_le _ _) ?_
  rw [List.length_take]; omega
theorem rowBoxed (w : World) (x y : Nat) (j : Nat) (u : Value) (h : (rowL (x, y))[j]? = some u) : (w.alloc (.cells #[.int .u64 (x : Nat), .int .u64 (y : Nat)] 83)).cell? ⟨w.heap.size, 0 + j, none⟩ = some u := by
  match j, h with
  | 0, h => simp [rowL] at h; subst h; simp [go_sem]
  | 1, h => simp [rowL] at h; subst h; simp [go_sem]
  | j + 2, h => simp [rowL] at h

/-- What a loop has made, when it has gone through j rows. -/
def puts (l : List R) (k v j : Nat) : List R × Bool := (l.take j).foldl (putStep k v) ([], false)
theorem puts_succ {l : List R} (k v : Nat) {j : Nat} (hj : j < l.length) : puts l k v (j + 1) = putStep k v (puts l k v j) l[j] := by
  unfold puts
  rw [List.take_add_one, List.getElem?_eq_getElem hj, List.foldl_append]
  rfl
theorem putStep_len (k v : Nat) (s : List R × Bool) (x : R) : (putStep k v s x).1.length ≤ s.1.length + 2 := by
  unfold putStep
  simp only
  (repeat' split) <;> simp
theorem puts_len (l : List R) (k v : Nat) : ∀ j, j ≤ l.length → (puts l k v j).1.length ≤ 2 * j
  | 0, _ => by simp [puts]
  | j + 1, hj => by
    rw [puts_succ k v (by omega)]
    have := putStep_len k v (puts l k v j) (l[j]'(by omega))
    have := puts_len l k v j (by omega)
    omega
theorem puts_all (l : List R) (k v : Nat) {j : Nat} (hj : l.length ≤ j) : puts l k v j = l.foldl (putStep k v) ([], false) := by
  unfold puts
  rw [List.take_of_length_le hj]

set_option maxHeartbeats 4000000 in
theorem rWith_any (A : Option Addr) (l : List R) (c : Nat) (hl : l.length ≤ 1000000) (k v : Nat) (w : World) (h : IsR w A l) :
    Calls Tryd.prog 40 #[.slice A l.length c, .int .u64 k, .int .u64 v] w (RetR (putEnd k v (l.foldl (putStep k v) ([], false))) w) := by
  have HA := Lib.hid h
  clear h
  obtain ⟨N, hN⟩ : ∃ N, l.length = N := ⟨_, rfl⟩
  rw [hN] at hl ⊢
  have HN := Lib.hid hN
  clear hN
  obtain ⟨T, hT⟩ : ∃ T, putEnd k v (l.foldl (putStep k v) ([], false)) = T := ⟨_, rfl⟩
  rw [hT]
  have HT := Lib.hid hT
  clear hT
  obtain ⟨B, hB⟩ : ∃ B, w.heap.size = B := ⟨_, rfl⟩
  have HW := Lib.hid (show ∀ va w', MadeX w' w.heap.size 83 2 rowL va T → Below w.heap.size w w' → RetR T w (.returned va) w' from fun va w' h1 h2 => ⟨va, rfl, h1, h2⟩)
  rw [hB] at HW
  have HB := Lib.hid hB
  go_enter Tryd.func40, Tryd.ntmps40
  go_wp2
  clear hB
  have hb0 : Below B w w := Below.refl _ _
  go_loopw [7, 8, 9] (fun va pv i wr => ∃ j : Nat, j ≤ N ∧ i = .int .i64 j ∧ pv = .bool (puts l k v j).2 ∧ Hid (MadeX wr B 83 2 rowL va (puts l k v j).1) ∧ Below B w wr) (fun _ _ i _ => N - (intOf i).toNat)
  case atStart => exact ⟨0, Nat.zero_le _, rfl, rfl, Lib.hid (MadeX.nil _ _ _ _ _), hb0⟩
  case round =>
    obtain ⟨j, hj, rfl, rfl, HV, hbr⟩ := hrel
    have i1 : (0 : Int) ≤ (j : Int) := by omega
    have hBs : B ≤ wr.heap.size := by rw [← HB.out]; exact hbr.size
    have CL := Lib.hid (show (puts l k v j).1.length ≤ 2000000 by have := puts_len l k v j (by rw [HN.out]; exact hj); omega)
    by_cases hlt : j < N
    · have j1 : j < l.length := by rw [HN.out]; exact hlt
      obtain ⟨b, off, rfl, h1, h2⟩ := HA.out.row j1
      have HL := Lib.hid (World.block_lt_of_cell? _ _ h1)
      have H1 := Lib.hid h1
      have H2 := Lib.hid h2
      replace h1 := (hbr.cell (by rw [← HB.out]; exact World.block_lt_of_cell? _ _ h1)).trans h1
      replace h2 := (hbr.cell (by rw [← HB.out]; exact World.block_lt_of_cell? _ _ h2)).trans h2
      have i2 : (j : Int) < (N : Int) := by omega
      obtain ⟨q1, e1⟩ : ∃ q, l[j].1 = q := ⟨_, rfl⟩
      obtain ⟨q2, e2⟩ : ∃ q, l[j].2 = q := ⟨_, rfl⟩
      rw [e1] at h1 H1
      rw [e2] at h2 H2
      have PS := Lib.hid ((puts_succ k v j1).trans (congrArg (putStep k v (puts l k v j)) (Prod.ext e1 e2 : l[j] = (q1, q2))))
      clear e1 e2
      have hs : b < wr.heap.size := World.block_lt_of_cell? _ _ h1
      obtain ⟨s, hs'⟩ : ∃ s, puts l k v j = s := ⟨_, rfl⟩
      rw [hs'] at HV CL PS ⊢
      clear hs'
      obtain ⟨la, p⟩ := s
      simp only at HV CL ⊢
      by_cases d0 : p = false ∧ k ≤ q1
      · obtain ⟨rfl, d0⟩ := d0
        have d0' : (k : Int) ≤ (q1 : Int) := by omega
        by_cases d1 : q1 = k
        · have d2 : (q1 : Int) = (k : Int) := by omega
          have d3 : ((q1 : Int) != (k : Int)) = false := by simpa using d2
          go_wp2_with (at_builtin
                       refine wpList_pushX (w0 := w) rfl (.tmp 27) (.tmp 31) _ rfl Tryd.underlying56 row_info rfl (by decide) (by decide) (B := B) (l := la) (k, v) rfl rfl (HV.out.alloc _) _ 0 1 rfl (fun j u h => rowBoxed _ _ _ j u h) (row_one _) (by have := CL.out; simp; omega) (by rw [HB.out]; exact Nat.le_refl _) (hbr.alloc hBs _) ?_
                       intro va' W4 HV4 hbW4 Hg4 Ho4
                       have g1 := (hbW4.cell (by rw [← HB.out]; exact HL.out)).trans H1.out)
          go_roundw
          case rel => exact ⟨j + 1, by omega, by go_num, by rw [PS.out]; simp [putStep, d0], Lib.hid (by rw [PS.out, show putStep k v (la, false) (q1, q2) = (la ++ [(k, v)], true) by simp [putStep, d1]]; exact HV4.out), hbW4⟩
          case measure => simp [intOf]; omega
        · have d2 : ¬ (q1 : Int) = (k : Int) := by omega
          have d3 : ((q1 : Int) != (k : Int)) = true := by simpa using d2
          go_wp2_with (first
            | (at_builtin
               refine wpList_pushX (w0 := w) rfl (.tmp 27) (.tmp 31) _ rfl Tryd.underlying56 row_info rfl (by decide) (by decide) (B := B) (l := la) (k, v) rfl rfl (HV.out.alloc _) _ 0 1 rfl (fun j u h => rowBoxed _ _ _ j u h) (row_one _) (by have := CL.out; simp; omega) (by rw [HB.out]; exact Nat.le_refl _) (hbr.alloc hBs _) ?_
               intro va' W4 HV4 hbW4 Hg4 Ho4
               have g1 := (hbW4.cell (by rw [← HB.out]; exact HL.out)).trans H1.out
               have g2 := (hbW4.cell (by rw [← HB.out]; exact HL.out)).trans H2.out
               have hB4 : B ≤ W4.heap.size := (by rw [← HB.out]; exact hbW4.size)
               clear h1 h2)
            | (at_builtin
               refine wpList_pushX (w0 := w) rfl (.tmp 40) (.tmp 45) _ rfl Tryd.underlying56 row_info rfl (by decide) (by decide) (B := B) (l := la ++ [(k, v)]) (q1, q2) rfl rfl (HV4.out.alloc _) _ 0 1 rfl (fun j u h => rowBoxed _ _ _ j u h) (row_one _) (by have := CL.out; simp; omega) (by rw [HB.out]; exact Nat.le_refl _) (hbW4.alloc hB4 _) ?_
               intro va' W5 HV5 hbW5 Hg5 Ho5))
          go_roundw
          case rel => exact ⟨j + 1, by omega, by go_num, by rw [PS.out]; simp [putStep, d0], Lib.hid (by rw [PS.out, show putStep k v (la, false) (q1, q2) = (la ++ [(k, v)] ++ [(q1, q2)], true) by simp [putStep, d0, d1]]; exact HV5.out), hbW5⟩
          case measure => simp [intOf]; omega
      · have PS2 := Lib.hid (show putStep k v (la, p) (q1, q2) = (if q1 ≠ k then la ++ [(q1, q2)] else la, p) by simp only [putStep]; rw [if_neg d0])
        have hp : p = true ∨ (p = false ∧ ¬ (k : Int) ≤ (q1 : Int)) := by
          cases p with
          | true => exact .inl rfl
          | false => exact .inr ⟨rfl, fun h => d0 ⟨rfl, by omega⟩⟩
        by_cases d1 : q1 = k
        · have d2 : (q1 : Int) = (k : Int) := by omega
          have d3 : ((q1 : Int) != (k : Int)) = false := by simpa using d2
          rcases hp with rfl | ⟨rfl, hp⟩
          · go_wp2
            go_roundw
            case rel => exact ⟨j + 1, by omega, by go_num, by rw [PS.out, PS2.out], Lib.hid (by rw [PS.out, PS2.out, if_neg (by simpa using d1)]; exact HV.out), hbr⟩
            case measure => simp [intOf]; omega
          · omega
        · have d2 : ¬ (q1 : Int) = (k : Int) := by omega
          have d3 : ((q1 : Int) != (k : Int)) = true := by simpa using d2
          rcases hp with rfl | ⟨rfl, hp⟩
          all_goals
            go_wp2_with (at_builtin
                         refine wpList_pushX (w0 := w) rfl (.tmp 40) (.tmp 45) _ rfl Tryd.underlying56 row_info rfl (by decide) (by decide) (B := B) (l := la) (q1, q2) rfl rfl (HV.out.alloc _) _ 0 1 rfl (fun j u h => rowBoxed _ _ _ j u h) (row_one _) (by have := CL.out; simp; omega) (by rw [HB.out]; exact Nat.le_refl _) (hbr.alloc hBs _) ?_
                         intro va' W5 HV5 hbW5 Hg5 Ho5)
            go_roundw
            case rel => exact ⟨j + 1, by omega, by go_num, by rw [PS.out, PS2.out], Lib.hid (by rw [PS.out, PS2.out, if_pos d1]; exact HV5.out), hbW5⟩
            case measure => simp [intOf]; omega
    · obtain rfl : j = N := by omega
      have hall := puts_all l k v (j := j) (by rw [HN.out]; exact Nat.le_refl _)
      have HT2 := Lib.hid (HT.out.symm.trans (congrArg (putEnd k v) hall.symm))
      clear hall
      obtain ⟨s, hs'⟩ : ∃ s, puts l k v j = s := ⟨_, rfl⟩
      rw [hs'] at HV CL HT2 ⊢
      clear hs'
      obtain ⟨la, p⟩ := s
      simp only at HV CL ⊢
      cases p with
      | true =>
        go_wp2
        go_ret
        exact HW.out _ _ (by rw [HT2.out]; exact HV.out) hbr
      | false =>
        go_wp2_with (at_builtin
                     refine wpList_pushX (w0 := w) rfl (.tmp 49) (.tmp 53) _ rfl Tryd.underlying56 row_info rfl (by decide) (by decide) (B := B) (l := la) (k, v) rfl rfl (HV.out.alloc _) _ 0 1 rfl (fun j u h => rowBoxed _ _ _ j u h) (row_one _) (by have := CL.out; simp; omega) (by rw [HB.out]; exact Nat.le_refl _) (hbr.alloc hBs _) ?_
                     intro va' W5 HV5 hbW5 Hg5 Ho5)
        go_ret
        exact HW.out _ _ (by rw [HT2.out]; exact HV5.out) hbW5
end Go.Proofs.YtljhcegkekdjgaaDoor

namespace Go.Proofs.YtljhcegkekdjgaaDoor
open Go.RowKit Tb

/-- Where a key stands, or would. -/
def pos (l : List R) (k : Nat) : Nat := (lo l k).length
theorem pos_le (l : List R) (k : Nat) : pos l k ≤ l.length := List.length_filter_le _ _
theorem pos_of {l : List R} {k i : Nat} (hi : i ≤ l.length) (h1 : ∀ m, (hm : m < l.length) → m < i → l[m].1 < k) (h2 : ∀ m, (hm : m < l.length) → i ≤ m → k ≤ l[m].1) : pos l k = i := by
  unfold pos lo
  have e : l = l.take i ++ l.drop i := (List.take_append_drop i l).symm
  rw [e, List.filter_append, List.filter_eq_self.2, List.filter_eq_nil_iff.2, List.append_nil, List.length_take, Nat.min_eq_left hi]
  · intro x hx
    obtain ⟨m, hm, rfl⟩ := List.getElem_of_mem hx
    rw [List.length_drop] at hm
    rw [List.getElem_drop]
    have := h2 (i + m) (by omega) (by omega)
    simp; omega
  · intro x hx
    obtain ⟨m, hm, rfl⟩ := List.getElem_of_mem hx
    rw [List.length_take] at hm
    rw [List.getElem_take]
    have := h1 m (by omega) (by omega)
    simp; omega
theorem up_lt {l : List R} (h : Up l) {i j : Nat} (hij : i < j) (hj : j < l.length) : (l[i]'(by omega)).1 < l[j].1 := by
  unfold Up at h
  rw [List.pairwise_iff_getElem] at h
  exact h i j (by omega) hj hij
/-- What stands there. -/
theorem pos_get {l : List R} (h : Up l) (k : Nat) : (Tb.get l k = none ∧ ∀ hm : pos l k < l.length, (l[pos l k]'hm).1 ≠ k) ∨ ∃ hm : pos l k < l.length, (l[pos l k]'hm).1 = k ∧ Tb.get l k = some (l[pos l k]'hm).2 := by
  have e := split_at k h
  cases hg : Tb.get l k with
  | none =>
    refine .inl ⟨rfl, fun hm => ?_⟩
    exact get_none hg _ (List.getElem_mem hm)
  | some v =>
    rw [hg] at e
    dsimp only at e
    have hl : l.length = pos l k + 1 + (hi l k).length := by
      have := congrArg List.length e
      simp only [List.length_append, List.length_cons, List.length_nil] at this
      exact this
    have hm : pos l k < l.length := by omega
    have he : l[pos l k]'hm = (k, v) := by
      have e2 := congrArg (fun m => m[(lo l k).length]?) e
      rw [show (lo l k ++ [(k, v)] ++ hi l k)[(lo l k).length]? = some (k, v) by simp] at e2
      have e3 : l[pos l k]? = some (k, v) := e2
      rw [List.getElem?_eq_getElem hm] at e3
      exact Option.some.inj e3
    refine .inr ⟨hm, by rw [he], by rw [he]⟩
/-- A search's halves. -/
def Half (l : List R) (k i j : Nat) : Prop := i ≤ j ∧ j ≤ l.length ∧ (∀ m, (hm : m < l.length) → m < i → l[m].1 < k) ∧ ∀ m, (hm : m < l.length) → j ≤ m → k ≤ l[m].1
theorem half_zero (l : List R) (k : Nat) : Half l k 0 l.length := ⟨Nat.zero_le _, Nat.le_refl _, fun m _ h => by omega, fun m _ h => by omega⟩
theorem half_up {l : List R} (hu : Up l) {k i j h : Nat} (H : Half l k i j) (h2 : h < j) (hl : h < l.length) (hk : l[h].1 < k) (h1 : i ≤ h) : Half l k (h + 1) j := by
  obtain ⟨a, b, c, d⟩ := H
  refine ⟨by omega, b, fun m hm hmh => ?_, d⟩
  by_cases e : m = h
  · subst e; exact hk
  · exact Nat.lt_trans (up_lt hu (by omega) hl) hk
theorem half_down {l : List R} (hu : Up l) {k i j h : Nat} (H : Half l k i j) (h1 : i ≤ h) (h2 : h < j) (hl : h < l.length) (hk : ¬ l[h].1 < k) : Half l k i h := by
  obtain ⟨a, b, c, d⟩ := H
  refine ⟨h1, by omega, c, fun m hm hmh => ?_⟩
  by_cases e : m = h
  · subst e; omega
  · have := up_lt hu (i := h) (j := m) (by omega) hm; omega
theorem half_end {l : List R} {k i : Nat} (H : Half l k i i) : pos l k = i := pos_of H.2.1 H.2.2.1 H.2.2.2
end Go.Proofs.YtljhcegkekdjgaaDoor

namespace Go.Proofs.YtljhcegkekdjgaaDoor
open Go.RowKit Tb

set_option maxHeartbeats 1000000 in
theorem nan_any (x : Nat) (w : World) : Calls Tryd.prog 97 #[.int .u64 x] w (Ret (.bool false) w) := by
  go_enter Tryd.func97, Tryd.ntmps97
  go_wp2
  go_ret
  exact Ret.mk (by simp) (Below.refl _ _)

/-- What a comparison says. -/
def cmpI (x y : Nat) : Int := if x < y then -1 else if y < x then 1 else 0

set_option maxHeartbeats 1000000 in
theorem compare_any (x y : Nat) (w : World) : Calls Tryd.prog 77 #[.int .u64 x, .int .u64 y] w (Ret (.int .i64 (cmpI x y)) w) := by
  have e : ∀ c, cmpI x y = c → Ret (.int .i64 (cmpI x y)) w = Ret (.int .i64 c) w := fun c h => by rw [h]
  by_cases h1 : x < y
  · rw [e (-1) (by unfold cmpI; rw [if_pos h1])]
    have i1 : (x : Int) < (y : Int) := by omega
    go_enter Tryd.func77, Tryd.ntmps77
    go_wp2_with (go_at_call 97; refine (nan_any _ _).mono ?_; rintro e w' ⟨rfl, hb⟩)
    go_ret
    exact Ret.mk rfl (by refine below_then ?_ hb; assumption)
  · by_cases h2 : y < x
    · rw [e 1 (by unfold cmpI; rw [if_neg h1, if_pos h2])]
      have i1 : ¬ (x : Int) < (y : Int) := by omega
      have i2 : (x : Int) > (y : Int) := by omega
      go_enter Tryd.func77, Tryd.ntmps77
      go_wp2_with (go_at_call 97; refine (nan_any _ _).mono ?_; rintro e w' ⟨rfl, hb⟩)
      go_ret
      exact Ret.mk rfl (by refine below_then ?_ hb; assumption)
    · rw [e 0 (by unfold cmpI; rw [if_neg h1, if_neg h2])]
      obtain rfl : x = y := by omega
      go_enter Tryd.func77, Tryd.ntmps77
      go_wp2_with (go_at_call 97; refine (nan_any _ _).mono ?_; rintro e w' ⟨rfl, hb⟩)
      go_ret
      exact Ret.mk rfl (by refine below_then ?_ hb; assumption)

theorem cmp_lt {x k : Nat} : cmpI x k < 0 ↔ x < k := by unfold cmpI; split <;> (try split) <;> omega
theorem cmp_eq {x k : Nat} : cmpI x k = 0 ↔ x = k := by unfold cmpI; split <;> (try split) <;> omega
end Go.Proofs.YtljhcegkekdjgaaDoor

namespace Go.Proofs.YtljhcegkekdjgaaDoor
open Go.RowKit Tb
end Go.Proofs.YtljhcegkekdjgaaDoor

namespace Go.Proofs.YtljhcegkekdjgaaDoor
open Go.RowKit Tb
end Go.Proofs.YtljhcegkekdjgaaDoor

namespace Go.Proofs.YtljhcegkekdjgaaDoor
open Go.RowKit Tb Pt Opn

/-- An answer, with rows at A. -/
def resv (e v : Int) (A : Option Addr) (n c : Nat) : Value := .agg #[.int .i64 e, .int .u32 v, .slice A n c]

set_option maxHeartbeats 1000000 in
theorem rSameRes_any (e v e' v' : Int) (A B : Option Addr) (l m : List R) (c d : Nat) (hl : l.length ≤ 9223372036854775807) (w : World) (h : IsR w A l) (g : IsR w B m) :
    Calls Tryd.prog 21 #[resv e v A l.length c, resv e' v' B m.length d] w (Ret (.bool (decide (e = e' ∧ v = v' ∧ l = m))) w) := by
  have HS := Lib.hid (fun W hA hB => rSameRows_any A B l m c d hl W hA hB)
  have HA := Lib.hid h
  have HB := Lib.hid g
  clear h g hl
  obtain ⟨z, hz⟩ : ∃ z, decide (l = m) = z := ⟨_, rfl⟩
  rw [hz] at HS
  have HZ := Lib.hid hz
  clear hz
  unfold resv
  go_enter Tryd.func21, Tryd.ntmps21
  go_wp2_with (go_at_call 22; refine (HS.out _ (HA.out.below (below_two _ _ _)) (HB.out.below (below_two _ _ _))).mono ?_; rintro e w1 ⟨rfl, hb1⟩)
  all_goals go_ret
  all_goals refine Ret.mk (bool_eq ?_) (by first | exact below_then (below_two _ _ _) hb1 | exact below_two _ _ _)
  all_goals (have hZ := HZ.out; (first | clear HS HA HB HZ hb1 | clear HS HA HB HZ); rw [Bool.eq_iff_iff]; grind)

theorem rWith_up (A : Option Addr) (l : List R) (c : Nat) (hl : l.length ≤ 1000000) (hu : Up l) (k v : Nat) (w : World) (h : IsR w A l) :
    Calls Tryd.prog 40 #[.slice A l.length c, .int .u64 k, .int .u64 v] w (RetR (put l k v) w) := by
  have := rWith_any A l c hl k v w h
  rw [steps_out k v l [] hu, List.nil_append] at this
  exact this

theorem fnd_get (l : List R) (k : Nat) : (fnd l k = -1 ∧ Tb.get l k = none) ∨ ∃ i, ∃ h : i < l.length, fnd l k = (i : Nat) ∧ l[i].1 = k ∧ Tb.get l k = some l[i].2 := by
  unfold fnd Tb.get
  cases e : l.findIdx? (fun x => x.1 == k) with
  | none =>
    rw [List.findIdx?_eq_none_iff] at e
    refine .inl ⟨rfl, ?_⟩
    rw [Option.map_eq_none_iff, List.find?_eq_none]
    intro x hx; have := e x hx; simpa using this
  | some i =>
    rw [List.findIdx?_eq_some_iff_getElem] at e
    obtain ⟨hi, h1, h2⟩ := e
    refine .inr ⟨i, hi, rfl, by simpa using h1, ?_⟩
    have : l.find? (fun x => x.1 == k) = some l[i] := by
      rw [List.find?_eq_some_iff_getElem]
      exact ⟨h1, i, hi, rfl, fun j hj => by have := h2 j hj; simpa using this⟩
    rw [this]; rfl

/-- Rows that a value is, in a world. -/
def IsRV (w : World) (v : Value) (l : List R) : Prop := ∃ A c, v = .slice A l.length c ∧ (l.length ≤ c ∧ c ≤ 9223372036854775807) ∧ (A = none → l.length = 0 ∧ c = 0) ∧ IsR w A l
theorem IsRV.of {w : World} {B : Nat} {v : Value} {l : List R} (h : MadeX w B 83 2 rowL v l) : IsRV w v l := MadeX.form rowL_len h
theorem IsRV.below {w w' : World} {v : Value} {l : List R} (h : IsRV w v l) (hb : Below w.heap.size w w') : IsRV w' v l := by
  obtain ⟨A, c, e, h1, h2, h3⟩ := h
  exact ⟨A, c, e, h1, h2, h3.below hb⟩

theorem IsL.keep {X : Type} {W w' : World} {A : Option Addr} {s : Nat} {L : X → List Value} {l : List X} (h : IsL W A s L l) (k : W.heap.size ≤ w'.heap.size ∧ ∀ b o, b < W.heap.size → w'.cell? ⟨b, o, none⟩ = W.cell? ⟨b, o, none⟩) : IsL w' A s L l := fun i x hx => by
  obtain ⟨b, off, e, h1⟩ := h i x hx
  exact ⟨b, off, e, fun j u hu => (k.2 _ _ (World.block_lt_of_cell? _ _ (h1 j u hu))).trans (h1 j u hu)⟩

theorem fkeep0 (W : World) : W.heap.size ≤ W.drew.heap.size ∧ ∀ b j, b < W.heap.size → W.drew.frozen? ⟨b, j, none⟩ = W.frozen? ⟨b, j, none⟩ := ⟨Nat.le_refl _, fun _ _ _ => rfl⟩
theorem fkeep_below {W X w3 : World} (hb : Below X.heap.size X w3) (h : W.heap.size ≤ X.heap.size ∧ ∀ b j, b < W.heap.size → X.frozen? ⟨b, j, none⟩ = W.frozen? ⟨b, j, none⟩) : W.heap.size ≤ w3.heap.size ∧ ∀ b j, b < W.heap.size → w3.frozen? ⟨b, j, none⟩ = W.frozen? ⟨b, j, none⟩ :=
  ⟨Nat.le_trans h.1 hb.size, fun b j hj => (hb.frozen (p := ⟨b, j, none⟩) (Nat.lt_of_lt_of_le hj h.1)).trans (h.2 b j hj)⟩

theorem IsRV.turned {w5 w4 : World} {B t : Nat} {u : Value} {l : List R} (h : MadeX w5 B 83 2 rowL u l) (hb : Below w5.heap.size w5 w4) (ht : t < B) (a b c : Value) : IsRV (((w4.setCell ⟨t, 0, none⟩ a).setCell ⟨t, 1, none⟩ b).setCell ⟨t, 2, none⟩ c) u l := by
  obtain ⟨A, d, rfl, h1, h2, h3, h4⟩ := owns_form h
  have h5 := MadeX.form rowL_len h
  obtain ⟨A', d', e, _, _, h6⟩ := h5
  injection e with e1 _ e3
  subst e1 e3
  refine ⟨A, d, rfl, ⟨h1, h2⟩, h3, fun i x hx => ?_⟩
  have hi : i < l.length := (List.getElem?_eq_some_iff.1 hx).1
  obtain ⟨g, rfl, hg, _⟩ := h4 (by omega)
  obtain ⟨b', off, e1, h7⟩ := h6 i x hx
  injection e1 with e1
  injection e1 with e1 e2 _
  subst e1 e2
  refine ⟨g, 0, rfl, fun j v hv => ?_⟩
  have h8 := h7 j v hv
  have h9 := (hb.cell (World.block_lt_of_cell? _ _ h8)).trans h8
  have ne : g ≠ t := by omega
  have k : ∀ (X : World) (o : Nat) (y : Value), (X.setCell ⟨t, o, none⟩ y).cell? ⟨g, 0 + i * 2 + j, none⟩ = X.cell? ⟨g, 0 + i * 2 + j, none⟩ := fun X o y => World.cell?_of_block (w := X) (Below.heap_setCell X ⟨t, o, none⟩ y g (by simpa using ne))
  rw [k, k, k]
  exact h9

theorem IsRV.old {w wx : World} {A : Option Addr} {l : List R} {N d : Nat} (hd : l.length ≤ d ∧ d ≤ 9223372036854775807) (hA : A = none → l.length = 0 ∧ d = 0) (hN : l.length = N) (h : IsR w A l) (hb : Below w.heap.size w wx) : IsRV wx (.slice A N d) l :=
  ⟨A, d, by rw [hN], hd, hA, h.below hb⟩

theorem cut_length (l : List R) (k : Nat) : (cut l k).length ≤ l.length := List.length_filter_le _ _

theorem chk_zero {c : Cf} {o : O} (h : chk c o = 0) : Ok c ∧ (objAt o.k : Int) = c.obj ∧ Fits c.bits.toNat o := by
  unfold chk at h
  split at h
  · omega
  · rename_i h1
    split at h
    · omega
    · rename_i h2
      split at h
      · rename_i h3
        exact ⟨ok_of (by cases e : okB c <;> simp_all), by simpa using h2, h3⟩
      · omega

/-- Two blocks of two types are two. -/
theorem made_ne {w : World} {B g : Nat} {v : Value} {l : List R} (h : MadeX w B 83 2 rowL v l) {cs : Array Value} {t : TypeId} (hg : w.heap[g]? = some (.cells cs t (0, 0))) (ht : t ≠ 83) : v.ownBlock ≠ some g := fun e => by
  rcases h.2 with ⟨rfl, _⟩ | ⟨g', cap, cur, rfl, _, h3, _⟩
  · simp [Value.ownBlock] at e
  · have : g' = g := by simpa [Value.ownBlock] using e
    subst this
    rw [hg] at h3
    injection h3 with h3
    injection h3 with _ h3
    exact ht h3
/-- What is stored into another block leaves them. -/
theorem made_stored {w : World} {B g : Nat} {v : Value} {l : List R} (h : MadeX w B 83 2 rowL v l) (hne : v.ownBlock ≠ some g) (o : Nat) (x : Value) : MadeX (w.setCell ⟨g, o, none⟩ x) B 83 2 rowL v l :=
  h.grown (row := some g) ⟨rfl, rfl, rfl, by simp [World.setCell], fun i hi hne => Below.heap_setCell w ⟨g, o, none⟩ x i (fun e => hne (by rw [e]))⟩ (.inr hne)
theorem made_stored3 {w : World} {B g : Nat} {v : Value} {l : List R} (h : MadeX w B 83 2 rowL v l) (hne : v.ownBlock ≠ some g) (x y z : Value) : MadeX (((w.setCell ⟨g, 0, none⟩ x).setCell ⟨g, 1, none⟩ y).setCell ⟨g, 2, none⟩ z) B 83 2 rowL v l :=
  made_stored (made_stored (made_stored h hne _ _) hne _ _) hne _ _

theorem res_cells {w : World} {g : Nat} {a b c : Value} {t : TypeId} (h : w.heap[g]? = some (.cells #[a, b, c] t (0, 0))) :
    w.cell? ⟨g, 0, none⟩ = some a ∧ w.frozen? ⟨g, 0, none⟩ = false ∧ w.cell? ⟨g, 1, none⟩ = some b ∧ w.frozen? ⟨g, 1, none⟩ = false ∧ w.cell? ⟨g, 2, none⟩ = some c ∧ w.frozen? ⟨g, 2, none⟩ = false := by
  refine ⟨?_, ?_, ?_, ?_, ?_, ?_⟩ <;> simp [World.cell?, World.frozen?, h]
theorem below_drew (w : World) : Below w.heap.size w w.drew := ⟨rfl, rfl, rfl, Nat.le_refl _, fun _ _ => rfl⟩
theorem below_set3 {W X : World} {g : Nat} (h : Below W.heap.size W X) (hg : W.heap.size ≤ g) (a b c : Value) : Below W.heap.size W (((X.setCell ⟨g, 0, none⟩ a).setCell ⟨g, 1, none⟩ b).setCell ⟨g, 2, none⟩ c) :=
  ((h.setCell hg _).setCell hg _).setCell hg _
/-- Three cells that were made ahead of a call, and ahead of two. -/
abbrev Three (w : World) (g : Nat) (a b c : Value) : Prop := w.cell? ⟨g, 0, none⟩ = some a ∧ w.frozen? ⟨g, 0, none⟩ = false ∧ w.cell? ⟨g, 1, none⟩ = some b ∧ w.frozen? ⟨g, 1, none⟩ = false ∧ w.cell? ⟨g, 2, none⟩ = some c ∧ w.frozen? ⟨g, 2, none⟩ = false
theorem three_below {W X : World} {g : Nat} {a b c : Value} (h : Three W g a b c) (hb : Below W.heap.size W X) (hg : g < W.heap.size) : Three X g a b c :=
  ⟨(hb.cell hg).trans h.1, (hb.frozen hg).trans h.2.1, ((bcell hb).1 _ _ hg).trans h.2.2.1, ((bcell hb).2 _ _ hg).trans h.2.2.2.1, ((bcell hb).1 _ _ hg).trans h.2.2.2.2.1, ((bcell hb).2 _ _ hg).trans h.2.2.2.2.2⟩
/-- Rows stay where a block of another shape is written. -/
theorem isr_set3 {w : World} {A : Option Addr} {l : List R} {g : Nat} {a c : Int} (h : IsR w A l) (hT : Three w g (.int .i64 a) (.int .u32 c) (.slice none 0 0)) (x y z : Value) :
    IsR (((w.setCell ⟨g, 0, none⟩ x).setCell ⟨g, 1, none⟩ y).setCell ⟨g, 2, none⟩ z) A l := fun i r hr => by
  obtain ⟨b, off, e, hx⟩ := h i r hr
  refine ⟨b, off, e, fun j u hu => ?_⟩
  have hc := hx j u hu
  have hv : ∃ n : Int, u = .int .u64 n := by
    match j, hu with
    | 0, hu => injection hu with hu; exact ⟨_, hu.symm⟩
    | 1, hu => injection hu with hu; exact ⟨_, hu.symm⟩
  obtain ⟨n, rfl⟩ := hv
  obtain ⟨r0, -, r1, -, r2, -⟩ := hT
  have n0 : (⟨g, 0, none⟩ : Addr) ≠ ⟨b, off + i * 2 + j, none⟩ := fun e => by rw [e, hc] at r0; cases r0
  have n1 : (⟨g, 1, none⟩ : Addr) ≠ ⟨b, off + i * 2 + j, none⟩ := fun e => by rw [e, hc] at r1; cases r1
  have n2 : (⟨g, 2, none⟩ : Addr) ≠ ⟨b, off + i * 2 + j, none⟩ := fun e => by rw [e, hc] at r2; cases r2
  exact (World.cell?_setCell_other _ _ _ _ n2).trans ((World.cell?_setCell_other _ _ _ _ n1).trans ((World.cell?_setCell_other _ _ _ _ n0).trans hc))
theorem put_mem {l : List R} {k v : Nat} {x : R} (h : x ∈ put l k v) : x ∈ l ∨ x = (k, v) := by
  unfold put lo hi at h
  rcases List.mem_append.1 h with h | h
  · exact .inl (List.mem_filter.1 h).1
  · rcases List.mem_cons.1 h with h | h
    · exact .inr h
    · exact .inl (List.mem_filter.1 h).1
theorem cut_mem {l : List R} {k : Nat} {x : R} (h : x ∈ cut l k) : x ∈ l := (List.mem_filter.1 h).1
theorem get_put {l : List R} (k v : Nat) (h : Up l) : Tb.get (put l k v) k = some v := get_of (up_put k v h) (by unfold put; simp)
theorem cut_put {l : List R} (k v : Nat) (h : Up l) : cut (put l k v) k = cut l k := by
  rw [cut_eq k h]
  unfold put cut
  rw [List.filter_append, List.filter_cons_of_neg (by simp)]
  congr 1
  · exact List.filter_eq_self.2 fun x hx => by have := (List.mem_filter.1 hx).2; simp at this ⊢; omega
  · exact List.filter_eq_self.2 fun x hx => by have := (List.mem_filter.1 hx).2; simp at this ⊢; omega
/-- What a call leaves that answers rows, a result and an error. -/
def Did3 (s : List R × Int × Int) (err : Int) (w : World) (e : Ending) (w' : World) : Prop := ∃ u, e = .returned (.tuple #[u, resv s.2.1 s.2.2 none 0 0, .int .i64 err]) ∧ IsRV w' u s.1 ∧ Below w.heap.size w w'
end Go.Proofs.YtljhcegkekdjgaaDoor

namespace Go.Proofs.YtljhcegkekdjgaaDoor
open Go.RowKit Tb Pt Opn
end Go.Proofs.YtljhcegkekdjgaaDoor

namespace Go.Proofs.YtljhcegkekdjgaaDoor
open Go.RowKit Go.Lib
section
variable {P : Program}
theorem parts_eq (A Q C D : List Value) (h : Q.length = C.length) : ((A ++ Q ++ D).take A.length ++ C ++ (A ++ Q ++ D).drop (A.length + C.length)) = A ++ C ++ D := by
  rw [← h, List.append_assoc A Q D, List.take_left, ← List.append_assoc A Q D, ← List.length_append, List.drop_left]
theorem run_copyX (w : World) (dT sT ty elem : TypeId) (g o dLen dCap : Nat) (a : Addr) (sLen sCap : Nat) (t : TypeId) (A Q C D : List Value) (s : Nat)
    (hu : P.underlying dT = some (.slice elem)) (hs : (P.info? elem).map (·.size) = some s)
    (hg : w.heap[g]? = some (.cells (A ++ Q ++ D).toArray t (0, 0))) (ho : o = A.length) (hq : Q.length = C.length) (hn : C.length = Nat.min sLen dLen * s)
    (hsrc : ∀ j v, C[j]? = some v → w.cell? (a.add j) = some v) (h1 : ∀ v ∈ C, v.oneCell' = true) :
    (Builtin.copy_ #[dT, sT] ty #[.slice (some ⟨g, o, none⟩) dLen dCap, .slice (some a) sLen sCap]).run P w =
      .ok (goInt (Nat.min sLen dLen)) (w.setRow g (A ++ C ++ D).toArray) := by
  subst ho
  have hl := run_loadCells_list (P := P) w a C hsrc
  have hst := run_storeCells_at P g A.length t C 0 _ w hg (by simp [hq]) h1
  simp only [Nat.add_zero] at hst
  rw [parts_eq A Q C D hq] at hst
  cases hi : P.info? elem with
  | none => simp [hi] at hs
  | some i =>
    have hz : i.size = s := by simpa [hi] using hs
    simp [Builtin.copy_, run_underlying hu, Builtin.lenOf, Builtin.firstCells, sizeOf, typeInfo, hi, hz, ← hn, hl, hst]
theorem run_clearX (w : World) (t e ty : TypeId) (z : Value) (ht : P.underlying t = some (.slice e)) (hv : ∀ w, (zeroValue e).run P w = .ok z w) (g o n c : Nat) (hn : 0 < n) (te : TypeId) (A Q C D : List Value)
    (hg : w.heap[g]? = some (.cells (A ++ Q ++ D).toArray te (0, 0))) (ho : o = A.length) (hq : Q.length = C.length) (hC : (Builtin.zeroCells z.cells n).toList = C) (h1 : ∀ v ∈ C, v.oneCell' = true) :
    (Builtin.clear_ #[t] ty #[.slice (some ⟨g, o, none⟩) n c]).run P w = .ok (.tuple #[]) (w.setRow g (A ++ C ++ D).toArray) := by
  subst ho
  have hst := run_storeCells_at P g A.length te C 0 _ w hg (by simp [hq]) h1
  simp only [Nat.add_zero] at hst
  rw [parts_eq A Q C D hq] at hst
  obtain ⟨m, rfl⟩ : ∃ m, n = m + 1 := ⟨n - 1, by omega⟩
  simp [Builtin.clear_, run_underlying ht, hv, hC, hst]
theorem run_appendX (w : World) (t ty e : TypeId) (i : TypeInfo) (ht : P.underlying t = some (.slice e)) (hi : P.info? e = some i)
    (g n cap : Nat) (A Q C D : List Value) (hg : w.heap[g]? = some (.cells (A ++ Q ++ D).toArray e (0, 0)))
    (a : Addr) (m c : Nat) (hA : A.length = n * i.size) (hq : Q.length = C.length) (hl : C.length = m * i.size) (hsrc : ∀ j u, C[j]? = some u → w.cell? (a.add j) = some u) (h1 : ∀ u ∈ C, u.oneCell' = true)
    (hroom : n + m ≤ cap) :
    (Builtin.append_ #[t, t] ty #[.slice (some ⟨g, 0, none⟩) n cap, .slice (some a) m c]).run P w = .ok (.slice (some ⟨g, 0, none⟩) (n + m) cap) (w.setRow g (A ++ C ++ D).toArray) := by
  have h := run_append_room (P := P) w t ty e i ht hi g n cap _ hg a m c C hl hsrc h1 hroom (by rw [← hA, ← hq]; simp)
  rw [← hA, parts_eq A Q C D hq] at h
  exact h
theorem wp_copyX (w : World) {o : Oper} {a : Act} {K : Act → World → Prop} {Q : Exit → Act → World → Prop} (d s : Operand) (t t' : TypeId)
    (ho : o.op = .call { callee := .builtin .copy, args := #[d, s], argTypes := #[t, t'] }) (v u : Value) (hd : a.eval d = v) (hs : a.eval s = u) {v' : Value} {w' : World}
    (hr : (Builtin.copy_ #[t, t'] o.type #[v, u]).run P w = .ok v' w') (h : K (a.put o.dst v') w') : o.wp P a w K Q := by
  unfold Oper.wp execOp
  simp only [ho, resolve, invoke, builtin, Sem.run_bind, Sem.run_pure, Result.andThen_ok, List.map_toArray, List.map_cons, List.map_nil, hd, hs, hr]
  exact h
theorem wpList_copyX (w : World) {ops : Array Oper} {rest : List Oper} {o : Oper} {a : Act} {Q : Exit → Act → World → Prop} (hgd : o.guard = none) (d s : Operand) (t t' : TypeId)
    (ho : o.op = .call { callee := .builtin .copy, args := #[d, s], argTypes := #[t, t'] }) (v u : Value) (hd : a.eval d = v) (hs : a.eval s = u) {v' : Value} {w' : World}
    (hr : (Builtin.copy_ #[t, t'] o.type #[v, u]).run P w = .ok v' w') (h : wpList P ops Q rest (a.put o.dst v') w') : wpList P ops Q (o :: rest) a w :=
  wpList_plain hgd fun _ hK => wp_copyX w d s t t' ho v u hd hs hr (hK _ _ h)
/-- .. and as a step of a region that draws. -/
theorem step_copyX {ops : Array Oper} {o : Oper} {a : Act} {w : World} {K : Act → World → Prop} {Q : Exit → Act → World → Prop} {E : Prop}
    (hg : o.guard = none) (d x : Operand) (dT sT : TypeId) (hop : o.op = Op.call { callee := Callee.builtin Builtin.copy, args := #[d, x], argTypes := #[dT, sT] })
    (v u : Value) (hd : a.eval d = v) (hx : a.eval x = u) {v' : Value} {w' : World} (hr : (Builtin.copy_ #[dT, sT] o.type #[v, u]).run P w = .ok v' w') (hK : K (a.put o.dst v') w') :
    if Region.wanted o (yielded ops a.tmps) = true then Oper.wp P o a w K Q else E := by
  have hw : Region.wanted o (yielded ops a.tmps) = true := by simp [Region.wanted, hg]
  rw [if_pos hw]
  exact wp_copyX w d x dT sT hop v u hd hx hr hK
theorem wp_clearX (w : World) {o : Oper} {a : Act} {K : Act → World → Prop} {Q : Exit → Act → World → Prop} (s : Operand) (t : TypeId)
    (ho : o.op = .call { callee := .builtin .clear, args := #[s], argTypes := #[t] }) (u : Value) (hs : a.eval s = u) {v' : Value} {w' : World}
    (hr : (Builtin.clear_ #[t] o.type #[u]).run P w = .ok v' w') (h : K (a.put o.dst v') w') : o.wp P a w K Q := by
  unfold Oper.wp execOp
  simp only [ho, resolve, invoke, builtin, Sem.run_bind, Sem.run_pure, Result.andThen_ok, List.map_toArray, List.map_cons, List.map_nil, hs, hr]
  exact h
theorem wpList_clearX (w : World) {ops : Array Oper} {rest : List Oper} {o : Oper} {a : Act} {Q : Exit → Act → World → Prop} (hgd : o.guard = none) (s : Operand) (t : TypeId)
    (ho : o.op = .call { callee := .builtin .clear, args := #[s], argTypes := #[t] }) (u : Value) (hs : a.eval s = u) {v' : Value} {w' : World}
    (hr : (Builtin.clear_ #[t] o.type #[u]).run P w = .ok v' w') (h : wpList P ops Q rest (a.put o.dst v') w') : wpList P ops Q (o :: rest) a w :=
  wpList_plain hgd fun _ hK => wp_clearX w s t ho u hs hr (hK _ _ h)
theorem wp_appendX (w : World) {o : Oper} {a : Act} {K : Act → World → Prop} {Q : Exit → Act → World → Prop} (d s : Operand) (t t' : TypeId)
    (ho : o.op = .call { callee := .builtin .append, args := #[d, s], argTypes := #[t, t'] }) (v u : Value) (hd : a.eval d = v) (hs : a.eval s = u) {v' : Value} {w' : World}
    (hr : (Builtin.append_ #[t, t'] o.type #[v, u]).run P w = .ok v' w') (h : K (a.put o.dst v') w') : o.wp P a w K Q := by
  unfold Oper.wp execOp
  simp only [ho, resolve, invoke, builtin, Sem.run_bind, Sem.run_pure, Result.andThen_ok, List.map_toArray, List.map_cons, List.map_nil, hd, hs, hr]
  exact h
theorem wpList_appendX (w : World) {ops : Array Oper} {rest : List Oper} {o : Oper} {a : Act} {Q : Exit → Act → World → Prop} (hgd : o.guard = none) (d s : Operand) (t t' : TypeId)
    (ho : o.op = .call { callee := .builtin .append, args := #[d, s], argTypes := #[t, t'] }) (v u : Value) (hd : a.eval d = v) (hs : a.eval s = u) {v' : Value} {w' : World}
    (hr : (Builtin.append_ #[t, t'] o.type #[v, u]).run P w = .ok v' w') (h : wpList P ops Q rest (a.put o.dst v') w') : wpList P ops Q (o :: rest) a w :=
  wpList_plain hgd fun _ hK => wp_appendX w d s t t' ho v u hd hs hr (hK _ _ h)
theorem step_appendX {ops : Array Oper} {o : Oper} {a : Act} {w : World} {K : Act → World → Prop} {Q : Exit → Act → World → Prop} {E : Prop}
    (hg : o.guard = none) (d x : Operand) (dT sT : TypeId) (hop : o.op = Op.call { callee := Callee.builtin Builtin.append, args := #[d, x], argTypes := #[dT, sT] })
    (v u : Value) (hd : a.eval d = v) (hx : a.eval x = u) {v' : Value} {w' : World} (hr : (Builtin.append_ #[dT, sT] o.type #[v, u]).run P w = .ok v' w') (hK : K (a.put o.dst v') w') :
    if Region.wanted o (yielded ops a.tmps) = true then Oper.wp P o a w K Q else E := by
  have hw : Region.wanted o (yielded ops a.tmps) = true := by simp [Region.wanted, hg]
  rw [if_pos hw]
  exact wp_appendX w d x dT sT hop v u hd hx hr hK
end
end Go.Proofs.YtljhcegkekdjgaaDoor
namespace Go.Proofs.YtljhcegkekdjgaaDoor
open Go.RowKit Go.Lib Tb
theorem row_at (y : R) : rowL y = [.int .u64 (y.1 : Nat), .int .u64 (y.2 : Nat)] := rfl
theorem flatL_one : ∀ (l : List R), ∀ u ∈ flatL rowL l, u.oneCell' = true := fun l u hu => by
  unfold flatL at hu
  obtain ⟨y, _, hy⟩ := List.mem_flatMap.1 hu
  exact row_one y u hy
theorem flatR (l : List R) : (flatL rowL l).length = l.length * 2 := flatL_length rowL_len l
/-- What an own row holds: the elements' cells, and the rest. -/
theorem made_cells {w : World} {B : Nat} {v : Value} {l : List R} (h : MadeX w B 83 2 rowL v l) : (v = .slice none 0 0 ∧ l = []) ∨
    ∃ g cap rest, v = .slice (some ⟨g, 0, none⟩) l.length cap ∧ B ≤ g ∧ w.heap[g]? = some (.cells (flatL rowL l ++ rest).toArray 83 (0, 0)) ∧ l.length ≤ cap ∧ cap ≤ maxLen ∧ rest.length = (cap - l.length) * 2 := by
  rcases h.2 with ⟨h1, h2⟩ | ⟨g, cap, cur, h1, h2, h3, h4, h5, h6, h7⟩
  · exact .inl ⟨h1, List.eq_nil_of_length_eq_zero h2⟩
  · refine .inr ⟨g, cap, cur.toList.drop (l.length * 2), h1, h2, ?_, h4, h5, ?_⟩
    · rw [h3, ← h7, List.take_append_drop, Array.toArray_toList]
    · rw [List.length_drop, Array.length_toList, h6, Nat.sub_mul]
theorem made_of {w : World} {B g cap : Nat} {l : List R} {rest : List Value} (hB : B ≤ g) (h : w.heap[g]? = some (.cells (flatL rowL l ++ rest).toArray 83 (0, 0))) (hc : l.length ≤ cap) (hm : cap ≤ maxLen) (hr : rest.length = (cap - l.length) * 2) :
    MadeX w B 83 2 rowL (.slice (some ⟨g, 0, none⟩) l.length cap) l := by
  refine ⟨flatR l, .inr ⟨g, cap, _, rfl, hB, h, hc, hm, ?_, ?_⟩⟩
  · rw [List.size_toArray, List.length_append, flatR, hr, ← Nat.add_mul]; congr 1; omega
  · rw [List.toList_toArray, ← flatR l, List.take_left]
/-- What was put in, and what only that block turned. -/
def RetI (l : List R) (B : Nat) (w : World) (v : Value) (e : Ending) (w' : World) : Prop := ∃ v', e = .returned v' ∧ MadeX w' B 83 2 rowL v' l ∧ w.grownBy w' v.ownBlock
theorem alloc_shape {w : World} {g : Nat} {cs : Array Value} {t : TypeId} (h : w.heap[g]? = some (.cells cs t (0, 0))) : w.shape? g = some (t, cs.size) ∧ ∀ o, w.frozen? ⟨g, o, none⟩ = false := by
  refine ⟨by unfold World.shape?; rw [h], fun o => by unfold World.frozen?; rw [h]; simp⟩
theorem cell_row {w : World} {g : Nat} {cs : List Value} {t : TypeId} (h : w.heap[g]? = some (.cells cs.toArray t (0, 0))) (o : Nat) : w.cell? ⟨g, o, none⟩ = cs[o]? := by
  simp [World.cell?, h]
theorem grown_drew {w w' : World} {r : Option Nat} (h : w.drew.grownBy w' r) : w.grownBy w' r := ⟨h.os, h.tape, h.output, h.size, h.block⟩
theorem grown_row {w w' : World} {g : Nat} (h : w.grownBy w' (some g)) (cs : Array Value) : w.grownBy (w'.setRow g cs) (some g) :=
  ⟨h.os, h.tape, h.output, by rw [setRow_size]; exact h.size, fun k hk hne => by rw [setRow_other w' g k cs (fun e => hne (by rw [e]))]; exact h.block k hk hne⟩
theorem mid_at {A C D : List Value} {o j : Nat} {v : Value} (h : o = A.length) (hj : C[j]? = some v) : (A ++ C ++ D)[o + j]? = some v := by
  subst h
  rw [List.append_assoc, List.getElem?_append_right (Nat.le_add_right _ _), Nat.add_sub_cancel_left, List.getElem?_append_left (List.getElem?_eq_some_iff.1 hj).1]
  exact hj
theorem grown_new {w w' : World} {r : Option Nat} (h : w.grownBy w' r) {g : Nat} (hg : w.heap.size ≤ g) (cs : Array Value) : w.grownBy (w'.setRow g cs) r :=
  ⟨h.os, h.tape, h.output, by rw [setRow_size]; exact h.size, fun k hk hne => by rw [setRow_other w' g k cs (by omega)]; exact h.block k hk hne⟩
theorem zeros_two (k : Nat) : (Builtin.zeroCells (Value.agg #[.int .u64 0, .int .u64 0]).cells k).size = k * 2 := by simp [Builtin.zeroCells, Value.cells]
theorem grown_trans {w w1 w2 : World} {r : Option Nat} (h : w.grownBy w1 r) (k : w1.grownBy w2 r) : w.grownBy w2 r :=
  ⟨k.os.trans h.os, k.tape.trans h.tape, k.output.trans h.output, Nat.le_trans h.size k.size, fun i hi hne => (k.block i (Nat.lt_of_lt_of_le hi h.size) hne).trans (h.block i hi hne)⟩
theorem grown_below {w w1 : World} (h : Below w.heap.size w w1) (r : Option Nat) : w.grownBy w1 r := ⟨h.os, h.tape, h.output, h.size, fun i hi _ => h.block i hi⟩
theorem grown_set {w w1 : World} {r : Option Nat} (h : w.grownBy w1 r) {b : Nat} (hb : w.heap.size ≤ b) (o : Nat) (x : Value) : w.grownBy (w1.setCell ⟨b, o, none⟩ x) r :=
  ⟨h.os, h.tape, h.output, by simpa [World.setCell] using h.size, fun i hi hne => (Below.heap_setCell w1 ⟨b, o, none⟩ x i (by simp; omega)).trans (h.block i hi hne)⟩
/-- A row that is turned in its place. -/
theorem made_turned {w : World} {B g cap : Nat} {l1 l2 : List R} {x y : R} {n : Nat} (hn : (l1 ++ x :: l2).length = n) (h : MadeX w B 83 2 rowL (.slice (some ⟨g, 0, none⟩) n cap) (l1 ++ x :: l2)) :
    MadeX ((w.setCell ⟨g, l1.length * 2, none⟩ (.int .u64 (y.1 : Nat))).setCell ⟨g, l1.length * 2 + 1, none⟩ (.int .u64 (y.2 : Nat))) B 83 2 rowL (.slice (some ⟨g, 0, none⟩) n cap) (l1 ++ y :: l2) := by
  rcases made_cells h with ⟨h, _⟩ | ⟨g', cap', rest, e, hB, hg, hc, hcm, hr⟩
  · cases h
  · injection e with e1 _ e3
    injection e1 with e1
    injection e1 with e1 _ _
    subst e1 e3
    have e1 : flatL rowL (l1 ++ x :: l2) = flatL rowL l1 ++ (rowL x ++ flatL rowL l2) := by rw [flatL_append]; simp [flatL]
    have e2 : flatL rowL (l1 ++ y :: l2) = flatL rowL l1 ++ (rowL y ++ flatL rowL l2) := by rw [flatL_append]; simp [flatL]
    have hz := flatR l1
    obtain ⟨F1, hF1⟩ : ∃ F, flatL rowL l1 = F := ⟨_, rfl⟩
    obtain ⟨F2, hF2⟩ : ∃ F, flatL rowL l2 = F := ⟨_, rfl⟩
    rw [e1, hF1, hF2] at hg
    rw [hF1] at hz
    have hg' : w.heap[g]? = some (.cells (F1 ++ Value.int .u64 (x.1 : Nat) :: Value.int .u64 (x.2 : Nat) :: (F2 ++ rest)).toArray 83 (0, 0)) := by rw [hg]; simp [rowL]
    have s1 := setCell_eq_setRow w g (l1.length * 2) _ _ (0, 0) (.int .u64 (y.1 : Nat)) hg'
    have a1 : (F1 ++ Value.int .u64 (x.1 : Nat) :: Value.int .u64 (x.2 : Nat) :: (F2 ++ rest)).toArray.setIfInBounds (l1.length * 2) (.int .u64 (y.1 : Nat)) = (F1 ++ Value.int .u64 (y.1 : Nat) :: Value.int .u64 (x.2 : Nat) :: (F2 ++ rest)).toArray := by
      rw [← hz]; simp
    rw [a1] at s1
    have hg2 := setRow_heap w g _ (F1 ++ Value.int .u64 (y.1 : Nat) :: Value.int .u64 (x.2 : Nat) :: (F2 ++ rest)).toArray _ _ hg'
    have s2 := setCell_eq_setRow _ g (l1.length * 2 + 1) _ _ (0, 0) (.int .u64 (y.2 : Nat)) hg2
    have a2 : (F1 ++ Value.int .u64 (y.1 : Nat) :: Value.int .u64 (x.2 : Nat) :: (F2 ++ rest)).toArray.setIfInBounds (l1.length * 2 + 1) (.int .u64 (y.2 : Nat)) = (F1 ++ Value.int .u64 (y.1 : Nat) :: Value.int .u64 (y.2 : Nat) :: (F2 ++ rest)).toArray := by
      rw [← hz]; simp
    rw [a2] at s2
    rw [s1, s2]
    have el : (l1 ++ y :: l2).length = n := by rw [← hn]; simp
    have := made_of (B := B) (l := l1 ++ y :: l2) (rest := rest) (cap := cap) hB (by rw [setRow_heap _ g _ (F1 ++ Value.int .u64 (y.1 : Nat) :: Value.int .u64 (y.2 : Nat) :: (F2 ++ rest)).toArray _ _ hg2, e2, hF1, hF2]; simp [rowL]) (by omega) hcm (by rw [hr]; congr 1; omega)
    rw [el] at this
    exact this
/-- Rows that rise, cut at a key that is there, and at one that isn't. -/
theorem up_there {l : List R} (h : Up l) {k u : Nat} (hg : Tb.get l k = some u) : l = lo l k ++ (k, u) :: hi l k ∧ put l k = fun v => lo l k ++ (k, v) :: hi l k := by
  have e := split_at k h
  rw [hg] at e
  refine ⟨by simpa using e, rfl⟩
theorem up_miss {l : List R} (h : Up l) {k : Nat} (hg : Tb.get l k = none) : l = lo l k ++ hi l k := by rw [← cut_eq k h, cut_none hg]
theorem there_at {l : List R} {k u : Nat} (h : l = lo l k ++ (k, u) :: hi l k) : ∃ hp : (lo l k).length < l.length, l[(lo l k).length]'hp = (k, u) := by
  have e2 := congrArg (fun m => m[(lo l k).length]?) h
  simp only [List.getElem?_append_right (Nat.le_refl _), Nat.sub_self, List.getElem?_cons_zero] at e2
  obtain ⟨hp, e3⟩ := List.getElem?_eq_some_iff.1 e2
  exact ⟨hp, e3⟩
/-- A block of three cells, read and written. -/
theorem res_set3 {w : World} {g : Nat} {a b c x y z : Value} {t : TypeId} (h : w.heap[g]? = some (.cells #[a, b, c] t (0, 0))) :
    (((w.setCell ⟨g, 0, none⟩ x).setCell ⟨g, 1, none⟩ y).setCell ⟨g, 2, none⟩ z).heap[g]? = some (.cells #[x, y, z] t (0, 0)) := by
  rw [setCell_eq_setRow w g 0 _ _ (0, 0) x h]
  have h1 := setRow_heap w g _ (#[a, b, c].setIfInBounds 0 x) _ _ h
  rw [setCell_eq_setRow _ g 1 _ _ (0, 0) y h1]
  have h2 := setRow_heap _ g _ ((#[a, b, c].setIfInBounds 0 x).setIfInBounds 1 y) _ _ h1
  rw [setCell_eq_setRow _ g 2 _ _ (0, 0) z h2]
  have h3 := setRow_heap _ g _ (((#[a, b, c].setIfInBounds 0 x).setIfInBounds 1 y).setIfInBounds 2 z) _ _ h2
  exact h3
theorem two_cells {w : World} {g : Nat} {a b : Value} {t : TypeId} (h : w.heap[g]? = some (.cells #[a, b] t (0, 0))) :
    w.cell? ⟨g, 0, none⟩ = some a ∧ w.frozen? ⟨g, 0, none⟩ = false ∧ w.cell? ⟨g, 1, none⟩ = some b ∧ w.frozen? ⟨g, 1, none⟩ = false := by
  refine ⟨?_, ?_, ?_, ?_⟩ <;> simp [World.cell?, World.frozen?, h]
end Go.Proofs.YtljhcegkekdjgaaDoor

namespace Go.Proofs.YtljhcegkekdjgaaDoor
open Go.RowKit Go.Lib Tb Pt Opn

theorem MadeX.down {w : World} {B B' : Nat} {v : Value} {l : List R} (h : MadeX w B 83 2 rowL v l) (hB : B' ≤ B) : MadeX w B' 83 2 rowL v l := by
  refine ⟨h.1, ?_⟩
  rcases h.2 with h | ⟨g, cap, cur, h1, h2, h3⟩
  · exact .inl h
  · exact .inr ⟨g, cap, cur, h1, Nat.le_trans hB h2, h3⟩

theorem third_new (w : World) (a b c : Obj) : (((w.alloc a).alloc b).alloc c).heap[w.heap.size + 1 + 1]? = some c := by simpa using heap_alloc_new ((w.alloc a).alloc b) c
theorem sl_nil (W : World) : (binOp .eql 56 (.slice none 0 0) (.slice none 0 0)).run Tryd.prog W = .ok (.bool true) W := by kernel_rfl
theorem sl_some (a : Addr) (n d : Nat) (W : World) : (binOp .eql 56 (.slice (some a) n d) (.slice none 0 0)).run Tryd.prog W = .ok (.bool false) W := by kernel_rfl

/-- The rows, the code, the word of a call that turns rows of its own. -/
def Own4 (s : List R × Int × Int) (B : Nat) (w : World) (v : Value) (e : Ending) (w' : World) : Prop := ∃ u, e = .returned (.tuple #[u, resv s.2.1 s.2.2 none 0 0]) ∧ MadeX w' B 83 2 rowL u s.1 ∧ w.grownBy w' v.ownBlock
/-- What Do leaves: rows in memory of its own. -/
def Did4 (s : List R × Int × Int) (err : Int) (w : World) (e : Ending) (w' : World) : Prop := ∃ u, e = .returned (.tuple #[u, resv s.2.1 s.2.2 none 0 0, .int .i64 err]) ∧ MadeX w' w.heap.size 83 2 rowL u s.1 ∧ Below w.heap.size w w'
theorem own_ne {g b n d : Nat} (h : b ≠ g) : some b ≠ (Value.slice (some ⟨g, 0, none⟩) n d).ownBlock := fun e => h (by simpa [Value.ownBlock] using e)
theorem own_apart (u : Value) : u.ownBlock = none ∨ u.ownBlock ≠ (Value.slice none 0 0).ownBlock := by
  cases h : u.ownBlock with
  | none => exact .inl rfl
  | some b => exact .inr (by simp [Value.ownBlock])
/-- A row whose value is turned in its place. -/
theorem made_turned1 {w : World} {B g cap : Nat} {l1 l2 : List R} {k u v : Nat} {n : Nat} (hn : (l1 ++ (k, u) :: l2).length = n) (h : MadeX w B 83 2 rowL (.slice (some ⟨g, 0, none⟩) n cap) (l1 ++ (k, u) :: l2)) :
    MadeX (w.setCell ⟨g, l1.length * 2 + 1, none⟩ (.int .u64 (v : Nat))) B 83 2 rowL (.slice (some ⟨g, 0, none⟩) n cap) (l1 ++ (k, v) :: l2) := by
  rcases made_cells h with ⟨h, _⟩ | ⟨g', cap', rest, e, hB, hg, hc, hcm, hr⟩
  · cases h
  · injection e with e1 _ e3
    injection e1 with e1
    injection e1 with e1 _ _
    subst e1 e3
    have e1 : flatL rowL (l1 ++ (k, u) :: l2) = flatL rowL l1 ++ (rowL (k, u) ++ flatL rowL l2) := by rw [flatL_append]; simp [flatL]
    have e2 : flatL rowL (l1 ++ (k, v) :: l2) = flatL rowL l1 ++ (rowL (k, v) ++ flatL rowL l2) := by rw [flatL_append]; simp [flatL]
    have hz := flatR l1
    obtain ⟨F1, hF1⟩ : ∃ F, flatL rowL l1 = F := ⟨_, rfl⟩
    obtain ⟨F2, hF2⟩ : ∃ F, flatL rowL l2 = F := ⟨_, rfl⟩
    rw [e1, hF1, hF2] at hg
    rw [hF1] at hz
    have hg' : w.heap[g]? = some (.cells (F1 ++ Value.int .u64 (k : Nat) :: Value.int .u64 (u : Nat) :: (F2 ++ rest)).toArray 83 (0, 0)) := by rw [hg]; simp [rowL]
    have s2 := setCell_eq_setRow _ g (l1.length * 2 + 1) _ _ (0, 0) (.int .u64 (v : Nat)) hg'
    have a2 : (F1 ++ Value.int .u64 (k : Nat) :: Value.int .u64 (u : Nat) :: (F2 ++ rest)).toArray.setIfInBounds (l1.length * 2 + 1) (.int .u64 (v : Nat)) = (F1 ++ Value.int .u64 (k : Nat) :: Value.int .u64 (v : Nat) :: (F2 ++ rest)).toArray := by
      rw [← hz]; simp
    rw [a2] at s2
    rw [s2]
    have el : (l1 ++ (k, v) :: l2).length = n := by rw [← hn]; simp
    have := made_of (B := B) (l := l1 ++ (k, v) :: l2) (rest := rest) (cap := cap) hB (by rw [setRow_heap _ g _ (F1 ++ Value.int .u64 (k : Nat) :: Value.int .u64 (v : Nat) :: (F2 ++ rest)).toArray _ _ hg', e2, hF1, hF2]; simp [rowL]) (by omega) hcm (by rw [hr]; congr 1; omega)
    rw [el] at this
    exact this
/-- What lay in W, but for the block g, lies so in X. -/
def KeepN (W X : World) (g : Nat) : Prop := W.heap.size ≤ X.heap.size ∧ ∀ b, b < W.heap.size → b ≠ g → X.heap[b]? = W.heap[b]?
theorem KeepN.refl (W : World) (g : Nat) : KeepN W W g := ⟨Nat.le_refl _, fun _ _ _ => rfl⟩
theorem KeepN.drew (W : World) (g : Nat) : KeepN W W.drew g := ⟨Nat.le_refl _, fun _ _ _ => rfl⟩
theorem KeepN.below {W X Y : World} {g : Nat} (h : KeepN W X g) (hb : Below X.heap.size X Y) : KeepN W Y g :=
  ⟨Nat.le_trans h.1 hb.size, fun b hB hne => (hb.block b (Nat.lt_of_lt_of_le hB h.1)).trans (h.2 b hB hne)⟩
theorem KeepN.grown {W X Y : World} {g : Nat} (h : KeepN W X g) (hb : X.grownBy Y (some g)) : KeepN W Y g :=
  ⟨Nat.le_trans h.1 hb.size, fun b hB hne => (hb.block b (Nat.lt_of_lt_of_le hB h.1) (fun e => hne (by injection e))).trans (h.2 b hB hne)⟩
theorem KeepN.cells {W X : World} {g : Nat} (h : KeepN W X g) : W.heap.size ≤ X.heap.size ∧ (∀ b j, b < W.heap.size → b ≠ g → X.cell? ⟨b, j, none⟩ = W.cell? ⟨b, j, none⟩) ∧ ∀ b j, b < W.heap.size → b ≠ g → X.frozen? ⟨b, j, none⟩ = W.frozen? ⟨b, j, none⟩ :=
  ⟨h.1, fun b _ hB hne => World.cell?_of_block (h.2 b hB hne), fun b _ hB hne => World.frozen?_of_block (h.2 b hB hne)⟩
theorem three_a {W w3 w4 : World} {a b c : Value} {t : TypeId} (h3 : Below (W.alloc (.cells #[a, b, c] t)).drew.heap.size (W.alloc (.cells #[a, b, c] t)).drew w3) (h4 : Below w3.heap.size w3 w4) : Three w4 W.heap.size a b c :=
  res_cells ((h4.block _ (by have := h3.size; simp at this; omega)).trans ((h3.block W.heap.size (by simp)).trans (heap_alloc_new W _)))
theorem three_b {w3 w4 : World} {a b c : Value} {t : TypeId} (h4 : Below (w3.alloc (.cells #[a, b, c] t)).heap.size (w3.alloc (.cells #[a, b, c] t)) w4) : Three w4 w3.heap.size a b c :=
  res_cells ((h4.block _ (by simp)).trans (heap_alloc_new w3 _))
/-- What came first: the result's block was made ahead of the call. -/
theorem three_d {W w4 : World} {a b c : Value} {t : TypeId} (h4 : Below (W.alloc (.cells #[a, b, c] t)).drew.heap.size (W.alloc (.cells #[a, b, c] t)).drew w4) : Three w4 W.heap.size a b c :=
  res_cells ((h4.block _ (by simp)).trans (heap_alloc_new W _))
theorem isr_lit (w : World) (xs : Array Value) (l : List R) (n : Nat) (hn : l.length = n) (hx : xs.toList = flatL rowL l) (hl : n ≤ 1000) : IsR (w.alloc (.cells xs 83)) (some ⟨w.heap.size, 0, none⟩) l := by
  subst hn
  have hs : xs.size = l.length * 2 := by rw [← Array.length_toList, hx, flatR]
  have h := World.ownsRow_lit (e := 83) (base := w.heap.size) (size := 2) w xs l.length (Nat.le_refl _) (by unfold maxLen; omega) hs
  rw [hx] at h
  obtain ⟨A, c, e, _, _, h2⟩ := MadeX.form rowL_len (show MadeX _ _ _ 2 rowL _ l from h)
  injection e with e _ _
  rw [e]; exact h2
theorem isr_take {w : World} {A : Option Addr} {l : List R} (h : IsR w A l) (n : Nat) : IsR w A (l.take n) := fun i x hx => by
  rw [List.getElem?_take] at hx
  split at hx
  · exact h i x hx
  · cases hx
/-- Rows from a place on. -/
theorem isr_drop {w : World} {A : Option Addr} {l : List R} (h : IsR w A l) (p : Nat) : IsR w (A.map fun x => x.add (p * 2)) (l.drop p) := fun i x hx => by
  rw [List.getElem?_drop] at hx
  obtain ⟨b, off, rfl, h1⟩ := h _ x hx
  refine ⟨b, off + p * 2, by rw [Option.map_some, addrAdd], fun j u hj => ?_⟩
  rw [show off + p * 2 + i * 2 + j = off + (p + i) * 2 + j by omega]
  exact h1 j u hj
theorem cell_at_block {w : World} {g : Nat} {xs : Array Value} {t : TypeId} (h : w.heap[g]? = some (.cells xs t (0, 0))) (j : Nat) {v : Value} (hv : xs[j]? = some v) : w.cell? ⟨g, j, none⟩ = some v := by
  simp only [World.cell?, h]
  exact hv
theorem cell_below {w w' : World} {g : Nat} {o : Obj} (h : w.heap[g]? = some o) (hb : Below w.heap.size w w') : w'.heap[g]? = some o := (hb.block _ (Array.getElem?_eq_some_iff.1 h).1).trans h
end Go.Proofs.YtljhcegkekdjgaaDoor

namespace Go.Proofs.YtljhcegkekdjgaaDoor
open Go.RowKit Go.Lib Tb
set_option maxHeartbeats 4000000 in
set_option maxRecDepth 100000 in
theorem delete_any (w : World) (B : Nat) (v : Value) (l1 l2 : List R) (x : R) (hl : (l1 ++ x :: l2).length ≤ 1000000) (hm : MadeX w B 83 2 rowL v (l1 ++ x :: l2)) (z : Int) (hz : z = (l1.length : Int) + 1) :
    Calls Tryd.prog 60 #[v, .int .i64 l1.length, .int .i64 z] w (RetI (l1 ++ l2) B w v) := by
  rcases made_cells hm with ⟨_, h⟩ | ⟨g, cap, rest, rfl, hBg, hg, hc, hcm, hr⟩
  · simp at h
  clear hm
  obtain ⟨i, hi⟩ : ∃ i, l1.length = i := ⟨_, rfl⟩
  obtain ⟨n, hn⟩ : ∃ n, (l1 ++ x :: l2).length = n := ⟨_, rfl⟩
  have hin : i < n := by rw [← hi, ← hn, List.length_append, List.length_cons]; omega
  have hl2 : l2.length = n - i - 1 := by rw [← hi, ← hn, List.length_append, List.length_cons]; omega
  rw [hn] at hl hc hr ⊢
  rw [hi] at hz ⊢
  obtain ⟨F1, hF1⟩ : ∃ F, flatL rowL l1 = F := ⟨_, rfl⟩
  obtain ⟨F2, hF2⟩ : ∃ F, flatL rowL l2 = F := ⟨_, rfl⟩
  have z1 : F1.length = i * 2 := by rw [← hF1, flatR, hi]
  have z2 : F2.length = (n - i - 1) * 2 := by rw [← hF2, flatR, hl2]
  have zx : (rowL x).length = 2 := rfl
  have eF : flatL rowL (l1 ++ x :: l2) = F1 ++ (rowL x ++ F2) := by rw [flatL_append, hF1, show flatL rowL (x :: l2) = rowL x ++ flatL rowL l2 by simp [flatL], hF2]
  rw [eF] at hg
  -- what is turned to the left, and what is left over
  obtain ⟨Q, T, hQ, hT, hQT⟩ : ∃ Q T, Q.length = F2.length ∧ T.length = 2 ∧ rowL x ++ F2 = Q ++ T := ⟨(rowL x ++ F2).take F2.length, (rowL x ++ F2).drop F2.length, by rw [List.length_take, List.length_append]; omega, by rw [List.length_drop, List.length_append, zx]; omega, (List.take_append_drop _ _).symm⟩
  have hg1 : w.drew.heap[g]? = some (.cells (F1 ++ Q ++ (T ++ rest)).toArray 83 (0, 0)) := by
    rw [show w.drew.heap = w.heap from rfl, hg, hQT]; simp
  obtain ⟨i0, hi0, hz0, hzs, hzb⟩ := info_parts row_info
  -- the place that is copied from: the row's own beginning, where there is no more room
  obtain ⟨A, hA, hsrc⟩ : ∃ A : Addr, (if cap = i + 1 then some (⟨g, 0, none⟩ : Addr) else some ⟨g, (i + 1) * 2, none⟩) = some A ∧ Hid (∀ t u, F2[t]? = some u → w.drew.cell? (A.add t) = some u) := by
    by_cases h : cap = i + 1
    · refine ⟨⟨g, 0, none⟩, by simp [h], fun t u hu => ?_⟩
      have h0 : F2.length = 0 := by omega
      rw [List.length_eq_zero_iff.1 h0] at hu
      simp at hu
    · refine ⟨⟨g, (i + 1) * 2, none⟩, by simp [h], fun t u hu => ?_⟩
      have h0 : w.drew.heap[g]? = some (.cells ((F1 ++ rowL x) ++ F2 ++ rest).toArray 83 (0, 0)) := by rw [show w.drew.heap = w.heap from rfl, hg]; simp
      rw [addrAdd, cell_row h0, mid_at (by rw [List.length_append, z1, zx]; omega) hu]
  obtain ⟨W1, hW1⟩ : ∃ W, W = w.drew.setRow g (F1 ++ F2 ++ (T ++ rest)).toArray := ⟨_, rfl⟩
  have happ : ∀ ty dc, (Builtin.append_ #[56, 56] ty #[.slice (some ⟨g, 0, none⟩) i cap, .slice (some A) (n - (i + 1)) dc]).run Tryd.prog w.drew = .ok (.slice (some ⟨g, 0, none⟩) (i + (n - (i + 1))) cap) W1 := fun ty dc => by
    rw [hW1]
    exact run_appendX w.drew _ ty _ i0 Tryd.underlying56 hi0 g i cap F1 Q F2 (T ++ rest) hg1 A (n - (i + 1)) dc (by rw [z1, hzs]) hQ (by rw [z2, hzs]; congr 1) hsrc.out (by rw [← hF2]; exact flatL_one _) (by omega)
  have hg2 : W1.heap[g]? = some (.cells ((F1 ++ F2) ++ T ++ rest).toArray 83 (0, 0)) := by
    rw [hW1, setRow_heap w.drew g _ _ _ _ hg1]; simp
  have hzv : ∀ w, (zeroValue 83).run Tryd.prog w = .ok (.agg #[.int .u64 0, .int .u64 0]) w := fun w => by kernel_rfl
  obtain ⟨W2, hW2⟩ : ∃ W, W = W1.setRow g ((F1 ++ F2) ++ [Value.int .u64 0, Value.int .u64 0] ++ rest).toArray := ⟨_, rfl⟩
  have hcl : ∀ ty dc, (Builtin.clear_ #[56] ty #[.slice (some ⟨g, (i + (n - (i + 1))) * 2, none⟩) (n - (i + (n - (i + 1)))) dc]).run Tryd.prog W1 = .ok (.tuple #[]) W2 := fun ty dc => by
    rw [hW2, show n - (i + (n - (i + 1))) = 1 by omega]
    exact run_clearX W1 _ _ ty _ Tryd.underlying56 hzv g _ 1 dc (by decide) 83 (F1 ++ F2) T _ rest hg2 (by rw [List.length_append, z1, z2]; omega) hT (by kernel_rfl) (by intro u hu; rcases List.mem_cons.1 hu with rfl | hu; rfl; obtain rfl := List.mem_singleton.1 hu; rfl)
  have X1 := Lib.hid (And.intro hW1 hW2)
  have X2 := Lib.hid hg2
  have XF := Lib.hid (And.intro hF1 hF2)
  have XL := Lib.hid (And.intro hi (And.intro hn hr))
  clear hW1 hW2 hg2 hF1 hF2 z1 z2 hi hn hg hg1 zx hl2 eF hr hQ hT hQT hi0 hz0 hzs hzb hsrc
  unfold maxLen at hcm
  have mixed : Tryd.prog.follows Departure.mixedOrders = true := by kernel_rfl
  have hw1 : IntKind.i64.wrap ((i : Int) + 1) = (i : Int) + 1 := by rw [IntKind.wrap_i64]; omega
  have hb1 : (0 : Int) ≤ (i : Int) + 1 := by omega
  have hz2 : ¬ ((i : Int) = (i : Int) + 1) := by omega
  have htn : ((i : Int) + 1).toNat = i + 1 := by omega
  have hb5 : (i : Int) + 1 ≤ (n : Int) := by omega
  have hb6 : i + (n - (i + 1)) ≤ n := by omega
  have hic : i ≤ cap := by omega
  have hjc : i + 1 ≤ cap := by omega
  subst hz
  go_enter Tryd.func60, Tryd.ntmps60
  go_wp2_with fail
  go_region_law_o (refine step_appendX rfl (.tmp 22) (.tmp 25) 56 56 rfl _ _ (by simp [Act.eval, Act.put]) (by simp [Act.eval, Act.put]) (happ _ (cap - (i + 1))) ?_)
  go_wp2_with (at_builtin; refine wpList_clearX _ rfl _ 56 rfl _ rfl (hcl _ _) ?_)
  go_ret
  have el : (l1 ++ l2).length = i + (n - (i + 1)) := by have := XL.out.2.1; simp only [List.length_append, List.length_cons] at this ⊢; have := XL.out.1; omega
  have ef : flatL rowL (l1 ++ l2) = F1 ++ F2 := by rw [flatL_append, XF.out.1, XF.out.2]
  refine ⟨_, rfl, ?_, ?_⟩
  · have := made_of (w := W2) (l := l1 ++ l2) (rest := [Value.int .u64 0, Value.int .u64 0] ++ rest) (cap := cap) hBg (by rw [X1.out.2, setRow_heap W1 g _ _ _ _ X2.out, ef]; simp) (by omega) (by unfold maxLen; omega) (by rw [List.length_append, XL.out.2.2, el]; simp; omega)
    rw [el] at this
    exact this
  · rw [X1.out.2]
    refine grown_row ?_ _
    rw [X1.out.1]
    exact grown_row (grown_drew (World.grownBy.refl _ _)) _
end Go.Proofs.YtljhcegkekdjgaaDoor

namespace Go.Proofs.YtljhcegkekdjgaaDoor
open Go.RowKit Go.Lib Tb
set_option maxHeartbeats 1000000 in
set_option maxRecDepth 100000 in
/-- At the end. -/
theorem insert_end (w : World) (B : Nat) (hB : B ≤ w.heap.size) (v : Value) (l : List R) (y : R) (hl : l.length ≤ 1000000) (hm : MadeX w B 83 2 rowL v l) (g0 : Nat) (hx : ∀ j u, (rowL y)[j]? = some u → w.cell? ⟨g0, 0 + j, none⟩ = some u) :
    Calls Tryd.prog 58 #[v, .int .i64 l.length, .slice (some ⟨g0, 0, none⟩) 1 1] w (RetI (l ++ [y]) B w v) := by
  have HX := Lib.hid hx
  have HM := Lib.hid hm
  clear hx
  rcases made_cells hm with ⟨rfl, rfl⟩ | ⟨g, cap, rest, rfl, _, _, hc, hcm, _⟩
  · clear hm
    obtain ⟨z, hz⟩ : ∃ z : Nat, z = 0 := ⟨_, rfl⟩
    rw [show (([] : List R).length : Nat) = z from hz.symm]
    go_enter Tryd.func58, Tryd.ntmps58
    go_wp2_with (at_builtin; refine wpList_pushX (w0 := w) rfl (.tmp 23) (.tmp 24) _ rfl Tryd.underlying56 row_info rfl (by decide) (by decide) y rfl rfl HM.out g0 0 1 rfl HX.out (row_one _) (by simp) hB ((Below.refl _ _).mono hB) ?_; intro v' w' h1 h2 h3 h4)
    go_ret
    exact ⟨v', rfl, h1.out, h3.out⟩
  · clear hm
    obtain ⟨N, hN⟩ : ∃ N, l.length = N := ⟨_, rfl⟩
    have HN := Lib.hid hN
    rw [hN] at hl hc HM ⊢
    unfold maxLen at hcm
    clear hN
    go_enter Tryd.func58, Tryd.ntmps58
    go_wp2_with (at_builtin; refine wpList_pushX (w0 := w) rfl (.tmp 23) (.tmp 24) _ rfl Tryd.underlying56 row_info rfl (by decide) (by decide) y rfl rfl HM.out g0 0 1 rfl HX.out (row_one _) (by rw [HN.out]; omega) hB ((Below.refl _ _).mono hB) ?_; intro v' w' h1 h2 h3 h4)
    all_goals (go_ret; exact ⟨v', rfl, h1.out, h3.out⟩)
set_option maxHeartbeats 4000000 in
set_option maxRecDepth 100000 in
/-- Ahead of a row, where there is room: in place. -/
theorem insert_shift (w : World) (B g cap : Nat) (l1 l2 : List R) (x y : R) (rest : List Value) (hBg : B ≤ g) (hl : (l1 ++ x :: l2).length ≤ 1000000) (hroom : (l1 ++ x :: l2).length < cap) (hcm : cap ≤ maxLen) (hg : w.heap[g]? = some (.cells (flatL rowL (l1 ++ x :: l2) ++ rest).toArray 83 (0, 0)))
    (hr : rest.length = (cap - (l1 ++ x :: l2).length) * 2) (g0 : Nat) (hne : g0 ≠ g) (hx : w.heap[g0]? = some (.cells (rowL y).toArray 83 (0, 0))) :
    Calls Tryd.prog 58 #[.slice (some ⟨g, 0, none⟩) (l1 ++ x :: l2).length cap, .int .i64 l1.length, .slice (some ⟨g0, 0, none⟩) 1 1] w (RetI (l1 ++ y :: x :: l2) B w (.slice (some ⟨g, 0, none⟩) (l1 ++ x :: l2).length cap)) := by
  obtain ⟨i, hi⟩ : ∃ i, l1.length = i := ⟨_, rfl⟩
  obtain ⟨n, hn⟩ : ∃ n, (l1 ++ x :: l2).length = n := ⟨_, rfl⟩
  have hin : i < n := by rw [← hi, ← hn, List.length_append, List.length_cons]; omega
  have hl2 : l2.length = n - i - 1 := by rw [← hi, ← hn, List.length_append, List.length_cons]; omega
  rw [hn] at hl hroom hr ⊢
  rw [hi]
  -- what the row holds, cut in pieces
  obtain ⟨S, D, hS, rfl⟩ : ∃ S D, S.length = 2 ∧ rest = S ++ D := ⟨rest.take 2, rest.drop 2, by rw [List.length_take, hr]; omega, (List.take_append_drop 2 rest).symm⟩
  obtain ⟨F1, hF1⟩ : ∃ F, flatL rowL l1 = F := ⟨_, rfl⟩
  obtain ⟨F2, hF2⟩ : ∃ F, flatL rowL l2 = F := ⟨_, rfl⟩
  have z1 : F1.length = i * 2 := by rw [← hF1, flatR, hi]
  have z2 : F2.length = (n - i - 1) * 2 := by rw [← hF2, flatR, hl2]
  have eF : flatL rowL (l1 ++ x :: l2) = F1 ++ (rowL x ++ F2) := by rw [flatL_append, hF1, show flatL rowL (x :: l2) = rowL x ++ flatL rowL l2 by simp [flatL], hF2]
  have zx : (rowL x).length = 2 := rfl
  have zy : (rowL y).length = 2 := rfl
  rw [eF] at hg
  have hg1 : w.drew.heap[g]? = some (.cells ((F1 ++ rowL x) ++ (F2 ++ S) ++ D).toArray 83 (0, 0)) := by
    rw [show w.drew.heap = w.heap from rfl, hg]; simp
  have hsz : (Tryd.prog.info? 83).map (·.size) = some 2 := by kernel_rfl
  have hz : ∀ w, (Go.sizeOf 83).run Tryd.prog w = .ok 2 w := fun w => by kernel_rfl
  obtain ⟨sa, fa⟩ := alloc_shape hx
  obtain ⟨sb, _⟩ := alloc_shape hg
  have hov : ∀ lb cb, (callFunc 78 #[.slice (some ⟨g0, 0, none⟩) 1 1, .slice (some ⟨g, (i + 1) * 2, none⟩) lb cb]).run Tryd.prog w = .ok (.value (.bool false)) w := fun lb cb => by
    rw [run_callFunc_extern Tryd.func78 (by kernel_rfl) (by kernel_rfl) (by kernel_rfl) (e := Extern.SlicesOverlaps.overlaps #[56, 56] #[4]) (by kernel_rfl),
      Lib.run_overlaps_apart w 56 4 83 Tryd.underlying56 2 hz ⟨g0, 0, none⟩ ⟨g, (i + 1) * 2, none⟩ 1 1 lb cb hne _ _ _ _ sa sb (by simp [z1, zx]) (fa _) (fa _)]
    rfl
  have hsrc1 : ∀ j v, (rowL x ++ F2)[j]? = some v → w.drew.cell? ((⟨g, i * 2, none⟩ : Addr).add j) = some v := fun j v hj => by
    rw [addrAdd, show w.drew.cell? = w.cell? from rfl, cell_row hg, mid_at (A := F1) z1.symm hj]
  have hcp1 : ∀ ty dc sc, (Builtin.copy_ #[56, 56] ty #[.slice (some ⟨g, (i + 1) * 2, none⟩) (n - i) dc, .slice (some ⟨g, i * 2, none⟩) (n + 1 - i) sc]).run Tryd.prog w.drew = .ok (goInt (Nat.min (n + 1 - i) (n - i))) (w.drew.setRow g ((F1 ++ rowL x) ++ (rowL x ++ F2) ++ D).toArray) := fun ty dc sc =>
    run_copyX w.drew _ _ ty 83 g _ _ dc _ _ sc 83 (F1 ++ rowL x) (F2 ++ S) (rowL x ++ F2) D 2 Tryd.underlying56 hsz hg1 (by rw [List.length_append, z1, zx]; omega) (by rw [List.length_append, List.length_append, zx, hS]; omega) (by rw [List.length_append, zx, z2]; simp only [Nat.min_def]; split <;> omega) hsrc1
      (fun u hu => by rcases List.mem_append.1 hu with h | h; exact row_one x u h; rw [← hF2] at h; exact flatL_one l2 u h)
  obtain ⟨W1, hW1⟩ : ∃ W1, W1 = w.drew.setRow g ((F1 ++ rowL x) ++ (rowL x ++ F2) ++ D).toArray := ⟨_, rfl⟩
  have hg2 : W1.heap[g]? = some (.cells (F1 ++ rowL x ++ (rowL x ++ F2 ++ D)).toArray 83 (0, 0)) := by
    rw [hW1, setRow_heap w.drew g _ _ _ _ hg1]; simp
  have hcp2 : ∀ (W : World), W.heap = W1.heap → ∀ ty dc, (Builtin.copy_ #[56, 56] ty #[.slice (some ⟨g, i * 2, none⟩) (n + 1 - i) dc, .slice (some ⟨g0, 0, none⟩) 1 1]).run Tryd.prog W = .ok (goInt (Nat.min 1 (n + 1 - i))) (W.setRow g (F1 ++ rowL y ++ (rowL x ++ F2 ++ D)).toArray) := fun W hW ty dc =>
    run_copyX W _ _ ty 83 g _ _ dc _ _ 1 83 F1 (rowL x) (rowL y) _ 2 Tryd.underlying56 hsz (by rw [hW]; exact hg2) (by rw [z1]) rfl (by rw [zy, show Nat.min 1 (n + 1 - i) = 1 from Nat.min_eq_left (by omega)])
      (fun j v hj => by
        rw [addrAdd, Nat.zero_add]
        have h0 : W.heap[g0]? = some (.cells (rowL y).toArray 83 (0, 0)) := by rw [hW, hW1, setRow_other _ _ _ _ hne]; exact hx
        rw [cell_row h0]; exact hj) (row_one y)
  rw [← hW1] at hcp1
  have X1 := Lib.hid hW1
  have X2 := Lib.hid hg2
  have XF := Lib.hid (And.intro hF1 (And.intro hF2 (And.intro z1 z2)))
  have XS := Lib.hid (And.intro hr hS)
  have XL := Lib.hid (And.intro hi (And.intro hn eF))
  clear hW1 hg2 hF1 hF2 z1 z2 hr hS hi hn hg hg1 hsrc1 sa fa sb hx zx zy hl2 eF
  unfold maxLen at hcm
  have hw1 : IntKind.i64.wrap ((i : Int) + 1) = ((i + 1 : Nat) : Int) := by rw [IntKind.wrap_i64]; omega
  have hw2 : IntKind.i64.wrap ((n : Int) + 1) = ((n + 1 : Nat) : Int) := by rw [IntKind.wrap_i64]; omega
  have hz2 : ¬ ((i : Int) = (n : Int)) := by omega
  have mixed : Tryd.prog.follows Departure.mixedOrders = true := by kernel_rfl
  have hb1 : (0 : Int) ≤ (i : Int) + 1 := by omega
  have hb0 : IntKind.i64.wrap ((i : Int) + 1) = (i : Int) + 1 := by rw [IntKind.wrap_i64]; omega
  have htn : ((i : Int) + 1).toNat = i + 1 := by omega
  have hb2 : ¬ (cap = i + 1) := by omega
  have hb3 : (i : Int) ≤ (n : Int) + 1 := by omega
  have hb4 : ¬ (cap = i) := by omega
  have hb5 : (i : Int) + 1 ≤ (n : Int) + 1 := by omega
  clear hw1
  go_enter Tryd.func58, Tryd.ntmps58
  go_wp2_with (simp only [hov])
  go_region_law_o (refine step_copyX rfl _ _ 56 56 rfl _ _ (by simp [Act.eval, Act.put]) (by simp [Act.eval, Act.put]) (hcp1 _ _ _) ?_)
  go_wp2_with (at_builtin; refine wpList_copyX _ rfl _ _ 56 56 rfl _ _ rfl rfl (hcp2 _ rfl _ _) ?_)
  go_ret
  have el : (l1 ++ y :: x :: l2).length = n + 1 := by rw [← XL.out.2.1]; simp only [List.length_append, List.length_cons]; omega
  have ef : flatL rowL (l1 ++ y :: x :: l2) = F1 ++ (rowL y ++ (rowL x ++ F2)) := by rw [flatL_append, XF.out.1, show flatL rowL (y :: x :: l2) = rowL y ++ (rowL x ++ flatL rowL l2) by simp [flatL], XF.out.2.1]
  refine ⟨_, rfl, ?_, ?_⟩
  · have := made_of (w := W1.setRow g (F1 ++ (rowL y ++ (rowL x ++ (F2 ++ D)))).toArray) (l := l1 ++ y :: x :: l2) (rest := D) (cap := cap) hBg (by rw [setRow_heap W1 g _ _ _ _ X2.out, ef]; simp) (by omega) (by unfold maxLen; omega) (by have h1 := XS.out.1; have h2 := XS.out.2; rw [List.length_append] at h1; rw [el]; omega)
    rw [el] at this
    exact this
  · refine grown_row ?_ _
    rw [X1.out]
    exact grown_row (grown_drew (World.grownBy.refl _ _)) _
set_option maxHeartbeats 4000000 in
set_option maxRecDepth 100000 in
/-- Ahead of a row, where there is no room: new memory. -/
theorem insert_grow (w : World) (B g : Nat) (hB : B ≤ w.heap.size) (l1 l2 : List R) (x y : R) (rest : List Value) (hl : (l1 ++ x :: l2).length ≤ 1000000) (hg : w.heap[g]? = some (.cells (flatL rowL (l1 ++ x :: l2) ++ rest).toArray 83 (0, 0)))
    (g0 : Nat) (hx : w.heap[g0]? = some (.cells (rowL y).toArray 83 (0, 0))) :
    Calls Tryd.prog 58 #[.slice (some ⟨g, 0, none⟩) (l1 ++ x :: l2).length (l1 ++ x :: l2).length, .int .i64 l1.length, .slice (some ⟨g0, 0, none⟩) 1 1] w (RetI (l1 ++ y :: x :: l2) B w (.slice (some ⟨g, 0, none⟩) (l1 ++ x :: l2).length (l1 ++ x :: l2).length)) := by
  obtain ⟨i, hi⟩ : ∃ i, l1.length = i := ⟨_, rfl⟩
  obtain ⟨n, hn⟩ : ∃ n, (l1 ++ x :: l2).length = n := ⟨_, rfl⟩
  have hin : i < n := by rw [← hi, ← hn, List.length_append, List.length_cons]; omega
  have hl2 : l2.length = n - i - 1 := by rw [← hi, ← hn, List.length_append, List.length_cons]; omega
  rw [hn] at hl ⊢
  rw [hi]
  obtain ⟨F1, hF1⟩ : ∃ F, flatL rowL l1 = F := ⟨_, rfl⟩
  obtain ⟨F2, hF2⟩ : ∃ F, flatL rowL (x :: l2) = F := ⟨_, rfl⟩
  have z1 : F1.length = i * 2 := by rw [← hF1, flatR, hi]
  have z2 : F2.length = (n - i) * 2 := by rw [← hF2, flatR, List.length_cons, hl2]; omega
  have eF : flatL rowL (l1 ++ x :: l2) = F1 ++ F2 := by rw [flatL_append, hF1, hF2]
  have zy : (rowL y).length = 2 := rfl
  rw [eF] at hg
  have hsz : (Tryd.prog.info? 83).map (·.size) = some 2 := by kernel_rfl
  obtain ⟨i0, hi0, hz0, hzs, hzb⟩ := info_parts row_info
  have h63 : Tryd.prog.underlying 3 = some (.int .i64) := by kernel_rfl
  -- the new block
  have hgl : g < w.heap.size := (Array.getElem?_eq_some_iff.1 hg).1
  have hold : (Builtin.firstCells i0.size i (.slice (some ⟨g, 0, none⟩) i n)).run Tryd.prog w.drew = .ok F1.toArray w.drew := by
    rw [hzs]
    exact run_firstCells_some w.drew 2 i ⟨g, 0, none⟩ i n F1 z1 (fun j v hj => by
      rw [addrAdd, show w.drew.cell? = w.cell? from rfl, cell_row hg]
      rw [Nat.zero_add, List.append_assoc, List.getElem?_append_left (List.getElem?_eq_some_iff.1 hj).1]
      exact hj)
  obtain ⟨k, hk⟩ : ∃ k, n + 1 - i = k := ⟨_, rfl⟩
  have eik : i + k = n + 1 := by omega
  obtain ⟨K, hK⟩ : ∃ K, grownCap w (n + 1) n 83 = K := ⟨_, rfl⟩
  have hK1 : n + 1 ≤ K := by rw [← hK]; exact grownCap_ge _ _ _ _
  have hK2 : K ≤ maxLen := by rw [← hK]; exact grownCap_le_maxLen _ _ _ _ (by unfold maxLen; omega)
  obtain ⟨Z1, hZ1⟩ : ∃ Z, (Builtin.zeroCells (Value.agg #[.int .u64 0, .int .u64 0]).cells k).toList = Z := ⟨_, rfl⟩
  obtain ⟨Z2, hZ2⟩ : ∃ Z, (Builtin.zeroCells (Value.agg #[.int .u64 0, .int .u64 0]).cells (K - (n + 1))).toList = Z := ⟨_, rfl⟩
  have lz1 : Z1.length = k * 2 := by rw [← hZ1, Array.length_toList, zeros_two]
  have lz2 : Z2.length = (K - (n + 1)) * 2 := by rw [← hZ2, Array.length_toList, zeros_two]
  obtain ⟨Y, Z3, hY, rfl⟩ : ∃ S D, S.length = 2 ∧ Z1 = S ++ D := ⟨Z1.take 2, Z1.drop 2, by rw [List.length_take, lz1]; omega, (List.take_append_drop 2 Z1).symm⟩
  obtain ⟨W0, hW0⟩ : ∃ W, W = w.drew.alloc (.cells (F1 ++ (Y ++ Z3) ++ Z2).toArray 83) := ⟨_, rfl⟩
  have hrun : ∀ ty, (Builtin.append_ #[56, 3] ty #[.slice (some ⟨g, 0, none⟩) i n, .int .i64 (k : Nat)]).run Tryd.prog w = .ok (.slice (some ⟨w.heap.size, 0, none⟩) (n + 1) K) W0 := fun ty => by
    have h := run_append_grow_zeros w 56 3 ty 83 i0 _ .i64 .i64 Tryd.underlying56 h63 hi0 hz0 (some ⟨g, 0, none⟩) i n F1 hold k (by omega) (by omega) (by omega) (by omega) (by rw [hzb]; omega) (by rw [hzb, eik]; exact growslice_fits (by omega) (by omega))
    rw [eik, hK, ← Array.toArray_toList (xs := Builtin.zeroCells _ k), hZ1, ← Array.toArray_toList (xs := Builtin.zeroCells _ (K - (n + 1))), hZ2, List.append_toArray, List.append_toArray, ← hW0] at h
    exact h
  have hb0 : W0.heap[w.heap.size]? = some (.cells (F1 ++ Y ++ (Z3 ++ Z2)).toArray 83 (0, 0)) := by
    rw [hW0, show w.heap.size = w.drew.heap.size from rfl, heap_alloc_new]; simp
  have hne : g0 ≠ w.heap.size := by have := (Array.getElem?_eq_some_iff.1 hx).1; omega
  have hcp1 : ∀ (W : World), W.heap = W0.heap → ∀ ty dc, (Builtin.copy_ #[56, 56] ty #[.slice (some ⟨w.heap.size, i * 2, none⟩) k dc, .slice (some ⟨g0, 0, none⟩) 1 1]).run Tryd.prog W = .ok (goInt (Nat.min 1 k)) (W.setRow w.heap.size (F1 ++ rowL y ++ (Z3 ++ Z2)).toArray) := fun W hW ty dc =>
    run_copyX W _ _ ty 83 _ _ _ dc _ _ 1 83 F1 Y (rowL y) _ 2 Tryd.underlying56 hsz (by rw [hW]; exact hb0) (by rw [z1]) (by rw [hY, zy]) (by rw [zy, show Nat.min 1 k = 1 from Nat.min_eq_left (by omega)])
      (fun j v hj => by
        rw [addrAdd, Nat.zero_add]
        have h0 : W.heap[g0]? = some (.cells (rowL y).toArray 83 (0, 0)) := by rw [hW, hW0]; exact (heap_alloc_old w.drew _ (Array.getElem?_eq_some_iff.1 hx).1).trans hx
        rw [cell_row h0]; exact hj) (row_one y)
  obtain ⟨W1, hW1⟩ : ∃ W, W = W0.setRow w.heap.size (F1 ++ rowL y ++ (Z3 ++ Z2)).toArray := ⟨_, rfl⟩
  have hb1 : W1.heap[w.heap.size]? = some (.cells ((F1 ++ rowL y) ++ Z3 ++ Z2).toArray 83 (0, 0)) := by
    rw [hW1, setRow_heap W0 _ _ _ _ _ hb0]; simp
  have hg1 : W1.heap[g]? = some (.cells (F1 ++ F2 ++ rest).toArray 83 (0, 0)) := by
    rw [hW1, setRow_other _ _ _ _ (by omega), hW0]; exact (heap_alloc_old w.drew _ hgl).trans hg
  have hcp2 : ∀ (W : World), W.heap = W1.heap → ∀ ty dc sc, (Builtin.copy_ #[56, 56] ty #[.slice (some ⟨w.heap.size, (i + 1) * 2, none⟩) (n - i) dc, .slice (some ⟨g, i * 2, none⟩) (n - i) sc]).run Tryd.prog W = .ok (goInt (Nat.min (n - i) (n - i))) (W.setRow w.heap.size ((F1 ++ rowL y) ++ F2 ++ Z2).toArray) := fun W hW ty dc sc =>
    run_copyX W _ _ ty 83 _ _ _ dc _ _ sc 83 (F1 ++ rowL y) Z3 F2 Z2 2 Tryd.underlying56 hsz (by rw [hW]; exact hb1) (by rw [List.length_append, z1, zy]; omega) (by rw [List.length_append, hY] at lz1; omega) (by rw [z2, show Nat.min (n - i) (n - i) = n - i from Nat.min_self _])
      (fun j v hj => by
        have h0 : W.heap[g]? = some (.cells (F1 ++ F2 ++ rest).toArray 83 (0, 0)) := by rw [hW]; exact hg1
        rw [addrAdd, cell_row h0, mid_at z1.symm hj]) (by rw [← hF2]; exact flatL_one _)
  have hcp3 := hcp2 W1.drew rfl
  have hcp0 := hcp1 W0 rfl
  rw [← hW1] at hcp0
  clear hcp1 hcp2
  have X0 := Lib.hid hW0
  have X1 := Lib.hid hW1
  have X2 := Lib.hid hb1
  have XF := Lib.hid (And.intro hF1 (And.intro hF2 (And.intro lz2 zy)))
  have XL := Lib.hid (And.intro hi (And.intro hn eF))
  clear hW0 hW1 hb0 hb1 hg1 hF1 hF2 z1 z2 lz1 lz2 hZ1 hZ2 hY hi hn hg hx zy hl2 eF hold hi0 hz0 hzs hzb hsz h63 hK hne
  unfold maxLen at hK2
  have hw2 : IntKind.i64.wrap ((n : Int) + 1) = (n : Int) + 1 := by rw [IntKind.wrap_i64]; omega
  have hw3 : IntKind.i64.wrap ((n : Int) + 1 - (i : Int)) = (k : Nat) := by rw [IntKind.wrap_i64]; omega
  have hb0' : IntKind.i64.wrap ((i : Int) + 1) = (i : Int) + 1 := by rw [IntKind.wrap_i64]; omega
  have hz2 : ¬ ((i : Int) = (n : Int)) := by omega
  have mixed : Tryd.prog.follows Departure.mixedOrders = true := by kernel_rfl
  have hb1 : (0 : Int) ≤ (i : Int) + 1 := by omega
  have htn : ((i : Int) + 1).toNat = i + 1 := by omega
  have hb3 : (i : Int) ≤ (n : Int) + 1 := by omega
  have hb4 : ¬ (n = i) := by omega
  have hb5 : (i : Int) + 1 ≤ (n : Int) + 1 := by omega
  have hb6 : ¬ (K = i + 1) := by omega
  have hb7 : ¬ (K = i) := by omega
  have hb8 : i ≤ n := by omega
  go_enter Tryd.func58, Tryd.ntmps58
  go_wp2_with (first
    | (at_builtin; refine wpList_appendX _ rfl _ _ 56 3 rfl _ _ rfl rfl (hrun _) ?_)
    | (at_builtin; refine wpList_copyX _ rfl _ _ 56 56 rfl _ _ rfl rfl (hcp0 _ _) ?_))
  go_region_law_o (refine step_copyX rfl _ _ 56 56 rfl _ _ (by simp [Act.eval, Act.put]) (by simp [Act.eval, Act.put]) (hcp3 _ _ _) ?_)
  go_wp2
  go_ret
  have el : (l1 ++ y :: x :: l2).length = n + 1 := by rw [← XL.out.2.1]; simp only [List.length_append, List.length_cons]; omega
  have ef : flatL rowL (l1 ++ y :: x :: l2) = F1 ++ rowL y ++ F2 := by rw [flatL_append, XF.out.1, show flatL rowL (y :: x :: l2) = rowL y ++ flatL rowL (x :: l2) by simp [flatL], XF.out.2.1, List.append_assoc]
  refine ⟨_, rfl, ?_, ?_⟩
  · have := made_of (w := W1.drew.setRow w.heap.size (F1 ++ rowL y ++ F2 ++ Z2).toArray) (l := l1 ++ y :: x :: l2) (rest := Z2) (cap := K) hB (by rw [setRow_heap W1.drew _ _ _ _ _ X2.out, ef]) (by omega) (by unfold maxLen; omega) (by rw [el]; exact XF.out.2.2.1)
    rw [el] at this
    simpa using this
  · have h0 : w.grownBy W0 (some g) := by rw [X0.out]; exact grown_drew (World.grownBy_alloc _ _ _)
    have h1 : w.grownBy W1 (some g) := by rw [X1.out]; exact grown_new h0 (Nat.le_refl _) _
    have h2 : w.grownBy W1.drew (some g) := ⟨h1.os, h1.tape, h1.output, h1.size, h1.block⟩
    exact grown_new h2 (Nat.le_refl _) _
/-- One row put in, wherever. -/
theorem insert_any (w : World) (B : Nat) (hB : B ≤ w.heap.size) (v : Value) (l1 l2 : List R) (y : R) (hl : (l1 ++ l2).length ≤ 1000000) (hm : MadeX w B 83 2 rowL v (l1 ++ l2)) (g0 : Nat) (hne : v.ownBlock ≠ some g0) (hx : w.heap[g0]? = some (.cells (rowL y).toArray 83 (0, 0))) :
    Calls Tryd.prog 58 #[v, .int .i64 l1.length, .slice (some ⟨g0, 0, none⟩) 1 1] w (RetI (l1 ++ y :: l2) B w v) := by
  cases l2 with
  | nil =>
    rw [List.append_nil] at hl hm
    exact insert_end w B hB v l1 y hl hm g0 fun j u h => by rw [Nat.zero_add, cell_row hx]; exact h
  | cons x l2 =>
    rcases made_cells hm with ⟨_, h⟩ | ⟨g, cap, rest, rfl, hBg, hg, hc, hcm, hr⟩
    · simp at h
    · by_cases hroom : (l1 ++ x :: l2).length < cap
      · exact insert_shift w B g cap l1 l2 x y rest hBg hl hroom hcm hg hr g0 (fun e => hne (by rw [e]; rfl)) hx
      · obtain rfl : cap = (l1 ++ x :: l2).length := by omega
        exact insert_grow w B g hB l1 l2 x y rest hl hg g0 hx
end Go.Proofs.YtljhcegkekdjgaaDoor

namespace Go.Proofs.YtljhcegkekdjgaaDoor
open Go.RowKit Go.Lib Tb Pt Opn

set_option maxRecDepth 100000 in
set_option maxHeartbeats 1000000 in
theorem clone_any (A : Option Addr) (l : List R) (d : Nat) (hl : l.length ≤ 1000000) (hA : A = none → l.length = 0 ∧ d = 0) (w : World) (h : IsR w A l) :
    Calls Tryd.prog 34 #[.slice A l.length d] w (RetR l w) := by
  have HA := Lib.hid h
  have HN := Lib.hid hA
  clear h hA
  cases A with
  | none =>
    obtain ⟨h1, h2⟩ := HN.out rfl
    obtain rfl : l = [] := List.eq_nil_of_length_eq_zero h1
    subst h2
    have hE := sl_nil
    go_enter Tryd.func34, Tryd.ntmps34
    go_wp2
    go_ret
    exact ⟨_, rfl, MadeX.nil _ _ _ _ _, Below.refl _ _⟩
  | some ad =>
    have hE := sl_some ad
    go_enter Tryd.func34, Tryd.ntmps34
    go_wp2_with (at_builtin
                 refine wpList_joinX (w0 := w) rfl (.tmp 5) (.tmp 6) _ rfl Tryd.underlying56 row_info rfl (by decide) (B := w.heap.size) (l := []) rowL_len rfl (World.ownsRow_lit w #[] 0 (Nat.le_refl _) (by unfold maxLen; omega) rfl) rfl HN.out (HA.out.below (below_one _ _)) row_one (by simp; omega) (by simp; omega) (Nat.le_refl _) (below_one _ _) ?_
                 intro v W Hv hbW Hg)
    go_ret
    exact ⟨_, rfl, Hv.out, hbW⟩
end Go.Proofs.YtljhcegkekdjgaaDoor

namespace Go.Proofs.YtljhcegkekdjgaaDoor
open Go.RowKit
section
variable {P : Program} {b : Frame} {a : Act} {k : List Item} {cs : List Frame} {w : World} {Q : Exit → Act → World → Prop} {F : Fence} {n : Nat}
theorem stepR_scope' {c : Code} : step P (lone (b.atR a (.code (.scope c) :: k)) cs w) = .next (lone (b.atR a (.code c :: .inScope c :: k)) cs w) :=
  step_lone_go (by simp [stepG, stepG.exec, Frame.atR])
theorem stepR_inScope' {c : Code} : step P (lone (b.atR a (.inScope c :: k)) cs w) = .next (lone (b.atR a k) cs w) :=
  step_lone_go (by simp [stepG, stepG.exec, Frame.atR])
theorem wpIn_scope_straight' {c : Code} (h : c.wpIn F n P (Exit.noGoto Q) a w) : (Code.scope c).wpIn F n P Q a w := by
  intro b k cs hro hb hr
  have h0 : (lone (b.atR a (.code (.scope c) :: k)) cs w).fenced P F := fenced_calm hb hr rfl
  obtain ⟨e, a₁, w₁, hq, harr⟩ := h b (.inScope c :: k) cs hro hb hr
  cases e with
  | normal => exact ⟨.normal, a₁, w₁, hq, .head h0 stepR_scope' (StepsIn.trans harr (.one (fenced_calm hb hr rfl) stepR_inScope'))⟩
  | exit id =>
    exact ⟨.exit id, a₁, w₁, hq, fun k' hk => .head h0 stepR_scope' (harr.1 k' (by simp [exitTo, hk])),
      fun hr' hk => let ⟨k₁, h1, h2⟩ := harr.2 hr' (by simp [exitTo, hk]); ⟨k₁, h1, .head h0 stepR_scope' h2⟩⟩
  | goto l => exact hq.elim
  | ret => exact ⟨_, a₁, w₁, hq, .of_steps (.one h0 stepR_scope') harr⟩
  | panic ch => exact ⟨_, a₁, w₁, hq, .of_steps (.one h0 stepR_scope') harr⟩
  | outgrown => exact ⟨_, a₁, w₁, hq, .of_steps (.one h0 stepR_scope') harr⟩
end
end Go.Proofs.YtljhcegkekdjgaaDoor
