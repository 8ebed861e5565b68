/- The document's own answers on lists of rows: the same, a key's place, those that rise, a copy. The document's own answers on lists of rows that are made: a copy, with a row, without one. -/
import Derived.Test.YtljdkjjjnlcflaaDoorProg
import Derived.Test.YtljdkjjjnlcflaaDoorLists
import Derived.Test.YtljdkjjjnlcflaaDoorTbMath
import Derived.Deep.LoopGhost
import Derived.Test.YtljdkjjjnlcflaaDoorTail
namespace Go.Proofs.YtljdkjjjnlcflaaDoor
open Go.RowKit Tb

def rowL (x : R) : List Value := [.int .u64 (x.1 : Nat), .int .u64 (x.2 : Nat)]
theorem rowL_len (x : R) : (rowL x).length = 2 := rfl
/-- Rows lie at A. -/
abbrev IsR (w : World) (A : Option Addr) (l : List R) : Prop := IsL w A 2 rowL l
theorem IsL.row {w : World} {A : Option Addr} {l : List R} (h : IsR w A l) {i : Nat} (hi : i < l.length) : ∃ b off, A = some ⟨b, off, none⟩ ∧ w.cell? ⟨b, off + i * 2, none⟩ = some (.int .u64 (l[i].1 : Nat)) ∧ w.cell? ⟨b, off + i * 2 + 1, none⟩ = some (.int .u64 (l[i].2 : Nat)) := by
  obtain ⟨b, off, e, h1⟩ := h i _ (List.getElem?_eq_getElem hi)
  exact ⟨b, off, e, h1 0 _ rfl, h1 1 _ rfl⟩

/-- Where the row of a key stands. -/
def fnd (l : List R) (k : Nat) : Int := match l.findIdx? (fun x => x.1 == k) with | some i => (i : Int) | none => -1

theorem fnd_hit {l : List R} {k i : Nat} (hi : i < l.length) (h : ∀ j, (hj : j < l.length) → j < i → (l[j]).1 ≠ k) (e : (l[i]).1 = k) : fnd l k = i := by
  have : l.findIdx? (fun x => x.1 == k) = some i := by
    rw [List.findIdx?_eq_some_iff_getElem]
    exact ⟨hi, by simpa using e, fun j hj => by have := h j (by omega) hj; simpa using this⟩
  unfold fnd
  rw [this]
theorem fnd_miss {l : List R} {k : Nat} (h : ∀ j, (hj : j < l.length) → (l[j]).1 ≠ k) : fnd l k = -1 := by
  have : l.findIdx? (fun x => x.1 == k) = none := by
    rw [List.findIdx?_eq_none_iff]
    intro x hx
    obtain ⟨j, hj, rfl⟩ := List.getElem_of_mem hx
    simpa using h j hj
  unfold fnd
  rw [this]

set_option maxHeartbeats 1000000 in
theorem rFind_any (A : Option Addr) (l : List R) (c : Nat) (hl : l.length ≤ 9223372036854775807) (k : Nat) (w : World) (h : IsR w A l) :
    Calls Tryd.prog 17 #[.slice A l.length c, .int .u64 k] w (Ret (.int .i64 (fnd l k)) w) := by
  have HA := Lib.hid h
  clear h
  obtain ⟨N, hN⟩ : ∃ N, l.length = N := ⟨_, rfl⟩
  rw [hN] at hl ⊢
  have HN := Lib.hid hN
  clear hN
  obtain ⟨z, hz⟩ : ∃ z, fnd l k = z := ⟨_, rfl⟩
  rw [hz]
  have HZ := Lib.hid hz
  clear hz
  go_enter Tryd.func17, Tryd.ntmps17
  go_wp2
  go_loopw [5] (fun i wr => w = wr ∧ ∃ j : Nat, j ≤ N ∧ i = .int .i64 j ∧ Hid (∀ m, (hm : m < l.length) → m < j → (l[m]).1 ≠ k)) (fun i _ => N - (intOf i).toNat)
  case atStart => exact ⟨rfl, 0, Nat.zero_le _, rfl, Lib.hid fun m _ hm => by omega⟩
  case round =>
    obtain ⟨rfl, j, hj, rfl, HM⟩ := hrel
    by_cases hlt : j < N
    · obtain ⟨b, off, rfl, h1, _⟩ := HA.out.row (i := j) (by rw [HN.out]; exact hlt)
      have i1 : (0 : Int) ≤ (j : Int) := by omega
      have i2 : (j : Int) < (N : Int) := by omega
      obtain ⟨q, hq⟩ : ∃ q, (l[j]'(by rw [HN.out]; exact hlt)).1 = q := ⟨_, rfl⟩
      rw [hq] at h1
      have HQ := Lib.hid hq
      clear hq
      by_cases he : q = k
      · subst he
        go_wp2
        go_ret
        exact Ret.mk (i64_eq (by rw [← HZ.out]; exact (fnd_hit (by rw [HN.out]; exact hlt) HM.out HQ.out).symm)) (Below.refl _ _)
      · have he' : ¬ (q : Int) = (k : Int) := by omega
        go_wp2
        go_roundw
        case rel => exact ⟨by trivial, j + 1, by omega, by go_num, Lib.hid fun m hm1 hm2 => by
          by_cases e : m = j
          · subst e; rw [HQ.out]; exact he
          · exact HM.out m hm1 (by omega)⟩
        case measure => simp [intOf]; omega
    · obtain rfl : j = N := by omega
      go_wp2
      go_ret
      exact Ret.mk (i64_eq (by rw [← HZ.out]; exact (fnd_miss fun m hm => HM.out m hm (by rw [← HN.out]; exact hm)).symm)) (Below.refl _ _)

set_option maxHeartbeats 1000000 in
theorem rSameRows_any (A B : Option Addr) (l m : List R) (c d : Nat) (hl : l.length ≤ 9223372036854775807) (w : World) (h : IsR w A l) (g : IsR w B m) :
    Calls Tryd.prog 12 #[.slice A l.length c, .slice B m.length d] w (Ret (.bool (decide (l = m))) w) := by
  by_cases hlen : l.length = m.length
  · have HA := Lib.hid h
    have HB := Lib.hid g
    obtain ⟨N, hN⟩ : ∃ N, l.length = N := ⟨_, rfl⟩
    rw [← hlen]
    rw [hN] at hl hlen ⊢
    have HN := Lib.hid hN
    have HM := Lib.hid hlen.symm
    clear h g hN hlen
    obtain ⟨z, hz⟩ : ∃ z, decide (l = m) = z := ⟨_, rfl⟩
    rw [hz]
    have HZ := Lib.hid hz
    clear hz
    go_enter Tryd.func12, Tryd.ntmps12
    go_wp2
    go_loopw [5] (fun i wr => Below w.heap.size w wr ∧ ∃ j : Nat, j ≤ N ∧ i = .int .i64 j ∧ Hid (∀ k, (h1 : k < l.length) → (h2 : k < m.length) → k < j → l[k] = m[k])) (fun i _ => N - (intOf i).toNat)
    case atStart => exact ⟨Below.refl _ _, 0, Nat.zero_le _, rfl, Lib.hid fun k _ _ hk => by omega⟩
    case round =>
      obtain ⟨hbr, j, hj, rfl, HS⟩ := hrel
      by_cases hlt : j < N
      · have j1 : j < l.length := by rw [HN.out]; exact hlt
        have j2 : j < m.length := by rw [HM.out]; exact hlt
        obtain ⟨b, off, rfl, h1, h2⟩ := HA.out.row j1
        obtain ⟨b', off', rfl, h3, h4⟩ := HB.out.row j2
        replace h1 := (hbr.cell (World.block_lt_of_cell? _ _ h1)).trans h1
        replace h2 := (hbr.cell (World.block_lt_of_cell? _ _ h2)).trans h2
        replace h3 := (hbr.cell (World.block_lt_of_cell? _ _ h3)).trans h3
        replace h4 := (hbr.cell (World.block_lt_of_cell? _ _ h4)).trans h4
        have i1 : (0 : Int) ≤ (j : Int) := by omega
        have i2 : (j : Int) < (N : Int) := by omega
        obtain ⟨q1, e1⟩ : ∃ q, l[j].1 = q := ⟨_, rfl⟩
        obtain ⟨q2, e2⟩ : ∃ q, l[j].2 = q := ⟨_, rfl⟩
        obtain ⟨q3, e3⟩ : ∃ q, m[j].1 = q := ⟨_, rfl⟩
        obtain ⟨q4, e4⟩ : ∃ q, m[j].2 = q := ⟨_, rfl⟩
        rw [e1] at h1
        rw [e2] at h2
        rw [e3] at h3
        rw [e4] at h4
        have E := Lib.hid (And.intro (And.intro e1 e2) (And.intro e3 e4))
        clear e1 e2 e3 e4
        by_cases d1 : q1 = q3
        · subst d1
          by_cases d2 : q2 = q4
          · subst d2
            go_wp2
            go_quiet (fail)
            go_wp2
            go_roundw
            case rel => exact ⟨hbr.trans ⟨rfl, rfl, rfl, Nat.le_refl _, fun _ _ => rfl⟩, j + 1, by omega, by go_num, Lib.hid fun k k1 k2 k3 => by
              by_cases e : k = j
              · subst e
                exact Prod.ext (E.out.1.1.trans E.out.2.1.symm) (E.out.1.2.trans E.out.2.2.symm)
              · exact HS.out k k1 k2 (by omega)⟩
            case measure => simp [intOf]; omega
          · have d3 : ¬ (q2 : Int) = (q4 : Int) := by omega
            have d4 : ((q2 : Int) != (q4 : Int)) = true := by simpa using d3
            go_wp2
            go_quiet (fail)
            go_wp2
            go_ret
            exact Ret.mk (bool_eq (by rw [← HZ.out, eq_comm, decide_eq_false_iff_not]; intro h; subst h; exact d2 (E.out.1.2.symm.trans E.out.2.2))) (hbr.trans ⟨rfl, rfl, rfl, Nat.le_refl _, fun _ _ => rfl⟩)
        · have d3 : ¬ (q1 : Int) = (q3 : Int) := by omega
          have d4 : ((q1 : Int) != (q3 : Int)) = true := by simpa using d3
          go_wp2
          go_quiet (fail)
          go_wp2
          go_ret
          exact Ret.mk (bool_eq (by rw [← HZ.out, eq_comm, decide_eq_false_iff_not]; intro h; subst h; exact d1 (E.out.1.1.symm.trans E.out.2.1))) (hbr.trans ⟨rfl, rfl, rfl, Nat.le_refl _, fun _ _ => rfl⟩)
      · obtain rfl : j = N := by omega
        go_wp2
        go_ret
        exact Ret.mk (bool_eq (by rw [← HZ.out, eq_comm, decide_eq_true_iff]; exact List.ext_getElem (HN.out.trans HM.out.symm) fun k k1 k2 => HS.out k k1 k2 (by rw [← HN.out]; exact k1))) hbr
  · have hz : decide (l = m) = false := decide_eq_false fun e => hlen (by rw [e])
    rw [hz]
    have d1 : ¬ (l.length : Int) = (m.length : Int) := by omega
    have d2 : ((l.length : Int) != (m.length : Int)) = true := by simpa using d1
    generalize l.length = N at *
    generalize m.length = M at *
    clear h g hz
    go_enter Tryd.func12, Tryd.ntmps12
    go_wp2
    go_ret
    exact Ret.mk rfl (Below.refl _ _)
end Go.Proofs.YtljdkjjjnlcflaaDoor

namespace Go.Proofs.YtljdkjjjnlcflaaDoor
open Go.RowKit Tb

theorem row_info : (Tryd.prog.info? 24).map (fun i => (i.zero, i.size, i.bytes)) = some (some (.agg #[.int .u64 0, .int .u64 0]), 2, 16) := by kernel_rfl
theorem row_one : ∀ x : R, ∀ u ∈ rowL x, u.oneCell' = true := fun x u hu => by
  simp [rowL] at hu
  rcases hu with rfl | rfl <;> rfl
/-- What a call answers that makes rows. -/
def RetR (l : List R) (w : World) (e : Ending) (w' : World) : Prop := ∃ v, e = .returned v ∧ MadeX w' w.heap.size 24 2 rowL v l ∧ Below w.heap.size w w'

set_option maxHeartbeats 1000000 in
theorem rRise_any (A : Option Addr) (l : List R) (c : Nat) (hl : l.length ≤ 9223372036854775807) (w : World) (h : IsR w A l) :
    Calls Tryd.prog 32 #[.slice A l.length c] w (Ret (.bool (decide (Up l))) w) := by
  have HA := Lib.hid h
  clear h
  obtain ⟨N, hN⟩ : ∃ N, l.length = N := ⟨_, rfl⟩
  rw [hN] at hl ⊢
  have HN := Lib.hid hN
  clear hN
  obtain ⟨z, hz⟩ : ∃ z, decide (Up l) = z := ⟨_, rfl⟩
  rw [hz]
  have HZ := Lib.hid hz
  clear hz
  go_enter Tryd.func32, Tryd.ntmps32
  go_wp2
  go_loopw [3] (fun i wr => Below w.heap.size w wr ∧ ∃ p : Nat, (p < N ∨ p = 0) ∧ i = .int .i64 (p + 1 : Nat) ∧ Hid (Up (l.take (p + 1)))) (fun i _ => N + 1 - (intOf i).toNat)
  case atStart => exact ⟨Below.refl _ _, 0, .inr rfl, rfl, Lib.hid (up_take_zero l)⟩
  case round =>
    obtain ⟨hbr, p, hp, rfl, HU⟩ := hrel
    obtain ⟨j, hj⟩ : ∃ j, p + 1 = j := ⟨_, rfl⟩
    by_cases hlt : p + 1 < N
    · have j1 : p < l.length := by rw [HN.out]; omega
      have j2 : p + 1 < l.length := by rw [HN.out]; omega
      obtain ⟨b, off, rfl, h1, _⟩ := HA.out.row j1
      obtain ⟨_, _, e, h2, _⟩ := HA.out.row j2
      cases e
      replace h1 := (hbr.cell (World.block_lt_of_cell? _ _ h1)).trans h1
      replace h2 := (hbr.cell (World.block_lt_of_cell? _ _ h2)).trans h2
      obtain ⟨q1, e1⟩ : ∃ q, l[p].1 = q := ⟨_, rfl⟩
      obtain ⟨q2, e2⟩ : ∃ q, l[p + 1].1 = q := ⟨_, rfl⟩
      rw [e1] at h1
      rw [e2, hj] at h2
      rw [hj]
      have E := Lib.hid (And.intro e1 e2)
      have hj' : (j : Int) - 1 = (p : Int) := by omega
      have i1 : (0 : Int) ≤ (j : Int) := by omega
      have i2 : (j : Int) < (N : Int) := by omega
      have i3 : (0 : Int) ≤ (p : Int) := by omega
      have i4 : (p : Int) < (N : Int) := by omega
      have HJ := Lib.hid hj
      clear e1 e2 hp hlt hj
      by_cases d1 : q1 < q2
      · have d2 : ¬ (q2 : Int) ≤ (q1 : Int) := by omega
        go_wp2
        go_quiet (fail)
        go_wp2
        go_roundw
        case rel => exact ⟨hbr.trans ⟨rfl, rfl, rfl, Nat.le_refl _, fun _ _ => rfl⟩, j, .inl (by omega), by go_num, Lib.hid (by rw [← HJ.out]; exact up_take_succ HU.out j2 (by rw [E.out.1, E.out.2]; exact d1))⟩
        case measure => simp [intOf]; omega
      · have d2 : (q2 : Int) ≤ (q1 : Int) := by omega
        go_wp2
        go_quiet (fail)
        go_wp2
        go_ret
        exact Ret.mk (bool_eq (by rw [← HZ.out, eq_comm, decide_eq_false_iff_not]; exact not_up j2 (by rw [E.out.1, E.out.2]; exact d1))) (hbr.trans ⟨rfl, rfl, rfl, Nat.le_refl _, fun _ _ => rfl⟩)
    · rw [hj]
      have i2 : ¬ (j : Int) < (N : Int) := by omega
      have hN2 : N ≤ p + 1 := by omega
      clear hj hlt hp
      go_wp2
      go_ret
      exact Ret.mk (bool_eq (by rw [← HZ.out, eq_comm, decide_eq_true_iff]; have := HU.out; rwa [List.take_of_length_le (by rw [HN.out]; exact hN2)] at this)) hbr

set_option maxHeartbeats 1000000 in
theorem rCopy_any (A : Option Addr) (l : List R) (c : Nat) (hl : l.length ≤ 1000000) (hA : A = none → l.length = 0 ∧ c = 0) (w : World) (h : IsR w A l) :
    Calls Tryd.prog 30 #[.slice A l.length c] w (RetR l w) := by
  have HA := Lib.hid h
  have HN := Lib.hid hA
  clear h hA
  go_enter Tryd.func30, Tryd.ntmps30
  go_wp2_with (at_builtin
               refine wpList_joinX (w0 := w) rfl (.tmp 3) (.tmp 4) _ rfl Tryd.underlying25 row_info rfl (by decide) (B := w.heap.size) (l := []) rowL_len rfl (World.ownsRow_lit w #[] 0 (Nat.le_refl _) (by unfold maxLen; omega) rfl) rfl HN.out (HA.out.below (below_one _ _)) row_one (by simp; omega) (by simp; omega) (Nat.le_refl _) (below_one _ _) ?_
               intro v W Hv hbW Hg)
  go_ret
  exact ⟨_, rfl, Hv.out, hbW⟩

theorem cut_take {l : List R} {k j : Nat} (hj : j < l.length) : cut (l.take (j + 1)) k = cut (l.take j) k ++ (if l[j].1 ≠ k then [l[j]] else []) := by
  unfold cut
  rw [List.take_add_one, List.getElem?_eq_getElem hj, List.filter_append]
  by_cases e : l[j].1 = k <;> simp [e]
theorem cut_len (l : List R) (k j : Nat) : (cut (l.take j) k).length ≤ l.length := by
  unfold cut
  refine Nat.le_trans (List.length_filter_le _ _) ?_
  rw [List.length_take]; omega
theorem rowBoxed (w : World) (x y : Nat) (j : Nat) (u : Value) (h : (rowL (x, y))[j]? = some u) : (w.alloc (.cells #[.int .u64 (x : Nat), .int .u64 (y : Nat)] 24)).cell? ⟨w.heap.size, 0 + j, none⟩ = some u := by
  match j, h with
  | 0, h => simp [rowL] at h; subst h; simp [go_sem]
  | 1, h => simp [rowL] at h; subst h; simp [go_sem]
  | j + 2, h => simp [rowL] at h

set_option maxHeartbeats 1000000 in
theorem rWithout_any (A : Option Addr) (l : List R) (c : Nat) (hl : l.length ≤ 1000000) (k : Nat) (w : World) (h : IsR w A l) :
    Calls Tryd.prog 20 #[.slice A l.length c, .int .u64 k] w (RetR (cut l k) w) := by
  have HA := Lib.hid h
  clear h
  obtain ⟨N, hN⟩ : ∃ N, l.length = N := ⟨_, rfl⟩
  rw [hN] at hl ⊢
  have HN := Lib.hid hN
  clear hN
  have HW := Lib.hid (show ∀ va w', MadeX w' w.heap.size 24 2 rowL va (cut l k) → Below w.heap.size w w' → RetR (cut l k) w (.returned va) w' from fun va w' h1 h2 => ⟨va, rfl, h1, h2⟩)
  obtain ⟨B, hB⟩ : ∃ B, w.heap.size = B := ⟨_, rfl⟩
  rw [hB] at HW
  have HB := Lib.hid hB
  go_enter Tryd.func20, Tryd.ntmps20
  go_wp2
  clear hB
  have hb0 : Below B w w := Below.refl _ _
  go_loopw [5, 6] (fun va i wr => ∃ j : Nat, j ≤ N ∧ i = .int .i64 j ∧ Hid (MadeX wr B 24 2 rowL va (cut (l.take j) k)) ∧ Below B w wr) (fun _ i _ => N - (intOf i).toNat)
  case atStart => exact ⟨0, Nat.zero_le _, rfl, Lib.hid (MadeX.nil _ _ _ _ _), hb0⟩
  case round =>
    obtain ⟨j, hj, rfl, HV, hbr⟩ := hrel
    have i1 : (0 : Int) ≤ (j : Int) := by omega
    by_cases hlt : j < N
    · have j1 : j < l.length := by rw [HN.out]; exact hlt
      obtain ⟨b, off, rfl, h1, h2⟩ := HA.out.row j1
      replace h1 := (hbr.cell (by rw [← HB.out]; exact World.block_lt_of_cell? _ _ h1)).trans h1
      replace h2 := (hbr.cell (by rw [← HB.out]; exact World.block_lt_of_cell? _ _ h2)).trans h2
      have i2 : (j : Int) < (N : Int) := by omega
      obtain ⟨q1, e1⟩ : ∃ q, l[j].1 = q := ⟨_, rfl⟩
      obtain ⟨q2, e2⟩ : ∃ q, l[j].2 = q := ⟨_, rfl⟩
      rw [e1] at h1
      rw [e2] at h2
      have E := Lib.hid (Prod.ext e1 e2 : l[j] = (q1, q2))
      have CT := Lib.hid (cut_take (k := k) j1)
      have CL := Lib.hid (cut_len l k j)
      clear e1 e2
      by_cases d1 : q1 = k
      · subst d1
        go_wp2
        go_roundw
        case rel => exact ⟨j + 1, by omega, by go_num, Lib.hid (by rw [CT.out, E.out, if_neg (by simp), List.append_nil]; exact HV.out), hbr⟩
        case measure => simp [intOf]; omega
      · have d2 : ¬ (q1 : Int) = (k : Int) := by omega
        have d3 : ((q1 : Int) != (k : Int)) = true := by simpa using d2
        have hs : b < wr.heap.size := World.block_lt_of_cell? _ _ h1
        have hBs : B ≤ wr.heap.size := by rw [← HB.out]; exact hbr.size
        go_wp2_with (at_builtin
                     refine wpList_pushX (w0 := w) rfl (.tmp 20) (.tmp 25) _ rfl Tryd.underlying25 row_info rfl (by decide) (by decide) (B := B) (l := cut (l.take j) k) (q1, q2) rfl rfl (HV.out.alloc _) wr.heap.size 0 1 rfl (fun j u h => rowBoxed _ q1 q2 j u h) (row_one _) (by have := CL.out; rw [HN.out] at this; omega) (by rw [HB.out]; exact Nat.le_refl _) (hbr.alloc hBs _) ?_
                     intro va' W4 HV4 hbW4 Hg4 Ho4)
        go_roundw
        case rel => exact ⟨j + 1, by omega, by go_num, Lib.hid (by rw [CT.out, E.out, if_pos d1]; exact HV4.out), hbW4⟩
        case measure => simp [intOf]; omega
    · obtain rfl : j = N := by omega
      go_wp2
      go_ret
      exact HW.out _ _ (by have := HV.out; rwa [List.take_of_length_le (by rw [HN.out]; exact Nat.le_refl _)] at this) hbr

/-- What a loop has made, when it has gone through j rows. -/
def puts (l : List R) (k v j : Nat) : List R × Bool := (l.take j).foldl (putStep k v) ([], false)
theorem puts_succ {l : List R} (k v : Nat) {j : Nat} (hj : j < l.length) : puts l k v (j + 1) = putStep k v (puts l k v j) l[j] := by
  unfold puts
  rw [List.take_add_one, List.getElem?_eq_getElem hj, List.foldl_append]
  rfl
theorem putStep_len (k v : Nat) (s : List R × Bool) (x : R) : (putStep k v s x).1.length ≤ s.1.length + 2 := by
  unfold putStep
  simp only
  (repeat' split) <;> simp
theorem puts_len (l : List R) (k v : Nat) : ∀ j, j ≤ l.length → (puts l k v j).1.length ≤ 2 * j
  | 0, _ => by simp [puts]
  | j + 1, hj => by
    rw [puts_succ k v (by omega)]
    have := putStep_len k v (puts l k v j) (l[j]'(by omega))
    have := puts_len l k v j (by omega)
    omega
theorem puts_all (l : List R) (k v : Nat) {j : Nat} (hj : l.length ≤ j) : puts l k v j = l.foldl (putStep k v) ([], false) := by
  unfold puts
  rw [List.take_of_length_le hj]

set_option maxHeartbeats 4000000 in
theorem rWith_any (A : Option Addr) (l : List R) (c : Nat) (hl : l.length ≤ 1000000) (k v : Nat) (w : World) (h : IsR w A l) :
    Calls Tryd.prog 55 #[.slice A l.length c, .int .u64 k, .int .u64 v] w (RetR (putEnd k v (l.foldl (putStep k v) ([], false))) w) := by
  have HA := Lib.hid h
  clear h
  obtain ⟨N, hN⟩ : ∃ N, l.length = N := ⟨_, rfl⟩
  rw [hN] at hl ⊢
  have HN := Lib.hid hN
  clear hN
  obtain ⟨T, hT⟩ : ∃ T, putEnd k v (l.foldl (putStep k v) ([], false)) = T := ⟨_, rfl⟩
  rw [hT]
  have HT := Lib.hid hT
  clear hT
  obtain ⟨B, hB⟩ : ∃ B, w.heap.size = B := ⟨_, rfl⟩
  have HW := Lib.hid (show ∀ va w', MadeX w' w.heap.size 24 2 rowL va T → Below w.heap.size w w' → RetR T w (.returned va) w' from fun va w' h1 h2 => ⟨va, rfl, h1, h2⟩)
  rw [hB] at HW
  have HB := Lib.hid hB
  go_enter Tryd.func55, Tryd.ntmps55
  go_wp2
  clear hB
  have hb0 : Below B w w := Below.refl _ _
  go_loopw [7, 8, 9] (fun va pv i wr => ∃ j : Nat, j ≤ N ∧ i = .int .i64 j ∧ pv = .bool (puts l k v j).2 ∧ Hid (MadeX wr B 24 2 rowL va (puts l k v j).1) ∧ Below B w wr) (fun _ _ i _ => N - (intOf i).toNat)
  case atStart => exact ⟨0, Nat.zero_le _, rfl, rfl, Lib.hid (MadeX.nil _ _ _ _ _), hb0⟩
  case round =>
    obtain ⟨j, hj, rfl, rfl, HV, hbr⟩ := hrel
    have i1 : (0 : Int) ≤ (j : Int) := by omega
    have hBs : B ≤ wr.heap.size := by rw [← HB.out]; exact hbr.size
    have CL := Lib.hid (show (puts l k v j).1.length ≤ 2000000 by have := puts_len l k v j (by rw [HN.out]; exact hj); omega)
    by_cases hlt : j < N
    · have j1 : j < l.length := by rw [HN.out]; exact hlt
      obtain ⟨b, off, rfl, h1, h2⟩ := HA.out.row j1
      have HL := Lib.hid (World.block_lt_of_cell? _ _ h1)
      have H1 := Lib.hid h1
      have H2 := Lib.hid h2
      replace h1 := (hbr.cell (by rw [← HB.out]; exact World.block_lt_of_cell? _ _ h1)).trans h1
      replace h2 := (hbr.cell (by rw [← HB.out]; exact World.block_lt_of_cell? _ _ h2)).trans h2
      have i2 : (j : Int) < (N : Int) := by omega
      obtain ⟨q1, e1⟩ : ∃ q, l[j].1 = q := ⟨_, rfl⟩
      obtain ⟨q2, e2⟩ : ∃ q, l[j].2 = q := ⟨_, rfl⟩
      rw [e1] at h1 H1
      rw [e2] at h2 H2
      have PS := Lib.hid ((puts_succ k v j1).trans (congrArg (putStep k v (puts l k v j)) (Prod.ext e1 e2 : l[j] = (q1, q2))))
      clear e1 e2
      have hs : b < wr.heap.size := World.block_lt_of_cell? _ _ h1
      obtain ⟨s, hs'⟩ : ∃ s, puts l k v j = s := ⟨_, rfl⟩
      rw [hs'] at HV CL PS ⊢
      clear hs'
      obtain ⟨la, p⟩ := s
      simp only at HV CL ⊢
      by_cases d0 : p = false ∧ k ≤ q1
      · obtain ⟨rfl, d0⟩ := d0
        have d0' : (k : Int) ≤ (q1 : Int) := by omega
        by_cases d1 : q1 = k
        · have d2 : (q1 : Int) = (k : Int) := by omega
          have d3 : ((q1 : Int) != (k : Int)) = false := by simpa using d2
          go_wp2_with (at_builtin
                       refine wpList_pushX (w0 := w) rfl (.tmp 27) (.tmp 31) _ rfl Tryd.underlying25 row_info rfl (by decide) (by decide) (B := B) (l := la) (k, v) rfl rfl (HV.out.alloc _) _ 0 1 rfl (fun j u h => rowBoxed _ _ _ j u h) (row_one _) (by have := CL.out; simp; omega) (by rw [HB.out]; exact Nat.le_refl _) (hbr.alloc hBs _) ?_
                       intro va' W4 HV4 hbW4 Hg4 Ho4
                       have g1 := (hbW4.cell (by rw [← HB.out]; exact HL.out)).trans H1.out)
          go_roundw
          case rel => exact ⟨j + 1, by omega, by go_num, by rw [PS.out]; simp [putStep, d0], Lib.hid (by rw [PS.out, show putStep k v (la, false) (q1, q2) = (la ++ [(k, v)], true) by simp [putStep, d1]]; exact HV4.out), hbW4⟩
          case measure => simp [intOf]; omega
        · have d2 : ¬ (q1 : Int) = (k : Int) := by omega
          have d3 : ((q1 : Int) != (k : Int)) = true := by simpa using d2
          go_wp2_with (first
            | (at_builtin
               refine wpList_pushX (w0 := w) rfl (.tmp 27) (.tmp 31) _ rfl Tryd.underlying25 row_info rfl (by decide) (by decide) (B := B) (l := la) (k, v) rfl rfl (HV.out.alloc _) _ 0 1 rfl (fun j u h => rowBoxed _ _ _ j u h) (row_one _) (by have := CL.out; simp; omega) (by rw [HB.out]; exact Nat.le_refl _) (hbr.alloc hBs _) ?_
               intro va' W4 HV4 hbW4 Hg4 Ho4
               have g1 := (hbW4.cell (by rw [← HB.out]; exact HL.out)).trans H1.out
               have g2 := (hbW4.cell (by rw [← HB.out]; exact HL.out)).trans H2.out
               have hB4 : B ≤ W4.heap.size := (by rw [← HB.out]; exact hbW4.size)
               clear h1 h2)
            | (at_builtin
               refine wpList_pushX (w0 := w) rfl (.tmp 40) (.tmp 45) _ rfl Tryd.underlying25 row_info rfl (by decide) (by decide) (B := B) (l := la ++ [(k, v)]) (q1, q2) rfl rfl (HV4.out.alloc _) _ 0 1 rfl (fun j u h => rowBoxed _ _ _ j u h) (row_one _) (by have := CL.out; simp; omega) (by rw [HB.out]; exact Nat.le_refl _) (hbW4.alloc hB4 _) ?_
               intro va' W5 HV5 hbW5 Hg5 Ho5))
          go_roundw
          case rel => exact ⟨j + 1, by omega, by go_num, by rw [PS.out]; simp [putStep, d0], Lib.hid (by rw [PS.out, show putStep k v (la, false) (q1, q2) = (la ++ [(k, v)] ++ [(q1, q2)], true) by simp [putStep, d0, d1]]; exact HV5.out), hbW5⟩
          case measure => simp [intOf]; omega
      · have PS2 := Lib.hid (show putStep k v (la, p) (q1, q2) = (if q1 ≠ k then la ++ [(q1, q2)] else la, p) by simp only [putStep]; rw [if_neg d0])
        have hp : p = true ∨ (p = false ∧ ¬ (k : Int) ≤ (q1 : Int)) := by
          cases p with
          | true => exact .inl rfl
          | false => exact .inr ⟨rfl, fun h => d0 ⟨rfl, by omega⟩⟩
        by_cases d1 : q1 = k
        · have d2 : (q1 : Int) = (k : Int) := by omega
          have d3 : ((q1 : Int) != (k : Int)) = false := by simpa using d2
          rcases hp with rfl | ⟨rfl, hp⟩
          · go_wp2
            go_roundw
            case rel => exact ⟨j + 1, by omega, by go_num, by rw [PS.out, PS2.out], Lib.hid (by rw [PS.out, PS2.out, if_neg (by simpa using d1)]; exact HV.out), hbr⟩
            case measure => simp [intOf]; omega
          · omega
        · have d2 : ¬ (q1 : Int) = (k : Int) := by omega
          have d3 : ((q1 : Int) != (k : Int)) = true := by simpa using d2
          rcases hp with rfl | ⟨rfl, hp⟩
          all_goals
            go_wp2_with (at_builtin
                         refine wpList_pushX (w0 := w) rfl (.tmp 40) (.tmp 45) _ rfl Tryd.underlying25 row_info rfl (by decide) (by decide) (B := B) (l := la) (q1, q2) rfl rfl (HV.out.alloc _) _ 0 1 rfl (fun j u h => rowBoxed _ _ _ j u h) (row_one _) (by have := CL.out; simp; omega) (by rw [HB.out]; exact Nat.le_refl _) (hbr.alloc hBs _) ?_
                         intro va' W5 HV5 hbW5 Hg5 Ho5)
            go_roundw
            case rel => exact ⟨j + 1, by omega, by go_num, by rw [PS.out, PS2.out], Lib.hid (by rw [PS.out, PS2.out, if_pos d1]; exact HV5.out), hbW5⟩
            case measure => simp [intOf]; omega
    · obtain rfl : j = N := by omega
      have hall := puts_all l k v (j := j) (by rw [HN.out]; exact Nat.le_refl _)
      have HT2 := Lib.hid (HT.out.symm.trans (congrArg (putEnd k v) hall.symm))
      clear hall
      obtain ⟨s, hs'⟩ : ∃ s, puts l k v j = s := ⟨_, rfl⟩
      rw [hs'] at HV CL HT2 ⊢
      clear hs'
      obtain ⟨la, p⟩ := s
      simp only at HV CL ⊢
      cases p with
      | true =>
        go_wp2
        go_ret
        exact HW.out _ _ (by rw [HT2.out]; exact HV.out) hbr
      | false =>
        go_wp2_with (at_builtin
                     refine wpList_pushX (w0 := w) rfl (.tmp 49) (.tmp 53) _ rfl Tryd.underlying25 row_info rfl (by decide) (by decide) (B := B) (l := la) (k, v) rfl rfl (HV.out.alloc _) _ 0 1 rfl (fun j u h => rowBoxed _ _ _ j u h) (row_one _) (by have := CL.out; simp; omega) (by rw [HB.out]; exact Nat.le_refl _) (hbr.alloc hBs _) ?_
                     intro va' W5 HV5 hbW5 Hg5 Ho5)
        go_ret
        exact HW.out _ _ (by rw [HT2.out]; exact HV5.out) hbW5
end Go.Proofs.YtljdkjjjnlcflaaDoor
