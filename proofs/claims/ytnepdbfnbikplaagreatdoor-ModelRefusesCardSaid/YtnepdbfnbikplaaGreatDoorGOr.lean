/- The document's own model of an index: whether rows may be an index's. The document's own answers on an index: what an operation that only reads answers: a value, a floor, a scan. The document's own answers on an index: what an operation that fits does. The document's own answers on an index: Do, of whatever config, rows and operation. What follows of an index: what is answered may be an index's, what leaves the rows, what is put is got, a scan in two, a floor. -/
import Derived.Test.YtnepdbfnbikplaaGreatDoorGRow
import Derived.Test.YtnepdbfnbikplaaGreatDoorGOpRef
import Derived.Test.YtnepdbfnbikplaaGreatDoorGOld
import Derived.Deep.RegionWith
import Derived.Deep.DeepCutAuto
namespace Go.Proofs.YtnepdbfnbikplaaGreatDoor
open Go.RowKit Tb Pt Opn

/-- A key and a value that may stand in an index. -/
def OrOk (x : R) : Prop := x.1 ≤ 2147483647 ∧ x.2 ≤ 2147483647
instance (x : R) : Decidable (OrOk x) := by unfold OrOk; infer_instance
/-- Rows that may be an index's. -/
def IsOr (c : Cf) (l : List R) : Prop := Ok c ∧ c.obj = 2 ∧ (l.length : Int) ≤ c.cap ∧ Up l ∧ ∀ x ∈ l, OrOk x
instance (c : Cf) (l : List R) : Decidable (IsOr c l) := by unfold IsOr; infer_instance
def orB (c : Cf) (l : List R) : Bool := decide (IsOr c l)
theorem orB_false {c : Cf} {l : List R} (h : ¬ IsOr c l) : orB c l = false := decide_eq_false h
theorem orB_true {c : Cf} {l : List R} (h : IsOr c l) : orB c l = true := decide_eq_true h

end Go.Proofs.YtnepdbfnbikplaaGreatDoor

namespace Go.Proofs.YtnepdbfnbikplaaGreatDoor
open Go.RowKit Tb Pt Opn

theorem get_hit {l : List R} {a j : Nat} (hj : j < l.length) (h : l[j].1 = a) (hn : ∀ m, (hm : m < l.length) → m < j → l[m].1 ≠ a) : Tb.get l a = some l[j].2 := by
  have h1 := fnd_hit hj hn h
  rcases fnd_get l a with ⟨h2, _⟩ | ⟨i, hi, h2, _, h3⟩
  · omega
  · have : i = j := by omega
    subst this
    exact h3
theorem get_miss {l : List R} {a : Nat} (hn : ∀ m, (hm : m < l.length) → l[m].1 ≠ a) : Tb.get l a = none := by
  rcases fnd_get l a with ⟨_, h⟩ | ⟨i, hi, _, h2, _⟩
  · exact h
  · exact absurd h2 (hn i hi)
/-- The last row whose key is a at most. -/
def flo (l : List R) (a : Nat) : List R := match (l.filter fun x => decide (x.1 ≤ a)).getLast? with | some x => [x] | none => []
/-- The rows whose keys are from a to b. -/
def scan (l : List R) (a b : Nat) : List R := l.filter fun x => decide (a ≤ x.1) && decide (x.1 ≤ b)
theorem flo_take {l : List R} {a j : Nat} (hj : j < l.length) : flo (l.take (j + 1)) a = if l[j].1 ≤ a then [l[j]] else flo (l.take j) a := by
  unfold flo
  rw [List.take_succ_eq_append_getElem hj, List.filter_append]
  by_cases h : l[j].1 ≤ a
  · rw [if_pos h, List.filter_cons_of_pos (by simpa using h)]; simp
  · rw [if_neg h, List.filter_cons_of_neg (by simpa using h)]; simp
theorem flo_len (l : List R) (a : Nat) : (flo l a).length ≤ 1 := by
  unfold flo
  split <;> simp
theorem scan_take {l : List R} {a b j : Nat} (hj : j < l.length) : scan (l.take (j + 1)) a b = scan (l.take j) a b ++ (if a ≤ l[j].1 ∧ l[j].1 ≤ b then [l[j]] else []) := by
  unfold scan
  rw [List.take_succ_eq_append_getElem hj, List.filter_append]
  by_cases h : a ≤ l[j].1 ∧ l[j].1 ≤ b
  · rw [if_pos h, List.filter_cons_of_pos (by simpa using h)]; simp
  · rw [if_neg h, List.filter_cons_of_neg (by simpa using h)]; simp
theorem scan_len (l : List R) (a b j : Nat) : (scan (l.take j) a b).length ≤ l.length := by
  unfold scan
  exact Nat.le_trans (List.length_filter_le _ _) (List.length_take_le' _ _)
/-- What an operation that only reads answers: the code, the word, the rows. -/
def readR (l : List R) (k a b : Nat) : Int × Int × List R :=
  if k = 6 then (match Tb.get l a with | some v => (0, ((v + 1) % 4294967296 : Nat), []) | none => (6, 0, []))
  else if k = 7 then (if flo l a = [] then 6 else 0, 0, flo l a)
  else (0, 0, scan l a b)
/-- An answer with rows of its own. -/
def ResR (s : Int × Int × List R) (w : World) (e : Ending) (w' : World) : Prop := ∃ u, e = .returned (.agg #[.int .i64 s.1, .int .u32 s.2.1, u]) ∧ MadeX w' w.heap.size 44 2 rowL u s.2.2 ∧ Below w.heap.size w w'
theorem MadeX.down' {w : World} {B B' : Nat} {v : Value} {l : List R} (h : MadeX w B 44 2 rowL v l) (hB : B' ≤ B) : MadeX w B' 44 2 rowL v l := by
  refine ⟨h.1, ?_⟩
  rcases h.2 with h | ⟨g, cap, cur, h1, h2, h3⟩
  · exact .inl h
  · exact .inr ⟨g, cap, cur, h1, Nat.le_trans hB h2, h3⟩

end Go.Proofs.YtnepdbfnbikplaaGreatDoor

namespace Go.Proofs.YtnepdbfnbikplaaGreatDoor
open Go.RowKit Tb Pt Opn

/-- What an operation does that fits: the rows, the code, the word, the answer's rows. -/
def doneO (cap : Nat) (l : List R) (k a b : Nat) : List R × Int × Int × List R :=
  if 6 ≤ k then (l, readR l k a b)
  else if k = 4 then (match Tb.get l a with
    | some v => (put l a b, 0, (((v + 1) % 4294967296 : Nat) : Int), [])
    | none => if cap ≤ l.length then (l, 9, 0, []) else (put l a b, 0, 0, []))
  else (match Tb.get l a with
    | some v => (cut l a, 0, (((v + 1) % 4294967296 : Nat) : Int), [])
    | none => (l, 6, 0, []))
/-- Rows that lie in no block below n. -/
def NewV (n : Nat) (r : Value) : Prop := ∀ b, r.ownBlock = some b → n ≤ b
theorem newv_nil (n : Nat) : NewV n (.slice none 0 0) := fun b h => by cases h
theorem newv_of {w : World} {B n : Nat} {v : Value} {l : List R} (h : MadeX w B 44 2 rowL v l) (hn : n ≤ B) : NewV n v := fun b hb => Nat.le_trans hn (MadeX.lt h b hb).1
theorem newv_len {n : Nat} {A : Option Addr} {a b c d : Nat} (h : NewV n (.slice A a b)) : NewV n (.slice A c d) := fun g hg => h g (by cases A <;> exact hg)
/-- Two answers: rows, and an answer with rows. -/
def Did5 (s : List R × Int × Int × List R) (w : World) (e : Ending) (w' : World) : Prop := ∃ u r, e = .returned (.tuple #[u, .agg #[.int .i64 s.2.1, .int .u32 s.2.2.1, r]]) ∧ IsRV w' u s.1 ∧ IsRV w' r s.2.2.2 ∧ NewV w.heap.size r ∧ Below w.heap.size w w'
theorem isrv_nil (w : World) : IsRV w (.slice none 0 0) [] := ⟨none, 0, rfl, ⟨Nat.le_refl _, by omega⟩, fun _ => ⟨rfl, rfl⟩, IsL.nil _ _ _ _⟩


end Go.Proofs.YtnepdbfnbikplaaGreatDoor

namespace Go.Proofs.YtnepdbfnbikplaaGreatDoor
open Go.RowKit Tb Pt Opn

/-- Three answers: rows, an answer with rows, an error. -/
def Did6 (s : List R × Int × Int × List R) (err : Int) (w : World) (e : Ending) (w' : World) : Prop := ∃ u r, e = .returned (.tuple #[u, .agg #[.int .i64 s.2.1, .int .u32 s.2.2.1, r], .int .i64 err]) ∧ IsRV w' u s.1 ∧ IsRV w' r s.2.2.2 ∧ NewV w.heap.size r ∧ Below w.heap.size w w'
def doOR (c : Cf) (l : List R) (o : O) : List R × Int × Int × List R :=
  if ¬ (Ok c ∧ c.obj = 2) then ([], 0, 0, []) else if ¬ IsOr c l then ([], 0, 0, []) else if chk c o ≠ 0 then (l, chk c o, 0, []) else doneO c.cap.toNat l o.k o.a o.b
def doOE (c : Cf) (l : List R) : Int := if ¬ (Ok c ∧ c.obj = 2) then 40 else if ¬ IsOr c l then 2 else 0
theorem index_kind {k : Nat} (h : (objAt k : Int) = 2) : 4 ≤ k ∧ k ≤ 8 := by
  unfold objAt at h
  (repeat' split at h) <;> omega
theorem doneO_len {cap : Nat} {l : List R} (k a b : Nat) (hu : Up l) : (doneO cap l k a b).1.length ≤ l.length + 1 := by
  have h1 := len_put a b hu
  have h2 := cut_length l a
  unfold doneO
  (repeat' split) <;> simp only <;> (try (split at h1)) <;> omega

end Go.Proofs.YtnepdbfnbikplaaGreatDoor

namespace Go.Proofs.YtnepdbfnbikplaaGreatDoor
open Go.RowKit Tb Pt Opn

theorem doOE_cases (c : Cf) (l : List R) : (doOE c l = 0 ∧ IsOr c l) ∨ (doOE c l ≠ 0 ∧ ¬ IsOr c l) := by
  unfold doOE
  by_cases h1 : Ok c ∧ c.obj = 2
  · by_cases h2 : IsOr c l
    · exact .inl ⟨by rw [if_neg (not_not_intro h1), if_neg (not_not_intro h2)], h2⟩
    · exact .inr ⟨by rw [if_neg (not_not_intro h1), if_pos h2]; decide, h2⟩
  · exact .inr ⟨by rw [if_pos h1]; decide, fun h => h1 ⟨h.1, h.2.1⟩⟩
theorem doOR_none {c : Cf} {l : List R} (o : O) (h : ¬ IsOr c l) : doOR c l o = ([], 0, 0, []) := by
  unfold doOR
  by_cases h1 : Ok c ∧ c.obj = 2
  · rw [if_neg (not_not_intro h1), if_pos h]
  · rw [if_pos h1]
theorem doOR_bad {c : Cf} {l : List R} {o : O} (h : IsOr c l) (hb : chk c o ≠ 0) : doOR c l o = (l, chk c o, 0, []) := by
  unfold doOR; rw [if_neg (not_not_intro ⟨h.1, h.2.1⟩), if_neg (not_not_intro h), if_pos hb]
theorem doOR_done {c : Cf} {l : List R} {o : O} (h : IsOr c l) (hb : chk c o = 0) : doOR c l o = doneO c.cap.toNat l o.k o.a o.b := by
  unfold doOR; rw [if_neg (not_not_intro ⟨h.1, h.2.1⟩), if_neg (not_not_intro h), if_neg (not_not_intro hb)]
/-- What an operation that fits says. -/
theorem fits_two {c : Cf} {o : O} (hc : c.obj = 2) (h : chk c o = 0) : ((o.k = 4 ∨ o.k = 8) ∧ o.a ≤ 2147483647 ∧ o.b ≤ 2147483647 ∧ o.c = 0) ∨ ((o.k = 5 ∨ o.k = 6 ∨ o.k = 7) ∧ o.a ≤ 2147483647 ∧ o.b = 0 ∧ o.c = 0) := by
  obtain ⟨_, h2, h3⟩ := chk_zero h
  have hk := index_kind (k := o.k) (by rw [h2]; exact hc)
  unfold Fits at h3
  rcases h3 with h | h | h | h | h | h | h | h | h | h <;> omega
theorem orput_tab {c : Cf} {l : List R} (h : IsOr c l) {a b : Nat} (ha : a ≤ 2147483647) (hb : b ≤ 2147483647) (hc : (Tb.get l a).isSome = true ∨ ¬ c.cap.toNat ≤ l.length) : IsOr c (put l a b) := by
  obtain ⟨h1, h2, h3, h4, h5⟩ := h
  refine ⟨h1, h2, ?_, up_put _ _ h4, fun x hx => ?_⟩
  · rw [len_put _ _ h4]
    rcases hc with hc | hc
    · rw [if_pos hc]; exact h3
    · split <;> omega
  · rcases put_mem hx with hx | rfl
    · exact h5 x hx
    · exact ⟨ha, hb⟩
theorem orcut_tab {c : Cf} {l : List R} (h : IsOr c l) (k : Nat) : IsOr c (cut l k) := by
  obtain ⟨h1, h2, h3, h4, h5⟩ := h
  have := cut_length l k
  exact ⟨h1, h2, by omega, up_cut _ h4, fun x hx => h5 x (cut_mem hx)⟩
theorem doneO_put {cap : Nat} {l : List R} {a b : Nat} : doneO cap l 4 a b = (match Tb.get l a with
    | some v => (put l a b, 0, (((v + 1) % 4294967296 : Nat) : Int), [])
    | none => if cap ≤ l.length then (l, 9, 0, []) else (put l a b, 0, 0, [])) := by unfold doneO; rw [if_neg (by decide), if_pos rfl] <;> cases Tb.get l a <;> rfl
theorem doneO_cut {cap : Nat} {l : List R} {a b : Nat} : doneO cap l 5 a b = (match Tb.get l a with
    | some v => (cut l a, 0, (((v + 1) % 4294967296 : Nat) : Int), [])
    | none => (l, 6, 0, [])) := by unfold doneO; rw [if_neg (by decide), if_neg (by decide)] <;> cases Tb.get l a <;> rfl
theorem doneO_read {cap : Nat} {l : List R} {k a b : Nat} (hk : 6 ≤ k) : doneO cap l k a b = (l, readR l k a b) := by unfold doneO; rw [if_pos hk]
/-- What is answered may be an index's. -/
theorem doOR_tab {c : Cf} {l : List R} (o : O) (h : IsOr c l) : IsOr c (doOR c l o).1 := by
  by_cases hb : chk c o = 0
  · rw [doOR_done h hb]
    rcases fits_two h.2.1 hb with ⟨hk | hk, g1, g2, _⟩ | ⟨hk | hk | hk, g1, _⟩
    · rw [hk, doneO_put]
      cases hg : Tb.get l o.a with
      | some u => exact orput_tab h g1 g2 (.inl (by rw [hg]; rfl))
      | none =>
        simp only
        split
        · exact h
        · rename_i hc
          exact orput_tab h g1 g2 (.inr hc)
    · rw [doneO_read (by omega)]; exact h
    · rw [hk, doneO_cut]
      cases Tb.get l o.a with
      | some u => exact orcut_tab h _
      | none => exact h
    · rw [doneO_read (by omega)]; exact h
    · rw [doneO_read (by omega)]; exact h
  · rw [doOR_bad h hb]; exact h
/-- A code other than OK, and what only reads, leave the rows. -/
theorem doOR_left {c : Cf} {l : List R} (o : O) (h : IsOr c l) (hx : (doOR c l o).2.1 ≠ 0 ∨ ¬ (o.k = 4 ∨ o.k = 5)) : (doOR c l o).1 = l := by
  by_cases hb : chk c o = 0
  · rw [doOR_done h hb] at hx ⊢
    rcases fits_two h.2.1 hb with ⟨hk | hk, g1, g2, _⟩ | ⟨hk | hk | hk, g1, _⟩
    · rw [hk, doneO_put] at hx ⊢
      cases hg : Tb.get l o.a with
      | some u => rw [hg] at hx; simp at hx
      | none =>
        rw [hg] at hx
        simp only at hx ⊢
        split
        · rfl
        · rename_i hc
          rw [if_neg hc] at hx; simp at hx
    · rw [doneO_read (by omega)]
    · rw [hk, doneO_cut] at hx ⊢
      cases hg : Tb.get l o.a with
      | some u => rw [hg] at hx; simp at hx
      | none => rfl
    · rw [doneO_read (by omega)]
    · rw [doneO_read (by omega)]
  · rw [doOR_bad h hb]
theorem doOR_len (c : Cf) (l : List R) (o : O) : (doOR c l o).1.length ≤ l.length + 1 := by
  by_cases h : IsOr c l
  · by_cases hb : chk c o = 0
    · rw [doOR_done h hb]; exact doneO_len _ _ _ h.2.2.2.1
    · rw [doOR_bad h hb]; simp
  · rw [doOR_none o h]; simp
/-- A scan in two. -/
theorem scan_two {l : List R} (hu : Up l) {a m b : Nat} (h1 : a ≤ m) (h2 : m < b) : scan l a m ++ scan l (m + 1) b = scan l a b := by
  induction l with
  | nil => rfl
  | cons x t ih =>
    obtain ⟨hx, ht⟩ := up_cons.1 hu
    have ih := ih ht
    unfold scan at ih ⊢
    by_cases hm : x.1 ≤ m
    · have e2 : (decide (m + 1 ≤ x.1) && decide (x.1 ≤ b)) = false := by rw [decide_eq_false (by omega)]; rfl
      rw [List.filter_cons_of_neg (l := t) (p := fun x : R => decide (m + 1 ≤ x.1) && decide (x.1 ≤ b)) (by rw [e2]; decide)]
      by_cases ha : a ≤ x.1
      · rw [List.filter_cons_of_pos (by simp; omega), List.filter_cons_of_pos (by simp; omega), List.cons_append, ih]
      · rw [List.filter_cons_of_neg (by simp; omega), List.filter_cons_of_neg (by simp; omega), ih]
    · have e1 : (x :: t).filter (fun x : R => decide (a ≤ x.1) && decide (x.1 ≤ m)) = [] := by
        rw [List.filter_eq_nil_iff]
        intro y hy
        have : m < y.1 := by
          rcases List.mem_cons.1 hy with rfl | hy
          · omega
          · have := hx y hy; omega
        simp; omega
      have e3 : t.filter (fun x : R => decide (a ≤ x.1) && decide (x.1 ≤ m)) = [] := by
        rw [List.filter_eq_nil_iff]
        intro y hy
        have := hx y hy
        simp; omega
      rw [e3, List.nil_append] at ih
      rw [e1, List.nil_append]
      by_cases hb : x.1 ≤ b
      · rw [List.filter_cons_of_pos (by simp; omega), List.filter_cons_of_pos (by simp; omega), ih]
      · rw [List.filter_cons_of_neg (by simp; omega), List.filter_cons_of_neg (by simp; omega), ih]
/-- A floor is the last row of the scan from 0. -/
theorem flo_scan (l : List R) (a : Nat) : flo l a = match (scan l 0 a).getLast? with | some x => [x] | none => [] := by
  unfold flo scan
  have : (fun x : R => decide (x.1 ≤ a)) = fun x => decide (0 ≤ x.1) && decide (x.1 ≤ a) := by funext x; simp
  rw [this] <;> cases (l.filter fun x => decide (0 ≤ x.1) && decide (x.1 ≤ a)).getLast? <;> rfl
/-- Is there the key a? The scan from 0 to a ends with it. -/
theorem get_scan {l : List R} (hu : Up l) (a : Nat) : (Tb.get l a).isSome = true ↔ ∃ x, (scan l 0 a).getLast? = some x ∧ x.1 = a := by
  constructor
  · intro h
    obtain ⟨v, hv⟩ := Option.isSome_iff_exists.1 h
    have hm := get_some hv
    have hmem : (a, v) ∈ scan l 0 a := by unfold scan; rw [List.mem_filter]; exact ⟨hm, by simp⟩
    have hus : Up (scan l 0 a) := List.Pairwise.filter _ hu
    cases hl : (scan l 0 a).getLast? with
    | none => rw [List.getLast?_eq_none_iff] at hl; rw [hl] at hmem; cases hmem
    | some x =>
      refine ⟨x, rfl, ?_⟩
      have hx : x ∈ scan l 0 a := List.mem_of_getLast? hl
      have hxa : x.1 ≤ a := by unfold scan at hx; have := (List.mem_filter.1 hx).2; simp at this; omega
      obtain ⟨ys, hys⟩ := List.getLast?_eq_some_iff.1 hl
      rw [hys] at hmem hus
      rcases List.mem_append.1 hmem with hm2 | hm2
      · have := (List.pairwise_append.1 hus).2.2 _ hm2 x (by simp)
        simp only at this
        omega
      · simp at hm2; rw [← hm2]
  · rintro ⟨x, hl, rfl⟩
    have hx : x ∈ scan l 0 x.1 := List.mem_of_getLast? hl
    have hx2 : x ∈ l := by unfold scan at hx; exact (List.mem_filter.1 hx).1
    rw [get_of hu (k := x.1) (v := x.2) hx2]
    rfl
end Go.Proofs.YtnepdbfnbikplaaGreatDoor
