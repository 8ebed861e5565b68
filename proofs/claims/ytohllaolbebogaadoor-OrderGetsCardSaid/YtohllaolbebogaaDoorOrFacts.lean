/- What follows of an index: what is answered may be an index's, what leaves the rows, what is put is got, a scan in two, a floor. -/
import Derived.Test.YtohllaolbebogaaDoorOrDo
namespace Go.Proofs.YtohllaolbebogaaDoor
open Go.RowKit Tb Pt Opn

theorem doOE_cases (c : Cf) (l : List R) : (doOE c l = 0 ∧ IsOr c l) ∨ (doOE c l ≠ 0 ∧ ¬ IsOr c l) := by
  unfold doOE
  by_cases h1 : Ok c ∧ c.obj = 2
  · by_cases h2 : IsOr c l
    · exact .inl ⟨by rw [if_neg (not_not_intro h1), if_neg (not_not_intro h2)], h2⟩
    · exact .inr ⟨by rw [if_neg (not_not_intro h1), if_pos h2]; decide, h2⟩
  · exact .inr ⟨by rw [if_pos h1]; decide, fun h => h1 ⟨h.1, h.2.1⟩⟩
theorem doOR_none {c : Cf} {l : List R} (o : O) (h : ¬ IsOr c l) : doOR c l o = ([], 0, 0, []) := by
  unfold doOR
  by_cases h1 : Ok c ∧ c.obj = 2
  · rw [if_neg (not_not_intro h1), if_pos h]
  · rw [if_pos h1]
theorem doOR_bad {c : Cf} {l : List R} {o : O} (h : IsOr c l) (hb : chk c o ≠ 0) : doOR c l o = (l, chk c o, 0, []) := by
  unfold doOR; rw [if_neg (not_not_intro ⟨h.1, h.2.1⟩), if_neg (not_not_intro h), if_pos hb]
theorem doOR_done {c : Cf} {l : List R} {o : O} (h : IsOr c l) (hb : chk c o = 0) : doOR c l o = doneO c.cap.toNat l o.k o.a o.b := by
  unfold doOR; rw [if_neg (not_not_intro ⟨h.1, h.2.1⟩), if_neg (not_not_intro h), if_neg (not_not_intro hb)]
/-- What an operation that fits says. -/
theorem fits_two {c : Cf} {o : O} (hc : c.obj = 2) (h : chk c o = 0) : ((o.k = 4 ∨ o.k = 8) ∧ o.a ≤ 2147483647 ∧ o.b ≤ 2147483647 ∧ o.c = 0) ∨ ((o.k = 5 ∨ o.k = 6 ∨ o.k = 7) ∧ o.a ≤ 2147483647 ∧ o.b = 0 ∧ o.c = 0) := by
  obtain ⟨_, h2, h3⟩ := chk_zero h
  have hk := index_kind (k := o.k) (by rw [h2]; exact hc)
  unfold Fits at h3
  rcases h3 with h | h | h | h | h | h | h | h | h | h <;> omega
theorem orput_tab {c : Cf} {l : List R} (h : IsOr c l) {a b : Nat} (ha : a ≤ 2147483647) (hb : b ≤ 2147483647) (hc : (Tb.get l a).isSome = true ∨ ¬ c.cap.toNat ≤ l.length) : IsOr c (put l a b) := by
  obtain ⟨h1, h2, h3, h4, h5⟩ := h
  refine ⟨h1, h2, ?_, up_put _ _ h4, fun x hx => ?_⟩
  · rw [len_put _ _ h4]
    rcases hc with hc | hc
    · rw [if_pos hc]; exact h3
    · split <;> omega
  · rcases put_mem hx with hx | rfl
    · exact h5 x hx
    · exact ⟨ha, hb⟩
theorem orcut_tab {c : Cf} {l : List R} (h : IsOr c l) (k : Nat) : IsOr c (cut l k) := by
  obtain ⟨h1, h2, h3, h4, h5⟩ := h
  have := cut_length l k
  exact ⟨h1, h2, by omega, up_cut _ h4, fun x hx => h5 x (cut_mem hx)⟩
theorem doneO_put {cap : Nat} {l : List R} {a b : Nat} : doneO cap l 4 a b = (match Tb.get l a with
    | some v => (put l a b, 0, (((v + 1) % 4294967296 : Nat) : Int), [])
    | none => if cap ≤ l.length then (l, 9, 0, []) else (put l a b, 0, 0, [])) := by unfold doneO; rw [if_neg (by decide), if_pos rfl]; cases Tb.get l a <;> rfl
theorem doneO_cut {cap : Nat} {l : List R} {a b : Nat} : doneO cap l 5 a b = (match Tb.get l a with
    | some v => (cut l a, 0, (((v + 1) % 4294967296 : Nat) : Int), [])
    | none => (l, 6, 0, [])) := by unfold doneO; rw [if_neg (by decide), if_neg (by decide)]; cases Tb.get l a <;> rfl
theorem doneO_read {cap : Nat} {l : List R} {k a b : Nat} (hk : 6 ≤ k) : doneO cap l k a b = (l, readR l k a b) := by unfold doneO; rw [if_pos hk]
/-- What is answered may be an index's. -/
theorem doOR_tab {c : Cf} {l : List R} (o : O) (h : IsOr c l) : IsOr c (doOR c l o).1 := by
  by_cases hb : chk c o = 0
  · rw [doOR_done h hb]
    rcases fits_two h.2.1 hb with ⟨hk | hk, g1, g2, _⟩ | ⟨hk | hk | hk, g1, _⟩
    · rw [hk, doneO_put]
      cases hg : Tb.get l o.a with
      | some u => exact orput_tab h g1 g2 (.inl (by rw [hg]; rfl))
      | none =>
        simp only
        split
        · exact h
        · rename_i hc
          exact orput_tab h g1 g2 (.inr hc)
    · rw [doneO_read (by omega)]; exact h
    · rw [hk, doneO_cut]
      cases Tb.get l o.a with
      | some u => exact orcut_tab h _
      | none => exact h
    · rw [doneO_read (by omega)]; exact h
    · rw [doneO_read (by omega)]; exact h
  · rw [doOR_bad h hb]; exact h
/-- A code other than OK, and what only reads, leave the rows. -/
theorem doOR_left {c : Cf} {l : List R} (o : O) (h : IsOr c l) (hx : (doOR c l o).2.1 ≠ 0 ∨ ¬ (o.k = 4 ∨ o.k = 5)) : (doOR c l o).1 = l := by
  by_cases hb : chk c o = 0
  · rw [doOR_done h hb] at hx ⊢
    rcases fits_two h.2.1 hb with ⟨hk | hk, g1, g2, _⟩ | ⟨hk | hk | hk, g1, _⟩
    · rw [hk, doneO_put] at hx ⊢
      cases hg : Tb.get l o.a with
      | some u => rw [hg] at hx; simp at hx
      | none =>
        rw [hg] at hx
        simp only at hx ⊢
        split
        · rfl
        · rename_i hc
          rw [if_neg hc] at hx; simp at hx
    · rw [doneO_read (by omega)]
    · rw [hk, doneO_cut] at hx ⊢
      cases hg : Tb.get l o.a with
      | some u => rw [hg] at hx; simp at hx
      | none => rfl
    · rw [doneO_read (by omega)]
    · rw [doneO_read (by omega)]
  · rw [doOR_bad h hb]
theorem doOR_len (c : Cf) (l : List R) (o : O) : (doOR c l o).1.length ≤ l.length + 1 := by
  by_cases h : IsOr c l
  · by_cases hb : chk c o = 0
    · rw [doOR_done h hb]; exact doneO_len _ _ _ h.2.2.2.1
    · rw [doOR_bad h hb]; simp
  · rw [doOR_none o h]; simp
/-- A scan in two. -/
theorem scan_two {l : List R} (hu : Up l) {a m b : Nat} (h1 : a ≤ m) (h2 : m < b) : scan l a m ++ scan l (m + 1) b = scan l a b := by
  induction l with
  | nil => rfl
  | cons x t ih =>
    obtain ⟨hx, ht⟩ := up_cons.1 hu
    have ih := ih ht
    unfold scan at ih ⊢
    by_cases hm : x.1 ≤ m
    · have e2 : (decide (m + 1 ≤ x.1) && decide (x.1 ≤ b)) = false := by rw [decide_eq_false (by omega)]; rfl
      rw [List.filter_cons_of_neg (l := t) (p := fun x : R => decide (m + 1 ≤ x.1) && decide (x.1 ≤ b)) (by rw [e2]; decide)]
      by_cases ha : a ≤ x.1
      · rw [List.filter_cons_of_pos (by simp; omega), List.filter_cons_of_pos (by simp; omega), List.cons_append, ih]
      · rw [List.filter_cons_of_neg (by simp; omega), List.filter_cons_of_neg (by simp; omega), ih]
    · have e1 : (x :: t).filter (fun x : R => decide (a ≤ x.1) && decide (x.1 ≤ m)) = [] := by
        rw [List.filter_eq_nil_iff]
        intro y hy
        have : m < y.1 := by
          rcases List.mem_cons.1 hy with rfl | hy
          · omega
          · have := hx y hy; omega
        simp; omega
      have e3 : t.filter (fun x : R => decide (a ≤ x.1) && decide (x.1 ≤ m)) = [] := by
        rw [List.filter_eq_nil_iff]
        intro y hy
        have := hx y hy
        simp; omega
      rw [e3, List.nil_append] at ih
      rw [e1, List.nil_append]
      by_cases hb : x.1 ≤ b
      · rw [List.filter_cons_of_pos (by simp; omega), List.filter_cons_of_pos (by simp; omega), ih]
      · rw [List.filter_cons_of_neg (by simp; omega), List.filter_cons_of_neg (by simp; omega), ih]
/-- A floor is the last row of the scan from 0. -/
theorem flo_scan (l : List R) (a : Nat) : flo l a = match (scan l 0 a).getLast? with | some x => [x] | none => [] := by
  unfold flo scan
  have : (fun x : R => decide (x.1 ≤ a)) = fun x => decide (0 ≤ x.1) && decide (x.1 ≤ a) := by funext x; simp
  rw [this]
  cases (l.filter fun x => decide (0 ≤ x.1) && decide (x.1 ≤ a)).getLast? <;> rfl
/-- Is there the key a? The scan from 0 to a ends with it. -/
theorem get_scan {l : List R} (hu : Up l) (a : Nat) : (Tb.get l a).isSome = true ↔ ∃ x, (scan l 0 a).getLast? = some x ∧ x.1 = a := by
  constructor
  · intro h
    obtain ⟨v, hv⟩ := Option.isSome_iff_exists.1 h
    have hm := get_some hv
    have hmem : (a, v) ∈ scan l 0 a := by unfold scan; rw [List.mem_filter]; exact ⟨hm, by simp⟩
    have hus : Up (scan l 0 a) := List.Pairwise.filter _ hu
    cases hl : (scan l 0 a).getLast? with
    | none => rw [List.getLast?_eq_none_iff] at hl; rw [hl] at hmem; cases hmem
    | some x =>
      refine ⟨x, rfl, ?_⟩
      have hx : x ∈ scan l 0 a := List.mem_of_getLast? hl
      have hxa : x.1 ≤ a := by unfold scan at hx; have := (List.mem_filter.1 hx).2; simp at this; omega
      obtain ⟨ys, hys⟩ := List.getLast?_eq_some_iff.1 hl
      rw [hys] at hmem hus
      rcases List.mem_append.1 hmem with hm2 | hm2
      · have := (List.pairwise_append.1 hus).2.2 _ hm2 x (by simp)
        simp only at this
        omega
      · simp at hm2; rw [← hm2]
  · rintro ⟨x, hl, rfl⟩
    have hx : x ∈ scan l 0 x.1 := List.mem_of_getLast? hl
    have hx2 : x ∈ l := by unfold scan at hx; exact (List.mem_filter.1 hx).1
    rw [get_of hu (k := x.1) (v := x.2) hx2]
    rfl
end Go.Proofs.YtohllaolbebogaaDoor
