/- Rows by their keys, in their order: plain lists. -/
import Derived.Test.YtljdkjjjnlcflaaDoorBase
namespace Go.Proofs.YtljdkjjjnlcflaaDoor.Tb

/-- A row: its key, its value. -/
abbrev R := Nat × Nat
/-- Keys rise. -/
def Up (l : List R) : Prop := l.Pairwise (fun x y => x.1 < y.1)
instance (l : List R) : Decidable (Up l) := by unfold Up; infer_instance

theorem up_cons {x : R} {l : List R} : Up (x :: l) ↔ (∀ y ∈ l, x.1 < y.1) ∧ Up l := List.pairwise_cons
/-- Each next one is greater. -/
theorem up_iff {l : List R} : Up l ↔ ∀ i, (h : i + 1 < l.length) → (l[i]'(by omega)).1 < (l[i + 1]).1 := by
  unfold Up
  rw [List.pairwise_iff_getElem]
  constructor
  · intro h i hi
    exact h i (i + 1) (by omega) hi (by omega)
  · intro h i j hi hj hij
    obtain ⟨d, rfl⟩ : ∃ d, j = i + 1 + d := ⟨j - (i + 1), by omega⟩
    clear hij
    induction d with
    | zero => exact h i hj
    | succ d ih => exact Nat.lt_trans (ih (by omega)) (h (i + 1 + d) hj)
theorem up_take_zero (l : List R) : Up (l.take 1) := by
  cases l with
  | nil => exact List.Pairwise.nil
  | cons x l => simp [Up]
theorem up_take_succ {l : List R} {i : Nat} (h : Up (l.take (i + 1))) (hi : i + 1 < l.length) (hlt : (l[i]'(by omega)).1 < (l[i + 1]).1) : Up (l.take (i + 2)) := by
  rw [up_iff] at h ⊢
  intro j hj
  rw [List.length_take] at hj
  rw [List.getElem_take, List.getElem_take]
  by_cases e : j = i
  · subst e; exact hlt
  · have := h j (by rw [List.length_take]; omega)
    rw [List.getElem_take, List.getElem_take] at this
    exact this
theorem not_up {l : List R} {i : Nat} (hi : i + 1 < l.length) (hlt : ¬ (l[i]'(by omega)).1 < (l[i + 1]).1) : ¬ Up l := fun h => hlt (up_iff.1 h i hi)

/-- The row of a key: its value. -/
def get (l : List R) (k : Nat) : Option Nat := (l.find? fun x => x.1 == k).map (·.2)
/-- Rows ahead of a key, and behind it. -/
def lo (l : List R) (k : Nat) : List R := l.filter fun x => decide (x.1 < k)
def hi (l : List R) (k : Nat) : List R := l.filter fun x => decide (k < x.1)
/-- Rows in which that of a key has a value. -/
def put (l : List R) (k v : Nat) : List R := lo l k ++ (k, v) :: hi l k
/-- Rows without that of a key. -/
def cut (l : List R) (k : Nat) : List R := l.filter fun x => x.1 != k

theorem lo_all {l : List R} {k : Nat} (h : ∀ x ∈ l, x.1 < k) : lo l k = l := List.filter_eq_self.2 fun x hx => decide_eq_true (h x hx)
theorem hi_all {l : List R} {k : Nat} (h : ∀ x ∈ l, k < x.1) : hi l k = l := List.filter_eq_self.2 fun x hx => decide_eq_true (h x hx)
theorem lo_none {l : List R} {k : Nat} (h : ∀ x ∈ l, k ≤ x.1) : lo l k = [] := List.filter_eq_nil_iff.2 fun x hx => by have := h x hx; simp; omega
theorem hi_none {l : List R} {k : Nat} (h : ∀ x ∈ l, x.1 ≤ k) : hi l k = [] := List.filter_eq_nil_iff.2 fun x hx => by have := h x hx; simp; omega
theorem cut_all {l : List R} {k : Nat} (h : ∀ x ∈ l, x.1 ≠ k) : cut l k = l := List.filter_eq_self.2 fun x hx => by simpa using h x hx
theorem cut_eq {l : List R} (k : Nat) (h : Up l) : cut l k = lo l k ++ hi l k := by
  induction l with
  | nil => rfl
  | cons x l ih =>
    rw [up_cons] at h
    unfold cut lo hi at *
    by_cases h1 : x.1 < k
    · rw [List.filter_cons_of_pos (by simp; omega), List.filter_cons_of_pos (by simpa using h1), List.filter_cons_of_neg (by simp; omega), ih h.2]
      rfl
    · have e : l.filter (fun x => decide (x.1 < k)) = [] := List.filter_eq_nil_iff.2 fun y hy => by have := h.1 y hy; simp; omega
      rw [e, List.nil_append] at ih
      by_cases h2 : x.1 = k
      · rw [List.filter_cons_of_neg (by simpa using h2), List.filter_cons_of_neg (by simpa using h1), List.filter_cons_of_neg (by simp; omega), e, ih h.2]; rfl
      · rw [List.filter_cons_of_pos (by simpa using h2), List.filter_cons_of_neg (by simpa using h1), List.filter_cons_of_pos (by simp; omega), e, ih h.2]; rfl
/-- Rows that rise are those ahead of a key, its own, and those behind. -/
theorem split_at {l : List R} (k : Nat) (h : Up l) : l = lo l k ++ (match get l k with | some v => [(k, v)] | none => []) ++ hi l k := by
  induction l with
  | nil => rfl
  | cons x l ih =>
    rw [up_cons] at h
    have ih := ih h.2
    by_cases h1 : x.1 < k
    · have e1 : lo (x :: l) k = x :: lo l k := List.filter_cons_of_pos (by simpa using h1)
      have e2 : hi (x :: l) k = hi l k := List.filter_cons_of_neg (by simp; omega)
      have e3 : get (x :: l) k = get l k := by unfold get; rw [List.find?_cons_of_neg (by simp; omega)]
      rw [e1, e2, e3, List.cons_append, List.cons_append, ← ih]
    · have e1 : lo (x :: l) k = [] := lo_none fun y hy => by
        rcases List.mem_cons.1 hy with rfl | hy
        · omega
        · have := h.1 y hy; omega
      have e0 : hi l k = l := hi_all fun y hy => by have := h.1 y hy; omega
      by_cases h2 : x.1 = k
      · have e2 : hi (x :: l) k = l := by unfold hi at *; rw [List.filter_cons_of_neg (by simp; omega), e0]
        have e3 : get (x :: l) k = some x.2 := by unfold get; rw [List.find?_cons_of_pos (by simpa using h2)]; rfl
        rw [e1, e2, e3, ← h2]; rfl
      · have e2 : hi (x :: l) k = x :: l := by unfold hi at *; rw [List.filter_cons_of_pos (by simp; omega), e0]
        have e3 : get (x :: l) k = none := by
          unfold get
          rw [List.find?_cons_of_neg (by simpa using h2), List.find?_eq_none.2 fun y hy => by have := h.1 y hy; simp; omega]; rfl
        rw [e1, e2, e3]; rfl
theorem up_lo {l : List R} (k : Nat) (h : Up l) : Up (lo l k) := List.Pairwise.filter _ h
theorem up_hi {l : List R} (k : Nat) (h : Up l) : Up (hi l k) := List.Pairwise.filter _ h
theorem up_cut {l : List R} (k : Nat) (h : Up l) : Up (cut l k) := List.Pairwise.filter _ h
theorem up_put {l : List R} (k v : Nat) (h : Up l) : Up (put l k v) := by
  unfold put Up
  rw [List.pairwise_append, List.pairwise_cons]
  refine ⟨up_lo k h, ⟨fun y hy => by simpa [hi] using (List.mem_filter.1 hy).2, up_hi k h⟩, fun x hx y hy => ?_⟩
  have h1 : x.1 < k := by simpa [lo] using (List.mem_filter.1 hx).2
  rcases List.mem_cons.1 hy with rfl | hy
  · exact h1
  · have h2 : k < y.1 := by simpa [hi] using (List.mem_filter.1 hy).2
    omega
theorem get_some {l : List R} {k v : Nat} (h : get l k = some v) : (k, v) ∈ l := by
  unfold get at h
  rw [Option.map_eq_some_iff] at h
  obtain ⟨x, h1, rfl⟩ := h
  have := List.find?_some h1
  have e : x.1 = k := by simpa using this
  rw [← e]
  exact List.mem_of_find?_eq_some h1
theorem get_none {l : List R} {k : Nat} (h : get l k = none) : ∀ x ∈ l, x.1 ≠ k := by
  unfold get at h
  rw [Option.map_eq_none_iff, List.find?_eq_none] at h
  intro x hx e
  exact h x hx (by simpa using e)
theorem get_of {l : List R} {k v : Nat} (hu : Up l) (h : (k, v) ∈ l) : get l k = some v := by
  induction l with
  | nil => cases h
  | cons x l ih =>
    rw [up_cons] at hu
    unfold get
    rcases List.mem_cons.1 h with rfl | h
    · rw [List.find?_cons_of_pos (by simp)]; rfl
    · have := hu.1 _ h
      rw [List.find?_cons_of_neg (by simp; simp at this; omega)]
      exact ih hu.2 h
theorem get_none_of {l : List R} {k : Nat} (h : ∀ x ∈ l, x.1 ≠ k) : get l k = none := by
  unfold get
  rw [Option.map_eq_none_iff, List.find?_eq_none]
  intro x hx; simpa using h x hx
theorem len_put {l : List R} (k v : Nat) (h : Up l) : (put l k v).length = if (get l k).isSome then l.length else l.length + 1 := by
  have e := congrArg List.length (split_at k h)
  unfold put
  cases hg : get l k with
  | none => rw [hg] at e; simp at e ⊢; omega
  | some v' => rw [hg] at e; simp at e ⊢; omega
theorem cut_none {l : List R} {k : Nat} (h : get l k = none) : cut l k = l := cut_all (get_none h)

/-- As a loop puts it in: what was made, whether it is in already. -/
def putStep (k v : Nat) (s : List R × Bool) (x : R) : List R × Bool :=
  let t := if s.2 = false ∧ k ≤ x.1 then (s.1 ++ [(k, v)], true) else s
  (if x.1 ≠ k then t.1 ++ [x] else t.1, t.2)
def putEnd (k v : Nat) (s : List R × Bool) : List R := if s.2 then s.1 else s.1 ++ [(k, v)]
theorem step_lt {k v : Nat} {x : R} {a : List R} (h : x.1 < k) : putStep k v (a, false) x = (a ++ [x], false) := by
  have e1 : ¬ k ≤ x.1 := by omega
  have e2 : ¬ x.1 = k := by omega
  simp [putStep, e1, e2]
theorem step_gt {k v : Nat} {x : R} {a : List R} (h : k < x.1) : putStep k v (a, false) x = (a ++ [(k, v)] ++ [x], true) := by
  have e1 : k ≤ x.1 := by omega
  have e2 : ¬ x.1 = k := by omega
  simp [putStep, e1, e2]
theorem steps_in (k v : Nat) : ∀ (l : List R) (a : List R), l.foldl (putStep k v) (a, true) = (a ++ cut l k, true)
  | [], a => by simp [cut]
  | x :: l, a => by
    rw [List.foldl_cons]
    by_cases h : x.1 = k
    · rw [show putStep k v (a, true) x = (a, true) by simp [putStep, h], steps_in k v l a, show cut (x :: l) k = cut l k from List.filter_cons_of_neg (by simpa using h)]
    · rw [show putStep k v (a, true) x = (a ++ [x], true) by simp [putStep, h], steps_in k v l _, show cut (x :: l) k = x :: cut l k from List.filter_cons_of_pos (by simpa using h)]
      simp
theorem steps_out (k v : Nat) : ∀ (l : List R) (a : List R), Up l → putEnd k v (l.foldl (putStep k v) (a, false)) = a ++ put l k v
  | [], a, _ => by simp [putEnd, put, lo, hi]
  | x :: l, a, h => by
    rw [up_cons] at h
    rw [List.foldl_cons]
    by_cases h1 : x.1 < k
    · rw [show putStep k v (a, false) x = (a ++ [x], false) from step_lt h1, steps_out k v l _ h.2]
      have e1 : lo (x :: l) k = x :: lo l k := List.filter_cons_of_pos (by simpa using h1)
      have e2 : hi (x :: l) k = hi l k := List.filter_cons_of_neg (by simp; omega)
      unfold put
      rw [e1, e2]; simp
    · have e1 : lo (x :: l) k = [] := lo_none fun y hy => by
        rcases List.mem_cons.1 hy with rfl | hy
        · omega
        · have := h.1 y hy; omega
      have e0 : ∀ y ∈ l, k < y.1 := fun y hy => by have := h.1 y hy; omega
      have e2 : cut l k = l := cut_all fun y hy => by have := e0 y hy; omega
      have e3 : hi l k = l := hi_all e0
      unfold put
      by_cases h2 : x.1 = k
      · rw [show putStep k v (a, false) x = (a ++ [(k, v)], true) by simp [putStep, h2], steps_in, e1, e2, show hi (x :: l) k = hi l k from List.filter_cons_of_neg (by simp; omega), e3]
        simp [putEnd]
      · rw [show putStep k v (a, false) x = (a ++ [(k, v)] ++ [x], true) from step_gt (by omega), steps_in, e1, e2, show hi (x :: l) k = x :: hi l k from List.filter_cons_of_pos (by simp; omega), e3]
        simp [putEnd]

/-- The longest prefix that matches a key of n bits: of the lengths up to m. -/
def seek (l : List R) (n key : Nat) : Nat → Option Nat
  | 0 => get l (2 ^ 0 + key / 2 ^ n)
  | m + 1 => match get l (2 ^ (m + 1) + key / 2 ^ (n - (m + 1))) with | some v => some v | none => seek l n key m
/-- Does the prefix of a node match? -/
def fits (n key k : Nat) : Prop := k = 2 ^ k.log2 + key / 2 ^ (n - k.log2) ∧ k.log2 ≤ n
theorem seek_some {l : List R} {n key : Nat} : ∀ {m d v : Nat}, d ≤ m → get l (2 ^ d + key / 2 ^ (n - d)) = some v → (∀ e, d < e → e ≤ m → get l (2 ^ e + key / 2 ^ (n - e)) = none) → seek l n key m = some v
  | 0, d, v, hd, h, _ => by obtain rfl : d = 0 := by omega
                            exact h
  | m + 1, d, v, hd, h, hn => by
    unfold seek
    by_cases e : d = m + 1
    · subst e; rw [h]
    · rw [hn (m + 1) (by omega) (Nat.le_refl _)]
      exact seek_some (by omega) h fun e h1 h2 => hn e h1 (by omega)
theorem seek_none {l : List R} {n key : Nat} : ∀ {m : Nat}, (∀ e, e ≤ m → get l (2 ^ e + key / 2 ^ (n - e)) = none) → seek l n key m = none
  | 0, h => h 0 (Nat.le_refl _)
  | m + 1, h => by
    unfold seek
    rw [h (m + 1) (Nat.le_refl _)]
    exact seek_none fun e he => h e (by omega)
end Go.Proofs.YtljdkjjjnlcflaaDoor.Tb
