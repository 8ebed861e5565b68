/- Where a key stands among rows that rise, and a search's halves. -/
import Derived.Test.YtljdkjjjnlcflaaDoorTbMake
namespace Go.Proofs.YtljdkjjjnlcflaaDoor
open Go.RowKit Tb

/-- Where a key stands, or would. -/
def pos (l : List R) (k : Nat) : Nat := (lo l k).length
theorem pos_le (l : List R) (k : Nat) : pos l k ≤ l.length := List.length_filter_le _ _
theorem pos_of {l : List R} {k i : Nat} (hi : i ≤ l.length) (h1 : ∀ m, (hm : m < l.length) → m < i → l[m].1 < k) (h2 : ∀ m, (hm : m < l.length) → i ≤ m → k ≤ l[m].1) : pos l k = i := by
  unfold pos lo
  have e : l = l.take i ++ l.drop i := (List.take_append_drop i l).symm
  rw [e, List.filter_append, List.filter_eq_self.2, List.filter_eq_nil_iff.2, List.append_nil, List.length_take, Nat.min_eq_left hi]
  · intro x hx
    obtain ⟨m, hm, rfl⟩ := List.getElem_of_mem hx
    rw [List.length_drop] at hm
    rw [List.getElem_drop]
    have := h2 (i + m) (by omega) (by omega)
    simp; omega
  · intro x hx
    obtain ⟨m, hm, rfl⟩ := List.getElem_of_mem hx
    rw [List.length_take] at hm
    rw [List.getElem_take]
    have := h1 m (by omega) (by omega)
    simp; omega
theorem up_lt {l : List R} (h : Up l) {i j : Nat} (hij : i < j) (hj : j < l.length) : (l[i]'(by omega)).1 < l[j].1 := by
  unfold Up at h
  rw [List.pairwise_iff_getElem] at h
  exact h i j (by omega) hj hij
/-- What stands there. -/
theorem pos_get {l : List R} (h : Up l) (k : Nat) : (Tb.get l k = none ∧ ∀ hm : pos l k < l.length, (l[pos l k]'hm).1 ≠ k) ∨ ∃ hm : pos l k < l.length, (l[pos l k]'hm).1 = k ∧ Tb.get l k = some (l[pos l k]'hm).2 := by
  have e := split_at k h
  cases hg : Tb.get l k with
  | none =>
    refine .inl ⟨rfl, fun hm => ?_⟩
    exact get_none hg _ (List.getElem_mem hm)
  | some v =>
    rw [hg] at e
    dsimp only at e
    have hl : l.length = pos l k + 1 + (hi l k).length := by
      have := congrArg List.length e
      simp only [List.length_append, List.length_cons, List.length_nil] at this
      exact this
    have hm : pos l k < l.length := by omega
    have he : l[pos l k]'hm = (k, v) := by
      have e2 := congrArg (fun m => m[(lo l k).length]?) e
      rw [show (lo l k ++ [(k, v)] ++ hi l k)[(lo l k).length]? = some (k, v) by simp] at e2
      have e3 : l[pos l k]? = some (k, v) := e2
      rw [List.getElem?_eq_getElem hm] at e3
      exact Option.some.inj e3
    refine .inr ⟨hm, by rw [he], by rw [he]⟩
/-- A search's halves. -/
def Half (l : List R) (k i j : Nat) : Prop := i ≤ j ∧ j ≤ l.length ∧ (∀ m, (hm : m < l.length) → m < i → l[m].1 < k) ∧ ∀ m, (hm : m < l.length) → j ≤ m → k ≤ l[m].1
theorem half_zero (l : List R) (k : Nat) : Half l k 0 l.length := ⟨Nat.zero_le _, Nat.le_refl _, fun m _ h => by omega, fun m _ h => by omega⟩
theorem half_up {l : List R} (hu : Up l) {k i j h : Nat} (H : Half l k i j) (h2 : h < j) (hl : h < l.length) (hk : l[h].1 < k) (h1 : i ≤ h) : Half l k (h + 1) j := by
  obtain ⟨a, b, c, d⟩ := H
  refine ⟨by omega, b, fun m hm hmh => ?_, d⟩
  by_cases e : m = h
  · subst e; exact hk
  · exact Nat.lt_trans (up_lt hu (by omega) hl) hk
theorem half_down {l : List R} (hu : Up l) {k i j h : Nat} (H : Half l k i j) (h1 : i ≤ h) (h2 : h < j) (hl : h < l.length) (hk : ¬ l[h].1 < k) : Half l k i h := by
  obtain ⟨a, b, c, d⟩ := H
  refine ⟨h1, by omega, c, fun m hm hmh => ?_⟩
  by_cases e : m = h
  · subst e; omega
  · have := up_lt hu (i := h) (j := m) (by omega) hm; omega
theorem half_end {l : List R} {k i : Nat} (H : Half l k i i) : pos l k = i := pos_of H.2.1 H.2.2.1 H.2.2.2
end Go.Proofs.YtljdkjjjnlcflaaDoor
