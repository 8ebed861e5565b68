/- The document's own model of a tree of settings: keys, names, parents, whether rows may be a tree's. The document's own model of a tree of settings: whether rows may be a tree's. The document's own model of a tree of settings: rows in which a node, and those above it, are; whether a node is another one's parent. The document's own model of a tree of settings: what an operation does that fits. The document's own answer on what an operation on a tree of settings does, of whatever config, rows and operation. What follows of paths: what is answered may be a tree's, what leaves the rows, what is set is read, what is taken out. -/
import Derived.Test.YtnepdbfnbikplaaGreatDoorGRow
import Derived.Test.YtnepdbfnbikplaaGreatDoorGOpRef
import Derived.Test.YtnepdbfnbikplaaGreatDoorGOld
import Derived.Test.YtnepdbfnbikplaaGreatDoorGMath
import Derived.Deep.RegionWith
import Derived.Deep.DeepCutAuto
namespace Go.Proofs.YtnepdbfnbikplaaGreatDoor
open Go.RowKit Tb Pt Opn
/-- A parent's key, from names. -/
theorem par_names (k : Nat) : par k = if k % 65536 ≠ 0 then k / 4294967296 * 4294967296 + k / 65536 % 65536 * 65536 + 0 else if k / 65536 % 65536 ≠ 0 then k / 4294967296 * 4294967296 + 0 * 65536 + 0 else 0 := by
  unfold par
  split
  · omega
  · split <;> omega
end Go.Proofs.YtnepdbfnbikplaaGreatDoor

namespace Go.Proofs.YtnepdbfnbikplaaGreatDoor
open Go.RowKit Tb Pt Opn
end Go.Proofs.YtnepdbfnbikplaaGreatDoor

namespace Go.Proofs.YtnepdbfnbikplaaGreatDoor
open Go.RowKit Tb Pt Opn

/-- Rows, in whatever memory. -/
def RetV (l : List R) (w : World) (e : Ending) (w' : World) : Prop := ∃ v, e = .returned v ∧ IsRV w' v l ∧ Below w.heap.size w w'
/-- So many levels above there is nothing. -/
def Chain : Nat → Nat → Prop
  | 0, k => k = 0
  | n + 1, k => k = 0 ∨ Chain n (par k)
theorem chain_three (k : Nat) : Chain 3 k := .inr (.inr (.inr (par_three k)))
theorem ens_of {l : List R} {k : Nat} (h : (Tb.get l k).isSome = true) : ens l k = l := by unfold ens; rw [if_pos h]
theorem ens_new {l : List R} {k : Nat} (h : ¬ (Tb.get l k).isSome = true) : ens l k = put l k 0 := by unfold ens; rw [if_neg h]

theorem used_take {l : List R} {k j : Nat} (hj : j < l.length) : usedB (l.take (j + 1)) k = (usedB (l.take j) k || decide (par l[j].1 = k)) := by
  unfold usedB
  rw [List.take_succ_eq_append_getElem hj, List.any_append]
  simp
theorem used_false_of {l : List R} {k : Nat} (h : ∀ j, (hj : j < l.length) → ¬ par l[j].1 = k) : usedB l k = false := by
  unfold usedB
  rw [List.any_eq_false]
  intro x hx
  obtain ⟨j, hj, rfl⟩ := List.getElem_of_mem hx
  simpa using h j hj
theorem used_true_of {l : List R} {k j : Nat} (hj : j < l.length) (h : par l[j].1 = k) : usedB l k = true := by
  unfold usedB
  rw [List.any_eq_true]
  exact ⟨_, List.getElem_mem hj, by simpa using h⟩

end Go.Proofs.YtnepdbfnbikplaaGreatDoor

namespace Go.Proofs.YtnepdbfnbikplaaGreatDoor
open Go.RowKit Tb Pt Opn

/-- Rows, and an answer without rows. -/
def DidP (s : List R × Int × Int) (w : World) (e : Ending) (w' : World) : Prop := ∃ u, e = .returned (.tuple #[u, resv s.2.1 s.2.2 none 0 0]) ∧ IsRV w' u s.1 ∧ Below w.heap.size w w'

end Go.Proofs.YtnepdbfnbikplaaGreatDoor

namespace Go.Proofs.YtnepdbfnbikplaaGreatDoor
open Go.RowKit Tb Pt Opn

/-- What Do answers. -/
def doPR (c : Cf) (l : List R) (o : O) : List R × Int × Int :=
  if ¬ (Ok c ∧ c.obj = 4) then ([], 0, 0) else if ¬ IsPt c l then ([], 0, 0) else if chk c o ≠ 0 then (l, chk c o, 0) else doneP c.cap.toNat l o.k (pth o) o.c
def doPE (c : Cf) (l : List R) : Int := if ¬ (Ok c ∧ c.obj = 4) then 40 else if ¬ IsPt c l then 2 else 0

end Go.Proofs.YtnepdbfnbikplaaGreatDoor

namespace Go.Proofs.YtnepdbfnbikplaaGreatDoor
open Go.RowKit Tb Pt Opn

theorem mk_has {l : List R} (hu : Up l) : ∀ (n k : Nat), k ≠ 0 → (Tb.get (mk (n + 1) l k) k).isSome = true := by
  have key : ∀ (n : Nat) (l : List R) (k j : Nat), Up l → (Tb.get l j).isSome = true → (Tb.get (mk n l k) j).isSome = true := by
    intro n
    induction n with
    | zero => intro l k j _ h; rw [mk]; exact h
    | succ n ih =>
      intro l k j hu h
      rw [mk]
      split
      · exact h
      · refine ih _ _ _ (up_ens hu k) ?_
        unfold ens
        split
        · exact h
        · obtain ⟨v, hv⟩ := Option.isSome_iff_exists.1 h
          by_cases e : j = k
          · subst e; rw [get_put _ _ hu]; rfl
          · have hm := get_some hv
            rw [get_of (up_put k 0 hu) (v := v) (by
              unfold put lo hi
              simp only [List.mem_append, List.mem_cons, List.mem_filter, decide_eq_true_eq]
              by_cases e2 : j < k
              · exact .inl ⟨hm, e2⟩
              · exact .inr (.inr ⟨hm, by omega⟩))]
            rfl
  intro n k hk
  rw [mk, if_neg hk]
  refine key _ _ _ _ (up_ens hu k) ?_
  unfold ens
  split
  · assumption
  · rw [get_put _ _ hu]; rfl
theorem doneP_len {cap : Nat} {l : List R} (k p c : Nat) (hu : Up l) : (doneP cap l k p c).1.length ≤ l.length + 4 := by
  have h1 := (len_mk 3 l p hu).1
  have h2 := len_put p (c + 1) (up_mk 3 l p hu)
  have h3 := cut_length l p
  unfold doneP
  (repeat' split) <;> simp only <;> (try (split at h2)) <;> omega
theorem mk_small {B : Nat} : ∀ (n k : Nat) (l : List R), (∀ x ∈ l, x.2 ≤ B) → ∀ x ∈ mk n l k, x.2 ≤ B := by
  intro n
  induction n with
  | zero => intro k l h; rw [mk]; exact h
  | succ n ih =>
    intro k l h
    rw [mk]
    split
    · exact h
    · refine ih _ _ fun x hx => ?_
      unfold ens at hx
      split at hx
      · exact h x hx
      · rcases put_mem hx with hx | rfl
        · exact h x hx
        · exact Nat.zero_le _

end Go.Proofs.YtnepdbfnbikplaaGreatDoor

namespace Go.Proofs.YtnepdbfnbikplaaGreatDoor
open Go.RowKit Tb Pt Opn

theorem path_kind {k : Nat} (h : (objAt k : Int) = 4) : 12 ≤ k ∧ k ≤ 14 := by
  unfold objAt at h
  (repeat' split at h) <;> omega

end Go.Proofs.YtnepdbfnbikplaaGreatDoor

namespace Go.Proofs.YtnepdbfnbikplaaGreatDoor
open Go.RowKit Tb Pt Opn

theorem doPE_cases (c : Cf) (l : List R) : (doPE c l = 0 ∧ IsPt c l) ∨ (doPE c l ≠ 0 ∧ ¬ IsPt c l) := by
  unfold doPE
  by_cases h1 : Ok c ∧ c.obj = 4
  · by_cases h2 : IsPt c l
    · exact .inl ⟨by rw [if_neg (not_not_intro h1), if_neg (not_not_intro h2)], h2⟩
    · exact .inr ⟨by rw [if_neg (not_not_intro h1), if_pos h2]; decide, h2⟩
  · exact .inr ⟨by rw [if_pos h1]; decide, fun h => h1 ⟨h.1, h.2.1⟩⟩
theorem doPR_none {c : Cf} {l : List R} (o : O) (h : ¬ IsPt c l) : doPR c l o = ([], 0, 0) := by
  unfold doPR
  by_cases h1 : Ok c ∧ c.obj = 4
  · rw [if_neg (not_not_intro h1), if_pos h]
  · rw [if_pos h1]
theorem doPR_bad {c : Cf} {l : List R} {o : O} (h : IsPt c l) (hb : chk c o ≠ 0) : doPR c l o = (l, chk c o, 0) := by
  unfold doPR; rw [if_neg (not_not_intro ⟨h.1, h.2.1⟩), if_neg (not_not_intro h), if_pos hb]
theorem doPR_done {c : Cf} {l : List R} {o : O} (h : IsPt c l) (hb : chk c o = 0) : doPR c l o = doneP c.cap.toNat l o.k (pth o) o.c := by
  unfold doPR; rw [if_neg (not_not_intro ⟨h.1, h.2.1⟩), if_neg (not_not_intro h), if_neg (not_not_intro hb)]
/-- What an operation that fits says. -/
theorem fits_four {c : Cf} {o : O} (hc : c.obj = 4) (h : chk c o = 0) : Path o.a o.b ∧ ((o.k = 12 ∧ o.c ≤ 2147483647) ∨ (o.k = 13 ∧ o.c = 0) ∨ (o.k = 14 ∧ o.c = 0)) := by
  obtain ⟨_, h2, h3⟩ := chk_zero h
  have hk := path_kind (k := o.k) (by rw [h2]; exact hc)
  unfold Fits at h3
  rcases h3 with h | h | h | h | h | h | h | h | h | h
  any_goals omega
  · exact ⟨h.2.1, .inl ⟨h.1, h.2.2⟩⟩
  · refine ⟨h.2.1, ?_⟩
    rcases h.1 with h1 | h1
    · exact .inr (.inl ⟨h1, h.2.2⟩)
    · exact .inr (.inr ⟨h1, h.2.2⟩)

theorem get_mem {l : List R} (hu : Up l) {k v : Nat} : Tb.get l k = some v ↔ (k, v) ∈ l := ⟨get_some, get_of hu⟩
theorem put_in {l : List R} {k v : Nat} {x : R} : x ∈ put l k v ↔ (x ∈ l ∧ x.1 ≠ k) ∨ x = (k, v) := by
  unfold put lo hi
  simp only [List.mem_append, List.mem_cons, List.mem_filter, decide_eq_true_eq]
  constructor
  · rintro (⟨h1, h2⟩ | h | ⟨h1, h2⟩)
    · exact .inl ⟨h1, by omega⟩
    · exact .inr h
    · exact .inl ⟨h1, by omega⟩
  · rintro (⟨h1, h2⟩ | h)
    · by_cases e : x.1 < k
      · exact .inl ⟨h1, e⟩
      · exact .inr (.inr ⟨h1, by omega⟩)
    · exact .inr (.inl h)
theorem get_put_ne {l : List R} {k v j : Nat} (hu : Up l) (hj : j ≠ k) : Tb.get (put l k v) j = Tb.get l j := by
  cases hg : Tb.get l j with
  | some u => exact get_of (up_put k v hu) (put_in.2 (.inl ⟨get_some hg, hj⟩))
  | none =>
    refine get_none_of fun x hx => ?_
    rcases put_in.1 hx with ⟨h1, _⟩ | rfl
    · exact get_none hg x h1
    · exact fun e => hj e.symm
theorem get_cut_ne {l : List R} {k j : Nat} (hu : Up l) (hj : j ≠ k) : Tb.get (cut l k) j = Tb.get l j := by
  cases hg : Tb.get l j with
  | some u => exact get_of (up_cut k hu) (List.mem_filter.2 ⟨get_some hg, by simpa using hj⟩)
  | none => exact get_none_of fun x hx => get_none hg x (List.mem_filter.1 hx).1
theorem get_ens {l : List R} {k j : Nat} (hu : Up l) : Tb.get (ens l k) j = match Tb.get l j with | some v => some v | none => if j = k then some 0 else none := by
  unfold ens
  split
  · rename_i h
    cases hg : Tb.get l j with
    | some v => rfl
    | none =>
      by_cases e : j = k
      · subst e; rw [hg] at h; cases h
      · simp only; rw [if_neg e]
  · rename_i h
    by_cases e : j = k
    · subst e
      have hn : Tb.get l j = none := by cases hg : Tb.get l j with | some v => rw [hg] at h; exact absurd rfl h | none => rfl
      rw [get_put _ _ hu, hn]
      simp
    · rw [get_put_ne hu e]
      cases Tb.get l j with
      | some v => rfl
      | none => simp only; rw [if_neg e]
/-- A node, and those above it, so many at most. -/
def ups : Nat → Nat → List Nat
  | 0, _ => []
  | n + 1, k => if k = 0 then [] else k :: ups n (par k)
theorem get_mk : ∀ (n : Nat) {l : List R} (k j : Nat), Up l → Tb.get (mk n l k) j = match Tb.get l j with | some v => some v | none => if j ∈ ups n k then some 0 else none
  | 0, l, k, j, _ => by rw [mk]; cases Tb.get l j <;> simp [ups]
  | n + 1, l, k, j, hu => by
    rw [mk]
    by_cases hk : k = 0
    · rw [if_pos hk]
      cases Tb.get l j <;> simp [ups, hk]
    · rw [if_neg hk, get_mk n (par k) j (up_ens hu k), get_ens hu]
      cases hg : Tb.get l j with
      | some v => rfl
      | none =>
        by_cases e : j = k
        · subst e; simp [ups, hk]
        · simp [ups, hk, e]
theorem ups_pos : ∀ (n k : Nat) {j : Nat}, j ∈ ups n k → j ≠ 0
  | 0, k, j, h => by simp [ups] at h
  | n + 1, k, j, h => by
    rw [ups] at h
    split at h
    · simp at h
    · rename_i hk
      rcases List.mem_cons.1 h with rfl | h
      · exact hk
      · exact ups_pos n _ h
theorem ups_par : ∀ (n k : Nat) {j : Nat}, j ∈ ups n k → par j ≠ 0 → par j ∈ ups (n + 1) k
  | 0, k, j, h, _ => by simp [ups] at h
  | n + 1, k, j, h, hp => by
    rw [ups] at h ⊢
    split at h
    · simp at h
    · rename_i hk
      rw [if_neg hk]
      rcases List.mem_cons.1 h with rfl | h
      · exact List.mem_cons_of_mem _ (by rw [ups, if_neg hp]; exact List.mem_cons_self ..)
      · exact List.mem_cons_of_mem _ (ups_par n _ h hp)
theorem ups_four (k : Nat) : ups 4 k = ups 3 k := by
  have e := par_three k
  simp only [ups]
  split
  · rfl
  · split
    · rfl
    · split
      · rfl
      · first | rfl | (rw [e]; simp)
theorem ups_isPa : ∀ (n k : Nat) {j : Nat}, IsPa k → j ∈ ups n k → IsPa j
  | 0, k, j, _, h => by simp [ups] at h
  | n + 1, k, j, hk, h => by
    rw [ups] at h
    split at h
    · simp at h
    · rcases List.mem_cons.1 h with rfl | h
      · exact hk
      · by_cases hp : par k = 0
        · rw [hp] at h; cases n <;> simp [ups] at h
        · exact ups_isPa n _ (isPa_par hk hp) h
theorem ups_self {n k : Nat} (h : k ≠ 0) : k ∈ ups (n + 1) k := by rw [ups, if_neg h]; exact List.mem_cons_self ..

/-- What is told of rows by their keys. -/
theorem pt_get {c : Cf} {l : List R} (h : IsPt c l) {k v : Nat} (hg : Tb.get l k = some v) : (IsPa k ∧ v ≤ 2147483648) ∧ (par k ≠ 0 → (Tb.get l (par k)).isSome = true) := h.2.2.2.2 _ (get_some hg)
theorem pt_of {c : Cf} {l : List R} (h1 : Ok c) (h2 : c.obj = 4) (h3 : (l.length : Int) ≤ c.cap) (h4 : Up l) (h5 : ∀ k v, Tb.get l k = some v → (IsPa k ∧ v ≤ 2147483648) ∧ (par k ≠ 0 → (Tb.get l (par k)).isSome = true)) : IsPt c l :=
  ⟨h1, h2, h3, h4, fun x hx => h5 x.1 x.2 (get_of h4 hx)⟩
/-- The rows behind a setting. -/
def setR (l : List R) (p v : Nat) : List R := put (mk 3 l p) p (v + 1)
theorem up_set {l : List R} (hu : Up l) (p v : Nat) : Up (setR l p v) := up_put _ _ (up_mk 3 l p hu)
theorem get_set {l : List R} (hu : Up l) (p v j : Nat) : Tb.get (setR l p v) j = if j = p then some (v + 1) else match Tb.get l j with | some u => some u | none => if j ∈ ups 3 p then some 0 else none := by
  unfold setR
  by_cases e : j = p
  · subst e; rw [if_pos rfl, get_put _ _ (up_mk 3 l j hu)]
  · rw [if_neg e, get_put_ne (up_mk 3 l p hu) e, get_mk 3 p j hu]
theorem len_set {l : List R} (hu : Up l) {p : Nat} (hp : p ≠ 0) (v : Nat) : (setR l p v).length = (mk 3 l p).length := by
  unfold setR
  rw [len_put _ _ (up_mk 3 l p hu), if_pos (mk_has hu 2 p hp)]
theorem set_tab {c : Cf} {l : List R} (h : IsPt c l) {p v : Nat} (hp : IsPa p) (hp0 : p ≠ 0) (hv : v ≤ 2147483647) (hc : ¬ c.cap.toNat < (mk 3 l p).length) : IsPt c (setR l p v) := by
  have hu := h.2.2.2.1
  refine pt_of h.1 h.2.1 ?_ (up_set hu p v) fun k u hk => ?_
  · rw [len_set hu hp0]
    have := h.2.2.1
    omega
  · rw [get_set hu] at hk
    have hpar : ∀ j, j ∈ ups 3 p → par j ≠ 0 → (Tb.get (setR l p v) (par j)).isSome = true := fun j hj hj0 => by
      have hm : par j ∈ ups 3 p := by rw [← ups_four]; exact ups_par 3 p hj hj0
      rw [get_set hu]
      split
      · rfl
      · cases Tb.get l (par j) with
        | some _ => rfl
        | none => simp only; first | rfl | (rw [if_pos hm]; rfl)
    by_cases e : k = p
    · subst e
      rw [if_pos rfl] at hk
      cases hk
      exact ⟨⟨hp, by omega⟩, hpar k (ups_self hp0)⟩
    · rw [if_neg e] at hk
      cases hg : Tb.get l k with
      | some u' =>
        rw [hg] at hk
        cases hk
        obtain ⟨g1, g2⟩ := pt_get h hg
        refine ⟨g1, fun hk0 => ?_⟩
        obtain ⟨z, hz⟩ := Option.isSome_iff_exists.1 (g2 hk0)
        rw [get_set hu, hz]
        split <;> rfl
      | none =>
        rw [hg] at hk
        simp only at hk
        split at hk
        · rename_i hm
          cases hk
          exact ⟨⟨ups_isPa 3 p hp hm, by omega⟩, hpar k hm⟩
        · cases hk
theorem used_no {l : List R} {k : Nat} (h : ¬ usedB l k = true) {x : R} (hx : x ∈ l) : par x.1 ≠ k := fun e => h (by
  unfold usedB
  rw [List.any_eq_true]
  exact ⟨x, hx, by simpa using e⟩)
theorem used_yes {l : List R} {k : Nat} : usedB l k = true ↔ ∃ x ∈ l, par x.1 = k := by
  unfold usedB
  rw [List.any_eq_true]
  simp only [decide_eq_true_eq]
theorem pacut_tab {c : Cf} {l : List R} (h : IsPt c l) {p : Nat} (hub : ¬ usedB l p = true) : IsPt c (cut l p) := by
  have hu := h.2.2.2.1
  have hl := cut_length l p
  refine pt_of h.1 h.2.1 (by have := h.2.2.1; omega) (up_cut p hu) fun k u hk => ?_
  have hm := (List.mem_filter.1 (get_some hk)).1
  obtain ⟨g1, g2⟩ := h.2.2.2.2 _ hm
  exact ⟨g1, fun hk0 => by rw [get_cut_ne hu (used_no hub hm)]; exact g2 hk0⟩

theorem doneP_set {cap : Nat} {l : List R} {p v : Nat} : doneP cap l 12 p v = if cap < (mk 3 l p).length then (l, 9, 0) else (setR l p v, 0, (((Tb.get (mk 3 l p) p).getD 0 : Nat) : Int)) := by unfold doneP setR; rw [if_pos rfl]
theorem doneP_unset {cap : Nat} {l : List R} {p v : Nat} : doneP cap l 13 p v = (match Tb.get l p with | none => (l, 6, 0) | some u => if usedB l p = true then (l, 90, 0) else (cut l p, 0, ((u : Nat) : Int))) := by unfold doneP; rw [if_neg (by decide)]; cases Tb.get l p <;> rfl
theorem doneP_read {cap : Nat} {l : List R} {p v : Nat} : doneP cap l 14 p v = (match Tb.get l p with | none => (l, 6, 0) | some u => if u = 0 then (l, 6, 0) else (l, 0, ((u : Nat) : Int))) := by unfold doneP; rw [if_neg (by decide)]; cases Tb.get l p <;> rfl
/-- What is answered may be a tree's. -/
theorem doPR_tab {c : Cf} {l : List R} (o : O) (ho : Wf o) (h : IsPt c l) : IsPt c (doPR c l o).1 := by
  by_cases hb : chk c o = 0
  · rw [doPR_done h hb]
    obtain ⟨hp, hk⟩ := fits_four h.2.1 hb
    obtain ⟨g1, g2, _⟩ := pth_path ho hp
    rcases hk with ⟨hk, g3⟩ | ⟨hk, _⟩ | ⟨hk, _⟩
    · rw [hk, doneP_set]
      split
      · exact h
      · rename_i hc
        exact set_tab h g1 g2 g3 hc
    · rw [hk, doneP_unset]
      cases Tb.get l (pth o) with
      | none => exact h
      | some u =>
        simp only
        split
        · exact h
        · rename_i hub
          exact pacut_tab h hub
    · rw [hk, doneP_read]
      cases Tb.get l (pth o) with
      | none => exact h
      | some u => simp only; split <;> exact h
  · rw [doPR_bad h hb]; exact h
/-- A code other than OK, and a reading, leave the rows. -/
theorem doPR_left {c : Cf} {l : List R} (o : O) (h : IsPt c l) (hx : (doPR c l o).2.1 ≠ 0 ∨ o.k = 14) : (doPR c l o).1 = l := by
  by_cases hb : chk c o = 0
  · rw [doPR_done h hb] at hx ⊢
    obtain ⟨hp, hk⟩ := fits_four h.2.1 hb
    rcases hk with ⟨hk, g3⟩ | ⟨hk, _⟩ | ⟨hk, _⟩
    · rw [hk, doneP_set] at hx ⊢
      split
      · rfl
      · rename_i hc
        rw [if_neg hc] at hx; simp at hx
    · rw [hk, doneP_unset] at hx ⊢
      cases hg : Tb.get l (pth o) with
      | none => rfl
      | some u =>
        rw [hg] at hx
        simp only at hx ⊢
        split
        · rfl
        · rename_i hub
          rw [if_neg hub] at hx; simp at hx
    · rw [hk, doneP_read]
      cases Tb.get l (pth o) with
      | none => rfl
      | some u => simp only; split <;> rfl
  · rw [doPR_bad h hb]
theorem doPR_len (c : Cf) (l : List R) (o : O) : (doPR c l o).1.length ≤ l.length + 4 := by
  by_cases h : IsPt c l
  · by_cases hb : chk c o = 0
    · rw [doPR_done h hb]; exact doneP_len _ _ _ h.2.2.2.1
    · rw [doPR_bad h hb]; simp
  · rw [doPR_none o h]; simp

theorem chk_path {c : Cf} {l : List R} {o : O} (h : IsPt c l) (hk : 12 ≤ o.k ∧ o.k ≤ 14) : chk c o = if Fits c.bits.toNat o then 0 else 10 := by
  unfold chk
  rw [if_neg (by unfold okB; rw [decide_eq_true h.1]; decide)]
  have e : objAt o.k = 4 := by unfold objAt; rw [if_neg (by omega), if_neg (by omega), if_neg (by omega), if_neg (by omega), if_pos (by omega)]
  rw [if_neg (by rw [e, h.2.1]; decide)]
/-- What a reading of a path answers. -/
theorem ans_read {c : Cf} {l : List R} (h : IsPt c l) {a b u : Nat} (hp : Path a b) (hg : Tb.get l (pth ⟨14, a, b, 0⟩) = some (u + 1)) : doPR c l ⟨14, a, b, 0⟩ = (l, 0, ((u + 1 : Nat) : Int)) := by
  have hc := chk_path (o := ⟨14, a, b, 0⟩) h (by simp only; omega)
  rw [if_pos (by unfold Fits; right; right; right; right; right; right; right; right; right; exact ⟨.inr rfl, hp, rfl⟩)] at hc
  rw [doPR_done h hc, doneP_read, hg]
  simp
/-- What is set is there. -/
theorem set_done {c : Cf} {l : List R} {o : O} (h : IsPt c l) (hk : o.k = 12) (hx : (doPR c l o).2.1 = 0) : Path o.a o.b ∧ o.c ≤ 2147483647 ∧ (doPR c l o).1 = setR l (pth o) o.c := by
  by_cases hb : chk c o = 0
  · obtain ⟨hp, hk2⟩ := fits_four h.2.1 hb
    rw [doPR_done h hb, hk, doneP_set] at hx ⊢
    refine ⟨hp, by omega, ?_⟩
    by_cases hc : c.cap.toNat < (mk 3 l (pth o)).length
    · rw [if_pos hc] at hx; simp at hx
    · rw [if_neg hc]
  · rw [doPR_bad h hb] at hx
    exact absurd hx hb
/-- Another path's operation leaves what stands there. -/
theorem other_stays {c : Cf} {l : List R} (h : IsPt c l) (o : O) {k v : Nat} (hg : Tb.get l k = some v) (hne : Path o.a o.b → pth o ≠ k) : Tb.get (doPR c l o).1 k = some v := by
  have hu := h.2.2.2.1
  by_cases hb : chk c o = 0
  · obtain ⟨hp, hk⟩ := fits_four h.2.1 hb
    have hne := hne hp
    rw [doPR_done h hb]
    rcases hk with ⟨hk, _⟩ | ⟨hk, _⟩ | ⟨hk, _⟩
    · rw [hk, doneP_set]
      split
      · exact hg
      · rw [get_set hu, if_neg (fun e => hne e.symm), hg]
    · rw [hk, doneP_unset]
      cases Tb.get l (pth o) with
      | none => exact hg
      | some u =>
        simp only
        split
        · exact hg
        · simp only; rw [get_cut_ne hu (fun e => hne e.symm)]; exact hg
    · rw [hk, doneP_read]
      cases Tb.get l (pth o) with
      | none => exact hg
      | some u => simp only; split <;> exact hg
  · rw [doPR_bad h hb]; exact hg
/-- Taking out. -/
theorem ans_unset {c : Cf} {l : List R} (h : IsPt c l) {a b : Nat} : (doPR c l ⟨13, a, b, 0⟩ = (l, 10, 0) ∧ ¬ Path a b) ∨ (Path a b ∧ doPR c l ⟨13, a, b, 0⟩ = match Tb.get l (pth ⟨13, a, b, 0⟩) with | none => (l, 6, 0) | some u => if usedB l (pth ⟨13, a, b, 0⟩) = true then (l, 90, 0) else (cut l (pth ⟨13, a, b, 0⟩), 0, ((u : Nat) : Int))) := by
  have hc := chk_path (o := ⟨13, a, b, 0⟩) h (by simp only; omega)
  by_cases hp : Path a b
  · rw [if_pos (by unfold Fits; right; right; right; right; right; right; right; right; right; exact ⟨.inl rfl, hp, rfl⟩)] at hc
    exact .inr ⟨hp, by rw [doPR_done h hc]; exact doneP_unset⟩
  · rw [if_neg (fun hf => by unfold Fits at hf; simp only at hf; rcases hf with hf | hf | hf | hf | hf | hf | hf | hf | hf | hf <;> first | omega | exact hp hf.2.1)] at hc
    exact .inl ⟨by rw [doPR_bad h (by rw [hc]; decide), hc], hp⟩
end Go.Proofs.YtnepdbfnbikplaaGreatDoor
