/- The model of all four objects: plain facts. What is a state, what an operation does, what a fold leaves and answers; what may be left out of one. -/
import Derived.Test.YtnepdbfnbikplaaGreatDoorGTbP
import Derived.Test.YtnepdbfnbikplaaGreatDoorGOr
import Derived.Test.YtnepdbfnbikplaaGreatDoorGRu
import Derived.Test.YtnepdbfnbikplaaGreatDoorGPa
import Derived.Test.YtnepdbfnbikplaaGreatDoorMoTold
namespace Go.Proofs.YtnepdbfnbikplaaGreatDoor
open Tb Pt Opn

/-- A state of a config. -/
def StM (c : Cf) (l : List R) : Prop := IsTab c l ∨ IsOr c l ∨ IsRu c l ∨ IsPt c l
instance (c : Cf) (l : List R) : Decidable (StM c l) := by unfold StM; infer_instance
def stB (c : Cf) (l : List R) : Bool := decide (StM c l)
/-- What an operation leaves, and answers. -/
def doMR (c : Cf) (l : List R) (o : O) : List R × Ans :=
  if c.obj = 1 then ((doR c l o).1, (doR c l o).2.1, (doR c l o).2.2, []) else if c.obj = 2 then doOR c l o
  else if c.obj = 3 then ((doUR c l o).1, (doUR c l o).2.1, (doUR c l o).2.2, []) else ((doPR c l o).1, (doPR c l o).2.1, (doPR c l o).2.2, [])
def doME (c : Cf) (l : List R) : Int := if c.obj = 1 then doE c l else if c.obj = 2 then doOE c l else if c.obj = 3 then doUE c l else doPE c l

theorem st_of1 {c : Cf} {l : List R} (h : c.obj = 1) : StM c l ↔ IsTab c l :=
  ⟨fun g => by rcases g with g | g | g | g; exact g; all_goals (have := g.2.1; omega), .inl⟩
theorem st_of2 {c : Cf} {l : List R} (h : c.obj = 2) : StM c l ↔ IsOr c l :=
  ⟨fun g => by rcases g with g | g | g | g; (have := g.2.1; omega); exact g; all_goals (have := g.2.1; omega), fun g => .inr (.inl g)⟩
theorem st_of3 {c : Cf} {l : List R} (h : c.obj = 3) : StM c l ↔ IsRu c l :=
  ⟨fun g => by rcases g with g | g | g | g; (have := g.2.1; omega); (have := g.2.1; omega); exact g; (have := g.2.1; omega), fun g => .inr (.inr (.inl g))⟩
theorem st_of4 {c : Cf} {l : List R} (h1 : c.obj ≠ 1) (h2 : c.obj ≠ 2) (h3 : c.obj ≠ 3) : StM c l ↔ IsPt c l :=
  ⟨fun g => by rcases g with g | g | g | g; exact absurd g.2.1 h1; exact absurd g.2.1 h2; exact absurd g.2.1 h3; exact g, fun g => .inr (.inr (.inr g))⟩
theorem do_1 {c : Cf} (h : c.obj = 1) (l : List R) (o : O) : doMR c l o = ((doR c l o).1, (doR c l o).2.1, (doR c l o).2.2, []) := by unfold doMR; rw [if_pos h]
theorem do_2 {c : Cf} (h : c.obj = 2) (l : List R) (o : O) : doMR c l o = doOR c l o := by unfold doMR; rw [if_neg (by omega), if_pos h]
theorem do_3 {c : Cf} (h : c.obj = 3) (l : List R) (o : O) : doMR c l o = ((doUR c l o).1, (doUR c l o).2.1, (doUR c l o).2.2, []) := by unfold doMR; rw [if_neg (by omega), if_neg (by omega), if_pos h]
theorem do_4 {c : Cf} (h1 : c.obj ≠ 1) (h2 : c.obj ≠ 2) (h3 : c.obj ≠ 3) (l : List R) (o : O) : doMR c l o = ((doPR c l o).1, (doPR c l o).2.1, (doPR c l o).2.2, []) := by unfold doMR; rw [if_neg h1, if_neg h2, if_neg h3]
theorem err_1 {c : Cf} (h : c.obj = 1) (l : List R) : doME c l = doE c l := by unfold doME; rw [if_pos h]
theorem err_2 {c : Cf} (h : c.obj = 2) (l : List R) : doME c l = doOE c l := by unfold doME; rw [if_neg (by omega), if_pos h]
theorem err_3 {c : Cf} (h : c.obj = 3) (l : List R) : doME c l = doUE c l := by unfold doME; rw [if_neg (by omega), if_neg (by omega), if_pos h]
theorem err_4 {c : Cf} (h1 : c.obj ≠ 1) (h2 : c.obj ≠ 2) (h3 : c.obj ≠ 3) (l : List R) : doME c l = doPE c l := by unfold doME; rw [if_neg h1, if_neg h2, if_neg h3]
/-- One of the four. -/
theorem four (c : Cf) : c.obj = 1 ∨ c.obj = 2 ∨ c.obj = 3 ∨ (c.obj ≠ 1 ∧ c.obj ≠ 2 ∧ c.obj ≠ 3) := by omega
theorem st_ok {c : Cf} {l : List R} (h : StM c l) : Ok c ∧ (l.length : Int) ≤ c.cap ∧ Up l := by
  rcases h with h | h | h | h
  · exact ⟨h.1, h.2.2.1, h.2.2.2.1⟩
  · exact ⟨h.1, h.2.2.1, h.2.2.2.1⟩
  · exact ⟨h.1, h.2.2.1, h.2.2.2.1⟩
  · exact ⟨h.1, h.2.2.1, h.2.2.2.1⟩
theorem st_len {c : Cf} {l : List R} (h : StM c l) : l.length ≤ 32 := by
  obtain ⟨h1, h2, _⟩ := st_ok h
  have := h1.2.2
  unfold RestOk at this
  omega
theorem doM_cases (c : Cf) (l : List R) : (doME c l = 0 ∧ StM c l) ∨ (doME c l ≠ 0 ∧ ¬ StM c l) := by
  rcases four c with h | h | h | ⟨h1, h2, h3⟩
  · rw [err_1 h, st_of1 h]; exact doE_cases c l
  · rw [err_2 h, st_of2 h]; exact doOE_cases c l
  · rw [err_3 h, st_of3 h]; exact doUE_cases c l
  · rw [err_4 h1 h2 h3, st_of4 h1 h2 h3]; exact doPE_cases c l
theorem doM_bad {c : Cf} {l : List R} {o : O} (h : StM c l) (hb : chk c o ≠ 0) : doMR c l o = (l, chk c o, 0, []) := by
  rcases four c with h1 | h1 | h1 | ⟨h1, h2, h3⟩
  · rw [do_1 h1, doR_bad ((st_of1 h1).1 h) hb]
  · rw [do_2 h1, doOR_bad ((st_of2 h1).1 h) hb]
  · rw [do_3 h1, doUR_bad ((st_of3 h1).1 h) hb]
  · rw [do_4 h1 h2 h3, doPR_bad ((st_of4 h1 h2 h3).1 h) hb]
theorem doM_none {c : Cf} {l : List R} (o : O) (h : ¬ StM c l) : doMR c l o = ([], 0, 0, []) := by
  rcases four c with h1 | h1 | h1 | ⟨h1, h2, h3⟩
  · rw [do_1 h1, doR_none o (fun g => h ((st_of1 h1).2 g))]
  · rw [do_2 h1, doOR_none o (fun g => h ((st_of2 h1).2 g))]
  · rw [do_3 h1, doUR_none o (fun g => h ((st_of3 h1).2 g))]
  · rw [do_4 h1 h2 h3, doPR_none o (fun g => h ((st_of4 h1 h2 h3).2 g))]
theorem doM_tab {c : Cf} {l : List R} {o : O} (ho : Wf o) (h : StM c l) : StM c (doMR c l o).1 := by
  rcases four c with h1 | h1 | h1 | ⟨h1, h2, h3⟩
  · rw [do_1 h1, st_of1 h1]; exact do_tab o ((st_of1 h1).1 h)
  · rw [do_2 h1, st_of2 h1]; exact doOR_tab o ((st_of2 h1).1 h)
  · rw [do_3 h1, st_of3 h1]; exact doUR_tab o ((st_of3 h1).1 h)
  · rw [do_4 h1 h2 h3, st_of4 h1 h2 h3]; exact doPR_tab o ho ((st_of4 h1 h2 h3).1 h)

/-- A fold: the state that operations leave, and what they answer. -/
def foldM (c : Cf) : List R → List O → List R × List Ans
  | l, [] => (l, [])
  | l, o :: os => ((foldM c (doMR c l o).1 os).1, (doMR c l o).2 :: (foldM c (doMR c l o).1 os).2)
theorem foldM_snoc (c : Cf) : ∀ (os : List O) (l : List R) (o : O), foldM c l (os ++ [o]) = ((doMR c (foldM c l os).1 o).1, (foldM c l os).2 ++ [(doMR c (foldM c l os).1 o).2])
  | [], l, o => rfl
  | x :: os, l, o => by rw [List.cons_append, foldM, foldM, foldM_snoc c os]; rfl
theorem foldM_len (c : Cf) : ∀ (os : List O) (l : List R), (foldM c l os).2.length = os.length
  | [], _ => rfl
  | x :: os, l => by rw [foldM, List.length_cons, List.length_cons, foldM_len c os]
theorem foldM_tab {c : Cf} : ∀ {os : List O} {l : List R}, (∀ o ∈ os, Wf o) → StM c l → StM c (foldM c l os).1
  | [], _, _, h => h
  | x :: os, l, hw, h => by rw [foldM]; exact foldM_tab (fun o ho => hw o (List.mem_cons_of_mem _ ho)) (doM_tab (hw x (List.mem_cons_self ..)) h)
theorem foldM_at (c : Cf) (l : List R) (os : List O) {j : Nat} (hj : j < os.length) : foldM c l (os.take (j + 1)) = ((doMR c (foldM c l (os.take j)).1 os[j]).1, (foldM c l (os.take j)).2 ++ [(doMR c (foldM c l (os.take j)).1 os[j]).2]) := by
  rw [List.take_succ_eq_append_getElem hj, foldM_snoc]

theorem writes_no {c : Cf} {l : List R} {o : O} (h : StM c l) (hc : chk c o = 0) (hw : wrB o.k = false) : (c.obj = 1 → o.k = 3) ∧ (c.obj = 2 → ¬ (o.k = 4 ∨ o.k = 5)) ∧ (c.obj = 3 → o.k = 11) ∧ ((c.obj ≠ 1 ∧ c.obj ≠ 2 ∧ c.obj ≠ 3) → o.k = 14) := by
  unfold wrB at hw
  have hn := of_decide_eq_false hw
  refine ⟨fun g => ?_, fun g => ?_, fun g => ?_, fun g => ?_⟩
  · rcases fits_one g hc with ⟨k, _⟩ | ⟨k, _⟩ | ⟨k, _⟩ <;> omega
  · omega
  · rcases fits_three g hc with ⟨k, _⟩ | ⟨k, _⟩ | ⟨k, _⟩ <;> omega
  · obtain ⟨_, k⟩ := fits_four ((st_of4 g.1 g.2.1 g.2.2).1 h).2.1 hc
    omega
/-- What only reads, or has a code, leaves the state. -/
theorem doM_left {c : Cf} {l : List R} {o : O} (h : StM c l) (hx : (doMR c l o).2.1 ≠ 0 ∨ wrB o.k = false) : (doMR c l o).1 = l := by
  by_cases hc : chk c o = 0
  · have hw := fun g => writes_no h hc g
    rcases four c with h1 | h1 | h1 | ⟨h1, h2, h3⟩
    · rw [do_1 h1] at hx ⊢; exact do_left o ((st_of1 h1).1 h) (hx.imp id fun g => (hw g).1 h1)
    · rw [do_2 h1] at hx ⊢; exact doOR_left o ((st_of2 h1).1 h) (hx.imp id fun g => (hw g).2.1 h1)
    · rw [do_3 h1] at hx ⊢; exact doUR_left o ((st_of3 h1).1 h) (hx.imp id fun g => (hw g).2.2.1 h1)
    · rw [do_4 h1 h2 h3] at hx ⊢; exact doPR_left o ((st_of4 h1 h2 h3).1 h) (hx.imp id fun g => (hw g).2.2.2 ⟨h1, h2, h3⟩)
  · rw [doM_bad h hc]
/-- The operations that write, and are done, each with its answer. -/
def keptM (c : Cf) : List R → List O → List (O × Ans)
  | _, [] => []
  | l, o :: os => (if wrB o.k = true ∧ (doMR c l o).2.1 = 0 then [(o, (doMR c l o).2)] else []) ++ keptM c (doMR c l o).1 os
theorem foldM_kept {c : Cf} : ∀ {os : List O} {l : List R}, (∀ o ∈ os, Wf o) → StM c l → foldM c l ((keptM c l os).map (·.1)) = ((foldM c l os).1, (keptM c l os).map (·.2))
  | [], l, _, _ => rfl
  | o :: os, l, hw, h => by
    have ih := @foldM_kept c os (doMR c l o).1 (fun x hx => hw x (List.mem_cons_of_mem _ hx)) (doM_tab (hw o (List.mem_cons_self ..)) h)
    rw [keptM, foldM]
    by_cases hk : wrB o.k = true ∧ (doMR c l o).2.1 = 0
    · rw [if_pos hk, List.singleton_append, List.map_cons, List.map_cons, foldM, ih]
    · have e : (doMR c l o).1 = l := doM_left h (by
        by_cases hz : (doMR c l o).2.1 = 0
        · exact .inr (Bool.eq_false_iff.2 fun g => hk ⟨g, hz⟩)
        · exact .inl hz)
      rw [if_neg hk, List.nil_append]
      rw [e] at ih ⊢
      exact ih
theorem keptM_snoc (c : Cf) : ∀ (os : List O) (l : List R) (o : O), keptM c l (os ++ [o]) = keptM c l os ++ (if wrB o.k = true ∧ (doMR c (foldM c l os).1 o).2.1 = 0 then [(o, (doMR c (foldM c l os).1 o).2)] else [])
  | [], l, o => by by_cases h : wrB o.k = true ∧ (doMR c l o).2.1 = 0 <;> simp [keptM, foldM, h]
  | x :: os, l, o => by rw [List.cons_append, keptM, keptM, keptM_snoc c os, List.append_assoc, foldM]
theorem keptM_len (c : Cf) : ∀ (os : List O) (l : List R), (keptM c l os).length ≤ os.length
  | [], _ => Nat.le_refl _
  | x :: os, l => by
    rw [keptM, List.length_append, List.length_cons]
    have := keptM_len c os (doMR c l x).1
    split <;> simp <;> omega
theorem keptM_wf {c : Cf} : ∀ {os : List O} {l : List R}, (∀ o ∈ os, Wf o) → ∀ x ∈ keptM c l os, Wf x.1
  | [], _, _, x, hx => by cases hx
  | o :: os, l, hw, x, hx => by
    rw [keptM] at hx
    rcases List.mem_append.1 hx with hx | hx
    · split at hx
      · rw [List.mem_singleton.1 hx]; exact hw o (List.mem_cons_self ..)
      · cases hx
    · exact keptM_wf (fun y hy => hw y (List.mem_cons_of_mem _ hy)) x hx
/-- A config that may be has a state without rows. -/
theorem st_nil {c : Cf} (h : Ok c) : StM c [] := by
  have hr := h.2.2
  unfold RestOk at hr
  have ho := h.1
  unfold ObjOk at ho
  rcases ho with ⟨g, _⟩ | ⟨g, _⟩ | ⟨g | g, _⟩
  · exact .inl ⟨h, g, by simp; omega, List.Pairwise.nil, fun x hx => by cases hx⟩
  · exact .inr (.inl ⟨h, g, by simp; omega, List.Pairwise.nil, fun x hx => by cases hx⟩)
  · exact .inr (.inr (.inl ⟨h, g, by simp; omega, List.Pairwise.nil, fun x hx => by cases hx⟩))
  · exact .inr (.inr (.inr ⟨h, g, by simp; omega, List.Pairwise.nil, fun x hx => by cases hx⟩))
/-- The code of what fits. -/
theorem doM_code {c : Cf} {l : List R} {o : O} (h : StM c l) (hc : chk c o = 0) : (doMR c l o).2.1 ≠ 50 ∧ (doMR c l o).2.1 ≠ 10 ∧ (doMR c l o).2.1 ≠ 40 := by
  have key : (doMR c l o).2.1 = 0 ∨ (doMR c l o).2.1 = 6 ∨ (doMR c l o).2.1 = 9 ∨ (doMR c l o).2.1 = 90 := by
    rcases four c with h1 | h1 | h1 | ⟨h1, h2, h3⟩
    · rw [do_1 h1, doR_done ((st_of1 h1).1 h) hc]
      unfold doneR
      try simp only
      repeat' split
      all_goals simp
    · rw [do_2 h1, doOR_done ((st_of2 h1).1 h) hc]
      unfold doneO readR
      try simp only
      repeat' split
      all_goals simp
    · rw [do_3 h1, doUR_done ((st_of3 h1).1 h) hc]
      unfold doneU
      try simp only
      repeat' split
      all_goals simp
    · rw [do_4 h1 h2 h3, doPR_done ((st_of4 h1 h2 h3).1 h) hc]
      unfold doneP
      try simp only
      repeat' split
      all_goals simp
  omega
/-- A row of rows that is as long as its config lets it, at most. -/
theorem st_words {c : Cf} {l : List R} (h : StM c l) : ∀ x ∈ l, x.1 < 18446744073709551616 := by
  intro x hx
  rcases h with h | h | h | h
  · have h1 := (h.2.2.2.2 x hx)
    have h2 := h.1.1
    have h3 := h.2.1
    unfold RowOk sz at h1
    rw [if_pos h3] at h1
    unfold ObjOk at h2
    have h4 : c.bits.toNat + 1 ≤ 7 := by omega
    have := Nat.pow_le_pow_right (n := 2) (by omega) h4
    omega
  · have := (h.2.2.2.2 x hx); unfold OrOk at this; omega
  · have := (h.2.2.2.2 x hx); unfold RuOk at this; omega
  · have := (h.2.2.2.2 x hx).1.1; unfold IsPa at this; omega
theorem errM_conf {c : Cf} (h : ¬ Ok c) (l : List R) : doME c l = 40 := by
  rcases four c with h1 | h1 | h1 | ⟨h1, h2, h3⟩
  · rw [err_1 h1]; unfold doE; rw [if_pos (fun g => h g.1)]
  · rw [err_2 h1]; unfold doOE; rw [if_pos (fun g => h g.1)]
  · rw [err_3 h1]; unfold doUE; rw [if_pos (fun g => h g.1)]
  · rw [err_4 h1 h2 h3]; unfold doPE; rw [if_pos (fun g => h g.1)]
theorem st_not {c : Cf} (h : ¬ Ok c) (l : List R) : ¬ StM c l := fun g => h (st_ok g).1
end Go.Proofs.YtnepdbfnbikplaaGreatDoor
