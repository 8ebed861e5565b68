/- The document's own model of a set of access rules: whether rows may be rules. The document's own model of a set of access rules: whom a rule speaks of, and what all rules say. The document's own answers on rules: what an operation does that fits. The document's own answer on what an operation on rules does, of whatever config, rows and operation. What follows of rules: what is answered may be rules, what leaves the rows, no other rule is turned, what rules say by what they hold, and that denying overrides. -/
import Derived.Test.YtljhcegkekdjgaaDoorGRow
import Derived.Test.YtljhcegkekdjgaaDoorGOpRef
import Derived.Test.YtljhcegkekdjgaaDoorGOld
import Derived.Deep.RegionWith
import Derived.Deep.DeepCutAuto
namespace Go.Proofs.YtljhcegkekdjgaaDoor
open Go.RowKit Tb Pt Opn

/-- A key and a value that may stand among rules. -/
def RuOk (x : R) : Prop := x.1 < 4294967296 ∧ (x.2 = 1 ∨ x.2 = 2)
instance (x : R) : Decidable (RuOk x) := by unfold RuOk; infer_instance
/-- Rows that may be rules. -/
def IsRu (c : Cf) (l : List R) : Prop := Ok c ∧ c.obj = 3 ∧ (l.length : Int) ≤ c.cap ∧ Up l ∧ ∀ x ∈ l, RuOk x
instance (c : Cf) (l : List R) : Decidable (IsRu c l) := by unfold IsRu; infer_instance
def ruB (c : Cf) (l : List R) : Bool := decide (IsRu c l)
theorem ruB_false {c : Cf} {l : List R} (h : ¬ IsRu c l) : ruB c l = false := decide_eq_false h
theorem ruB_true {c : Cf} {l : List R} (h : IsRu c l) : ruB c l = true := decide_eq_true h

end Go.Proofs.YtljhcegkekdjgaaDoor

namespace Go.Proofs.YtljhcegkekdjgaaDoor
open Go.RowKit Tb Pt Opn

/-- Does a rule speak of somebody, and something? -/
def sp (k who what : Nat) : Bool := decide ((k / 65536 = 0 ∨ k / 65536 = who) ∧ (k % 65536 = 0 ∨ k % 65536 = what))
/-- What rules say, one behind the other. -/
def sayF (who what v : Nat) (x : R) : Nat := if sp x.1 who what = true ∧ v < x.2 then x.2 else v
def says (l : List R) (who what : Nat) : Nat := l.foldl (sayF who what) 0
theorem says_take {l : List R} {a b j : Nat} (hj : j < l.length) : says (l.take (j + 1)) a b = sayF a b (says (l.take j) a b) l[j] := by
  unfold says
  rw [List.take_succ_eq_append_getElem hj, List.foldl_append]
  rfl
theorem sayF_le {a b v : Nat} {x : R} (hv : v ≤ 2) (hx : x.2 = 1 ∨ x.2 = 2) : sayF a b v x ≤ 2 := by unfold sayF; split <;> omega

end Go.Proofs.YtljhcegkekdjgaaDoor

namespace Go.Proofs.YtljhcegkekdjgaaDoor
open Go.RowKit Tb Pt Opn

/-- What an operation does that fits: the rows, the code, the answer's number. -/
def doneU (cap : Nat) (l : List R) (k a b c : Nat) : List R × Int × Int :=
  if k = 11 then (l, 0, (says l a b : Nat))
  else if k = 9 then (match Tb.get l (a * 65536 + b) with
    | some v => (put l (a * 65536 + b) c, 0, (v : Nat))
    | none => if cap ≤ l.length then (l, 9, 0) else (put l (a * 65536 + b) c, 0, 0))
  else (match Tb.get l (a * 65536 + b) with
    | some v => (cut l (a * 65536 + b), 0, (v : Nat))
    | none => (l, 6, 0))
/-- Rows, and an answer without rows. -/
def DidU (s : List R × Int × Int) (w : World) (e : Ending) (w' : World) : Prop := ∃ u, e = .returned (.tuple #[u, resv s.2.1 s.2.2 none 0 0]) ∧ IsRV w' u s.1 ∧ Below w.heap.size w w'

end Go.Proofs.YtljhcegkekdjgaaDoor

namespace Go.Proofs.YtljhcegkekdjgaaDoor
open Go.RowKit Tb Pt Opn

/-- What Do answers. -/
def doUR (c : Cf) (l : List R) (o : O) : List R × Int × Int :=
  if ¬ (Ok c ∧ c.obj = 3) then ([], 0, 0) else if ¬ IsRu c l then ([], 0, 0) else if chk c o ≠ 0 then (l, chk c o, 0) else doneU c.cap.toNat l o.k o.a o.b o.c
def doUE (c : Cf) (l : List R) : Int := if ¬ (Ok c ∧ c.obj = 3) then 40 else if ¬ IsRu c l then 2 else 0

end Go.Proofs.YtljhcegkekdjgaaDoor

namespace Go.Proofs.YtljhcegkekdjgaaDoor
open Go.RowKit Tb Pt Opn

theorem doneU_len {cap : Nat} {l : List R} (k a b c : Nat) (hu : Up l) : (doneU cap l k a b c).1.length ≤ l.length + 1 := by
  have h1 := len_put (a * 65536 + b) c hu
  have h2 := cut_length l (a * 65536 + b)
  unfold doneU
  (repeat' split) <;> simp only <;> (try (split at h1)) <;> omega

end Go.Proofs.YtljhcegkekdjgaaDoor

namespace Go.Proofs.YtljhcegkekdjgaaDoor
open Go.RowKit Tb Pt Opn

theorem rule_kind {k : Nat} (h : (objAt k : Int) = 3) : 9 ≤ k ∧ k ≤ 11 := by
  unfold objAt at h
  (repeat' split at h) <;> omega

end Go.Proofs.YtljhcegkekdjgaaDoor

namespace Go.Proofs.YtljhcegkekdjgaaDoor
open Go.RowKit Tb Pt Opn

theorem doUE_cases (c : Cf) (l : List R) : (doUE c l = 0 ∧ IsRu c l) ∨ (doUE c l ≠ 0 ∧ ¬ IsRu c l) := by
  unfold doUE
  by_cases h1 : Ok c ∧ c.obj = 3
  · by_cases h2 : IsRu c l
    · exact .inl ⟨by rw [if_neg (not_not_intro h1), if_neg (not_not_intro h2)], h2⟩
    · exact .inr ⟨by rw [if_neg (not_not_intro h1), if_pos h2]; decide, h2⟩
  · exact .inr ⟨by rw [if_pos h1]; decide, fun h => h1 ⟨h.1, h.2.1⟩⟩
theorem doUR_none {c : Cf} {l : List R} (o : O) (h : ¬ IsRu c l) : doUR c l o = ([], 0, 0) := by
  unfold doUR
  by_cases h1 : Ok c ∧ c.obj = 3
  · rw [if_neg (not_not_intro h1), if_pos h]
  · rw [if_pos h1]
theorem doUR_bad {c : Cf} {l : List R} {o : O} (h : IsRu c l) (hb : chk c o ≠ 0) : doUR c l o = (l, chk c o, 0) := by
  unfold doUR; rw [if_neg (not_not_intro ⟨h.1, h.2.1⟩), if_neg (not_not_intro h), if_pos hb]
theorem doUR_done {c : Cf} {l : List R} {o : O} (h : IsRu c l) (hb : chk c o = 0) : doUR c l o = doneU c.cap.toNat l o.k o.a o.b o.c := by
  unfold doUR; rw [if_neg (not_not_intro ⟨h.1, h.2.1⟩), if_neg (not_not_intro h), if_neg (not_not_intro hb)]
/-- What an operation that fits says. -/
theorem fits_three {c : Cf} {o : O} (hc : c.obj = 3) (h : chk c o = 0) : (o.k = 9 ∧ o.a ≤ 65535 ∧ o.b ≤ 65535 ∧ (o.c = 1 ∨ o.c = 2)) ∨ (o.k = 10 ∧ o.a ≤ 65535 ∧ o.b ≤ 65535 ∧ o.c = 0) ∨ (o.k = 11 ∧ 1 ≤ o.a ∧ o.a ≤ 65535 ∧ 1 ≤ o.b ∧ o.b ≤ 65535 ∧ o.c = 0) := by
  obtain ⟨_, h2, h3⟩ := chk_zero h
  have hk := rule_kind (k := o.k) (by rw [h2]; exact hc)
  unfold Fits at h3
  rcases h3 with h | h | h | h | h | h | h | h | h | h <;> omega
theorem ruput_tab {c : Cf} {l : List R} (h : IsRu c l) {k v : Nat} (hk : k < 4294967296) (hv : v = 1 ∨ v = 2) (hc : (Tb.get l k).isSome = true ∨ ¬ c.cap.toNat ≤ l.length) : IsRu c (put l k v) := by
  obtain ⟨h1, h2, h3, h4, h5⟩ := h
  refine ⟨h1, h2, ?_, up_put _ _ h4, fun x hx => ?_⟩
  · rw [len_put _ _ h4]
    rcases hc with hc | hc
    · rw [if_pos hc]; exact h3
    · split <;> omega
  · rcases put_mem hx with hx | rfl
    · exact h5 x hx
    · exact ⟨hk, hv⟩
theorem rucut_tab {c : Cf} {l : List R} (h : IsRu c l) (k : Nat) : IsRu c (cut l k) := by
  obtain ⟨h1, h2, h3, h4, h5⟩ := h
  have := cut_length l k
  exact ⟨h1, h2, by omega, up_cut _ h4, fun x hx => h5 x (cut_mem hx)⟩
theorem doneU_put {cap : Nat} {l : List R} {a b c : Nat} : doneU cap l 9 a b c = (match Tb.get l (a * 65536 + b) with
    | some v => (put l (a * 65536 + b) c, 0, ((v : Nat) : Int))
    | none => if cap ≤ l.length then (l, 9, 0) else (put l (a * 65536 + b) c, 0, 0)) := by unfold doneU; rw [if_neg (by decide), if_pos rfl] <;> cases Tb.get l (a * 65536 + b) <;> rfl
theorem doneU_cut {cap : Nat} {l : List R} {a b c : Nat} : doneU cap l 10 a b c = (match Tb.get l (a * 65536 + b) with
    | some v => (cut l (a * 65536 + b), 0, ((v : Nat) : Int))
    | none => (l, 6, 0)) := by unfold doneU; rw [if_neg (by decide), if_neg (by decide)] <;> cases Tb.get l (a * 65536 + b) <;> rfl
theorem doneU_look {cap : Nat} {l : List R} {a b c : Nat} : doneU cap l 11 a b c = (l, 0, ((says l a b : Nat) : Int)) := by unfold doneU; rw [if_pos rfl]
/-- What is answered may be rules. -/
theorem doUR_tab {c : Cf} {l : List R} (o : O) (h : IsRu c l) : IsRu c (doUR c l o).1 := by
  by_cases hb : chk c o = 0
  · rw [doUR_done h hb]
    rcases fits_three h.2.1 hb with ⟨hk, g1, g2, g3⟩ | ⟨hk, _⟩ | ⟨hk, _⟩
    · rw [hk, doneU_put]
      cases hg : Tb.get l (o.a * 65536 + o.b) with
      | some u => exact ruput_tab h (by omega) g3 (.inl (by rw [hg]; rfl))
      | none =>
        simp only
        split
        · exact h
        · rename_i hc
          exact ruput_tab h (by omega) g3 (.inr hc)
    · rw [hk, doneU_cut]
      cases Tb.get l (o.a * 65536 + o.b) with
      | some u => exact rucut_tab h _
      | none => exact h
    · rw [hk, doneU_look]; exact h
  · rw [doUR_bad h hb]; exact h
/-- A code other than OK, and a check, leave the rows. -/
theorem doUR_left {c : Cf} {l : List R} (o : O) (h : IsRu c l) (hx : (doUR c l o).2.1 ≠ 0 ∨ o.k = 11) : (doUR c l o).1 = l := by
  by_cases hb : chk c o = 0
  · rw [doUR_done h hb] at hx ⊢
    rcases fits_three h.2.1 hb with ⟨hk, g1, g2, g3⟩ | ⟨hk, _⟩ | ⟨hk, _⟩
    · rw [hk, doneU_put] at hx ⊢
      cases hg : Tb.get l (o.a * 65536 + o.b) with
      | some u => rw [hg] at hx; simp at hx
      | none =>
        rw [hg] at hx
        simp only at hx ⊢
        split
        · rfl
        · rename_i hc
          rw [if_neg hc] at hx; simp at hx
    · rw [hk, doneU_cut] at hx ⊢
      cases hg : Tb.get l (o.a * 65536 + o.b) with
      | some u => rw [hg] at hx; simp at hx
      | none => rfl
    · rw [hk, doneU_look]
  · rw [doUR_bad h hb]
/-- An operation that is OK, and no check, turns its own rule alone: it is there behind an addition, and not behind a drop. -/
theorem doUR_own {c : Cf} {l : List R} (o : O) (h : IsRu c l) (hx : (doUR c l o).2.1 = 0) (hk : o.k ≠ 11) :
    cut (doUR c l o).1 (o.a * 65536 + o.b) = cut l (o.a * 65536 + o.b) ∧ ((Tb.get (doUR c l o).1 (o.a * 65536 + o.b)).isSome = true ↔ o.k = 9) ∧ o.a ≤ 65535 ∧ o.b ≤ 65535 := by
  have hcc : ∀ k, cut (cut l k) k = cut l k := fun k => by unfold cut; rw [List.filter_filter]; congr 1; funext x; simp
  have hgc : ∀ k, Tb.get (cut l k) k = none := fun k => get_none_of fun x hx => by
    have := (List.mem_filter.1 hx).2
    simpa using this
  by_cases hb : chk c o = 0
  · rw [doUR_done h hb] at hx ⊢
    rcases fits_three h.2.1 hb with ⟨hk9, g1, g2, g3⟩ | ⟨hk10, g1, g2, _⟩ | ⟨hk11, _⟩
    · rw [hk9, doneU_put] at hx ⊢
      cases hg : Tb.get l (o.a * 65536 + o.b) with
      | some u => exact ⟨cut_put _ _ h.2.2.2.1, by simp only; rw [get_put _ _ h.2.2.2.1]; simp, g1, g2⟩
      | none =>
        rw [hg] at hx
        simp only at hx ⊢
        by_cases hc : c.cap.toNat ≤ l.length
        · rw [if_pos hc] at hx; simp at hx
        · rw [if_neg hc]
          exact ⟨cut_put _ _ h.2.2.2.1, by simp only; rw [get_put _ _ h.2.2.2.1]; simp, g1, g2⟩
    · rw [hk10, doneU_cut] at hx ⊢
      cases hg : Tb.get l (o.a * 65536 + o.b) with
      | some u => exact ⟨hcc _, by simp only; rw [hgc]; simp, g1, g2⟩
      | none => rw [hg] at hx; simp at hx
    · exact absurd hk11 hk
  · rw [doUR_bad h hb] at hx
    exact absurd hx hb
theorem doUR_len (c : Cf) (l : List R) (o : O) : (doUR c l o).1.length ≤ l.length + 1 := by
  by_cases h : IsRu c l
  · by_cases hb : chk c o = 0
    · rw [doUR_done h hb]; exact doneU_len _ _ _ _ h.2.2.2.1
    · rw [doUR_bad h hb]; simp
  · rw [doUR_none o h]; simp

theorem sayF_two {a b v : Nat} {x : R} (hv : v ≤ 2) (hx : x.2 = 1 ∨ x.2 = 2) : sayF a b v x = 2 ↔ v = 2 ∨ (sp x.1 a b = true ∧ x.2 = 2) := by
  unfold sayF
  split
  · rename_i h; constructor
    · intro h2; exact .inr ⟨h.1, h2⟩
    · rintro (h2 | h2)
      · omega
      · exact h2.2
  · rename_i h; constructor
    · intro h2; exact .inl h2
    · rintro (h2 | h2)
      · exact h2
      · by_cases e : v = 2
        · exact e
        · exact absurd ⟨h2.1, by omega⟩ h
theorem sayF_none {a b v : Nat} {x : R} (hx : x.2 = 1 ∨ x.2 = 2) : sayF a b v x = 0 ↔ v = 0 ∧ sp x.1 a b = false := by
  unfold sayF
  split
  · rename_i h
    rw [h.1]
    constructor
    · intro h2; omega
    · rintro ⟨_, h2⟩; cases h2
  · rename_i h
    constructor
    · intro h2
      refine ⟨h2, ?_⟩
      cases hs : sp x.1 a b with
      | false => rfl
      | true => exact absurd ⟨hs, by omega⟩ h
    · rintro ⟨h2, _⟩; exact h2
theorem fold_says (a b : Nat) : ∀ (l : List R) (v : Nat), v ≤ 2 → (∀ x ∈ l, x.2 = 1 ∨ x.2 = 2) → l.foldl (sayF a b) v ≤ 2 ∧ (l.foldl (sayF a b) v = 2 ↔ v = 2 ∨ ∃ x ∈ l, sp x.1 a b = true ∧ x.2 = 2) ∧ (l.foldl (sayF a b) v = 0 ↔ v = 0 ∧ ∀ x ∈ l, sp x.1 a b = false)
  | [], v, hv, _ => ⟨hv, by simp, by simp⟩
  | x :: t, v, hv, h => by
    have hx := h x (List.mem_cons_self ..)
    obtain ⟨h1, h2, h3⟩ := fold_says a b t (sayF a b v x) (sayF_le hv hx) (fun y hy => h y (List.mem_cons_of_mem _ hy))
    rw [List.foldl_cons]
    refine ⟨h1, ?_, ?_⟩
    · rw [h2, sayF_two hv hx]
      constructor
      · rintro ((h4 | h4) | ⟨y, hy, h4⟩)
        · exact .inl h4
        · exact .inr ⟨x, List.mem_cons_self .., h4⟩
        · exact .inr ⟨y, List.mem_cons_of_mem _ hy, h4⟩
      · rintro (h4 | ⟨y, hy, h4⟩)
        · exact .inl (.inl h4)
        · rcases List.mem_cons.1 hy with rfl | hy
          · exact .inl (.inr h4)
          · exact .inr ⟨y, hy, h4⟩
    · rw [h3, sayF_none hx]
      constructor
      · rintro ⟨⟨h4, h5⟩, h6⟩
        exact ⟨h4, fun y hy => (List.mem_cons.1 hy).elim (fun e => by rw [e]; exact h5) (h6 y)⟩
      · rintro ⟨h4, h5⟩
        exact ⟨⟨h4, h5 x (List.mem_cons_self ..)⟩, fun y hy => h5 y (List.mem_cons_of_mem _ hy)⟩
/-- What rules say: 2, if one that speaks denies; 0, if none speaks; 2 at most. -/
theorem says_facts {l : List R} (h : ∀ x ∈ l, RuOk x) (a b : Nat) : says l a b ≤ 2 ∧ (says l a b = 2 ↔ ∃ x ∈ l, sp x.1 a b = true ∧ x.2 = 2) ∧ (says l a b = 0 ↔ ∀ x ∈ l, sp x.1 a b = false) := by
  obtain ⟨h1, h2, h3⟩ := fold_says a b l 0 (by omega) (fun x hx => (h x hx).2)
  refine ⟨h1, ?_, ?_⟩
  · unfold says; rw [h2]; simp
  · unfold says; rw [h3]; simp
theorem put_of {l : List R} {k v : Nat} {x : R} : x ∈ put l k v ↔ (x ∈ l ∧ x.1 ≠ k) ∨ x = (k, v) := by
  unfold put lo hi
  simp only [List.mem_append, List.mem_cons, List.mem_filter, decide_eq_true_eq]
  constructor
  · rintro (⟨h1, h2⟩ | h | ⟨h1, h2⟩)
    · exact .inl ⟨h1, by omega⟩
    · exact .inr h
    · exact .inl ⟨h1, by omega⟩
  · rintro (⟨h1, h2⟩ | h)
    · by_cases e : x.1 < k
      · exact .inl ⟨h1, e⟩
      · exact .inr (.inr ⟨h1, by omega⟩)
    · exact .inr (.inl h)
theorem put_ok {l : List R} (h : ∀ x ∈ l, RuOk x) {k v : Nat} (hk : k < 4294967296) (hv : v = 1 ∨ v = 2) : ∀ x ∈ put l k v, RuOk x := fun x hx => by
  rcases put_of.1 hx with ⟨hx, _⟩ | rfl
  · exact h x hx
  · exact ⟨hk, hv⟩
/-- A rule put in that does not speak of somebody: what they are told stays. -/
theorem says_other {l : List R} (h : ∀ x ∈ l, RuOk x) {k v : Nat} (hk : k < 4294967296) (hv : v = 1 ∨ v = 2) (a b : Nat) (hs : sp k a b = false) : says (put l k v) a b = says l a b := by
  obtain ⟨h1, h2, h3⟩ := says_facts h a b
  obtain ⟨g1, g2, g3⟩ := says_facts (l := put l k v) (put_ok h hk (hv)) a b
  have e2 : says (put l k v) a b = 2 ↔ says l a b = 2 := by
    rw [g2, h2]
    constructor
    · rintro ⟨x, hx, hx2⟩
      rcases put_of.1 hx with ⟨hx, _⟩ | rfl
      · exact ⟨x, hx, hx2⟩
      · rw [hs] at hx2; cases hx2.1
    · rintro ⟨x, hx, hx2⟩
      refine ⟨x, put_of.2 (.inl ⟨hx, fun e => ?_⟩), hx2⟩
      rw [e, hs] at hx2; cases hx2.1
  have e0 : says (put l k v) a b = 0 ↔ says l a b = 0 := by
    rw [g3, h3]
    constructor
    · intro g x hx
      by_cases e : x.1 = k
      · rw [e]; exact hs
      · exact g x (put_of.2 (.inl ⟨hx, e⟩))
    · intro g x hx
      rcases put_of.1 hx with ⟨hx, _⟩ | rfl
      · exact g x hx
      · exact hs
  omega
/-- A rule put in that speaks, and denies. -/
theorem says_deny {l : List R} (h : ∀ x ∈ l, RuOk x) {k : Nat} (hk : k < 4294967296) (a b : Nat) (hs : sp k a b = true) : says (put l k 2) a b = 2 := by
  obtain ⟨_, g2, _⟩ := says_facts (l := put l k 2) (put_ok h hk (.inr rfl)) a b
  exact g2.2 ⟨(k, 2), put_of.2 (.inr rfl), hs, rfl⟩
/-- A rule put in that speaks, and allows: who was not denied is allowed; who was denied still is, or the rule that was there denied. -/
theorem says_allow {l : List R} (hu : Up l) (h : ∀ x ∈ l, RuOk x) {k : Nat} (hk : k < 4294967296) (a b : Nat) (hs : sp k a b = true) :
    (says l a b ≠ 2 → says (put l k 1) a b = 1) ∧ (says l a b = 2 → says (put l k 1) a b = 2 ∨ (Tb.get l k = some 2 ∧ says (put l k 1) a b = 1)) := by
  obtain ⟨h1, h2, h3⟩ := says_facts h a b
  obtain ⟨g1, g2, g3⟩ := says_facts (l := put l k 1) (put_ok h hk (.inl rfl)) a b
  have hn : says (put l k 1) a b ≠ 0 := fun e => by
    have := g3.1 e (k, 1) (put_of.2 (.inr rfl))
    rw [hs] at this; cases this
  refine ⟨fun hl => ?_, fun hl => ?_⟩
  · have : says (put l k 1) a b ≠ 2 := fun e => by
      obtain ⟨x, hx, hx2⟩ := g2.1 e
      rcases put_of.1 hx with ⟨hx, _⟩ | rfl
      · exact hl (h2.2 ⟨x, hx, hx2⟩)
      · exact absurd hx2.2 (by simp)
    omega
  · by_cases e : says (put l k 1) a b = 2
    · exact .inl e
    · refine .inr ⟨?_, by omega⟩
      obtain ⟨x, hx, hx2⟩ := h2.1 hl
      by_cases ek : x.1 = k
      · exact get_of hu (by have : x = (k, 2) := Prod.ext ek hx2.2; rw [← this]; exact hx)
      · exact absurd (g2.2 ⟨x, put_of.2 (.inl ⟨hx, ek⟩), hx2⟩) e
end Go.Proofs.YtljhcegkekdjgaaDoor
