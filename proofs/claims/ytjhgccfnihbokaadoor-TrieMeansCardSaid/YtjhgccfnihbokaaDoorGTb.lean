/- The document's own answers: two answers that are the same, a word, a power, whether a prefix matches. The document's own answer on a look-up: the longest prefix that matches. The document's own answer on whether rows may be a table's. Lists of rows that rise: what the document's With leaves; a key's place and its value. The document's own answer on what an operation does that fits: a hop that is turned (the rest is under way). The document's own answer on what an operation does that fits: what is taken out, put in anew, refused. The document's own answer on what an operation does that fits: what is taken out, put in anew, refused. The document's own answer on what a look-up does that fits. The document's own answer on what an operation does that fits, in one. The document's own answer on what an operation does (under way). The document's own answer on what an operation does that fits, in new memory. The document's own answer on what an operation does, of whatever config, rows and operation. -/
import Derived.Test.YtjhgccfnihbokaaDoorGRow
import Derived.Test.YtjhgccfnihbokaaDoorGMath
import Derived.Test.YtjhgccfnihbokaaDoorGOld
import Derived.Deep.RegionHeld3
import Derived.Deep.RegionWith
import Derived.Deep.DeepCutAuto
import Derived.Test.YtjhgccfnihbokaaDoorGOpRef
namespace Go.Proofs.YtjhgccfnihbokaaDoor
open Go.RowKit Tb
/-- Does the prefix of a node match a key of n bits? -/
def matchB (n key k : Nat) : Bool := decide (k = 2 ^ k.log2 + key / 2 ^ (n - k.log2))
theorem log2_le_of {n k : Nat} (hk : 1 ≤ k) (h : k < 2 ^ (n + 1)) : k.log2 ≤ n := by
  have := (Nat.log2_lt (by omega : k ≠ 0)).2 h
  omega
theorem log2_self {k : Nat} (hk : 1 ≤ k) : 2 ^ k.log2 ≤ k := Nat.log2_self_le (by omega)

end Go.Proofs.YtjhgccfnihbokaaDoor

namespace Go.Proofs.YtjhgccfnihbokaaDoor
open Go.RowKit Tb Pt

/-- The best row of the first j: where it stands; -1: none. -/
def Best (l : List R) (n key j : Nat) (b : Int) : Prop :=
  (b = -1 ∧ ∀ i, (h : i < l.length) → i < j → matchB n key l[i].1 = false) ∨
  (∃ m : Nat, b = m ∧ ∃ hm : m < l.length, m < j ∧ matchB n key l[m].1 = true ∧ ∀ i, (h : i < l.length) → i < j → matchB n key l[i].1 = true → l[i].1.log2 ≤ l[m].1.log2)
theorem best_zero (l : List R) (n key : Nat) : Best l n key 0 (-1) := .inl ⟨rfl, fun i _ h => by omega⟩
theorem best_skip {l : List R} {n key j : Nat} {b : Int} (h : Best l n key j b) (hj : j < l.length) (hm : matchB n key l[j].1 = false) : Best l n key (j + 1) b := by
  rcases h with ⟨h1, h2⟩ | ⟨m, h1, h2, h3, h4, h5⟩
  · refine .inl ⟨h1, fun i hi hlt => ?_⟩
    by_cases e : i = j
    · subst e; exact hm
    · exact h2 i hi (by omega)
  · refine .inr ⟨m, h1, h2, by omega, h4, fun i hi hlt hmi => ?_⟩
    by_cases e : i = j
    · subst e; rw [hm] at hmi; cases hmi
    · exact h5 i hi (by omega) hmi
theorem best_first {l : List R} {n key j : Nat} (h : Best l n key j (-1)) (hj : j < l.length) (hm : matchB n key l[j].1 = true) : Best l n key (j + 1) (j : Nat) := by
  rcases h with ⟨_, h2⟩ | ⟨m, h1, _⟩
  · refine .inr ⟨j, rfl, hj, by omega, hm, fun i hi hlt hmi => ?_⟩
    by_cases e : i = j
    · subst e; exact Nat.le_refl _
    · have := h2 i hi (by omega); rw [this] at hmi; cases hmi
  · omega
theorem best_more {l : List R} {n key j m : Nat} (h : Best l n key j (m : Nat)) (hj : j < l.length) (hml : m < l.length) (hm : matchB n key l[j].1 = true) (hg : l[m].1.log2 < l[j].1.log2) : Best l n key (j + 1) (j : Nat) := by
  rcases h with ⟨h1, _⟩ | ⟨m', h1, h2, h3, h4, h5⟩
  · omega
  · obtain rfl : m = m' := by omega
    refine .inr ⟨j, rfl, hj, by omega, hm, fun i hi hlt hmi => ?_⟩
    by_cases e : i = j
    · subst e; exact Nat.le_refl _
    · have := h5 i hi (by omega) hmi; omega
theorem best_less {l : List R} {n key j m : Nat} (h : Best l n key j (m : Nat)) (hj : j < l.length) (hml : m < l.length) (hg : ¬ l[m].1.log2 < l[j].1.log2) : Best l n key (j + 1) (m : Nat) := by
  rcases h with ⟨h1, _⟩ | ⟨m', h1, h2, h3, h4, h5⟩
  · omega
  · obtain rfl : m = m' := by omega
    refine .inr ⟨m, rfl, h2, by omega, h4, fun i hi hlt hmi => ?_⟩
    by_cases e : i = j
    · subst e; omega
    · exact h5 i hi (by omega) hmi

/-- A row of the prefix of length e that matches. -/
theorem match_at {n key e k : Nat} (he : e ≤ n) (hkey : key < 2 ^ n) (hk : k = 2 ^ e + key / 2 ^ (n - e)) : k.log2 = e ∧ matchB n key k = true := by
  have h1 : key / 2 ^ (n - e) < 2 ^ e := by
    rw [Nat.div_lt_iff_lt_mul (Nat.two_pow_pos _), ← Nat.pow_add, show e + (n - e) = n by omega]; exact hkey
  have h2 : k.log2 = e := by
    have hp := Nat.two_pow_pos e
    generalize key / 2 ^ (n - e) = a at *
    rw [Nat.log2_eq_iff (by omega), Nat.pow_succ]
    omega
  exact ⟨h2, decide_eq_true (by rw [h2]; exact hk)⟩
theorem seek_of_none {l : List R} {n key : Nat} (hkey : key < 2 ^ n) (h : Best l n key l.length (-1)) : seek l n key n = none := by
  rcases h with ⟨_, h2⟩ | ⟨m, h1, _⟩
  · refine seek_none fun e he => get_none_of fun x hx hxe => ?_
    obtain ⟨i, hi, rfl⟩ := List.getElem_of_mem hx
    have := h2 i hi hi
    rw [(match_at he hkey hxe).2] at this
    cases this
  · omega
theorem seek_of_best {l : List R} {n key m : Nat} (hu : Up l) (hkey : key < 2 ^ n) (hk : ∀ x ∈ l, 1 ≤ x.1 ∧ x.1 < 2 ^ (n + 1)) (h : Best l n key l.length (m : Nat)) (hm : m < l.length) : seek l n key n = some l[m].2 := by
  rcases h with ⟨h1, _⟩ | ⟨m', h1, h2, h3, h4, h5⟩
  · omega
  · obtain rfl : m = m' := by omega
    have hmem : l[m] ∈ l := List.getElem_mem hm
    have hd := log2_le_of (hk _ hmem).1 (hk _ hmem).2
    have he : l[m].1 = 2 ^ l[m].1.log2 + key / 2 ^ (n - l[m].1.log2) := of_decide_eq_true h4
    refine seek_some (d := l[m].1.log2) hd (by rw [← he]; exact get_of hu hmem) fun e g1 g2 => get_none_of fun x hx hxe => ?_
    obtain ⟨i, hi, rfl⟩ := List.getElem_of_mem hx
    have := match_at g2 hkey hxe
    have := h5 i hi hi this.2
    omega

/-- What a look-up answers. -/
def lookC (s : Option Nat) : Int := match s with | some _ => 0 | none => 6
def lookV (s : Option Nat) : Int := match s with | some v => ((v + 1) % 4294967296 : Nat) | none => 0
end Go.Proofs.YtjhgccfnihbokaaDoor

namespace Go.Proofs.YtjhgccfnihbokaaDoor
open Go.RowKit Tb Pt

/-- May a row be, where a memory's places are z at most? -/
def RowOk (z : Nat) (x : R) : Prop := 1 ≤ x.1 ∧ x.1 < z ∧ x.2 ≤ 2147483647
instance (z : Nat) (x : R) : Decidable (RowOk z x) := by unfold RowOk; infer_instance
/-- May rows be a table's? -/
def IsTab (c : Cf) (l : List R) : Prop := Ok c ∧ c.obj = 1 ∧ (l.length : Int) ≤ c.cap ∧ Up l ∧ ∀ x ∈ l, RowOk (sz c) x
instance (c : Cf) (l : List R) : Decidable (IsTab c l) := by unfold IsTab; infer_instance
def isB (c : Cf) (l : List R) : Bool := decide (IsTab c l)
theorem isB_false {c : Cf} {l : List R} (h : ¬ IsTab c l) : isB c l = false := decide_eq_false h
theorem isB_true {c : Cf} {l : List R} (h : IsTab c l) : isB c l = true := decide_eq_true h

end Go.Proofs.YtjhgccfnihbokaaDoor

namespace Go.Proofs.YtjhgccfnihbokaaDoor
open Go.RowKit Tb

/-- What an operation does that fits: the rows, the code, the word. -/
def doneR (n cap : Nat) (l : List R) (k a b c : Nat) : List R × Int × Int :=
  if k = 3 then (l, (match seek l n a n with | some _ => 0 | none => 6), (match seek l n a n with | some v => (((v + 1) % 4294967296 : Nat) : Int) | none => 0))
  else if k = 1 then (match Tb.get l (2 ^ b + a) with
    | some v => (put l (2 ^ b + a) c, 0, (((v + 1) % 4294967296 : Nat) : Int))
    | none => if cap ≤ l.length then (l, 9, 0) else (put l (2 ^ b + a) c, 0, 0))
  else (match Tb.get l (2 ^ b + a) with
    | some v => (cut l (2 ^ b + a), 0, (((v + 1) % 4294967296 : Nat) : Int))
    | none => (l, 6, 0))
end Go.Proofs.YtjhgccfnihbokaaDoor

namespace Go.Proofs.YtjhgccfnihbokaaDoor
open Go.RowKit Tb Pt Opn
end Go.Proofs.YtjhgccfnihbokaaDoor

namespace Go.Proofs.YtjhgccfnihbokaaDoor
open Go.RowKit Tb Pt Opn
end Go.Proofs.YtjhgccfnihbokaaDoor

namespace Go.Proofs.YtjhgccfnihbokaaDoor
open Go.RowKit Tb Pt Opn
end Go.Proofs.YtjhgccfnihbokaaDoor

namespace Go.Proofs.YtjhgccfnihbokaaDoor
open Go.RowKit Tb Pt Opn
end Go.Proofs.YtjhgccfnihbokaaDoor

namespace Go.Proofs.YtjhgccfnihbokaaDoor
open Go.RowKit Tb Pt Opn

/-- What a call leaves that answers rows and a result. -/
def Did (s : List R × Int × Int) (w : World) (e : Ending) (w' : World) : Prop := ∃ u, e = .returned (.tuple #[u, resv s.2.1 s.2.2 none 0 0]) ∧ IsRV w' u s.1 ∧ Below w.heap.size w w'

end Go.Proofs.YtjhgccfnihbokaaDoor

namespace Go.Proofs.YtjhgccfnihbokaaDoor
open Go.RowKit Tb Pt Opn

/-- What Do answers. -/
def doR (c : Cf) (l : List R) (o : O) : List R × Int × Int :=
  if ¬ (Ok c ∧ c.obj = 1) then ([], 0, 0) else if ¬ IsTab c l then ([], 0, 0) else if chk c o ≠ 0 then (l, chk c o, 0) else doneR c.bits.toNat c.cap.toNat l o.k o.a o.b o.c
def doE (c : Cf) (l : List R) : Int := if ¬ (Ok c ∧ c.obj = 1) then 40 else if ¬ IsTab c l then 2 else 0

end Go.Proofs.YtjhgccfnihbokaaDoor

namespace Go.Proofs.YtjhgccfnihbokaaDoor
open Go.RowKit Tb Pt Opn

theorem doneR_len {n cap : Nat} {l : List R} (k a b c : Nat) (hu : Up l) : (doneR n cap l k a b c).1.length ≤ l.length + 1 := by
  have h1 := len_put (2 ^ b + a) c hu
  have h2 := cut_length l (2 ^ b + a)
  unfold doneR
  (repeat' split) <;> simp only <;> (try (split at h1)) <;> omega

end Go.Proofs.YtjhgccfnihbokaaDoor

namespace Go.Proofs.YtjhgccfnihbokaaDoor
open Go.RowKit Tb Pt Opn

theorem route_kind {k : Nat} (h : (objAt k : Int) = 1) : 1 ≤ k ∧ k ≤ 3 := by
  unfold objAt at h
  by_cases h0 : k = 0
  · rw [if_pos h0] at h; omega
  · rw [if_neg h0] at h
    by_cases h3 : k ≤ 3
    · omega
    · rw [if_neg h3] at h
      (repeat' split at h) <;> omega

end Go.Proofs.YtjhgccfnihbokaaDoor
