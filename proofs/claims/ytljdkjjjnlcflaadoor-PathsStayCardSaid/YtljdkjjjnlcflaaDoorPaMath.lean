/- Paths: plain numbers. A node's key, its parent's, the rows that a setting makes. -/
import Derived.Test.YtljdkjjjnlcflaaDoorTbMath
import Derived.Test.YtljdkjjjnlcflaaDoorOpMath
namespace Go.Proofs.YtljdkjjjnlcflaaDoor
open Tb Pt Opn

/-- A key of names. -/
def key3 (a b c : Nat) : Nat := a * 4294967296 + b * 65536 + c
/-- Is it a path's? -/
def IsPa (k : Nat) : Prop := 1 ≤ k / 4294967296 ∧ k / 4294967296 ≤ 65535 ∧ (k / 65536 % 65536 ≠ 0 ∨ k % 65536 = 0)
instance (k : Nat) : Decidable (IsPa k) := by unfold IsPa; infer_instance
/-- The parent's key; 0: none. -/
def par (k : Nat) : Nat := if k % 65536 ≠ 0 then k - k % 65536 else if k / 65536 % 65536 ≠ 0 then k - k % 4294967296 else 0
/-- The key of an operation that fits. -/
def pth (o : O) : Nat := o.a % 65536 * 4294967296 + o.a / 65536 * 65536 + o.b
theorem par_lt {k : Nat} (h : k ≠ 0) : par k < k := by unfold par; split <;> (try split) <;> omega
theorem par_le (k : Nat) : par k ≤ k := by unfold par; split <;> (try split) <;> omega
theorem par_three (k : Nat) : par (par (par k)) = 0 := by unfold par; repeat' split
                                                          all_goals omega
theorem isPa_par {k : Nat} (h : IsPa k) (hp : par k ≠ 0) : IsPa (par k) := by
  unfold par at hp ⊢
  unfold IsPa at *
  split at hp
  · rename_i h1
    rw [if_pos h1] at *
    omega
  · rename_i h1
    rw [if_neg h1] at *
    split at hp
    · rename_i h2
      rw [if_pos h2] at *
      omega
    · exact absurd rfl hp
theorem pth_path {o : O} (ho : Wf o) (h : Path o.a o.b) : IsPa (pth o) ∧ pth o ≠ 0 ∧ pth o < 281474976710656 := by
  unfold Path at h
  unfold Wf at ho
  unfold IsPa pth
  obtain ⟨x, hx⟩ : ∃ x, o.a % 65536 = x := ⟨_, rfl⟩
  obtain ⟨y, hy⟩ : ∃ y, o.a / 65536 = y := ⟨_, rfl⟩
  have h1 : x < 65536 := by omega
  have h2 : y < 65536 := by omega
  rw [hx, hy] at h ⊢
  have e1 : (x * 4294967296 + y * 65536 + o.b) / 4294967296 = x := by omega
  have e2 : (x * 4294967296 + y * 65536 + o.b) / 65536 = x * 65536 + y := by omega
  have e3 : (x * 4294967296 + y * 65536 + o.b) % 65536 = o.b := by omega
  rw [e1, e2, e3]
  refine ⟨⟨by omega, by omega, by omega⟩, by omega, by omega⟩
/-- A path is of its numbers alone. -/
theorem pth_same {o p : O} (ho : Wf o) (hp : Wf p) (h1 : Path o.a o.b) (h2 : Path p.a p.b) (h : pth o = pth p) : o.a = p.a ∧ o.b = p.b := by
  unfold Path at h1 h2
  unfold Wf at ho hp
  unfold pth at h
  omega

/-- A row that may stand in a tree. -/
def PaOk (x : R) : Prop := IsPa x.1 ∧ x.2 ≤ 2147483648
instance (x : R) : Decidable (PaOk x) := by unfold PaOk; infer_instance
/-- Each row's parent has a row. -/
def Kin (l : List R) (k : Nat) : Prop := par k ≠ 0 → (Tb.get l (par k)).isSome = true
instance (l : List R) (k : Nat) : Decidable (Kin l k) := by unfold Kin; infer_instance
/-- Rows that may be a tree's. -/
def IsPt (c : Cf) (l : List R) : Prop := Ok c ∧ c.obj = 4 ∧ (l.length : Int) ≤ c.cap ∧ Up l ∧ ∀ x ∈ l, PaOk x ∧ Kin l x.1
instance (c : Cf) (l : List R) : Decidable (IsPt c l) := by unfold IsPt; infer_instance
def ptB (c : Cf) (l : List R) : Bool := decide (IsPt c l)
theorem ptB_false {c : Cf} {l : List R} (h : ¬ IsPt c l) : ptB c l = false := decide_eq_false h
theorem ptB_true {c : Cf} {l : List R} (h : IsPt c l) : ptB c l = true := decide_eq_true h

/-- Rows in which a node is. -/
def ens (l : List R) (k : Nat) : List R := if (Tb.get l k).isSome = true then l else put l k 0
/-- .. and those above it, so many levels up. -/
def mk : Nat → List R → Nat → List R
  | 0, l, _ => l
  | n + 1, l, k => if k = 0 then l else mk n (ens l k) (par k)
theorem mk_zero (n : Nat) (l : List R) : mk n l 0 = l := by cases n <;> simp [mk]
theorem up_ens {l : List R} (h : Up l) (k : Nat) : Up (ens l k) := by unfold ens; split; exact h; exact up_put _ _ h
theorem len_ens {l : List R} (h : Up l) (k : Nat) : (ens l k).length ≤ l.length + 1 ∧ l.length ≤ (ens l k).length := by
  unfold ens
  split
  · omega
  · rename_i hg; rw [len_put _ _ h, if_neg hg]; omega
theorem len_mk : ∀ (n : Nat) (l : List R) (k : Nat), Up l → (mk n l k).length ≤ l.length + n ∧ l.length ≤ (mk n l k).length
  | 0, l, k, _ => by simp [mk]
  | n + 1, l, k, h => by
    rw [mk]
    split
    · omega
    · have h1 := len_ens h k
      have h2 := len_mk n (ens l k) (par k) (up_ens h k)
      omega
theorem up_mk : ∀ (n : Nat) (l : List R) (k : Nat), Up l → Up (mk n l k)
  | 0, l, k, h => by rw [mk]; exact h
  | n + 1, l, k, h => by rw [mk]; split; exact h; exact up_mk n _ _ (up_ens h k)
/-- Does a node stand below another one? -/
def usedB (l : List R) (k : Nat) : Bool := l.any fun x => decide (par x.1 = k)

/-- What an operation does that fits: the rows, the code, the answer's number. p: its path's key. -/
def doneP (cap : Nat) (l : List R) (k p c : Nat) : List R × Int × Int :=
  if k = 12 then (if cap < (mk 3 l p).length then (l, 9, 0) else (put (mk 3 l p) p (c + 1), 0, (((Tb.get (mk 3 l p) p).getD 0 : Nat) : Int)))
  else match Tb.get l p with
    | none => (l, 6, 0)
    | some v => if k = 14 then (if v = 0 then (l, 6, 0) else (l, 0, ((v : Nat) : Int)))
      else if usedB l p = true then (l, 90, 0) else (cut l p, 0, ((v : Nat) : Int))
end Go.Proofs.YtljdkjjjnlcflaaDoor
