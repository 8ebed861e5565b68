/- Places in trees: plain numbers. -/
import Derived.Lib.BitFns
import Derived.WalkKit
namespace Go.Proofs.Ytpepahecjkkpbaa.Rk
/-- OK or ErrArg. -/
def err (b : Bool) : Int := if b then 0 else 2
/-- What is answered where there is an answer. -/
def val (b : Bool) (x : Int) : Int := if b then x else 0

theorem val_t {b : Bool} {x y : Int} (h : b = true) (e : x = y) : x = val b y := by subst h; exact e
theorem val_f {b : Bool} {y : Int} (h : b = false) : 0 = val b y := by subst h; rfl
theorem err_t {b : Bool} (h : b = true) : 0 = err b := by subst h; rfl
theorem err_f {b : Bool} (h : b = false) : 2 = err b := by subst h; rfl

/-- Is there such a node? -/
def isN (n : Int) : Bool := decide (1 ≤ n ∧ n ≤ 127)
theorem isN_true {n : Int} (h : isN n = true) : 1 ≤ n ∧ n ≤ 127 := of_decide_eq_true h
theorem isN_false {n : Int} (h : isN n = false) : ¬ (1 ≤ n ∧ n ≤ 127) := of_decide_eq_false h

/-- Is there such a place at that length? -/
def okP (l p : Int) : Bool := decide (0 ≤ l ∧ l ≤ 6 ∧ 0 ≤ p ∧ p < ((2 ^ l.toNat : Nat) : Int))
/-- Its node. -/
def node (l p : Int) : Int := ((2 ^ l.toNat : Nat) : Int) + p
/-- A node's depth. -/
def dep (n : Int) : Int := (n.toNat.log2 : Nat)
/-- Is there a node so many levels above? -/
def okO (n k : Int) : Bool := isN n && decide (0 ≤ k ∧ k ≤ dep n)
/-- That node. -/
def over (n k : Int) : Int := ((n.toNat / 2 ^ k.toNat : Nat) : Int)

theorem okO_t {n k : Int} (h : isN n = true) (h0 : 0 ≤ k) (h1 : k ≤ dep n) : okO n k = true := by unfold okO; rw [h]; simpa using ⟨h0, h1⟩
theorem okO_f {n k : Int} (h1 : ¬ (0 ≤ k ∧ k ≤ dep n)) : okO n k = false := by
  unfold okO
  cases isN n with
  | false => rfl
  | true => exact decide_eq_false h1
theorem over_eq {n k : Int} (h0 : 0 ≤ n) : n / 2 ^ k.toNat = over n k := by
  unfold over
  obtain ⟨m, rfl⟩ : ∃ m : Nat, n = m := ⟨n.toNat, by omega⟩
  simp
theorem okP_t {l p : Int} (h0 : 0 ≤ l) (h6 : l ≤ 6) (h1 : 0 ≤ p) (h2 : p < ((2 ^ l.toNat : Nat) : Int)) : okP l p = true := decide_eq_true ⟨h0, h6, h1, h2⟩
theorem okP_f {l p : Int} (h : ¬ (0 ≤ l ∧ l ≤ 6 ∧ 0 ≤ p ∧ p < ((2 ^ l.toNat : Nat) : Int))) : okP l p = false := decide_eq_false h

theorem okP_f2 {l p : Int} (h : ¬ (0 ≤ p ∧ p < ((2 ^ l.toNat : Nat) : Int))) : okP l p = false := okP_f fun g => h g.2.2

theorem bitLen_small : ∀ n : Fin 128, 1 ≤ n.val → Lib.bitLen n.val = n.val.log2 + 1 := by decide +kernel
open Go.RowKit in
theorem tab_small : ∀ n : Fin 128, wrap64 (wrap64 ((Lib.len8tab[n.val]'(by have := n.2; have e : Lib.len8tab.size = 256 := (by decide +kernel); omega)).toNat : Int)) = (Lib.bitLen n.val : Int) := by decide +kernel
theorem log2_lt : ∀ n : Fin 128, n.val.log2 < 7 := by decide +kernel
theorem dep_bounds {n : Int} (h : isN n = true) : 0 ≤ dep n ∧ dep n ≤ 6 := by
  have := isN_true h
  have := log2_lt ⟨n.toNat, by omega⟩
  unfold dep
  simp only at this
  omega
theorem len_dep {x : Int} (h : isN x = true) : (Lib.bitLen x.toNat : Int) = dep x + 1 := by
  have := isN_true h
  have e := bitLen_small ⟨x.toNat, by omega⟩ (by simp only; omega)
  simp only at e
  unfold dep
  omega
theorem log2_half (n : Nat) (h : 2 ≤ n) : n.log2 = (n / 2).log2 + 1 := by
  rw [Nat.log2_def, if_pos h]
theorem log2_one : (1 : Nat).log2 = 0 := by decide

theorem half (N j : Nat) : N / 2 ^ (j + 1) = N / 2 ^ j / 2 := by rw [Nat.pow_succ, ← Nat.div_div_eq_div_mul]
theorem okO_nat {n k : Int} (h : okO n k = true) : ∃ N K : Nat, n = N ∧ k = K ∧ N ≤ 127 ∧ K ≤ 6 := by
  unfold okO at h
  rw [Bool.and_eq_true] at h
  have a := isN_true h.1
  have b := of_decide_eq_true h.2
  have c := dep_bounds h.1
  exact ⟨n.toNat, k.toNat, by omega, by omega, by omega, by omega⟩
theorem okO_lo {n k : Int} (h : okO n k = true) : 0 ≤ k := by
  unfold okO at h
  rw [Bool.and_eq_true] at h
  exact (of_decide_eq_true h.2).1
theorem okO_hi {n k : Int} (h : okO n k = true) : k ≤ dep n := by
  unfold okO at h
  rw [Bool.and_eq_true] at h
  exact (of_decide_eq_true h.2).2
theorem pow_le (l : Nat) (h : l ≤ 6) : 2 ^ l ≤ 64 := Nat.pow_le_pow_right (n := 2) (by decide) h
/-- Two to the power of a length. -/
theorem two_cases {l : Int} (h0 : 0 ≤ l) (h6 : l ≤ 6) : l = 0 ∨ l = 1 ∨ l = 2 ∨ l = 3 ∨ l = 4 ∨ l = 5 ∨ l = 6 := by omega
end Go.Proofs.Ytpepahecjkkpbaa.Rk
